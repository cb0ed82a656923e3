/- Contracts of auguryref4's text, Parse and Print; an argument that is an item, opened. -/
import Derived.Test.YtcpbbkpfickfiaaDoorSyRefA
import Derived.Test.YtcpbbkpfickfiaaDoorSnTop
import Derived.Test.YtcpbbkpfickfiaaDoorShell
set_option linter.unusedVariables false
set_option linter.unusedSimpArgs false
namespace Go.Proofs.YtcpbbkpfickfiaaDoor
section
open Go.RowKit
set_option maxRecDepth 100000 in
set_option maxHeartbeats 20000000 in
theorem rtext_any (i : Sy.It) (h64 : It64 i) (hs : Short i) (w : World) :
    Calls Tryd.prog 27 #[ItV i] w (RetB (.string (strOfNums (Sy.text i))) w) := by
  obtain ⟨kd, n, sec, nm, ins⟩ := i
  obtain ⟨h1, h2, h3, h4, h5⟩ := h64
  obtain ⟨s1, s2⟩ := hs
  simp only at h1 h2 h3 h4 h5 s1 s2
  have z1 := digits_len n; have z2 := digits_len ins.d
  have z3 : (strOfNums nm).size ≤ 50000 := by rw [strOfNums_size]; exact s1
  have z4 : (strOfNums (Sy.kindT sec)).size ≤ 7 := by cases sec <;> decide
  have hdg := fun W => rdigits_any n h1 W
  have hdd := fun W => rdigits_any ins.d h3 W
  have hit := fun W => rins_text ins h3 h4 h5 (by omega) W
  have HDG := Lib.hid hdg; have HDD := Lib.hid hdd; have HIT := Lib.hid hit
  clear h1 h2 h3 h4 h5 s1 s2 hdg hdd hit
  have hB := heap_alloc_new w (.cells (ItC ⟨kd, n, sec, nm, ins⟩) 29)
  have hw := upA (up0 w) (.cells (ItC ⟨kd, n, sec, nm, ins⟩) 29)
  go_enter Tryd.func27, Tryd.ntmps27
  go_upto_region 2 with fail
  generalize w.alloc (.cells (ItC ⟨kd, n, sec, nm, ins⟩) 29) = W0 at *
  have c := fun k => cell_of_row _ _ k _ _ _ hB
  have hlt := (Array.getElem?_eq_some_iff.1 hB).1
  go_upto_if 5 with fail
  go_cut [3] from 4 (fun v wx => v = .string (strOfNums (Sy.kindT sec)) ∧ wx = W0)
  case first =>
    cases sec
    · go_wp2_with fail
      go_meet
      case rel => exact ⟨rfl, rfl⟩
    · go_wp2_with fail
      go_meet
      case rel => exact ⟨rfl, rfl⟩
  case rest =>
  obtain ⟨rfl, rfl⟩ := hcut
  go_upto_region 5 with fail
  by_cases k1 : kd = 1
  · subst k1
    have qk := tt_1 n sec nm ins
    go_wp2_with (go_at_call 43; refine (HDG.out _).mono ?_; rintro e w7 ⟨rfl, b7⟩)
    go_ret
    exact ⟨rfl, upT hw b7⟩
  have n1 : (kd == 1) = false := by simpa using k1
  by_cases k2 : kd = 2
  · subst k2
    have qk := tt_2 n sec nm ins
    go_wp2_with (go_at_call 43; refine (HDG.out _).mono ?_; rintro e w7 ⟨rfl, b7⟩)
    go_ret
    exact ⟨rfl, upT hw b7⟩
  have n2 : (kd == 2) = false := by simpa using k2
  by_cases k3 : kd = 3
  · subst k3
    have qk := tt_3 n sec nm ins
    go_wp2_with (go_at_call 43; refine (HDG.out _).mono ?_; rintro e w7 ⟨rfl, b7⟩)
    go_ret
    exact ⟨rfl, upT hw b7⟩
  have n3 : (kd == 3) = false := by simpa using k3
  by_cases k4 : kd = 4
  · subst k4
    have qk := tt_4 n sec nm ins
    go_wp2_with (go_at_call 43; refine (HDD.out _).mono ?_; rintro e w7 ⟨rfl, b7⟩)
    go_ret
    exact ⟨rfl, upT hw b7⟩
  have n4 : (kd == 4) = false := by simpa using k4
  by_cases k5 : kd = 5
  · subst k5
    have qk := tt_5 n sec nm ins
    go_wp2_with fail
    refine wp_region_noPanic ?_
    refine wp_region_held_drew (S := fun w' => w'.cell? ⟨w.heap.size, 1, none⟩ = some (.int .i64 n) ∧ w'.cell? ⟨w.heap.size, 3, none⟩ = some (.string (strOfNums nm))) (by kernel_rfl) ?_ (fun hHeld => ?_)
    · exact ⟨c 1, c 3⟩
    refine wpAnyH_take (i := 0) (oi := _) (v := ?_) rfl (by kernel_rfl) (by kernel_rfl) (by kernel_rfl) (fun _ _ _ h => h) (Or.inl ⟨by kernel_rfl, ?_⟩) (by assumption) ?_
    rotate_left
    · (intro w hSw; (try dsimp only at hSw); go_simp; try (with_reducible rfl))
    (try simp only [List.getElem_toArray, List.getElem_cons_succ, List.getElem_cons_zero, Act.put, List.setIfInBounds_toArray, List.set_cons_zero, List.set_cons_succ])
    refine wpAnyH_take (i := 1) (oi := _) (v := ?_) rfl (by kernel_rfl) (by kernel_rfl) (by kernel_rfl) (fun _ _ _ h => h) (Or.inl ⟨by kernel_rfl, ?_⟩) (by assumption) ?_
    rotate_left
    · (intro w hSw; (try dsimp only at hSw); go_simp; try (with_reducible rfl))
    (try simp only [List.getElem_toArray, List.getElem_cons_succ, List.getElem_cons_zero, Act.put, List.setIfInBounds_toArray, List.set_cons_zero, List.set_cons_succ])
    refine wpAnyH_take (i := 2) (oi := _) (v := ?_) rfl (by kernel_rfl) (by kernel_rfl) (by kernel_rfl) (fun _ _ _ h => h) (Or.inl ⟨by kernel_rfl, ?_⟩) (by assumption) ?_
    rotate_left
    · (intro w hSw; (try dsimp only at hSw); go_simp; try (with_reducible rfl))
    (try simp only [List.getElem_toArray, List.getElem_cons_succ, List.getElem_cons_zero, Act.put, List.setIfInBounds_toArray, List.set_cons_zero, List.set_cons_succ])
    refine wpAnyH_take (i := 5) (oi := _) (v := ?_) rfl (by kernel_rfl) (by kernel_rfl) (by kernel_rfl) (fun _ _ _ h => h) (Or.inl ⟨by kernel_rfl, ?_⟩) (by assumption) ?_
    rotate_left
    · (intro w hSw; (try dsimp only at hSw); go_simp; try (with_reducible rfl))
    (try simp only [List.getElem_toArray, List.getElem_cons_succ, List.getElem_cons_zero, Act.put, List.setIfInBounds_toArray, List.set_cons_zero, List.set_cons_succ])
    refine wpAnyH_take (i := 6) (oi := _) (v := ?_) rfl (by kernel_rfl) (by kernel_rfl) (by kernel_rfl) (fun _ _ _ h => h) (Or.inl ⟨by kernel_rfl, ?_⟩) (by assumption) ?_
    rotate_left
    · (intro w hSw; (try dsimp only at hSw); go_simp; try (with_reducible rfl))
    (try simp only [List.getElem_toArray, List.getElem_cons_succ, List.getElem_cons_zero, Act.put, List.setIfInBounds_toArray, List.set_cons_zero, List.set_cons_succ])
    refine wpAnyH_take (i := 3) (oi := _) (v := ?_) rfl (by kernel_rfl) (by kernel_rfl) (by kernel_rfl) (fun _ _ _ h => h) (Or.inl ⟨by kernel_rfl, ?_⟩) (by assumption) ?_
    rotate_left
    · (intro w hSw; (try dsimp only at hSw); go_simp; (try rw [if_neg (by first | omega | (simp only [ByteArray.size_append]; omega) | (simp only [ByteArray.size_append, ByteArray.size]; simp; omega))]); try (with_reducible rfl))
    (try simp only [List.getElem_toArray, List.getElem_cons_succ, List.getElem_cons_zero, Act.put, List.setIfInBounds_toArray, List.set_cons_zero, List.set_cons_succ])
    refine wpAnyH_take (i := 4) (oi := _) (v := ?_) rfl (by kernel_rfl) (by kernel_rfl) (by kernel_rfl) (fun _ _ _ h => h) (Or.inl ⟨by kernel_rfl, ?_⟩) (by assumption) ?_
    rotate_left
    · (intro w hSw; (try dsimp only at hSw); go_simp; (try rw [if_neg (by first | omega | (simp only [ByteArray.size_append]; omega) | (simp only [ByteArray.size_append, ByteArray.size]; simp; omega))]); try (with_reducible rfl))
    (try simp only [List.getElem_toArray, List.getElem_cons_succ, List.getElem_cons_zero, Act.put, List.setIfInBounds_toArray, List.set_cons_zero, List.set_cons_succ])
    refine wpAnyH_ready (rs := [7]) (by kernel_rfl) (by simp) ?_
    refine AllReadyH.cons (o := _) rfl (fun K hK => ?_) AllReadyH.nil
    go_simp
    refine (HDG.out _).mono ?_
    rintro e w7 ⟨rfl, b7⟩
    have hw7 := upT hw.drew b7
    have hB7 := (b7.block _ (show _ < wc.drew.heap.size from hlt)).trans hB
    have c7 := fun k => cell_of_row _ _ k _ _ _ hB7
    first | refine hK.out _ _ ?_ (fun hHeld => ?_) | (go_wp2_with fail; refine hK.out _ _ ?_ (fun hHeld => ?_))
    · exact ⟨c7 1, c7 3⟩
    clear hK K
    (try simp only [List.getElem_toArray, List.getElem_cons_succ, List.getElem_cons_zero, Act.put, List.setIfInBounds_toArray, List.set_cons_zero, List.set_cons_succ])
    refine wpAnyH_take (i := 8) (oi := _) (v := ?_) rfl (by kernel_rfl) (by kernel_rfl) (by kernel_rfl) (fun _ _ _ h => h) (Or.inl ⟨by kernel_rfl, ?_⟩) (by assumption) ?_
    rotate_left
    · (intro w hSw; (try dsimp only at hSw); go_simp; (try rw [if_neg (by first | omega | (simp only [ByteArray.size_append]; omega) | (simp only [ByteArray.size_append, ByteArray.size]; simp; omega))]); try (with_reducible rfl))
    (try simp only [List.getElem_toArray, List.getElem_cons_succ, List.getElem_cons_zero, Act.put, List.setIfInBounds_toArray, List.set_cons_zero, List.set_cons_succ])
    refine wpAnyH_take (i := 9) (oi := _) (v := ?_) rfl (by kernel_rfl) (by kernel_rfl) (by kernel_rfl) (fun _ _ _ h => h) (Or.inl ⟨by kernel_rfl, ?_⟩) (by assumption) ?_
    rotate_left
    · (intro w hSw; (try dsimp only at hSw); go_simp; (try rw [if_neg (by first | omega | (simp only [ByteArray.size_append]; omega) | (simp only [ByteArray.size_append, ByteArray.size]; simp; omega))]); try (with_reducible rfl))
    (try simp only [List.getElem_toArray, List.getElem_cons_succ, List.getElem_cons_zero, Act.put, List.setIfInBounds_toArray, List.set_cons_zero, List.set_cons_succ])
    refine wpAnyH_done (by kernel_rfl) ?_ _
    refine NoPanic.normal ?_
    (try go_simp)
    go_wp2_with fail
    go_ret
    exact ⟨rfl, hw7⟩
  have n5 : (kd == 5) = false := by simpa using k5
  by_cases k6 : kd = 6
  · subst k6
    have qk := tt_6 n sec nm ins
    go_wp2_with fail
    go_ret
    exact ⟨rfl, hw⟩
  have n6 : (kd == 6) = false := by simpa using k6
  by_cases k7 : kd = 7
  · subst k7
    go_wp2_with (go_at_call 44; refine (HIT.out _).mono ?_; rintro e w7 ⟨rfl, b7⟩)
    go_ret
    exact ⟨rfl, upT hw b7⟩
  have n7 : (kd == 7) = false := by simpa using k7
  have hv : Sy.text ⟨kd, n, sec, nm, ins⟩ = [] := by
    unfold Sy.text
    simp only [if_neg k1, if_neg k2, if_neg k3, if_neg k4, if_neg k5, if_neg k6, if_neg k7]
  clear k1 k2 k3 k4 k5 k6 k7
  go_wp2_with fail
  go_ret
  exact ⟨by rw [hv]; rfl, hw⟩
set_option maxRecDepth 100000 in
set_option maxHeartbeats 20000000 in
theorem rparse_err (s : ByteArray) (w : World) (hs : s.size ≤ 1000000) (a : Nat) (hl : Lx.lxA 0 (Lx.runes s) = .error a) : Calls Tryd.prog 15 #[.string s] w (ParseP w (.error a)) := by
  have hline : ∀ W, Calls Tryd.prog 23 #[.string s] W (LineR (.error a) W) := fun W => by rw [← hl]; exact rline_any s W hs
  have HLINE := Lib.hid hline
  have hn := heap_alloc_new w (.cells (ItC Sy.t0) 29)
  have HN := Lib.hid hn
  clear hline hl hn
  go_enter Tryd.func15, Tryd.ntmps15
  go_wp2_with (first
    | (go_at_call 23; refine (HLINE.out _).mono ?_; intro e w1 h1; obtain ⟨rfl, hb1⟩ := h1.errT; have z1 := (hb1.block w.heap.size (by simp)).trans HN.out; have b1 := upT (upA (up0 w) _) hb1)
    | (refine wp_storeIt rfl _ _ rfl w.heap.size Sy.t0 rfl rfl _ _ z1 rfl ?_))
  (try simp only [Exit.inBlock, Exit.then])
  refine bodyPost_ret (resIt3 rfl _ _ _ _ _ _ rfl (setRow_heap _ _ _ _ _ _ z1)) rfl ?_
  exact ParseP.err (m := a) rfl rfl (upS b1 _ (by omega) _)
set_option maxRecDepth 100000 in
set_option maxHeartbeats 20000000 in
theorem rparse_nil (s : ByteArray) (w : World) (hs : s.size ≤ 1000000) (hl : Lx.lxA 0 (Lx.runes s) = .ok []) : Calls Tryd.prog 15 #[.string s] w (ParseP w (.ok Sy.t0)) := by
  have hline : ∀ W, Calls Tryd.prog 23 #[.string s] W (LineR (.ok []) W) := fun W => by rw [← hl]; exact rline_any s W hs
  have HLINE := Lib.hid hline
  have hn := heap_alloc_new w (.cells (ItC Sy.t0) 29)
  have HN := Lib.hid hn
  clear hline hl hn
  go_enter Tryd.func15, Tryd.ntmps15
  go_wp2_with (first
    | (go_at_call 23; refine (HLINE.out _).mono ?_; intro e w1 h1; obtain ⟨g, A, cap, rfl, _, hcap, _, hb1⟩ := h1.okT; have z1 := (hb1.block w.heap.size (by simp)).trans HN.out; have b1 := upT (upA (up0 w) _) hb1)
    | (refine wp_storeIt rfl _ _ rfl w.heap.size Sy.t0 rfl rfl _ _ z1 rfl ?_))
  (try simp only [Exit.inBlock, Exit.then])
  refine bodyPost_ret (resIt3 rfl _ _ _ _ _ _ rfl (setRow_heap _ _ _ _ _ _ z1)) rfl ?_
  exact ParseP.ok rfl rfl (upS b1 _ (by omega) _)
theorem LnS.start {W : World} {gT cap long : Nat} {ts : List Lx.Tk} (hT : TR W gT ts) (hp : 0 < ts.length) (hc : ts.length ≤ cap) (hl : ts.length ≤ 1000000) (ha : ∀ t ∈ ts, ∀ x ∈ t.text, 0 ≤ x ∧ x < 256) :
    LnS (W.alloc (.cells #[.slice (some ⟨gT, 0, none⟩) ts.length cap, .int .i64 0, .int .i64 (long : Int), .int .i64 (-1)] 67)) W.heap.size gT ts cap long ⟨0, -1⟩ := by
  have hg : gT < W.heap.size := (hT 0 ts[0] (by simp)).1
  exact ⟨heap_alloc_new _ _, hT.below (upA (up0 W) _), by omega, by simp; omega, hc, hl, Nat.zero_le _, ha⟩
/-- what Parse does behind the item -/
def after (ts : List Lx.Tk) (long : Nat) (s : Sy.St) : Sy.St := if s.bad < 0 ∧ s.k < ts.length then Sy.fail (Sy.tokAt ts long s.k).at_ s else s
theorem parseT_after {ts : List Lx.Tk} {long k : Nat} {i : Sy.It} {bad : Int} (hne : ts ≠ []) (hX : Sy.item ts long ⟨0, -1⟩ = (i, ⟨k, bad⟩)) :
    Sy.parseT ts long = if 0 ≤ (after ts long ⟨k, bad⟩).bad then .error (after ts long ⟨k, bad⟩).bad.toNat else .ok i := by
  unfold Sy.parseT
  rw [if_neg hne, hX]
  rfl
set_option maxRecDepth 100000 in
set_option maxHeartbeats 20000000 in
theorem rparse_some (s : ByteArray) (w : World) (hs : s.size ≤ 1000000) (ts : List Lx.Tk) (hne : ts ≠ []) (hl : Lx.lxA 0 (Lx.runes s) = .ok ts) (hasc : ∀ t ∈ ts, ∀ x ∈ t.text, 0 ≤ x ∧ x < 256) (hlen : ts.length ≤ 1000000) :
    Calls Tryd.prog 15 #[.string s] w (ParseP w (Sy.parseT ts (Lx.runes s).length)) := by
  have hline : ∀ W, Calls Tryd.prog 23 #[.string s] W (LineR (.ok ts) W) := fun W => by rw [← hl]; exact rline_any s W hs
  have hsig := fun W => rsigns_any s W hs
  have HLINE := Lib.hid hline; have HSIG := Lib.hid hsig
  obtain ⟨i, ⟨k, bad⟩, hX⟩ : ∃ i st, Sy.item ts (Lx.runes s).length ⟨0, -1⟩ = (i, st) := ⟨_, _, rfl⟩
  have HP := parseT_after hne hX
  have HX := Lib.hid hX
  obtain ⟨R, hR⟩ : ∃ R, R = Sy.parseT ts (Lx.runes s).length := ⟨_, rfl⟩
  rw [← hR] at HP ⊢
  have HPH := Lib.hid HP
  clear hX hR HP
  have hn := heap_alloc_new w (.cells (ItC Sy.t0) 29)
  have HN := Lib.hid hn
  have hpos : 0 < ts.length := List.length_pos_iff.2 hne
  have HPOS := Lib.hid hpos; have HASC := Lib.hid hasc; have HLEN := Lib.hid hlen
  have p0 : (ts.length : Int) ≠ 0 := by omega
  have p1 : ((ts.length : Int) == 0) = false := by simpa using p0
  clear hline hl hn hne hasc hlen hsig hpos
  go_enter Tryd.func15, Tryd.ntmps15
  go_wp2_with (first
    | (go_at_call 23; refine (HLINE.out _).mono ?_; intro e w1 h1; obtain ⟨gT, A, cap, rfl, hA, hcap, hTR, hb1⟩ := h1.okT; have z1 := (hb1.block w.heap.size (by simp)).trans HN.out; have b1 := upT (upA (up0 w) _) hb1; have hAe := hA HPOS.out; subst hAe; clear h1 hA hb1)
    | (go_at_call 24; refine (HSIG.out _).mono ?_; intro e w2 h2; obtain ⟨v, rfl, hown, hb2⟩ := h2; obtain ⟨A2, c2, rfl, _, _, _, _⟩ := own_slice hown; rw [List.length_map]; have z2 := (hb2.block w.heap.size (Array.getElem?_eq_some_iff.1 z1).1).trans z1; have b2 := upT b1 hb2; have hT2 := hTR.below hb2; clear hown hb2 hTR))
  have hL := LnS.start (long := (Lx.runes s).length) hT2 HPOS.out hcap HLEN.out HASC.out
  have bL := upA b2 (.cells #[.slice (some ⟨gT, 0, none⟩) ts.length cap, .int .i64 0, .int .i64 ((Lx.runes s).length : Int), .int .i64 (-1)] 67)
  have zlt := (Array.getElem?_eq_some_iff.1 z2).1
  have zL := (heap_alloc_old w2 (.cells #[.slice (some ⟨gT, 0, none⟩) ts.length cap, .int .i64 0, .int .i64 ((Lx.runes s).length : Int), .int .i64 (-1)] 67) zlt).trans z2
  have hg : w.heap.size < w2.heap.size := zlt
  clear hT2 b2 z2 zlt b1 z1
  refine (mitem_any _ w2.heap.size gT ts cap _ ⟨0, -1⟩ hL).mono ?_
  rw [HX.out]
  rintro e w3 ⟨rfl, h3, f3⟩
  have b3 := fg_below bL f3 (by omega)
  have z3 := (f3.block _ (Array.getElem?_eq_some_iff.1 zL).1 (by omega)).trans zL
  clear hL bL zL f3
  have hgT := h3.gTlt
  have hfar := h3.far
  have hkle : k ≤ ts.length := h3.kle
  generalize w2.heap.size = g at *
  have HG := Lib.hid hg
  by_cases hb : bad < 0
  · by_cases hk : k < ts.length
    · obtain ⟨t, ht⟩ : ∃ t, ts[k]? = some t := ⟨ts[k], by simp [hk]⟩
      have hA : after ts (Lx.runes s).length ⟨k, bad⟩ = ⟨k, (t.at_ : Int)⟩ := by
        unfold after
        rw [if_pos ⟨hb, hk⟩, show Sy.tokAt ts (Lx.runes s).length k = t from by unfold Sy.tokAt; rw [ht]; rfl]
        exact if_pos hb
      have HP := HPH.out
      rw [hA, if_pos (by show (0 : Int) ≤ (t.at_ : Int); omega)] at HP
      have HPP := Lib.hid HP
      clear HP
      have k0 : (0 : Int) ≤ (k : Int) := by omega
      have k1 : (k : Int) < (ts.length : Int) := by omega
      have HTT := Lib.hid ht
      clear hA ht
      go_wp2_with (refine wp_storeNew rfl _ _ rfl i rfl rfl ?_; intro W4 hI4 hc4 hz4; have h4 := h3.up hc4; have z4 := (hc4.block _ (Array.getElem?_eq_some_iff.1 z3).1).trans z3; have b4 := upT b3 hc4; have cg1 : W4.cell? ⟨g, 1, none⟩ = some (.int .i64 (k : Int)) := cell_of_row _ _ 1 _ _ _ h4.row; have cg3 : W4.cell? ⟨g, 3, none⟩ = some (.int .i64 bad) := cell_of_row _ _ 3 _ _ _ h4.row; obtain ⟨hgw, _, _, _, x4⟩ := h4.toks k t HTT.out; have hg4 := h4.glt)
      refine (fail_any _ g gT ts cap _ ⟨k, bad⟩ t.at_ h4).mono ?_
      rw [show Sy.fail t.at_ ⟨k, bad⟩ = ⟨k, (t.at_ : Int)⟩ from if_pos hb]
      rintro e w5 ⟨rfl, h5, f5⟩
      have b5 := fg_below b4 f5 (by have := HG.out; omega)
      have z5 := (f5.block _ (Array.getElem?_eq_some_iff.1 z4).1 (by have := HG.out; omega)).trans z4
      have cg : w5.cell? ⟨g, 3, none⟩ = some (.int .i64 (t.at_ : Int)) := cell_of_row _ _ 3 _ _ _ h5.row
      have t0 : (0 : Int) ≤ (t.at_ : Int) := by omega
      clear h3 z3 b3 h4 z4 b4 x4 cg1 cg3 hI4 hc4 hz4 f5
      go_wp2_with fail
      have hgne : w.heap.size ≠ g := by have := HG.out; omega
      refine wp_region_noPanic ?_
      refine wp_region_held_drew (S := fun w' => w'.cell? ⟨g, 3, none⟩ = some (.int .i64 (t.at_ : Int))) (by kernel_rfl) ?_ (fun hHeld => ?_)
      · exact cg
      refine wpAnyH_take (i := 0) (oi := _) (v := ?_) rfl (by kernel_rfl) (by kernel_rfl) (by kernel_rfl) (fun _ _ _ h => h) (Or.inl ⟨by kernel_rfl, ?_⟩) (by assumption) ?_
      rotate_left
      · (intro w hSw; (try dsimp only at hSw); go_simp; try (with_reducible rfl))
      (try simp only [List.getElem_toArray, List.getElem_cons_succ, List.getElem_cons_zero, Act.put, List.setIfInBounds_toArray, List.set_cons_zero, List.set_cons_succ])
      refine wpAnyH_take (i := 1) (oi := _) (v := ?_) rfl (by kernel_rfl) (by kernel_rfl) (by kernel_rfl) (fun _ _ _ h => h) (Or.inl ⟨by kernel_rfl, ?_⟩) (by assumption) ?_
      rotate_left
      · (intro w hSw; (try dsimp only at hSw); go_simp; try (with_reducible rfl))
      (try simp only [List.getElem_toArray, List.getElem_cons_succ, List.getElem_cons_zero, Act.put, List.setIfInBounds_toArray, List.set_cons_zero, List.set_cons_succ])
      refine wpAnyH_take (i := 2) (oi := _) (v := ?_) rfl (by kernel_rfl) (by kernel_rfl) (by kernel_rfl) (fun _ _ _ h => h) (Or.inl ⟨by kernel_rfl, ?_⟩) (by assumption) ?_
      rotate_left
      · (intro w hSw; (try dsimp only at hSw); go_simp; try (with_reducible rfl))
      (try simp only [List.getElem_toArray, List.getElem_cons_succ, List.getElem_cons_zero, Act.put, List.setIfInBounds_toArray, List.set_cons_zero, List.set_cons_succ])
      refine wpAnyH_take (i := 3) (oi := _) (v := ?_) rfl (by kernel_rfl) (by kernel_rfl) (by kernel_rfl) (fun _ _ _ h => h) (Or.inl ⟨by kernel_rfl, ?_⟩) (by assumption) ?_
      rotate_left
      · (intro w hSw; (try dsimp only at hSw); go_simp; try (with_reducible rfl))
      (try simp only [List.getElem_toArray, List.getElem_cons_succ, List.getElem_cons_zero, Act.put, List.setIfInBounds_toArray, List.set_cons_zero, List.set_cons_succ])
      refine wpAnyH_take (i := 4) (oi := _) (v := ?_) rfl (by kernel_rfl) (by kernel_rfl) (by kernel_rfl) (fun _ _ _ h => h) (Or.inl ⟨by kernel_rfl, ?_⟩) (by assumption) ?_
      rotate_left
      · (intro w hSw; (try dsimp only at hSw); go_simp; try (with_reducible rfl))
      (try simp only [List.getElem_toArray, List.getElem_cons_succ, List.getElem_cons_zero, Act.put, List.setIfInBounds_toArray, List.set_cons_zero, List.set_cons_succ])
      refine wpAnyH_ready (rs := [5]) (by kernel_rfl) (by simp) ?_
      refine AllReadyH.cons (o := _) rfl (fun K hK => ?_) AllReadyH.nil
      refine step_storeIt rfl _ _ rfl w.heap.size Sy.t0 rfl rfl _ _ (show w5.drew.heap[w.heap.size]? = _ from z5) rfl ?_
      first | refine hK.out _ _ ?_ (fun hHeld => ?_) | (go_wp2_with fail; refine hK.out _ _ ?_ (fun hHeld => ?_))
      · exact (cell_setRow_other _ _ _ _ (Ne.symm hgne)).trans cg
      clear hK K
      (try simp only [List.getElem_toArray, List.getElem_cons_succ, List.getElem_cons_zero, Act.put, List.setIfInBounds_toArray, List.set_cons_zero, List.set_cons_succ])
      refine wpAnyH_take (i := 6) (oi := _) (v := ?_) rfl (by kernel_rfl) (by kernel_rfl) (by kernel_rfl) (fun _ _ _ h => h) (Or.inl ⟨by kernel_rfl, ?_⟩) (by assumption) ?_
      rotate_left
      · (intro w hSw; (try dsimp only at hSw); go_simp; try (with_reducible rfl))
      (try simp only [List.getElem_toArray, List.getElem_cons_succ, List.getElem_cons_zero, Act.put, List.setIfInBounds_toArray, List.set_cons_zero, List.set_cons_succ])
      refine wpAnyH_take (i := 7) (oi := _) (v := ?_) rfl (by kernel_rfl) (by kernel_rfl) (by kernel_rfl) (fun _ _ _ h => h) (Or.inl ⟨by kernel_rfl, ?_⟩) (by assumption) ?_
      rotate_left
      · (intro w hSw; (try dsimp only at hSw); go_simp; try (with_reducible rfl))
      (try simp only [List.getElem_toArray, List.getElem_cons_succ, List.getElem_cons_zero, Act.put, List.setIfInBounds_toArray, List.set_cons_zero, List.set_cons_succ])
      refine wpAnyH_done (by kernel_rfl) ?_ _
      refine NoPanic.normal ?_
      (try go_simp)
      go_wp2_with fail
      (try simp only [Exit.inBlock, Exit.then])
      refine bodyPost_ret (resIt3 rfl _ _ _ _ _ _ rfl (setRow_heap _ _ _ _ _ _ (show w5.drew.heap[w.heap.size]? = _ from z5))) rfl ?_
      exact ParseP.err (m := t.at_) HPP.out rfl (upS (upD b5 1) _ (by omega) _)
    · have hA : after ts (Lx.runes s).length ⟨k, bad⟩ = ⟨k, bad⟩ := by unfold after; rw [if_neg (fun hh => hk hh.2)]
      have HP := HPH.out
      rw [hA] at HP
      have k1 : ¬ (k : Int) < (ts.length : Int) := by omega
      have k2 : ¬ 0 ≤ bad := by omega
      rw [if_neg (by show ¬ 0 ≤ bad; omega)] at HP
      have HPP := Lib.hid HP
      clear HP hA
      go_wp2_with (first
        | (refine wp_storeNew rfl _ _ rfl i rfl rfl ?_; intro W4 hI4 hc4 hz4; have h4 := h3.up hc4; have z4 := (hc4.block _ (Array.getElem?_eq_some_iff.1 z3).1).trans z3; have b4 := upT b3 hc4; have cg1 : W4.cell? ⟨g, 1, none⟩ = some (.int .i64 (k : Int)) := cell_of_row _ _ 1 _ _ _ h4.row; have cg3 : W4.cell? ⟨g, 3, none⟩ = some (.int .i64 bad) := cell_of_row _ _ 3 _ _ _ h4.row)
        | (refine wp_loadIt rfl _ rfl w3.heap.size rfl i _ _ hI4 ?_)
        | (refine wp_storeIt rfl _ _ rfl w.heap.size i rfl rfl _ _ z4 rfl ?_))
      (try simp only [Exit.inBlock, Exit.then])
      refine bodyPost_ret (resIt3 rfl _ _ _ _ _ _ rfl (setRow_heap _ _ _ _ _ _ z4)) rfl ?_
      exact ParseP.ok HPP.out rfl (upS b4 _ (by omega) _)
  · have hA : after ts (Lx.runes s).length ⟨k, bad⟩ = ⟨k, bad⟩ := by unfold after; rw [if_neg (fun hh => hb hh.1)]
    have HP := HPH.out
    have t0 : (0 : Int) ≤ bad := by omega
    rw [hA, if_pos (by show (0 : Int) ≤ bad; omega)] at HP
    have HPP := Lib.hid HP
    clear HP
    have t2 : decide (bad < 0) = false := decide_eq_false hb
    have t3 : decide (0 ≤ bad) = true := decide_eq_true t0
    have HT0 := Lib.hid t0
    clear hA hb t0
    go_wp2_with (refine wp_storeNew rfl _ _ rfl i rfl rfl ?_; intro W4 hI4 hc4 hz4; have h4 := h3.up hc4; have z4 := (hc4.block _ (Array.getElem?_eq_some_iff.1 z3).1).trans z3; have b4 := upT b3 hc4; have cg : W4.cell? ⟨g, 3, none⟩ = some (.int .i64 bad) := cell_of_row _ _ 3 _ _ _ h4.row)
    clear h3 z3 b3 h4 hI4 hc4 hz4
    have hgne : w.heap.size ≠ g := by have := HG.out; omega
    refine wp_region_noPanic ?_
    refine wp_region_held_drew (S := fun w' => w'.cell? ⟨g, 3, none⟩ = some (.int .i64 bad)) (by kernel_rfl) ?_ (fun hHeld => ?_)
    · exact cg
    refine wpAnyH_take (i := 0) (oi := _) (v := ?_) rfl (by kernel_rfl) (by kernel_rfl) (by kernel_rfl) (fun _ _ _ h => h) (Or.inl ⟨by kernel_rfl, ?_⟩) (by assumption) ?_
    rotate_left
    · (intro w hSw; (try dsimp only at hSw); go_simp; try (with_reducible rfl))
    (try simp only [List.getElem_toArray, List.getElem_cons_succ, List.getElem_cons_zero, Act.put, List.setIfInBounds_toArray, List.set_cons_zero, List.set_cons_succ])
    refine wpAnyH_take (i := 1) (oi := _) (v := ?_) rfl (by kernel_rfl) (by kernel_rfl) (by kernel_rfl) (fun _ _ _ h => h) (Or.inl ⟨by kernel_rfl, ?_⟩) (by assumption) ?_
    rotate_left
    · (intro w hSw; (try dsimp only at hSw); go_simp; try (with_reducible rfl))
    (try simp only [List.getElem_toArray, List.getElem_cons_succ, List.getElem_cons_zero, Act.put, List.setIfInBounds_toArray, List.set_cons_zero, List.set_cons_succ])
    refine wpAnyH_take (i := 2) (oi := _) (v := ?_) rfl (by kernel_rfl) (by kernel_rfl) (by kernel_rfl) (fun _ _ _ h => h) (Or.inl ⟨by kernel_rfl, ?_⟩) (by assumption) ?_
    rotate_left
    · (intro w hSw; (try dsimp only at hSw); go_simp; try (with_reducible rfl))
    (try simp only [List.getElem_toArray, List.getElem_cons_succ, List.getElem_cons_zero, Act.put, List.setIfInBounds_toArray, List.set_cons_zero, List.set_cons_succ])
    refine wpAnyH_take (i := 3) (oi := _) (v := ?_) rfl (by kernel_rfl) (by kernel_rfl) (by kernel_rfl) (fun _ _ _ h => h) (Or.inl ⟨by kernel_rfl, ?_⟩) (by assumption) ?_
    rotate_left
    · (intro w hSw; (try dsimp only at hSw); go_simp; try (with_reducible rfl))
    (try simp only [List.getElem_toArray, List.getElem_cons_succ, List.getElem_cons_zero, Act.put, List.setIfInBounds_toArray, List.set_cons_zero, List.set_cons_succ])
    refine wpAnyH_take (i := 4) (oi := _) (v := ?_) rfl (by kernel_rfl) (by kernel_rfl) (by kernel_rfl) (fun _ _ _ h => h) (Or.inl ⟨by kernel_rfl, ?_⟩) (by assumption) ?_
    rotate_left
    · (intro w hSw; (try dsimp only at hSw); go_simp; try (with_reducible rfl))
    (try simp only [List.getElem_toArray, List.getElem_cons_succ, List.getElem_cons_zero, Act.put, List.setIfInBounds_toArray, List.set_cons_zero, List.set_cons_succ])
    refine wpAnyH_ready (rs := [5]) (by kernel_rfl) (by simp) ?_
    refine AllReadyH.cons (o := _) rfl (fun K hK => ?_) AllReadyH.nil
    refine step_storeIt rfl _ _ rfl w.heap.size Sy.t0 rfl rfl _ _ (show W4.drew.heap[w.heap.size]? = _ from z4) rfl ?_
    first | refine hK.out _ _ ?_ (fun hHeld => ?_) | (go_wp2_with fail; refine hK.out _ _ ?_ (fun hHeld => ?_))
    · exact (cell_setRow_other _ _ _ _ (Ne.symm hgne)).trans cg
    clear hK K
    (try simp only [List.getElem_toArray, List.getElem_cons_succ, List.getElem_cons_zero, Act.put, List.setIfInBounds_toArray, List.set_cons_zero, List.set_cons_succ])
    refine wpAnyH_take (i := 6) (oi := _) (v := ?_) rfl (by kernel_rfl) (by kernel_rfl) (by kernel_rfl) (fun _ _ _ h => h) (Or.inl ⟨by kernel_rfl, ?_⟩) (by assumption) ?_
    rotate_left
    · (intro w hSw; (try dsimp only at hSw); go_simp; try (with_reducible rfl))
    (try simp only [List.getElem_toArray, List.getElem_cons_succ, List.getElem_cons_zero, Act.put, List.setIfInBounds_toArray, List.set_cons_zero, List.set_cons_succ])
    refine wpAnyH_take (i := 7) (oi := _) (v := ?_) rfl (by kernel_rfl) (by kernel_rfl) (by kernel_rfl) (fun _ _ _ h => h) (Or.inl ⟨by kernel_rfl, ?_⟩) (by assumption) ?_
    rotate_left
    · (intro w hSw; (try dsimp only at hSw); go_simp; try (with_reducible rfl))
    (try simp only [List.getElem_toArray, List.getElem_cons_succ, List.getElem_cons_zero, Act.put, List.setIfInBounds_toArray, List.set_cons_zero, List.set_cons_succ])
    refine wpAnyH_done (by kernel_rfl) ?_ _
    refine NoPanic.normal ?_
    (try go_simp)
    go_wp2_with fail
    (try simp only [Exit.inBlock, Exit.then])
    refine bodyPost_ret (resIt3 rfl _ _ _ _ _ _ rfl (setRow_heap _ _ _ _ _ _ (show W4.drew.heap[w.heap.size]? = _ from z4))) rfl ?_
    exact ParseP.err (m := bad.toNat) HPP.out (by rw [Int.toNat_of_nonneg HT0.out]; rfl) (upS (upD b4 1) _ (by omega) _)
theorem rparse_any (s : ByteArray) (w : World) (hs : s.size ≤ 1000000) : Calls Tryd.prog 15 #[.string s] w (ParseP w (Sy.parse (Lx.runes s))) := by
  unfold Sy.parse
  cases hl : Lx.lxA 0 (Lx.runes s) with
  | error a => exact rparse_err s w hs a hl
  | ok ts =>
    have L := Lx.laid_of _ 0 (Lx.runes s) ts (Nat.le_refl _) hl
    have hlen := L.len_le
    have hrl := Lx.runes_len s
    by_cases hne : ts = []
    · subst hne
      exact rparse_nil s w hs hl
    · exact rparse_some s w hs ts hne hl (fun t ht => good_asc (L.good t ht)) (by omega)
end
section
open Go.RowKit
theorem insT_len (i : Sy.In) : (strOfNums (Sy.insT i)).size ≤ 200 + i.name.length := by
  obtain ⟨kd, op, d, a, b, nm, tg⟩ := i
  have z1 := opT_len op; have z2 := rT_len d; have z3 := two_len a b; have z4 := addrT_len a b; have z5 := vT_len a
  rw [strOfNums_size] at z1 z2 z3 z4 z5 ⊢
  unfold Sy.insT
  simp only
  repeat' split
  all_goals ((try simp only [List.length_append, List.length_cons, List.length_nil]); omega)
theorem rtext_len (i : Sy.It) (hs : Short i) : (strOfNums (Sy.text i)).size ≤ 1000000 := by
  obtain ⟨kd, n, sec, nm, ins⟩ := i
  obtain ⟨s1, s2⟩ := hs
  have z1 := digits_len n; have z2 := rT_len ins.d; have z3 := insT_len ins
  have z4 : (Sy.kindT sec).length ≤ 7 := by cases sec <;> decide
  rw [strOfNums_size] at z1 z2 z3 ⊢
  unfold Sy.text
  simp only at s1 s2 ⊢
  repeat' split
  all_goals ((try simp only [List.length_append, List.length_cons, List.length_nil]); omega)
theorem rprint_what (i : Sy.It) : Sy.print i = match Sy.parse (Lx.runes (strOfNums (Sy.text i))) with
    | .ok j => if j = i then some (Sy.text i) else none
    | .error _ => none := by
  by_cases ho : Sy.Ok i
  · have ha := ok_asc ho
    rw [runes_str _ (text_lt i ha.1 ha.2), Sy.say ho, Sy.print_ok ho]
    simp
  · rw [Sy.print_none ho]
    cases hp : Sy.parse (Lx.runes (strOfNums (Sy.text i))) with
    | error m => rfl
    | ok j =>
      have hj := Sy.parse_ok hp
      have : j ≠ i := fun h => ho (h ▸ hj)
      simp [this]
set_option maxRecDepth 100000 in
set_option maxHeartbeats 8000000 in
theorem rprint_err (i : Sy.It) (h64 : It64 i) (hs : Short i) (ha : Asc i) (w : World) (m : Nat) (hp : Sy.parse (Lx.runes (strOfNums (Sy.text i))) = .error m) : Calls Tryd.prog 16 #[ItV i] w (PrintP w (Sy.print i)) := by
  have hpl := fun W => rtext_any i h64 hs W
  have hpa := fun W => rparse_any (strOfNums (Sy.text i)) W (rtext_len i hs)
  have hw := rprint_what i
  rw [hp] at hpa hw
  simp only at hw
  have HPL := Lib.hid hpl; have HPA := Lib.hid hpa; have HW := Lib.hid hw
  have hbox := heap_alloc_new w (.cells (ItC i) 29)
  have HBOX := Lib.hid hbox
  clear hpl hpa hbox hw hp h64 hs ha
  generalize Sy.print i = PR at *
  go_enter Tryd.func16, Tryd.ntmps16
  go_wp2_with (first
    | (refine wp_loadIt rfl _ rfl w.heap.size rfl i _ _ HBOX.out ?_)
    | (go_at_call 27; refine (HPL.out _).mono ?_; rintro e w1 ⟨rfl, hb1⟩; have b1 := upT (upA (up0 w) _) hb1; have box1 := (hb1.block w.heap.size (by simp)).trans HBOX.out)
    | (go_at_call 15; refine (HPA.out _).mono ?_; rintro e w2 ⟨rfl, hb2⟩; have b2 := upT b1 hb2; have box2 := (hb2.block w.heap.size (Array.getElem?_eq_some_iff.1 box1).1).trans box1; have hl2 := (Array.getElem?_eq_some_iff.1 box2).1)
    | (refine wp_storeNew rfl _ _ rfl Sy.t0 rfl rfl ?_; intro W3 hj3 hbw3 hsz3; have box3 := (hbw3.block w.heap.size hl2).trans box2; have b3 := upT b2 hbw3; have cj := fun k => cell_of_row _ _ k _ _ _ hj3; have ci := fun k => cell_of_row _ _ k _ _ _ box3))
  go_ret2
  exact PrintP.no HW.out rfl b3
set_option maxRecDepth 100000 in
set_option maxHeartbeats 8000000 in
theorem rprint_yes (i : Sy.It) (h64 : It64 i) (hs : Short i) (ha : Asc i) (w : World) (hp : Sy.parse (Lx.runes (strOfNums (Sy.text i))) = .ok i) : Calls Tryd.prog 16 #[ItV i] w (PrintP w (Sy.print i)) := by
  have hpl := fun W => rtext_any i h64 hs W
  have hpa := fun W => rparse_any (strOfNums (Sy.text i)) W (rtext_len i hs)
  have hw := rprint_what i
  rw [hp] at hpa hw
  simp only at hw
  simp only [if_true] at hw
  have hneq := fun W => neq_it i i W ha.a ha.a ha.b ha.b
  simp only [decide_true, Bool.not_true] at hneq
  have HPL := Lib.hid hpl; have HPA := Lib.hid hpa; have HW := Lib.hid hw
  have hbox := heap_alloc_new w (.cells (ItC i) 29)
  have HBOX := Lib.hid hbox
  clear hpl hpa hbox hw hp h64 hs ha
  generalize Sy.print i = PR at *
  go_enter Tryd.func16, Tryd.ntmps16
  go_wp2_with (first
    | (refine wp_loadIt rfl _ rfl w.heap.size rfl i _ _ HBOX.out ?_)
    | (go_at_call 27; refine (HPL.out _).mono ?_; rintro e w1 ⟨rfl, hb1⟩; have b1 := upT (upA (up0 w) _) hb1; have box1 := (hb1.block w.heap.size (by simp)).trans HBOX.out)
    | (go_at_call 15; refine (HPA.out _).mono ?_; rintro e w2 ⟨rfl, hb2⟩; have b2 := upT b1 hb2; have box2 := (hb2.block w.heap.size (Array.getElem?_eq_some_iff.1 box1).1).trans box1; have hl2 := (Array.getElem?_eq_some_iff.1 box2).1)
    | (refine wp_storeNew rfl _ _ rfl i rfl rfl ?_; intro W3 hj3 hbw3 hsz3; have box3 := (hbw3.block w.heap.size hl2).trans box2; have b3 := upT b2 hbw3; have cj := fun k => cell_of_row _ _ k _ _ _ hj3; have ci := fun k => cell_of_row _ _ k _ _ _ box3))
  go_ret2
  exact PrintP.yes HW.out rfl b3
set_option maxRecDepth 100000 in
set_option maxHeartbeats 8000000 in
theorem rprint_no (i : Sy.It) (h64 : It64 i) (hs : Short i) (ha : Asc i) (w : World) (j : Sy.It) (hne : j ≠ i) (hp : Sy.parse (Lx.runes (strOfNums (Sy.text i))) = .ok j) : Calls Tryd.prog 16 #[ItV i] w (PrintP w (Sy.print i)) := by
  have hpl := fun W => rtext_any i h64 hs W
  have hpa := fun W => rparse_any (strOfNums (Sy.text i)) W (rtext_len i hs)
  have hw := rprint_what i
  rw [hp] at hpa hw
  simp only at hw
  rw [if_neg hne] at hw
  have hj := ok_Asc (Sy.parse_ok hp)
  have hneq := fun W => neq_it j i W hj.a ha.a hj.b ha.b
  simp only [decide_eq_false hne, Bool.not_false] at hneq
  have HPL := Lib.hid hpl; have HPA := Lib.hid hpa; have HW := Lib.hid hw
  have hbox := heap_alloc_new w (.cells (ItC i) 29)
  have HBOX := Lib.hid hbox
  clear hpl hpa hbox hw hp h64 hs ha
  generalize Sy.print i = PR at *
  go_enter Tryd.func16, Tryd.ntmps16
  go_wp2_with (first
    | (refine wp_loadIt rfl _ rfl w.heap.size rfl i _ _ HBOX.out ?_)
    | (go_at_call 27; refine (HPL.out _).mono ?_; rintro e w1 ⟨rfl, hb1⟩; have b1 := upT (upA (up0 w) _) hb1; have box1 := (hb1.block w.heap.size (by simp)).trans HBOX.out)
    | (go_at_call 15; refine (HPA.out _).mono ?_; rintro e w2 ⟨rfl, hb2⟩; have b2 := upT b1 hb2; have box2 := (hb2.block w.heap.size (Array.getElem?_eq_some_iff.1 box1).1).trans box1; have hl2 := (Array.getElem?_eq_some_iff.1 box2).1)
    | (refine wp_storeNew rfl _ _ rfl j rfl rfl ?_; intro W3 hj3 hbw3 hsz3; have box3 := (hbw3.block w.heap.size hl2).trans box2; have b3 := upT b2 hbw3; have cj := fun k => cell_of_row _ _ k _ _ _ hj3; have ci := fun k => cell_of_row _ _ k _ _ _ box3))
  go_ret2
  exact PrintP.no HW.out rfl b3
theorem rprint_any (i : Sy.It) (h64 : It64 i) (hs : Short i) (ha : Asc i) (w : World) : Calls Tryd.prog 16 #[ItV i] w (PrintP w (Sy.print i)) := by
  cases hp : Sy.parse (Lx.runes (strOfNums (Sy.text i))) with
  | error m => exact rprint_err i h64 hs ha w m hp
  | ok j =>
    by_cases hne : j = i
    · subst hne; exact rprint_yes j h64 hs ha w hp
    · exact rprint_no i h64 hs ha w j hne hp
end
section
open Go.ChangeShapes Go.WideShapes Go.ChangeAt Go.RowKit
theorem bytes_list : ∀ l : List UInt8, ∃ k : List Int, l = k.map (fun n => UInt8.ofNat n.toNat) ∧ (∀ c ∈ k, 0 ≤ c ∧ c < 256) ∧ k.length = l.length
  | [] => ⟨[], rfl, by simp, rfl⟩
  | b :: l => by
    obtain ⟨k, h1, h2, h3⟩ := bytes_list l
    refine ⟨(b.toNat : Int) :: k, ?_, ?_, ?_⟩
    · rw [List.map_cons, ← h1]
      congr 1
      simp
    · intro c hc
      rcases List.mem_cons.1 hc with rfl | hc
      · have := b.toNat_lt; omega
      · exact h2 c hc
    · simp [h3]
theorem str_bytes_of (s : ByteArray) : ∃ l : List Int, s = strOfNums l ∧ (∀ c ∈ l, 0 ≤ c ∧ c < 256) ∧ l.length = s.size := by
  obtain ⟨k, h1, h2, h3⟩ := bytes_list s.data.toList
  refine ⟨k, ?_, h2, h3⟩
  apply ByteArray.ext
  apply Array.ext'
  show s.data.toList = (strOfNums _).data.toList
  rw [strOfNums_data, h1]
theorem list13 {α : Type} : ∀ {l : List α}, l.length = 13 → ∃ c0 c1 c2 c3 c4 c5 c6 c7 c8 c9 c10 c11 c12, l = [c0, c1, c2, c3, c4, c5, c6, c7, c8, c9, c10, c11, c12]
  | [c0, c1, c2, c3, c4, c5, c6, c7, c8, c9, c10, c11, c12], _ => ⟨c0, c1, c2, c3, c4, c5, c6, c7, c8, c9, c10, c11, c12, rfl⟩
theorem list5 {α : Type} : ∀ {l : List α}, l.length = 5 → ∃ c0 c1 c2 c3 c4, l = [c0, c1, c2, c3, c4]
  | [c0, c1, c2, c3, c4], _ => ⟨c0, c1, c2, c3, c4, rfl⟩
theorem list7 {α : Type} : ∀ {l : List α}, l.length = 7 → ∃ c0 c1 c2 c3 c4 c5 c6, l = [c0, c1, c2, c3, c4, c5, c6]
  | [c0, c1, c2, c3, c4, c5, c6], _ => ⟨c0, c1, c2, c3, c4, c5, c6, rfl⟩
theorem list2 {α : Type} : ∀ {l : List α}, l.length = 2 → ∃ c0 c1, l = [c0, c1]
  | [c0, c1], _ => ⟨c0, c1, rfl⟩
theorem k_int : Tryd.prog.cellsOf 3 = 1 := by kernel_rfl
theorem k_bool : Tryd.prog.cellsOf 4 = 1 := by kernel_rfl
theorem k_str : Tryd.prog.cellsOf 9 = 1 := by kernel_rfl
theorem k_val : Tryd.prog.cellsOf 25 = 2 := by kernel_rfl
theorem k_ins : Tryd.prog.cellsOf 27 = 9 := by kernel_rfl
theorem k_item : Tryd.prog.cellsOf 29 = 13 := by kernel_rfl
theorem wf_I64 {n : Int} (h : (Lit.int .i64 n).wf = true) : I64 n := by
  have := wf_i64 (zs := [n]) (by simpa using h) n (by simp)
  unfold I64
  omega
section
variable {H : Type} {enc : TypeId × Value → H} {w : World} {base : Nat} {spare : Nat → Bool} {held : Bool}
abbrev RdT (enc : TypeId × Value → H) (w : World) (base : Nat) (spare : Nat → Bool) (held : Bool) (n : Nat) (t : TypeId) (cs : List Value) (y : DataW H × List MemPlace) : Prop := DataW.trod enc Tryd.prog w base spare held n t cs = some y
theorem rd_int {n : Nat} {c : Value} {y : DataW H × List MemPlace} (h : RdT enc w base spare held n 3 [c] y) : ∃ m, c = .int .i64 m ∧ I64 m := by
  obtain ⟨m, e, _, wf⟩ := DataW.trod_int Tryd.underlying3 h
  injection e with e
  exact ⟨m, e, wf_I64 wf⟩
theorem rd_bool {n : Nat} {c : Value} {y : DataW H × List MemPlace} (h : RdT enc w base spare held n 4 [c] y) : ∃ b, c = .bool b := by
  obtain ⟨m, e, _⟩ := DataW.trod_bool Tryd.underlying4 h
  injection e with e
  exact ⟨m, e⟩
theorem rd_str {n : Nat} {c : Value} {y : DataW H × List MemPlace} (h : RdT enc w base spare held n 9 [c] y) : ∃ l : List Int, c = .string (strOfNums l) ∧ (∀ x ∈ l, 0 ≤ x ∧ x < 256) ∧ l.length ∈ y.1.weights Tryd.prog 9 := by
  obtain ⟨m, e, hy, _⟩ := DataW.trod_string Tryd.underlying9 h
  injection e with e
  obtain ⟨l, rfl, hl, hlz⟩ := str_bytes_of m
  refine ⟨l, e, hl, ?_⟩
  rw [hy, hlz]
  simp only [DataW.weights, List.mem_singleton]
  exact Array.length_toList.symm
theorem in_agg {t : TypeId} {fs : Array Field} {xs : List (DataW H × List MemPlace)} {y x : DataW H × List MemPlace} {j m : Nat} {q : TypeId} (hu : Tryd.prog.underlying t = some (.struct fs)) (hy : y = (.agg (xs.map (·.1)), xs.flatMap (·.2)))
    (hq : (fs.toList.map (·.type))[j]? = some q) (hx : xs[j]? = some x) (hm : m ∈ x.1.weights Tryd.prog q) : m ∈ y.1.weights Tryd.prog t := by
  subst hy
  simp only [DataW.weights, hu]
  exact DataW.weights_mem_each hq (by rw [List.getElem?_map, hx]; rfl) m hm
theorem rd_Val {n : Nat} {a b : Value} {y : DataW H × List MemPlace} (h : RdT enc w base spare held n 25 [a, b] y) : ∃ v : Sy.Vl, a = .bool v.reg ∧ b = .int .i64 v.n ∧ I64 v.n := by
  obtain ⟨xs, n, rfl, hxe, hl, hx, hg⟩ := DataW.trod_struct Tryd.underlying25 h
  obtain ⟨y0, y1, rfl⟩ := list2 hx
  have h0 : RdT enc w base spare held n 4 (List.take (Tryd.prog.cellsOf 4) (List.drop 0 [a, b])) y0 := hg 0 _ rfl
  rw [k_bool] at h0
  have h1 : RdT enc w base spare held n 3 (List.take (Tryd.prog.cellsOf 3) (List.drop 1 [a, b])) y1 := hg 1 _ rfl
  rw [k_int] at h1
  obtain ⟨r, rfl⟩ := rd_bool h0
  obtain ⟨m, rfl, hm⟩ := rd_int h1
  exact ⟨⟨r, m⟩, rfl, rfl, hm⟩
theorem rd_Ins {n : Nat} {c0 c1 c2 c3 c4 c5 c6 c7 c8 : Value} {y : DataW H × List MemPlace} (h : RdT enc w base spare held n 27 [c0, c1, c2, c3, c4, c5, c6, c7, c8] y) : ∃ i : Sy.In, [c0, c1, c2, c3, c4, c5, c6, c7, c8] = (InsC i.kind i.op i.d i.a i.b (strOfNums i.name) i.target).toList ∧ I64 i.op ∧ I64 i.d ∧ I64 i.a.n ∧ I64 i.b.n ∧ (∀ x ∈ i.name, 0 ≤ x ∧ x < 256) ∧ i.name.length ∈ y.1.weights Tryd.prog 27 := by
  obtain ⟨xs, n, rfl, hxe, hl, hx, hg⟩ := DataW.trod_struct Tryd.underlying27 h
  obtain ⟨y0, y1, y2, y3, y4, y5, y6, rfl⟩ := list7 hx
  have h0 : RdT enc w base spare held n 3 (List.take (Tryd.prog.cellsOf 3) (List.drop 0 [c0, c1, c2, c3, c4, c5, c6, c7, c8])) y0 := hg 0 _ rfl
  rw [k_int] at h0
  have h1 : RdT enc w base spare held n 3 (List.take (Tryd.prog.cellsOf 3) (List.drop 1 [c0, c1, c2, c3, c4, c5, c6, c7, c8])) y1 := hg 1 _ rfl
  rw [k_int] at h1
  have h2 : RdT enc w base spare held n 3 (List.take (Tryd.prog.cellsOf 3) (List.drop 2 [c0, c1, c2, c3, c4, c5, c6, c7, c8])) y2 := hg 2 _ rfl
  rw [k_int] at h2
  have h3 : RdT enc w base spare held n 25 (List.take (Tryd.prog.cellsOf 25) (List.drop 3 [c0, c1, c2, c3, c4, c5, c6, c7, c8])) y3 := hg 3 _ rfl
  rw [k_val] at h3
  have h4 : RdT enc w base spare held n 25 (List.take (Tryd.prog.cellsOf 25) (List.drop 5 [c0, c1, c2, c3, c4, c5, c6, c7, c8])) y4 := hg 4 _ rfl
  rw [k_val] at h4
  have h5 : RdT enc w base spare held n 9 (List.take (Tryd.prog.cellsOf 9) (List.drop 7 [c0, c1, c2, c3, c4, c5, c6, c7, c8])) y5 := hg 5 _ rfl
  rw [k_str] at h5
  have h6 : RdT enc w base spare held n 3 (List.take (Tryd.prog.cellsOf 3) (List.drop 8 [c0, c1, c2, c3, c4, c5, c6, c7, c8])) y6 := hg 6 _ rfl
  rw [k_int] at h6
  obtain ⟨k, rfl, _⟩ := rd_int h0
  obtain ⟨op, rfl, p1⟩ := rd_int h1
  obtain ⟨d, rfl, p2⟩ := rd_int h2
  obtain ⟨a, rfl, rfl, p3⟩ := rd_Val h3
  obtain ⟨b, rfl, rfl, p4⟩ := rd_Val h4
  obtain ⟨l, rfl, p5, p6⟩ := rd_str h5
  obtain ⟨t, rfl, _⟩ := rd_int h6
  exact ⟨⟨k, op, d, a, b, l, t⟩, rfl, p1, p2, p3, p4, p5, in_agg (j := 5) Tryd.underlying27 hxe rfl rfl p6⟩
theorem rd_Item {n : Nat} {c0 c1 c2 c3 c4 c5 c6 c7 c8 c9 c10 c11 c12 : Value} {y : DataW H × List MemPlace} (h : RdT enc w base spare held n 29 [c0, c1, c2, c3, c4, c5, c6, c7, c8, c9, c10, c11, c12] y) : ∃ i : Sy.It, [c0, c1, c2, c3, c4, c5, c6, c7, c8, c9, c10, c11, c12] = (ItC i).toList ∧ It64 i ∧ Asc i ∧ i.name.length ∈ y.1.weights Tryd.prog 29 ∧ i.ins.name.length ∈ y.1.weights Tryd.prog 29 := by
  obtain ⟨xs, n, rfl, hxe, hl, hx, hg⟩ := DataW.trod_struct Tryd.underlying29 h
  obtain ⟨y0, y1, y2, y3, y4, rfl⟩ := list5 hx
  have h0 : RdT enc w base spare held n 3 (List.take (Tryd.prog.cellsOf 3) (List.drop 0 [c0, c1, c2, c3, c4, c5, c6, c7, c8, c9, c10, c11, c12])) y0 := hg 0 _ rfl
  rw [k_int] at h0
  have h1 : RdT enc w base spare held n 3 (List.take (Tryd.prog.cellsOf 3) (List.drop 1 [c0, c1, c2, c3, c4, c5, c6, c7, c8, c9, c10, c11, c12])) y1 := hg 1 _ rfl
  rw [k_int] at h1
  have h2 : RdT enc w base spare held n 4 (List.take (Tryd.prog.cellsOf 4) (List.drop 2 [c0, c1, c2, c3, c4, c5, c6, c7, c8, c9, c10, c11, c12])) y2 := hg 2 _ rfl
  rw [k_bool] at h2
  have h3 : RdT enc w base spare held n 9 (List.take (Tryd.prog.cellsOf 9) (List.drop 3 [c0, c1, c2, c3, c4, c5, c6, c7, c8, c9, c10, c11, c12])) y3 := hg 3 _ rfl
  rw [k_str] at h3
  have h4 : RdT enc w base spare held n 27 (List.take (Tryd.prog.cellsOf 27) (List.drop 4 [c0, c1, c2, c3, c4, c5, c6, c7, c8, c9, c10, c11, c12])) y4 := hg 4 _ rfl
  rw [k_ins] at h4
  obtain ⟨k, rfl, _⟩ := rd_int h0
  obtain ⟨m, rfl, q1⟩ := rd_int h1
  obtain ⟨sec, rfl⟩ := rd_bool h2
  obtain ⟨l, rfl, q2, q3⟩ := rd_str h3
  obtain ⟨i, e, p1, p2, p3, p4, p5, p6⟩ := rd_Ins h4
  injection e with e0 e
  injection e with e1 e
  injection e with e2 e
  injection e with e3 e
  injection e with e4 e
  injection e with e5 e
  injection e with e6 e
  injection e with e7 e
  injection e with e8 e
  subst e0 e1 e2 e3 e4 e5 e6 e7 e8
  exact ⟨⟨k, m, sec, l, i⟩, rfl, ⟨q1, p1, p2, p3, p4⟩, ⟨q2, p5⟩, in_agg (j := 3) Tryd.underlying29 hxe rfl rfl q3, in_agg (j := 4) Tryd.underlying29 hxe rfl rfl p6⟩
set_option maxRecDepth 100000 in
theorem open_item {r : Reach} {b0 : Nat} {v : Value} {d : DataW H} {p : List MemPlace} {ts : List TypeId} {ds : List (DataW H)} (hsz : (DataW.weightsEach Tryd.prog ts ds).all (· ≤ reachBytes) = true) {j : Nat} (htj : ts[j]? = some 29) (hdj : ds[j]? = some d)
    (hv : Value.okWide Tryd.prog w r b0 29 v) (h : DataW.Trod enc Tryd.prog w base spare held 29 v d p) :
    ∃ i : Sy.It, v = ItV i ∧ It64 i ∧ Asc i ∧ i.name.length ≤ 140737488351232 ∧ i.ins.name.length ≤ 140737488351232 := by
  obtain ⟨cs, rfl, hcz⟩ := okWide_struct Tryd.underlying29 hv
  rw [k_item] at hcz
  obtain ⟨l⟩ := cs
  obtain ⟨c0, c1, c2, c3, c4, c5, c6, c7, c8, c9, c10, c11, c12, rfl⟩ := list13 hcz
  obtain ⟨fuel, hf⟩ := h
  obtain ⟨i, e, h1, h2, h3, h4⟩ := rd_Item (n := fuel) (y := (d, p)) hf
  have g : ∀ m, m ∈ d.weights Tryd.prog 29 → m ≤ 140737488351232 := fun m hm => by
    have := List.all_eq_true.1 hsz _ (DataW.weights_mem_each htj hdj m hm)
    exact Nat.le_trans (of_decide_eq_true this) (by decide)
  refine ⟨i, ?_, h1, h2, g _ h3, g _ h4⟩
  rw [e]
end
end
end Go.Proofs.YtcpbbkpfickfiaaDoor
