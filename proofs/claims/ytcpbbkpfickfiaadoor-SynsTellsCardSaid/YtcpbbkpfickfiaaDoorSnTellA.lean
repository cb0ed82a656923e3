/- The walk of SynsTells: it answers true, whatever it is given. -/
import Derived.Test.YtcpbbkpfickfiaaDoorSnBest2
import Derived.Test.YtcpbbkpfickfiaaDoorSyRefB
import Derived.Test.YtcpbbkpfickfiaaDoorSnLnA
import Derived.OrdersHeld
import Derived.Deep.RegionHeld3
set_option linter.unusedVariables false
set_option linter.unusedSimpArgs false
namespace Go.Proofs.YtcpbbkpfickfiaaDoor
section
namespace Sn
open Lx (Tk)
open Sy (In It Vl St)
theorem take_short {B : Nat} {i : It} {t : Tk} (p : Int) (h1 : i.name.length ≤ B) (h2 : i.ins.name.length ≤ B) (ht : t.text.length ≤ B) : (take i p t).1.name.length ≤ B ∧ (take i p t).1.ins.name.length ≤ B := by
  unfold take
  repeat' split
  all_goals exact ⟨by assumption, by assumption⟩
theorem fitG_short {B : Nat} {ts : List Tk} (hts : ∀ t ∈ ts, t.text.length ≤ B) : ∀ (l : List Int) (i : It) (k : Nat) (j : It), i.name.length ≤ B → i.ins.name.length ≤ B → fitG ts i l k = .ok j → j.name.length ≤ B ∧ j.ins.name.length ≤ B
  | [], i, k, j, h1, h2, h => by
    unfold fitG at h
    split at h
    · cases h
    · injection h with h; subst h; exact ⟨h1, h2⟩
  | p :: l, i, k, j, h1, h2, h => by
    unfold fitG at h
    split at h
    · exact fitG_short hts l i k j h1 h2 h
    · split at h
      · cases h
      · rename_i t ht
        split at h
        · have := take_short p h1 h2 (hts t (List.mem_of_getElem? ht))
          exact fitG_short hts l _ _ j this.1 this.2 h
        · cases h
theorem fit_short {B : Nat} {ts : List Tk} (hts : ∀ t ∈ ts, t.text.length ≤ B) {f : Fm} {j : It} (h : fit ts f = .ok j) : j.name.length ≤ B ∧ j.ins.name.length ≤ B := by
  unfold fit at h
  split at h
  · exact fitG_short hts _ (begin_ f) _ j (Nat.zero_le _) (Nat.zero_le _) h
  · split at h
    · exact fitG_short hts _ (begin_ f) _ j (Nat.zero_le _) (Nat.zero_le _) h
    · cases h
theorem best_short {B : Nat} {ts : List Tk} (hts : ∀ t ∈ ts, t.text.length ≤ B) : ∀ (L : List Fm) (m : Nat) (j : It), best ts L m = .ok j → j.name.length ≤ B ∧ j.ins.name.length ≤ B
  | [], m, j, h => by cases h
  | f :: L, m, j, h => by
    unfold best at h
    split at h
    · rename_i i hi
      injection h with h
      subst h
      exact fit_short hts hi
    · exact best_short hts L _ j h
theorem tok_in {r : List Int} {ts : List Tk} (L : Lx.Laid 0 (r.drop 0) ts) {k : Nat} {t : Tk} (h : ts[k]? = some t) : t.at_ + t.text.length ≤ r.length := (L.nth (Nat.zero_le _) h).2.2.1
theorem parse_short {r : List Int} {j : It} (h : Sy.parse r = .ok j) : j.name.length ≤ r.length ∧ j.ins.name.length ≤ r.length := by
  unfold Sy.parse at h
  cases hl : Lx.lxA 0 r with
  | error a => rw [hl] at h; cases h
  | ok ts =>
    rw [hl] at h
    have L := Lx.laid_of _ 0 r ts (Nat.le_refl _) hl
    have L0 : Lx.Laid 0 (r.drop 0) ts := by rw [List.drop_zero]; exact L
    simp only at h
    rw [← parse_same L.good] at h
    have hts : ∀ t ∈ ts, t.text.length ≤ r.length := fun t ht => by
      obtain ⟨k, hk, e⟩ := List.getElem_of_mem ht
      have := tok_in L0 (k := k) (t := t) (by rw [List.getElem?_eq_getElem hk, e])
      omega
    unfold parseT at h
    split at h
    · injection h with h; subst h; exact ⟨Nat.zero_le _, Nat.zero_le _⟩
    · split at h
      · rename_i i hb
        injection h with h
        subst h
        exact best_short hts _ _ _ hb
      · cases h
theorem parseT_le {r : List Int} {ts : List Tk} {m : Nat} (hl : Lx.lxA 0 r = .ok ts) (h : Sy.parseT ts r.length = .error m) : m ≤ r.length := by
  have L := Lx.laid_of _ 0 r ts (Nat.le_refl _) hl
  have L0 : Lx.Laid 0 (r.drop 0) ts := by rw [List.drop_zero]; exact L
  rw [← parse_same L.good] at h
  unfold parseT at h
  split at h
  · cases h
  · split at h
    · cases h
    · rename_i k hb
      injection h with h
      unfold Sy.tokAt at h
      cases e : ts[k]? with
      | none => rw [e] at h; simp at h; omega
      | some t => rw [e] at h; have := tok_in L0 e; simp at h; omega
end Sn
end
section
open Go.RowKit
structure Fine (i : Sy.It) : Prop where
  w : It64 i
  s : Short i
  a : Asc i
theorem tells_parse (s : ByteArray) (hs : s.size ≤ 50000) : ∃ (X : Sy.It) (a : Int) (b : Bool), (∀ W, Sn.Tab W → Calls Tryd.prog 8 #[.string s] W (RetB (.tuple #[ItV X, .int .i64 a, .bool b]) W)) ∧
    (∀ W, Calls Tryd.prog 15 #[.string s] W (RetB (.tuple #[ItV X, .int .i64 a, .bool b]) W)) ∧ Fine X := by
  have h1 := fun W T => parse_any s W T (by omega)
  have h2 := fun W => rparse_any s W (by omega)
  cases hp : Sy.parse (Lx.runes s) with
  | error m =>
    rw [hp] at h1 h2
    exact ⟨Sy.t0, m, false, fun W T => (h1 W T).mono fun e w' hh => ⟨hh.1, hh.2⟩, fun W => (h2 W).mono fun e w' hh => ⟨hh.1, hh.2⟩, ok_64 Sy.Ok.none, ⟨Nat.zero_le _, Nat.zero_le _⟩, ok_Asc Sy.Ok.none⟩
  | ok i =>
    rw [hp] at h1 h2
    have hO := Sy.parse_ok hp
    have hS : Short i := by
      have h3 := Sn.parse_short hp
      have h4 := Lx.runes_len s
      exact ⟨by omega, by omega⟩
    exact ⟨i, 0, true, fun W T => (h1 W T).mono fun e w' hh => ⟨hh.1, hh.2⟩, fun W => (h2 W).mono fun e w' hh => ⟨hh.1, hh.2⟩, ok_64 hO, hS, ok_Asc hO⟩
theorem tells_print (i : Sy.It) (h : Fine i) : ∃ (t : ByteArray) (b : Bool), (∀ W, Sn.Tab W → Calls Tryd.prog 11 #[ItV i] W (RetB (.tuple #[.string t, .bool b]) W)) ∧
    (∀ W, Calls Tryd.prog 16 #[ItV i] W (RetB (.tuple #[.string t, .bool b]) W)) := by
  have h1 := fun W T => print_any i h.w h.s h.a W T
  have h2 := fun W => rprint_any i h.w h.s h.a W
  cases hp : Sy.print i with
  | none =>
    rw [hp] at h1 h2
    exact ⟨⟨#[]⟩, false, fun W T => (h1 W T).mono fun e w' hh => ⟨hh.1, hh.2⟩, fun W => (h2 W).mono fun e w' hh => ⟨hh.1, hh.2⟩⟩
  | some t =>
    rw [hp] at h1 h2
    exact ⟨strOfNums t, true, fun W T => (h1 W T).mono fun e w' hh => ⟨hh.1, hh.2⟩, fun W => (h2 W).mono fun e w' hh => ⟨hh.1, hh.2⟩⟩
set_option maxRecDepth 100000 in
set_option maxHeartbeats 20000000 in
theorem tells_early (A0 : Option Addr) (n0 c0 : Nat) (A1 : Option Addr) (n1 c1 : Nat) (A2 : Option Addr) (n2 c2 : Nat) (it : Sy.It) (w : World) (T : Sn.Tab w) (h1 : it.name.length ≤ 140737488351232) (h2 : it.ins.name.length ≤ 140737488351232)
    (h : 200 < n0 ∨ 100 < it.name.length + it.ins.name.length) :
    Calls Tryd.prog 6 #[.slice A0 n0 c0, .slice A1 n1 c1, .slice A2 n2 c2, ItV it] w (RetB (.bool true) w) := by
  have hal := fun W TT => awake5 W TT
  have z1 := strOfNums_size it.name
  have z2 := strOfNums_size it.ins.name
  have HT := Lib.hid T
  clear T
  by_cases h0 : 200 < n0
  · have i0 : (200 : Int) < (n0 : Int) := by omega
    clear h z1 z2 h1 h2
    go_enter Tryd.func6, Tryd.ntmps6
    go_wp2_with (go_at_call 9; refine (hal _ (HT.out.below (upA (up0 w) _))).mono ?_; rintro e w2 ⟨rfl, hb2⟩)
    go_ret
    exact ⟨rfl, upT (upA (up0 w) _) hb2⟩
  · have i0 : ¬ (200 : Int) < (n0 : Int) := by omega
    have i1 : (100 : Int) < ((strOfNums it.name).size : Int) + ((strOfNums it.ins.name).size : Int) := by omega
    have i2 : wrap64 (((strOfNums it.name).size : Int) + ((strOfNums it.ins.name).size : Int)) = ((strOfNums it.name).size : Int) + ((strOfNums it.ins.name).size : Int) := IntWalk.wrap64_in _ (by omega)
    clear h z1 z2 h1 h2 h0
    go_enter Tryd.func6, Tryd.ntmps6
    go_wp2_with (go_at_call 9; refine (hal _ (HT.out.below (upA (up0 w) _))).mono ?_; rintro e w2 ⟨rfl, hb2⟩)
    go_ret
    exact ⟨rfl, upT (upA (up0 w) _) hb2⟩
set_option maxRecDepth 100000 in
set_option maxHeartbeats 20000000 in
theorem walk_SynsTells (A0 : Option Addr) (c0 : Nat) (z0 : List Int) (A1 : Option Addr) (c1 : Nat) (z1 : List Int) (A2 : Option Addr) (c2 : Nat) (z2 : List Int) (it : Sy.It) (w : World) (T : Sn.Tab w) (hi64 : It64 it) (hia : Asc it)
    (hi1 : it.name.length ≤ 140737488351232) (hi2 : it.ins.name.length ≤ 140737488351232) (hr0 : Rd w w.heap.size A0 (z0.map (Value.int .u8))) (hr1 : Rd w w.heap.size A1 (z1.map (Value.int .i64))) (hr2 : Rd w w.heap.size A2 (z2.map (Value.int .i64))) :
    Calls Tryd.prog 6 #[.slice A0 z0.length c0, .slice A1 z1.length c1, .slice A2 z2.length c2, ItV it] w (RetB (.bool true) w) := by
  by_cases hlong : 200 < z0.length ∨ 100 < it.name.length + it.ins.name.length
  · exact tells_early A0 _ c0 A1 _ c1 A2 _ c2 it w T hi1 hi2 hlong
  have hfi : Fine it := ⟨hi64, ⟨by omega, by omega⟩, hia⟩
  have i0 : ¬ (200 : Int) < (z0.length : Int) := by omega
  have y1 := strOfNums_size it.name
  have y2 := strOfNums_size it.ins.name
  have i1 : ¬ (100 : Int) < ((strOfNums it.name).size : Int) + ((strOfNums it.ins.name).size : Int) := by omega
  have i2 : wrap64 (((strOfNums it.name).size : Int) + ((strOfNums it.ins.name).size : Int)) = ((strOfNums it.name).size : Int) + ((strOfNums it.ins.name).size : Int) := IntWalk.wrap64_in _ (by omega)
  have hcv : ∀ w', Below w.heap.size w w' → (convert 44 9 (.slice A0 z0.length c0)).run Tryd.prog w' = .ok (.string (strOfNums z0)) w' := fun w' hb =>
    conv_any (hr0.below hb (Nat.le_refl _)) rfl 44 5 9 Tryd.underlying44 Tryd.underlying5 Tryd.underlying9
  have htx := fun w' (hb : Below w.heap.size w w') => text_any A1 z1.length c1 z1 w' rfl (hr1.belowT hb)
  have hln := fun w' (hb : Below w.heap.size w w') => line5_any A2 z2.length c2 z2 w' rfl (hr2.belowT hb)
  have hs0 : (strOfNums z0).size ≤ 200 := by rw [strOfNums_size]; omega
  have hal := fun W TT => awake5 W TT
  have HCV := Lib.hid hcv; have HTX := Lib.hid htx; have HLN := Lib.hid hln; have HT := Lib.hid T; have HFI := Lib.hid hfi
  have hBox := heap_alloc_new w (.cells (ItC it) 29)
  have hb0 := upA (up0 w) (.cells (ItC it) 29)
  clear hcv htx hln T hfi hlong hi1 hi2 hi64 hia hr0 hr1 hr2 y1 y2
  generalize strOfNums z0 = s0 at *
  go_enter Tryd.func6, Tryd.ntmps6
  go_wp2_with fail
  generalize w.alloc (.cells (ItC it) 29) = w1 at *
  have hb1 : Below w.heap.size w w1.drew := hb0.drew
  have hBox1 : w1.drew.heap[w.heap.size]? = some (.cells (ItC it) 29 (0, 0)) := hBox
  refine wp_region_noPanic ?_
  refine wp_region_held_drew (S := fun w' => Below w.heap.size w w' ∧ (convert 44 9 (.slice A0 z0.length c0)).run Tryd.prog w' = .ok (.string s0) w') (by kernel_rfl) ?_ (fun hHeld => ?_)
  · exact ⟨hb1, HCV.out _ hb1⟩
  refine wpAnyH_take (i := 0) (oi := _) (v := ?_) rfl (by kernel_rfl) (by kernel_rfl) (by kernel_rfl) (fun _ _ _ h => h) (Or.inl ⟨by kernel_rfl, ?_⟩) (by assumption) ?_
  rotate_left
  · (intro w hSw; (try dsimp only at hSw); go_simp; try (with_reducible rfl))
  (try simp only [List.getElem_toArray, List.getElem_cons_succ, List.getElem_cons_zero, Act.put, List.setIfInBounds_toArray, List.set_cons_zero, List.set_cons_succ])
  refine wpAnyH_take (i := 1) (oi := _) (v := ?_) rfl (by kernel_rfl) (by kernel_rfl) (by kernel_rfl) (fun _ _ _ h => h) (Or.inl ⟨by kernel_rfl, ?_⟩) (by assumption) ?_
  rotate_left
  · (intro w hSw; (try dsimp only at hSw); go_simp; try (with_reducible rfl))
  (try simp only [List.getElem_toArray, List.getElem_cons_succ, List.getElem_cons_zero, Act.put, List.setIfInBounds_toArray, List.set_cons_zero, List.set_cons_succ])
  refine wpAnyH_take (i := 2) (oi := _) (v := ?_) rfl (by kernel_rfl) (by kernel_rfl) (by kernel_rfl) (fun _ _ _ h => h) (Or.inl ⟨by kernel_rfl, ?_⟩) (by assumption) ?_
  rotate_left
  · (intro w hSw; (try dsimp only at hSw); go_simp; try (with_reducible rfl))
  (try simp only [List.getElem_toArray, List.getElem_cons_succ, List.getElem_cons_zero, Act.put, List.setIfInBounds_toArray, List.set_cons_zero, List.set_cons_succ])
  refine wpAnyH_take (i := 4) (oi := _) (v := ?_) rfl (by kernel_rfl) (by kernel_rfl) (by kernel_rfl) (fun _ _ _ h => h) (Or.inl ⟨by kernel_rfl, ?_⟩) (by assumption) ?_
  rotate_left
  · (intro w hSw; (try dsimp only at hSw); go_simp; try (with_reducible rfl))
  (try simp only [List.getElem_toArray, List.getElem_cons_succ, List.getElem_cons_zero, Act.put, List.setIfInBounds_toArray, List.set_cons_zero, List.set_cons_succ])
  refine wpAnyH_take (i := 6) (oi := _) (v := ?_) rfl (by kernel_rfl) (by kernel_rfl) (by kernel_rfl) (fun _ _ _ h => h) (Or.inl ⟨by kernel_rfl, ?_⟩) (by assumption) ?_
  rotate_left
  · (intro w hSw; (try dsimp only at hSw); go_simp; try (with_reducible rfl))
  (try simp only [List.getElem_toArray, List.getElem_cons_succ, List.getElem_cons_zero, Act.put, List.setIfInBounds_toArray, List.set_cons_zero, List.set_cons_succ])
  refine wpAnyH_take (i := 9) (oi := _) (v := ?_) rfl (by kernel_rfl) (by kernel_rfl) (by kernel_rfl) (fun _ _ _ h => h) (Or.inl ⟨by kernel_rfl, ?_⟩) (by assumption) ?_
  rotate_left
  · (intro w hSw; (try dsimp only at hSw); go_simp; try (with_reducible rfl))
  (try simp only [List.getElem_toArray, List.getElem_cons_succ, List.getElem_cons_zero, Act.put, List.setIfInBounds_toArray, List.set_cons_zero, List.set_cons_succ])
  refine wpAnyH_take (i := 10) (oi := _) (v := ?_) rfl (by kernel_rfl) (by kernel_rfl) (by kernel_rfl) (fun _ _ _ h => h) (Or.inl ⟨by kernel_rfl, ?_⟩) (by assumption) ?_
  rotate_left
  · (intro w hSw; (try dsimp only at hSw); go_simp; try (with_reducible rfl))
  (try simp only [List.getElem_toArray, List.getElem_cons_succ, List.getElem_cons_zero, Act.put, List.setIfInBounds_toArray, List.set_cons_zero, List.set_cons_succ])
  refine wpAnyH_take (i := 14) (oi := _) (v := ?_) rfl (by kernel_rfl) (by kernel_rfl) (by kernel_rfl) (fun _ _ _ h => h) (Or.inl ⟨by kernel_rfl, ?_⟩) (by assumption) ?_
  rotate_left
  · (intro w hSw; (try dsimp only at hSw); go_simp; try (with_reducible rfl))
  (try simp only [List.getElem_toArray, List.getElem_cons_succ, List.getElem_cons_zero, Act.put, List.setIfInBounds_toArray, List.set_cons_zero, List.set_cons_succ])
  refine wpAnyH_ready (rs := [3]) (by kernel_rfl) (by simp) ?_
  refine AllReadyH.cons (o := _) rfl (fun K hK => ?_) AllReadyH.nil
  go_simp
  go_at_call 13
  refine (HTX.out _ hHeld.1).mono ?_
  rintro e w3 ⟨s1, rfl, hs1, hb3⟩
  have hb3' := upT hHeld.1 hb3
  have hBox3 := (hb3.block _ (Array.getElem?_eq_some_iff.1 hBox1).1).trans hBox1
  first | refine hK.out _ _ ?_ (fun hHeld => ?_) | (go_wp2_with fail; refine hK.out _ _ ?_ (fun hHeld => ?_))
  · exact ⟨hb3', HCV.out _ hb3'⟩
  clear hK K
  (try simp only [List.getElem_toArray, List.getElem_cons_succ, List.getElem_cons_zero, Act.put, List.setIfInBounds_toArray, List.set_cons_zero, List.set_cons_succ])
  refine wpAnyH_ready (rs := [5]) (by kernel_rfl) (by simp) ?_
  refine AllReadyH.cons (o := _) rfl (fun K hK => ?_) AllReadyH.nil
  go_simp
  go_at_call 14
  refine (HLN.out _ hb3').mono ?_
  rintro e w4 ⟨s2, rfl, hs2, hb4⟩
  have hb4' := upT hb3' hb4
  have hBox4 := (hb4.block _ (Array.getElem?_eq_some_iff.1 hBox3).1).trans hBox3
  first | refine hK.out _ _ ?_ (fun hHeld => ?_) | (go_wp2_with fail; refine hK.out _ _ ?_ (fun hHeld => ?_))
  · exact ⟨hb4', HCV.out _ hb4'⟩
  clear hK K
  (try simp only [List.getElem_toArray, List.getElem_cons_succ, List.getElem_cons_zero, Act.put, List.setIfInBounds_toArray, List.set_cons_zero, List.set_cons_succ])
  refine wpAnyH_ready (rs := [7]) (by kernel_rfl) (by simp) ?_
  refine AllReadyH.cons (o := _) rfl (fun K hK => ?_) AllReadyH.nil
  go_simp
  go_at_call 14
  refine (HLN.out _ hb4').mono ?_
  rintro e w5 ⟨s3, rfl, hs3, hb5⟩
  have hb5' := upT hb4' hb5
  have hBox5 := (hb5.block _ (Array.getElem?_eq_some_iff.1 hBox4).1).trans hBox4
  first | refine hK.out _ _ ?_ (fun hHeld => ?_) | (go_wp2_with fail; refine hK.out _ _ ?_ (fun hHeld => ?_))
  · exact ⟨hb5', HCV.out _ hb5'⟩
  clear hK K
  (try simp only [List.getElem_toArray, List.getElem_cons_succ, List.getElem_cons_zero, Act.put, List.setIfInBounds_toArray, List.set_cons_zero, List.set_cons_succ])
  refine wpAnyH_take (i := 8) (oi := _) (v := ?_) rfl (by kernel_rfl) (by kernel_rfl) (by kernel_rfl) (fun _ _ _ h => h) (Or.inl ⟨by kernel_rfl, ?_⟩) (by assumption) ?_
  rotate_left
  · (intro w hSw; (try dsimp only at hSw); go_simp; (try rw [if_neg (by first | omega | (simp only [ByteArray.size_append]; omega) | (simp only [ByteArray.size_append, ByteArray.size]; simp; omega))]); try (with_reducible rfl))
  (try simp only [List.getElem_toArray, List.getElem_cons_succ, List.getElem_cons_zero, Act.put, List.setIfInBounds_toArray, List.set_cons_zero, List.set_cons_succ])
  refine wpAnyH_take (i := 11) (oi := _) (v := ?_) rfl (by kernel_rfl) (by kernel_rfl) (by kernel_rfl) (fun _ _ _ h => h) (Or.inl ⟨by kernel_rfl, ?_⟩) (by assumption) ?_
  rotate_left
  · (intro w hSw; (try dsimp only at hSw); go_simp; (try rw [if_neg (by first | omega | (simp only [ByteArray.size_append]; omega) | (simp only [ByteArray.size_append, ByteArray.size]; simp; omega))]); try (with_reducible rfl))
  (try simp only [List.getElem_toArray, List.getElem_cons_succ, List.getElem_cons_zero, Act.put, List.setIfInBounds_toArray, List.set_cons_zero, List.set_cons_succ])
  refine wpAnyH_ready (rs := [12]) (by kernel_rfl) (by simp) ?_
  refine AllReadyH.cons (o := _) rfl (fun K hK => ?_) AllReadyH.nil
  go_simp
  first | refine hK.out _ _ ?_ (fun hHeld => ?_) | (go_wp2_with fail; refine hK.out _ _ ?_ (fun hHeld => ?_))
  · exact ⟨upA hb5' _, HCV.out _ (upA hb5' _)⟩
  clear hK K
  (try simp only [List.getElem_toArray, List.getElem_cons_succ, List.getElem_cons_zero, Act.put, List.setIfInBounds_toArray, List.set_cons_zero, List.set_cons_succ])
  refine wpAnyH_take (i := 13) (oi := _) (v := ?_) rfl (by kernel_rfl) (by kernel_rfl) (by kernel_rfl) (fun _ _ _ h => h) (Or.inl ⟨by kernel_rfl, ?_⟩) (by assumption) ?_
  rotate_left
  · (intro w hSw; (try dsimp only at hSw); go_simp; try (with_reducible rfl))
  (try simp only [List.getElem_toArray, List.getElem_cons_succ, List.getElem_cons_zero, Act.put, List.setIfInBounds_toArray, List.set_cons_zero, List.set_cons_succ])
  refine wpAnyH_done (by kernel_rfl) ?_ _
  refine NoPanic.normal ?_
  (try go_simp)
  have hsz4 : (s3 ++ { data := #[32, 59] } ++ s0).size ≤ 50000 := by
    rw [ByteArray.size_append, ByteArray.size_append]
    have : (({ data := #[32, 59] } : ByteArray)).size = 2 := rfl
    omega
  have hget : ∀ k : Nat, k < 4 → ∃ s : ByteArray, (#[Value.string s0, Value.string s1, Value.string s2, Value.string (s3 ++ { data := #[32, 59] } ++ s0)] : Array Value)[k]? = some (.string s) ∧ s.size ≤ 50000 := fun k hk => by
    rcases (by omega : k = 0 ∨ k = 1 ∨ k = 2 ∨ k = 3) with rfl | rfl | rfl | rfl
    · exact ⟨s0, rfl, by omega⟩
    · exact ⟨s1, rfl, by omega⟩
    · exact ⟨s2, rfl, by omega⟩
    · exact ⟨_, rfl, hsz4⟩
  have HGET := Lib.hid hget
  have hRow := heap_alloc_new w5 (.cells #[Value.string s0, Value.string s1, Value.string s2, Value.string (s3 ++ { data := #[32, 59] } ++ s0)] 9)
  have hbR := upA hb5' (.cells #[Value.string s0, Value.string s1, Value.string s2, Value.string (s3 ++ { data := #[32, 59] } ++ s0)] 9)
  have hBoxR := (heap_alloc_old w5 (.cells #[Value.string s0, Value.string s1, Value.string s2, Value.string (s3 ++ { data := #[32, 59] } ++ s0)] 9) (Array.getElem?_eq_some_iff.1 hBox5).1).trans hBox5
  clear hHeld hb5 hb5' hBox5 hb4 hb4' hBox4 hb3 hb3' hBox3 hs1 hs2 hs3 hs0 hget hsz4 HCV HTX HLN hBox hBox1 hb0 hb1
  generalize w5.alloc (.cells #[Value.string s0, Value.string s1, Value.string s2, Value.string (s3 ++ { data := #[32, 59] } ++ s0)] 9) = WR at *
  generalize (#[Value.string s0, Value.string s1, Value.string s2, Value.string (s3 ++ { data := #[32, 59] } ++ s0)] : Array Value) = RR at *
  generalize w5.heap.size = gR at *
  have hltR := (Array.getElem?_eq_some_iff.1 hRow).1
  have hltB := (Array.getElem?_eq_some_iff.1 hBoxR).1
  go_wp2_with fail
  go_loopw [52] (fun v wx => ∃ k : Nat, v = .int .i64 (k : Int) ∧ k ≤ 4 ∧ Below w.heap.size w wx ∧ Below WR.heap.size WR wx) (fun v _ => 4 - (intOf v).toNat)
  case atStart => exact ⟨0, rfl, by omega, hbR, up0 WR⟩
  case round =>
    obtain ⟨k, rfl, hk, hbw, hbx⟩ := hrel
    by_cases hkl : k < 4
    · obtain ⟨s, hsg, hsz⟩ := HGET.out k hkl
      obtain ⟨X, xa, xb, hpa, hpb, hfx⟩ := tells_parse s hsz
      have j1 : (k : Int) < 4 := by omega
      have j0 : (0 : Int) ≤ (k : Int) := by omega
      have hc : wr.cell? ⟨gR, k, none⟩ = some (.string s) := by
        rw [cell_of_row _ _ _ _ _ _ ((hbx.block gR hltR).trans hRow)]
        exact hsg
      have hbox := (hbx.block _ hltB).trans hBoxR
      have hneq := fun W => neq_it X X W hfx.a.a hfx.a.a hfx.a.b hfx.a.b
      simp only [decide_true, Bool.not_true] at hneq
      have HPA := Lib.hid hpa; have HPB := Lib.hid hpb; have HFX := Lib.hid hfx
      have HBW := Lib.hid hbw; have HBX := Lib.hid hbx; have HBOX := Lib.hid hbox
      clear hbw hbx hsg hpa hpb hfx hbox
      go_wp2_with (first
        | (go_at_call 8; refine (HPA.out _ (HT.out.below HBW.out)).mono ?_; rintro e w3 ⟨rfl, hb3⟩; have d3 := upT HBW.out hb3; have x3 := upT HBX.out hb3; have b3 := (hb3.block _ (Array.getElem?_eq_some_iff.1 HBOX.out).1).trans HBOX.out)
        | (refine wp_storeNew rfl _ _ rfl X rfl rfl ?_; intro W4 hI4 hc4 hz4; have d4 := upT d3 hc4; have x4 := upT x3 hc4; have b4 := (hc4.block _ (Array.getElem?_eq_some_iff.1 b3).1).trans b3))
      clear hc
      have l4 := (Array.getElem?_eq_some_iff.1 b4).1
      refine (HPB.out _).mono ?_
      rintro e w5 ⟨rfl, hb5⟩
      have d5 := upT d4 hb5; have x5 := upT x4 hb5
      have b5 := (hb5.block _ l4).trans b4
      have r5 := (hb5.block w3.heap.size (Array.getElem?_eq_some_iff.1 hI4).1).trans hI4
      clear hI4 hc4 hz4 hb3 b3 d3 x3 d4 x4 b4 l4 hb5
      go_wp2_with (first
        | (refine wp_storeNew rfl _ _ rfl X rfl rfl ?_; intro W6 hI6 hc6 hz6; clear hz6; have d6 := upT d5 hc6; have x6 := upT x5 hc6; have b6 := (hc6.block _ (Array.getElem?_eq_some_iff.1 b5).1).trans b5; have r6 := (hc6.block _ (Array.getElem?_eq_some_iff.1 r5).1).trans r5; have cx := fun k => cell_of_row _ _ k _ _ _ r6; have cy := fun k => cell_of_row _ _ k _ _ _ hI6; have cb := fun k => cell_of_row _ _ k _ _ _ b6))
      have hRL := heap_alloc_new W6 (.cells #[.int .i64 X.kind, .int .i64 X.n, .bool X.secret, .string (strOfNums X.name), .int .i64 X.ins.kind, .int .i64 X.ins.op, .int .i64 X.ins.d, .bool X.ins.a.reg, .int .i64 X.ins.a.n, .bool X.ins.b.reg, .int .i64 X.ins.b.n, .string (strOfNums X.ins.name), .int .i64 X.ins.target, .int .i64 it.kind, .int .i64 it.n, .bool it.secret, .string (strOfNums it.name), .int .i64 it.ins.kind, .int .i64 it.ins.op, .int .i64 it.ins.d, .bool it.ins.a.reg, .int .i64 it.ins.a.n, .bool it.ins.b.reg, .int .i64 it.ins.b.n, .string (strOfNums it.ins.name), .int .i64 it.ins.target] 29)
      have dL := upA d6 (.cells #[.int .i64 X.kind, .int .i64 X.n, .bool X.secret, .string (strOfNums X.name), .int .i64 X.ins.kind, .int .i64 X.ins.op, .int .i64 X.ins.d, .bool X.ins.a.reg, .int .i64 X.ins.a.n, .bool X.ins.b.reg, .int .i64 X.ins.b.n, .string (strOfNums X.ins.name), .int .i64 X.ins.target, .int .i64 it.kind, .int .i64 it.n, .bool it.secret, .string (strOfNums it.name), .int .i64 it.ins.kind, .int .i64 it.ins.op, .int .i64 it.ins.d, .bool it.ins.a.reg, .int .i64 it.ins.a.n, .bool it.ins.b.reg, .int .i64 it.ins.b.n, .string (strOfNums it.ins.name), .int .i64 it.ins.target] 29)
      have xL := upA x6 (.cells #[.int .i64 X.kind, .int .i64 X.n, .bool X.secret, .string (strOfNums X.name), .int .i64 X.ins.kind, .int .i64 X.ins.op, .int .i64 X.ins.d, .bool X.ins.a.reg, .int .i64 X.ins.a.n, .bool X.ins.b.reg, .int .i64 X.ins.b.n, .string (strOfNums X.ins.name), .int .i64 X.ins.target, .int .i64 it.kind, .int .i64 it.n, .bool it.secret, .string (strOfNums it.name), .int .i64 it.ins.kind, .int .i64 it.ins.op, .int .i64 it.ins.d, .bool it.ins.a.reg, .int .i64 it.ins.a.n, .bool it.ins.b.reg, .int .i64 it.ins.b.n, .string (strOfNums it.ins.name), .int .i64 it.ins.target] 29)
      clear cx cy cb r6 hI6 hc6 d6 x6 b6 r5 b5 d5 x5 hneq
      generalize W6.alloc (.cells #[.int .i64 X.kind, .int .i64 X.n, .bool X.secret, .string (strOfNums X.name), .int .i64 X.ins.kind, .int .i64 X.ins.op, .int .i64 X.ins.d, .bool X.ins.a.reg, .int .i64 X.ins.a.n, .bool X.ins.b.reg, .int .i64 X.ins.b.n, .string (strOfNums X.ins.name), .int .i64 X.ins.target, .int .i64 it.kind, .int .i64 it.n, .bool it.secret, .string (strOfNums it.name), .int .i64 it.ins.kind, .int .i64 it.ins.op, .int .i64 it.ins.d, .bool it.ins.a.reg, .int .i64 it.ins.a.n, .bool it.ins.b.reg, .int .i64 it.ins.b.n, .string (strOfNums it.ins.name), .int .i64 it.ins.target] 29) = WL at *
      generalize W6.heap.size = gL at *
      have hltL := (Array.getElem?_eq_some_iff.1 hRL).1
      go_loopw [85] (fun v wx => ∃ q : Nat, v = .int .i64 (q : Int) ∧ q ≤ 2 ∧ Below w.heap.size w wx ∧ Below WR.heap.size WR wx ∧ Below WL.heap.size WL wx) (fun v _ => 2 - (intOf v).toNat)
      case atStart => exact ⟨0, rfl, by omega, dL, xL, up0 WL⟩
      case round =>
        clear dL xL
        obtain ⟨q, rfl, hq, hb2, hx2, hl2⟩ := hrel
        have cL := fun j => cell_of_row _ _ j _ _ _ ((hl2.block gL hltL).trans hRL)
        have HB2 := Lib.hid hb2; have HX2 := Lib.hid hx2; have HL2 := Lib.hid hl2
        clear hb2 hx2 hl2
        by_cases hq2 : q < 2
        · rcases (by omega : q = 0 ∨ q = 1) with rfl | rfl
          · obtain ⟨t, tb, hpr, hps⟩ := tells_print X HFX.out
            have HPR := Lib.hid hpr; have HPS := Lib.hid hps
            clear hpr hps
            go_wp2_with (first
              | (refine wp_storeNew rfl _ _ rfl X rfl rfl ?_; intro W8 hI8 hc8 hz8; clear hz8; have d8 := upT HB2.out hc8; have x8 := upT HX2.out hc8; have l8 := upT HL2.out hc8)
              | (refine wp_loadIt rfl _ rfl wr.heap.size rfl X _ _ hI8 ?_))
            refine (HPR.out _ (HT.out.below d8)).mono ?_
            rintro e w9 ⟨rfl, hb9⟩
            have d9 := upT d8 hb9; have x9 := upT x8 hb9; have l9 := upT l8 hb9
            have r9 := (hb9.block wr.heap.size (Array.getElem?_eq_some_iff.1 hI8).1).trans hI8
            clear hI8 hc8 d8 x8 l8 hb9 cL
            go_wp2_with (refine wp_loadIt rfl _ rfl wr.heap.size rfl X _ _ r9 ?_)
            refine (HPS.out _).mono ?_
            rintro e w10 ⟨rfl, hb10⟩
            have d10 := upT d9 hb10; have x10 := upT x9 hb10; have l10 := upT l9 hb10
            clear d9 x9 l9 r9 hb10
            go_wp2_with fail
            go_roundw
            case rel => exact ⟨1, rfl, by omega, d10, x10, l10⟩
            case measure => simp [intOf]
          · obtain ⟨t, tb, hpr, hps⟩ := tells_print it HFI.out
            have HPR := Lib.hid hpr; have HPS := Lib.hid hps
            clear hpr hps
            go_wp2_with (first
              | (refine wp_storeNew rfl _ _ rfl it rfl rfl ?_; intro W8 hI8 hc8 hz8; clear hz8; have d8 := upT HB2.out hc8; have x8 := upT HX2.out hc8; have l8 := upT HL2.out hc8)
              | (refine wp_loadIt rfl _ rfl wr.heap.size rfl it _ _ hI8 ?_))
            refine (HPR.out _ (HT.out.below d8)).mono ?_
            rintro e w9 ⟨rfl, hb9⟩
            have d9 := upT d8 hb9; have x9 := upT x8 hb9; have l9 := upT l8 hb9
            have r9 := (hb9.block wr.heap.size (Array.getElem?_eq_some_iff.1 hI8).1).trans hI8
            clear hI8 hc8 d8 x8 l8 hb9 cL
            go_wp2_with (refine wp_loadIt rfl _ rfl wr.heap.size rfl it _ _ r9 ?_)
            refine (HPS.out _).mono ?_
            rintro e w10 ⟨rfl, hb10⟩
            have d10 := upT d9 hb10; have x10 := upT x9 hb10; have l10 := upT l9 hb10
            clear d9 x9 l9 r9 hb10
            go_wp2_with fail
            go_roundw
            case rel => exact ⟨2, rfl, by omega, d10, x10, l10⟩
            case measure => simp [intOf]
        · have q1 : ¬ (q : Int) < 2 := by omega
          clear cL
          go_wp2_with fail
          go_roundw
          case rel => exact ⟨k + 1, by go_num, by omega, HB2.out, HX2.out⟩
          case measure => simp [intOf]; omega
    · have i1 : ¬ (k : Int) < 4 := by omega
      go_wp2_with (go_at_call 9; refine (hal _ (HT.out.below hbw)).mono ?_; rintro e w9 ⟨rfl, hb9⟩)
      go_ret
      exact ⟨rfl, upT hbw hb9⟩
end
end Go.Proofs.YtcpbbkpfickfiaaDoor
