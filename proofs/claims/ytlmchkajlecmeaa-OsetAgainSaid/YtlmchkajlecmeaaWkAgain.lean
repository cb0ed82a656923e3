/- The walk of OsetAgain: it answers true, whatever it is given. -/
import Derived.Test.YtlmchkajlecmeaaAwake3
import Derived.Test.YtlmchkajlecmeaaOsLaw
set_option linter.unusedVariables false
set_option linter.unusedSimpArgs false
namespace Go.Proofs.Ytlmchkajlecmeaa
open Go.RowKit
theorem rev_at {l : List (List Int)} {n k : Nat} (hk : k < n) (hn : n ≤ l.length) : (l.take n).reverse.getD k [] = l.getD (n - 1 - k) [] := by
  have h1 : k < (l.take n).reverse.length := by simp; omega
  have h2 : n - 1 - k < l.length := by omega
  have e : min n l.length = n := by omega
  simp [List.getD, h1, h2, List.getElem_reverse, List.getElem_take, e]
  rw [List.getElem?_reverse (by simp; omega)]
  simp [e, List.getElem?_take, show n - 1 - k < n by omega, h2]
set_option maxRecDepth 100000 in
set_option maxHeartbeats 8000000 in
theorem walk_OsetAgain (A : Option Addr) (c : Nat) (l : List (List Int)) (w : World) (hlc : l.length ≤ c) (hcm : c ≤ maxLen) (hK : Kys w w.heap.size A l) :
    Calls Try.prog 5 #[.slice A l.length c] w (RetB (.bool true) w) := by
  have hmo : mostOf 100 = 100 := by decide
  simp only [maxLen] at hcm
  have HK := Lib.hid hK
  clear hK
  obtain ⟨n, hn⟩ : ∃ n : Nat, n = min l.length 40 := ⟨_, rfl⟩
  have hnl : n ≤ l.length := by omega
  have hn4 : n ≤ 40 := by omega
  have hmin : (if (40 : Int) < (l.length : Int) then (40 : Int) else (l.length : Int)) = (n : Int) := by split <;> omega
  clear hn
  generalize hln : l.length = ln at *
  have HLN := Lib.hid hln
  clear hln
  go_enter Try.func5, Try.ntmps5
  go_wp2_with fail
  refine (new_one 100 w w (up0 w)).mono ?_
  rintro e w1 ⟨ga, rfl, h1⟩
  rw [hmo] at h1
  go_wp2_with fail
  refine (h1.swap.new (cs_st _ _ _) 100).mono ?_
  rintro e w2 ⟨gb, rfl, h2⟩
  rw [hmo] at h2
  have h2 := h2.swap
  clear h1
  go_wp2_with fail
  obtain ⟨lr, hlr⟩ : ∃ lr, lr = (l.take n).reverse := ⟨_, rfl⟩
  have hlrl : lr.length = n := by rw [hlr, List.length_reverse, List.length_take, HLN.out]; omega
  have HLR := Lib.hid hlr; have HLRL := Lib.hid hlrl
  clear hlr hlrl
  go_loopw [6] (fun i wr => ∃ k : Nat, k ≤ n ∧ i = .int .i64 k ∧ Two w (Ivl w.heap.size wr.heap.size) wr (cs ga 100 (keysOf 100 (l.take k))) (cs gb 100 (keysOf 100 (lr.take k)))) (fun i _ => n - (intOf i).toNat)
  case atStart => exact ⟨0, by omega, rfl, h2⟩
  case round =>
    obtain ⟨k, hk, rfl, h3⟩ := hrel
    obtain ⟨wo, rfl⟩ : ∃ wo : World, wo = wr := ⟨_, rfl⟩
    have H3 := Lib.hid h3
    clear h3 h2
    by_cases hlt : k < n
    · obtain ⟨aL, Ax, cx, rfl, hbL, hcx, hxc, hcm', hrx, hBx, hgx⟩ := HK.out.at_ (i := k) (by rw [HLN.out]; omega)
      have hcell : wo.cell? (aL.add k) = some (.slice Ax (l.getD k []).length cx) := (H3.out.below.cell (by rw [adr_block]; exact hbL)).trans hcx
      have k0 : (0 : Int) ≤ (k : Int) := by omega
      have k1 : (k : Int) < (n : Int) := by omega
      have k2 : (k : Int) < (ln : Int) := by omega
      by_cases hx : (l.getD k []).length ≤ 100
      · obtain ⟨m, hm⟩ : ∃ m : Nat, m = n - 1 - k := ⟨_, rfl⟩
        have hmz : (n : Int) - 1 - (k : Int) = (m : Int) := by omega
        obtain ⟨aL', Ay, cy, e', hbL', hcy, hyc, hcm2, hry, hBy, hgy⟩ := HK.out.at_ (i := m) (by rw [HLN.out]; omega)
        cases e'
        have m0 : (0 : Int) ≤ (m : Int) := by omega
        have m2 : (m : Int) < (ln : Int) := by omega
        have hkt := keysOf_take (most := 100) (l := l) (i := k) (by rw [HLN.out]; omega)
        have hkt2 := keysOf_take (most := 100) (l := lr) (i := k) (by rw [HLRL.out]; omega)
        rw [HLR.out, rev_at hlt (by rw [HLN.out]; omega), ← hm, ← HLR.out] at hkt2
        have hx' : ¬ (100 : Int) < ((l.getD k []).length : Int) := by omega
        clear hm
        generalize l.getD k [] = x at *
        generalize l.getD m [] = y at *
        have hrxo := (hrx.below H3.out.below (Nat.le_refl _)).more H3.out.below.size
        have HRX := Lib.hid hrxo; have HKT := Lib.hid hkt; have HKT2 := Lib.hid hkt2; have HB := Lib.hid hBx; have HBY := Lib.hid hBy; have HX0 := Lib.hid hrx; have HY0 := Lib.hid hry; have HCY := Lib.hid hcy
        clear hrxo hkt hkt2 hBx hBy hrx hry hcx hcy
        go_wp2_with fail
        refine (H3.out.addR (cs_st _ _ _) rfl HRX.out HB.out hgx (H3.out.came HX0.out)).mono ?_
        rintro e w3 ⟨rfl, h4, hF4⟩
        rw [← HKT.out] at h4
        have hcell2 : w3.cell? (aL.add m) = some (.slice Ay y.length cy) := (h4.below.cell (by rw [adr_block]; exact hbL)).trans HCY.out
        have hryo := (HY0.out.below h4.below (Nat.le_refl _)).more h4.below.size
        clear hF4
        go_wp2_with fail
        refine (h4.swap.addR (cs_st _ _ _) rfl hryo HBY.out hgy (h4.swap.came HY0.out)).mono ?_
        rintro e w4 ⟨rfl, h5, hF5⟩
        rw [← HKT2.out] at h5
        clear hF5
        go_wp2_with fail
        go_round
        case measure => simp [intOf]; omega
        case rel => exact ⟨k + 1, by omega, by go_num, h5.swap.wide⟩
      · have hx' : (100 : Int) < ((l.getD k []).length : Int) := by omega
        generalize (l.getD k []).length = nx at *
        go_wp2_with (go_at_call 8; refine (awake3 _).mono ?_; rintro e w9 ⟨rfl, hb9⟩)
        go_ret
        exact RetB.b rfl rfl (H3.out.below.trans (hb9.mono H3.out.below.size))
    · have hke : k = n := by omega
      subst hke
      have hp : (keysOf 100 (l.take k)).Perm (keysOf 100 (lr.take k)) := by
        have e : lr.take k = (l.take k).reverse := by rw [List.take_of_length_le (by rw [HLRL.out]; omega), HLR.out]
        rw [e]
        exact keysOf_rev (by rw [List.length_take]; omega)
      have hlen := hp.length_eq
      have hrk : ∀ x, Os.rk (keysOf 100 (l.take k)) x = Os.rk (keysOf 100 (lr.take k)) x := fun x => hp.countP_eq _
      have hmA : ∀ i, i < k → l.getD i [] ∈ keysOf 100 (l.take k) := fun i hi => by
        rw [keysOf_mem (by rw [List.length_take]; omega), List.mem_iff_getElem?]
        have h1 : i < l.length := by rw [HLN.out]; omega
        exact ⟨i, by rw [List.getElem?_take, if_pos hi]; simp [List.getD, h1]⟩
      have hmB : ∀ i, i < k → l.getD i [] ∈ keysOf 100 (lr.take k) := fun i hi => (hp.mem_iff).1 (hmA i hi)
      have hndA := keysOf_nodup 100 (l.take k)
      have HRK := Lib.hid hrk; have HMA := Lib.hid hmA; have HMB := Lib.hid hmB
      clear hp hrk hmA hmB hmin
      generalize keysOf 100 (l.take k) = La at *
      generalize keysOf 100 (lr.take k) = Lb at *
      generalize hla : La.length = na at *
      have HLA := Lib.hid hla; have HLB := Lib.hid hlen; have HND := Lib.hid hndA
      clear hla hlen hndA
      go_wp2_with fail
      refine H3.out.len.mono ?_
      rintro e w' ⟨rfl, rfl⟩
      rw [HLA.out]
      go_wp2_with fail
      refine H3.out.swap.len.mono ?_
      rintro e w' ⟨rfl, rfl⟩
      rw [← HLB.out]
      go_wp2_with fail
      go_loopw [7] (fun vi wr => ∃ i : Nat, i ≤ k ∧ vi = .int .i64 i ∧ Two w (Ivl w.heap.size wr.heap.size) wr (cs ga 100 La) (cs gb 100 Lb)) (fun vi _ => k - (intOf vi).toNat)
      case atStart => exact ⟨0, by omega, rfl, H3.out⟩
      case round =>
        obtain ⟨i, hi, rfl, h4⟩ := hrel
        obtain ⟨u0, rfl⟩ : ∃ u0 : World, u0 = wr := ⟨_, rfl⟩
        have H4 := Lib.hid h4
        clear h4
        by_cases hlt2 : i < k
        · obtain ⟨aL, Ax, cx, rfl, hbL, hcx, hxc, hcm', hrx, hBx, hgx⟩ := HK.out.at_ (i := i) (by rw [HLN.out]; omega)
          have hcell : u0.cell? (aL.add i) = some (.slice Ax (l.getD i []).length cx) := (H4.out.below.cell (by rw [adr_block]; exact hbL)).trans hcx
          have hxA := HMA.out i hlt2
          have hxB := HMB.out i hlt2
          have i0 : (0 : Int) ≤ (i : Int) := by omega
          have i1 : (i : Int) < (k : Int) := by omega
          have i2 : (i : Int) < (ln : Int) := by omega
          generalize l.getD i [] = x at *
          obtain ⟨j, hj⟩ : ∃ j, Os.idx La x = some j := by
            cases h : Os.idx La x with
            | some j => exact ⟨j, rfl⟩
            | none => exact absurd hxA (Os.idx_none.1 h)
          obtain ⟨j', hj'⟩ : ∃ j, Os.idx Lb x = some j := by
            cases h : Os.idx Lb x with
            | some j => exact ⟨j, rfl⟩
            | none => exact absurd hxB (Os.idx_none.1 h)
          obtain ⟨hjl, hjk⟩ := Os.idx_some hj
          have hans : ansV 100 La x = .tuple #[.int .i64 (j : Int), .bool false, .bool true] := by unfold ansV; rw [Os.ans_old hj]
          have hput := Os.put_old (most := 100) hj
          have HANS := Lib.hid hans; have HPUT := Lib.hid hput; have HJB := Lib.hid hj'; have HJK := Lib.hid hjk; have HX0 := Lib.hid hrx; have HB := Lib.hid hBx; have HCX := Lib.hid hcx
          clear hans hput hj hj' hjk hxA hxB hrx hBx
          go_wp2_with fail
          refine (H4.out.addR (cs_st _ _ _) rfl ((HX0.out.below H4.out.below (Nat.le_refl _)).more H4.out.below.size) HB.out hgx (H4.out.came HX0.out)).mono ?_
          rintro e u1 ⟨rfl, h5, hF5⟩
          rw [HPUT.out] at h5
          rw [HANS.out]
          go_wp2_with fail
          refine (h5.at_ j).mono ?_
          intro e u2 hp
          have hp2 := hp.some hjl
          rw [HJK.out] at hp2
          obtain ⟨A8, c8, rfl, q1, q2, q3, q4, q5⟩ := hp2
          have h6 := h5.up (cs_st _ _ _) (cs_st _ _ _) q5
          have hA8 : Apart (fun q => Ivl w.heap.size u0.heap.size q ∨ Ivl u0.heap.size u1.heap.size q) A8 := fun ad e hk => by
            subst e
            have h7 := (q3.lt ad.block rfl).1
            rcases hk with hk | hk
            · have := hk.2; have := hF5.size; omega
            · have := hk.2; omega
          have hC : ∀ w' : World, Fr (fun q => Ivl w.heap.size u0.heap.size q ∨ Ivl u0.heap.size u1.heap.size q) u2 w' → w'.cell? (aL.add i) = some (.slice Ax x.length cx) ∧ (convert 25 9 (.slice A8 x.length c8)).run Try.prog w' = .ok (.string (strOfNums x)) w' ∧ (convert 25 9 (.slice Ax x.length cx)).run Try.prog w' = .ok (.string (strOfNums x)) w' := by
            intro w' hF
            have hb2 : Below w.heap.size w w' := h6.below.trans (hF.below (fun q hq => by rcases hq with hq | hq; exact hq.1; have := hq.1; have := H4.out.below.size; omega) h6.below.size)
            exact ⟨(hb2.cell (by rw [adr_block]; exact hbL)).trans HCX.out, conv_any (P := Try.prog) (q4.fr hF hA8) rfl 25 5 9 Try.underlying25 Try.underlying5 Try.underlying9,
              conv_any (P := Try.prog) ((HX0.out.below hb2 (Nat.le_refl _)).more hb2.size) rfl 25 5 9 Try.underlying25 Try.underlying5 Try.underlying9⟩
          have HC := Lib.hid hC; have H6 := Lib.hid h6
          have hr1 := HRK.out x
          clear hC h6 hp q3 q4 h5 hF5 hA8
          generalize hr2 : Os.rk La x = r at *
          have HR1 := Lib.hid hr1; have HR2 := Lib.hid hr2
          clear hr1 hr2
          go_wp2_with fail
          refine wp_region_noPanic ?_
          refine wp_region_held_drew (S := fun w' => w'.cell? (aL.add i) = some (.slice Ax x.length cx) ∧ (convert 25 9 (.slice A8 x.length c8)).run Try.prog w' = .ok (.string (strOfNums x)) w' ∧ (convert 25 9 (.slice Ax x.length cx)).run Try.prog w' = .ok (.string (strOfNums x)) w') (by kernel_rfl) ?_ (fun hHeld => ?_)
          · exact HC.out _ (Fr.of_below (upD (up0 u2) 1))
          refine wpAnyH_take (i := 0) (oi := _) (v := ?_) rfl (by kernel_rfl) (by kernel_rfl) (by kernel_rfl) (fun _ _ _ h => h) (Or.inl ⟨by kernel_rfl, ?_⟩) (by assumption) ?_
          rotate_left
          · (intro w hSw; (try dsimp only at hSw); go_simp; try (with_reducible rfl))
          (try simp only [List.getElem_toArray, List.getElem_cons_succ, List.getElem_cons_zero, Act.put, List.setIfInBounds_toArray, List.set_cons_zero, List.set_cons_succ])
          refine wpAnyH_take (i := 1) (oi := _) (v := ?_) rfl (by kernel_rfl) (by kernel_rfl) (by kernel_rfl) (fun _ _ _ h => h) (Or.inl ⟨by kernel_rfl, ?_⟩) (by assumption) ?_
          rotate_left
          · (intro w hSw; (try dsimp only at hSw); go_simp; try (with_reducible rfl))
          (try simp only [List.getElem_toArray, List.getElem_cons_succ, List.getElem_cons_zero, Act.put, List.setIfInBounds_toArray, List.set_cons_zero, List.set_cons_succ])
          refine wpAnyH_take (i := 2) (oi := _) (v := ?_) rfl (by kernel_rfl) (by kernel_rfl) (by kernel_rfl) (fun _ _ _ h => h) (Or.inl ⟨by kernel_rfl, ?_⟩) (by assumption) ?_
          rotate_left
          · (intro w hSw; (try dsimp only at hSw); go_simp; try (with_reducible rfl))
          (try simp only [List.getElem_toArray, List.getElem_cons_succ, List.getElem_cons_zero, Act.put, List.setIfInBounds_toArray, List.set_cons_zero, List.set_cons_succ])
          refine wpAnyH_take (i := 3) (oi := _) (v := ?_) rfl (by kernel_rfl) (by kernel_rfl) (by kernel_rfl) (fun _ _ _ h => h) (Or.inl ⟨by kernel_rfl, ?_⟩) (by assumption) ?_
          rotate_left
          · (intro w hSw; (try dsimp only at hSw); go_simp; try (with_reducible rfl))
          (try simp only [List.getElem_toArray, List.getElem_cons_succ, List.getElem_cons_zero, Act.put, List.setIfInBounds_toArray, List.set_cons_zero, List.set_cons_succ])
          refine wpAnyH_take (i := 4) (oi := _) (v := ?_) rfl (by kernel_rfl) (by kernel_rfl) (by kernel_rfl) (fun _ _ _ h => h) (Or.inl ⟨by kernel_rfl, ?_⟩) (by assumption) ?_
          rotate_left
          · (intro w hSw; (try dsimp only at hSw); go_simp; try (with_reducible rfl))
          (try simp only [List.getElem_toArray, List.getElem_cons_succ, List.getElem_cons_zero, Act.put, List.setIfInBounds_toArray, List.set_cons_zero, List.set_cons_succ])
          refine wpAnyH_take (i := 5) (oi := _) (v := ?_) rfl (by kernel_rfl) (by kernel_rfl) (by kernel_rfl) (fun _ _ _ h => h) (Or.inl ⟨by kernel_rfl, ?_⟩) (by assumption) ?_
          rotate_left
          · (intro w hSw; (try dsimp only at hSw); go_simp; try (with_reducible rfl))
          (try simp only [List.getElem_toArray, List.getElem_cons_succ, List.getElem_cons_zero, Act.put, List.setIfInBounds_toArray, List.set_cons_zero, List.set_cons_succ])
          refine wpAnyH_take (i := 6) (oi := _) (v := ?_) rfl (by kernel_rfl) (by kernel_rfl) (by kernel_rfl) (fun _ _ _ h => h) (Or.inl ⟨by kernel_rfl, ?_⟩) (by assumption) ?_
          rotate_left
          · (intro w hSw; (try dsimp only at hSw); go_simp; try (with_reducible rfl))
          (try simp only [List.getElem_toArray, List.getElem_cons_succ, List.getElem_cons_zero, Act.put, List.setIfInBounds_toArray, List.set_cons_zero, List.set_cons_succ])
          refine wpAnyH_take (i := 7) (oi := _) (v := ?_) rfl (by kernel_rfl) (by kernel_rfl) (by kernel_rfl) (fun _ _ _ h => h) (Or.inl ⟨by kernel_rfl, ?_⟩) (by assumption) ?_
          rotate_left
          · (intro w hSw; (try dsimp only at hSw); go_simp; try (with_reducible rfl))
          (try simp only [List.getElem_toArray, List.getElem_cons_succ, List.getElem_cons_zero, Act.put, List.setIfInBounds_toArray, List.set_cons_zero, List.set_cons_succ])
          refine wpAnyH_take (i := 8) (oi := _) (v := ?_) rfl (by kernel_rfl) (by kernel_rfl) (by kernel_rfl) (fun _ _ _ h => h) (Or.inl ⟨by kernel_rfl, ?_⟩) (by assumption) ?_
          rotate_left
          · (intro w hSw; (try dsimp only at hSw); go_simp; try (with_reducible rfl))
          (try simp only [List.getElem_toArray, List.getElem_cons_succ, List.getElem_cons_zero, Act.put, List.setIfInBounds_toArray, List.set_cons_zero, List.set_cons_succ])
          refine wpAnyH_take (i := 9) (oi := _) (v := ?_) rfl (by kernel_rfl) (by kernel_rfl) (by kernel_rfl) (fun _ _ _ h => h) (Or.inl ⟨by kernel_rfl, ?_⟩) (by assumption) ?_
          rotate_left
          · (intro w hSw; (try dsimp only at hSw); go_simp; try (with_reducible rfl))
          (try simp only [List.getElem_toArray, List.getElem_cons_succ, List.getElem_cons_zero, Act.put, List.setIfInBounds_toArray, List.set_cons_zero, List.set_cons_succ])
          refine wpAnyH_take (i := 10) (oi := _) (v := ?_) rfl (by kernel_rfl) (by kernel_rfl) (by kernel_rfl) (fun _ _ _ h => h) (Or.inl ⟨by kernel_rfl, ?_⟩) (by assumption) ?_
          rotate_left
          · (intro w hSw; (try dsimp only at hSw); go_simp; try (with_reducible rfl))
          (try simp only [List.getElem_toArray, List.getElem_cons_succ, List.getElem_cons_zero, Act.put, List.setIfInBounds_toArray, List.set_cons_zero, List.set_cons_succ])
          refine wpAnyH_take (i := 11) (oi := _) (v := ?_) rfl (by kernel_rfl) (by kernel_rfl) (by kernel_rfl) (fun _ _ _ h => h) (Or.inl ⟨by kernel_rfl, ?_⟩) (by assumption) ?_
          rotate_left
          · (intro w hSw; (try dsimp only at hSw); go_simp; try (with_reducible rfl))
          (try simp only [List.getElem_toArray, List.getElem_cons_succ, List.getElem_cons_zero, Act.put, List.setIfInBounds_toArray, List.set_cons_zero, List.set_cons_succ])
          refine wpAnyH_take (i := 12) (oi := _) (v := ?_) rfl (by kernel_rfl) (by kernel_rfl) (by kernel_rfl) (fun _ _ _ h => h) (Or.inl ⟨by kernel_rfl, ?_⟩) (by assumption) ?_
          rotate_left
          · (intro w hSw; (try dsimp only at hSw); go_simp; try (with_reducible rfl))
          (try simp only [List.getElem_toArray, List.getElem_cons_succ, List.getElem_cons_zero, Act.put, List.setIfInBounds_toArray, List.set_cons_zero, List.set_cons_succ])
          refine wpAnyH_take (i := 13) (oi := _) (v := ?_) rfl (by kernel_rfl) (by kernel_rfl) (by kernel_rfl) (fun _ _ _ h => h) (Or.inl ⟨by kernel_rfl, ?_⟩) (by assumption) ?_
          rotate_left
          · (intro w hSw; (try dsimp only at hSw); go_simp; try (with_reducible rfl))
          (try simp only [List.getElem_toArray, List.getElem_cons_succ, List.getElem_cons_zero, Act.put, List.setIfInBounds_toArray, List.set_cons_zero, List.set_cons_succ])
          refine wpAnyH_take (i := 14) (oi := _) (v := ?_) rfl (by kernel_rfl) (by kernel_rfl) (by kernel_rfl) (fun _ _ _ h => h) (Or.inl ⟨by kernel_rfl, ?_⟩) (by assumption) ?_
          rotate_left
          · (intro w hSw; (try dsimp only at hSw); go_simp; try (with_reducible rfl))
          (try simp only [List.getElem_toArray, List.getElem_cons_succ, List.getElem_cons_zero, Act.put, List.setIfInBounds_toArray, List.set_cons_zero, List.set_cons_succ])
          refine wpAnyH_take (i := 15) (oi := _) (v := ?_) rfl (by kernel_rfl) (by kernel_rfl) (by kernel_rfl) (fun _ _ _ h => h) (Or.inl ⟨by kernel_rfl, ?_⟩) (by assumption) ?_
          rotate_left
          · (intro w hSw; (try dsimp only at hSw); go_simp; try (with_reducible rfl))
          (try simp only [List.getElem_toArray, List.getElem_cons_succ, List.getElem_cons_zero, Act.put, List.setIfInBounds_toArray, List.set_cons_zero, List.set_cons_succ])
          refine wpAnyH_take (i := 16) (oi := _) (v := ?_) rfl (by kernel_rfl) (by kernel_rfl) (by kernel_rfl) (fun _ _ _ h => h) (Or.inl ⟨by kernel_rfl, ?_⟩) (by assumption) ?_
          rotate_left
          · (intro w hSw; (try dsimp only at hSw); go_simp; try (with_reducible rfl))
          (try simp only [List.getElem_toArray, List.getElem_cons_succ, List.getElem_cons_zero, Act.put, List.setIfInBounds_toArray, List.set_cons_zero, List.set_cons_succ])
          refine wpAnyH_take (i := 17) (oi := _) (v := ?_) rfl (by kernel_rfl) (by kernel_rfl) (by kernel_rfl) (fun _ _ _ h => h) (Or.inl ⟨by kernel_rfl, ?_⟩) (by assumption) ?_
          rotate_left
          · (intro w hSw; (try dsimp only at hSw); go_simp; try (with_reducible rfl))
          (try simp only [List.getElem_toArray, List.getElem_cons_succ, List.getElem_cons_zero, Act.put, List.setIfInBounds_toArray, List.set_cons_zero, List.set_cons_succ])
          refine wpAnyH_take (i := 18) (oi := _) (v := ?_) rfl (by kernel_rfl) (by kernel_rfl) (by kernel_rfl) (fun _ _ _ h => h) (Or.inl ⟨by kernel_rfl, ?_⟩) (by assumption) ?_
          rotate_left
          · (intro w hSw; (try dsimp only at hSw); go_simp; try (with_reducible rfl))
          (try simp only [List.getElem_toArray, List.getElem_cons_succ, List.getElem_cons_zero, Act.put, List.setIfInBounds_toArray, List.set_cons_zero, List.set_cons_succ])
          refine wpAnyH_take (i := 19) (oi := _) (v := ?_) rfl (by kernel_rfl) (by kernel_rfl) (by kernel_rfl) (fun _ _ _ h => h) (Or.inl ⟨by kernel_rfl, ?_⟩) (by assumption) ?_
          rotate_left
          · (intro w hSw; (try dsimp only at hSw); go_simp; try (with_reducible rfl))
          (try simp only [List.getElem_toArray, List.getElem_cons_succ, List.getElem_cons_zero, Act.put, List.setIfInBounds_toArray, List.set_cons_zero, List.set_cons_succ])
          refine wpAnyH_take (i := 20) (oi := _) (v := ?_) rfl (by kernel_rfl) (by kernel_rfl) (by kernel_rfl) (fun _ _ _ h => h) (Or.inl ⟨by kernel_rfl, ?_⟩) (by assumption) ?_
          rotate_left
          · (intro w hSw; (try dsimp only at hSw); go_simp; try (with_reducible rfl))
          (try simp only [List.getElem_toArray, List.getElem_cons_succ, List.getElem_cons_zero, Act.put, List.setIfInBounds_toArray, List.set_cons_zero, List.set_cons_succ])
          refine wpAnyH_take (i := 21) (oi := _) (v := ?_) rfl (by kernel_rfl) (by kernel_rfl) (by kernel_rfl) (fun _ _ _ h => h) (Or.inl ⟨by kernel_rfl, ?_⟩) (by assumption) ?_
          rotate_left
          · (intro w hSw; (try dsimp only at hSw); go_simp; try (with_reducible rfl))
          (try simp only [List.getElem_toArray, List.getElem_cons_succ, List.getElem_cons_zero, Act.put, List.setIfInBounds_toArray, List.set_cons_zero, List.set_cons_succ])
          refine wpAnyH_take (i := 22) (oi := _) (v := ?_) rfl (by kernel_rfl) (by kernel_rfl) (by kernel_rfl) (fun _ _ _ h => h) (Or.inl ⟨by kernel_rfl, ?_⟩) (by assumption) ?_
          rotate_left
          · (intro w hSw; (try dsimp only at hSw); go_simp; try (with_reducible rfl))
          (try simp only [List.getElem_toArray, List.getElem_cons_succ, List.getElem_cons_zero, Act.put, List.setIfInBounds_toArray, List.set_cons_zero, List.set_cons_succ])
          refine wpAnyH_take (i := 23) (oi := _) (v := ?_) rfl (by kernel_rfl) (by kernel_rfl) (by kernel_rfl) (fun _ _ _ h => h) (Or.inl ⟨by kernel_rfl, ?_⟩) (by assumption) ?_
          rotate_left
          · (intro w hSw; (try dsimp only at hSw); go_simp; try (with_reducible rfl))
          (try simp only [List.getElem_toArray, List.getElem_cons_succ, List.getElem_cons_zero, Act.put, List.setIfInBounds_toArray, List.set_cons_zero, List.set_cons_succ])
          refine wpAnyH_take (i := 24) (oi := _) (v := ?_) rfl (by kernel_rfl) (by kernel_rfl) (by kernel_rfl) (fun _ _ _ h => h) (Or.inl ⟨by kernel_rfl, ?_⟩) (by assumption) ?_
          rotate_left
          · (intro w hSw; (try dsimp only at hSw); go_simp; try (with_reducible rfl))
          (try simp only [List.getElem_toArray, List.getElem_cons_succ, List.getElem_cons_zero, Act.put, List.setIfInBounds_toArray, List.set_cons_zero, List.set_cons_succ])
          refine wpAnyH_take (i := 26) (oi := _) (v := ?_) rfl (by kernel_rfl) (by kernel_rfl) (by kernel_rfl) (fun _ _ _ h => h) (Or.inl ⟨by kernel_rfl, ?_⟩) (by assumption) ?_
          rotate_left
          · (intro w hSw; (try dsimp only at hSw); go_simp; try (with_reducible rfl))
          (try simp only [List.getElem_toArray, List.getElem_cons_succ, List.getElem_cons_zero, Act.put, List.setIfInBounds_toArray, List.set_cons_zero, List.set_cons_succ])
          refine wpAnyH_take (i := 27) (oi := _) (v := ?_) rfl (by kernel_rfl) (by kernel_rfl) (by kernel_rfl) (fun _ _ _ h => h) (Or.inl ⟨by kernel_rfl, ?_⟩) (by assumption) ?_
          rotate_left
          · (intro w hSw; (try dsimp only at hSw); go_simp; try (with_reducible rfl))
          (try simp only [List.getElem_toArray, List.getElem_cons_succ, List.getElem_cons_zero, Act.put, List.setIfInBounds_toArray, List.set_cons_zero, List.set_cons_succ])
          refine wpAnyH_take (i := 28) (oi := _) (v := ?_) rfl (by kernel_rfl) (by kernel_rfl) (by kernel_rfl) (fun _ _ _ h => h) (Or.inl ⟨by kernel_rfl, ?_⟩) (by assumption) ?_
          rotate_left
          · (intro w hSw; (try dsimp only at hSw); go_simp; try (with_reducible rfl))
          (try simp only [List.getElem_toArray, List.getElem_cons_succ, List.getElem_cons_zero, Act.put, List.setIfInBounds_toArray, List.set_cons_zero, List.set_cons_succ])
          refine wpAnyH_take (i := 29) (oi := _) (v := ?_) rfl (by kernel_rfl) (by kernel_rfl) (by kernel_rfl) (fun _ _ _ h => h) (Or.inl ⟨by kernel_rfl, ?_⟩) (by assumption) ?_
          rotate_left
          · (intro w hSw; (try dsimp only at hSw); go_simp; try (with_reducible rfl))
          (try simp only [List.getElem_toArray, List.getElem_cons_succ, List.getElem_cons_zero, Act.put, List.setIfInBounds_toArray, List.set_cons_zero, List.set_cons_succ])
          refine wpAnyH_take (i := 30) (oi := _) (v := ?_) rfl (by kernel_rfl) (by kernel_rfl) (by kernel_rfl) (fun _ _ _ h => h) (Or.inl ⟨by kernel_rfl, ?_⟩) (by assumption) ?_
          rotate_left
          · (intro w hSw; (try dsimp only at hSw); go_simp; try (with_reducible rfl))
          (try simp only [List.getElem_toArray, List.getElem_cons_succ, List.getElem_cons_zero, Act.put, List.setIfInBounds_toArray, List.set_cons_zero, List.set_cons_succ])
          have h7 := H6.out.up (cs_st _ _ _) (cs_st _ _ _) (upD (up0 u2) 1)
          have hr7 := (HX0.out.below h7.below (Nat.le_refl _)).more h7.below.size
          refine wpAnyH_ready (rs := [25]) (by kernel_rfl) (by simp) ?_
          refine AllReadyH.cons (o := _) rfl (fun K hK => ?_) AllReadyH.nil
          go_simp
          go_at_call 14
          refine (h7.rankR (cs_st _ _ _) rfl hr7 HB.out hgx (h7.came HX0.out)).mono ?_
          rintro e u3 ⟨rfl, h8, hF8⟩
          rw [HR2.out]
          first | refine hK.out _ _ ?_ (fun hHeld => ?_) | (go_wp2_with fail; refine hK.out _ _ ?_ (fun hHeld => ?_))
          · exact HC.out _ (Fr.of_drew 1 hF8)
          clear hK K
          (try simp only [List.getElem_toArray, List.getElem_cons_succ, List.getElem_cons_zero, Act.put, List.setIfInBounds_toArray, List.set_cons_zero, List.set_cons_succ])
          have hr8 := (HX0.out.below h8.below (Nat.le_refl _)).more h8.below.size
          refine wpAnyH_ready (rs := [31]) (by kernel_rfl) (by simp) ?_
          refine AllReadyH.cons (o := _) rfl (fun K hK => ?_) AllReadyH.nil
          go_simp
          go_at_call 14
          refine (h8.swap.rankR (cs_st _ _ _) rfl hr8 HB.out hgx (h8.swap.came HX0.out)).mono ?_
          rintro e u4 ⟨rfl, h9, hF9⟩
          rw [← HR1.out]
          first | refine hK.out _ _ ?_ (fun hHeld => ?_) | (go_wp2_with fail; refine hK.out _ _ ?_ (fun hHeld => ?_))
          · exact HC.out _ ((Fr.of_drew 1 hF8).trans hF9 (fun q hq => hq.imp id (fun h => h.1)))
          clear hK K
          (try simp only [List.getElem_toArray, List.getElem_cons_succ, List.getElem_cons_zero, Act.put, List.setIfInBounds_toArray, List.set_cons_zero, List.set_cons_succ])
          refine wpAnyH_take (i := 32) (oi := _) (v := ?_) rfl (by kernel_rfl) (by kernel_rfl) (by kernel_rfl) (fun _ _ _ h => h) (Or.inl ⟨by kernel_rfl, ?_⟩) (by assumption) ?_
          rotate_left
          · (intro w hSw; (try dsimp only at hSw); go_simp; try (with_reducible rfl))
          (try simp only [List.getElem_toArray, List.getElem_cons_succ, List.getElem_cons_zero, Act.put, List.setIfInBounds_toArray, List.set_cons_zero, List.set_cons_succ])
          refine wpAnyH_take (i := 33) (oi := _) (v := ?_) rfl (by kernel_rfl) (by kernel_rfl) (by kernel_rfl) (fun _ _ _ h => h) (Or.inl ⟨by kernel_rfl, ?_⟩) (by assumption) ?_
          rotate_left
          · (intro w hSw; (try dsimp only at hSw); go_simp; try (with_reducible rfl))
          (try simp only [List.getElem_toArray, List.getElem_cons_succ, List.getElem_cons_zero, Act.put, List.setIfInBounds_toArray, List.set_cons_zero, List.set_cons_succ])
          refine wpAnyH_take (i := 34) (oi := _) (v := ?_) rfl (by kernel_rfl) (by kernel_rfl) (by kernel_rfl) (fun _ _ _ h => h) (Or.inl ⟨by kernel_rfl, ?_⟩) (by assumption) ?_
          rotate_left
          · (intro w hSw; (try dsimp only at hSw); go_simp; try (with_reducible rfl))
          (try simp only [List.getElem_toArray, List.getElem_cons_succ, List.getElem_cons_zero, Act.put, List.setIfInBounds_toArray, List.set_cons_zero, List.set_cons_succ])
          refine wpAnyH_take (i := 35) (oi := _) (v := ?_) rfl (by kernel_rfl) (by kernel_rfl) (by kernel_rfl) (fun _ _ _ h => h) (Or.inl ⟨by kernel_rfl, ?_⟩) (by assumption) ?_
          rotate_left
          · (intro w hSw; (try dsimp only at hSw); go_simp; try (with_reducible rfl))
          (try simp only [List.getElem_toArray, List.getElem_cons_succ, List.getElem_cons_zero, Act.put, List.setIfInBounds_toArray, List.set_cons_zero, List.set_cons_succ])
          refine wpAnyH_take (i := 36) (oi := _) (v := ?_) rfl (by kernel_rfl) (by kernel_rfl) (by kernel_rfl) (fun _ _ _ h => h) (Or.inl ⟨by kernel_rfl, ?_⟩) (by assumption) ?_
          rotate_left
          · (intro w hSw; (try dsimp only at hSw); go_simp; try (with_reducible rfl))
          (try simp only [List.getElem_toArray, List.getElem_cons_succ, List.getElem_cons_zero, Act.put, List.setIfInBounds_toArray, List.set_cons_zero, List.set_cons_succ])
          refine wpAnyH_take (i := 37) (oi := _) (v := ?_) rfl (by kernel_rfl) (by kernel_rfl) (by kernel_rfl) (fun _ _ _ h => h) (Or.inl ⟨by kernel_rfl, ?_⟩) (by assumption) ?_
          rotate_left
          · (intro w hSw; (try dsimp only at hSw); go_simp; try (with_reducible rfl))
          (try simp only [List.getElem_toArray, List.getElem_cons_succ, List.getElem_cons_zero, Act.put, List.setIfInBounds_toArray, List.set_cons_zero, List.set_cons_succ])
          refine wpAnyH_take (i := 38) (oi := _) (v := ?_) rfl (by kernel_rfl) (by kernel_rfl) (by kernel_rfl) (fun _ _ _ h => h) (Or.inl ⟨by kernel_rfl, ?_⟩) (by assumption) ?_
          rotate_left
          · (intro w hSw; (try dsimp only at hSw); go_simp; try (with_reducible rfl))
          (try simp only [List.getElem_toArray, List.getElem_cons_succ, List.getElem_cons_zero, Act.put, List.setIfInBounds_toArray, List.set_cons_zero, List.set_cons_succ])
          refine wpAnyH_take (i := 39) (oi := _) (v := ?_) rfl (by kernel_rfl) (by kernel_rfl) (by kernel_rfl) (fun _ _ _ h => h) (Or.inl ⟨by kernel_rfl, ?_⟩) (by assumption) ?_
          rotate_left
          · (intro w hSw; (try dsimp only at hSw); go_simp; try (with_reducible rfl))
          (try simp only [List.getElem_toArray, List.getElem_cons_succ, List.getElem_cons_zero, Act.put, List.setIfInBounds_toArray, List.set_cons_zero, List.set_cons_succ])
          have hr9 := (HX0.out.below h9.below (Nat.le_refl _)).more h9.below.size
          refine wpAnyH_ready (rs := [40]) (by kernel_rfl) (by simp) ?_
          refine AllReadyH.cons (o := _) rfl (fun K hK => ?_) AllReadyH.nil
          go_simp
          go_at_call 12
          refine (h9.has rfl hr9 HB.out hgx).mono ?_
          rintro e u5 ⟨rfl, q9, rfl⟩
          rw [HJB.out]
          first | refine hK.out _ _ ?_ (fun hHeld => ?_) | (go_wp2_with fail; refine hK.out _ _ ?_ (fun hHeld => ?_))
          · exact HC.out _ (((Fr.of_drew 1 hF8).trans hF9 (fun q hq => hq.imp id (fun h => h.1))).up (upD (up0 _) q9))
          clear hK K
          (try simp only [List.getElem_toArray, List.getElem_cons_succ, List.getElem_cons_zero, Act.put, List.setIfInBounds_toArray, List.set_cons_zero, List.set_cons_succ])
          refine wpAnyH_take (i := 41) (oi := _) (v := ?_) rfl (by kernel_rfl) (by kernel_rfl) (by kernel_rfl) (fun _ _ _ h => h) (Or.inl ⟨by kernel_rfl, ?_⟩) (by assumption) ?_
          rotate_left
          · (intro w hSw; (try dsimp only at hSw); go_simp; try (with_reducible rfl))
          (try simp only [List.getElem_toArray, List.getElem_cons_succ, List.getElem_cons_zero, Act.put, List.setIfInBounds_toArray, List.set_cons_zero, List.set_cons_succ])
          refine wpAnyH_take (i := 42) (oi := _) (v := ?_) rfl (by kernel_rfl) (by kernel_rfl) (by kernel_rfl) (fun _ _ _ h => h) (Or.inl ⟨by kernel_rfl, ?_⟩) (by assumption) ?_
          rotate_left
          · (intro w hSw; (try dsimp only at hSw); go_simp; try (with_reducible rfl))
          (try simp only [List.getElem_toArray, List.getElem_cons_succ, List.getElem_cons_zero, Act.put, List.setIfInBounds_toArray, List.set_cons_zero, List.set_cons_succ])
          refine wpAnyH_done (by kernel_rfl) ?_ _
          refine NoPanic.normal ?_
          (try go_simp)
          go_wp2_with fail
          go_round
          case measure => simp [intOf]; omega
          case rel => exact ⟨i + 1, by omega, by go_num, (h9.swap.up (cs_st _ _ _) (cs_st _ _ _) (upD (up0 _) q9)).wide⟩
        · have hie : ¬ (i : Int) < (k : Int) := by omega
          go_wp2_with (go_at_call 8; refine (awake3 _).mono ?_; rintro e w9 ⟨rfl, hb9⟩)
          go_ret
          exact RetB.b rfl rfl (H4.out.below.trans (hb9.mono H4.out.below.size))
end Go.Proofs.Ytlmchkajlecmeaa
