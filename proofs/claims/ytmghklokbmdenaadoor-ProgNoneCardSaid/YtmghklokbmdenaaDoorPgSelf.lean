/- The document's own SameProg, of a program and one that reads the same. -/
import Derived.Test.YtmghklokbmdenaaDoorMgPp
set_option linter.unusedVariables false
set_option linter.unusedSimpArgs false
namespace Go.Proofs.YtmghklokbmdenaaDoor
open Go.RowKit
theorem neq_arr (a0 a1 a2 a3 : Int) (w : World) : (binOp .neq 24 (.agg #[.int .i64 a0, .int .i64 a1, .int .i64 a2, .int .i64 a3]) (.agg #[.int .i64 a0, .int .i64 a1, .int .i64 a2, .int .i64 a3])).run Tryd.prog w = .ok (.bool false) w := by
  rw [run_neq_struct, eq_arr 9997, decide_eq_true rfl]
  rfl
set_option maxRecDepth 100000 in
set_option maxHeartbeats 32000000 in
theorem rsame_self (a : Pg.Pr) (aM aL aI bM bL bI : Value) (w : World) (ha : PrIn w a aM aL aI) (hb : PrIn w a bM bL bI) (oa : PrOk a) : Calls Tryd.prog 10 #[.agg (PrA a aM aL aI), .agg (PrA a bM bL bI)] w (RetB (.bool true) w) := by
  obtain ⟨r0, r1, r2, r3, hra⟩ := list4 oa.r4
  have hM := fun x hx => isB_lt (oa.mems x hx).2
  have hL := fun x hx => isB_lt (oa.labels x hx).2
  have hI := fun x hx => isB_lt (oa.ins x hx).2
  have hfew := oa.few
  obtain ⟨A1, c1, rfl, hcap1, hmx1, hA1⟩ := ha.rM
  obtain ⟨A2, c2, rfl, hcap2, hmx2, hA2⟩ := ha.rL
  obtain ⟨A3, c3, rfl, hcap3, hmx3, hA3⟩ := ha.rI
  obtain ⟨B1, d1, rfl, hdap1, hnx1, hB1⟩ := hb.rM
  obtain ⟨B2, d2, rfl, hdap2, hnx2, hB2⟩ := hb.rL
  obtain ⟨B3, d3, rfl, hdap3, hnx3, hB3⟩ := hb.rI
  clear ha hb oa
  obtain ⟨aw, awin, afuel, aregs, am, al, ai⟩ := a
  simp only at hra hM hL hI hfew hcap1 hcap2 hcap3 hdap1 hdap2 hdap3 hA1 hA2 hA3 hB1 hB2 hB3 ⊢
  subst hra
  obtain ⟨hf1, hf2, hf3⟩ := hfew
  have hR := fun W => neq_arr r0 r1 r2 r3 W
  have hBA : ((w.alloc (.cells (PrA ⟨aw, awin, afuel, [r0, r1, r2, r3], am, al, ai⟩ (.slice A1 am.length c1) (.slice A2 al.length c2) (.slice A3 ai.length c3)) 29)).alloc (.cells (PrA ⟨aw, awin, afuel, [r0, r1, r2, r3], am, al, ai⟩ (.slice B1 am.length d1) (.slice B2 al.length d2) (.slice B3 ai.length d3)) 29)).heap[w.heap.size]? = some (.cells (PrA ⟨aw, awin, afuel, [r0, r1, r2, r3], am, al, ai⟩ (.slice A1 am.length c1) (.slice A2 al.length c2) (.slice A3 ai.length c3)) 29 (0, 0)) := (heap_alloc_old _ _ (by simp)).trans (heap_alloc_new w _)
  have hBB : ((w.alloc (.cells (PrA ⟨aw, awin, afuel, [r0, r1, r2, r3], am, al, ai⟩ (.slice A1 am.length c1) (.slice A2 al.length c2) (.slice A3 ai.length c3)) 29)).alloc (.cells (PrA ⟨aw, awin, afuel, [r0, r1, r2, r3], am, al, ai⟩ (.slice B1 am.length d1) (.slice B2 al.length d2) (.slice B3 ai.length d3)) 29)).heap[w.heap.size + 1]? = some (.cells (PrA ⟨aw, awin, afuel, [r0, r1, r2, r3], am, al, ai⟩ (.slice B1 am.length d1) (.slice B2 al.length d2) (.slice B3 ai.length d3)) 29 (0, 0)) := by
    have h := heap_alloc_new (w.alloc (.cells (PrA ⟨aw, awin, afuel, [r0, r1, r2, r3], am, al, ai⟩ (.slice A1 am.length c1) (.slice A2 al.length c2) (.slice A3 ai.length c3)) 29)) (.cells (PrA ⟨aw, awin, afuel, [r0, r1, r2, r3], am, al, ai⟩ (.slice B1 am.length d1) (.slice B2 al.length d2) (.slice B3 ai.length d3)) 29)
    rwa [show (w.alloc (.cells (PrA ⟨aw, awin, afuel, [r0, r1, r2, r3], am, al, ai⟩ (.slice A1 am.length c1) (.slice A2 al.length c2) (.slice A3 ai.length c3)) 29)).heap.size = w.heap.size + 1 by simp] at h
  have HK0 := Lib.hid (show Below w.heap.size w ((w.alloc (.cells (PrA ⟨aw, awin, afuel, [r0, r1, r2, r3], am, al, ai⟩ (.slice A1 am.length c1) (.slice A2 al.length c2) (.slice A3 ai.length c3)) 29)).alloc (.cells (PrA ⟨aw, awin, afuel, [r0, r1, r2, r3], am, al, ai⟩ (.slice B1 am.length d1) (.slice B2 al.length d2) (.slice B3 ai.length d3)) 29)) ∧ ((w.alloc (.cells (PrA ⟨aw, awin, afuel, [r0, r1, r2, r3], am, al, ai⟩ (.slice A1 am.length c1) (.slice A2 al.length c2) (.slice A3 ai.length c3)) 29)).alloc (.cells (PrA ⟨aw, awin, afuel, [r0, r1, r2, r3], am, al, ai⟩ (.slice B1 am.length d1) (.slice B2 al.length d2) (.slice B3 ai.length d3)) 29)).heap[w.heap.size]? = some (.cells (PrA ⟨aw, awin, afuel, [r0, r1, r2, r3], am, al, ai⟩ (.slice A1 am.length c1) (.slice A2 al.length c2) (.slice A3 ai.length c3)) 29 (0, 0)) ∧ ((w.alloc (.cells (PrA ⟨aw, awin, afuel, [r0, r1, r2, r3], am, al, ai⟩ (.slice A1 am.length c1) (.slice A2 al.length c2) (.slice A3 ai.length c3)) 29)).alloc (.cells (PrA ⟨aw, awin, afuel, [r0, r1, r2, r3], am, al, ai⟩ (.slice B1 am.length d1) (.slice B2 al.length d2) (.slice B3 ai.length d3)) 29)).heap[w.heap.size + 1]? = some (.cells (PrA ⟨aw, awin, afuel, [r0, r1, r2, r3], am, al, ai⟩ (.slice B1 am.length d1) (.slice B2 al.length d2) (.slice B3 ai.length d3)) 29 (0, 0)) from ⟨upA (upA (up0 w) _) _, hBA, hBB⟩)
  have HM := Lib.hid hM; have HL := Lib.hid hL; have HI := Lib.hid hI
  have HA1 := Lib.hid hA1; have HA2 := Lib.hid hA2; have HA3 := Lib.hid hA3; have HB1 := Lib.hid hB1; have HB2 := Lib.hid hB2; have HB3 := Lib.hid hB3
  clear hM hL hI hA1 hA2 hA3 hB1 hB2 hB3 hBA hBB
  go_enter Tryd.func10, Tryd.ntmps10
  go_wp2_with fail
  go_loopw [5] (fun v5 wr => ∃ j : Nat, v5 = .int .i64 (j : Int) ∧ j ≤ am.length ∧ Below w.heap.size w wr ∧ wr.heap[w.heap.size]? = some (.cells (PrA ⟨aw, awin, afuel, [r0, r1, r2, r3], am, al, ai⟩ (.slice A1 am.length c1) (.slice A2 al.length c2) (.slice A3 ai.length c3)) 29 (0, 0)) ∧ wr.heap[w.heap.size + 1]? = some (.cells (PrA ⟨aw, awin, afuel, [r0, r1, r2, r3], am, al, ai⟩ (.slice B1 am.length d1) (.slice B2 al.length d2) (.slice B3 ai.length d3)) 29 (0, 0))) (fun v5 _ => am.length - (intOf v5).toNat)
  case atStart => exact ⟨0, rfl, Nat.zero_le _, HK0.out⟩
  case round =>
    obtain ⟨j, rfl, hj, hbw, kA, kB⟩ := hrel
    have xa : wr.cell? ⟨w.heap.size, 7, none⟩ = some (.slice A1 am.length c1) := cell_of_row _ _ 7 _ _ _ kA
    have xb : wr.cell? ⟨w.heap.size + 1, 7, none⟩ = some (.slice B1 am.length d1) := cell_of_row _ _ 7 _ _ _ kB
    by_cases hlt : j < am.length
    · obtain ⟨g1, o1, rfl, hg1, hc1⟩ := HA1.out (by omega)
      obtain ⟨g2, o2, rfl, hg2, hc2⟩ := HB1.out (by omega)
      obtain ⟨x, hx⟩ : ∃ x, am[j]? = some x := ⟨am[j], by simp [hlt]⟩
      have hneq0 := fun W => neq_mm x x W (HM.out x (List.mem_of_getElem? hx)) (HM.out x (List.mem_of_getElem? hx))
      have hneq2 : ∀ W, (binOp .neq 45 (.agg #[.string (strOfNums x.name), .bool x.secret, .int .i64 x.n]) (.agg #[.string (strOfNums x.name), .bool x.secret, .int .i64 x.n])).run Tryd.prog W = .ok (.bool false) W := fun W => (hneq0 W).trans (by rw [decide_eq_true rfl]; rfl)
      have x0 : wr.cell? ⟨g1, o1 + j * 3, none⟩ = some (.string (strOfNums x.name)) := (hbw.cell hg1).trans (hc1 j x hx 0 (by decide))
      have x1 : wr.cell? ⟨g1, o1 + j * 3 + 1, none⟩ = some (.bool x.secret) := (hbw.cell hg1).trans (hc1 j x hx 1 (by decide))
      have x2 : wr.cell? ⟨g1, o1 + j * 3 + 2, none⟩ = some (.int .i64 x.n) := (hbw.cell hg1).trans (hc1 j x hx 2 (by decide))
      have y0 : wr.cell? ⟨g2, o2 + j * 3, none⟩ = some (.string (strOfNums x.name)) := (hbw.cell hg2).trans (hc2 j x hx 0 (by decide))
      have y1 : wr.cell? ⟨g2, o2 + j * 3 + 1, none⟩ = some (.bool x.secret) := (hbw.cell hg2).trans (hc2 j x hx 1 (by decide))
      have y2 : wr.cell? ⟨g2, o2 + j * 3 + 2, none⟩ = some (.int .i64 x.n) := (hbw.cell hg2).trans (hc2 j x hx 2 (by decide))
      have hlt' : (j : Int) < (am.length : Int) := by omega
      have HK := Lib.hid (show Below w.heap.size w wr ∧ wr.heap[w.heap.size]? = some (.cells (PrA ⟨aw, awin, afuel, [r0, r1, r2, r3], am, al, ai⟩ (.slice (some ⟨g1, o1, none⟩) am.length c1) (.slice A2 al.length c2) (.slice A3 ai.length c3)) 29 (0, 0)) ∧ wr.heap[w.heap.size + 1]? = some (.cells (PrA ⟨aw, awin, afuel, [r0, r1, r2, r3], am, al, ai⟩ (.slice (some ⟨g2, o2, none⟩) am.length d1) (.slice B2 al.length d2) (.slice B3 ai.length d3)) 29 (0, 0)) from ⟨hbw, kA, kB⟩)
      clear hbw kA kB hc1 hc2 hx hneq0
      go_wp2_with fail
      refine wp_region_noPanic ?_
      refine wp_region_held_drew (S := fun w' => w'.cell? ⟨w.heap.size, 7, none⟩ = some (.slice (some ⟨g1, o1, none⟩) am.length c1) ∧ w'.cell? ⟨w.heap.size + 1, 7, none⟩ = some (.slice (some ⟨g2, o2, none⟩) am.length d1) ∧ w'.cell? ⟨g1, o1 + j * 3, none⟩ = some (.string (strOfNums x.name)) ∧ w'.cell? ⟨g1, o1 + j * 3 + 1, none⟩ = some (.bool x.secret) ∧ w'.cell? ⟨g1, o1 + j * 3 + 2, none⟩ = some (.int .i64 x.n) ∧ w'.cell? ⟨g2, o2 + j * 3, none⟩ = some (.string (strOfNums x.name)) ∧ w'.cell? ⟨g2, o2 + j * 3 + 1, none⟩ = some (.bool x.secret) ∧ w'.cell? ⟨g2, o2 + j * 3 + 2, none⟩ = some (.int .i64 x.n)) (by kernel_rfl) ?_ (fun hHeld => ?_)
      · exact ⟨xa, xb, x0, x1, x2, y0, y1, y2⟩
      refine wpAnyH_take (i := 0) (oi := _) (v := ?_) rfl (by kernel_rfl) (by kernel_rfl) (by kernel_rfl) (fun _ _ _ h => h) (Or.inl ⟨by kernel_rfl, ?_⟩) (by assumption) ?_
      rotate_left
      · (intro w hSw; (try dsimp only at hSw); go_simp; try (with_reducible rfl))
      (try simp only [List.getElem_toArray, List.getElem_cons_succ, List.getElem_cons_zero, Act.put, List.setIfInBounds_toArray, List.set_cons_zero, List.set_cons_succ])
      refine wpAnyH_take (i := 1) (oi := _) (v := ?_) rfl (by kernel_rfl) (by kernel_rfl) (by kernel_rfl) (fun _ _ _ h => h) (Or.inl ⟨by kernel_rfl, ?_⟩) (by assumption) ?_
      rotate_left
      · (intro w hSw; (try dsimp only at hSw); go_simp; try (with_reducible rfl))
      (try simp only [List.getElem_toArray, List.getElem_cons_succ, List.getElem_cons_zero, Act.put, List.setIfInBounds_toArray, List.set_cons_zero, List.set_cons_succ])
      refine wpAnyH_take (i := 2) (oi := _) (v := ?_) rfl (by kernel_rfl) (by kernel_rfl) (by kernel_rfl) (fun _ _ _ h => h) (Or.inl ⟨by kernel_rfl, ?_⟩) (by assumption) ?_
      rotate_left
      · (intro w hSw; (try dsimp only at hSw); go_simp; try (with_reducible rfl))
      (try simp only [List.getElem_toArray, List.getElem_cons_succ, List.getElem_cons_zero, Act.put, List.setIfInBounds_toArray, List.set_cons_zero, List.set_cons_succ])
      refine wpAnyH_take (i := 3) (oi := _) (v := ?_) rfl (by kernel_rfl) (by kernel_rfl) (by kernel_rfl) (fun _ _ _ h => h) (Or.inl ⟨by kernel_rfl, ?_⟩) (by assumption) ?_
      rotate_left
      · (intro w hSw; (try dsimp only at hSw); go_simp; try (with_reducible rfl))
      (try simp only [List.getElem_toArray, List.getElem_cons_succ, List.getElem_cons_zero, Act.put, List.setIfInBounds_toArray, List.set_cons_zero, List.set_cons_succ])
      refine wpAnyH_take (i := 4) (oi := _) (v := ?_) rfl (by kernel_rfl) (by kernel_rfl) (by kernel_rfl) (fun _ _ _ h => h) (Or.inl ⟨by kernel_rfl, ?_⟩) (by assumption) ?_
      rotate_left
      · (intro w hSw; (try dsimp only at hSw); go_simp; try (with_reducible rfl))
      (try simp only [List.getElem_toArray, List.getElem_cons_succ, List.getElem_cons_zero, Act.put, List.setIfInBounds_toArray, List.set_cons_zero, List.set_cons_succ])
      refine wpAnyH_take (i := 5) (oi := _) (v := ?_) rfl (by kernel_rfl) (by kernel_rfl) (by kernel_rfl) (fun _ _ _ h => h) (Or.inl ⟨by kernel_rfl, ?_⟩) (by assumption) ?_
      rotate_left
      · (intro w hSw; (try dsimp only at hSw); go_simp; try (with_reducible rfl))
      (try simp only [List.getElem_toArray, List.getElem_cons_succ, List.getElem_cons_zero, Act.put, List.setIfInBounds_toArray, List.set_cons_zero, List.set_cons_succ])
      refine wpAnyH_take (i := 6) (oi := _) (v := ?_) rfl (by kernel_rfl) (by kernel_rfl) (by kernel_rfl) (fun _ _ _ h => h) (Or.inl ⟨by kernel_rfl, ?_⟩) (by assumption) ?_
      rotate_left
      · (intro w hSw; (try dsimp only at hSw); go_simp; try (with_reducible rfl))
      (try simp only [List.getElem_toArray, List.getElem_cons_succ, List.getElem_cons_zero, Act.put, List.setIfInBounds_toArray, List.set_cons_zero, List.set_cons_succ])
      refine wpAnyH_take (i := 7) (oi := _) (v := ?_) rfl (by kernel_rfl) (by kernel_rfl) (by kernel_rfl) (fun _ _ _ h => h) (Or.inl ⟨by kernel_rfl, ?_⟩) (by assumption) ?_
      rotate_left
      · (intro w hSw; (try dsimp only at hSw); go_simp; try (with_reducible rfl))
      (try simp only [List.getElem_toArray, List.getElem_cons_succ, List.getElem_cons_zero, Act.put, List.setIfInBounds_toArray, List.set_cons_zero, List.set_cons_succ])
      refine wpAnyH_take (i := 8) (oi := _) (v := ?_) rfl (by kernel_rfl) (by kernel_rfl) (by kernel_rfl) (fun _ _ _ h => h) (Or.inl ⟨by kernel_rfl, ?_⟩) (by assumption) ?_
      rotate_left
      · (intro w hSw; (try dsimp only at hSw); go_simp; try (with_reducible rfl))
      (try simp only [List.getElem_toArray, List.getElem_cons_succ, List.getElem_cons_zero, Act.put, List.setIfInBounds_toArray, List.set_cons_zero, List.set_cons_succ])
      refine wpAnyH_take (i := 9) (oi := _) (v := ?_) rfl (by kernel_rfl) (by kernel_rfl) (by kernel_rfl) (fun _ _ _ h => h) (Or.inl ⟨by kernel_rfl, ?_⟩) (by assumption) ?_
      rotate_left
      · (intro w hSw; (try dsimp only at hSw); go_simp; try (with_reducible rfl))
      (try simp only [List.getElem_toArray, List.getElem_cons_succ, List.getElem_cons_zero, Act.put, List.setIfInBounds_toArray, List.set_cons_zero, List.set_cons_succ])
      refine wpAnyH_take (i := 10) (oi := _) (v := ?_) rfl (by kernel_rfl) (by kernel_rfl) (by kernel_rfl) (fun _ _ _ h => h) (Or.inl ⟨by kernel_rfl, ?_⟩) (by assumption) ?_
      rotate_left
      · (intro w hSw; (try dsimp only at hSw); go_simp; try (with_reducible rfl))
      (try simp only [List.getElem_toArray, List.getElem_cons_succ, List.getElem_cons_zero, Act.put, List.setIfInBounds_toArray, List.set_cons_zero, List.set_cons_succ])
      refine wpAnyH_done (by kernel_rfl) ?_ _
      refine NoPanic.normal ?_
      (try go_simp)
      go_wp2_with fail
      exact ⟨⟨j + 1, by simp, by omega, upD HK.out.1 1, HK.out.2.1, HK.out.2.2⟩, by simp [intOf]; omega⟩
    · have hje : j = am.length := by omega
      subst hje
      have hlt' : ¬ (am.length : Int) < (am.length : Int) := by omega
      have HQ5 := Lib.hid (show Below w.heap.size w wr ∧ wr.heap[w.heap.size]? = some (.cells (PrA ⟨aw, awin, afuel, [r0, r1, r2, r3], am, al, ai⟩ (.slice A1 am.length c1) (.slice A2 al.length c2) (.slice A3 ai.length c3)) 29 (0, 0)) ∧ wr.heap[w.heap.size + 1]? = some (.cells (PrA ⟨aw, awin, afuel, [r0, r1, r2, r3], am, al, ai⟩ (.slice B1 am.length d1) (.slice B2 al.length d2) (.slice B3 ai.length d3)) 29 (0, 0)) from ⟨hbw, kA, kB⟩)
      clear hbw kA kB
      go_wp2_with fail
      go_loopw [6] (fun v6 wr => ∃ j : Nat, v6 = .int .i64 (j : Int) ∧ j ≤ al.length ∧ Below w.heap.size w wr ∧ wr.heap[w.heap.size]? = some (.cells (PrA ⟨aw, awin, afuel, [r0, r1, r2, r3], am, al, ai⟩ (.slice A1 am.length c1) (.slice A2 al.length c2) (.slice A3 ai.length c3)) 29 (0, 0)) ∧ wr.heap[w.heap.size + 1]? = some (.cells (PrA ⟨aw, awin, afuel, [r0, r1, r2, r3], am, al, ai⟩ (.slice B1 am.length d1) (.slice B2 al.length d2) (.slice B3 ai.length d3)) 29 (0, 0))) (fun v6 _ => al.length - (intOf v6).toNat)
      case atStart => exact ⟨0, rfl, Nat.zero_le _, HQ5.out⟩
      case round =>
        obtain ⟨j, rfl, hj, hbw, kA, kB⟩ := hrel
        have xa : wr.cell? ⟨w.heap.size, 8, none⟩ = some (.slice A2 al.length c2) := cell_of_row _ _ 8 _ _ _ kA
        have xb : wr.cell? ⟨w.heap.size + 1, 8, none⟩ = some (.slice B2 al.length d2) := cell_of_row _ _ 8 _ _ _ kB
        by_cases hlt : j < al.length
        · obtain ⟨g1, o1, rfl, hg1, hc1⟩ := HA2.out (by omega)
          obtain ⟨g2, o2, rfl, hg2, hc2⟩ := HB2.out (by omega)
          obtain ⟨x, hx⟩ : ∃ x, al[j]? = some x := ⟨al[j], by simp [hlt]⟩
          have hneq0 := fun W => neq_lb x x W (HL.out x (List.mem_of_getElem? hx)) (HL.out x (List.mem_of_getElem? hx))
          have hneq2 : ∀ W, (binOp .neq 38 (.agg #[.string (strOfNums x.name), .int .i64 x.at_]) (.agg #[.string (strOfNums x.name), .int .i64 x.at_])).run Tryd.prog W = .ok (.bool false) W := fun W => (hneq0 W).trans (by rw [decide_eq_true rfl]; rfl)
          have x0 : wr.cell? ⟨g1, o1 + j * 2, none⟩ = some (.string (strOfNums x.name)) := (hbw.cell hg1).trans (hc1 j x hx 0 (by decide))
          have x1 : wr.cell? ⟨g1, o1 + j * 2 + 1, none⟩ = some (.int .i64 x.at_) := (hbw.cell hg1).trans (hc1 j x hx 1 (by decide))
          have y0 : wr.cell? ⟨g2, o2 + j * 2, none⟩ = some (.string (strOfNums x.name)) := (hbw.cell hg2).trans (hc2 j x hx 0 (by decide))
          have y1 : wr.cell? ⟨g2, o2 + j * 2 + 1, none⟩ = some (.int .i64 x.at_) := (hbw.cell hg2).trans (hc2 j x hx 1 (by decide))
          have hlt' : (j : Int) < (al.length : Int) := by omega
          have HK := Lib.hid (show Below w.heap.size w wr ∧ wr.heap[w.heap.size]? = some (.cells (PrA ⟨aw, awin, afuel, [r0, r1, r2, r3], am, al, ai⟩ (.slice A1 am.length c1) (.slice (some ⟨g1, o1, none⟩) al.length c2) (.slice A3 ai.length c3)) 29 (0, 0)) ∧ wr.heap[w.heap.size + 1]? = some (.cells (PrA ⟨aw, awin, afuel, [r0, r1, r2, r3], am, al, ai⟩ (.slice B1 am.length d1) (.slice (some ⟨g2, o2, none⟩) al.length d2) (.slice B3 ai.length d3)) 29 (0, 0)) from ⟨hbw, kA, kB⟩)
          clear hbw kA kB hc1 hc2 hx hneq0
          go_wp2_with fail
          refine wp_region_noPanic ?_
          refine wp_region_held_drew (S := fun w' => w'.cell? ⟨w.heap.size, 8, none⟩ = some (.slice (some ⟨g1, o1, none⟩) al.length c2) ∧ w'.cell? ⟨w.heap.size + 1, 8, none⟩ = some (.slice (some ⟨g2, o2, none⟩) al.length d2) ∧ w'.cell? ⟨g1, o1 + j * 2, none⟩ = some (.string (strOfNums x.name)) ∧ w'.cell? ⟨g1, o1 + j * 2 + 1, none⟩ = some (.int .i64 x.at_) ∧ w'.cell? ⟨g2, o2 + j * 2, none⟩ = some (.string (strOfNums x.name)) ∧ w'.cell? ⟨g2, o2 + j * 2 + 1, none⟩ = some (.int .i64 x.at_)) (by kernel_rfl) ?_ (fun hHeld => ?_)
          · exact ⟨xa, xb, x0, x1, y0, y1⟩
          refine wpAnyH_take (i := 0) (oi := _) (v := ?_) rfl (by kernel_rfl) (by kernel_rfl) (by kernel_rfl) (fun _ _ _ h => h) (Or.inl ⟨by kernel_rfl, ?_⟩) (by assumption) ?_
          rotate_left
          · (intro w hSw; (try dsimp only at hSw); go_simp; try (with_reducible rfl))
          (try simp only [List.getElem_toArray, List.getElem_cons_succ, List.getElem_cons_zero, Act.put, List.setIfInBounds_toArray, List.set_cons_zero, List.set_cons_succ])
          refine wpAnyH_take (i := 1) (oi := _) (v := ?_) rfl (by kernel_rfl) (by kernel_rfl) (by kernel_rfl) (fun _ _ _ h => h) (Or.inl ⟨by kernel_rfl, ?_⟩) (by assumption) ?_
          rotate_left
          · (intro w hSw; (try dsimp only at hSw); go_simp; try (with_reducible rfl))
          (try simp only [List.getElem_toArray, List.getElem_cons_succ, List.getElem_cons_zero, Act.put, List.setIfInBounds_toArray, List.set_cons_zero, List.set_cons_succ])
          refine wpAnyH_take (i := 2) (oi := _) (v := ?_) rfl (by kernel_rfl) (by kernel_rfl) (by kernel_rfl) (fun _ _ _ h => h) (Or.inl ⟨by kernel_rfl, ?_⟩) (by assumption) ?_
          rotate_left
          · (intro w hSw; (try dsimp only at hSw); go_simp; try (with_reducible rfl))
          (try simp only [List.getElem_toArray, List.getElem_cons_succ, List.getElem_cons_zero, Act.put, List.setIfInBounds_toArray, List.set_cons_zero, List.set_cons_succ])
          refine wpAnyH_take (i := 3) (oi := _) (v := ?_) rfl (by kernel_rfl) (by kernel_rfl) (by kernel_rfl) (fun _ _ _ h => h) (Or.inl ⟨by kernel_rfl, ?_⟩) (by assumption) ?_
          rotate_left
          · (intro w hSw; (try dsimp only at hSw); go_simp; try (with_reducible rfl))
          (try simp only [List.getElem_toArray, List.getElem_cons_succ, List.getElem_cons_zero, Act.put, List.setIfInBounds_toArray, List.set_cons_zero, List.set_cons_succ])
          refine wpAnyH_take (i := 4) (oi := _) (v := ?_) rfl (by kernel_rfl) (by kernel_rfl) (by kernel_rfl) (fun _ _ _ h => h) (Or.inl ⟨by kernel_rfl, ?_⟩) (by assumption) ?_
          rotate_left
          · (intro w hSw; (try dsimp only at hSw); go_simp; try (with_reducible rfl))
          (try simp only [List.getElem_toArray, List.getElem_cons_succ, List.getElem_cons_zero, Act.put, List.setIfInBounds_toArray, List.set_cons_zero, List.set_cons_succ])
          refine wpAnyH_take (i := 5) (oi := _) (v := ?_) rfl (by kernel_rfl) (by kernel_rfl) (by kernel_rfl) (fun _ _ _ h => h) (Or.inl ⟨by kernel_rfl, ?_⟩) (by assumption) ?_
          rotate_left
          · (intro w hSw; (try dsimp only at hSw); go_simp; try (with_reducible rfl))
          (try simp only [List.getElem_toArray, List.getElem_cons_succ, List.getElem_cons_zero, Act.put, List.setIfInBounds_toArray, List.set_cons_zero, List.set_cons_succ])
          refine wpAnyH_take (i := 6) (oi := _) (v := ?_) rfl (by kernel_rfl) (by kernel_rfl) (by kernel_rfl) (fun _ _ _ h => h) (Or.inl ⟨by kernel_rfl, ?_⟩) (by assumption) ?_
          rotate_left
          · (intro w hSw; (try dsimp only at hSw); go_simp; try (with_reducible rfl))
          (try simp only [List.getElem_toArray, List.getElem_cons_succ, List.getElem_cons_zero, Act.put, List.setIfInBounds_toArray, List.set_cons_zero, List.set_cons_succ])
          refine wpAnyH_take (i := 7) (oi := _) (v := ?_) rfl (by kernel_rfl) (by kernel_rfl) (by kernel_rfl) (fun _ _ _ h => h) (Or.inl ⟨by kernel_rfl, ?_⟩) (by assumption) ?_
          rotate_left
          · (intro w hSw; (try dsimp only at hSw); go_simp; try (with_reducible rfl))
          (try simp only [List.getElem_toArray, List.getElem_cons_succ, List.getElem_cons_zero, Act.put, List.setIfInBounds_toArray, List.set_cons_zero, List.set_cons_succ])
          refine wpAnyH_take (i := 8) (oi := _) (v := ?_) rfl (by kernel_rfl) (by kernel_rfl) (by kernel_rfl) (fun _ _ _ h => h) (Or.inl ⟨by kernel_rfl, ?_⟩) (by assumption) ?_
          rotate_left
          · (intro w hSw; (try dsimp only at hSw); go_simp; try (with_reducible rfl))
          (try simp only [List.getElem_toArray, List.getElem_cons_succ, List.getElem_cons_zero, Act.put, List.setIfInBounds_toArray, List.set_cons_zero, List.set_cons_succ])
          refine wpAnyH_take (i := 9) (oi := _) (v := ?_) rfl (by kernel_rfl) (by kernel_rfl) (by kernel_rfl) (fun _ _ _ h => h) (Or.inl ⟨by kernel_rfl, ?_⟩) (by assumption) ?_
          rotate_left
          · (intro w hSw; (try dsimp only at hSw); go_simp; try (with_reducible rfl))
          (try simp only [List.getElem_toArray, List.getElem_cons_succ, List.getElem_cons_zero, Act.put, List.setIfInBounds_toArray, List.set_cons_zero, List.set_cons_succ])
          refine wpAnyH_take (i := 10) (oi := _) (v := ?_) rfl (by kernel_rfl) (by kernel_rfl) (by kernel_rfl) (fun _ _ _ h => h) (Or.inl ⟨by kernel_rfl, ?_⟩) (by assumption) ?_
          rotate_left
          · (intro w hSw; (try dsimp only at hSw); go_simp; try (with_reducible rfl))
          (try simp only [List.getElem_toArray, List.getElem_cons_succ, List.getElem_cons_zero, Act.put, List.setIfInBounds_toArray, List.set_cons_zero, List.set_cons_succ])
          refine wpAnyH_done (by kernel_rfl) ?_ _
          refine NoPanic.normal ?_
          (try go_simp)
          go_wp2_with fail
          exact ⟨⟨j + 1, by simp, by omega, upD HK.out.1 1, HK.out.2.1, HK.out.2.2⟩, by simp [intOf]; omega⟩
        · have hje : j = al.length := by omega
          subst hje
          have hlt' : ¬ (al.length : Int) < (al.length : Int) := by omega
          have HQ6 := Lib.hid (show Below w.heap.size w wr ∧ wr.heap[w.heap.size]? = some (.cells (PrA ⟨aw, awin, afuel, [r0, r1, r2, r3], am, al, ai⟩ (.slice A1 am.length c1) (.slice A2 al.length c2) (.slice A3 ai.length c3)) 29 (0, 0)) ∧ wr.heap[w.heap.size + 1]? = some (.cells (PrA ⟨aw, awin, afuel, [r0, r1, r2, r3], am, al, ai⟩ (.slice B1 am.length d1) (.slice B2 al.length d2) (.slice B3 ai.length d3)) 29 (0, 0)) from ⟨hbw, kA, kB⟩)
          clear hbw kA kB
          go_wp2_with fail
          go_loopw [7] (fun v7 wr => ∃ j : Nat, v7 = .int .i64 (j : Int) ∧ j ≤ ai.length ∧ Below w.heap.size w wr ∧ wr.heap[w.heap.size]? = some (.cells (PrA ⟨aw, awin, afuel, [r0, r1, r2, r3], am, al, ai⟩ (.slice A1 am.length c1) (.slice A2 al.length c2) (.slice A3 ai.length c3)) 29 (0, 0)) ∧ wr.heap[w.heap.size + 1]? = some (.cells (PrA ⟨aw, awin, afuel, [r0, r1, r2, r3], am, al, ai⟩ (.slice B1 am.length d1) (.slice B2 al.length d2) (.slice B3 ai.length d3)) 29 (0, 0))) (fun v7 _ => ai.length - (intOf v7).toNat)
          case atStart => exact ⟨0, rfl, Nat.zero_le _, HQ6.out⟩
          case round =>
            obtain ⟨j, rfl, hj, hbw, kA, kB⟩ := hrel
            have xa : wr.cell? ⟨w.heap.size, 9, none⟩ = some (.slice A3 ai.length c3) := cell_of_row _ _ 9 _ _ _ kA
            have xb : wr.cell? ⟨w.heap.size + 1, 9, none⟩ = some (.slice B3 ai.length d3) := cell_of_row _ _ 9 _ _ _ kB
            by_cases hlt : j < ai.length
            · obtain ⟨g1, o1, rfl, hg1, hc1⟩ := HA3.out (by omega)
              obtain ⟨g2, o2, rfl, hg2, hc2⟩ := HB3.out (by omega)
              obtain ⟨x, hx⟩ : ∃ x, ai[j]? = some x := ⟨ai[j], by simp [hlt]⟩
              have hneq0 := fun W => neq_ins x x W (HI.out x (List.mem_of_getElem? hx)) (HI.out x (List.mem_of_getElem? hx))
              have hneq2 : ∀ W, (binOp .neq 42 (.agg #[.int .i64 x.kind, .int .i64 x.op, .int .i64 x.d, .bool x.a.reg, .int .i64 x.a.n, .bool x.b.reg, .int .i64 x.b.n, .string (strOfNums x.name), .int .i64 x.target]) (.agg #[.int .i64 x.kind, .int .i64 x.op, .int .i64 x.d, .bool x.a.reg, .int .i64 x.a.n, .bool x.b.reg, .int .i64 x.b.n, .string (strOfNums x.name), .int .i64 x.target])).run Tryd.prog W = .ok (.bool false) W := fun W => (hneq0 W).trans (by rw [decide_eq_true rfl]; rfl)
              have x0 : wr.cell? ⟨g1, o1 + j * 9, none⟩ = some (.int .i64 x.kind) := (hbw.cell hg1).trans (hc1 j x hx 0 (by decide))
              have x1 : wr.cell? ⟨g1, o1 + j * 9 + 1, none⟩ = some (.int .i64 x.op) := (hbw.cell hg1).trans (hc1 j x hx 1 (by decide))
              have x2 : wr.cell? ⟨g1, o1 + j * 9 + 2, none⟩ = some (.int .i64 x.d) := (hbw.cell hg1).trans (hc1 j x hx 2 (by decide))
              have x3 : wr.cell? ⟨g1, o1 + j * 9 + 3, none⟩ = some (.bool x.a.reg) := (hbw.cell hg1).trans (hc1 j x hx 3 (by decide))
              have x4 : wr.cell? ⟨g1, o1 + j * 9 + 4, none⟩ = some (.int .i64 x.a.n) := (hbw.cell hg1).trans (hc1 j x hx 4 (by decide))
              have x5 : wr.cell? ⟨g1, o1 + j * 9 + 5, none⟩ = some (.bool x.b.reg) := (hbw.cell hg1).trans (hc1 j x hx 5 (by decide))
              have x6 : wr.cell? ⟨g1, o1 + j * 9 + 6, none⟩ = some (.int .i64 x.b.n) := (hbw.cell hg1).trans (hc1 j x hx 6 (by decide))
              have x7 : wr.cell? ⟨g1, o1 + j * 9 + 7, none⟩ = some (.string (strOfNums x.name)) := (hbw.cell hg1).trans (hc1 j x hx 7 (by decide))
              have x8 : wr.cell? ⟨g1, o1 + j * 9 + 8, none⟩ = some (.int .i64 x.target) := (hbw.cell hg1).trans (hc1 j x hx 8 (by decide))
              have y0 : wr.cell? ⟨g2, o2 + j * 9, none⟩ = some (.int .i64 x.kind) := (hbw.cell hg2).trans (hc2 j x hx 0 (by decide))
              have y1 : wr.cell? ⟨g2, o2 + j * 9 + 1, none⟩ = some (.int .i64 x.op) := (hbw.cell hg2).trans (hc2 j x hx 1 (by decide))
              have y2 : wr.cell? ⟨g2, o2 + j * 9 + 2, none⟩ = some (.int .i64 x.d) := (hbw.cell hg2).trans (hc2 j x hx 2 (by decide))
              have y3 : wr.cell? ⟨g2, o2 + j * 9 + 3, none⟩ = some (.bool x.a.reg) := (hbw.cell hg2).trans (hc2 j x hx 3 (by decide))
              have y4 : wr.cell? ⟨g2, o2 + j * 9 + 4, none⟩ = some (.int .i64 x.a.n) := (hbw.cell hg2).trans (hc2 j x hx 4 (by decide))
              have y5 : wr.cell? ⟨g2, o2 + j * 9 + 5, none⟩ = some (.bool x.b.reg) := (hbw.cell hg2).trans (hc2 j x hx 5 (by decide))
              have y6 : wr.cell? ⟨g2, o2 + j * 9 + 6, none⟩ = some (.int .i64 x.b.n) := (hbw.cell hg2).trans (hc2 j x hx 6 (by decide))
              have y7 : wr.cell? ⟨g2, o2 + j * 9 + 7, none⟩ = some (.string (strOfNums x.name)) := (hbw.cell hg2).trans (hc2 j x hx 7 (by decide))
              have y8 : wr.cell? ⟨g2, o2 + j * 9 + 8, none⟩ = some (.int .i64 x.target) := (hbw.cell hg2).trans (hc2 j x hx 8 (by decide))
              have hlt' : (j : Int) < (ai.length : Int) := by omega
              have HK := Lib.hid (show Below w.heap.size w wr ∧ wr.heap[w.heap.size]? = some (.cells (PrA ⟨aw, awin, afuel, [r0, r1, r2, r3], am, al, ai⟩ (.slice A1 am.length c1) (.slice A2 al.length c2) (.slice (some ⟨g1, o1, none⟩) ai.length c3)) 29 (0, 0)) ∧ wr.heap[w.heap.size + 1]? = some (.cells (PrA ⟨aw, awin, afuel, [r0, r1, r2, r3], am, al, ai⟩ (.slice B1 am.length d1) (.slice B2 al.length d2) (.slice (some ⟨g2, o2, none⟩) ai.length d3)) 29 (0, 0)) from ⟨hbw, kA, kB⟩)
              clear hbw kA kB hc1 hc2 hx hneq0
              go_wp2_with fail
              refine wp_region_noPanic ?_
              refine wp_region_held_drew (S := fun w' => w'.cell? ⟨w.heap.size, 9, none⟩ = some (.slice (some ⟨g1, o1, none⟩) ai.length c3) ∧ w'.cell? ⟨w.heap.size + 1, 9, none⟩ = some (.slice (some ⟨g2, o2, none⟩) ai.length d3) ∧ w'.cell? ⟨g1, o1 + j * 9, none⟩ = some (.int .i64 x.kind) ∧ w'.cell? ⟨g1, o1 + j * 9 + 1, none⟩ = some (.int .i64 x.op) ∧ w'.cell? ⟨g1, o1 + j * 9 + 2, none⟩ = some (.int .i64 x.d) ∧ w'.cell? ⟨g1, o1 + j * 9 + 3, none⟩ = some (.bool x.a.reg) ∧ w'.cell? ⟨g1, o1 + j * 9 + 4, none⟩ = some (.int .i64 x.a.n) ∧ w'.cell? ⟨g1, o1 + j * 9 + 5, none⟩ = some (.bool x.b.reg) ∧ w'.cell? ⟨g1, o1 + j * 9 + 6, none⟩ = some (.int .i64 x.b.n) ∧ w'.cell? ⟨g1, o1 + j * 9 + 7, none⟩ = some (.string (strOfNums x.name)) ∧ w'.cell? ⟨g1, o1 + j * 9 + 8, none⟩ = some (.int .i64 x.target) ∧ w'.cell? ⟨g2, o2 + j * 9, none⟩ = some (.int .i64 x.kind) ∧ w'.cell? ⟨g2, o2 + j * 9 + 1, none⟩ = some (.int .i64 x.op) ∧ w'.cell? ⟨g2, o2 + j * 9 + 2, none⟩ = some (.int .i64 x.d) ∧ w'.cell? ⟨g2, o2 + j * 9 + 3, none⟩ = some (.bool x.a.reg) ∧ w'.cell? ⟨g2, o2 + j * 9 + 4, none⟩ = some (.int .i64 x.a.n) ∧ w'.cell? ⟨g2, o2 + j * 9 + 5, none⟩ = some (.bool x.b.reg) ∧ w'.cell? ⟨g2, o2 + j * 9 + 6, none⟩ = some (.int .i64 x.b.n) ∧ w'.cell? ⟨g2, o2 + j * 9 + 7, none⟩ = some (.string (strOfNums x.name)) ∧ w'.cell? ⟨g2, o2 + j * 9 + 8, none⟩ = some (.int .i64 x.target)) (by kernel_rfl) ?_ (fun hHeld => ?_)
              · exact ⟨xa, xb, x0, x1, x2, x3, x4, x5, x6, x7, x8, y0, y1, y2, y3, y4, y5, y6, y7, y8⟩
              refine wpAnyH_take (i := 0) (oi := _) (v := ?_) rfl (by kernel_rfl) (by kernel_rfl) (by kernel_rfl) (fun _ _ _ h => h) (Or.inl ⟨by kernel_rfl, ?_⟩) (by assumption) ?_
              rotate_left
              · (intro w hSw; (try dsimp only at hSw); go_simp; try (with_reducible rfl))
              (try simp only [List.getElem_toArray, List.getElem_cons_succ, List.getElem_cons_zero, Act.put, List.setIfInBounds_toArray, List.set_cons_zero, List.set_cons_succ])
              refine wpAnyH_take (i := 1) (oi := _) (v := ?_) rfl (by kernel_rfl) (by kernel_rfl) (by kernel_rfl) (fun _ _ _ h => h) (Or.inl ⟨by kernel_rfl, ?_⟩) (by assumption) ?_
              rotate_left
              · (intro w hSw; (try dsimp only at hSw); go_simp; try (with_reducible rfl))
              (try simp only [List.getElem_toArray, List.getElem_cons_succ, List.getElem_cons_zero, Act.put, List.setIfInBounds_toArray, List.set_cons_zero, List.set_cons_succ])
              refine wpAnyH_take (i := 2) (oi := _) (v := ?_) rfl (by kernel_rfl) (by kernel_rfl) (by kernel_rfl) (fun _ _ _ h => h) (Or.inl ⟨by kernel_rfl, ?_⟩) (by assumption) ?_
              rotate_left
              · (intro w hSw; (try dsimp only at hSw); go_simp; try (with_reducible rfl))
              (try simp only [List.getElem_toArray, List.getElem_cons_succ, List.getElem_cons_zero, Act.put, List.setIfInBounds_toArray, List.set_cons_zero, List.set_cons_succ])
              refine wpAnyH_take (i := 3) (oi := _) (v := ?_) rfl (by kernel_rfl) (by kernel_rfl) (by kernel_rfl) (fun _ _ _ h => h) (Or.inl ⟨by kernel_rfl, ?_⟩) (by assumption) ?_
              rotate_left
              · (intro w hSw; (try dsimp only at hSw); go_simp; try (with_reducible rfl))
              (try simp only [List.getElem_toArray, List.getElem_cons_succ, List.getElem_cons_zero, Act.put, List.setIfInBounds_toArray, List.set_cons_zero, List.set_cons_succ])
              refine wpAnyH_take (i := 4) (oi := _) (v := ?_) rfl (by kernel_rfl) (by kernel_rfl) (by kernel_rfl) (fun _ _ _ h => h) (Or.inl ⟨by kernel_rfl, ?_⟩) (by assumption) ?_
              rotate_left
              · (intro w hSw; (try dsimp only at hSw); go_simp; try (with_reducible rfl))
              (try simp only [List.getElem_toArray, List.getElem_cons_succ, List.getElem_cons_zero, Act.put, List.setIfInBounds_toArray, List.set_cons_zero, List.set_cons_succ])
              refine wpAnyH_take (i := 5) (oi := _) (v := ?_) rfl (by kernel_rfl) (by kernel_rfl) (by kernel_rfl) (fun _ _ _ h => h) (Or.inl ⟨by kernel_rfl, ?_⟩) (by assumption) ?_
              rotate_left
              · (intro w hSw; (try dsimp only at hSw); go_simp; try (with_reducible rfl))
              (try simp only [List.getElem_toArray, List.getElem_cons_succ, List.getElem_cons_zero, Act.put, List.setIfInBounds_toArray, List.set_cons_zero, List.set_cons_succ])
              refine wpAnyH_take (i := 6) (oi := _) (v := ?_) rfl (by kernel_rfl) (by kernel_rfl) (by kernel_rfl) (fun _ _ _ h => h) (Or.inl ⟨by kernel_rfl, ?_⟩) (by assumption) ?_
              rotate_left
              · (intro w hSw; (try dsimp only at hSw); go_simp; try (with_reducible rfl))
              (try simp only [List.getElem_toArray, List.getElem_cons_succ, List.getElem_cons_zero, Act.put, List.setIfInBounds_toArray, List.set_cons_zero, List.set_cons_succ])
              refine wpAnyH_take (i := 7) (oi := _) (v := ?_) rfl (by kernel_rfl) (by kernel_rfl) (by kernel_rfl) (fun _ _ _ h => h) (Or.inl ⟨by kernel_rfl, ?_⟩) (by assumption) ?_
              rotate_left
              · (intro w hSw; (try dsimp only at hSw); go_simp; try (with_reducible rfl))
              (try simp only [List.getElem_toArray, List.getElem_cons_succ, List.getElem_cons_zero, Act.put, List.setIfInBounds_toArray, List.set_cons_zero, List.set_cons_succ])
              refine wpAnyH_take (i := 8) (oi := _) (v := ?_) rfl (by kernel_rfl) (by kernel_rfl) (by kernel_rfl) (fun _ _ _ h => h) (Or.inl ⟨by kernel_rfl, ?_⟩) (by assumption) ?_
              rotate_left
              · (intro w hSw; (try dsimp only at hSw); go_simp; try (with_reducible rfl))
              (try simp only [List.getElem_toArray, List.getElem_cons_succ, List.getElem_cons_zero, Act.put, List.setIfInBounds_toArray, List.set_cons_zero, List.set_cons_succ])
              refine wpAnyH_take (i := 9) (oi := _) (v := ?_) rfl (by kernel_rfl) (by kernel_rfl) (by kernel_rfl) (fun _ _ _ h => h) (Or.inl ⟨by kernel_rfl, ?_⟩) (by assumption) ?_
              rotate_left
              · (intro w hSw; (try dsimp only at hSw); go_simp; try (with_reducible rfl))
              (try simp only [List.getElem_toArray, List.getElem_cons_succ, List.getElem_cons_zero, Act.put, List.setIfInBounds_toArray, List.set_cons_zero, List.set_cons_succ])
              refine wpAnyH_take (i := 10) (oi := _) (v := ?_) rfl (by kernel_rfl) (by kernel_rfl) (by kernel_rfl) (fun _ _ _ h => h) (Or.inl ⟨by kernel_rfl, ?_⟩) (by assumption) ?_
              rotate_left
              · (intro w hSw; (try dsimp only at hSw); go_simp; try (with_reducible rfl))
              (try simp only [List.getElem_toArray, List.getElem_cons_succ, List.getElem_cons_zero, Act.put, List.setIfInBounds_toArray, List.set_cons_zero, List.set_cons_succ])
              refine wpAnyH_done (by kernel_rfl) ?_ _
              refine NoPanic.normal ?_
              (try go_simp)
              go_wp2_with fail
              exact ⟨⟨j + 1, by simp, by omega, upD HK.out.1 1, HK.out.2.1, HK.out.2.2⟩, by simp [intOf]; omega⟩
            · have hje : j = ai.length := by omega
              subst hje
              have hlt' : ¬ (ai.length : Int) < (ai.length : Int) := by omega
              have HQ7 := Lib.hid (show Below w.heap.size w wr ∧ wr.heap[w.heap.size]? = some (.cells (PrA ⟨aw, awin, afuel, [r0, r1, r2, r3], am, al, ai⟩ (.slice A1 am.length c1) (.slice A2 al.length c2) (.slice A3 ai.length c3)) 29 (0, 0)) ∧ wr.heap[w.heap.size + 1]? = some (.cells (PrA ⟨aw, awin, afuel, [r0, r1, r2, r3], am, al, ai⟩ (.slice B1 am.length d1) (.slice B2 al.length d2) (.slice B3 ai.length d3)) 29 (0, 0)) from ⟨hbw, kA, kB⟩)
              clear hbw kA kB
              go_wp2_with fail
              go_ret
              exact ⟨rfl, HQ7.out.1⟩
end Go.Proofs.YtmghklokbmdenaaDoor
