/- Merged: PgEq, PgSame, PgOk. -/
import Derived.Test.YtmghklokbmdenaaDoorMgPw
import Derived.ChangeKeysEq
set_option linter.unusedVariables false
set_option linter.unusedSimpArgs false
namespace Go.Proofs.YtmghklokbmdenaaDoor
section
open Go.RowKit
theorem eq_mm (d : Nat) (x y : Pg.Mm) (w : World) (hx : ∀ c ∈ x.name, 0 ≤ c ∧ c < 256) (hy : ∀ c ∈ y.name, 0 ≤ c ∧ c < 256) : (Op.equalIn (d + 3) 45 (.agg (memC x).toArray) (.agg (memC y).toArray)).run Tryd.prog w = .ok (decide (x = y)) w := by
  rw [run_equalIn_agg w (d + 2) _ _ _ (by kernel_rfl) (by kernel_rfl)]
  have hs := str_beq2 hx hy
  obtain ⟨nm, sec, n⟩ := x
  obtain ⟨nm', sec', n'⟩ := y
  simp only at hs
  simp only [Program.fieldsOf, Tryd.underlying45, memC]
  by_cases e0 : nm = nm'
  · subst e0
    simp only [decide_true] at hs
    by_cases e1 : sec = sec'
    · subst e1
      by_cases e2 : n = n'
      · subst e2
        go_simp
      · rw [decide_eq_false (fun h => e2 (by injection h))]
        have f2 : (n == n') = false := by simpa using e2
        go_simp
    · rw [decide_eq_false (fun h => e1 (by injection h))]
      have f1 : (sec == sec') = false := by simpa using e1
      go_simp
  · rw [decide_eq_false (fun h => e0 (by injection h))]
    simp only [decide_eq_false e0] at hs
    go_simp
theorem neq_mm (x y : Pg.Mm) (w : World) (hx : ∀ c ∈ x.name, 0 ≤ c ∧ c < 256) (hy : ∀ c ∈ y.name, 0 ≤ c ∧ c < 256) : (binOp .neq 45 (.agg (memC x).toArray) (.agg (memC y).toArray)).run Tryd.prog w = .ok (.bool (!decide (x = y))) w := by
  rw [run_neq_struct, eq_mm 9997 x y w hx hy]
  rfl
theorem eq_lb (d : Nat) (x y : Pg.Lb) (w : World) (hx : ∀ c ∈ x.name, 0 ≤ c ∧ c < 256) (hy : ∀ c ∈ y.name, 0 ≤ c ∧ c < 256) : (Op.equalIn (d + 3) 38 (.agg (labC x).toArray) (.agg (labC y).toArray)).run Tryd.prog w = .ok (decide (x = y)) w := by
  rw [run_equalIn_agg w (d + 2) _ _ _ (by kernel_rfl) (by kernel_rfl)]
  have hs := str_beq2 hx hy
  obtain ⟨nm, at_⟩ := x
  obtain ⟨nm', at_'⟩ := y
  simp only at hs
  simp only [Program.fieldsOf, Tryd.underlying38, labC]
  by_cases e0 : nm = nm'
  · subst e0
    simp only [decide_true] at hs
    by_cases e1 : at_ = at_'
    · subst e1
      go_simp
    · rw [decide_eq_false (fun h => e1 (by injection h))]
      have f1 : (at_ == at_') = false := by simpa using e1
      go_simp
  · rw [decide_eq_false (fun h => e0 (by injection h))]
    simp only [decide_eq_false e0] at hs
    go_simp
theorem neq_lb (x y : Pg.Lb) (w : World) (hx : ∀ c ∈ x.name, 0 ≤ c ∧ c < 256) (hy : ∀ c ∈ y.name, 0 ≤ c ∧ c < 256) : (binOp .neq 38 (.agg (labC x).toArray) (.agg (labC y).toArray)).run Tryd.prog w = .ok (.bool (!decide (x = y))) w := by
  rw [run_neq_struct, eq_lb 9997 x y w hx hy]
  rfl
theorem neq_ins (x y : Sy.In) (w : World) (hx : ∀ c ∈ x.name, 0 ≤ c ∧ c < 256) (hy : ∀ c ∈ y.name, 0 ≤ c ∧ c < 256) : (binOp .neq 42 (.agg (insL x).toArray) (.agg (insL y).toArray)).run Tryd.prog w = .ok (.bool (!decide (x = y))) w := by
  rw [run_neq_struct]
  show Result.andThen ((Op.equalIn 10000 42 (.agg (InsC x.kind x.op x.d x.a x.b (strOfNums x.name) x.target)) (.agg (InsC y.kind y.op y.d y.a y.b (strOfNums y.name) y.target))).run Tryd.prog w) _ = _
  rw [eq_in 9997 x y w hx hy]
  rfl
theorem take_same {α : Type} {l k : List α} {j : Nat} {x y : α} (hx : l[j]? = some x) (hy : k[j]? = some y) (h : l.take j = k.take j) (e : x = y) : l.take (j + 1) = k.take (j + 1) := by
  rw [List.take_add_one, List.take_add_one, hx, hy, h, e]
set_option maxRecDepth 100000 in
set_option maxHeartbeats 16000000 in
theorem eqrow_mm (v1 v2 : Value) (l1 l2 : List Pg.Mm) (w : World) (h1 : RowV memC 3 w v1 l1) (h2 : RowV memC 3 w v2 l2) (hb1 : ∀ x ∈ l1, ∀ c ∈ x.name, 0 ≤ c ∧ c < 256) (hb2 : ∀ x ∈ l2, ∀ c ∈ x.name, 0 ≤ c ∧ c < 256) (hl : l1.length ≤ 2000000 ∧ l2.length ≤ 2000000) : Calls Tryd.prog 36 #[v1, v2] w (RetB (.bool (decide (l1 = l2))) w) := by
  obtain ⟨A1, c1, rfl, hcap1, hmx1, hA1⟩ := h1
  obtain ⟨A2, c2, rfl, hcap2, hmx2, hA2⟩ := h2
  have HA1 := Lib.hid hA1; have HA2 := Lib.hid hA2; have HB1 := Lib.hid hb1; have HB2 := Lib.hid hb2
  clear hA1 hA2 hb1 hb2
  go_enter Tryd.func36, Tryd.ntmps36
  by_cases hne : l1.length = l2.length
  case neg =>
    have hd : decide (l1 = l2) = false := by simpa using fun e => hne (by rw [e])
    have hni : ¬ (l1.length : Int) = (l2.length : Int) := by omega
    have hnd : decide ((l1.length : Int) = (l2.length : Int)) = false := by simpa using hni
    have hnb : ((l1.length : Int) == (l2.length : Int)) = false := by simpa using hni
    rw [hd]
    clear hne
    go_wp2_with fail
    go_ret
    exact ⟨rfl, up0 w⟩
  case pos =>
  have hcap3 : l1.length ≤ c2 := by omega
  rw [← hne]
  have HNE := Lib.hid hne
  clear hne
  go_wp2_with fail
  go_loopw [13] (fun v13 wr => ∃ j : Nat, v13 = .int .i64 (j : Int) ∧ j ≤ l1.length ∧ l1.take j = l2.take j ∧ Below w.heap.size w wr) (fun v13 _ => l1.length - (intOf v13).toNat)
  case atStart => exact ⟨0, rfl, Nat.zero_le _, rfl, up0 w⟩
  case round =>
    obtain ⟨j, rfl, hj, htk, hbw⟩ := hrel
    by_cases hlt : j < l1.length
    · have hlt2 : j < l2.length := by have := HNE.out; omega
      obtain ⟨g1, o1, rfl, hg1, hc1⟩ := HA1.out (by omega)
      obtain ⟨g2, o2, rfl, hg2, hc2⟩ := HA2.out (by omega)
      obtain ⟨x, hx⟩ : ∃ x, l1[j]? = some x := ⟨l1[j], by simp [hlt]⟩
      obtain ⟨y, hy⟩ : ∃ y, l2[j]? = some y := ⟨l2[j], by simp [hlt2]⟩
      have hneq := fun W => neq_mm x y W (HB1.out x (List.mem_of_getElem? hx)) (HB2.out y (List.mem_of_getElem? hy))
      have x0 : wr.cell? ⟨g1, o1 + j * 3, none⟩ = some (.string (strOfNums x.name)) := (hbw.cell hg1).trans (hc1 j x hx 0 (by decide))
      have x1 : wr.cell? ⟨g1, o1 + j * 3 + 1, none⟩ = some (.bool x.secret) := (hbw.cell hg1).trans (hc1 j x hx 1 (by decide))
      have x2 : wr.cell? ⟨g1, o1 + j * 3 + 2, none⟩ = some (.int .i64 x.n) := (hbw.cell hg1).trans (hc1 j x hx 2 (by decide))
      have y0 : wr.cell? ⟨g2, o2 + j * 3, none⟩ = some (.string (strOfNums y.name)) := (hbw.cell hg2).trans (hc2 j y hy 0 (by decide))
      have y1 : wr.cell? ⟨g2, o2 + j * 3 + 1, none⟩ = some (.bool y.secret) := (hbw.cell hg2).trans (hc2 j y hy 1 (by decide))
      have y2 : wr.cell? ⟨g2, o2 + j * 3 + 2, none⟩ = some (.int .i64 y.n) := (hbw.cell hg2).trans (hc2 j y hy 2 (by decide))
      have hlt' : (j : Int) < (l1.length : Int) := by omega
      have HB := Lib.hid hbw; have HTK := Lib.hid htk; have HX := Lib.hid hx; have HY := Lib.hid hy
      clear hbw htk hc1 hc2 hx hy hlt2
      by_cases hxy : x = y
      · have hneq2 : ∀ W, (binOp .neq 45 (.agg #[.string (strOfNums x.name), .bool x.secret, .int .i64 x.n]) (.agg #[.string (strOfNums y.name), .bool y.secret, .int .i64 y.n])).run Tryd.prog W = .ok (.bool false) W := fun W => (hneq W).trans (by rw [decide_eq_true hxy]; rfl)
        have HXY := Lib.hid hxy
        clear hneq hxy
        go_wp2_with fail
        refine wp_region_noPanic ?_
        refine wp_region_held_drew (S := fun w' => w'.cell? ⟨g1, o1 + j * 3, none⟩ = some (.string (strOfNums x.name)) ∧ w'.cell? ⟨g1, o1 + j * 3 + 1, none⟩ = some (.bool x.secret) ∧ w'.cell? ⟨g1, o1 + j * 3 + 2, none⟩ = some (.int .i64 x.n) ∧ w'.cell? ⟨g2, o2 + j * 3, none⟩ = some (.string (strOfNums y.name)) ∧ w'.cell? ⟨g2, o2 + j * 3 + 1, none⟩ = some (.bool y.secret) ∧ w'.cell? ⟨g2, o2 + j * 3 + 2, none⟩ = some (.int .i64 y.n)) (by kernel_rfl) ?_ (fun hHeld => ?_)
        · exact ⟨x0, x1, x2, y0, y1, y2⟩
        refine wpAnyH_take (i := 0) (oi := _) (v := ?_) rfl (by kernel_rfl) (by kernel_rfl) (by kernel_rfl) (fun _ _ _ h => h) (Or.inl ⟨by kernel_rfl, ?_⟩) (by assumption) ?_
        rotate_left
        · (intro w hSw; (try dsimp only at hSw); go_simp; try (with_reducible rfl))
        (try simp only [List.getElem_toArray, List.getElem_cons_succ, List.getElem_cons_zero, Act.put, List.setIfInBounds_toArray, List.set_cons_zero, List.set_cons_succ])
        refine wpAnyH_take (i := 1) (oi := _) (v := ?_) rfl (by kernel_rfl) (by kernel_rfl) (by kernel_rfl) (fun _ _ _ h => h) (Or.inl ⟨by kernel_rfl, ?_⟩) (by assumption) ?_
        rotate_left
        · (intro w hSw; (try dsimp only at hSw); go_simp; try (with_reducible rfl))
        (try simp only [List.getElem_toArray, List.getElem_cons_succ, List.getElem_cons_zero, Act.put, List.setIfInBounds_toArray, List.set_cons_zero, List.set_cons_succ])
        refine wpAnyH_take (i := 2) (oi := _) (v := ?_) rfl (by kernel_rfl) (by kernel_rfl) (by kernel_rfl) (fun _ _ _ h => h) (Or.inl ⟨by kernel_rfl, ?_⟩) (by assumption) ?_
        rotate_left
        · (intro w hSw; (try dsimp only at hSw); go_simp; try (with_reducible rfl))
        (try simp only [List.getElem_toArray, List.getElem_cons_succ, List.getElem_cons_zero, Act.put, List.setIfInBounds_toArray, List.set_cons_zero, List.set_cons_succ])
        refine wpAnyH_take (i := 3) (oi := _) (v := ?_) rfl (by kernel_rfl) (by kernel_rfl) (by kernel_rfl) (fun _ _ _ h => h) (Or.inl ⟨by kernel_rfl, ?_⟩) (by assumption) ?_
        rotate_left
        · (intro w hSw; (try dsimp only at hSw); go_simp; try (with_reducible rfl))
        (try simp only [List.getElem_toArray, List.getElem_cons_succ, List.getElem_cons_zero, Act.put, List.setIfInBounds_toArray, List.set_cons_zero, List.set_cons_succ])
        refine wpAnyH_take (i := 4) (oi := _) (v := ?_) rfl (by kernel_rfl) (by kernel_rfl) (by kernel_rfl) (fun _ _ _ h => h) (Or.inl ⟨by kernel_rfl, ?_⟩) (by assumption) ?_
        rotate_left
        · (intro w hSw; (try dsimp only at hSw); go_simp; try (with_reducible rfl))
        (try simp only [List.getElem_toArray, List.getElem_cons_succ, List.getElem_cons_zero, Act.put, List.setIfInBounds_toArray, List.set_cons_zero, List.set_cons_succ])
        refine wpAnyH_take (i := 5) (oi := _) (v := ?_) rfl (by kernel_rfl) (by kernel_rfl) (by kernel_rfl) (fun _ _ _ h => h) (Or.inl ⟨by kernel_rfl, ?_⟩) (by assumption) ?_
        rotate_left
        · (intro w hSw; (try dsimp only at hSw); go_simp; try (with_reducible rfl))
        (try simp only [List.getElem_toArray, List.getElem_cons_succ, List.getElem_cons_zero, Act.put, List.setIfInBounds_toArray, List.set_cons_zero, List.set_cons_succ])
        refine wpAnyH_take (i := 6) (oi := _) (v := ?_) rfl (by kernel_rfl) (by kernel_rfl) (by kernel_rfl) (fun _ _ _ h => h) (Or.inl ⟨by kernel_rfl, ?_⟩) (by assumption) ?_
        rotate_left
        · (intro w hSw; (try dsimp only at hSw); go_simp; try (with_reducible rfl))
        (try simp only [List.getElem_toArray, List.getElem_cons_succ, List.getElem_cons_zero, Act.put, List.setIfInBounds_toArray, List.set_cons_zero, List.set_cons_succ])
        refine wpAnyH_take (i := 7) (oi := _) (v := ?_) rfl (by kernel_rfl) (by kernel_rfl) (by kernel_rfl) (fun _ _ _ h => h) (Or.inl ⟨by kernel_rfl, ?_⟩) (by assumption) ?_
        rotate_left
        · (intro w hSw; (try dsimp only at hSw); go_simp; try (with_reducible rfl))
        (try simp only [List.getElem_toArray, List.getElem_cons_succ, List.getElem_cons_zero, Act.put, List.setIfInBounds_toArray, List.set_cons_zero, List.set_cons_succ])
        refine wpAnyH_take (i := 8) (oi := _) (v := ?_) rfl (by kernel_rfl) (by kernel_rfl) (by kernel_rfl) (fun _ _ _ h => h) (Or.inl ⟨by kernel_rfl, ?_⟩) (by assumption) ?_
        rotate_left
        · (intro w hSw; (try dsimp only at hSw); go_simp; try (with_reducible rfl))
        (try simp only [List.getElem_toArray, List.getElem_cons_succ, List.getElem_cons_zero, Act.put, List.setIfInBounds_toArray, List.set_cons_zero, List.set_cons_succ])
        refine wpAnyH_done (by kernel_rfl) ?_ _
        refine NoPanic.normal ?_
        (try go_simp)
        go_wp2_with fail
        refine ⟨⟨j + 1, by simp, by omega, take_same HX.out HY.out HTK.out HXY.out, upD HB.out 1⟩, by simp [intOf]; omega⟩
      · have hneq2 : ∀ W, (binOp .neq 45 (.agg #[.string (strOfNums x.name), .bool x.secret, .int .i64 x.n]) (.agg #[.string (strOfNums y.name), .bool y.secret, .int .i64 y.n])).run Tryd.prog W = .ok (.bool true) W := fun W => (hneq W).trans (by rw [decide_eq_false hxy]; rfl)
        have hd : decide (l1 = l2) = false := by
          have h1 := HX.out; have h2 := HY.out
          rw [decide_eq_false_iff_not]
          intro e
          rw [e, h2] at h1
          exact hxy (by injection h1 with h1; exact h1.symm)
        have HD := Lib.hid hd
        clear hneq hxy hd
        go_wp2_with fail
        refine wp_region_noPanic ?_
        refine wp_region_held_drew (S := fun w' => w'.cell? ⟨g1, o1 + j * 3, none⟩ = some (.string (strOfNums x.name)) ∧ w'.cell? ⟨g1, o1 + j * 3 + 1, none⟩ = some (.bool x.secret) ∧ w'.cell? ⟨g1, o1 + j * 3 + 2, none⟩ = some (.int .i64 x.n) ∧ w'.cell? ⟨g2, o2 + j * 3, none⟩ = some (.string (strOfNums y.name)) ∧ w'.cell? ⟨g2, o2 + j * 3 + 1, none⟩ = some (.bool y.secret) ∧ w'.cell? ⟨g2, o2 + j * 3 + 2, none⟩ = some (.int .i64 y.n)) (by kernel_rfl) ?_ (fun hHeld => ?_)
        · exact ⟨x0, x1, x2, y0, y1, y2⟩
        refine wpAnyH_take (i := 0) (oi := _) (v := ?_) rfl (by kernel_rfl) (by kernel_rfl) (by kernel_rfl) (fun _ _ _ h => h) (Or.inl ⟨by kernel_rfl, ?_⟩) (by assumption) ?_
        rotate_left
        · (intro w hSw; (try dsimp only at hSw); go_simp; try (with_reducible rfl))
        (try simp only [List.getElem_toArray, List.getElem_cons_succ, List.getElem_cons_zero, Act.put, List.setIfInBounds_toArray, List.set_cons_zero, List.set_cons_succ])
        refine wpAnyH_take (i := 1) (oi := _) (v := ?_) rfl (by kernel_rfl) (by kernel_rfl) (by kernel_rfl) (fun _ _ _ h => h) (Or.inl ⟨by kernel_rfl, ?_⟩) (by assumption) ?_
        rotate_left
        · (intro w hSw; (try dsimp only at hSw); go_simp; try (with_reducible rfl))
        (try simp only [List.getElem_toArray, List.getElem_cons_succ, List.getElem_cons_zero, Act.put, List.setIfInBounds_toArray, List.set_cons_zero, List.set_cons_succ])
        refine wpAnyH_take (i := 2) (oi := _) (v := ?_) rfl (by kernel_rfl) (by kernel_rfl) (by kernel_rfl) (fun _ _ _ h => h) (Or.inl ⟨by kernel_rfl, ?_⟩) (by assumption) ?_
        rotate_left
        · (intro w hSw; (try dsimp only at hSw); go_simp; try (with_reducible rfl))
        (try simp only [List.getElem_toArray, List.getElem_cons_succ, List.getElem_cons_zero, Act.put, List.setIfInBounds_toArray, List.set_cons_zero, List.set_cons_succ])
        refine wpAnyH_take (i := 3) (oi := _) (v := ?_) rfl (by kernel_rfl) (by kernel_rfl) (by kernel_rfl) (fun _ _ _ h => h) (Or.inl ⟨by kernel_rfl, ?_⟩) (by assumption) ?_
        rotate_left
        · (intro w hSw; (try dsimp only at hSw); go_simp; try (with_reducible rfl))
        (try simp only [List.getElem_toArray, List.getElem_cons_succ, List.getElem_cons_zero, Act.put, List.setIfInBounds_toArray, List.set_cons_zero, List.set_cons_succ])
        refine wpAnyH_take (i := 4) (oi := _) (v := ?_) rfl (by kernel_rfl) (by kernel_rfl) (by kernel_rfl) (fun _ _ _ h => h) (Or.inl ⟨by kernel_rfl, ?_⟩) (by assumption) ?_
        rotate_left
        · (intro w hSw; (try dsimp only at hSw); go_simp; try (with_reducible rfl))
        (try simp only [List.getElem_toArray, List.getElem_cons_succ, List.getElem_cons_zero, Act.put, List.setIfInBounds_toArray, List.set_cons_zero, List.set_cons_succ])
        refine wpAnyH_take (i := 5) (oi := _) (v := ?_) rfl (by kernel_rfl) (by kernel_rfl) (by kernel_rfl) (fun _ _ _ h => h) (Or.inl ⟨by kernel_rfl, ?_⟩) (by assumption) ?_
        rotate_left
        · (intro w hSw; (try dsimp only at hSw); go_simp; try (with_reducible rfl))
        (try simp only [List.getElem_toArray, List.getElem_cons_succ, List.getElem_cons_zero, Act.put, List.setIfInBounds_toArray, List.set_cons_zero, List.set_cons_succ])
        refine wpAnyH_take (i := 6) (oi := _) (v := ?_) rfl (by kernel_rfl) (by kernel_rfl) (by kernel_rfl) (fun _ _ _ h => h) (Or.inl ⟨by kernel_rfl, ?_⟩) (by assumption) ?_
        rotate_left
        · (intro w hSw; (try dsimp only at hSw); go_simp; try (with_reducible rfl))
        (try simp only [List.getElem_toArray, List.getElem_cons_succ, List.getElem_cons_zero, Act.put, List.setIfInBounds_toArray, List.set_cons_zero, List.set_cons_succ])
        refine wpAnyH_take (i := 7) (oi := _) (v := ?_) rfl (by kernel_rfl) (by kernel_rfl) (by kernel_rfl) (fun _ _ _ h => h) (Or.inl ⟨by kernel_rfl, ?_⟩) (by assumption) ?_
        rotate_left
        · (intro w hSw; (try dsimp only at hSw); go_simp; try (with_reducible rfl))
        (try simp only [List.getElem_toArray, List.getElem_cons_succ, List.getElem_cons_zero, Act.put, List.setIfInBounds_toArray, List.set_cons_zero, List.set_cons_succ])
        refine wpAnyH_take (i := 8) (oi := _) (v := ?_) rfl (by kernel_rfl) (by kernel_rfl) (by kernel_rfl) (fun _ _ _ h => h) (Or.inl ⟨by kernel_rfl, ?_⟩) (by assumption) ?_
        rotate_left
        · (intro w hSw; (try dsimp only at hSw); go_simp; try (with_reducible rfl))
        (try simp only [List.getElem_toArray, List.getElem_cons_succ, List.getElem_cons_zero, Act.put, List.setIfInBounds_toArray, List.set_cons_zero, List.set_cons_succ])
        refine wpAnyH_done (by kernel_rfl) ?_ _
        refine NoPanic.normal ?_
        (try go_simp)
        go_wp2_with fail
        go_ret
        rw [HD.out]
        exact ⟨rfl, upD HB.out 1⟩
    · have hje : j = l1.length := by omega
      subst hje
      have hlt' : ¬ (l1.length : Int) < (l1.length : Int) := by omega
      have hd : decide (l1 = l2) = true := by
        have e := htk
        rw [List.take_length, HNE.out, List.take_length] at e
        simpa using e
      have HB := Lib.hid hbw; have HD := Lib.hid hd
      clear hbw htk hd
      go_wp2_with fail
      go_ret
      rw [HD.out]
      exact ⟨rfl, HB.out⟩
set_option maxRecDepth 100000 in
set_option maxHeartbeats 16000000 in
theorem eqrow_lb (v1 v2 : Value) (l1 l2 : List Pg.Lb) (w : World) (h1 : RowV labC 2 w v1 l1) (h2 : RowV labC 2 w v2 l2) (hb1 : ∀ x ∈ l1, ∀ c ∈ x.name, 0 ≤ c ∧ c < 256) (hb2 : ∀ x ∈ l2, ∀ c ∈ x.name, 0 ≤ c ∧ c < 256) (hl : l1.length ≤ 2000000 ∧ l2.length ≤ 2000000) : Calls Tryd.prog 37 #[v1, v2] w (RetB (.bool (decide (l1 = l2))) w) := by
  obtain ⟨A1, c1, rfl, hcap1, hmx1, hA1⟩ := h1
  obtain ⟨A2, c2, rfl, hcap2, hmx2, hA2⟩ := h2
  have HA1 := Lib.hid hA1; have HA2 := Lib.hid hA2; have HB1 := Lib.hid hb1; have HB2 := Lib.hid hb2
  clear hA1 hA2 hb1 hb2
  go_enter Tryd.func37, Tryd.ntmps37
  by_cases hne : l1.length = l2.length
  case neg =>
    have hd : decide (l1 = l2) = false := by simpa using fun e => hne (by rw [e])
    have hni : ¬ (l1.length : Int) = (l2.length : Int) := by omega
    have hnd : decide ((l1.length : Int) = (l2.length : Int)) = false := by simpa using hni
    have hnb : ((l1.length : Int) == (l2.length : Int)) = false := by simpa using hni
    rw [hd]
    clear hne
    go_wp2_with fail
    go_ret
    exact ⟨rfl, up0 w⟩
  case pos =>
  have hcap3 : l1.length ≤ c2 := by omega
  rw [← hne]
  have HNE := Lib.hid hne
  clear hne
  go_wp2_with fail
  go_loopw [13] (fun v13 wr => ∃ j : Nat, v13 = .int .i64 (j : Int) ∧ j ≤ l1.length ∧ l1.take j = l2.take j ∧ Below w.heap.size w wr) (fun v13 _ => l1.length - (intOf v13).toNat)
  case atStart => exact ⟨0, rfl, Nat.zero_le _, rfl, up0 w⟩
  case round =>
    obtain ⟨j, rfl, hj, htk, hbw⟩ := hrel
    by_cases hlt : j < l1.length
    · have hlt2 : j < l2.length := by have := HNE.out; omega
      obtain ⟨g1, o1, rfl, hg1, hc1⟩ := HA1.out (by omega)
      obtain ⟨g2, o2, rfl, hg2, hc2⟩ := HA2.out (by omega)
      obtain ⟨x, hx⟩ : ∃ x, l1[j]? = some x := ⟨l1[j], by simp [hlt]⟩
      obtain ⟨y, hy⟩ : ∃ y, l2[j]? = some y := ⟨l2[j], by simp [hlt2]⟩
      have hneq := fun W => neq_lb x y W (HB1.out x (List.mem_of_getElem? hx)) (HB2.out y (List.mem_of_getElem? hy))
      have x0 : wr.cell? ⟨g1, o1 + j * 2, none⟩ = some (.string (strOfNums x.name)) := (hbw.cell hg1).trans (hc1 j x hx 0 (by decide))
      have x1 : wr.cell? ⟨g1, o1 + j * 2 + 1, none⟩ = some (.int .i64 x.at_) := (hbw.cell hg1).trans (hc1 j x hx 1 (by decide))
      have y0 : wr.cell? ⟨g2, o2 + j * 2, none⟩ = some (.string (strOfNums y.name)) := (hbw.cell hg2).trans (hc2 j y hy 0 (by decide))
      have y1 : wr.cell? ⟨g2, o2 + j * 2 + 1, none⟩ = some (.int .i64 y.at_) := (hbw.cell hg2).trans (hc2 j y hy 1 (by decide))
      have hlt' : (j : Int) < (l1.length : Int) := by omega
      have HB := Lib.hid hbw; have HTK := Lib.hid htk; have HX := Lib.hid hx; have HY := Lib.hid hy
      clear hbw htk hc1 hc2 hx hy hlt2
      by_cases hxy : x = y
      · have hneq2 : ∀ W, (binOp .neq 38 (.agg #[.string (strOfNums x.name), .int .i64 x.at_]) (.agg #[.string (strOfNums y.name), .int .i64 y.at_])).run Tryd.prog W = .ok (.bool false) W := fun W => (hneq W).trans (by rw [decide_eq_true hxy]; rfl)
        have HXY := Lib.hid hxy
        clear hneq hxy
        go_wp2_with fail
        refine wp_region_noPanic ?_
        refine wp_region_held_drew (S := fun w' => w'.cell? ⟨g1, o1 + j * 2, none⟩ = some (.string (strOfNums x.name)) ∧ w'.cell? ⟨g1, o1 + j * 2 + 1, none⟩ = some (.int .i64 x.at_) ∧ w'.cell? ⟨g2, o2 + j * 2, none⟩ = some (.string (strOfNums y.name)) ∧ w'.cell? ⟨g2, o2 + j * 2 + 1, none⟩ = some (.int .i64 y.at_)) (by kernel_rfl) ?_ (fun hHeld => ?_)
        · exact ⟨x0, x1, y0, y1⟩
        refine wpAnyH_take (i := 0) (oi := _) (v := ?_) rfl (by kernel_rfl) (by kernel_rfl) (by kernel_rfl) (fun _ _ _ h => h) (Or.inl ⟨by kernel_rfl, ?_⟩) (by assumption) ?_
        rotate_left
        · (intro w hSw; (try dsimp only at hSw); go_simp; try (with_reducible rfl))
        (try simp only [List.getElem_toArray, List.getElem_cons_succ, List.getElem_cons_zero, Act.put, List.setIfInBounds_toArray, List.set_cons_zero, List.set_cons_succ])
        refine wpAnyH_take (i := 1) (oi := _) (v := ?_) rfl (by kernel_rfl) (by kernel_rfl) (by kernel_rfl) (fun _ _ _ h => h) (Or.inl ⟨by kernel_rfl, ?_⟩) (by assumption) ?_
        rotate_left
        · (intro w hSw; (try dsimp only at hSw); go_simp; try (with_reducible rfl))
        (try simp only [List.getElem_toArray, List.getElem_cons_succ, List.getElem_cons_zero, Act.put, List.setIfInBounds_toArray, List.set_cons_zero, List.set_cons_succ])
        refine wpAnyH_take (i := 2) (oi := _) (v := ?_) rfl (by kernel_rfl) (by kernel_rfl) (by kernel_rfl) (fun _ _ _ h => h) (Or.inl ⟨by kernel_rfl, ?_⟩) (by assumption) ?_
        rotate_left
        · (intro w hSw; (try dsimp only at hSw); go_simp; try (with_reducible rfl))
        (try simp only [List.getElem_toArray, List.getElem_cons_succ, List.getElem_cons_zero, Act.put, List.setIfInBounds_toArray, List.set_cons_zero, List.set_cons_succ])
        refine wpAnyH_take (i := 3) (oi := _) (v := ?_) rfl (by kernel_rfl) (by kernel_rfl) (by kernel_rfl) (fun _ _ _ h => h) (Or.inl ⟨by kernel_rfl, ?_⟩) (by assumption) ?_
        rotate_left
        · (intro w hSw; (try dsimp only at hSw); go_simp; try (with_reducible rfl))
        (try simp only [List.getElem_toArray, List.getElem_cons_succ, List.getElem_cons_zero, Act.put, List.setIfInBounds_toArray, List.set_cons_zero, List.set_cons_succ])
        refine wpAnyH_take (i := 4) (oi := _) (v := ?_) rfl (by kernel_rfl) (by kernel_rfl) (by kernel_rfl) (fun _ _ _ h => h) (Or.inl ⟨by kernel_rfl, ?_⟩) (by assumption) ?_
        rotate_left
        · (intro w hSw; (try dsimp only at hSw); go_simp; try (with_reducible rfl))
        (try simp only [List.getElem_toArray, List.getElem_cons_succ, List.getElem_cons_zero, Act.put, List.setIfInBounds_toArray, List.set_cons_zero, List.set_cons_succ])
        refine wpAnyH_take (i := 5) (oi := _) (v := ?_) rfl (by kernel_rfl) (by kernel_rfl) (by kernel_rfl) (fun _ _ _ h => h) (Or.inl ⟨by kernel_rfl, ?_⟩) (by assumption) ?_
        rotate_left
        · (intro w hSw; (try dsimp only at hSw); go_simp; try (with_reducible rfl))
        (try simp only [List.getElem_toArray, List.getElem_cons_succ, List.getElem_cons_zero, Act.put, List.setIfInBounds_toArray, List.set_cons_zero, List.set_cons_succ])
        refine wpAnyH_take (i := 6) (oi := _) (v := ?_) rfl (by kernel_rfl) (by kernel_rfl) (by kernel_rfl) (fun _ _ _ h => h) (Or.inl ⟨by kernel_rfl, ?_⟩) (by assumption) ?_
        rotate_left
        · (intro w hSw; (try dsimp only at hSw); go_simp; try (with_reducible rfl))
        (try simp only [List.getElem_toArray, List.getElem_cons_succ, List.getElem_cons_zero, Act.put, List.setIfInBounds_toArray, List.set_cons_zero, List.set_cons_succ])
        refine wpAnyH_take (i := 7) (oi := _) (v := ?_) rfl (by kernel_rfl) (by kernel_rfl) (by kernel_rfl) (fun _ _ _ h => h) (Or.inl ⟨by kernel_rfl, ?_⟩) (by assumption) ?_
        rotate_left
        · (intro w hSw; (try dsimp only at hSw); go_simp; try (with_reducible rfl))
        (try simp only [List.getElem_toArray, List.getElem_cons_succ, List.getElem_cons_zero, Act.put, List.setIfInBounds_toArray, List.set_cons_zero, List.set_cons_succ])
        refine wpAnyH_take (i := 8) (oi := _) (v := ?_) rfl (by kernel_rfl) (by kernel_rfl) (by kernel_rfl) (fun _ _ _ h => h) (Or.inl ⟨by kernel_rfl, ?_⟩) (by assumption) ?_
        rotate_left
        · (intro w hSw; (try dsimp only at hSw); go_simp; try (with_reducible rfl))
        (try simp only [List.getElem_toArray, List.getElem_cons_succ, List.getElem_cons_zero, Act.put, List.setIfInBounds_toArray, List.set_cons_zero, List.set_cons_succ])
        refine wpAnyH_done (by kernel_rfl) ?_ _
        refine NoPanic.normal ?_
        (try go_simp)
        go_wp2_with fail
        refine ⟨⟨j + 1, by simp, by omega, take_same HX.out HY.out HTK.out HXY.out, upD HB.out 1⟩, by simp [intOf]; omega⟩
      · have hneq2 : ∀ W, (binOp .neq 38 (.agg #[.string (strOfNums x.name), .int .i64 x.at_]) (.agg #[.string (strOfNums y.name), .int .i64 y.at_])).run Tryd.prog W = .ok (.bool true) W := fun W => (hneq W).trans (by rw [decide_eq_false hxy]; rfl)
        have hd : decide (l1 = l2) = false := by
          have h1 := HX.out; have h2 := HY.out
          rw [decide_eq_false_iff_not]
          intro e
          rw [e, h2] at h1
          exact hxy (by injection h1 with h1; exact h1.symm)
        have HD := Lib.hid hd
        clear hneq hxy hd
        go_wp2_with fail
        refine wp_region_noPanic ?_
        refine wp_region_held_drew (S := fun w' => w'.cell? ⟨g1, o1 + j * 2, none⟩ = some (.string (strOfNums x.name)) ∧ w'.cell? ⟨g1, o1 + j * 2 + 1, none⟩ = some (.int .i64 x.at_) ∧ w'.cell? ⟨g2, o2 + j * 2, none⟩ = some (.string (strOfNums y.name)) ∧ w'.cell? ⟨g2, o2 + j * 2 + 1, none⟩ = some (.int .i64 y.at_)) (by kernel_rfl) ?_ (fun hHeld => ?_)
        · exact ⟨x0, x1, y0, y1⟩
        refine wpAnyH_take (i := 0) (oi := _) (v := ?_) rfl (by kernel_rfl) (by kernel_rfl) (by kernel_rfl) (fun _ _ _ h => h) (Or.inl ⟨by kernel_rfl, ?_⟩) (by assumption) ?_
        rotate_left
        · (intro w hSw; (try dsimp only at hSw); go_simp; try (with_reducible rfl))
        (try simp only [List.getElem_toArray, List.getElem_cons_succ, List.getElem_cons_zero, Act.put, List.setIfInBounds_toArray, List.set_cons_zero, List.set_cons_succ])
        refine wpAnyH_take (i := 1) (oi := _) (v := ?_) rfl (by kernel_rfl) (by kernel_rfl) (by kernel_rfl) (fun _ _ _ h => h) (Or.inl ⟨by kernel_rfl, ?_⟩) (by assumption) ?_
        rotate_left
        · (intro w hSw; (try dsimp only at hSw); go_simp; try (with_reducible rfl))
        (try simp only [List.getElem_toArray, List.getElem_cons_succ, List.getElem_cons_zero, Act.put, List.setIfInBounds_toArray, List.set_cons_zero, List.set_cons_succ])
        refine wpAnyH_take (i := 2) (oi := _) (v := ?_) rfl (by kernel_rfl) (by kernel_rfl) (by kernel_rfl) (fun _ _ _ h => h) (Or.inl ⟨by kernel_rfl, ?_⟩) (by assumption) ?_
        rotate_left
        · (intro w hSw; (try dsimp only at hSw); go_simp; try (with_reducible rfl))
        (try simp only [List.getElem_toArray, List.getElem_cons_succ, List.getElem_cons_zero, Act.put, List.setIfInBounds_toArray, List.set_cons_zero, List.set_cons_succ])
        refine wpAnyH_take (i := 3) (oi := _) (v := ?_) rfl (by kernel_rfl) (by kernel_rfl) (by kernel_rfl) (fun _ _ _ h => h) (Or.inl ⟨by kernel_rfl, ?_⟩) (by assumption) ?_
        rotate_left
        · (intro w hSw; (try dsimp only at hSw); go_simp; try (with_reducible rfl))
        (try simp only [List.getElem_toArray, List.getElem_cons_succ, List.getElem_cons_zero, Act.put, List.setIfInBounds_toArray, List.set_cons_zero, List.set_cons_succ])
        refine wpAnyH_take (i := 4) (oi := _) (v := ?_) rfl (by kernel_rfl) (by kernel_rfl) (by kernel_rfl) (fun _ _ _ h => h) (Or.inl ⟨by kernel_rfl, ?_⟩) (by assumption) ?_
        rotate_left
        · (intro w hSw; (try dsimp only at hSw); go_simp; try (with_reducible rfl))
        (try simp only [List.getElem_toArray, List.getElem_cons_succ, List.getElem_cons_zero, Act.put, List.setIfInBounds_toArray, List.set_cons_zero, List.set_cons_succ])
        refine wpAnyH_take (i := 5) (oi := _) (v := ?_) rfl (by kernel_rfl) (by kernel_rfl) (by kernel_rfl) (fun _ _ _ h => h) (Or.inl ⟨by kernel_rfl, ?_⟩) (by assumption) ?_
        rotate_left
        · (intro w hSw; (try dsimp only at hSw); go_simp; try (with_reducible rfl))
        (try simp only [List.getElem_toArray, List.getElem_cons_succ, List.getElem_cons_zero, Act.put, List.setIfInBounds_toArray, List.set_cons_zero, List.set_cons_succ])
        refine wpAnyH_take (i := 6) (oi := _) (v := ?_) rfl (by kernel_rfl) (by kernel_rfl) (by kernel_rfl) (fun _ _ _ h => h) (Or.inl ⟨by kernel_rfl, ?_⟩) (by assumption) ?_
        rotate_left
        · (intro w hSw; (try dsimp only at hSw); go_simp; try (with_reducible rfl))
        (try simp only [List.getElem_toArray, List.getElem_cons_succ, List.getElem_cons_zero, Act.put, List.setIfInBounds_toArray, List.set_cons_zero, List.set_cons_succ])
        refine wpAnyH_take (i := 7) (oi := _) (v := ?_) rfl (by kernel_rfl) (by kernel_rfl) (by kernel_rfl) (fun _ _ _ h => h) (Or.inl ⟨by kernel_rfl, ?_⟩) (by assumption) ?_
        rotate_left
        · (intro w hSw; (try dsimp only at hSw); go_simp; try (with_reducible rfl))
        (try simp only [List.getElem_toArray, List.getElem_cons_succ, List.getElem_cons_zero, Act.put, List.setIfInBounds_toArray, List.set_cons_zero, List.set_cons_succ])
        refine wpAnyH_take (i := 8) (oi := _) (v := ?_) rfl (by kernel_rfl) (by kernel_rfl) (by kernel_rfl) (fun _ _ _ h => h) (Or.inl ⟨by kernel_rfl, ?_⟩) (by assumption) ?_
        rotate_left
        · (intro w hSw; (try dsimp only at hSw); go_simp; try (with_reducible rfl))
        (try simp only [List.getElem_toArray, List.getElem_cons_succ, List.getElem_cons_zero, Act.put, List.setIfInBounds_toArray, List.set_cons_zero, List.set_cons_succ])
        refine wpAnyH_done (by kernel_rfl) ?_ _
        refine NoPanic.normal ?_
        (try go_simp)
        go_wp2_with fail
        go_ret
        rw [HD.out]
        exact ⟨rfl, upD HB.out 1⟩
    · have hje : j = l1.length := by omega
      subst hje
      have hlt' : ¬ (l1.length : Int) < (l1.length : Int) := by omega
      have hd : decide (l1 = l2) = true := by
        have e := htk
        rw [List.take_length, HNE.out, List.take_length] at e
        simpa using e
      have HB := Lib.hid hbw; have HD := Lib.hid hd
      clear hbw htk hd
      go_wp2_with fail
      go_ret
      rw [HD.out]
      exact ⟨rfl, HB.out⟩
set_option maxRecDepth 100000 in
set_option maxHeartbeats 16000000 in
theorem eqrow_in (v1 v2 : Value) (l1 l2 : List Sy.In) (w : World) (h1 : RowV insL 9 w v1 l1) (h2 : RowV insL 9 w v2 l2) (hb1 : ∀ x ∈ l1, ∀ c ∈ x.name, 0 ≤ c ∧ c < 256) (hb2 : ∀ x ∈ l2, ∀ c ∈ x.name, 0 ≤ c ∧ c < 256) (hl : l1.length ≤ 2000000 ∧ l2.length ≤ 2000000) : Calls Tryd.prog 38 #[v1, v2] w (RetB (.bool (decide (l1 = l2))) w) := by
  obtain ⟨A1, c1, rfl, hcap1, hmx1, hA1⟩ := h1
  obtain ⟨A2, c2, rfl, hcap2, hmx2, hA2⟩ := h2
  have HA1 := Lib.hid hA1; have HA2 := Lib.hid hA2; have HB1 := Lib.hid hb1; have HB2 := Lib.hid hb2
  clear hA1 hA2 hb1 hb2
  go_enter Tryd.func38, Tryd.ntmps38
  by_cases hne : l1.length = l2.length
  case neg =>
    have hd : decide (l1 = l2) = false := by simpa using fun e => hne (by rw [e])
    have hni : ¬ (l1.length : Int) = (l2.length : Int) := by omega
    have hnd : decide ((l1.length : Int) = (l2.length : Int)) = false := by simpa using hni
    have hnb : ((l1.length : Int) == (l2.length : Int)) = false := by simpa using hni
    rw [hd]
    clear hne
    go_wp2_with fail
    go_ret
    exact ⟨rfl, up0 w⟩
  case pos =>
  have hcap3 : l1.length ≤ c2 := by omega
  rw [← hne]
  have HNE := Lib.hid hne
  clear hne
  go_wp2_with fail
  go_loopw [13] (fun v13 wr => ∃ j : Nat, v13 = .int .i64 (j : Int) ∧ j ≤ l1.length ∧ l1.take j = l2.take j ∧ Below w.heap.size w wr) (fun v13 _ => l1.length - (intOf v13).toNat)
  case atStart => exact ⟨0, rfl, Nat.zero_le _, rfl, up0 w⟩
  case round =>
    obtain ⟨j, rfl, hj, htk, hbw⟩ := hrel
    by_cases hlt : j < l1.length
    · have hlt2 : j < l2.length := by have := HNE.out; omega
      obtain ⟨g1, o1, rfl, hg1, hc1⟩ := HA1.out (by omega)
      obtain ⟨g2, o2, rfl, hg2, hc2⟩ := HA2.out (by omega)
      obtain ⟨x, hx⟩ : ∃ x, l1[j]? = some x := ⟨l1[j], by simp [hlt]⟩
      obtain ⟨y, hy⟩ : ∃ y, l2[j]? = some y := ⟨l2[j], by simp [hlt2]⟩
      have hneq := fun W => neq_ins x y W (HB1.out x (List.mem_of_getElem? hx)) (HB2.out y (List.mem_of_getElem? hy))
      have x0 : wr.cell? ⟨g1, o1 + j * 9, none⟩ = some (.int .i64 x.kind) := (hbw.cell hg1).trans (hc1 j x hx 0 (by decide))
      have x1 : wr.cell? ⟨g1, o1 + j * 9 + 1, none⟩ = some (.int .i64 x.op) := (hbw.cell hg1).trans (hc1 j x hx 1 (by decide))
      have x2 : wr.cell? ⟨g1, o1 + j * 9 + 2, none⟩ = some (.int .i64 x.d) := (hbw.cell hg1).trans (hc1 j x hx 2 (by decide))
      have x3 : wr.cell? ⟨g1, o1 + j * 9 + 3, none⟩ = some (.bool x.a.reg) := (hbw.cell hg1).trans (hc1 j x hx 3 (by decide))
      have x4 : wr.cell? ⟨g1, o1 + j * 9 + 4, none⟩ = some (.int .i64 x.a.n) := (hbw.cell hg1).trans (hc1 j x hx 4 (by decide))
      have x5 : wr.cell? ⟨g1, o1 + j * 9 + 5, none⟩ = some (.bool x.b.reg) := (hbw.cell hg1).trans (hc1 j x hx 5 (by decide))
      have x6 : wr.cell? ⟨g1, o1 + j * 9 + 6, none⟩ = some (.int .i64 x.b.n) := (hbw.cell hg1).trans (hc1 j x hx 6 (by decide))
      have x7 : wr.cell? ⟨g1, o1 + j * 9 + 7, none⟩ = some (.string (strOfNums x.name)) := (hbw.cell hg1).trans (hc1 j x hx 7 (by decide))
      have x8 : wr.cell? ⟨g1, o1 + j * 9 + 8, none⟩ = some (.int .i64 x.target) := (hbw.cell hg1).trans (hc1 j x hx 8 (by decide))
      have y0 : wr.cell? ⟨g2, o2 + j * 9, none⟩ = some (.int .i64 y.kind) := (hbw.cell hg2).trans (hc2 j y hy 0 (by decide))
      have y1 : wr.cell? ⟨g2, o2 + j * 9 + 1, none⟩ = some (.int .i64 y.op) := (hbw.cell hg2).trans (hc2 j y hy 1 (by decide))
      have y2 : wr.cell? ⟨g2, o2 + j * 9 + 2, none⟩ = some (.int .i64 y.d) := (hbw.cell hg2).trans (hc2 j y hy 2 (by decide))
      have y3 : wr.cell? ⟨g2, o2 + j * 9 + 3, none⟩ = some (.bool y.a.reg) := (hbw.cell hg2).trans (hc2 j y hy 3 (by decide))
      have y4 : wr.cell? ⟨g2, o2 + j * 9 + 4, none⟩ = some (.int .i64 y.a.n) := (hbw.cell hg2).trans (hc2 j y hy 4 (by decide))
      have y5 : wr.cell? ⟨g2, o2 + j * 9 + 5, none⟩ = some (.bool y.b.reg) := (hbw.cell hg2).trans (hc2 j y hy 5 (by decide))
      have y6 : wr.cell? ⟨g2, o2 + j * 9 + 6, none⟩ = some (.int .i64 y.b.n) := (hbw.cell hg2).trans (hc2 j y hy 6 (by decide))
      have y7 : wr.cell? ⟨g2, o2 + j * 9 + 7, none⟩ = some (.string (strOfNums y.name)) := (hbw.cell hg2).trans (hc2 j y hy 7 (by decide))
      have y8 : wr.cell? ⟨g2, o2 + j * 9 + 8, none⟩ = some (.int .i64 y.target) := (hbw.cell hg2).trans (hc2 j y hy 8 (by decide))
      have hlt' : (j : Int) < (l1.length : Int) := by omega
      have HB := Lib.hid hbw; have HTK := Lib.hid htk; have HX := Lib.hid hx; have HY := Lib.hid hy
      clear hbw htk hc1 hc2 hx hy hlt2
      by_cases hxy : x = y
      · have hneq2 : ∀ W, (binOp .neq 42 (.agg #[.int .i64 x.kind, .int .i64 x.op, .int .i64 x.d, .bool x.a.reg, .int .i64 x.a.n, .bool x.b.reg, .int .i64 x.b.n, .string (strOfNums x.name), .int .i64 x.target]) (.agg #[.int .i64 y.kind, .int .i64 y.op, .int .i64 y.d, .bool y.a.reg, .int .i64 y.a.n, .bool y.b.reg, .int .i64 y.b.n, .string (strOfNums y.name), .int .i64 y.target])).run Tryd.prog W = .ok (.bool false) W := fun W => (hneq W).trans (by rw [decide_eq_true hxy]; rfl)
        have HXY := Lib.hid hxy
        clear hneq hxy
        go_wp2_with fail
        refine wp_region_noPanic ?_
        refine wp_region_held_drew (S := fun w' => w'.cell? ⟨g1, o1 + j * 9, none⟩ = some (.int .i64 x.kind) ∧ w'.cell? ⟨g1, o1 + j * 9 + 1, none⟩ = some (.int .i64 x.op) ∧ w'.cell? ⟨g1, o1 + j * 9 + 2, none⟩ = some (.int .i64 x.d) ∧ w'.cell? ⟨g1, o1 + j * 9 + 3, none⟩ = some (.bool x.a.reg) ∧ w'.cell? ⟨g1, o1 + j * 9 + 4, none⟩ = some (.int .i64 x.a.n) ∧ w'.cell? ⟨g1, o1 + j * 9 + 5, none⟩ = some (.bool x.b.reg) ∧ w'.cell? ⟨g1, o1 + j * 9 + 6, none⟩ = some (.int .i64 x.b.n) ∧ w'.cell? ⟨g1, o1 + j * 9 + 7, none⟩ = some (.string (strOfNums x.name)) ∧ w'.cell? ⟨g1, o1 + j * 9 + 8, none⟩ = some (.int .i64 x.target) ∧ w'.cell? ⟨g2, o2 + j * 9, none⟩ = some (.int .i64 y.kind) ∧ w'.cell? ⟨g2, o2 + j * 9 + 1, none⟩ = some (.int .i64 y.op) ∧ w'.cell? ⟨g2, o2 + j * 9 + 2, none⟩ = some (.int .i64 y.d) ∧ w'.cell? ⟨g2, o2 + j * 9 + 3, none⟩ = some (.bool y.a.reg) ∧ w'.cell? ⟨g2, o2 + j * 9 + 4, none⟩ = some (.int .i64 y.a.n) ∧ w'.cell? ⟨g2, o2 + j * 9 + 5, none⟩ = some (.bool y.b.reg) ∧ w'.cell? ⟨g2, o2 + j * 9 + 6, none⟩ = some (.int .i64 y.b.n) ∧ w'.cell? ⟨g2, o2 + j * 9 + 7, none⟩ = some (.string (strOfNums y.name)) ∧ w'.cell? ⟨g2, o2 + j * 9 + 8, none⟩ = some (.int .i64 y.target)) (by kernel_rfl) ?_ (fun hHeld => ?_)
        · exact ⟨x0, x1, x2, x3, x4, x5, x6, x7, x8, y0, y1, y2, y3, y4, y5, y6, y7, y8⟩
        refine wpAnyH_take (i := 0) (oi := _) (v := ?_) rfl (by kernel_rfl) (by kernel_rfl) (by kernel_rfl) (fun _ _ _ h => h) (Or.inl ⟨by kernel_rfl, ?_⟩) (by assumption) ?_
        rotate_left
        · (intro w hSw; (try dsimp only at hSw); go_simp; try (with_reducible rfl))
        (try simp only [List.getElem_toArray, List.getElem_cons_succ, List.getElem_cons_zero, Act.put, List.setIfInBounds_toArray, List.set_cons_zero, List.set_cons_succ])
        refine wpAnyH_take (i := 1) (oi := _) (v := ?_) rfl (by kernel_rfl) (by kernel_rfl) (by kernel_rfl) (fun _ _ _ h => h) (Or.inl ⟨by kernel_rfl, ?_⟩) (by assumption) ?_
        rotate_left
        · (intro w hSw; (try dsimp only at hSw); go_simp; try (with_reducible rfl))
        (try simp only [List.getElem_toArray, List.getElem_cons_succ, List.getElem_cons_zero, Act.put, List.setIfInBounds_toArray, List.set_cons_zero, List.set_cons_succ])
        refine wpAnyH_take (i := 2) (oi := _) (v := ?_) rfl (by kernel_rfl) (by kernel_rfl) (by kernel_rfl) (fun _ _ _ h => h) (Or.inl ⟨by kernel_rfl, ?_⟩) (by assumption) ?_
        rotate_left
        · (intro w hSw; (try dsimp only at hSw); go_simp; try (with_reducible rfl))
        (try simp only [List.getElem_toArray, List.getElem_cons_succ, List.getElem_cons_zero, Act.put, List.setIfInBounds_toArray, List.set_cons_zero, List.set_cons_succ])
        refine wpAnyH_take (i := 3) (oi := _) (v := ?_) rfl (by kernel_rfl) (by kernel_rfl) (by kernel_rfl) (fun _ _ _ h => h) (Or.inl ⟨by kernel_rfl, ?_⟩) (by assumption) ?_
        rotate_left
        · (intro w hSw; (try dsimp only at hSw); go_simp; try (with_reducible rfl))
        (try simp only [List.getElem_toArray, List.getElem_cons_succ, List.getElem_cons_zero, Act.put, List.setIfInBounds_toArray, List.set_cons_zero, List.set_cons_succ])
        refine wpAnyH_take (i := 4) (oi := _) (v := ?_) rfl (by kernel_rfl) (by kernel_rfl) (by kernel_rfl) (fun _ _ _ h => h) (Or.inl ⟨by kernel_rfl, ?_⟩) (by assumption) ?_
        rotate_left
        · (intro w hSw; (try dsimp only at hSw); go_simp; try (with_reducible rfl))
        (try simp only [List.getElem_toArray, List.getElem_cons_succ, List.getElem_cons_zero, Act.put, List.setIfInBounds_toArray, List.set_cons_zero, List.set_cons_succ])
        refine wpAnyH_take (i := 5) (oi := _) (v := ?_) rfl (by kernel_rfl) (by kernel_rfl) (by kernel_rfl) (fun _ _ _ h => h) (Or.inl ⟨by kernel_rfl, ?_⟩) (by assumption) ?_
        rotate_left
        · (intro w hSw; (try dsimp only at hSw); go_simp; try (with_reducible rfl))
        (try simp only [List.getElem_toArray, List.getElem_cons_succ, List.getElem_cons_zero, Act.put, List.setIfInBounds_toArray, List.set_cons_zero, List.set_cons_succ])
        refine wpAnyH_take (i := 6) (oi := _) (v := ?_) rfl (by kernel_rfl) (by kernel_rfl) (by kernel_rfl) (fun _ _ _ h => h) (Or.inl ⟨by kernel_rfl, ?_⟩) (by assumption) ?_
        rotate_left
        · (intro w hSw; (try dsimp only at hSw); go_simp; try (with_reducible rfl))
        (try simp only [List.getElem_toArray, List.getElem_cons_succ, List.getElem_cons_zero, Act.put, List.setIfInBounds_toArray, List.set_cons_zero, List.set_cons_succ])
        refine wpAnyH_take (i := 7) (oi := _) (v := ?_) rfl (by kernel_rfl) (by kernel_rfl) (by kernel_rfl) (fun _ _ _ h => h) (Or.inl ⟨by kernel_rfl, ?_⟩) (by assumption) ?_
        rotate_left
        · (intro w hSw; (try dsimp only at hSw); go_simp; try (with_reducible rfl))
        (try simp only [List.getElem_toArray, List.getElem_cons_succ, List.getElem_cons_zero, Act.put, List.setIfInBounds_toArray, List.set_cons_zero, List.set_cons_succ])
        refine wpAnyH_take (i := 8) (oi := _) (v := ?_) rfl (by kernel_rfl) (by kernel_rfl) (by kernel_rfl) (fun _ _ _ h => h) (Or.inl ⟨by kernel_rfl, ?_⟩) (by assumption) ?_
        rotate_left
        · (intro w hSw; (try dsimp only at hSw); go_simp; try (with_reducible rfl))
        (try simp only [List.getElem_toArray, List.getElem_cons_succ, List.getElem_cons_zero, Act.put, List.setIfInBounds_toArray, List.set_cons_zero, List.set_cons_succ])
        refine wpAnyH_done (by kernel_rfl) ?_ _
        refine NoPanic.normal ?_
        (try go_simp)
        go_wp2_with fail
        refine ⟨⟨j + 1, by simp, by omega, take_same HX.out HY.out HTK.out HXY.out, upD HB.out 1⟩, by simp [intOf]; omega⟩
      · have hneq2 : ∀ W, (binOp .neq 42 (.agg #[.int .i64 x.kind, .int .i64 x.op, .int .i64 x.d, .bool x.a.reg, .int .i64 x.a.n, .bool x.b.reg, .int .i64 x.b.n, .string (strOfNums x.name), .int .i64 x.target]) (.agg #[.int .i64 y.kind, .int .i64 y.op, .int .i64 y.d, .bool y.a.reg, .int .i64 y.a.n, .bool y.b.reg, .int .i64 y.b.n, .string (strOfNums y.name), .int .i64 y.target])).run Tryd.prog W = .ok (.bool true) W := fun W => (hneq W).trans (by rw [decide_eq_false hxy]; rfl)
        have hd : decide (l1 = l2) = false := by
          have h1 := HX.out; have h2 := HY.out
          rw [decide_eq_false_iff_not]
          intro e
          rw [e, h2] at h1
          exact hxy (by injection h1 with h1; exact h1.symm)
        have HD := Lib.hid hd
        clear hneq hxy hd
        go_wp2_with fail
        refine wp_region_noPanic ?_
        refine wp_region_held_drew (S := fun w' => w'.cell? ⟨g1, o1 + j * 9, none⟩ = some (.int .i64 x.kind) ∧ w'.cell? ⟨g1, o1 + j * 9 + 1, none⟩ = some (.int .i64 x.op) ∧ w'.cell? ⟨g1, o1 + j * 9 + 2, none⟩ = some (.int .i64 x.d) ∧ w'.cell? ⟨g1, o1 + j * 9 + 3, none⟩ = some (.bool x.a.reg) ∧ w'.cell? ⟨g1, o1 + j * 9 + 4, none⟩ = some (.int .i64 x.a.n) ∧ w'.cell? ⟨g1, o1 + j * 9 + 5, none⟩ = some (.bool x.b.reg) ∧ w'.cell? ⟨g1, o1 + j * 9 + 6, none⟩ = some (.int .i64 x.b.n) ∧ w'.cell? ⟨g1, o1 + j * 9 + 7, none⟩ = some (.string (strOfNums x.name)) ∧ w'.cell? ⟨g1, o1 + j * 9 + 8, none⟩ = some (.int .i64 x.target) ∧ w'.cell? ⟨g2, o2 + j * 9, none⟩ = some (.int .i64 y.kind) ∧ w'.cell? ⟨g2, o2 + j * 9 + 1, none⟩ = some (.int .i64 y.op) ∧ w'.cell? ⟨g2, o2 + j * 9 + 2, none⟩ = some (.int .i64 y.d) ∧ w'.cell? ⟨g2, o2 + j * 9 + 3, none⟩ = some (.bool y.a.reg) ∧ w'.cell? ⟨g2, o2 + j * 9 + 4, none⟩ = some (.int .i64 y.a.n) ∧ w'.cell? ⟨g2, o2 + j * 9 + 5, none⟩ = some (.bool y.b.reg) ∧ w'.cell? ⟨g2, o2 + j * 9 + 6, none⟩ = some (.int .i64 y.b.n) ∧ w'.cell? ⟨g2, o2 + j * 9 + 7, none⟩ = some (.string (strOfNums y.name)) ∧ w'.cell? ⟨g2, o2 + j * 9 + 8, none⟩ = some (.int .i64 y.target)) (by kernel_rfl) ?_ (fun hHeld => ?_)
        · exact ⟨x0, x1, x2, x3, x4, x5, x6, x7, x8, y0, y1, y2, y3, y4, y5, y6, y7, y8⟩
        refine wpAnyH_take (i := 0) (oi := _) (v := ?_) rfl (by kernel_rfl) (by kernel_rfl) (by kernel_rfl) (fun _ _ _ h => h) (Or.inl ⟨by kernel_rfl, ?_⟩) (by assumption) ?_
        rotate_left
        · (intro w hSw; (try dsimp only at hSw); go_simp; try (with_reducible rfl))
        (try simp only [List.getElem_toArray, List.getElem_cons_succ, List.getElem_cons_zero, Act.put, List.setIfInBounds_toArray, List.set_cons_zero, List.set_cons_succ])
        refine wpAnyH_take (i := 1) (oi := _) (v := ?_) rfl (by kernel_rfl) (by kernel_rfl) (by kernel_rfl) (fun _ _ _ h => h) (Or.inl ⟨by kernel_rfl, ?_⟩) (by assumption) ?_
        rotate_left
        · (intro w hSw; (try dsimp only at hSw); go_simp; try (with_reducible rfl))
        (try simp only [List.getElem_toArray, List.getElem_cons_succ, List.getElem_cons_zero, Act.put, List.setIfInBounds_toArray, List.set_cons_zero, List.set_cons_succ])
        refine wpAnyH_take (i := 2) (oi := _) (v := ?_) rfl (by kernel_rfl) (by kernel_rfl) (by kernel_rfl) (fun _ _ _ h => h) (Or.inl ⟨by kernel_rfl, ?_⟩) (by assumption) ?_
        rotate_left
        · (intro w hSw; (try dsimp only at hSw); go_simp; try (with_reducible rfl))
        (try simp only [List.getElem_toArray, List.getElem_cons_succ, List.getElem_cons_zero, Act.put, List.setIfInBounds_toArray, List.set_cons_zero, List.set_cons_succ])
        refine wpAnyH_take (i := 3) (oi := _) (v := ?_) rfl (by kernel_rfl) (by kernel_rfl) (by kernel_rfl) (fun _ _ _ h => h) (Or.inl ⟨by kernel_rfl, ?_⟩) (by assumption) ?_
        rotate_left
        · (intro w hSw; (try dsimp only at hSw); go_simp; try (with_reducible rfl))
        (try simp only [List.getElem_toArray, List.getElem_cons_succ, List.getElem_cons_zero, Act.put, List.setIfInBounds_toArray, List.set_cons_zero, List.set_cons_succ])
        refine wpAnyH_take (i := 4) (oi := _) (v := ?_) rfl (by kernel_rfl) (by kernel_rfl) (by kernel_rfl) (fun _ _ _ h => h) (Or.inl ⟨by kernel_rfl, ?_⟩) (by assumption) ?_
        rotate_left
        · (intro w hSw; (try dsimp only at hSw); go_simp; try (with_reducible rfl))
        (try simp only [List.getElem_toArray, List.getElem_cons_succ, List.getElem_cons_zero, Act.put, List.setIfInBounds_toArray, List.set_cons_zero, List.set_cons_succ])
        refine wpAnyH_take (i := 5) (oi := _) (v := ?_) rfl (by kernel_rfl) (by kernel_rfl) (by kernel_rfl) (fun _ _ _ h => h) (Or.inl ⟨by kernel_rfl, ?_⟩) (by assumption) ?_
        rotate_left
        · (intro w hSw; (try dsimp only at hSw); go_simp; try (with_reducible rfl))
        (try simp only [List.getElem_toArray, List.getElem_cons_succ, List.getElem_cons_zero, Act.put, List.setIfInBounds_toArray, List.set_cons_zero, List.set_cons_succ])
        refine wpAnyH_take (i := 6) (oi := _) (v := ?_) rfl (by kernel_rfl) (by kernel_rfl) (by kernel_rfl) (fun _ _ _ h => h) (Or.inl ⟨by kernel_rfl, ?_⟩) (by assumption) ?_
        rotate_left
        · (intro w hSw; (try dsimp only at hSw); go_simp; try (with_reducible rfl))
        (try simp only [List.getElem_toArray, List.getElem_cons_succ, List.getElem_cons_zero, Act.put, List.setIfInBounds_toArray, List.set_cons_zero, List.set_cons_succ])
        refine wpAnyH_take (i := 7) (oi := _) (v := ?_) rfl (by kernel_rfl) (by kernel_rfl) (by kernel_rfl) (fun _ _ _ h => h) (Or.inl ⟨by kernel_rfl, ?_⟩) (by assumption) ?_
        rotate_left
        · (intro w hSw; (try dsimp only at hSw); go_simp; try (with_reducible rfl))
        (try simp only [List.getElem_toArray, List.getElem_cons_succ, List.getElem_cons_zero, Act.put, List.setIfInBounds_toArray, List.set_cons_zero, List.set_cons_succ])
        refine wpAnyH_take (i := 8) (oi := _) (v := ?_) rfl (by kernel_rfl) (by kernel_rfl) (by kernel_rfl) (fun _ _ _ h => h) (Or.inl ⟨by kernel_rfl, ?_⟩) (by assumption) ?_
        rotate_left
        · (intro w hSw; (try dsimp only at hSw); go_simp; try (with_reducible rfl))
        (try simp only [List.getElem_toArray, List.getElem_cons_succ, List.getElem_cons_zero, Act.put, List.setIfInBounds_toArray, List.set_cons_zero, List.set_cons_succ])
        refine wpAnyH_done (by kernel_rfl) ?_ _
        refine NoPanic.normal ?_
        (try go_simp)
        go_wp2_with fail
        go_ret
        rw [HD.out]
        exact ⟨rfl, upD HB.out 1⟩
    · have hje : j = l1.length := by omega
      subst hje
      have hlt' : ¬ (l1.length : Int) < (l1.length : Int) := by omega
      have hd : decide (l1 = l2) = true := by
        have e := htk
        rw [List.take_length, HNE.out, List.take_length] at e
        simpa using e
      have HB := Lib.hid hbw; have HD := Lib.hid hd
      clear hbw htk hd
      go_wp2_with fail
      go_ret
      rw [HD.out]
      exact ⟨rfl, HB.out⟩
end
end Go.Proofs.YtmghklokbmdenaaDoor
namespace Go.Proofs.YtmghklokbmdenaaDoor
section
open Go.RowKit
theorem eq_arr (d : Nat) (a0 a1 a2 a3 b0 b1 b2 b3 : Int) (w : World) : (Op.equalIn (d + 3) 24 (.agg #[.int .i64 a0, .int .i64 a1, .int .i64 a2, .int .i64 a3]) (.agg #[.int .i64 b0, .int .i64 b1, .int .i64 b2, .int .i64 b3])).run Tryd.prog w = .ok (decide ([a0, a1, a2, a3] = [b0, b1, b2, b3])) w := by
  obtain ⟨i0, hi0, _⟩ := Option.map_eq_some_iff.1 (show (Tryd.prog.info? 3).map (fun i => i.size) = some 1 by kernel_rfl)
  have hc : Tryd.prog.cellsOf 3 = 1 := by kernel_rfl
  rw [run_equalIn_array w (d + 2) _ _ Tryd.underlying24 hi0, show List.range 4 = [0, 1, 2, 3] from rfl]
  simp only [Op.eqItems, hc]
  by_cases e0 : a0 = b0
  · subst e0
    by_cases e1 : a1 = b1
    · subst e1
      by_cases e2 : a2 = b2
      · subst e2
        by_cases e3 : a3 = b3
        · subst e3
          go_simp
        · rw [decide_eq_false (fun h => e3 (by simpa using h))]
          have f3 : (a3 == b3) = false := by simpa using e3
          go_simp
      · rw [decide_eq_false (fun h => e2 (by simp at h; exact h.1))]
        have f2 : (a2 == b2) = false := by simpa using e2
        go_simp
    · rw [decide_eq_false (fun h => e1 (by simp at h; exact h.1))]
      have f1 : (a1 == b1) = false := by simpa using e1
      go_simp
  · rw [decide_eq_false (fun h => e0 (by simp at h; exact h.1))]
    have f0 : (a0 == b0) = false := by simpa using e0
    go_simp
theorem eql_arr (a0 a1 a2 a3 b0 b1 b2 b3 : Int) (w : World) : (binOp .eql 24 (.agg #[.int .i64 a0, .int .i64 a1, .int .i64 a2, .int .i64 a3]) (.agg #[.int .i64 b0, .int .i64 b1, .int .i64 b2, .int .i64 b3])).run Tryd.prog w = .ok (.bool (decide ([a0, a1, a2, a3] = [b0, b1, b2, b3]))) w := by
  rw [run_eql_struct, eq_arr 9997]
  rfl
theorem isB_lt {t : List Int} (h : Cd.isB t) : ∀ c ∈ t, 0 ≤ c ∧ c < 256 := h
set_option maxRecDepth 100000 in
set_option maxHeartbeats 32000000 in
theorem same_any (a b : Pg.Pr) (aM aL aI bM bL bI : Value) (w : World) (ha : PrIn w a aM aL aI) (hb : PrIn w b bM bL bI) (oa : PrOk a) (ob : PrOk b) : Calls Tryd.prog 18 #[.agg (PrA a aM aL aI), .agg (PrA b bM bL bI)] w (RetB (.bool (decide (a = b))) w) := by
  obtain ⟨a0, a1, a2, a3, hra⟩ := list4 oa.r4
  obtain ⟨b0, b1, b2, b3, hrb⟩ := list4 ob.r4
  have hM := fun W (h1 : Below w.heap.size w W) => eqrow_mm aM bM a.mems b.mems W (ha.up h1).rM (hb.up h1).rM (fun x hx => isB_lt (oa.mems x hx).2) (fun x hx => isB_lt (ob.mems x hx).2) ⟨by have := oa.few.1; omega, by have := ob.few.1; omega⟩
  have hL := fun W (h1 : Below w.heap.size w W) => eqrow_lb aL bL a.labels b.labels W (ha.up h1).rL (hb.up h1).rL (fun x hx => isB_lt (oa.labels x hx).2) (fun x hx => isB_lt (ob.labels x hx).2) ⟨by have := oa.few.2.1; omega, by have := ob.few.2.1; omega⟩
  have hI := fun W (h1 : Below w.heap.size w W) => eqrow_in aI bI a.ins b.ins W (ha.up h1).rI (hb.up h1).rI (fun x hx => isB_lt (oa.ins x hx).2) (fun x hx => isB_lt (ob.ins x hx).2) ⟨by have := oa.few.2.2; omega, by have := ob.few.2.2; omega⟩
  clear ha hb oa ob
  obtain ⟨aw, awin, afuel, aregs, am, al, ai⟩ := a
  obtain ⟨bw, bwin, bfuel, bregs, bm, bl, bi⟩ := b
  simp only at hra hrb hM hL hI
  subst hra hrb
  have hR := fun W => eql_arr a0 a1 a2 a3 b0 b1 b2 b3 W
  have HM := Lib.hid hM; have HL := Lib.hid hL; have HI := Lib.hid hI
  clear hM hL hI
  go_enter Tryd.func18, Tryd.ntmps18
  by_cases c0 : aw = bw
  case neg =>
    have hb : (aw == bw) = false := by simpa using c0
    have hd2 : decide (aw = bw) = false := by simpa using c0
    have hd : decide ((⟨aw, awin, afuel, [a0, a1, a2, a3], am, al, ai⟩ : Pg.Pr) = ⟨bw, bwin, bfuel, [b0, b1, b2, b3], bm, bl, bi⟩) = false := decide_eq_false (fun h => by injection h with h0 h1 h2 h3 h4 h5 h6; exact c0 h0)
    rw [hd]
    clear hR c0
    go_wp2_with fail
    go_ret
    exact ⟨rfl, upA (upA (up0 w) _) _⟩
  case pos =>
  subst c0
  by_cases c1 : awin = bwin
  case neg =>
    have hb : (awin == bwin) = false := by simpa using c1
    have hd2 : decide (awin = bwin) = false := by simpa using c1
    have hd : decide ((⟨aw, awin, afuel, [a0, a1, a2, a3], am, al, ai⟩ : Pg.Pr) = ⟨aw, bwin, bfuel, [b0, b1, b2, b3], bm, bl, bi⟩) = false := decide_eq_false (fun h => by injection h with h0 h1 h2 h3 h4 h5 h6; exact c1 h1)
    rw [hd]
    clear hR c1
    go_wp2_with fail
    go_ret
    exact ⟨rfl, upA (upA (up0 w) _) _⟩
  case pos =>
  subst c1
  by_cases c2 : afuel = bfuel
  case neg =>
    have hb : (afuel == bfuel) = false := by simpa using c2
    have hd2 : decide (afuel = bfuel) = false := by simpa using c2
    have hd : decide ((⟨aw, awin, afuel, [a0, a1, a2, a3], am, al, ai⟩ : Pg.Pr) = ⟨aw, awin, bfuel, [b0, b1, b2, b3], bm, bl, bi⟩) = false := decide_eq_false (fun h => by injection h with h0 h1 h2 h3 h4 h5 h6; exact c2 h2)
    rw [hd]
    clear hR c2
    go_wp2_with fail
    go_ret
    exact ⟨rfl, upA (upA (up0 w) _) _⟩
  case pos =>
  subst c2
  by_cases c3 : [a0, a1, a2, a3] = [b0, b1, b2, b3]
  case neg =>
    rw [decide_eq_false c3] at hR
    have hd : decide ((⟨aw, awin, afuel, [a0, a1, a2, a3], am, al, ai⟩ : Pg.Pr) = ⟨aw, awin, afuel, [b0, b1, b2, b3], bm, bl, bi⟩) = false := decide_eq_false (fun h => by injection h with h0 h1 h2 h3 h4 h5 h6; exact c3 h3)
    rw [hd]
    clear c3
    go_wp2_with fail
    go_ret
    exact ⟨rfl, upA (upA (up0 w) _) _⟩
  case pos =>
  rw [decide_eq_true c3] at hR
  have hBA : ((w.alloc (.cells (PrA ⟨aw, awin, afuel, [a0, a1, a2, a3], am, al, ai⟩ aM aL aI) 29)).alloc (.cells (PrA ⟨aw, awin, afuel, [b0, b1, b2, b3], bm, bl, bi⟩ bM bL bI) 29)).heap[w.heap.size]? = some (.cells (PrA ⟨aw, awin, afuel, [a0, a1, a2, a3], am, al, ai⟩ aM aL aI) 29 (0, 0)) := (heap_alloc_old _ _ (by simp)).trans (heap_alloc_new w _)
  have hBB : ((w.alloc (.cells (PrA ⟨aw, awin, afuel, [a0, a1, a2, a3], am, al, ai⟩ aM aL aI) 29)).alloc (.cells (PrA ⟨aw, awin, afuel, [b0, b1, b2, b3], bm, bl, bi⟩ bM bL bI) 29)).heap[w.heap.size + 1]? = some (.cells (PrA ⟨aw, awin, afuel, [b0, b1, b2, b3], bm, bl, bi⟩ bM bL bI) 29 (0, 0)) := by
    have h := heap_alloc_new (w.alloc (.cells (PrA ⟨aw, awin, afuel, [a0, a1, a2, a3], am, al, ai⟩ aM aL aI) 29)) (.cells (PrA ⟨aw, awin, afuel, [b0, b1, b2, b3], bm, bl, bi⟩ bM bL bI) 29)
    rwa [show (w.alloc (.cells (PrA ⟨aw, awin, afuel, [a0, a1, a2, a3], am, al, ai⟩ aM aL aI) 29)).heap.size = w.heap.size + 1 by simp] at h
  have HBA := Lib.hid hBA; have HBB := Lib.hid hBB
  clear hBA hBB
  by_cases c4 : am = bm
  case neg =>
    have h' := HM.out
    rw [decide_eq_false c4] at h'
    have HM := Lib.hid h'
    have hd : decide ((⟨aw, awin, afuel, [a0, a1, a2, a3], am, al, ai⟩ : Pg.Pr) = ⟨aw, awin, afuel, [b0, b1, b2, b3], bm, bl, bi⟩) = false := decide_eq_false (fun h => by injection h with h0 h1 h2 h3 h4 h5 h6; exact c4 h4)
    rw [hd]
    clear h' c4 c3
    go_wp2_with (go_at_call 36; refine (HM.out _ (upA (upA (up0 w) _) _)).mono ?_; rintro e w4 ⟨rfl, hb4⟩; have k4a := (hb4.block w.heap.size (by simp; omega)).trans HBA.out; have k4b := (hb4.block (w.heap.size + 1) (by simp)).trans HBB.out; have n4 := (upT (upA (upA (up0 w) _) _) hb4); have za8 : w4.cell? ⟨w.heap.size, 8, none⟩ = some aL := cell_of_row _ _ 8 _ _ _ k4a; have zb8 : w4.cell? ⟨w.heap.size + 1, 8, none⟩ = some bL := cell_of_row _ _ 8 _ _ _ k4b; have za9 : w4.cell? ⟨w.heap.size, 9, none⟩ = some aI := cell_of_row _ _ 9 _ _ _ k4a; have zb9 : w4.cell? ⟨w.heap.size + 1, 9, none⟩ = some bI := cell_of_row _ _ 9 _ _ _ k4b; have K4A := Lib.hid k4a; have K4B := Lib.hid k4b; have N4 := Lib.hid n4; have S4 := Lib.hid hb4.size; clear k4a k4b n4 hb4)
    go_ret
    exact ⟨rfl, N4.out⟩
  case pos =>
  have h0' := HM.out
  rw [decide_eq_true c4] at h0'
  have HM := Lib.hid h0'
  clear h0'
  by_cases c5 : al = bl
  case neg =>
    have h' := HL.out
    rw [decide_eq_false c5] at h'
    have HL := Lib.hid h'
    have hd : decide ((⟨aw, awin, afuel, [a0, a1, a2, a3], am, al, ai⟩ : Pg.Pr) = ⟨aw, awin, afuel, [b0, b1, b2, b3], bm, bl, bi⟩) = false := decide_eq_false (fun h => by injection h with h0 h1 h2 h3 h4 h5 h6; exact c5 h5)
    rw [hd]
    clear h' c5 c3
    go_wp2_with first
      | (go_at_call 36; refine (HM.out _ (upA (upA (up0 w) _) _)).mono ?_; rintro e w4 ⟨rfl, hb4⟩; have k4a := (hb4.block w.heap.size (by simp; omega)).trans HBA.out; have k4b := (hb4.block (w.heap.size + 1) (by simp)).trans HBB.out; have n4 := (upT (upA (upA (up0 w) _) _) hb4); have za8 : w4.cell? ⟨w.heap.size, 8, none⟩ = some aL := cell_of_row _ _ 8 _ _ _ k4a; have zb8 : w4.cell? ⟨w.heap.size + 1, 8, none⟩ = some bL := cell_of_row _ _ 8 _ _ _ k4b; have za9 : w4.cell? ⟨w.heap.size, 9, none⟩ = some aI := cell_of_row _ _ 9 _ _ _ k4a; have zb9 : w4.cell? ⟨w.heap.size + 1, 9, none⟩ = some bI := cell_of_row _ _ 9 _ _ _ k4b; have K4A := Lib.hid k4a; have K4B := Lib.hid k4b; have N4 := Lib.hid n4; have S4 := Lib.hid hb4.size; clear k4a k4b n4 hb4)
      | (go_at_call 37; refine (HL.out _ N4.out).mono ?_; rintro e w5 ⟨rfl, hb5⟩; have k5a := (hb5.block w.heap.size (by have := S4.out; simp at this; omega)).trans K4A.out; have k5b := (hb5.block (w.heap.size + 1) (by have := S4.out; simp at this; omega)).trans K4B.out; have n5 := (upT N4.out hb5); clear za8 zb8 za9 zb9; have za9 : w5.cell? ⟨w.heap.size, 9, none⟩ = some aI := cell_of_row _ _ 9 _ _ _ k5a; have zb9 : w5.cell? ⟨w.heap.size + 1, 9, none⟩ = some bI := cell_of_row _ _ 9 _ _ _ k5b; have N5 := Lib.hid n5; clear k5a k5b n5 hb5)
    go_ret
    exact ⟨rfl, N5.out⟩
  case pos =>
  have h1' := HL.out
  rw [decide_eq_true c5] at h1'
  have HL := Lib.hid h1'
  clear h1'
  by_cases c6 : ai = bi
  case neg =>
    have h' := HI.out
    rw [decide_eq_false c6] at h'
    have HI := Lib.hid h'
    have hd : decide ((⟨aw, awin, afuel, [a0, a1, a2, a3], am, al, ai⟩ : Pg.Pr) = ⟨aw, awin, afuel, [b0, b1, b2, b3], bm, bl, bi⟩) = false := decide_eq_false (fun h => by injection h with h0 h1 h2 h3 h4 h5 h6; exact c6 h6)
    rw [hd]
    clear h' c6 c3
    go_wp2_with first
      | (go_at_call 36; refine (HM.out _ (upA (upA (up0 w) _) _)).mono ?_; rintro e w4 ⟨rfl, hb4⟩; have k4a := (hb4.block w.heap.size (by simp; omega)).trans HBA.out; have k4b := (hb4.block (w.heap.size + 1) (by simp)).trans HBB.out; have n4 := (upT (upA (upA (up0 w) _) _) hb4); have za8 : w4.cell? ⟨w.heap.size, 8, none⟩ = some aL := cell_of_row _ _ 8 _ _ _ k4a; have zb8 : w4.cell? ⟨w.heap.size + 1, 8, none⟩ = some bL := cell_of_row _ _ 8 _ _ _ k4b; have za9 : w4.cell? ⟨w.heap.size, 9, none⟩ = some aI := cell_of_row _ _ 9 _ _ _ k4a; have zb9 : w4.cell? ⟨w.heap.size + 1, 9, none⟩ = some bI := cell_of_row _ _ 9 _ _ _ k4b; have K4A := Lib.hid k4a; have K4B := Lib.hid k4b; have N4 := Lib.hid n4; have S4 := Lib.hid hb4.size; clear k4a k4b n4 hb4)
      | (go_at_call 37; refine (HL.out _ N4.out).mono ?_; rintro e w5 ⟨rfl, hb5⟩; have k5a := (hb5.block w.heap.size (by have := S4.out; simp at this; omega)).trans K4A.out; have k5b := (hb5.block (w.heap.size + 1) (by have := S4.out; simp at this; omega)).trans K4B.out; have n5 := (upT N4.out hb5); clear za8 zb8 za9 zb9; have za9 : w5.cell? ⟨w.heap.size, 9, none⟩ = some aI := cell_of_row _ _ 9 _ _ _ k5a; have zb9 : w5.cell? ⟨w.heap.size + 1, 9, none⟩ = some bI := cell_of_row _ _ 9 _ _ _ k5b; have N5 := Lib.hid n5; clear k5a k5b n5 hb5)
      | (go_at_call 38; refine (HI.out _ N5.out).mono ?_; rintro e w6 ⟨rfl, hb6⟩; have N6 := Lib.hid (upT N5.out hb6); clear hb6)
    go_ret
    exact ⟨rfl, N6.out⟩
  case pos =>
  have h2' := HI.out
  rw [decide_eq_true c6] at h2'
  have HI := Lib.hid h2'
  clear h2'
  have hd : decide ((⟨aw, awin, afuel, [a0, a1, a2, a3], am, al, ai⟩ : Pg.Pr) = ⟨aw, awin, afuel, [b0, b1, b2, b3], bm, bl, bi⟩) = true := decide_eq_true (by rw [c3, c4, c5, c6])
  rw [hd]
  clear c3 c4 c5 c6
  go_wp2_with first
      | (go_at_call 36; refine (HM.out _ (upA (upA (up0 w) _) _)).mono ?_; rintro e w4 ⟨rfl, hb4⟩; have k4a := (hb4.block w.heap.size (by simp; omega)).trans HBA.out; have k4b := (hb4.block (w.heap.size + 1) (by simp)).trans HBB.out; have n4 := (upT (upA (upA (up0 w) _) _) hb4); have za8 : w4.cell? ⟨w.heap.size, 8, none⟩ = some aL := cell_of_row _ _ 8 _ _ _ k4a; have zb8 : w4.cell? ⟨w.heap.size + 1, 8, none⟩ = some bL := cell_of_row _ _ 8 _ _ _ k4b; have za9 : w4.cell? ⟨w.heap.size, 9, none⟩ = some aI := cell_of_row _ _ 9 _ _ _ k4a; have zb9 : w4.cell? ⟨w.heap.size + 1, 9, none⟩ = some bI := cell_of_row _ _ 9 _ _ _ k4b; have K4A := Lib.hid k4a; have K4B := Lib.hid k4b; have N4 := Lib.hid n4; have S4 := Lib.hid hb4.size; clear k4a k4b n4 hb4)
      | (go_at_call 37; refine (HL.out _ N4.out).mono ?_; rintro e w5 ⟨rfl, hb5⟩; have k5a := (hb5.block w.heap.size (by have := S4.out; simp at this; omega)).trans K4A.out; have k5b := (hb5.block (w.heap.size + 1) (by have := S4.out; simp at this; omega)).trans K4B.out; have n5 := (upT N4.out hb5); clear za8 zb8 za9 zb9; have za9 : w5.cell? ⟨w.heap.size, 9, none⟩ = some aI := cell_of_row _ _ 9 _ _ _ k5a; have zb9 : w5.cell? ⟨w.heap.size + 1, 9, none⟩ = some bI := cell_of_row _ _ 9 _ _ _ k5b; have N5 := Lib.hid n5; clear k5a k5b n5 hb5)
      | (go_at_call 38; refine (HI.out _ N5.out).mono ?_; rintro e w6 ⟨rfl, hb6⟩; have N6 := Lib.hid (upT N5.out hb6); clear hb6)
  go_ret
  exact ⟨rfl, N6.out⟩
end
end Go.Proofs.YtmghklokbmdenaaDoor
namespace Go.Proofs.YtmghklokbmdenaaDoor
section
open Go.RowKit
namespace Pg
theorem okI_64 {i : Sy.In} (h : Sy.OkI i) : (I64 i.kind ∧ I64 i.op ∧ I64 i.d ∧ I64 i.a.n ∧ I64 i.b.n) ∧ i.target = 0 ∧ Cd.isB i.name ∧ (goes i = false → i.name = []) := by
  have hv : ∀ v, Sy.okV v → I64 v.n := fun v h => by
    unfold Sy.okV Sy.okR Sy.okN at h
    unfold I64
    rcases h with ⟨_, h⟩ | ⟨_, h⟩ <;> omega
  have hn : ∀ n, Sy.okN n → I64 n := fun n h => by unfold Sy.okN at h; unfold I64; omega
  have hr : ∀ n, Sy.okR n → I64 n := fun n h => by unfold Sy.okR at h; unfold I64; omega
  have ho : ∀ n, Sy.okO n → I64 n := fun n h => by unfold Sy.okO at h; unfold I64; omega
  have hs : ∀ k : Int, 0 ≤ k → k ≤ 20 → I64 k := fun k h h' => by unfold I64; omega
  have h0 : Cd.isB ([] : List Int) := fun x hx => by cases hx
  cases h with
  | alu a b c d => exact ⟨⟨hs _ (by simp) (by simp), ho _ a, hr _ b, hv _ c, hv _ d⟩, rfl, h0, fun _ => rfl⟩
  | load b c d => exact ⟨⟨hs _ (by simp) (by simp), hs _ (by simp) (by simp), hr _ b, hv _ c, hv _ d⟩, rfl, h0, fun _ => rfl⟩
  | store b c d => exact ⟨⟨hs _ (by simp) (by simp), hs _ (by simp) (by simp), hr _ b, hv _ c, hv _ d⟩, rfl, h0, fun _ => rfl⟩
  | cmov b c d => exact ⟨⟨hs _ (by simp) (by simp), hs _ (by simp) (by simp), hr _ b, hv _ c, hv _ d⟩, rfl, h0, fun _ => rfl⟩
  | br a c d n => exact ⟨⟨hs _ (by simp) (by simp), ho _ a, hs _ (by simp) (by simp), hv _ c, hv _ d⟩, rfl, okName_isB n, fun h => by simp [goes] at h⟩
  | jmp n => exact ⟨⟨hs _ (by simp) (by simp), hs _ (by simp) (by simp), hs _ (by simp) (by simp), hs _ (by simp [Sy.v0]) (by simp [Sy.v0]), hs _ (by simp [Sy.v0]) (by simp [Sy.v0])⟩, rfl, okName_isB n, fun h => by simp [goes] at h⟩
  | call n => exact ⟨⟨hs _ (by simp) (by simp), hs _ (by simp) (by simp), hs _ (by simp) (by simp), hs _ (by simp [Sy.v0]) (by simp [Sy.v0]), hs _ (by simp [Sy.v0]) (by simp [Sy.v0])⟩, rfl, okName_isB n, fun h => by simp [goes] at h⟩
  | ind c => exact ⟨⟨hs _ (by simp) (by simp), hs _ (by simp) (by simp), hs _ (by simp) (by simp), hv _ c, hs _ (by simp [Sy.v0]) (by simp [Sy.v0])⟩, rfl, h0, fun _ => rfl⟩
  | ret => exact ⟨⟨hs _ (by simp) (by simp), hs _ (by simp) (by simp), hs _ (by simp) (by simp), hs _ (by simp [Sy.v0]) (by simp [Sy.v0]), hs _ (by simp [Sy.v0]) (by simp [Sy.v0])⟩, rfl, h0, fun _ => rfl⟩
  | fence => exact ⟨⟨hs _ (by simp) (by simp), hs _ (by simp) (by simp), hs _ (by simp) (by simp), hs _ (by simp [Sy.v0]) (by simp [Sy.v0]), hs _ (by simp [Sy.v0]) (by simp [Sy.v0])⟩, rfl, h0, fun _ => rfl⟩
  | halt => exact ⟨⟨hs _ (by simp) (by simp), hs _ (by simp) (by simp), hs _ (by simp) (by simp), hs _ (by simp [Sy.v0]) (by simp [Sy.v0]), hs _ (by simp [Sy.v0]) (by simp [Sy.v0])⟩, rfl, h0, fun _ => rfl⟩
theorem cells_each : ∀ (l : List Mm), (∀ m ∈ l, 1 ≤ m.n) → (l.length : Int) ≤ cells l ∧ ∀ m ∈ l, m.n ≤ cells l
  | [], _ => ⟨by simp [cells], fun m hm => by cases hm⟩
  | a :: l, h => by
    obtain ⟨i1, i2⟩ := cells_each l (fun m hm => h m (by simp [hm]))
    have ha := h a (by simp)
    have hc : cells (a :: l) = a.n + cells l := by simp [cells]
    rw [hc]
    refine ⟨by simp only [List.length_cons]; omega, fun m hm => ?_⟩
    rcases List.mem_cons.1 hm with e | hm
    · subst e; omega
    · have := i2 m hm; omega
theorem parse_few {d : List UInt8} {q : Pr} (h : parse d = .ok q) : q.labels.length ≤ d.length := by
  unfold parse at h
  cases hr : run r0 0 (lines d) with
  | error e => rw [hr] at h; cases h
  | ok r =>
    rw [hr] at h
    simp only at h
    have F := (run_few (lines d) r0 r 0 0 (lines_short d.length d (Nat.le_refl _)) (few0 _) hr).cnt
    obtain ⟨l1, l2⟩ := lines_len d.length d (Nat.le_refl _)
    unfold finish at h
    split at h
    · cases h
    · split at h
      · cases h
      · injection h with h
        subst h
        show r.p.labels.length ≤ d.length
        omega
end Pg
theorem wf_ok {q : Pg.Pr} (h : Pg.WF q) (hl : q.labels.length ≤ 1000000) : PrOk q := by
  have hc := Pg.cells_each q.mems (fun m hm => (h.mems m hm).2)
  have hc16 := h.cells.1
  have hs : ∀ k : Int, 0 ≤ k → k ≤ 1000 → I64 k := fun k h h' => by unfold I64; omega
  refine ⟨⟨hs _ (by have := h.w; omega) (by have := h.w; omega), hs _ (by have := h.win; omega) (by have := h.win; omega), hs _ (by have := h.fuel; omega) (by have := h.fuel; omega)⟩, h.r4, fun r hr => hs _ (by have := h.regs r hr; omega) (by have := h.regs r hr; omega), fun m hm => ⟨hs _ (by have := (h.mems m hm).2; omega) (by have := hc.2 m hm; omega), okName_isB (h.mems m hm).1⟩,
    fun l hl => ⟨hs _ (h.labels l hl).2.1 (by have := (h.labels l hl).2.2; have := h.ins1.2; omega), okName_isB (h.labels l hl).1⟩, fun i hi => ?_, ⟨by have := hc.1; omega, hl, by have := h.ins1.2; omega⟩⟩
  obtain ⟨h1, h2⟩ := h.ins i hi
  cases hg : Pg.goes i with
  | false =>
    unfold Pg.named at h1
    rw [hg, if_neg (by simp)] at h1
    obtain ⟨⟨a, b, c, d, e⟩, f, g, _⟩ := Pg.okI_64 h1
    exact ⟨⟨a, b, c, d, e, by rw [f]; exact hs _ (by omega) (by omega)⟩, g⟩
  | true =>
    obtain ⟨hn, l, hl, ht⟩ := h2 hg
    unfold Pg.named at h1
    rw [hg, if_pos rfl] at h1
    obtain ⟨⟨a, b, c, d, e⟩, _⟩ := Pg.okI_64 h1
    refine ⟨⟨a, b, c, d, e, ?_⟩, by rw [hn]; exact fun x hx => by cases hx⟩
    rw [← ht]
    exact hs _ (h.labels l hl).2.1 (by have := (h.labels l hl).2.2; have := h.ins1.2; omega)
theorem parse_okP {d : List UInt8} {q : Pg.Pr} (hd : d.length ≤ 1000000) (h : Pg.parse d = .ok q) : PrOk q := wf_ok (Pg.parse_wf h) (Nat.le_trans (Pg.parse_few h) hd)
namespace Pg
/-- what the landed code prints -/
def sayG (p : Pr) : Option (List Int) := if 32 < p.ins.length then none else sayAll (itemsG p)
def printG (p : Pr) : Option (List Int) := match sayG p with
  | none => none
  | some t => match parse (bytes t) with
    | .ok q => if q = p then some t else none
    | .error _ => none
theorem sayAll_ok : ∀ (l : List Sy.It), (∀ i ∈ l, Sy.Ok i) → sayAll l = some (l.flatMap lineT)
  | [], _ => rfl
  | i :: l, h => by
    rw [sayAll_yes (Sy.print_ok (h i (by simp))), sayAll_ok l (fun j hj => h j (by simp [hj]))]
    simp [lineT]
theorem printG_is (hT : TextOk) (p : Pr) : printG p = print p := by
  by_cases h : WF p
  · have e : sayG p = some (text p) := by
      unfold sayG
      rw [if_neg (by have := h.ins1.2; omega), itemsG_is h, sayAll_ok _ (items_ok h)]
      rfl
    unfold printG print
    rw [e]
    rfl
  · rw [print_not h]
    unfold printG
    cases hs : sayG p with
    | none => rfl
    | some t =>
      simp only
      cases hp : parse (bytes t) with
      | error e => rfl
      | ok q =>
        simp only
        rw [if_neg (fun e => h (by rw [← e]; exact parse_wf hp))]
end Pg
end
end Go.Proofs.YtmghklokbmdenaaDoor
