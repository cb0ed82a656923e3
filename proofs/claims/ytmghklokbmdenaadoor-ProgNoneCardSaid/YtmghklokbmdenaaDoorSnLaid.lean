/- What the rows' condition says of the memory at the start: both tables of the landed syns, and the powers of ten, stand there. -/
import Derived.Test.YtmghklokbmdenaaDoorDoor
import Derived.Test.YtmghklokbmdenaaDoorSnTab
import Derived.MakeChecks
set_option linter.unusedVariables false
set_option linter.unusedSimpArgs false
namespace Go.Proofs.YtmghklokbmdenaaDoor
open Go.ChangeShapes Go.WideShapes Go.ChangeAt Go.RowKit
namespace Sn
theorem gF : Tryd.prog.globalNamed "augury/syns.forms" = some 0 := by kernel_rfl
theorem gO : Tryd.prog.globalNamed "augury/syns.ops" = some 2 := by kernel_rfl
theorem gP : Tryd.prog.globalNamed "internal/strconv.uint64pow10" = some 5 := by kernel_rfl
theorem yF : (Tryd.prog.globals[0]?).map (·.type) = some 69 := by kernel_rfl
theorem yO : (Tryd.prog.globals[2]?).map (·.type) = some 120 := by kernel_rfl
theorem yP : (Tryd.prog.globals[5]?).map (·.type) = some 148 := by kernel_rfl
theorem var_heap {P : Program} {w : World} {n : String} {g : Nat} {cs : Array Value} (hg : P.globalNamed n = some g) (h : w.var? P n = some cs) : ∃ t fr, w.heap[g]? = some (.cells cs t fr) := by
  simp only [World.var?, hg, Option.bind_some] at h
  split at h
  · rename_i cs' t fr e
    injection h with h
    subst h
    exact ⟨t, fr, e⟩
  · cases h
/-- cells in rows of m each -/
theorem chunks (m : Nat) : ∀ (rows : List (List Value)) (cs : List Value), cs.length = rows.length * m → (∀ (i : Nat) r, rows[i]? = some r → (cs.drop (i * m)).take m = r) → cs = rows.flatten
  | [], cs, h, _ => by simp at h; simp [h]
  | r :: rows, cs, h, hr => by
    have h0 := hr 0 r rfl
    simp at h0
    have ht := chunks m rows (cs.drop m) (by simp at h ⊢; rw [h, Nat.succ_mul]; omega) (fun i x hx => by
      have := hr (i + 1) x (by simpa using hx)
      rw [List.drop_drop, show m + i * m = (i + 1) * m by rw [Nat.succ_mul]; omega]
      exact this)
    rw [List.flatten_cons, ← ht, ← h0, List.take_append_drop]
section
variable {H : Type} {enc : TypeId × Value → H} {w : World} {base : Nat} {sp : Nat → Bool} {held : Bool}
theorem lit_str {fuel : Nat} {e : TypeId} (he : Tryd.prog.underlying e = some .string) {cs : List Value} {b : List UInt8} {p : List MemPlace} (h : DataW.trod enc Tryd.prog w base sp held fuel e cs = some (.lit (.string b), p)) : cs = [.string ⟨b.toArray⟩] := by
  obtain ⟨s, h1, h2, _⟩ := DataW.trod_string he h
  simp only [Prod.mk.injEq, DataW.lit.injEq, Lit.string.injEq] at h2
  rw [h1, h2.1]
theorem lit_int {fuel : Nat} {e : TypeId} {k : IntKind} (he : Tryd.prog.underlying e = some (.int k)) {cs : List Value} {n : Int} {p : List MemPlace} (h : DataW.trod enc Tryd.prog w base sp held fuel e cs = some (.lit (.int k n), p)) : cs = [.int k n] := by
  obtain ⟨s, h1, h2, _⟩ := DataW.trod_int he h
  simp only [Prod.mk.injEq, DataW.lit.injEq, Lit.int.injEq] at h2
  rw [h1, h2.1.2]
theorem lit_bool {fuel : Nat} {e : TypeId} (he : Tryd.prog.underlying e = some .bool) {cs : List Value} {b : Bool} {p : List MemPlace} (h : DataW.trod enc Tryd.prog w base sp held fuel e cs = some (.lit (.bool b), p)) : cs = [.bool b] := by
  obtain ⟨s, h1, h2⟩ := DataW.trod_bool he h
  simp only [Prod.mk.injEq, DataW.lit.injEq, Lit.bool.injEq] at h2
  rw [h1, h2.1]
end
section
variable {H : Type} {enc : TypeId × Value → H} {w : World} {base : Nat} {sp : Nat → Bool} {held : Bool}
theorem six {cs : List Value} (h : cs.length = 6) : ∃ c0 c1 c2 c3 c4 c5, cs = [c0, c1, c2, c3, c4, c5] := by
  match cs, h with
  | [c0, c1, c2, c3, c4, c5], _ => exact ⟨c0, c1, c2, c3, c4, c5, rfl⟩
set_option maxRecDepth 100000 in
/-- a form's row -/
theorem row_form {fuel : Nat} {cs : List Value} {wd rs : List UInt8} {k i o : Int} {s : Bool} {p : List MemPlace}
    (h : DataW.trod enc Tryd.prog w base sp held fuel 68 cs = some (.agg [.lit (.string wd), .lit (.string rs), .lit (.int .i64 k), .lit (.int .i64 i), .lit (.int .i64 o), .lit (.bool s)], p)) :
    cs = [.string ⟨wd.toArray⟩, .string ⟨rs.toArray⟩, .int .i64 k, .int .i64 i, .int .i64 o, .bool s] := by
  obtain ⟨xs, n, _, hx, hl, hlen, hf⟩ := DataW.trod_struct Tryd.underlying68 h
  have hS6 : Tryd.prog.cellsOf 68 = 6 := by kernel_rfl
  have hl6 : cs.length = 6 := hl.trans hS6
  simp only [Prod.mk.injEq, DataW.agg.injEq] at hx
  match xs, hlen, hx with
  | [x0, x1, x2, x3, x4, x5], _, hx =>
    simp only [List.map_cons, List.map_nil, List.cons.injEq, and_true] at hx
    obtain ⟨⟨e0, e1, e2, e3, e4, e5⟩, _⟩ := hx
    obtain ⟨c0, c1, c2, c3, c4, c5, rfl⟩ := six hl6
    · have f0 := hf 0 _ rfl; have f1 := hf 1 _ rfl; have f2 := hf 2 _ rfl; have f3 := hf 3 _ rfl; have f4 := hf 4 _ rfl; have f5 := hf 5 _ rfl
      obtain ⟨x0a, x0b⟩ := x0; obtain ⟨x1a, x1b⟩ := x1; obtain ⟨x2a, x2b⟩ := x2; obtain ⟨x3a, x3b⟩ := x3; obtain ⟨x4a, x4b⟩ := x4; obtain ⟨x5a, x5b⟩ := x5
      simp only at e0 e1 e2 e3 e4 e5
      subst e0 e1 e2 e3 e4 e5
      have g0 := lit_str Tryd.underlying9 f0
      have g1 := lit_str Tryd.underlying9 f1
      have g2 := lit_int Tryd.underlying3 f2
      have g3 := lit_int Tryd.underlying3 f3
      have g4 := lit_int Tryd.underlying3 f4
      have g5 := lit_bool Tryd.underlying4 f5
      have hS : Tryd.prog.cellsOf 9 = 1 := by kernel_rfl
      have hI : Tryd.prog.cellsOf 3 = 1 := by kernel_rfl
      have hB : Tryd.prog.cellsOf 4 = 1 := by kernel_rfl
      simp [hS, hI, hB] at g0 g1 g2 g3 g4 g5
      subst g0 g1 g2 g3 g4 g5
      rfl
set_option maxRecDepth 100000 in
/-- a row of arrays of one type -/
theorem arr_cells {fuel : Nat} {t e : TypeId} {n m : Nat} {cs : List Value} {ds : List (DataW H)} {rows : List (List Value)} {p : List MemPlace} (ht : Tryd.prog.underlying t = some (.array n e)) (he : Tryd.prog.cellsOf e = m) (hn : Tryd.prog.cellsOf t = n * m) (hr : rows.length = n)
    (hrow : ∀ (i : Nat) d, ds[i]? = some d → ∃ r, rows[i]? = some r ∧ ∀ f c q, DataW.trod enc Tryd.prog w base sp held f e c = some (d, q) → c = r)
    (h : DataW.trod enc Tryd.prog w base sp held fuel t cs = some (.agg ds, p)) : cs = rows.flatten := by
  obtain ⟨xs, f, _, hx, hl, hlen, hel⟩ := DataW.trod_array ht h
  simp only [Prod.mk.injEq, DataW.agg.injEq] at hx
  refine chunks m rows cs (by rw [hl, hn, hr]) (fun i r hi => ?_)
  have hin : i < n := by rw [← hr]; exact (List.getElem?_eq_some_iff.1 hi).1
  have h1 := hel i hin
  rw [he] at h1
  obtain ⟨x, hxi⟩ : ∃ x, xs[i]? = some x := ⟨xs[i]'(by omega), by simp [show i < xs.length by omega]⟩
  rw [hxi] at h1
  obtain ⟨d, q⟩ := x
  have hd : ds[i]? = some d := by rw [hx.1, List.getElem?_map, hxi]; rfl
  obtain ⟨r', hr', hc⟩ := hrow i d hd
  rw [hi] at hr'
  injection hr' with hr'
  rw [hr']
  exact hc _ _ _ h1
end
theorem formsL_len : Sn.forms.length = 20 := rfl
set_option maxRecDepth 100000 in
set_option maxHeartbeats 2000000 in
theorem tab_of {W : World} (h : laidMetH Tryd.prog Rows.progFormsRow.laid W) : Tab W := by
  have h : laidMet Tryd.prog Rows.progFormsRow.laid W := by
    rw [MakeChecks.laidMetH_plain _ _ _ (by kernel_rfl)] at h
    exact h
  obtain ⟨ps, hv, _, _⟩ := h
  obtain ⟨_, _, _, _, _, _, _, _, _, _, hv, _⟩ := hv
  obtain ⟨_, _, _, _, _, _, _, _, _, _, hv, _⟩ := hv
  obtain ⟨g2, t2, c2, f2, p2, q2, n2, y2, v2, d2, hv, _⟩ := hv
  obtain ⟨_, _, _, _, _, _, _, _, _, _, hv, _⟩ := hv
  obtain ⟨_, _, _, _, _, _, _, _, _, _, hv, _⟩ := hv
  obtain ⟨g5, t5, c5, f5, p5, q5, n5, y5, v5, d5, hv, _⟩ := hv
  obtain ⟨g6, t6, c6, f6, p6, q6, n6, y6, v6, d6, hv, _⟩ := hv
  obtain rfl := Option.some.inj (gP.symm.trans n2)
  obtain rfl := Option.some.inj (yP.symm.trans y2)
  obtain rfl := Option.some.inj (gF.symm.trans n5)
  obtain rfl := Option.some.inj (yF.symm.trans y5)
  obtain rfl := Option.some.inj (gO.symm.trans n6)
  obtain rfl := Option.some.inj (yO.symm.trans y6)
  unfold Rows.laid_augury_syns_forms at d5
  unfold Rows.laid_augury_syns_ops at d6
  have e5 : c5.toList = (forms.map rowF).flatten := arr_cells (n := 20) (m := 6) Tryd.underlying69 (by kernel_rfl) (by kernel_rfl) rfl (fun i d hd => by
    have hi : i < 20 := (List.getElem?_eq_some_iff.1 hd).1
    rcases (by omega : i = 0 ∨ i = 1 ∨ i = 2 ∨ i = 3 ∨ i = 4 ∨ i = 5 ∨ i = 6 ∨ i = 7 ∨ i = 8 ∨ i = 9 ∨ i = 10 ∨ i = 11 ∨ i = 12 ∨ i = 13 ∨ i = 14 ∨ i = 15 ∨ i = 16 ∨ i = 17 ∨ i = 18 ∨ i = 19) with rfl | rfl | rfl | rfl | rfl | rfl | rfl | rfl | rfl | rfl | rfl | rfl | rfl | rfl | rfl | rfl | rfl | rfl | rfl | rfl
    all_goals (injection hd with hd; subst hd; exact ⟨_, rfl, fun f c q h => row_form h⟩)) d5
  have e6 : c6.toList = (opsL.map fun s => [Value.string (strOfNums s)]).flatten := arr_cells (n := 11) (m := 1) Tryd.underlying120 (by kernel_rfl) (by kernel_rfl) rfl (fun i d hd => by
    have hi : i < 11 := (List.getElem?_eq_some_iff.1 hd).1
    rcases (by omega : i = 0 ∨ i = 1 ∨ i = 2 ∨ i = 3 ∨ i = 4 ∨ i = 5 ∨ i = 6 ∨ i = 7 ∨ i = 8 ∨ i = 9 ∨ i = 10) with rfl | rfl | rfl | rfl | rfl | rfl | rfl | rfl | rfl | rfl | rfl
    all_goals (injection hd with hd; subst hd; exact ⟨_, rfl, fun f c q h => lit_str Tryd.underlying9 h⟩)) d6
  have e2 : c2.toList = Lib.pow10Tab.map fun z => Value.int .u64 z := Lib.cells_of_tab (k := .u64) (zs := Lib.pow10Tab) Tryd.underlying148 Tryd.underlying131 (by kernel_rfl) (by kernel_rfl) d2
  have a5 : c5 = formsC := by
    apply Array.ext'
    rw [e5]
    simp [formsC, List.flatMap_def]
  have a6 : c6 = opsC := by
    apply Array.ext'
    rw [e6]
    rfl
  have a2 : c2 = (Lib.pow10Tab.map fun z => Value.int .u64 z).toArray := by
    apply Array.ext'
    rw [e2]
  obtain ⟨t5', r5, h5⟩ := var_heap gF v5
  obtain ⟨t6', r6, h6⟩ := var_heap gO v6
  obtain ⟨t2', r2, h2⟩ := var_heap gP v2
  exact ⟨⟨t5', r5, by rw [h5, a5]⟩, ⟨t6', r6, by rw [h6, a6]⟩, ⟨t2', r2, by rw [h2, a2]⟩⟩
end Sn
end Go.Proofs.YtmghklokbmdenaaDoor
