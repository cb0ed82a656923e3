/- The two tables of the landed syns, as the start of the program lays them: what the memory reads as there. -/
import Derived.Test.YtmghklokbmdenaaDoorMgSn
import Derived.Test.YtmghklokbmdenaaDoorMgMem
import Derived.Lib.LaidTab
import Derived.Lib.ItoaNum
set_option linter.unusedVariables false
set_option linter.unusedSimpArgs false
namespace Go.Proofs.YtmghklokbmdenaaDoor
open Go.RowKit
namespace Sn
def rowF (f : Fm) : List Value := [.string (strOfNums f.word), .string (strOfNums f.rest), .int .i64 f.kind, .int .i64 f.ins, .int .i64 f.op, .bool f.secret]
def formsC : Array Value := (forms.flatMap rowF).toArray
def opsL : List (List Int) := [] :: Sy.ops
def opsC : Array Value := (opsL.map fun s => Value.string (strOfNums s)).toArray
/-- both tables stand in memory, and the library's powers of ten -/
structure Tab (w : World) : Prop where
  f : ∃ t fr, w.heap[0]? = some (.cells formsC t fr)
  o : ∃ t fr, w.heap[2]? = some (.cells opsC t fr)
  p : ∃ t fr, w.heap[5]? = some (.cells (Lib.pow10Tab.map fun z => Value.int .u64 z).toArray t fr)
theorem Tab.below {w w' : World} (h : Tab w) (hb : Below w.heap.size w w') : Tab w' := by
  refine ⟨?_, ?_, ?_⟩
  · obtain ⟨t, fr, e⟩ := h.f
    exact ⟨t, fr, (hb.block 0 (Array.getElem?_eq_some_iff.1 e).1).trans e⟩
  · obtain ⟨t, fr, e⟩ := h.o
    exact ⟨t, fr, (hb.block 2 (Array.getElem?_eq_some_iff.1 e).1).trans e⟩
  · obtain ⟨t, fr, e⟩ := h.p
    exact ⟨t, fr, (hb.block 5 (Array.getElem?_eq_some_iff.1 e).1).trans e⟩
theorem Tab.pow {w : World} (h : Tab w) : Lib.TabIs Tryd.prog w "internal/strconv.uint64pow10" .u64 Lib.pow10Tab := by
  obtain ⟨t, fr, e⟩ := h.p
  have hg : Tryd.prog.globalNamed "internal/strconv.uint64pow10" = some 5 := by kernel_rfl
  simp only [Lib.TabIs, World.var?, hg, Option.bind_some, e]
set_option maxRecDepth 100000 in
theorem forms_size : formsC.size = 120 := by decide +kernel
theorem infoForms : (Tryd.prog.info? 69).map (·.size) = some 120 := by kernel_rfl
theorem infoOps : (Tryd.prog.info? 120).map (·.size) = some 11 := by kernel_rfl
theorem infoForm : (Tryd.prog.info? 68).map (·.size) = some 6 := by kernel_rfl
set_option maxRecDepth 100000 in
/-- the k-th form's cells -/
theorem forms_row {k : Nat} (hk : k < 20) : ∃ f, forms[k]? = some f ∧ formsC.extract (k * 6) (k * 6 + 6) = (rowF f).toArray := by
  rcases (by omega : k = 0 ∨ k = 1 ∨ k = 2 ∨ k = 3 ∨ k = 4 ∨ k = 5 ∨ k = 6 ∨ k = 7 ∨ k = 8 ∨ k = 9 ∨ k = 10 ∨ k = 11 ∨ k = 12 ∨ k = 13 ∨ k = 14 ∨ k = 15 ∨ k = 16 ∨ k = 17 ∨ k = 18 ∨ k = 19) with rfl | rfl | rfl | rfl | rfl | rfl | rfl | rfl | rfl | rfl | rfl | rfl | rfl | rfl | rfl | rfl | rfl | rfl | rfl | rfl
  all_goals exact ⟨_, rfl, by kernel_rfl⟩
theorem ops_row {k : Nat} (hk : k < 11) : ∃ x, opsL[k]? = some x ∧ opsC[k]? = some (.string (strOfNums x)) ∧ (∀ y ∈ x, 0 ≤ y ∧ y < 256) := by
  rcases (by omega : k = 0 ∨ k = 1 ∨ k = 2 ∨ k = 3 ∨ k = 4 ∨ k = 5 ∨ k = 6 ∨ k = 7 ∨ k = 8 ∨ k = 9 ∨ k = 10) with rfl | rfl | rfl | rfl | rfl | rfl | rfl | rfl | rfl | rfl | rfl
  all_goals exact ⟨_, rfl, by kernel_rfl, by decide⟩
set_option maxRecDepth 100000 in
theorem forms_index {k : Nat} (hk : k < 20) : ∃ f, forms[k]? = some f ∧ ∀ w, (Instr.index 69 (.agg formsC) (.int .i64 (k : Int))).run Tryd.prog w = .ok (.agg #[.string (strOfNums f.word), .string (strOfNums f.rest), .int .i64 f.kind, .int .i64 f.ins, .int .i64 f.op, .bool f.secret]) w := by
  rcases (by omega : k = 0 ∨ k = 1 ∨ k = 2 ∨ k = 3 ∨ k = 4 ∨ k = 5 ∨ k = 6 ∨ k = 7 ∨ k = 8 ∨ k = 9 ∨ k = 10 ∨ k = 11 ∨ k = 12 ∨ k = 13 ∨ k = 14 ∨ k = 15 ∨ k = 16 ∨ k = 17 ∨ k = 18 ∨ k = 19) with rfl | rfl | rfl | rfl | rfl | rfl | rfl | rfl | rfl | rfl | rfl | rfl | rfl | rfl | rfl | rfl | rfl | rfl | rfl | rfl
  all_goals exact ⟨_, rfl, fun _ => by kernel_rfl⟩
set_option maxRecDepth 100000 in
theorem ops_index {k : Nat} (hk : k < 11) : ∃ x, opsL[k]? = some x ∧ (∀ w, (Instr.index 120 (.agg opsC) (.int .i64 (k : Int))).run Tryd.prog w = .ok (.string (strOfNums x)) w) ∧ (∀ y ∈ x, 0 ≤ y ∧ y < 256) := by
  rcases (by omega : k = 0 ∨ k = 1 ∨ k = 2 ∨ k = 3 ∨ k = 4 ∨ k = 5 ∨ k = 6 ∨ k = 7 ∨ k = 8 ∨ k = 9 ∨ k = 10) with rfl | rfl | rfl | rfl | rfl | rfl | rfl | rfl | rfl | rfl | rfl
  all_goals exact ⟨_, rfl, fun _ => by kernel_rfl, by decide⟩
theorem form_bytes {f : Fm} (h : f ∈ forms) : (∀ y ∈ f.word, 0 ≤ y ∧ y < 128) ∧ (∀ y ∈ f.rest, 0 ≤ y ∧ y < 128) ∧ f.word.length ≤ 6 ∧ f.rest.length ≤ 11 := by
  simp only [forms, List.mem_cons, List.not_mem_nil, or_false] at h
  rcases h with rfl | rfl | rfl | rfl | rfl | rfl | rfl | rfl | rfl | rfl | rfl | rfl | rfl | rfl | rfl | rfl | rfl | rfl | rfl | rfl
  all_goals decide
end Sn
end Go.Proofs.YtmghklokbmdenaaDoor
