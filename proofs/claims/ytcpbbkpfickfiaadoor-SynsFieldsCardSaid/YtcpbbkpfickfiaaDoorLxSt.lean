/- A sign stored whole into a variable, and loaded whole from one; a result that lives in a variable. -/
import Derived.Test.YtcpbbkpfickfiaaDoorLxTok
import Derived.Laws.ResultCell
import Derived.Laws.CopyOwn
set_option linter.unusedVariables false
set_option linter.unusedSimpArgs false
namespace Go.Proofs.YtcpbbkpfickfiaaDoor
open Go.RowKit
theorem tok_at (w w1 : World) (C : Array Value) (e : TypeId) (hb : Below (w.alloc (.cells C e)).heap.size (w.alloc (.cells C e)) w1) : w1.heap[w.heap.size]? = some (.cells C e (0, 0)) := by
  have h1 : w1.heap[w.heap.size]? = (w.alloc (.cells C e)).heap[w.heap.size]? := hb.block _ (by simp)
  rw [h1, heap_alloc_new]
theorem tok_old (w w1 : World) (o : Obj) (i : Nat) (hb : Below (w.alloc o).heap.size (w.alloc o) w1) (hi : i < w.heap.size) : w1.heap[i]? = w.heap[i]? :=
  (hb.block i (by simp; omega)).trans (heap_alloc_old _ _ hi)
theorem infoT : (Tryd.prog.info? 58).map (·.size) = some 4 := by kernel_rfl
/-- a sign stored into a variable -/
theorem wp_storeT {w : World} {ops : Array Oper} {rest : List Oper} {o : Oper} {a : Act} {Q : Exit → Act → World → Prop} (hgd : o.guard = none) (x y : Operand) (ho : o.op = .store 58 x y)
    (g : Nat) (c0 c1 c2 c3 : Value) (hx : a.eval x = .pointer (some ⟨g, 0, none⟩)) (hy : a.eval y = .agg #[c0, c1, c2, c3]) (t : TypeId) (o0 o1 o2 o3 : Value) (hg : w.heap[g]? = some (.cells #[o0, o1, o2, o3] t (0, 0)))
    (h0 : c0.oneCell' = true) (h1 : c1.oneCell' = true) (h2 : c2.oneCell' = true) (h3 : c3.oneCell' = true)
    (h : wpList Tryd.prog ops Q rest (a.put o.dst undef) (w.setRow g #[c0, c1, c2, c3])) : wpList Tryd.prog ops Q (o :: rest) a w :=
  wpList_store_row hgd _ x y ho g _ hx hy t _ hg infoT rfl (by simp [h0, h1, h2, h3]) h
theorem wp_loadT {w : World} {ops : Array Oper} {rest : List Oper} {o : Oper} {a : Act} {Q : Exit → Act → World → Prop} (hgd : o.guard = none) (x : Operand) (ho : o.op = .load 58 x)
    (g : Nat) (hx : a.eval x = .pointer (some ⟨g, 0, none⟩)) (t : TypeId) (o0 o1 o2 o3 : Value) (fr : Nat × Nat) (hg : w.heap[g]? = some (.cells #[o0, o1, o2, o3] t fr))
    (h : wpList Tryd.prog ops Q rest (a.put o.dst (.agg #[o0, o1, o2, o3])) w) : wpList Tryd.prog ops Q (o :: rest) a w :=
  wpList_load_row hgd _ x ho g hx t _ fr _ hg Tryd.underlying58 rfl infoT h
theorem resT {fn : Func} {p : Tmp} (h : fn.results = #[.cell p 58]) (tmps : Array Value) (w : World) (g : Nat) (t : TypeId) (c0 c1 c2 c3 : Value) (fr : Nat × Nat)
    (hp : tmps.getD p undef = .pointer (some ⟨g, 0, none⟩)) (hg : w.heap[g]? = some (.cells #[c0, c1, c2, c3] t fr)) : (results fn tmps).run Tryd.prog w = .ok (.agg #[c0, c1, c2, c3]) w :=
  results_cell_row h tmps w g t _ fr _ hp hg Tryd.underlying58 rfl infoT
theorem resT2 {fn : Func} {p u : Tmp} (h : fn.results = #[.cell p 58, .tmp u]) (tmps : Array Value) (w : World) (g : Nat) (t : TypeId) (c0 c1 c2 c3 : Value) (fr : Nat × Nat)
    (hp : tmps.getD p undef = .pointer (some ⟨g, 0, none⟩)) (hg : w.heap[g]? = some (.cells #[c0, c1, c2, c3] t fr)) : (results fn tmps).run Tryd.prog w = .ok (.tuple #[.agg #[c0, c1, c2, c3], tmps.getD u undef]) w := by
  rw [results_cell_tmp h, hp]
  simp only [asAddr, Sem.run_pure, Result.andThen_ok]
  rw [run_loadVar_row w g t 58 _ fr _ hg Tryd.underlying58 rfl infoT]
  rfl
theorem step_storeT {w : World} {ops : Array Oper} {o : Oper} {a : Act} {K : Act → World → Prop} {Q : Exit → Act → World → Prop} {E : Prop} (hgd : o.guard = none) (x y : Operand) (ho : o.op = .store 58 x y)
    (g : Nat) (c0 c1 c2 c3 : Value) (hx : a.eval x = .pointer (some ⟨g, 0, none⟩)) (hy : a.eval y = .agg #[c0, c1, c2, c3]) (t : TypeId) (o0 o1 o2 o3 : Value) (hg : w.heap[g]? = some (.cells #[o0, o1, o2, o3] t (0, 0)))
    (h0 : c0.oneCell' = true) (h1 : c1.oneCell' = true) (h2 : c2.oneCell' = true) (h3 : c3.oneCell' = true) (h : K (a.put o.dst undef) (w.setRow g #[c0, c1, c2, c3])) :
    if Region.wanted o (yielded ops a.tmps) = true then Oper.wp Tryd.prog o a w K Q else E := by
  have hw : Region.wanted o (yielded ops a.tmps) = true := by simp [Region.wanted, hgd]
  rw [if_pos hw]
  exact wp_store_row _ x y ho g _ hx hy t _ hg infoT rfl (by simp [h0, h1, h2, h3]) h
end Go.Proofs.YtcpbbkpfickfiaaDoor
