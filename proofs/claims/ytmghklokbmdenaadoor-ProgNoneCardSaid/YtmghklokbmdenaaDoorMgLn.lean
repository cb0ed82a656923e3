/- Merged: LxSt, LxLnG, LxTR, SyNext, SyMeth, SyMeth2, SyVal, SyAddr, LxRLine, LxSmall, LxHead. -/
import Derived.Test.YtmghklokbmdenaaDoorMgLx
import Derived.Laws.ResultCell
import Derived.Laws.CopyOwn
import Derived.Test.YtmghklokbmdenaaDoorMgMem
import Derived.Test.YtmghklokbmdenaaDoorSyRef1
import Derived.Deep.RegionHeld3
import Derived.Test.YtmghklokbmdenaaDoorMgSy
set_option linter.unusedVariables false
set_option linter.unusedSimpArgs false
namespace Go.Proofs.YtmghklokbmdenaaDoor
section
open Go.RowKit
theorem tok_at (w w1 : World) (C : Array Value) (e : TypeId) (hb : Below (w.alloc (.cells C e)).heap.size (w.alloc (.cells C e)) w1) : w1.heap[w.heap.size]? = some (.cells C e (0, 0)) := by
  have h1 : w1.heap[w.heap.size]? = (w.alloc (.cells C e)).heap[w.heap.size]? := hb.block _ (by simp)
  rw [h1, heap_alloc_new]
theorem tok_old (w w1 : World) (o : Obj) (i : Nat) (hb : Below (w.alloc o).heap.size (w.alloc o) w1) (hi : i < w.heap.size) : w1.heap[i]? = w.heap[i]? :=
  (hb.block i (by simp; omega)).trans (heap_alloc_old _ _ hi)
theorem infoT : (Tryd.prog.info? 73).map (·.size) = some 4 := by kernel_rfl
/-- a sign stored into a variable -/
theorem wp_storeT {w : World} {ops : Array Oper} {rest : List Oper} {o : Oper} {a : Act} {Q : Exit → Act → World → Prop} (hgd : o.guard = none) (x y : Operand) (ho : o.op = .store 73 x y)
    (g : Nat) (c0 c1 c2 c3 : Value) (hx : a.eval x = .pointer (some ⟨g, 0, none⟩)) (hy : a.eval y = .agg #[c0, c1, c2, c3]) (t : TypeId) (o0 o1 o2 o3 : Value) (hg : w.heap[g]? = some (.cells #[o0, o1, o2, o3] t (0, 0)))
    (h0 : c0.oneCell' = true) (h1 : c1.oneCell' = true) (h2 : c2.oneCell' = true) (h3 : c3.oneCell' = true)
    (h : wpList Tryd.prog ops Q rest (a.put o.dst undef) (w.setRow g #[c0, c1, c2, c3])) : wpList Tryd.prog ops Q (o :: rest) a w :=
  wpList_store_row hgd _ x y ho g _ hx hy t _ hg infoT rfl (by simp [h0, h1, h2, h3]) h
theorem wp_loadT {w : World} {ops : Array Oper} {rest : List Oper} {o : Oper} {a : Act} {Q : Exit → Act → World → Prop} (hgd : o.guard = none) (x : Operand) (ho : o.op = .load 73 x)
    (g : Nat) (hx : a.eval x = .pointer (some ⟨g, 0, none⟩)) (t : TypeId) (o0 o1 o2 o3 : Value) (fr : Nat × Nat) (hg : w.heap[g]? = some (.cells #[o0, o1, o2, o3] t fr))
    (h : wpList Tryd.prog ops Q rest (a.put o.dst (.agg #[o0, o1, o2, o3])) w) : wpList Tryd.prog ops Q (o :: rest) a w :=
  wpList_load_row hgd _ x ho g hx t _ fr _ hg Tryd.underlying73 rfl infoT h
theorem resT {fn : Func} {p : Tmp} (h : fn.results = #[.cell p 73]) (tmps : Array Value) (w : World) (g : Nat) (t : TypeId) (c0 c1 c2 c3 : Value) (fr : Nat × Nat)
    (hp : tmps.getD p undef = .pointer (some ⟨g, 0, none⟩)) (hg : w.heap[g]? = some (.cells #[c0, c1, c2, c3] t fr)) : (results fn tmps).run Tryd.prog w = .ok (.agg #[c0, c1, c2, c3]) w :=
  results_cell_row h tmps w g t _ fr _ hp hg Tryd.underlying73 rfl infoT
theorem resT2 {fn : Func} {p u : Tmp} (h : fn.results = #[.cell p 73, .tmp u]) (tmps : Array Value) (w : World) (g : Nat) (t : TypeId) (c0 c1 c2 c3 : Value) (fr : Nat × Nat)
    (hp : tmps.getD p undef = .pointer (some ⟨g, 0, none⟩)) (hg : w.heap[g]? = some (.cells #[c0, c1, c2, c3] t fr)) : (results fn tmps).run Tryd.prog w = .ok (.tuple #[.agg #[c0, c1, c2, c3], tmps.getD u undef]) w := by
  rw [results_cell_tmp h, hp]
  simp only [asAddr, Sem.run_pure, Result.andThen_ok]
  rw [run_loadVar_row w g t 73 _ fr _ hg Tryd.underlying73 rfl infoT]
  rfl
theorem step_storeT {w : World} {ops : Array Oper} {o : Oper} {a : Act} {K : Act → World → Prop} {Q : Exit → Act → World → Prop} {E : Prop} (hgd : o.guard = none) (x y : Operand) (ho : o.op = .store 73 x y)
    (g : Nat) (c0 c1 c2 c3 : Value) (hx : a.eval x = .pointer (some ⟨g, 0, none⟩)) (hy : a.eval y = .agg #[c0, c1, c2, c3]) (t : TypeId) (o0 o1 o2 o3 : Value) (hg : w.heap[g]? = some (.cells #[o0, o1, o2, o3] t (0, 0)))
    (h0 : c0.oneCell' = true) (h1 : c1.oneCell' = true) (h2 : c2.oneCell' = true) (h3 : c3.oneCell' = true) (h : K (a.put o.dst undef) (w.setRow g #[c0, c1, c2, c3])) :
    if Region.wanted o (yielded ops a.tmps) = true then Oper.wp Tryd.prog o a w K Q else E := by
  have hw : Region.wanted o (yielded ops a.tmps) = true := by simp [Region.wanted, hgd]
  rw [if_pos hw]
  exact wp_store_row _ x y ho g _ hx hy t _ hg infoT rfl (by simp [h0, h1, h2, h3]) h
end
end Go.Proofs.YtmghklokbmdenaaDoor
namespace Go.Proofs.YtmghklokbmdenaaDoor
section
open Go.RowKit
namespace Lx
def glue : List Tk → Except Nat (List Tk) → Except Nat (List Tk)
  | ts, .ok l => .ok (ts ++ l)
  | _, .error e => .error e
theorem glue_nil (R : Except Nat (List Tk)) : glue [] R = R := by cases R <;> rfl
theorem glue_cons (ts : List Tk) (t : Tk) (R : Except Nat (List Tk)) : glue ts (cons t R) = glue (ts ++ [t]) R := by cases R <;> simp [glue, cons]
/-- what comes behind a sign of that kind -/
def nx (k : Int) (a : Nat) (r : List Int) : Except Nat (List Tk) := if k = 2 ∧ stops r = false then .error a else lxA a r
theorem nx_stop {k : Int} {a : Nat} {r : List Int} (h : stops r = true) : nx k a r = lxA a r := by
  unfold nx
  rw [if_neg (by simp [h])]
theorem nx_other {k : Int} {a : Nat} {r : List Int} (h : k ≠ 2) : nx k a r = lxA a r := by
  unfold nx
  rw [if_neg (by simp [h])]
theorem nx_cut {a : Nat} {r : List Int} (h : stops r = false) : nx 2 a r = .error a := by
  unfold nx
  rw [if_pos ⟨rfl, h⟩]
end Lx
/-- what a call that reads a line answers -/
def LineR (R : Except Nat (List Lx.Tk)) (w : World) (e : Ending) (w' : World) : Prop := match R with
  | .ok ts => ∃ v, e = .returned (.tuple #[v, .int .i64 0, .bool true]) ∧ w'.ownsRow w.heap.size 73 4 v ts.length (flat ts) ∧ Below w.heap.size w w'
  | .error a => e = .returned (.tuple #[.slice none 0 0, .int .i64 (a : Int), .bool false]) ∧ Below w.heap.size w w'
theorem own_keepb {w w' : World} {B n m : Nat} {e : TypeId} {v : Value} {xs : List Value} (h : w.ownsRow B e m v n xs) (hk : ∀ k, B ≤ k → w'.heap[k]? = w.heap[k]?) : w'.ownsRow B e m v n xs := by
  refine ⟨h.1, ?_⟩
  rcases h.2 with h2 | ⟨g, cap, cur, hv, hg, hh, r⟩
  · exact .inl h2
  · exact .inr ⟨g, cap, cur, hv, hg, (hk g hg).trans hh, r⟩
theorem own_belowT {w w' : World} {B n m : Nat} {e : TypeId} {v : Value} {xs : List Value} (h : w.ownsRow B e m v n xs) (hb : Below w.heap.size w w') : w'.ownsRow B e m v n xs := by
  refine ⟨h.1, ?_⟩
  rcases h.2 with h2 | ⟨g, cap, cur, hv, hg, hh, r⟩
  · exact .inl h2
  · have hlt : g < w.heap.size := (Array.getElem?_eq_some_iff.1 hh).1
    exact .inr ⟨g, cap, cur, hv, hg, (hb.block g hlt).trans hh, r⟩
theorem own_lower {w : World} {B B' n m : Nat} {e : TypeId} {v : Value} {xs : List Value} (h : w.ownsRow B e m v n xs) (hB : B' ≤ B) : w.ownsRow B' e m v n xs := by
  refine ⟨h.1, ?_⟩
  rcases h.2 with h2 | ⟨g, cap, cur, hv, hg, r⟩
  · exact .inl h2
  · exact .inr ⟨g, cap, cur, hv, by omega, r⟩
theorem infoTk : (Tryd.prog.info? 73).map (fun i => (i.zero, i.size, i.bytes)) = some (some (.agg #[.int .i64 0, .string ⟨#[]⟩, .int .i64 0, .int .i64 0]), 4, 40) := by kernel_rfl
theorem wrap_nn (a b : Nat) (ha : a ≤ 1000000) (hb : b ≤ 1000000) : Value.int .i64 (IntKind.i64.wrap ((a : Int) + (b : Int))) = .int .i64 ((a + b : Nat) : Int) := by
  have : IntKind.i64.wrap ((a : Int) + (b : Int)) = ((a + b : Nat) : Int) := by rw [IntKind.wrap_i64]; omega
  rw [this]
end
end Go.Proofs.YtmghklokbmdenaaDoor
namespace Go.Proofs.YtmghklokbmdenaaDoor
section
open Go.RowKit
/-- block g reads as those signs -/
def TR (w : World) (g : Nat) (ts : List Lx.Tk) : Prop := ∀ j t, ts[j]? = some t → g < w.heap.size ∧ w.cell? ⟨g, j * 4, none⟩ = some (.int .i64 t.kind) ∧ w.cell? ⟨g, j * 4 + 1, none⟩ = some (.string (strOfNums t.text)) ∧
  w.cell? ⟨g, j * 4 + 2, none⟩ = some (.int .i64 t.n) ∧ w.cell? ⟨g, j * 4 + 3, none⟩ = some (.int .i64 (t.at_ : Int))
theorem TR.below {w w' : World} {g : Nat} {ts : List Lx.Tk} (h : TR w g ts) (hb : Below w.heap.size w w') : TR w' g ts := fun j t ht => by
  obtain ⟨h0, h1, h2, h3, h4⟩ := h j t ht
  exact ⟨Nat.lt_of_lt_of_le h0 hb.size, (hb.cell h0).trans h1, (hb.cell h0).trans h2, (hb.cell h0).trans h3, (hb.cell h0).trans h4⟩
theorem own_TR {w : World} {B n : Nat} {v : Value} {ts : List Lx.Tk} (h : w.ownsRow B 73 4 v n (flat ts)) : ∃ g A cap, v = .slice A ts.length cap ∧ (0 < ts.length → A = some ⟨g, 0, none⟩) ∧ ts.length ≤ cap ∧ TR w g ts := by
  have hl : n = ts.length := by
    have := h.1
    rw [flat_len] at this
    omega
  subst hl
  have h' := h
  rcases h.2 with ⟨rfl, hn⟩ | ⟨g, cap, cur, rfl, hb, hg, hnc, hm, hs, ht⟩
  · have h0 : ts = [] := List.eq_nil_of_length_eq_zero hn
    subst h0
    exact ⟨0, none, 0, rfl, fun h => by simp at h, by simp, fun j t ht => by simp at ht⟩
  · have hlt := (Array.getElem?_eq_some_iff.1 hg).1
    refine ⟨g, _, cap, rfl, fun _ => rfl, hnc, fun j t htj => ⟨hlt, ?_⟩⟩
    have hj : j < ts.length := (List.getElem?_eq_some_iff.1 htj).1
    have hc : ∀ k, k < 4 → w.cell? ⟨g, j * 4 + k, none⟩ = (tokC t)[k]? := fun k hk => by
      rw [h'.cellAt (j * 4 + k) (by omega), flat_at ts j t k htj hk]
    exact ⟨hc 0 (by omega), hc 1 (by omega), hc 2 (by omega), hc 3 (by omega)⟩
/-- a line is read -/
theorem LineR.okT {ts : List Lx.Tk} {w w' : World} {e : Ending} (h : LineR (.ok ts) w e w') : ∃ g A cap, e = .returned (.tuple #[.slice A ts.length cap, .int .i64 0, .bool true]) ∧ (0 < ts.length → A = some ⟨g, 0, none⟩) ∧ ts.length ≤ cap ∧ TR w' g ts ∧ Below w.heap.size w w' := by
  obtain ⟨v, rfl, hown, hb⟩ := h
  obtain ⟨g, A, cap, rfl, h1, h2, h3⟩ := own_TR hown
  exact ⟨g, A, cap, rfl, h1, h2, h3, hb⟩
theorem LineR.errT {a : Nat} {w w' : World} {e : Ending} (h : LineR (.error a) w e w') : e = .returned (.tuple #[.slice none 0 0, .int .i64 (a : Int), .bool false]) ∧ Below w.heap.size w w' := h
end
end Go.Proofs.YtmghklokbmdenaaDoor
namespace Go.Proofs.YtmghklokbmdenaaDoor
section
open Go.RowKit
/-- all blocks but g are as they were -/
structure Fg (g : Nat) (w w' : World) : Prop where
  os : w'.os = w.os
  tape : w'.tape = w.tape
  output : w'.output = w.output
  size : w.heap.size ≤ w'.heap.size
  block : ∀ k, k < w.heap.size → k ≠ g → w'.heap[k]? = w.heap[k]?
theorem Fg.refl (g : Nat) (w : World) : Fg g w w := ⟨rfl, rfl, rfl, Nat.le_refl _, fun _ _ _ => rfl⟩
theorem Fg.of_below {g : Nat} {w w' : World} (h : Below w.heap.size w w') : Fg g w w' := ⟨h.os, h.tape, h.output, h.size, fun k hk _ => h.block k hk⟩
theorem Fg.trans {g : Nat} {a b c : World} (h : Fg g a b) (k : Fg g b c) : Fg g a c :=
  ⟨k.os.trans h.os, k.tape.trans h.tape, k.output.trans h.output, Nat.le_trans h.size k.size, fun i hi hn => (k.block i (Nat.lt_of_lt_of_le hi h.size) hn).trans (h.block i hi hn)⟩
theorem Fg.up {g : Nat} {a b c : World} (h : Fg g a b) (k : Below b.heap.size b c) : Fg g a c := h.trans (Fg.of_below k)
theorem Fg.drew {g : Nat} {a b : World} (h : Fg g a b) : Fg g a b.drew := ⟨h.os, h.tape, h.output, h.size, h.block⟩
theorem Fg.setRow {g : Nat} {a b : World} (h : Fg g a b) (k : Nat) (hk : k = g ∨ a.heap.size ≤ k) (cs : Array Value) : Fg g a (b.setRow k cs) :=
  ⟨h.os, h.tape, h.output, by simpa using h.size, fun i hi hn => (setRow_other _ _ _ _ (by rcases hk with rfl | hk <;> omega)).trans (h.block i hi hn)⟩
theorem Fg.setRow' {g : Nat} {a b : World} (h : Fg g a b) (cs : Array Value) : Fg g a (b.setRow g cs) := h.setRow g (.inl rfl) cs
abbrev TV (t : Lx.Tk) : Value := .agg #[.int .i64 t.kind, .string (strOfNums t.text), .int .i64 t.n, .int .i64 (t.at_ : Int)]
theorem TR.fg {w w' : World} {g gT : Nat} {ts : List Lx.Tk} (h : TR w gT ts) (hf : Fg g w w') (hne : g ≠ gT) : TR w' gT ts := fun j t ht => by
  obtain ⟨h0, h1, h2, h3, h4⟩ := h j t ht
  have hb := hf.block gT h0 (Ne.symm hne)
  have hc : ∀ k, w'.cell? ⟨gT, k, none⟩ = w.cell? ⟨gT, k, none⟩ := fun k => World.cell?_of_block hb
  exact ⟨Nat.lt_of_lt_of_le h0 hf.size, (hc _).trans h1, (hc _).trans h2, (hc _).trans h3, (hc _).trans h4⟩
end
end Go.Proofs.YtmghklokbmdenaaDoor
namespace Go.Proofs.YtmghklokbmdenaaDoor
section
open Go.RowKit
end
end Go.Proofs.YtmghklokbmdenaaDoor
namespace Go.Proofs.YtmghklokbmdenaaDoor
section
open Go.RowKit
end
end Go.Proofs.YtmghklokbmdenaaDoor
namespace Go.Proofs.YtmghklokbmdenaaDoor
section
open Go.RowKit
theorem infoV : (Tryd.prog.info? 40).map (·.size) = some 2 := by kernel_rfl
/-- a Val stored into a variable -/
theorem wp_storeV {w : World} {ops : Array Oper} {rest : List Oper} {o : Oper} {a : Act} {Q : Exit → Act → World → Prop} (hgd : o.guard = none) (x y : Operand) (ho : o.op = .store 40 x y)
    (g : Nat) (c0 c1 : Value) (hx : a.eval x = .pointer (some ⟨g, 0, none⟩)) (hy : a.eval y = .agg #[c0, c1]) (t : TypeId) (o0 o1 : Value) (hg : w.heap[g]? = some (.cells #[o0, o1] t (0, 0)))
    (h0 : c0.oneCell' = true) (h1 : c1.oneCell' = true)
    (h : wpList Tryd.prog ops Q rest (a.put o.dst undef) (w.setRow g #[c0, c1])) : wpList Tryd.prog ops Q (o :: rest) a w :=
  wpList_store_row hgd _ x y ho g _ hx hy t _ hg infoV rfl (by simp [h0, h1]) h
theorem resV {fn : Func} {p : Tmp} (h : fn.results = #[.cell p 40]) (tmps : Array Value) (w : World) (g : Nat) (t : TypeId) (c0 c1 : Value) (fr : Nat × Nat)
    (hp : tmps.getD p undef = .pointer (some ⟨g, 0, none⟩)) (hg : w.heap[g]? = some (.cells #[c0, c1] t fr)) : (results fn tmps).run Tryd.prog w = .ok (.agg #[c0, c1]) w :=
  results_cell_row h tmps w g t _ fr _ hp hg Tryd.underlying40 rfl infoV
abbrev VV (v : Sy.Vl) : Value := .agg #[.bool v.reg, .int .i64 v.n]
end
end Go.Proofs.YtmghklokbmdenaaDoor
namespace Go.Proofs.YtmghklokbmdenaaDoor
section
open Go.RowKit
/-- all blocks but g and i are as they were -/
structure Fg2 (g i : Nat) (w w' : World) : Prop where
  os : w'.os = w.os
  tape : w'.tape = w.tape
  output : w'.output = w.output
  size : w.heap.size ≤ w'.heap.size
  block : ∀ k, k < w.heap.size → k ≠ g → k ≠ i → w'.heap[k]? = w.heap[k]?
theorem Fg2.refl (g i : Nat) (w : World) : Fg2 g i w w := ⟨rfl, rfl, rfl, Nat.le_refl _, fun _ _ _ _ => rfl⟩
theorem Fg2.of {g i : Nat} {w w' : World} (h : Fg g w w') : Fg2 g i w w' := ⟨h.os, h.tape, h.output, h.size, fun k h1 h2 _ => h.block k h1 h2⟩
theorem Fg2.trans {g i : Nat} {a b c : World} (h : Fg2 g i a b) (k : Fg2 g i b c) : Fg2 g i a c :=
  ⟨k.os.trans h.os, k.tape.trans h.tape, k.output.trans h.output, Nat.le_trans h.size k.size, fun x hx h1 h2 => (k.block x (Nat.lt_of_lt_of_le hx h.size) h1 h2).trans (h.block x hx h1 h2)⟩
theorem Fg2.set {g i : Nat} {a b : World} (h : Fg2 g i a b) (cs : Array Value) : Fg2 g i a (b.setRow i cs) :=
  ⟨h.os, h.tape, h.output, by simpa using h.size, fun k hk h1 h2 => (setRow_other _ _ _ _ h2).trans (h.block k hk h1 h2)⟩
theorem run_storeV_at (w : World) (g j : Nat) (t : TypeId) (cs : Array Value) (c0 c1 : Value) (hg : w.heap[g]? = some (.cells cs t (0, 0))) (hj : j + 2 ≤ cs.size) (h0 : c0.oneCell' = true) (h1 : c1.oneCell' = true) :
    (storeVar 40 ⟨g, j, none⟩ (.agg #[c0, c1])).run Tryd.prog w = .ok () (w.setRow g (cs.toList.take j ++ [c0, c1] ++ cs.toList.drop (j + 2)).toArray) := by
  have h := run_storeCells_at (P := Tryd.prog) g j t [c0, c1] 0 cs w hg (by simpa using hj) (by simp [h0, h1])
  simp only [Nat.add_zero, List.length_cons, List.length_nil, Nat.zero_add, Nat.reduceAdd] at h
  have hi := infoV
  cases hq : Tryd.prog.info? 40 with
  | none => simp [hq] at hi
  | some i =>
    have hs : i.size = 2 := by simpa [hq] using hi
    simp [storeVar, sizeOf, typeInfo, hq, Value.cells, hs, h]
/-- a Val stored into fields of a block that is known -/
theorem wp_storeVat {w : World} {ops : Array Oper} {rest : List Oper} {o : Oper} {a : Act} {Q : Exit → Act → World → Prop} (hgd : o.guard = none) (x y : Operand) (ho : o.op = .store 40 x y)
    (g j : Nat) (c0 c1 : Value) (hx : a.eval x = .pointer (some ⟨g, j, none⟩)) (hy : a.eval y = .agg #[c0, c1]) (cs : Array Value) (t : TypeId) (hg : w.heap[g]? = some (.cells cs t (0, 0))) (hj : j + 2 ≤ cs.size)
    (h0 : c0.oneCell' = true) (h1 : c1.oneCell' = true) (ds : Array Value) (hd : (cs.toList.take j ++ [c0, c1] ++ cs.toList.drop (j + 2)).toArray = ds)
    (h : wpList Tryd.prog ops Q rest (a.put o.dst undef) (w.setRow g ds)) : wpList Tryd.prog ops Q (o :: rest) a w := by
  refine wpList_plain hgd fun K hK => ?_
  unfold Oper.wp execOp
  simp only [ho, hx, hy, Instr.storeAt, Instr.sureAddr, Sem.run_bind, Sem.run_pure, Result.andThen_ok, run_storeV_at w g j t cs c0 c1 hg hj h0 h1, hd]
  exact hK _ _ h
/-- an instruction's cells -/
abbrev InsC (kd op d : Int) (a b : Sy.Vl) (nm : ByteArray) (tg : Int) : Array Value := #[.int .i64 kd, .int .i64 op, .int .i64 d, .bool a.reg, .int .i64 a.n, .bool b.reg, .int .i64 b.n, .string nm, .int .i64 tg]
end
end Go.Proofs.YtmghklokbmdenaaDoor
namespace Go.Proofs.YtmghklokbmdenaaDoor
section
open Go.RowKit
theorem encode_ascii (n : Int) (h : 0 ≤ n ∧ n < 128) : Utf8.encode n = ⟨#[UInt8.ofNat n.toNat]⟩ := by
  obtain ⟨k, rfl⟩ : ∃ k : Nat, n = k := ⟨n.toNat, by omega⟩
  have hv : Utf8.valid (k : Int) = true := by unfold Utf8.valid; simp; omega
  unfold Utf8.encode
  simp only [hv, if_true]
  rw [if_pos (by simp; omega)]
theorem runesBytes_ascii (zs : List Int) (hz : ∀ x ∈ zs, 0 ≤ x ∧ x < 128) : runesBytes zs = strOfNums zs := by
  have key : ∀ (zs : List Int), (∀ x ∈ zs, 0 ≤ x ∧ x < 128) → ∀ s : ByteArray, (zs.foldl (fun r n => r ++ Utf8.encode n) s).data.toList = s.data.toList ++ zs.map (fun n => UInt8.ofNat n.toNat) := by
    intro zs
    induction zs with
    | nil => intro _ s; simp
    | cons x zs ih =>
      intro h s
      rw [List.foldl_cons, ih (fun y hy => h y (by simp [hy])), encode_ascii x (h x (by simp)), ByteArray.data_append, Array.toList_append]
      simp
  apply ByteArray.ext
  apply Array.toList_inj.1
  unfold runesBytes
  rw [key zs hz, strOfNums_data]
  rfl
/-- part of a row of runes that is read -/
theorem Rd.part {w : World} {B : Nat} {ad : Addr} {r u q : List Int} (h : Rd w B (some ad) (r.map (Value.int .i32))) (i : Nat) (hq : r.drop i = u ++ q) : Rd w B (some (ad.add i)) (u.map (Value.int .i32)) := by
  intro hl
  rw [List.length_map] at hl
  have hlen := congrArg List.length hq
  rw [List.length_drop, List.length_append] at hlen
  obtain ⟨ad', e, hb, hc⟩ := h (by simp; omega)
  cases e
  refine ⟨_, rfl, by rw [adr_block]; exact hb, fun j v hv => ?_⟩
  rw [adr_add]
  apply hc
  have hj : j < u.length := by have := (List.getElem?_eq_some_iff.1 hv).1; simpa using this
  have h1 : r[i + j]? = u[j]? := by rw [← List.getElem?_drop, hq, List.getElem?_append_left hj]
  rw [List.getElem?_map, h1, ← List.getElem?_map]
  exact hv
theorem tw_in {p : Int → Bool} {l : List Int} {j : Nat} (hj : j < (l.takeWhile p).length) : j < l.length ∧ p (l.getD j 0) = true := by
  obtain ⟨z, hz⟩ := List.takeWhile_prefix p (l := l)
  have hjl : j < l.length := Nat.lt_of_lt_of_le hj (List.takeWhile_prefix p).length_le
  refine ⟨hjl, ?_⟩
  have e : l[j]? = (l.takeWhile p)[j]? := by
    conv => lhs; rw [← hz]
    rw [List.getElem?_append_left hj]
  have e2 : l.getD j 0 = (l.takeWhile p).getD j 0 := by simp only [List.getD, e]
  rw [e2]
  exact Lx.takeWhile_all _ (Lx.getD_mem hj)
theorem tw_out {p : Int → Bool} : ∀ {l : List Int} {j : Nat}, (l.takeWhile p).length = j → l.length ≤ j ∨ (j < l.length ∧ p (l.getD j 0) = false)
  | [], j, _ => .inl (by simp)
  | x :: l, j, h => by
    cases hx : p x
    · rw [List.takeWhile_cons, hx] at h
      simp only [Bool.false_eq_true, if_false, List.length_nil] at h
      subst h
      exact .inr ⟨by simp, by simpa using hx⟩
    · rw [List.takeWhile_cons, hx] at h
      simp only [if_true, List.length_cons] at h
      subst h
      rcases tw_out (p := p) (l := l) rfl with h1 | ⟨h1, h2⟩
      · left; simp only [List.length_cons]; omega
      · right
        exact ⟨by simp only [List.length_cons]; omega, by simpa [List.getD] using h2⟩
end
end Go.Proofs.YtmghklokbmdenaaDoor
namespace Go.Proofs.YtmghklokbmdenaaDoor
section
open Go.RowKit
theorem letter_any (c : Int) (w : World) : Calls Tryd.prog 52 #[.int .i32 c] w (Ret (.bool (Lx.lower c)) w) := by
  have key : (97 ≤ c ∧ c ≤ 122 ∧ Lx.lower c = true) ∨ (c < 97 ∧ Lx.lower c = false) ∨ (97 ≤ c ∧ 122 < c ∧ Lx.lower c = false) := by unfold Lx.lower; simp; omega
  rcases key with ⟨h1, h2, h3⟩ | ⟨h1, h3⟩ | ⟨h1, h2, h3⟩
  all_goals
    rw [h3]
    clear h3
    go_enter Tryd.func52, Tryd.ntmps52
    go_wp2
    all_goals first | (exfalso; omega) | skip
    all_goals
      go_ret
      exact ⟨by first | rfl | (simp; omega), rfl⟩
theorem digit_any (c : Int) (w : World) : Calls Tryd.prog 56 #[.int .i32 c] w (Ret (.bool (Lx.dig c)) w) := by
  have key : (48 ≤ c ∧ c ≤ 57 ∧ Lx.dig c = true) ∨ (c < 48 ∧ Lx.dig c = false) ∨ (48 ≤ c ∧ 57 < c ∧ Lx.dig c = false) := by unfold Lx.dig; simp; omega
  rcases key with ⟨h1, h2, h3⟩ | ⟨h1, h3⟩ | ⟨h1, h2, h3⟩
  all_goals
    rw [h3]
    clear h3
    go_enter Tryd.func56, Tryd.ntmps56
    go_wp2
    all_goals first | (exfalso; omega) | skip
    all_goals
      go_ret
      exact ⟨by first | rfl | (simp; omega), rfl⟩
theorem blank_any (c : Int) (w : World) : Calls Tryd.prog 40 #[.int .i32 c] w (Ret (.bool (Lx.blank c)) w) := by
  have key : (c = 32 ∧ Lx.blank c = true) ∨ (c ≠ 32 ∧ c = 9 ∧ Lx.blank c = true) ∨ (c ≠ 32 ∧ c ≠ 9 ∧ Lx.blank c = false) := by unfold Lx.blank; simp; omega
  rcases key with ⟨h1, h3⟩ | ⟨h1, h2, h3⟩ | ⟨h1, h2, h3⟩
  all_goals
    rw [h3]
    clear h3
    go_enter Tryd.func40, Tryd.ntmps40
    go_wp2
    all_goals first | (exfalso; omega) | skip
    all_goals
      go_ret
      exact ⟨by first | rfl | (simp; omega), rfl⟩
theorem lod_any (c : Int) (w : World) : Calls Tryd.prog 55 #[.int .i32 c] w (Ret (.bool (Lx.word c)) w) := by
  unfold Lx.word
  cases h1 : Lx.lower c
  · cases h2 : Lx.dig c
    all_goals
      go_enter Tryd.func55, Tryd.ntmps55
      go_wp2_with (first
        | (go_at_call 52; refine (letter_any _ _).mono ?_; rintro e w' ⟨rfl, rfl⟩; rw [h1])
        | (go_at_call 56; refine (digit_any _ _).mono ?_; rintro e w' ⟨rfl, rfl⟩; rw [h2]))
      go_ret
      exact ⟨rfl, rfl⟩
  · go_enter Tryd.func55, Tryd.ntmps55
    go_wp2_with (go_at_call 52; refine (letter_any _ _).mono ?_; rintro e w' ⟨rfl, rfl⟩; rw [h1])
    go_ret
    exact ⟨rfl, rfl⟩
theorem single_any (c : Int) (w : World) : Calls Tryd.prog 57 #[.int .i32 c] w (Ret (.bool (Lx.sgn c)) w) := by
  have key : (c = 44 ∧ Lx.sgn c = true) ∨ (c = 58 ∧ Lx.sgn c = true) ∨ (c = 91 ∧ Lx.sgn c = true) ∨ (c = 93 ∧ Lx.sgn c = true) ∨ (c = 43 ∧ Lx.sgn c = true) ∨ (c ≠ 44 ∧ c ≠ 58 ∧ c ≠ 91 ∧ c ≠ 93 ∧ c ≠ 43 ∧ Lx.sgn c = false) := by unfold Lx.sgn; simp; omega
  rcases key with ⟨h1, h3⟩ | ⟨h1, h3⟩ | ⟨h1, h3⟩ | ⟨h1, h3⟩ | ⟨h1, h3⟩ | ⟨h1, h2, h4, h5, h6, h3⟩
  all_goals
    rw [h3]
    clear h3
    try subst h1
    go_enter Tryd.func57, Tryd.ntmps57
    go_wp2
    all_goals first | (exfalso; omega) | skip
    all_goals
      go_ret
      exact ⟨by first | rfl | (simp; omega), rfl⟩
/-- a sign as it lies in a variable -/
abbrev tokA (k : Int) (t : ByteArray) (n a : Int) : Value := .agg #[.int .i64 k, .string t, .int .i64 n, .int .i64 a]
theorem cut_any (k : Int) (t : ByteArray) (n a : Int) (k' : Int) (t' : ByteArray) (n' a' : Int) (w : World) :
    Calls Tryd.prog 42 #[tokA k t n a, tokA k' t' n' a'] w (RetB (.bool (decide (k = 2) && decide (k' ≠ 3))) w) := by
  by_cases h1 : k = 2
  · by_cases h2 : k' = 3
    all_goals
      go_enter Tryd.func42, Tryd.ntmps42
      go_wp2
      go_ret
      exact RetB.b rfl (by simp [h1, h2]) (by repeat (first | exact up0 _ | apply upA))
  · go_enter Tryd.func42, Tryd.ntmps42
    go_wp2
    go_ret
    exact RetB.b rfl (by simp [h1]) (by repeat (first | exact up0 _ | apply upA))
end
end Go.Proofs.YtmghklokbmdenaaDoor
namespace Go.Proofs.YtmghklokbmdenaaDoor
section
open Go.RowKit
namespace Lx
def hd (p : Int → Bool) (m : Nat) (q : List Int) : Nat := ((q.take m).takeWhile p).length
theorem takeWhile_stop {p : Int → Bool} {u : List Int} {c : Int} {r : List Int} (hu : ∀ x ∈ u, p x = true) (hc : p c = false) : (u ++ c :: r).takeWhile p = u :=
  takeWhile_app hu (fun x q e => by injection e with e1 _; rw [← e1]; exact hc)
theorem hd_full {p : Int → Bool} {u r : List Int} {m : Nat} (hu : ∀ x ∈ u, p x = true) (hm : u.length = m) : hd p m (u ++ r) = m := by
  unfold hd
  rw [List.take_append_of_le_length (by omega), List.take_of_length_le (by omega)]
  have := takeWhile_app (p := p) (a := u) (b := []) hu (fun x r e => by cases e)
  rw [List.append_nil] at this
  rw [this, hm]
theorem hd_end {p : Int → Bool} {u : List Int} {m : Nat} (hu : ∀ x ∈ u, p x = true) (hm : u.length ≤ m) : hd p m (u ++ []) = u.length := by
  unfold hd
  rw [List.append_nil, List.take_of_length_le hm]
  have := takeWhile_app (p := p) (a := u) (b := []) hu (fun x r e => by cases e)
  rw [List.append_nil] at this
  rw [this]
theorem hd_stop {p : Int → Bool} {u : List Int} {c : Int} {r : List Int} {m : Nat} (hu : ∀ x ∈ u, p x = true) (hm : u.length < m) (hc : p c = false) : hd p m (u ++ c :: r) = u.length := by
  unfold hd
  obtain ⟨k, hk⟩ : ∃ k, m - u.length = k + 1 := ⟨m - u.length - 1, by omega⟩
  rw [List.take_append, List.take_of_length_le (by omega), hk, List.take_succ_cons, takeWhile_stop hu hc]
end Lx
set_option maxRecDepth 100000 in
set_option maxHeartbeats 4000000 in
theorem head_lod (s : ByteArray) (m : Nat) (w : World) (hs : s.size ≤ 1000000) (hm : m ≤ 1000000) :
    Calls Tryd.prog 54 #[.string s, .int .i64 (m : Int), .func (.func 55) #[] #[]] w (RetB (.int .i64 (Lx.hd Lx.word m (Lx.runes s) : Int)) w) := by
  have hnx := @Lib.run_next_any_at Tryd.prog
  have hne := @Lib.run_next_end_at Tryd.prog
  have HNX := Lib.hid hnx; have HNE := Lib.hid hne
  clear hnx hne
  generalize hR : Lx.hd Lx.word m (Lx.runes s) = R
  have HR := Lib.hid hR
  clear hR
  go_enter Tryd.func54, Tryd.ntmps54
  go_wp2_with fail
  go_loopw [6] (fun v wr => ∃ (p : Nat) (u : List Int), v = .int .i64 0 ∧ wr.heap[w.heap.size]? = some (.stringIter s p) ∧ Lx.runes s = u ++ Lx.runesAt s p ∧ u.length = p ∧ (∀ x ∈ u, Lx.word x = true) ∧ p ≤ m ∧ p ≤ s.size ∧ Below w.heap.size w wr) (fun _ wr => s.size - wr.iterPos w.heap.size)
  case atStart => exact ⟨0, [], rfl, World.iter_heap w s 0, (Lx.runesAt_zero s).symm, rfl, fun x hx => by simp at hx, by omega, by omega, upA (up0 w) _⟩
  case round =>
    obtain ⟨p, u, rfl, hit, heq, hul, hall, hpm, hps, hbw⟩ := hrel
    obtain ⟨wo, rfl⟩ : ∃ wo : World, wo = wr := ⟨_, rfl⟩
    have hlt := (Array.getElem?_eq_some_iff.1 hit).1
    have hpos : wo.iterPos w.heap.size = p := by simp [World.iterPos, hit]
    by_cases hp : p < s.size
    · have hst := Lx.runesAt_step hp
      have hds := Lx.decode_step s p hp
      have hdl := decode_le s p
      have hrun := HNX.out wo w.heap.size s p
      have hit2 := Lib.iterAt_heap wo w.heap.size s p (p + (Utf8.decode s p).2) hit
      have hb2 := Lib.below_iterAt hbw (Nat.le_refl _) s (p + (Utf8.decode s p).2)
      have hsz := Lib.iterAt_size wo w.heap.size s (p + (Utf8.decode s p).2)
      have hrun' : ∀ ty, (Instr.next (.pointer (some ⟨w.heap.size, 0, none⟩)) true ty).run Tryd.prog wo = .ok (.tuple #[.bool true, .int .i64 p, .int .i32 ((Utf8.decode s p).1 : Int)]) (wo.iterAt w.heap.size s (p + (Utf8.decode s p).2)) := fun ty => hrun ty hit hp
      clear hrun
      generalize wo.iterAt w.heap.size s (p + (Utf8.decode s p).2) = w1 at *
      obtain ⟨p2, hp2⟩ : ∃ p2, p + (Utf8.decode s p).2 = p2 := ⟨_, rfl⟩
      obtain ⟨c, hc⟩ : ∃ c : Int, ((Utf8.decode s p).1 : Int) = c := ⟨_, rfl⟩
      have HP2 := Lib.hid hp2; have HCC := Lib.hid hc
      rw [hp2, hc] at hst
      rw [hp2] at hit2
      rw [hc] at hrun'
      have HH := Lib.hid hit2; have HE := Lib.hid heq; have HST := Lib.hid hst; have HB := Lib.hid hb2; have HALL := Lib.hid hall; have HUL := Lib.hid hul
      clear hit2 heq hst hb2 hit hsz hall hp2 hc hds hdl hul
      by_cases hpm2 : p = m
      · subst hpm2
        have hres : R = p := by rw [← HR.out, HE.out]; exact Lx.hd_full HALL.out HUL.out
        have HRES := Lib.hid hres
        clear hres
        go_wp2_with fail
        go_ret
        exact ⟨by rw [HRES.out]; rfl, HB.out⟩
      · have k1 : ((p : Int) == (m : Int)) = false := by simp; omega
        have k2 : ¬ (p : Int) = (m : Int) := by omega
        cases hx : Lx.word c
        · have hres : R = p := by rw [← HR.out, HE.out, HST.out, Lx.hd_stop HALL.out (by rw [HUL.out]; omega) hx, HUL.out]
          have HRES := Lib.hid hres
          clear hres
          go_wp2_with (go_at_call 55; refine (lod_any _ _).mono ?_; rintro e w' ⟨rfl, rfl⟩; rw [hx])
          go_ret
          exact ⟨by rw [HRES.out]; rfl, HB.out⟩
        · go_wp2_with (go_at_call 55; refine (lod_any _ _).mono ?_; rintro e w' ⟨rfl, rfl⟩; rw [hx])
          go_round
          case measure =>
            have e1 : w1.iterPos w.heap.size = p2 := by simp [World.iterPos, HH.out]
            have := Lx.decode_step s p hp
            have := HP2.out
            rw [e1, hpos]
            omega
          case rel =>
            have hcl := (Lx.word_lt hx).2
            obtain ⟨hp', hxx, hb', hr', hd'⟩ := Lx.ascii_at HST.out hcl
            have hp2' : p2 = p + 1 := by rw [← HP2.out, hd']
            have hlen : (u ++ [c]).length = p2 := by rw [List.length_append, HUL.out, hp2']; rfl
            refine ⟨p2, u ++ [c], rfl, HH.out, ?_, hlen, ?_, by omega, by omega, HB.out⟩
            · rw [HE.out, HST.out]; simp
            · intro x hx2
              rcases List.mem_append.1 hx2 with h | h
              · exact HALL.out x h
              · simp at h; subst h; exact hx
    · have hend := Lx.runesAt_end hp
      rw [hend] at heq
      have hres : R = s.size := by rw [← HR.out, heq, Lx.hd_end hall (by omega)]; omega
      have HRES := Lib.hid hres
      clear hres
      have hrun : ∀ ty, (Instr.next (.pointer (some ⟨w.heap.size, 0, none⟩)) true ty).run Tryd.prog wo = .ok (.tuple #[.bool false]) wo := fun ty => HNE.out wo w.heap.size s p ty hit hp
      clear hit heq hall
      go_wp2_with fail
      go_ret
      exact ⟨by rw [HRES.out]; rfl, hbw⟩
set_option maxRecDepth 100000 in
set_option maxHeartbeats 4000000 in
theorem head_dig (s : ByteArray) (m : Nat) (w : World) (hs : s.size ≤ 1000000) (hm : m ≤ 1000000) :
    Calls Tryd.prog 54 #[.string s, .int .i64 (m : Int), .func (.func 56) #[] #[]] w (RetB (.int .i64 (Lx.hd Lx.dig m (Lx.runes s) : Int)) w) := by
  have hnx := @Lib.run_next_any_at Tryd.prog
  have hne := @Lib.run_next_end_at Tryd.prog
  have HNX := Lib.hid hnx; have HNE := Lib.hid hne
  clear hnx hne
  generalize hR : Lx.hd Lx.dig m (Lx.runes s) = R
  have HR := Lib.hid hR
  clear hR
  go_enter Tryd.func54, Tryd.ntmps54
  go_wp2_with fail
  go_loopw [6] (fun v wr => ∃ (p : Nat) (u : List Int), v = .int .i64 0 ∧ wr.heap[w.heap.size]? = some (.stringIter s p) ∧ Lx.runes s = u ++ Lx.runesAt s p ∧ u.length = p ∧ (∀ x ∈ u, Lx.dig x = true) ∧ p ≤ m ∧ p ≤ s.size ∧ Below w.heap.size w wr) (fun _ wr => s.size - wr.iterPos w.heap.size)
  case atStart => exact ⟨0, [], rfl, World.iter_heap w s 0, (Lx.runesAt_zero s).symm, rfl, fun x hx => by simp at hx, by omega, by omega, upA (up0 w) _⟩
  case round =>
    obtain ⟨p, u, rfl, hit, heq, hul, hall, hpm, hps, hbw⟩ := hrel
    obtain ⟨wo, rfl⟩ : ∃ wo : World, wo = wr := ⟨_, rfl⟩
    have hlt := (Array.getElem?_eq_some_iff.1 hit).1
    have hpos : wo.iterPos w.heap.size = p := by simp [World.iterPos, hit]
    by_cases hp : p < s.size
    · have hst := Lx.runesAt_step hp
      have hds := Lx.decode_step s p hp
      have hdl := decode_le s p
      have hrun := HNX.out wo w.heap.size s p
      have hit2 := Lib.iterAt_heap wo w.heap.size s p (p + (Utf8.decode s p).2) hit
      have hb2 := Lib.below_iterAt hbw (Nat.le_refl _) s (p + (Utf8.decode s p).2)
      have hsz := Lib.iterAt_size wo w.heap.size s (p + (Utf8.decode s p).2)
      have hrun' : ∀ ty, (Instr.next (.pointer (some ⟨w.heap.size, 0, none⟩)) true ty).run Tryd.prog wo = .ok (.tuple #[.bool true, .int .i64 p, .int .i32 ((Utf8.decode s p).1 : Int)]) (wo.iterAt w.heap.size s (p + (Utf8.decode s p).2)) := fun ty => hrun ty hit hp
      clear hrun
      generalize wo.iterAt w.heap.size s (p + (Utf8.decode s p).2) = w1 at *
      obtain ⟨p2, hp2⟩ : ∃ p2, p + (Utf8.decode s p).2 = p2 := ⟨_, rfl⟩
      obtain ⟨c, hc⟩ : ∃ c : Int, ((Utf8.decode s p).1 : Int) = c := ⟨_, rfl⟩
      have HP2 := Lib.hid hp2; have HCC := Lib.hid hc
      rw [hp2, hc] at hst
      rw [hp2] at hit2
      rw [hc] at hrun'
      have HH := Lib.hid hit2; have HE := Lib.hid heq; have HST := Lib.hid hst; have HB := Lib.hid hb2; have HALL := Lib.hid hall; have HUL := Lib.hid hul
      clear hit2 heq hst hb2 hit hsz hall hp2 hc hds hdl hul
      by_cases hpm2 : p = m
      · subst hpm2
        have hres : R = p := by rw [← HR.out, HE.out]; exact Lx.hd_full HALL.out HUL.out
        have HRES := Lib.hid hres
        clear hres
        go_wp2_with fail
        go_ret
        exact ⟨by rw [HRES.out]; rfl, HB.out⟩
      · have k1 : ((p : Int) == (m : Int)) = false := by simp; omega
        have k2 : ¬ (p : Int) = (m : Int) := by omega
        cases hx : Lx.dig c
        · have hres : R = p := by rw [← HR.out, HE.out, HST.out, Lx.hd_stop HALL.out (by rw [HUL.out]; omega) hx, HUL.out]
          have HRES := Lib.hid hres
          clear hres
          go_wp2_with (go_at_call 56; refine (digit_any _ _).mono ?_; rintro e w' ⟨rfl, rfl⟩; rw [hx])
          go_ret
          exact ⟨by rw [HRES.out]; rfl, HB.out⟩
        · go_wp2_with (go_at_call 56; refine (digit_any _ _).mono ?_; rintro e w' ⟨rfl, rfl⟩; rw [hx])
          go_round
          case measure =>
            have e1 : w1.iterPos w.heap.size = p2 := by simp [World.iterPos, HH.out]
            have := Lx.decode_step s p hp
            have := HP2.out
            rw [e1, hpos]
            omega
          case rel =>
            have hcl := (Lx.dig_lt hx).2
            obtain ⟨hp', hxx, hb', hr', hd'⟩ := Lx.ascii_at HST.out hcl
            have hp2' : p2 = p + 1 := by rw [← HP2.out, hd']
            have hlen : (u ++ [c]).length = p2 := by rw [List.length_append, HUL.out, hp2']; rfl
            refine ⟨p2, u ++ [c], rfl, HH.out, ?_, hlen, ?_, by omega, by omega, HB.out⟩
            · rw [HE.out, HST.out]; simp
            · intro x hx2
              rcases List.mem_append.1 hx2 with h | h
              · exact HALL.out x h
              · simp at h; subst h; exact hx
    · have hend := Lx.runesAt_end hp
      rw [hend] at heq
      have hres : R = s.size := by rw [← HR.out, heq, Lx.hd_end hall (by omega)]; omega
      have HRES := Lib.hid hres
      clear hres
      have hrun : ∀ ty, (Instr.next (.pointer (some ⟨w.heap.size, 0, none⟩)) true ty).run Tryd.prog wo = .ok (.tuple #[.bool false]) wo := fun ty => HNE.out wo w.heap.size s p ty hit hp
      clear hit heq hall
      go_wp2_with fail
      go_ret
      exact ⟨by rw [HRES.out]; rfl, hbw⟩
end
end Go.Proofs.YtmghklokbmdenaaDoor
