/- The contract of auguryref4's address, of a reader and an instruction that is being filled. -/
import Derived.Test.YtcpbbkpfickfiaaDoorSyVal
set_option linter.unusedVariables false
set_option linter.unusedSimpArgs false
namespace Go.Proofs.YtcpbbkpfickfiaaDoor
open Go.RowKit
/-- all blocks but g and i are as they were -/
structure Fg2 (g i : Nat) (w w' : World) : Prop where
  os : w'.os = w.os
  tape : w'.tape = w.tape
  output : w'.output = w.output
  size : w.heap.size ≤ w'.heap.size
  block : ∀ k, k < w.heap.size → k ≠ g → k ≠ i → w'.heap[k]? = w.heap[k]?
theorem Fg2.refl (g i : Nat) (w : World) : Fg2 g i w w := ⟨rfl, rfl, rfl, Nat.le_refl _, fun _ _ _ _ => rfl⟩
theorem Fg2.of {g i : Nat} {w w' : World} (h : Fg g w w') : Fg2 g i w w' := ⟨h.os, h.tape, h.output, h.size, fun k h1 h2 _ => h.block k h1 h2⟩
theorem Fg2.trans {g i : Nat} {a b c : World} (h : Fg2 g i a b) (k : Fg2 g i b c) : Fg2 g i a c :=
  ⟨k.os.trans h.os, k.tape.trans h.tape, k.output.trans h.output, Nat.le_trans h.size k.size, fun x hx h1 h2 => (k.block x (Nat.lt_of_lt_of_le hx h.size) h1 h2).trans (h.block x hx h1 h2)⟩
theorem Fg2.set {g i : Nat} {a b : World} (h : Fg2 g i a b) (cs : Array Value) : Fg2 g i a (b.setRow i cs) :=
  ⟨h.os, h.tape, h.output, by simpa using h.size, fun k hk h1 h2 => (setRow_other _ _ _ _ h2).trans (h.block k hk h1 h2)⟩
theorem run_storeV_at (w : World) (g j : Nat) (t : TypeId) (cs : Array Value) (c0 c1 : Value) (hg : w.heap[g]? = some (.cells cs t (0, 0))) (hj : j + 2 ≤ cs.size) (h0 : c0.oneCell' = true) (h1 : c1.oneCell' = true) :
    (storeVar 25 ⟨g, j, none⟩ (.agg #[c0, c1])).run Tryd.prog w = .ok () (w.setRow g (cs.toList.take j ++ [c0, c1] ++ cs.toList.drop (j + 2)).toArray) := by
  have h := run_storeCells_at (P := Tryd.prog) g j t [c0, c1] 0 cs w hg (by simpa using hj) (by simp [h0, h1])
  simp only [Nat.add_zero, List.length_cons, List.length_nil, Nat.zero_add, Nat.reduceAdd] at h
  have hi := infoV
  cases hq : Tryd.prog.info? 25 with
  | none => simp [hq] at hi
  | some i =>
    have hs : i.size = 2 := by simpa [hq] using hi
    simp [storeVar, sizeOf, typeInfo, hq, Value.cells, hs, h]
/-- a Val stored into fields of a block that is known -/
theorem wp_storeVat {w : World} {ops : Array Oper} {rest : List Oper} {o : Oper} {a : Act} {Q : Exit → Act → World → Prop} (hgd : o.guard = none) (x y : Operand) (ho : o.op = .store 25 x y)
    (g j : Nat) (c0 c1 : Value) (hx : a.eval x = .pointer (some ⟨g, j, none⟩)) (hy : a.eval y = .agg #[c0, c1]) (cs : Array Value) (t : TypeId) (hg : w.heap[g]? = some (.cells cs t (0, 0))) (hj : j + 2 ≤ cs.size)
    (h0 : c0.oneCell' = true) (h1 : c1.oneCell' = true) (ds : Array Value) (hd : (cs.toList.take j ++ [c0, c1] ++ cs.toList.drop (j + 2)).toArray = ds)
    (h : wpList Tryd.prog ops Q rest (a.put o.dst undef) (w.setRow g ds)) : wpList Tryd.prog ops Q (o :: rest) a w := by
  refine wpList_plain hgd fun K hK => ?_
  unfold Oper.wp execOp
  simp only [ho, hx, hy, Instr.storeAt, Instr.sureAddr, Sem.run_bind, Sem.run_pure, Result.andThen_ok, run_storeV_at w g j t cs c0 c1 hg hj h0 h1, hd]
  exact hK _ _ h
/-- an instruction's cells -/
abbrev InsC (kd op d : Int) (a b : Sy.Vl) (nm : ByteArray) (tg : Int) : Array Value := #[.int .i64 kd, .int .i64 op, .int .i64 d, .bool a.reg, .int .i64 a.n, .bool b.reg, .int .i64 b.n, .string nm, .int .i64 tg]
set_option maxRecDepth 100000 in
set_option maxHeartbeats 4000000 in
theorem maddr_any (w : World) (g gT gi : Nat) (ts : List Lx.Tk) (cap long : Nat) (s : Sy.St) (kd op d : Int) (a b : Sy.Vl) (nm : ByteArray) (tg : Int) (h : LnS w g gT ts cap long s)
    (hi : w.heap[gi]? = some (.cells (InsC kd op d a b nm tg) 27 (0, 0))) (h1 : gi ≠ g) (h2 : gi ≠ gT) :
    Calls Tryd.prog 61 #[.pointer (some ⟨g, 0, none⟩), .pointer (some ⟨gi, 0, none⟩)] w fun e w' => e = .returned (.tuple #[]) ∧ LnS w' g gT ts cap long (Sy.address ts long s).2 ∧
      w'.heap[gi]? = some (.cells (InsC kd op d (Sy.address ts long s).1.1 (Sy.address ts long s).1.2 nm tg) 27 (0, 0)) ∧ Fg2 g gi w w' := by
  have hgi := (Array.getElem?_eq_some_iff.1 hi).1
  have hA : Sy.address ts long s = (((Sy.vl ts long (Sy.sign ts long 91 s)).1, (Sy.vl ts long (Sy.sign ts long 43 (Sy.vl ts long (Sy.sign ts long 91 s)).2)).1), Sy.sign ts long 93 (Sy.vl ts long (Sy.sign ts long 43 (Sy.vl ts long (Sy.sign ts long 91 s)).2)).2) := rfl
  rw [hA]
  clear hA
  go_enter Tryd.func61, Tryd.ntmps61
  go_wp2_with fail
  refine (sign_any w g gT ts cap long s 91 (by decide) _ rfl h).mono ?_
  rintro e w1 ⟨rfl, h3, f1⟩
  go_wp2_with fail
  refine (mval_any w1 g gT ts cap long _ h3).mono ?_
  rintro e w2 ⟨rfl, h4, f2⟩
  have i2 : w2.heap[gi]? = _ := (f2.block gi (Nat.lt_of_lt_of_le hgi f1.size) h1).trans ((f1.block gi hgi h1).trans hi)
  obtain ⟨⟨r1, n1⟩, s1, e1⟩ : ∃ v s', Sy.vl ts long (Sy.sign ts long 91 s) = (v, s') := ⟨_, _, rfl⟩
  rw [e1] at h4
  simp only [e1]
  go_wp2_with (refine wp_storeVat (o := ⟨none, .store 25 (.tmp 10) (.tmp 8), _, _, _, none⟩) rfl _ _ rfl gi 3 _ _ rfl rfl _ _ i2 (by simp) rfl rfl (InsC kd op d ⟨r1, n1⟩ b nm tg) rfl ?_)
  have h5 := h4.set h1 h2 (InsC kd op d ⟨r1, n1⟩ b nm tg)
  have i3 := setRow_heap w2 gi _ (InsC kd op d ⟨r1, n1⟩ b nm tg) _ _ i2
  have f3 : Fg2 g gi w (w2.setRow gi (InsC kd op d ⟨r1, n1⟩ b nm tg)) := ((Fg2.of f1).trans (Fg2.of f2)).set _
  generalize w2.setRow gi (InsC kd op d ⟨r1, n1⟩ b nm tg) = w3 at *
  refine (sign_any w3 g gT ts cap long s1 43 (by decide) _ rfl h5).mono ?_
  rintro e w4 ⟨rfl, h6, f4⟩
  have hg3 : gi < w3.heap.size := (Array.getElem?_eq_some_iff.1 i3).1
  go_wp2_with fail
  refine (mval_any w4 g gT ts cap long _ h6).mono ?_
  rintro e w5 ⟨rfl, h7, f5⟩
  have i5 : w5.heap[gi]? = _ := (f5.block gi (Nat.lt_of_lt_of_le hg3 f4.size) h1).trans ((f4.block gi hg3 h1).trans i3)
  obtain ⟨⟨r2, n2⟩, s2, e2⟩ : ∃ v s', Sy.vl ts long (Sy.sign ts long 43 s1) = (v, s') := ⟨_, _, rfl⟩
  rw [e2] at h7
  simp only [e2]
  go_wp2_with (refine wp_storeVat (o := ⟨none, .store 25 (.tmp 17) (.tmp 15), _, _, _, none⟩) rfl _ _ rfl gi 5 _ _ rfl rfl _ _ i5 (by simp) rfl rfl (InsC kd op d ⟨r1, n1⟩ ⟨r2, n2⟩ nm tg) rfl ?_)
  have h8 := h7.set h1 h2 (InsC kd op d ⟨r1, n1⟩ ⟨r2, n2⟩ nm tg)
  have i6 := setRow_heap w5 gi _ (InsC kd op d ⟨r1, n1⟩ ⟨r2, n2⟩ nm tg) _ _ i5
  have f6 : Fg2 g gi w (w5.setRow gi (InsC kd op d ⟨r1, n1⟩ ⟨r2, n2⟩ nm tg)) := ((f3.trans (Fg2.of f4)).trans (Fg2.of f5)).set _
  generalize w5.setRow gi (InsC kd op d ⟨r1, n1⟩ ⟨r2, n2⟩ nm tg) = w6 at *
  refine (sign_any w6 g gT ts cap long s2 93 (by decide) _ rfl h8).mono ?_
  rintro e w7 ⟨rfl, h9, f7⟩
  have hg6 : gi < w6.heap.size := (Array.getElem?_eq_some_iff.1 i6).1
  go_wp2_with fail
  go_end0
  simp only [e1, e2]
  exact ⟨trivial, h9, (f7.block gi hg6 h1).trans i6, f6.trans (Fg2.of f7)⟩
end Go.Proofs.YtcpbbkpfickfiaaDoor
