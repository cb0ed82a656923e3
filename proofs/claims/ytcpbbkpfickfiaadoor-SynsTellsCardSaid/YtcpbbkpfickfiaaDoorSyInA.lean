/- The contract of auguryref4's ins, of a reader. -/
import Derived.Test.YtcpbbkpfickfiaaDoorSyAddr
set_option linter.unusedVariables false
set_option linter.unusedSimpArgs false
namespace Go.Proofs.YtcpbbkpfickfiaaDoor
section
open Go.RowKit
abbrev InV (i : Sy.In) : Value := .agg (InsC i.kind i.op i.d i.a i.b (strOfNums i.name) i.target)
theorem infoIn : (Tryd.prog.info? 27).map (·.size) = some 9 := by kernel_rfl
theorem resI {fn : Func} {p : Tmp} (h : fn.results = #[.cell p 27]) (tmps : Array Value) (w : World) (g : Nat) (t : TypeId) (c0 c1 c2 c3 c4 c5 c6 c7 c8 : Value) (fr : Nat × Nat)
    (hp : tmps.getD p undef = .pointer (some ⟨g, 0, none⟩)) (hg : w.heap[g]? = some (.cells #[c0, c1, c2, c3, c4, c5, c6, c7, c8] t fr)) : (results fn tmps).run Tryd.prog w = .ok (.agg #[c0, c1, c2, c3, c4, c5, c6, c7, c8]) w :=
  results_cell_row h tmps w g t _ fr _ hp hg Tryd.underlying27 rfl infoIn
theorem oneInt (k : IntKind) (n : Int) : (Value.int k n).oneCell' = true := rfl
theorem oneBool (b : Bool) : (Value.bool b).oneCell' = true := rfl
theorem oneStr (b : ByteArray) : (Value.string b).oneCell' = true := rfl
theorem wp_storeI {w : World} {ops : Array Oper} {rest : List Oper} {o : Oper} {a : Act} {Q : Exit → Act → World → Prop} (hgd : o.guard = none) (x y : Operand) (ho : o.op = .store 27 x y)
    (g : Nat) (kd op d : Int) (va vb : Sy.Vl) (nm : ByteArray) (tg : Int) (hx : a.eval x = .pointer (some ⟨g, 0, none⟩)) (hy : a.eval y = .agg (InsC kd op d va vb nm tg)) (t : TypeId) (os : Array Value) (hg : w.heap[g]? = some (.cells os t (0, 0)))
    (hs : os.size = 9)
    (h : wpList Tryd.prog ops Q rest (a.put o.dst undef) (w.setRow g (InsC kd op d va vb nm tg))) : wpList Tryd.prog ops Q (o :: rest) a w :=
  wpList_store_row hgd _ x y ho g _ hx hy t _ hg infoIn (by rw [hs]; rfl) (by simp [oneInt, oneBool, oneStr]) h
theorem wp_loadI {w : World} {ops : Array Oper} {rest : List Oper} {o : Oper} {a : Act} {Q : Exit → Act → World → Prop} (hgd : o.guard = none) (x : Operand) (ho : o.op = .load 27 x)
    (g : Nat) (hx : a.eval x = .pointer (some ⟨g, 0, none⟩)) (kd op d : Int) (va vb : Sy.Vl) (nm : ByteArray) (tg : Int) (t : TypeId) (fr : Nat × Nat) (hg : w.heap[g]? = some (.cells (InsC kd op d va vb nm tg) t fr))
    (h : wpList Tryd.prog ops Q rest (a.put o.dst (.agg (InsC kd op d va vb nm tg))) w) : wpList Tryd.prog ops Q (o :: rest) a w :=
  wpList_load_row hgd _ x ho g hx t _ fr _ hg Tryd.underlying27 rfl infoIn h
/-- a reader, an instruction that is being filled (block gi) and a result's variable (block gr), since the world w0 -/
structure MI (w0 w : World) (g gT gi gr : Nat) (ts : List Lx.Tk) (cap long : Nat) (s : Sy.St) (C R : Array Value) : Prop where
  ln : LnS w g gT ts cap long s
  irow : w.heap[gi]? = some (.cells C 27 (0, 0))
  rrow : w.heap[gr]? = some (.cells R 27 (0, 0))
  fg : Fg g w0 w
  n1 : gi ≠ g
  n2 : gi ≠ gT
  n3 : gr ≠ g
  n4 : gr ≠ gT
  n5 : gr ≠ gi
  n6 : w0.heap.size ≤ gi
  n7 : w0.heap.size ≤ gr
theorem MI.start {w : World} {g gT cap long : Nat} {ts : List Lx.Tk} {s : Sy.St} (h : LnS w g gT ts cap long s) (T C R : Array Value) (tt : TypeId) :
    MI w (((w.alloc (.cells T tt)).alloc (.cells R 27)).alloc (.cells C 27)) g gT (w.heap.size + 1 + 1) (w.heap.size + 1) ts cap long s C R := by
  have hglt := h.glt
  have hgt := h.gTlt
  refine ⟨h.up (upA (upA (upA (up0 w) _) _) _), ?_, ?_, (Fg.refl g w).up (upA (upA (upA (up0 w) _) _) _), by omega, by omega, by omega, by omega, by omega, by omega, by omega⟩
  · have := heap_alloc_new ((w.alloc (.cells T tt)).alloc (.cells R 27)) (.cells C 27)
    simpa using this
  · refine (heap_alloc_old _ _ (by simp)).trans ?_
    have := heap_alloc_new (w.alloc (.cells T tt)) (.cells R 27)
    simpa using this
section
variable {w0 w : World} {g gT gi gr : Nat} {ts : List Lx.Tk} {cap long : Nat} {s : Sy.St} {C R : Array Value}
theorem MI.setRow (m : MI w0 w g gT gi gr ts cap long s C R) (D : Array Value) : MI w0 (w.setRow gi D) g gT gi gr ts cap long s D R :=
  ⟨m.ln.set m.n1 m.n2 D, setRow_heap _ _ _ _ _ _ m.irow, (setRow_other _ _ _ _ m.n5).trans m.rrow, m.fg.setRow gi (.inr m.n6) D, m.n1, m.n2, m.n3, m.n4, m.n5, m.n6, m.n7⟩
theorem MI.setCell (m : MI w0 w g gT gi gr ts cap long s C R) (k : Nat) (v : Value) : MI w0 (w.setCell ⟨gi, k, none⟩ v) g gT gi gr ts cap long s (C.setIfInBounds k v) R := by
  rw [setCell_eq_setRow _ _ _ _ _ _ v m.irow]
  exact m.setRow _
theorem MI.setRes (m : MI w0 w g gT gi gr ts cap long s C R) (D : Array Value) : MI w0 (w.setRow gr D) g gT gi gr ts cap long s C D :=
  ⟨m.ln.set m.n3 m.n4 D, (setRow_other _ _ _ _ (Ne.symm m.n5)).trans m.irow, setRow_heap _ _ _ _ _ _ m.rrow, m.fg.setRow gr (.inr m.n7) D, m.n1, m.n2, m.n3, m.n4, m.n5, m.n6, m.n7⟩
theorem MI.call (m : MI w0 w g gT gi gr ts cap long s C R) {w' : World} {s' : Sy.St} (h : LnS w' g gT ts cap long s') (f : Fg g w w') : MI w0 w' g gT gi gr ts cap long s' C R :=
  ⟨h, (f.block _ (Array.getElem?_eq_some_iff.1 m.irow).1 m.n1).trans m.irow, (f.block _ (Array.getElem?_eq_some_iff.1 m.rrow).1 m.n3).trans m.rrow, m.fg.trans f, m.n1, m.n2, m.n3, m.n4, m.n5, m.n6, m.n7⟩
theorem MI.addr (m : MI w0 w g gT gi gr ts cap long s C R) {w' : World} {s' : Sy.St} {D : Array Value} (h : LnS w' g gT ts cap long s') (hi : w'.heap[gi]? = some (.cells D 27 (0, 0))) (f : Fg2 g gi w w') : MI w0 w' g gT gi gr ts cap long s' D R :=
  ⟨h, hi, (f.block _ (Array.getElem?_eq_some_iff.1 m.rrow).1 m.n3 m.n5).trans m.rrow,
    ⟨f.os.trans m.fg.os, f.tape.trans m.fg.tape, f.output.trans m.fg.output, Nat.le_trans m.fg.size f.size, fun k hk hn => (f.block k (Nat.lt_of_lt_of_le hk m.fg.size) hn (by have := m.n6; omega)).trans (m.fg.block k hk hn)⟩, m.n1, m.n2, m.n3, m.n4, m.n5, m.n6, m.n7⟩
theorem MI.z (m : MI w0 w g gT gi gr ts cap long s C R) (k : Nat) : w.frozen? ⟨gi, k, none⟩ = false := frozen_of_row w _ k _ _ m.irow
theorem MI.c (m : MI w0 w g gT gi gr ts cap long s C R) (k : Nat) : w.cell? ⟨gi, k, none⟩ = C[k]? := cell_of_row _ _ _ _ _ _ m.irow
end
set_option maxRecDepth 100000 in
set_option maxHeartbeats 4000000 in
theorem mins_ret (w : World) (g gT : Nat) (ts : List Lx.Tk) (cap long : Nat) (s : Sy.St) (n : Int) (p : Nat) (h : LnS w g gT ts cap long s) :
    Calls Tryd.prog 41 #[.pointer (some ⟨g, 0, none⟩), TV ⟨1, [114, 101, 116], n, p⟩] w (MethP w g gT ts cap long (InV (Sy.ins ts long [114, 101, 116] s).1) (Sy.ins ts long [114, 101, 116] s).2) := by
  have hA : Sy.ins ts long [114, 101, 116] s = (⟨9, 0, 0, Sy.v0, Sy.v0, [], 0⟩, s) := rfl
  rw [hA]
  clear hA
  have hS : strOfNums [114, 101, 116] = { data := #[114, 101, 116] } := rfl
  simp only [hS]
  go_enter Tryd.func41, Tryd.ntmps41
  go_wp2_with fail
  refine bodyPost_ret (resI rfl _ _ _ _ _ _ _ _ _ _ _ _ _ _ rfl ((heap_alloc_old _ _ (by simp)).trans (by simpa using heap_alloc_new (w.alloc _) _))) rfl ?_
  exact ⟨rfl, h.up (upA (upA (upA (up0 w) _) _) _), (Fg.refl g w).up (upA (upA (upA (up0 w) _) _) _)⟩
set_option maxRecDepth 100000 in
set_option maxHeartbeats 4000000 in
theorem mins_mov (w : World) (g gT : Nat) (ts : List Lx.Tk) (cap long : Nat) (s : Sy.St) (n : Int) (p : Nat) (h : LnS w g gT ts cap long s) :
    Calls Tryd.prog 41 #[.pointer (some ⟨g, 0, none⟩), TV ⟨1, [109, 111, 118], n, p⟩] w (MethP w g gT ts cap long (InV (Sy.ins ts long [109, 111, 118] s).1) (Sy.ins ts long [109, 111, 118] s).2) := by
  obtain ⟨d, s1, e1⟩ : ∃ v s', Sy.reg ts long s = (v, s') := ⟨_, _, rfl⟩
  obtain ⟨va, s2, e2⟩ : ∃ v s', Sy.vl ts long (Sy.sign ts long 44 s1) = (v, s') := ⟨_, _, rfl⟩
  have hA : Sy.ins ts long [109, 111, 118] s = (⟨1, 4, d, va, Sy.v0, [], 0⟩, s2) := by simp only [Sy.ins, e1, e2, if_true]
  rw [hA]
  clear hA
  have hS : strOfNums [109, 111, 118] = { data := #[109, 111, 118] } := rfl
  simp only [hS]
  go_enter Tryd.func41, Tryd.ntmps41
  go_wp2_with fail
  have m0 := MI.start h #[.int .i64 1, .string { data := #[109, 111, 118] }, .int .i64 n, .int .i64 (p : Int)] (InsC 0 0 0 Sy.v0 Sy.v0 { data := #[] } 0) (InsC 0 0 0 Sy.v0 Sy.v0 { data := #[] } 0) 58
  refine (mreg_any _ g gT ts cap long s m0.ln).mono ?_
  rintro e w1 ⟨rfl, h1, f1⟩
  have m1 := m0.call h1 f1
  simp only [e1] at m1 ⊢
  clear m0 h1 f1
  have z0 := m1.z 0; have z1 := m1.z 1; have z2 := m1.z 2
  have c0 := m1.c 0; have c1 := m1.c 1; have c2 := m1.c 2
  simp only [List.getElem?_toArray, List.getElem?_cons_succ, List.getElem?_cons_zero] at c0 c1 c2
  go_wp2_with fail
  clear z0 z1 z2 c0 c1 c2
  have m2 := ((m1.setCell 0 (.int .i64 1)).setCell 1 (.int .i64 4)).setCell 2 (.int .i64 d)
  simp only [List.setIfInBounds_toArray, List.set_cons_zero, List.set_cons_succ] at m2
  clear m1
  generalize World.setCell _ _ _ = w2 at *
  refine (sign_any w2 g gT ts cap long s1 44 (by decide) _ rfl m2.ln).mono ?_
  rintro e w3 ⟨rfl, h3, f3⟩
  have m3 := m2.call h3 f3
  clear m2 h3 f3
  go_wp2_with fail
  refine (mval_any w3 g gT ts cap long _ m3.ln).mono ?_
  rintro e w4 ⟨rfl, h4, f4⟩
  have m4 := m3.call h4 f4
  simp only [e2] at m4 ⊢
  clear m3 h4 f4
  go_wp2_with (first
    | (show wpList _ _ _ (⟨none, .store 25 (.tmp 39) (.tmp 38), _, _, _, none⟩ :: _) _ _; refine wp_storeVat (o := ⟨none, .store 25 (.tmp 39) (.tmp 38), _, _, _, none⟩) rfl _ _ rfl (w.heap.size + 1 + 1) 3 _ _ rfl rfl _ _ m4.irow (by simp) rfl rfl (InsC 1 4 d va Sy.v0 { data := #[] } 0) rfl ?_)
    | (show wpList _ _ _ (⟨some 137, .load 27 (.tmp 5), _, _, _, none⟩ :: _) _ _; refine wp_loadI (o := ⟨some 137, .load 27 (.tmp 5), _, _, _, none⟩) rfl _ rfl (w.heap.size + 1 + 1) rfl 1 4 d va Sy.v0 { data := #[] } 0 _ _ (m4.setRow _).irow ?_; refine wp_storeI (o := ⟨none, .store 27 (.tmp 4) (.tmp 137), _, _, _, none⟩) rfl _ _ rfl (w.heap.size + 1) 1 4 d va Sy.v0 { data := #[] } 0 rfl rfl _ _ (m4.setRow _).rrow rfl ?_))
  go_wp2_with fail
  have m5 := (m4.setRow (InsC 1 4 d va Sy.v0 { data := #[] } 0)).setRes (InsC 1 4 d va Sy.v0 { data := #[] } 0)
  clear m4
  (try simp only [Exit.inBlock, Exit.then])
  refine bodyPost_ret (resI rfl _ _ _ _ _ _ _ _ _ _ _ _ _ _ rfl m5.rrow) rfl ?_
  exact ⟨rfl, m5.ln, m5.fg⟩
end
section
open Go.RowKit
set_option maxRecDepth 100000 in
set_option maxHeartbeats 4000000 in
theorem mins_jmp (w : World) (g gT : Nat) (ts : List Lx.Tk) (cap long : Nat) (s : Sy.St) (n : Int) (p : Nat) (h : LnS w g gT ts cap long s) :
    Calls Tryd.prog 41 #[.pointer (some ⟨g, 0, none⟩), TV ⟨1, [106, 109, 112], n, p⟩] w (MethP w g gT ts cap long (InV (Sy.ins ts long [106, 109, 112] s).1) (Sy.ins ts long [106, 109, 112] s).2) := by
  obtain ⟨nm, s1, e1⟩ : ∃ v s', Sy.name ts long s = (v, s') := ⟨_, _, rfl⟩
  have hA : Sy.ins ts long [106, 109, 112] s = (⟨6, 0, 0, Sy.v0, Sy.v0, nm, 0⟩, s1) := by
    unfold Sy.ins
    simp only [e1]
    (try rfl)
  rw [hA]
  clear hA
  have hS : strOfNums [106, 109, 112] = { data := #[106, 109, 112] } := rfl
  simp only [hS]
  go_enter Tryd.func41, Tryd.ntmps41
  go_wp2_with fail
  have m0 := MI.start h #[.int .i64 1, .string { data := #[106, 109, 112] }, .int .i64 n, .int .i64 (p : Int)] (InsC 0 0 0 Sy.v0 Sy.v0 { data := #[] } 0) (InsC 0 0 0 Sy.v0 Sy.v0 { data := #[] } 0) 58
  refine (mname_any _ g gT ts cap long s m0.ln).mono ?_
  rintro e w1 ⟨rfl, h1, f1⟩
  have m1 := m0.call h1 f1
  simp only [e1] at m1 ⊢
  clear m0
  have z0 := m1.z 0
  have c0 := m1.c 0
  have z7 := m1.z 7
  have c7 := m1.c 7
  simp only [List.getElem?_toArray, List.getElem?_cons_succ, List.getElem?_cons_zero] at c0 c7
  go_wp2_with (first
    | (show wpList _ _ _ (⟨some 137, .load 27 (.tmp 5), _, _, _, none⟩ :: _) _ _; refine wp_loadI (o := ⟨some 137, .load 27 (.tmp 5), _, _, _, none⟩) rfl _ rfl (w.heap.size + 1 + 1) rfl 6 0 0 Sy.v0 Sy.v0 (strOfNums nm) 0 _ _ ((m1.setCell 0 (.int .i64 6)).setCell 7 (.string (strOfNums nm))).irow ?_; refine wp_storeI (o := ⟨none, .store 27 (.tmp 4) (.tmp 137), _, _, _, none⟩) rfl _ _ rfl (w.heap.size + 1) 6 0 0 Sy.v0 Sy.v0 (strOfNums nm) 0 rfl rfl _ _ ((m1.setCell 0 (.int .i64 6)).setCell 7 (.string (strOfNums nm))).rrow rfl ?_))
  have mz := ((m1.setCell 0 (.int .i64 6)).setCell 7 (.string (strOfNums nm))).setRes (InsC 6 0 0 Sy.v0 Sy.v0 (strOfNums nm) 0)
  (try simp only [Exit.inBlock, Exit.then])
  refine bodyPost_ret (resI rfl _ _ _ _ _ _ _ _ _ _ _ _ _ _ rfl mz.rrow) rfl ?_
  exact ⟨rfl, mz.ln, mz.fg⟩
set_option maxRecDepth 100000 in
set_option maxHeartbeats 4000000 in
theorem mins_call (w : World) (g gT : Nat) (ts : List Lx.Tk) (cap long : Nat) (s : Sy.St) (n : Int) (p : Nat) (h : LnS w g gT ts cap long s) :
    Calls Tryd.prog 41 #[.pointer (some ⟨g, 0, none⟩), TV ⟨1, [99, 97, 108, 108], n, p⟩] w (MethP w g gT ts cap long (InV (Sy.ins ts long [99, 97, 108, 108] s).1) (Sy.ins ts long [99, 97, 108, 108] s).2) := by
  obtain ⟨nm, s1, e1⟩ : ∃ v s', Sy.name ts long s = (v, s') := ⟨_, _, rfl⟩
  have hA : Sy.ins ts long [99, 97, 108, 108] s = (⟨8, 0, 0, Sy.v0, Sy.v0, nm, 0⟩, s1) := by
    unfold Sy.ins
    simp only [e1]
    (try rfl)
  rw [hA]
  clear hA
  have hS : strOfNums [99, 97, 108, 108] = { data := #[99, 97, 108, 108] } := rfl
  simp only [hS]
  go_enter Tryd.func41, Tryd.ntmps41
  go_wp2_with fail
  have m0 := MI.start h #[.int .i64 1, .string { data := #[99, 97, 108, 108] }, .int .i64 n, .int .i64 (p : Int)] (InsC 0 0 0 Sy.v0 Sy.v0 { data := #[] } 0) (InsC 0 0 0 Sy.v0 Sy.v0 { data := #[] } 0) 58
  refine (mname_any _ g gT ts cap long s m0.ln).mono ?_
  rintro e w1 ⟨rfl, h1, f1⟩
  have m1 := m0.call h1 f1
  simp only [e1] at m1 ⊢
  clear m0
  have z0 := m1.z 0
  have c0 := m1.c 0
  have z7 := m1.z 7
  have c7 := m1.c 7
  simp only [List.getElem?_toArray, List.getElem?_cons_succ, List.getElem?_cons_zero] at c0 c7
  go_wp2_with (first
    | (show wpList _ _ _ (⟨some 137, .load 27 (.tmp 5), _, _, _, none⟩ :: _) _ _; refine wp_loadI (o := ⟨some 137, .load 27 (.tmp 5), _, _, _, none⟩) rfl _ rfl (w.heap.size + 1 + 1) rfl 8 0 0 Sy.v0 Sy.v0 (strOfNums nm) 0 _ _ ((m1.setCell 0 (.int .i64 8)).setCell 7 (.string (strOfNums nm))).irow ?_; refine wp_storeI (o := ⟨none, .store 27 (.tmp 4) (.tmp 137), _, _, _, none⟩) rfl _ _ rfl (w.heap.size + 1) 8 0 0 Sy.v0 Sy.v0 (strOfNums nm) 0 rfl rfl _ _ ((m1.setCell 0 (.int .i64 8)).setCell 7 (.string (strOfNums nm))).rrow rfl ?_))
  have mz := ((m1.setCell 0 (.int .i64 8)).setCell 7 (.string (strOfNums nm))).setRes (InsC 8 0 0 Sy.v0 Sy.v0 (strOfNums nm) 0)
  (try simp only [Exit.inBlock, Exit.then])
  refine bodyPost_ret (resI rfl _ _ _ _ _ _ _ _ _ _ _ _ _ _ rfl mz.rrow) rfl ?_
  exact ⟨rfl, mz.ln, mz.fg⟩
set_option maxRecDepth 100000 in
set_option maxHeartbeats 4000000 in
theorem mins_ind (w : World) (g gT : Nat) (ts : List Lx.Tk) (cap long : Nat) (s : Sy.St) (n : Int) (p : Nat) (h : LnS w g gT ts cap long s) :
    Calls Tryd.prog 41 #[.pointer (some ⟨g, 0, none⟩), TV ⟨1, [105, 110, 100], n, p⟩] w (MethP w g gT ts cap long (InV (Sy.ins ts long [105, 110, 100] s).1) (Sy.ins ts long [105, 110, 100] s).2) := by
  obtain ⟨va, s1, e1⟩ : ∃ v s', Sy.vl ts long s = (v, s') := ⟨_, _, rfl⟩
  have hA : Sy.ins ts long [105, 110, 100] s = (⟨7, 0, 0, va, Sy.v0, [], 0⟩, s1) := by
    unfold Sy.ins
    simp only [e1]
    (try rfl)
  rw [hA]
  clear hA
  have hS : strOfNums [105, 110, 100] = { data := #[105, 110, 100] } := rfl
  simp only [hS]
  go_enter Tryd.func41, Tryd.ntmps41
  go_wp2_with fail
  have m0 := MI.start h #[.int .i64 1, .string { data := #[105, 110, 100] }, .int .i64 n, .int .i64 (p : Int)] (InsC 0 0 0 Sy.v0 Sy.v0 { data := #[] } 0) (InsC 0 0 0 Sy.v0 Sy.v0 { data := #[] } 0) 58
  refine (mval_any _ g gT ts cap long s m0.ln).mono ?_
  rintro e w1 ⟨rfl, h1, f1⟩
  have m1 := m0.call h1 f1
  simp only [e1] at m1 ⊢
  clear m0
  have z0 := m1.z 0
  have c0 := m1.c 0
  simp only [List.getElem?_toArray, List.getElem?_cons_succ, List.getElem?_cons_zero] at c0
  go_wp2_with (first
    | (show wpList _ _ _ (⟨none, .store 25 (.tmp 127) (.tmp 125), _, _, _, none⟩ :: _) _ _; refine wp_storeVat (o := ⟨none, .store 25 (.tmp 127) (.tmp 125), _, _, _, none⟩) rfl _ _ rfl (w.heap.size + 1 + 1) 3 _ _ rfl rfl _ _ (m1.setCell 0 (.int .i64 7)).irow (by simp) rfl rfl (InsC 7 0 0 va Sy.v0 { data := #[] } 0) rfl ?_)
    | (show wpList _ _ _ (⟨some 137, .load 27 (.tmp 5), _, _, _, none⟩ :: _) _ _; refine wp_loadI (o := ⟨some 137, .load 27 (.tmp 5), _, _, _, none⟩) rfl _ rfl (w.heap.size + 1 + 1) rfl 7 0 0 va Sy.v0 { data := #[] } 0 _ _ ((m1.setCell 0 (.int .i64 7)).setRow (InsC 7 0 0 va Sy.v0 { data := #[] } 0)).irow ?_; refine wp_storeI (o := ⟨none, .store 27 (.tmp 4) (.tmp 137), _, _, _, none⟩) rfl _ _ rfl (w.heap.size + 1) 7 0 0 va Sy.v0 { data := #[] } 0 rfl rfl _ _ ((m1.setCell 0 (.int .i64 7)).setRow (InsC 7 0 0 va Sy.v0 { data := #[] } 0)).rrow rfl ?_))
  have mz := ((m1.setCell 0 (.int .i64 7)).setRow (InsC 7 0 0 va Sy.v0 { data := #[] } 0)).setRes (InsC 7 0 0 va Sy.v0 { data := #[] } 0)
  (try simp only [Exit.inBlock, Exit.then])
  refine bodyPost_ret (resI rfl _ _ _ _ _ _ _ _ _ _ _ _ _ _ rfl mz.rrow) rfl ?_
  exact ⟨rfl, mz.ln, mz.fg⟩
set_option maxRecDepth 100000 in
set_option maxHeartbeats 4000000 in
theorem mins_cmov (w : World) (g gT : Nat) (ts : List Lx.Tk) (cap long : Nat) (s : Sy.St) (n : Int) (p : Nat) (h : LnS w g gT ts cap long s) :
    Calls Tryd.prog 41 #[.pointer (some ⟨g, 0, none⟩), TV ⟨1, [99, 109, 111, 118], n, p⟩] w (MethP w g gT ts cap long (InV (Sy.ins ts long [99, 109, 111, 118] s).1) (Sy.ins ts long [99, 109, 111, 118] s).2) := by
  obtain ⟨d, s1, e1⟩ : ∃ v s', Sy.reg ts long s = (v, s') := ⟨_, _, rfl⟩
  obtain ⟨va, s2, e2⟩ : ∃ v s', Sy.vl ts long (Sy.sign ts long 44 s1) = (v, s') := ⟨_, _, rfl⟩
  obtain ⟨vb, s3, e3⟩ : ∃ v s', Sy.vl ts long (Sy.sign ts long 44 s2) = (v, s') := ⟨_, _, rfl⟩
  have hA : Sy.ins ts long [99, 109, 111, 118] s = (⟨4, 0, d, va, vb, [], 0⟩, s3) := by
    unfold Sy.ins
    simp only [e1, e2, e3]
    (try rfl)
  rw [hA]
  clear hA
  have hS : strOfNums [99, 109, 111, 118] = { data := #[99, 109, 111, 118] } := rfl
  simp only [hS]
  go_enter Tryd.func41, Tryd.ntmps41
  go_wp2_with fail
  have m0 := MI.start h #[.int .i64 1, .string { data := #[99, 109, 111, 118] }, .int .i64 n, .int .i64 (p : Int)] (InsC 0 0 0 Sy.v0 Sy.v0 { data := #[] } 0) (InsC 0 0 0 Sy.v0 Sy.v0 { data := #[] } 0) 58
  refine (mreg_any _ g gT ts cap long s m0.ln).mono ?_
  rintro e w1 ⟨rfl, h1, f1⟩
  have m1 := m0.call h1 f1
  simp only [e1] at m1 ⊢
  clear m0
  have z0 := m1.z 0
  have c0 := m1.c 0
  have z2 := m1.z 2
  have c2 := m1.c 2
  simp only [List.getElem?_toArray, List.getElem?_cons_succ, List.getElem?_cons_zero] at c0 c2
  go_wp2_with fail
  replace m1 := ((m1.setCell 0 (.int .i64 4)).setCell 2 (.int .i64 d))
  simp only [List.setIfInBounds_toArray, List.set_cons_zero, List.set_cons_succ] at m1
  clear z0 c0 z2 c2
  generalize World.setCell _ _ _ = w1 at *
  clear h1 f1
  refine (sign_any _ g gT ts cap long s1 44 (by decide) _ rfl m1.ln).mono ?_
  rintro e w2 ⟨rfl, h1, f1⟩
  have m2 := m1.call h1 f1
  clear m1
  go_wp2_with fail
  replace m2 := m2
  clear h1 f1
  refine (mval_any _ g gT ts cap long _ m2.ln).mono ?_
  rintro e w3 ⟨rfl, h1, f1⟩
  have m3 := m2.call h1 f1
  simp only [e2] at m3 ⊢
  clear m2
  go_wp2_with (first
    | (show wpList _ _ _ (⟨none, .store 25 (.tmp 70) (.tmp 69), _, _, _, none⟩ :: _) _ _; refine wp_storeVat (o := ⟨none, .store 25 (.tmp 70) (.tmp 69), _, _, _, none⟩) rfl _ _ rfl (w.heap.size + 1 + 1) 3 _ _ rfl rfl _ _ m3.irow (by simp) rfl rfl (InsC 4 0 d va Sy.v0 { data := #[] } 0) rfl ?_))
  replace m3 := (m3.setRow (InsC 4 0 d va Sy.v0 { data := #[] } 0))
  generalize World.setRow _ _ = w3 at *
  clear h1 f1
  refine (sign_any _ g gT ts cap long s2 44 (by decide) _ rfl m3.ln).mono ?_
  rintro e w4 ⟨rfl, h1, f1⟩
  have m4 := m3.call h1 f1
  clear m3
  go_wp2_with fail
  replace m4 := m4
  clear h1 f1
  refine (mval_any _ g gT ts cap long _ m4.ln).mono ?_
  rintro e w5 ⟨rfl, h1, f1⟩
  have m5 := m4.call h1 f1
  simp only [e3] at m5 ⊢
  clear m4
  go_wp2_with (first
    | (show wpList _ _ _ (⟨none, .store 25 (.tmp 75) (.tmp 74), _, _, _, none⟩ :: _) _ _; refine wp_storeVat (o := ⟨none, .store 25 (.tmp 75) (.tmp 74), _, _, _, none⟩) rfl _ _ rfl (w.heap.size + 1 + 1) 5 _ _ rfl rfl _ _ m5.irow (by simp) rfl rfl (InsC 4 0 d va vb { data := #[] } 0) rfl ?_)
    | (show wpList _ _ _ (⟨some 137, .load 27 (.tmp 5), _, _, _, none⟩ :: _) _ _; refine wp_loadI (o := ⟨some 137, .load 27 (.tmp 5), _, _, _, none⟩) rfl _ rfl (w.heap.size + 1 + 1) rfl 4 0 d va vb { data := #[] } 0 _ _ (m5.setRow (InsC 4 0 d va vb { data := #[] } 0)).irow ?_; refine wp_storeI (o := ⟨none, .store 27 (.tmp 4) (.tmp 137), _, _, _, none⟩) rfl _ _ rfl (w.heap.size + 1) 4 0 d va vb { data := #[] } 0 rfl rfl _ _ (m5.setRow (InsC 4 0 d va vb { data := #[] } 0)).rrow rfl ?_))
  have mz := (m5.setRow (InsC 4 0 d va vb { data := #[] } 0)).setRes (InsC 4 0 d va vb { data := #[] } 0)
  (try simp only [Exit.inBlock, Exit.then])
  refine bodyPost_ret (resI rfl _ _ _ _ _ _ _ _ _ _ _ _ _ _ rfl mz.rrow) rfl ?_
  exact ⟨rfl, mz.ln, mz.fg⟩
end
section
open Go.RowKit
set_option maxRecDepth 100000 in
set_option maxHeartbeats 4000000 in
theorem mins_load (w : World) (g gT : Nat) (ts : List Lx.Tk) (cap long : Nat) (s : Sy.St) (n : Int) (p : Nat) (h : LnS w g gT ts cap long s) :
    Calls Tryd.prog 41 #[.pointer (some ⟨g, 0, none⟩), TV ⟨1, [108, 111, 97, 100], n, p⟩] w (MethP w g gT ts cap long (InV (Sy.ins ts long [108, 111, 97, 100] s).1) (Sy.ins ts long [108, 111, 97, 100] s).2) := by
  obtain ⟨d, s1, e1⟩ : ∃ v s', Sy.reg ts long s = (v, s') := ⟨_, _, rfl⟩
  obtain ⟨⟨va, vb⟩, s2, e2⟩ : ∃ v s', Sy.address ts long (Sy.sign ts long 44 s1) = (v, s') := ⟨_, _, rfl⟩
  have hA : Sy.ins ts long [108, 111, 97, 100] s = (⟨2, 0, d, va, vb, [], 0⟩, s2) := by
    unfold Sy.ins
    simp only [e1, e2]
    (try rfl)
  rw [hA]
  clear hA
  have hS : strOfNums [108, 111, 97, 100] = { data := #[108, 111, 97, 100] } := rfl
  simp only [hS]
  go_enter Tryd.func41, Tryd.ntmps41
  go_wp2_with fail
  have m0 := MI.start h #[.int .i64 1, .string { data := #[108, 111, 97, 100] }, .int .i64 n, .int .i64 (p : Int)] (InsC 0 0 0 Sy.v0 Sy.v0 { data := #[] } 0) (InsC 0 0 0 Sy.v0 Sy.v0 { data := #[] } 0) 58
  refine (mreg_any _ g gT ts cap long s m0.ln).mono ?_
  rintro e w1 ⟨rfl, h1, f1⟩
  have m1 := m0.call h1 f1
  simp only [e1] at m1 ⊢
  clear m0
  have z0 := m1.z 0
  have c0 := m1.c 0
  have z2 := m1.z 2
  have c2 := m1.c 2
  simp only [List.getElem?_toArray, List.getElem?_cons_succ, List.getElem?_cons_zero] at c0 c2
  go_wp2_with fail
  replace m1 := ((m1.setCell 0 (.int .i64 2)).setCell 2 (.int .i64 d))
  simp only [List.setIfInBounds_toArray, List.set_cons_zero, List.set_cons_succ] at m1
  clear z0 c0 z2 c2
  generalize World.setCell _ _ _ = w1 at *
  clear h1 f1
  refine (sign_any _ g gT ts cap long s1 44 (by decide) _ rfl m1.ln).mono ?_
  rintro e w2 ⟨rfl, h1, f1⟩
  have m2 := m1.call h1 f1
  clear m1
  go_wp2_with fail
  replace m2 := m2
  clear h1 f1
  refine (maddr_any _ g gT (w.heap.size + 1 + 1) ts cap long _ 2 0 d Sy.v0 Sy.v0 { data := #[] } 0 m2.ln m2.irow m2.n1 m2.n2).mono ?_
  rintro e w3 ⟨rfl, h1, i1, f1⟩
  have m3 := m2.addr h1 i1 f1
  simp only [e2] at m3 ⊢
  clear m2
  go_wp2_with (first
    | (show wpList _ _ _ (⟨some 137, .load 27 (.tmp 5), _, _, _, none⟩ :: _) _ _; refine wp_loadI (o := ⟨some 137, .load 27 (.tmp 5), _, _, _, none⟩) rfl _ rfl (w.heap.size + 1 + 1) rfl 2 0 d va vb { data := #[] } 0 _ _ m3.irow ?_; refine wp_storeI (o := ⟨none, .store 27 (.tmp 4) (.tmp 137), _, _, _, none⟩) rfl _ _ rfl (w.heap.size + 1) 2 0 d va vb { data := #[] } 0 rfl rfl _ _ m3.rrow rfl ?_))
  have mz := m3.setRes (InsC 2 0 d va vb { data := #[] } 0)
  (try simp only [Exit.inBlock, Exit.then])
  refine bodyPost_ret (resI rfl _ _ _ _ _ _ _ _ _ _ _ _ _ _ rfl mz.rrow) rfl ?_
  exact ⟨rfl, mz.ln, mz.fg⟩
set_option maxRecDepth 100000 in
set_option maxHeartbeats 4000000 in
theorem mins_store (w : World) (g gT : Nat) (ts : List Lx.Tk) (cap long : Nat) (s : Sy.St) (n : Int) (p : Nat) (h : LnS w g gT ts cap long s) :
    Calls Tryd.prog 41 #[.pointer (some ⟨g, 0, none⟩), TV ⟨1, [115, 116, 111, 114, 101], n, p⟩] w (MethP w g gT ts cap long (InV (Sy.ins ts long [115, 116, 111, 114, 101] s).1) (Sy.ins ts long [115, 116, 111, 114, 101] s).2) := by
  obtain ⟨⟨va, vb⟩, s1, e1⟩ : ∃ v s', Sy.address ts long s = (v, s') := ⟨_, _, rfl⟩
  obtain ⟨d, s2, e2⟩ : ∃ v s', Sy.reg ts long (Sy.sign ts long 44 s1) = (v, s') := ⟨_, _, rfl⟩
  have hA : Sy.ins ts long [115, 116, 111, 114, 101] s = (⟨3, 0, d, va, vb, [], 0⟩, s2) := by
    unfold Sy.ins
    simp only [e1, e2]
    (try rfl)
  rw [hA]
  clear hA
  have hS : strOfNums [115, 116, 111, 114, 101] = { data := #[115, 116, 111, 114, 101] } := rfl
  simp only [hS]
  go_enter Tryd.func41, Tryd.ntmps41
  go_wp2_with fail
  have m0 := MI.start h #[.int .i64 1, .string { data := #[115, 116, 111, 114, 101] }, .int .i64 n, .int .i64 (p : Int)] (InsC 3 0 0 Sy.v0 Sy.v0 { data := #[] } 0) (InsC 0 0 0 Sy.v0 Sy.v0 { data := #[] } 0) 58
  refine (maddr_any _ g gT (w.heap.size + 1 + 1) ts cap long s 3 0 0 Sy.v0 Sy.v0 { data := #[] } 0 m0.ln m0.irow m0.n1 m0.n2).mono ?_
  rintro e w1 ⟨rfl, h1, i1, f1⟩
  have m1 := m0.addr h1 i1 f1
  simp only [e1] at m1 ⊢
  clear m0
  go_wp2_with fail
  replace m1 := m1
  clear h1 f1
  refine (sign_any _ g gT ts cap long s1 44 (by decide) _ rfl m1.ln).mono ?_
  rintro e w2 ⟨rfl, h1, f1⟩
  have m2 := m1.call h1 f1
  clear m1
  go_wp2_with fail
  replace m2 := m2
  clear h1 f1
  refine (mreg_any _ g gT ts cap long _ m2.ln).mono ?_
  rintro e w3 ⟨rfl, h1, f1⟩
  have m3 := m2.call h1 f1
  simp only [e2] at m3 ⊢
  clear m2
  have z2 := m3.z 2
  have c2 := m3.c 2
  simp only [List.getElem?_toArray, List.getElem?_cons_succ, List.getElem?_cons_zero] at c2
  go_wp2_with (first
    | (show wpList _ _ _ (⟨some 137, .load 27 (.tmp 5), _, _, _, none⟩ :: _) _ _; refine wp_loadI (o := ⟨some 137, .load 27 (.tmp 5), _, _, _, none⟩) rfl _ rfl (w.heap.size + 1 + 1) rfl 3 0 d va vb { data := #[] } 0 _ _ (m3.setCell 2 (.int .i64 d)).irow ?_; refine wp_storeI (o := ⟨none, .store 27 (.tmp 4) (.tmp 137), _, _, _, none⟩) rfl _ _ rfl (w.heap.size + 1) 3 0 d va vb { data := #[] } 0 rfl rfl _ _ (m3.setCell 2 (.int .i64 d)).rrow rfl ?_))
  have mz := (m3.setCell 2 (.int .i64 d)).setRes (InsC 3 0 d va vb { data := #[] } 0)
  (try simp only [Exit.inBlock, Exit.then])
  refine bodyPost_ret (resI rfl _ _ _ _ _ _ _ _ _ _ _ _ _ _ rfl mz.rrow) rfl ?_
  exact ⟨rfl, mz.ln, mz.fg⟩
set_option maxRecDepth 100000 in
set_option maxHeartbeats 4000000 in
theorem mins_fence (w : World) (g gT : Nat) (ts : List Lx.Tk) (cap long : Nat) (s : Sy.St) (n : Int) (p : Nat) (h : LnS w g gT ts cap long s) :
    Calls Tryd.prog 41 #[.pointer (some ⟨g, 0, none⟩), TV ⟨1, [102, 101, 110, 99, 101], n, p⟩] w (MethP w g gT ts cap long (InV (Sy.ins ts long [102, 101, 110, 99, 101] s).1) (Sy.ins ts long [102, 101, 110, 99, 101] s).2) := by
  have hA : Sy.ins ts long [102, 101, 110, 99, 101] s = (⟨10, 0, 0, Sy.v0, Sy.v0, [], 0⟩, s) := rfl
  rw [hA]
  clear hA
  have hS : strOfNums [102, 101, 110, 99, 101] = { data := #[102, 101, 110, 99, 101] } := rfl
  simp only [hS]
  go_enter Tryd.func41, Tryd.ntmps41
  go_wp2_with fail
  refine bodyPost_ret (resI rfl _ _ _ _ _ _ _ _ _ _ _ _ _ _ rfl ((heap_alloc_old _ _ (by simp)).trans (by simpa using heap_alloc_new (w.alloc _) _))) rfl ?_
  exact ⟨rfl, h.up (upA (upA (upA (up0 w) _) _) _), (Fg.refl g w).up (upA (upA (upA (up0 w) _) _) _)⟩
set_option maxRecDepth 100000 in
set_option maxHeartbeats 4000000 in
theorem mins_halt (w : World) (g gT : Nat) (ts : List Lx.Tk) (cap long : Nat) (s : Sy.St) (n : Int) (p : Nat) (h : LnS w g gT ts cap long s) :
    Calls Tryd.prog 41 #[.pointer (some ⟨g, 0, none⟩), TV ⟨1, [104, 97, 108, 116], n, p⟩] w (MethP w g gT ts cap long (InV (Sy.ins ts long [104, 97, 108, 116] s).1) (Sy.ins ts long [104, 97, 108, 116] s).2) := by
  have hA : Sy.ins ts long [104, 97, 108, 116] s = (⟨11, 0, 0, Sy.v0, Sy.v0, [], 0⟩, s) := rfl
  rw [hA]
  clear hA
  have hS : strOfNums [104, 97, 108, 116] = { data := #[104, 97, 108, 116] } := rfl
  simp only [hS]
  go_enter Tryd.func41, Tryd.ntmps41
  go_wp2_with fail
  refine bodyPost_ret (resI rfl _ _ _ _ _ _ _ _ _ _ _ _ _ _ rfl ((heap_alloc_old _ _ (by simp)).trans (by simpa using heap_alloc_new (w.alloc _) _))) rfl ?_
  exact ⟨rfl, h.up (upA (upA (upA (up0 w) _) _) _), (Fg.refl g w).up (upA (upA (upA (up0 w) _) _) _)⟩
end
section
open Go.RowKit
set_option maxRecDepth 100000 in
set_option maxHeartbeats 4000000 in
theorem mins_op (w : World) (g gT : Nat) (ts : List Lx.Tk) (cap long : Nat) (s : Sy.St) (tx : List Int) (n : Int) (p : Nat) (h : LnS w g gT ts cap long s) (hta : ∀ y ∈ tx, 0 ≤ y ∧ y < 256)
    (x0 : tx ≠ [109, 111, 118]) (x1 : tx ≠ [108, 111, 97, 100]) (x2 : tx ≠ [115, 116, 111, 114, 101]) (x3 : tx ≠ [99, 109, 111, 118]) (x4 : tx ≠ [98, 114]) (x5 : tx ≠ [106, 109, 112]) (x6 : tx ≠ [99, 97, 108, 108]) (x7 : tx ≠ [105, 110, 100]) (x8 : tx ≠ [114, 101, 116]) (x9 : tx ≠ [102, 101, 110, 99, 101]) (x10 : tx ≠ [104, 97, 108, 116]) :
    Calls Tryd.prog 41 #[.pointer (some ⟨g, 0, none⟩), TV ⟨1, tx, n, p⟩] w (MethP w g gT ts cap long (InV (Sy.ins ts long tx s).1) (Sy.ins ts long tx s).2) := by
  obtain ⟨d, s1, e1⟩ : ∃ v s', Sy.reg ts long s = (v, s') := ⟨_, _, rfl⟩
  obtain ⟨va, s2, e2⟩ : ∃ v s', Sy.vl ts long (Sy.sign ts long 44 s1) = (v, s') := ⟨_, _, rfl⟩
  obtain ⟨vb, s3, e3⟩ : ∃ v s', Sy.vl ts long (Sy.sign ts long 44 s2) = (v, s') := ⟨_, _, rfl⟩
  have hA : Sy.ins ts long tx s = (⟨1, Sy.opN tx, d, va, vb, [], 0⟩, s3) := by
    unfold Sy.ins
    simp only [if_neg x0, if_neg x1, if_neg x2, if_neg x3, if_neg x4, if_neg x5, if_neg x6, if_neg x7, if_neg x8, if_neg x9, if_neg x10, e1, e2, e3]
  rw [hA]
  clear hA
  have hro := fun W => rop_any tx W hta
  have HRO := Lib.hid hro
  clear hro
  have q0 : ((strOfNums tx).toList == ([109, 111, 118] : List UInt8)) = false := by
    have hh := str_beq2 hta (ys := [109, 111, 118]) (by decide)
    rw [decide_eq_false x0, Lib.strOfNums_toList, Lib.strOfNums_toList] at hh
    rw [Lib.strOfNums_toList]
    exact hh
  have q1 : ((strOfNums tx).toList == ([108, 111, 97, 100] : List UInt8)) = false := by
    have hh := str_beq2 hta (ys := [108, 111, 97, 100]) (by decide)
    rw [decide_eq_false x1, Lib.strOfNums_toList, Lib.strOfNums_toList] at hh
    rw [Lib.strOfNums_toList]
    exact hh
  have q2 : ((strOfNums tx).toList == ([115, 116, 111, 114, 101] : List UInt8)) = false := by
    have hh := str_beq2 hta (ys := [115, 116, 111, 114, 101]) (by decide)
    rw [decide_eq_false x2, Lib.strOfNums_toList, Lib.strOfNums_toList] at hh
    rw [Lib.strOfNums_toList]
    exact hh
  have q3 : ((strOfNums tx).toList == ([99, 109, 111, 118] : List UInt8)) = false := by
    have hh := str_beq2 hta (ys := [99, 109, 111, 118]) (by decide)
    rw [decide_eq_false x3, Lib.strOfNums_toList, Lib.strOfNums_toList] at hh
    rw [Lib.strOfNums_toList]
    exact hh
  have q4 : ((strOfNums tx).toList == ([98, 114] : List UInt8)) = false := by
    have hh := str_beq2 hta (ys := [98, 114]) (by decide)
    rw [decide_eq_false x4, Lib.strOfNums_toList, Lib.strOfNums_toList] at hh
    rw [Lib.strOfNums_toList]
    exact hh
  have q5 : ((strOfNums tx).toList == ([106, 109, 112] : List UInt8)) = false := by
    have hh := str_beq2 hta (ys := [106, 109, 112]) (by decide)
    rw [decide_eq_false x5, Lib.strOfNums_toList, Lib.strOfNums_toList] at hh
    rw [Lib.strOfNums_toList]
    exact hh
  have q6 : ((strOfNums tx).toList == ([99, 97, 108, 108] : List UInt8)) = false := by
    have hh := str_beq2 hta (ys := [99, 97, 108, 108]) (by decide)
    rw [decide_eq_false x6, Lib.strOfNums_toList, Lib.strOfNums_toList] at hh
    rw [Lib.strOfNums_toList]
    exact hh
  have q7 : ((strOfNums tx).toList == ([105, 110, 100] : List UInt8)) = false := by
    have hh := str_beq2 hta (ys := [105, 110, 100]) (by decide)
    rw [decide_eq_false x7, Lib.strOfNums_toList, Lib.strOfNums_toList] at hh
    rw [Lib.strOfNums_toList]
    exact hh
  have q8 : ((strOfNums tx).toList == ([114, 101, 116] : List UInt8)) = false := by
    have hh := str_beq2 hta (ys := [114, 101, 116]) (by decide)
    rw [decide_eq_false x8, Lib.strOfNums_toList, Lib.strOfNums_toList] at hh
    rw [Lib.strOfNums_toList]
    exact hh
  have q9 : ((strOfNums tx).toList == ([102, 101, 110, 99, 101] : List UInt8)) = false := by
    have hh := str_beq2 hta (ys := [102, 101, 110, 99, 101]) (by decide)
    rw [decide_eq_false x9, Lib.strOfNums_toList, Lib.strOfNums_toList] at hh
    rw [Lib.strOfNums_toList]
    exact hh
  have q10 : ((strOfNums tx).toList == ([104, 97, 108, 116] : List UInt8)) = false := by
    have hh := str_beq2 hta (ys := [104, 97, 108, 116]) (by decide)
    rw [decide_eq_false x10, Lib.strOfNums_toList, Lib.strOfNums_toList] at hh
    rw [Lib.strOfNums_toList]
    exact hh
  clear x0 x1 x2 x3 x4 x5 x6 x7 x8 x9 x10
  go_enter Tryd.func41, Tryd.ntmps41
  go_wp2_with fail
  have m0 := MI.start h #[.int .i64 1, .string (strOfNums tx), .int .i64 n, .int .i64 (p : Int)] (InsC 0 0 0 Sy.v0 Sy.v0 { data := #[] } 0) (InsC 0 0 0 Sy.v0 Sy.v0 { data := #[] } 0) 58
  refine (HRO.out _).mono ?_
  rintro e w1 ⟨rfl, b1⟩
  have m1 := m0.call (m0.ln.up b1) (Fg.of_below b1)
  clear m0
  have z0 := m1.z 0
  have c0 := m1.c 0
  have z1 := m1.z 1
  have c1 := m1.c 1
  simp only [List.getElem?_toArray, List.getElem?_cons_succ, List.getElem?_cons_zero] at c0 c1
  go_wp2_with fail
  replace m1 := ((m1.setCell 0 (.int .i64 1)).setCell 1 (.int .i64 (Sy.opN tx)))
  simp only [List.setIfInBounds_toArray, List.set_cons_zero, List.set_cons_succ] at m1
  clear z0 c0 z1 c1
  generalize World.setCell _ _ _ = w1 at *
  clear b1
  refine (mreg_any _ g gT ts cap long s m1.ln).mono ?_
  rintro e w2 ⟨rfl, h1, f1⟩
  have m2 := m1.call h1 f1
  simp only [e1] at m2 ⊢
  clear m1
  have z2 := m2.z 2
  have c2 := m2.c 2
  simp only [List.getElem?_toArray, List.getElem?_cons_succ, List.getElem?_cons_zero] at c2
  go_wp2_with fail
  replace m2 := (m2.setCell 2 (.int .i64 d))
  simp only [List.setIfInBounds_toArray, List.set_cons_zero, List.set_cons_succ] at m2
  clear z2 c2
  generalize World.setCell _ _ _ = w2 at *
  clear h1 f1
  refine (sign_any _ g gT ts cap long s1 44 (by decide) _ rfl m2.ln).mono ?_
  rintro e w3 ⟨rfl, h1, f1⟩
  have m3 := m2.call h1 f1
  clear m2
  go_wp2_with fail
  replace m3 := m3
  clear h1 f1
  refine (mval_any _ g gT ts cap long _ m3.ln).mono ?_
  rintro e w4 ⟨rfl, h1, f1⟩
  have m4 := m3.call h1 f1
  simp only [e2] at m4 ⊢
  clear m3
  go_wp2_with (first
    | (show wpList _ _ _ (⟨none, .store 25 (.tmp 22) (.tmp 21), _, _, _, none⟩ :: _) _ _; refine wp_storeVat (o := ⟨none, .store 25 (.tmp 22) (.tmp 21), _, _, _, none⟩) rfl _ _ rfl (w.heap.size + 1 + 1) 3 _ _ rfl rfl _ _ m4.irow (by simp) rfl rfl (InsC 1 (Sy.opN tx) d va Sy.v0 { data := #[] } 0) rfl ?_))
  replace m4 := (m4.setRow (InsC 1 (Sy.opN tx) d va Sy.v0 { data := #[] } 0))
  generalize World.setRow _ _ = w4 at *
  clear h1 f1
  refine (sign_any _ g gT ts cap long s2 44 (by decide) _ rfl m4.ln).mono ?_
  rintro e w5 ⟨rfl, h1, f1⟩
  have m5 := m4.call h1 f1
  clear m4
  go_wp2_with fail
  replace m5 := m5
  clear h1 f1
  refine (mval_any _ g gT ts cap long _ m5.ln).mono ?_
  rintro e w6 ⟨rfl, h1, f1⟩
  have m6 := m5.call h1 f1
  simp only [e3] at m6 ⊢
  clear m5
  go_wp2_with (first
    | (show wpList _ _ _ (⟨none, .store 25 (.tmp 27) (.tmp 26), _, _, _, none⟩ :: _) _ _; refine wp_storeVat (o := ⟨none, .store 25 (.tmp 27) (.tmp 26), _, _, _, none⟩) rfl _ _ rfl (w.heap.size + 1 + 1) 5 _ _ rfl rfl _ _ m6.irow (by simp) rfl rfl (InsC 1 (Sy.opN tx) d va vb { data := #[] } 0) rfl ?_)
    | (show wpList _ _ _ (⟨some 137, .load 27 (.tmp 5), _, _, _, none⟩ :: _) _ _; refine wp_loadI (o := ⟨some 137, .load 27 (.tmp 5), _, _, _, none⟩) rfl _ rfl (w.heap.size + 1 + 1) rfl 1 (Sy.opN tx) d va vb { data := #[] } 0 _ _ (m6.setRow (InsC 1 (Sy.opN tx) d va vb { data := #[] } 0)).irow ?_; refine wp_storeI (o := ⟨none, .store 27 (.tmp 4) (.tmp 137), _, _, _, none⟩) rfl _ _ rfl (w.heap.size + 1) 1 (Sy.opN tx) d va vb { data := #[] } 0 rfl rfl _ _ (m6.setRow (InsC 1 (Sy.opN tx) d va vb { data := #[] } 0)).rrow rfl ?_))
  have mz := (m6.setRow (InsC 1 (Sy.opN tx) d va vb { data := #[] } 0)).setRes (InsC 1 (Sy.opN tx) d va vb { data := #[] } 0)
  (try simp only [Exit.inBlock, Exit.then])
  refine bodyPost_ret (resI rfl _ _ _ _ _ _ _ _ _ _ _ _ _ _ rfl mz.rrow) rfl ?_
  exact ⟨rfl, mz.ln, mz.fg⟩
end
section
open Go.RowKit
set_option maxRecDepth 100000 in
set_option maxHeartbeats 4000000 in
theorem mins_br (w : World) (g gT : Nat) (ts : List Lx.Tk) (cap long : Nat) (s : Sy.St) (n : Int) (p : Nat) (h : LnS w g gT ts cap long s) :
    Calls Tryd.prog 41 #[.pointer (some ⟨g, 0, none⟩), TV ⟨1, [98, 114], n, p⟩] w (MethP w g gT ts cap long (InV (Sy.ins ts long [98, 114] s).1) (Sy.ins ts long [98, 114] s).2) := by
  have hta := h.tasc
  obtain ⟨tk, htk⟩ : ∃ tk, Sy.tokAt ts long s.k = tk := ⟨_, rfl⟩
  have hn : ∀ W, LnS W g gT ts cap long s → Calls Tryd.prog 36 #[.pointer (some ⟨g, 0, none⟩)] W (NextP W g gT ts cap long s (Sy.step ts s) (TV tk)) := fun W hW => htk ▸ next_any W g gT ts cap long s hW
  rw [htk] at hta
  obtain ⟨kd, tx, nn, pl⟩ := tk
  simp only at hta
  obtain ⟨s0, hs0⟩ : ∃ s0, (if kd = 1 ∧ Sy.opN tx ≠ 0 then Sy.step ts s else Sy.fail pl (Sy.step ts s)) = s0 := ⟨_, rfl⟩
  obtain ⟨va, s1, e1⟩ : ∃ v s', Sy.vl ts long s0 = (v, s') := ⟨_, _, rfl⟩
  obtain ⟨vb, s2, e2⟩ : ∃ v s', Sy.vl ts long (Sy.sign ts long 44 s1) = (v, s') := ⟨_, _, rfl⟩
  obtain ⟨nm, s3, e3⟩ : ∃ v s', Sy.name ts long (Sy.sign ts long 44 s2) = (v, s') := ⟨_, _, rfl⟩
  have hA : Sy.ins ts long [98, 114] s = (⟨5, Sy.opN tx, 0, va, vb, nm, 0⟩, s3) := by
    unfold Sy.ins
    simp only [htk, hs0, e1, e2, e3]
    (try rfl)
  rw [hA]
  clear hA htk
  have hro := fun W => rop_any tx W hta
  have HRO := Lib.hid hro; have HN := Lib.hid hn
  clear hro hn hta
  generalize Sy.opN tx = on at *
  generalize Sy.step ts s = sp at *
  have hS : strOfNums [98, 114] = { data := #[98, 114] } := rfl
  simp only [hS]
  go_enter Tryd.func41, Tryd.ntmps41
  go_wp2_with fail
  have m0 := MI.start h #[.int .i64 1, .string { data := #[98, 114] }, .int .i64 n, .int .i64 (p : Int)] (InsC 5 0 0 Sy.v0 Sy.v0 { data := #[] } 0) (InsC 0 0 0 Sy.v0 Sy.v0 { data := #[] } 0) 58
  refine (HN.out _ m0.ln).mono ?_
  rintro e w1 ⟨rfl, h1, f1⟩
  have m1 := m0.call h1 f1
  clear m0 h1 f1
  go_wp2_with fail
  refine (HRO.out _).mono ?_
  rintro e w2 ⟨rfl, b2⟩
  have h2 := m1.ln.up (upA (up0 w1) (.cells #[.int .i64 kd, .string (strOfNums tx), .int .i64 nn, .int .i64 (pl : Int)] 58))
  have m2 := (m1.call h2 (Fg.of_below (upA (up0 w1) (.cells #[.int .i64 kd, .string (strOfNums tx), .int .i64 nn, .int .i64 (pl : Int)] 58)))).call (h2.up b2) (Fg.of_below b2)
  have tr := tok_at _ _ _ _ b2
  have e0 := cell_of_row _ _ 0 _ _ _ tr
  have e3' := cell_of_row _ _ 3 _ _ _ tr
  simp only [List.getElem?_toArray, List.getElem?_cons_succ, List.getElem?_cons_zero] at e0 e3'
  have hne : w1.heap.size ≠ w.heap.size + 1 + 1 := by have := (Array.getElem?_eq_some_iff.1 m1.irow).1; omega
  have z1 := m2.z 1
  have c1 := m2.c 1
  simp only [List.getElem?_toArray, List.getElem?_cons_succ, List.getElem?_cons_zero] at c1
  clear tr h2
  by_cases hk : kd = 1
  · subst hk
    by_cases ho : on = 0
    · subst ho
      have hs : Sy.fail pl sp = s0 := by rw [if_neg (fun hh => hh.2 rfl)] at hs0; exact hs0
      subst hs
      go_wp2_with fail
      have m3 := m2.setCell 1 (.int .i64 0)
      simp only [List.setIfInBounds_toArray, List.set_cons_zero, List.set_cons_succ] at m3
      clear z1 c1 m2
      generalize World.setCell _ _ _ = w3 at *
      refine (fail_any _ g gT ts cap long sp pl m3.ln).mono ?_
      rintro e w4 ⟨rfl, h4, f4⟩
      have m0 := m3.call h4 f4
      clear m3 h4 f4
      go_wp2_with fail
      refine (mval_any _ g gT ts cap long _ m0.ln).mono ?_
      rintro e w1 ⟨rfl, h1, f1⟩
      have m1 := m0.call h1 f1
      simp only [e1] at m1 ⊢
      clear m0
      go_wp2_with (first
        | (show wpList _ _ _ (⟨none, .store 25 (.tmp 99) (.tmp 98), _, _, _, none⟩ :: _) _ _; refine wp_storeVat (o := ⟨none, .store 25 (.tmp 99) (.tmp 98), _, _, _, none⟩) rfl _ _ rfl (w.heap.size + 1 + 1) 3 _ _ rfl rfl _ _ m1.irow (by simp) rfl rfl (InsC 5 0 0 va Sy.v0 { data := #[] } 0) rfl ?_))
      replace m1 := (m1.setRow (InsC 5 0 0 va Sy.v0 { data := #[] } 0))
      generalize World.setRow _ _ = w1 at *
      clear h1 f1
      refine (sign_any _ g gT ts cap long s1 44 (by decide) _ rfl m1.ln).mono ?_
      rintro e w2 ⟨rfl, h1, f1⟩
      have m2 := m1.call h1 f1
      clear m1
      go_wp2_with fail
      replace m2 := m2
      clear h1 f1
      refine (mval_any _ g gT ts cap long _ m2.ln).mono ?_
      rintro e w3 ⟨rfl, h1, f1⟩
      have m3 := m2.call h1 f1
      simp only [e2] at m3 ⊢
      clear m2
      go_wp2_with (first
        | (show wpList _ _ _ (⟨none, .store 25 (.tmp 104) (.tmp 103), _, _, _, none⟩ :: _) _ _; refine wp_storeVat (o := ⟨none, .store 25 (.tmp 104) (.tmp 103), _, _, _, none⟩) rfl _ _ rfl (w.heap.size + 1 + 1) 5 _ _ rfl rfl _ _ m3.irow (by simp) rfl rfl (InsC 5 0 0 va vb { data := #[] } 0) rfl ?_))
      replace m3 := (m3.setRow (InsC 5 0 0 va vb { data := #[] } 0))
      generalize World.setRow _ _ = w3 at *
      clear h1 f1
      refine (sign_any _ g gT ts cap long s2 44 (by decide) _ rfl m3.ln).mono ?_
      rintro e w4 ⟨rfl, h1, f1⟩
      have m4 := m3.call h1 f1
      clear m3
      go_wp2_with fail
      replace m4 := m4
      clear h1 f1
      refine (mname_any _ g gT ts cap long _ m4.ln).mono ?_
      rintro e w5 ⟨rfl, h1, f1⟩
      have m5 := m4.call h1 f1
      simp only [e3] at m5 ⊢
      clear m4
      have z7 := m5.z 7
      have c7 := m5.c 7
      simp only [List.getElem?_toArray, List.getElem?_cons_succ, List.getElem?_cons_zero] at c7
      go_wp2_with (first
        | (show wpList _ _ _ (⟨some 137, .load 27 (.tmp 5), _, _, _, none⟩ :: _) _ _; refine wp_loadI (o := ⟨some 137, .load 27 (.tmp 5), _, _, _, none⟩) rfl _ rfl (w.heap.size + 1 + 1) rfl 5 0 0 va vb (strOfNums nm) 0 _ _ (m5.setCell 7 (.string (strOfNums nm))).irow ?_; refine wp_storeI (o := ⟨none, .store 27 (.tmp 4) (.tmp 137), _, _, _, none⟩) rfl _ _ rfl (w.heap.size + 1) 5 0 0 va vb (strOfNums nm) 0 rfl rfl _ _ (m5.setCell 7 (.string (strOfNums nm))).rrow rfl ?_))
      have mz := (m5.setCell 7 (.string (strOfNums nm))).setRes (InsC 5 0 0 va vb (strOfNums nm) 0)
      (try simp only [Exit.inBlock, Exit.then])
      refine bodyPost_ret (resI rfl _ _ _ _ _ _ _ _ _ _ _ _ _ _ rfl mz.rrow) rfl ?_
      exact ⟨rfl, mz.ln, mz.fg⟩
    · have ho2 : (on == 0) = false := by simpa using ho
      have hs : sp = s0 := by rw [if_pos ⟨rfl, ho⟩] at hs0; exact hs0
      subst hs
      go_wp2_with fail
      have m3 := m2.setCell 1 (.int .i64 on)
      simp only [List.setIfInBounds_toArray, List.set_cons_zero, List.set_cons_succ] at m3
      clear z1 c1 m2
      generalize World.setCell _ _ _ = w3 at *
      have m0 := m3
      clear m3
      refine (mval_any _ g gT ts cap long _ m0.ln).mono ?_
      rintro e w1 ⟨rfl, h1, f1⟩
      have m1 := m0.call h1 f1
      simp only [e1] at m1 ⊢
      clear m0
      go_wp2_with (first
        | (show wpList _ _ _ (⟨none, .store 25 (.tmp 99) (.tmp 98), _, _, _, none⟩ :: _) _ _; refine wp_storeVat (o := ⟨none, .store 25 (.tmp 99) (.tmp 98), _, _, _, none⟩) rfl _ _ rfl (w.heap.size + 1 + 1) 3 _ _ rfl rfl _ _ m1.irow (by simp) rfl rfl (InsC 5 on 0 va Sy.v0 { data := #[] } 0) rfl ?_))
      replace m1 := (m1.setRow (InsC 5 on 0 va Sy.v0 { data := #[] } 0))
      generalize World.setRow _ _ = w1 at *
      clear h1 f1
      refine (sign_any _ g gT ts cap long s1 44 (by decide) _ rfl m1.ln).mono ?_
      rintro e w2 ⟨rfl, h1, f1⟩
      have m2 := m1.call h1 f1
      clear m1
      go_wp2_with fail
      replace m2 := m2
      clear h1 f1
      refine (mval_any _ g gT ts cap long _ m2.ln).mono ?_
      rintro e w3 ⟨rfl, h1, f1⟩
      have m3 := m2.call h1 f1
      simp only [e2] at m3 ⊢
      clear m2
      go_wp2_with (first
        | (show wpList _ _ _ (⟨none, .store 25 (.tmp 104) (.tmp 103), _, _, _, none⟩ :: _) _ _; refine wp_storeVat (o := ⟨none, .store 25 (.tmp 104) (.tmp 103), _, _, _, none⟩) rfl _ _ rfl (w.heap.size + 1 + 1) 5 _ _ rfl rfl _ _ m3.irow (by simp) rfl rfl (InsC 5 on 0 va vb { data := #[] } 0) rfl ?_))
      replace m3 := (m3.setRow (InsC 5 on 0 va vb { data := #[] } 0))
      generalize World.setRow _ _ = w3 at *
      clear h1 f1
      refine (sign_any _ g gT ts cap long s2 44 (by decide) _ rfl m3.ln).mono ?_
      rintro e w4 ⟨rfl, h1, f1⟩
      have m4 := m3.call h1 f1
      clear m3
      go_wp2_with fail
      replace m4 := m4
      clear h1 f1
      refine (mname_any _ g gT ts cap long _ m4.ln).mono ?_
      rintro e w5 ⟨rfl, h1, f1⟩
      have m5 := m4.call h1 f1
      simp only [e3] at m5 ⊢
      clear m4
      have z7 := m5.z 7
      have c7 := m5.c 7
      simp only [List.getElem?_toArray, List.getElem?_cons_succ, List.getElem?_cons_zero] at c7
      go_wp2_with (first
        | (show wpList _ _ _ (⟨some 137, .load 27 (.tmp 5), _, _, _, none⟩ :: _) _ _; refine wp_loadI (o := ⟨some 137, .load 27 (.tmp 5), _, _, _, none⟩) rfl _ rfl (w.heap.size + 1 + 1) rfl 5 on 0 va vb (strOfNums nm) 0 _ _ (m5.setCell 7 (.string (strOfNums nm))).irow ?_; refine wp_storeI (o := ⟨none, .store 27 (.tmp 4) (.tmp 137), _, _, _, none⟩) rfl _ _ rfl (w.heap.size + 1) 5 on 0 va vb (strOfNums nm) 0 rfl rfl _ _ (m5.setCell 7 (.string (strOfNums nm))).rrow rfl ?_))
      have mz := (m5.setCell 7 (.string (strOfNums nm))).setRes (InsC 5 on 0 va vb (strOfNums nm) 0)
      (try simp only [Exit.inBlock, Exit.then])
      refine bodyPost_ret (resI rfl _ _ _ _ _ _ _ _ _ _ _ _ _ _ rfl mz.rrow) rfl ?_
      exact ⟨rfl, mz.ln, mz.fg⟩
  · have hk2 : (kd == 1) = false := by simpa using hk
    have hs : Sy.fail pl sp = s0 := by rw [if_neg (fun hh => hk hh.1)] at hs0; exact hs0
    subst hs
    go_wp2_with fail
    have m3 := m2.setCell 1 (.int .i64 on)
    simp only [List.setIfInBounds_toArray, List.set_cons_zero, List.set_cons_succ] at m3
    clear z1 c1 m2
    generalize World.setCell _ _ _ = w3 at *
    refine (fail_any _ g gT ts cap long sp pl m3.ln).mono ?_
    rintro e w4 ⟨rfl, h4, f4⟩
    have m0 := m3.call h4 f4
    clear m3 h4 f4
    go_wp2_with fail
    refine (mval_any _ g gT ts cap long _ m0.ln).mono ?_
    rintro e w1 ⟨rfl, h1, f1⟩
    have m1 := m0.call h1 f1
    simp only [e1] at m1 ⊢
    clear m0
    go_wp2_with (first
      | (show wpList _ _ _ (⟨none, .store 25 (.tmp 99) (.tmp 98), _, _, _, none⟩ :: _) _ _; refine wp_storeVat (o := ⟨none, .store 25 (.tmp 99) (.tmp 98), _, _, _, none⟩) rfl _ _ rfl (w.heap.size + 1 + 1) 3 _ _ rfl rfl _ _ m1.irow (by simp) rfl rfl (InsC 5 on 0 va Sy.v0 { data := #[] } 0) rfl ?_))
    replace m1 := (m1.setRow (InsC 5 on 0 va Sy.v0 { data := #[] } 0))
    generalize World.setRow _ _ = w1 at *
    clear h1 f1
    refine (sign_any _ g gT ts cap long s1 44 (by decide) _ rfl m1.ln).mono ?_
    rintro e w2 ⟨rfl, h1, f1⟩
    have m2 := m1.call h1 f1
    clear m1
    go_wp2_with fail
    replace m2 := m2
    clear h1 f1
    refine (mval_any _ g gT ts cap long _ m2.ln).mono ?_
    rintro e w3 ⟨rfl, h1, f1⟩
    have m3 := m2.call h1 f1
    simp only [e2] at m3 ⊢
    clear m2
    go_wp2_with (first
      | (show wpList _ _ _ (⟨none, .store 25 (.tmp 104) (.tmp 103), _, _, _, none⟩ :: _) _ _; refine wp_storeVat (o := ⟨none, .store 25 (.tmp 104) (.tmp 103), _, _, _, none⟩) rfl _ _ rfl (w.heap.size + 1 + 1) 5 _ _ rfl rfl _ _ m3.irow (by simp) rfl rfl (InsC 5 on 0 va vb { data := #[] } 0) rfl ?_))
    replace m3 := (m3.setRow (InsC 5 on 0 va vb { data := #[] } 0))
    generalize World.setRow _ _ = w3 at *
    clear h1 f1
    refine (sign_any _ g gT ts cap long s2 44 (by decide) _ rfl m3.ln).mono ?_
    rintro e w4 ⟨rfl, h1, f1⟩
    have m4 := m3.call h1 f1
    clear m3
    go_wp2_with fail
    replace m4 := m4
    clear h1 f1
    refine (mname_any _ g gT ts cap long _ m4.ln).mono ?_
    rintro e w5 ⟨rfl, h1, f1⟩
    have m5 := m4.call h1 f1
    simp only [e3] at m5 ⊢
    clear m4
    have z7 := m5.z 7
    have c7 := m5.c 7
    simp only [List.getElem?_toArray, List.getElem?_cons_succ, List.getElem?_cons_zero] at c7
    go_wp2_with (first
      | (show wpList _ _ _ (⟨some 137, .load 27 (.tmp 5), _, _, _, none⟩ :: _) _ _; refine wp_loadI (o := ⟨some 137, .load 27 (.tmp 5), _, _, _, none⟩) rfl _ rfl (w.heap.size + 1 + 1) rfl 5 on 0 va vb (strOfNums nm) 0 _ _ (m5.setCell 7 (.string (strOfNums nm))).irow ?_; refine wp_storeI (o := ⟨none, .store 27 (.tmp 4) (.tmp 137), _, _, _, none⟩) rfl _ _ rfl (w.heap.size + 1) 5 on 0 va vb (strOfNums nm) 0 rfl rfl _ _ (m5.setCell 7 (.string (strOfNums nm))).rrow rfl ?_))
    have mz := (m5.setCell 7 (.string (strOfNums nm))).setRes (InsC 5 on 0 va vb (strOfNums nm) 0)
    (try simp only [Exit.inBlock, Exit.then])
    refine bodyPost_ret (resI rfl _ _ _ _ _ _ _ _ _ _ _ _ _ _ rfl mz.rrow) rfl ?_
    exact ⟨rfl, mz.ln, mz.fg⟩
end
section
open Go.RowKit
theorem mins_any (w : World) (g gT : Nat) (ts : List Lx.Tk) (cap long : Nat) (s : Sy.St) (tx : List Int) (n : Int) (p : Nat) (h : LnS w g gT ts cap long s) (hta : ∀ y ∈ tx, 0 ≤ y ∧ y < 256) :
    Calls Tryd.prog 41 #[.pointer (some ⟨g, 0, none⟩), TV ⟨1, tx, n, p⟩] w (MethP w g gT ts cap long (InV (Sy.ins ts long tx s).1) (Sy.ins ts long tx s).2) := by
  by_cases x0 : tx = [109, 111, 118]
  · subst x0; exact mins_mov w g gT ts cap long s n p h
  by_cases x1 : tx = [108, 111, 97, 100]
  · subst x1; exact mins_load w g gT ts cap long s n p h
  by_cases x2 : tx = [115, 116, 111, 114, 101]
  · subst x2; exact mins_store w g gT ts cap long s n p h
  by_cases x3 : tx = [99, 109, 111, 118]
  · subst x3; exact mins_cmov w g gT ts cap long s n p h
  by_cases x4 : tx = [98, 114]
  · subst x4; exact mins_br w g gT ts cap long s n p h
  by_cases x5 : tx = [106, 109, 112]
  · subst x5; exact mins_jmp w g gT ts cap long s n p h
  by_cases x6 : tx = [99, 97, 108, 108]
  · subst x6; exact mins_call w g gT ts cap long s n p h
  by_cases x7 : tx = [105, 110, 100]
  · subst x7; exact mins_ind w g gT ts cap long s n p h
  by_cases x8 : tx = [114, 101, 116]
  · subst x8; exact mins_ret w g gT ts cap long s n p h
  by_cases x9 : tx = [102, 101, 110, 99, 101]
  · subst x9; exact mins_fence w g gT ts cap long s n p h
  by_cases x10 : tx = [104, 97, 108, 116]
  · subst x10; exact mins_halt w g gT ts cap long s n p h
  exact mins_op w g gT ts cap long s tx n p h hta x0 x1 x2 x3 x4 x5 x6 x7 x8 x9 x10
end
end Go.Proofs.YtcpbbkpfickfiaaDoor
