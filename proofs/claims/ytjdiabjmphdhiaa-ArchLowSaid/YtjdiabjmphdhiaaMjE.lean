/- Merged: A7a, A7b, A7c, Rx25, RetW, Cat, CdMath, Code, RPut, A7d. -/
import Derived.Test.YtjdiabjmphdhiaaMjD
import Derived.Test.YtjdiabjmphdhiaaMjA
import Derived.Outline
import Derived.Test.YtjdiabjmphdhiaaMjB
import Derived.Lib.AppendZeros
import Derived.Deep.QuietTactic
import Derived.Laws.Rows
import Derived.Test.YtjdiabjmphdhiaaRows
import Derived.Lib.Bytes
import Derived.Lib.Bytealg
import Derived.BigQuiet
set_option linter.unusedVariables false
set_option linter.unusedSimpArgs false
set_option maxRecDepth 100000
namespace Go.Proofs.Ytjdiabjmphdhiaa.Px
section
open Go.RowKit Go.Proofs.Ytjdiabjmphdhiaa.Rx
structure Mm where
  nm : ByteArray
  sec : Bool
  n : Nat
instance : Inhabited Mm := ⟨⟨.empty, false, 0⟩⟩
structure Pl where
  reg : Bool
  n : Nat
  sec : Bool
  deriving Inhabited
def mmC (m : Mm) (j : Nat) : AV := [.str m.nm, .bool m.sec, .int .i64 m.n].getD j .junk
def plC (p : Pl) (j : Nat) : AV := [.bool p.reg, .int .i64 p.n, .bool p.sec].getD j .junk
/-- a program's cells: W, Window, Fuel, Regs, and the rows -/
def progL (W r0 r1 r2 r3 : Int) (M : AV) : List AV := [.int .i64 W, .junk, .junk, .int .i64 r0, .int .i64 r1, .int .i64 r2, .int .i64 r3, M, .junk, .junk]
def memR (ms : List Mm) : AV := .row 3 ms.length (rowL mmC ms)
def sumN : List Mm → Nat
  | [] => 0
  | m :: l => m.n + sumN l
def rg (r0 r1 r2 r3 : Int) (i : Nat) : Int := [r0, r1, r2, r3].getD i 0
def regL (r : Nat → Int) : Nat → List Pl
  | 0 => []
  | k + 1 => regL r k ++ (if r k = 0 then [] else [⟨true, k, r k == 2⟩])
def celL (sec : Bool) (at_ k : Nat) : List Pl := (List.range k).map fun i => ⟨false, at_ + i, sec⟩
def memL : Nat → List Mm → List Pl
  | _, [] => []
  | at_, m :: l => celL m.sec at_ m.n ++ memL (at_ + m.n) l
def box0 (e : TypeId) (cs : List AV) : Nat × Blk := (0, ⟨0, false, e, .box cs⟩)
def plB (l : List Pl) : Blk := ⟨0, false, 39, .rows 3 l.length (rowL plC l)⟩
def places (r : Nat → Int) (ms : List Mm) : List Pl := regL r 4 ++ memL 0 ms
theorem sumN_take {ms : List Mm} {k : Nat} (hk : k < ms.length) : sumN (ms.take (k + 1)) = sumN (ms.take k) + (ms.getD k default).n := by
  induction ms generalizing k with
  | nil => simp at hk
  | cons m l ih =>
    cases k with
    | zero => simp [sumN]
    | succ k =>
      have := ih (k := k) (by simpa using hk)
      simp only [List.take_succ_cons, sumN, this, List.getD_cons_succ]
      omega
theorem sumN_take_le (ms : List Mm) (k : Nat) : sumN (ms.take k) ≤ sumN ms := by
  induction ms generalizing k with
  | nil => simp
  | cons m l ih =>
    cases k with
    | zero => simp [sumN]
    | succ k => simp only [List.take_succ_cons, sumN]; have := ih k; omega
theorem celL_succ (sec : Bool) (at_ k : Nat) : celL sec at_ (k + 1) = celL sec at_ k ++ [⟨false, at_ + k, sec⟩] := by simp [celL, List.range_succ]
theorem celL_length (sec : Bool) (at_ k : Nat) : (celL sec at_ k).length = k := by simp [celL]
theorem memL_take {ms : List Mm} {k : Nat} {at_ : Nat} (hk : k < ms.length) : memL at_ (ms.take (k + 1)) = memL at_ (ms.take k) ++ celL (ms.getD k default).sec (at_ + sumN (ms.take k)) (ms.getD k default).n := by
  induction ms generalizing k at_ with
  | nil => simp at hk
  | cons m l ih =>
    cases k with
    | zero => simp [sumN, memL]
    | succ k =>
      have := ih (k := k) (at_ := at_ + m.n) (by simpa using hk)
      simp only [List.take_succ_cons, sumN, memL, this, List.getD_cons_succ, List.append_assoc, Nat.add_assoc]
theorem memL_length (at_ : Nat) (ms : List Mm) : (memL at_ ms).length = sumN ms := by
  induction ms generalizing at_ with
  | nil => rfl
  | cons m l ih => simp only [memL, List.length_append, celL_length, ih, sumN]
theorem regL_zero {r : Nat → Int} {k : Nat} (h : r k = 0) : regL r (k + 1) = regL r k := by
  show regL r k ++ _ = _
  rw [if_pos h, List.append_nil]
theorem regL_pos {r : Nat → Int} {k : Nat} (h : ¬ r k = 0) : regL r (k + 1) = regL r k ++ [⟨true, k, r k == 2⟩] := by
  show regL r k ++ _ = _
  rw [if_neg h]
theorem regL_le (r : Nat → Int) (k : Nat) : (regL r k).length ≤ k := by
  induction k with
  | zero => simp [regL]
  | succ k ih =>
    simp only [regL, List.length_append]
    split <;> simp <;> omega
def f7c (cs : List AV) (s : Nat) (k : Nat) : Sm := ⟨[(1, .bptr 0 0), (4, .int .i64 k), (3, .int .i64 s)], [box0 28 cs], 1⟩
def frA7a0 (W : Int) (r0 : Int) (r1 : Int) (r2 : Int) (r3 : Int) (ms : List Mm) (Z : Prop) : Prop := (W = W) ∧ (r0 = r0) ∧ (r1 = r1) ∧ (r2 = r2) ∧ (r3 = r3) ∧ (List.length ms = List.length ms) ∧ (∀ (i : Nat), i < List.length ms → ∀ (j : Nat), j < (3 : Nat) → rowL mmC ms i j = rowL mmC ms i j) ∧ Z
theorem frA7a0_mk (W : Int) (r0 : Int) (r1 : Int) (r2 : Int) (r3 : Int) (ms : List Mm) {Z : Prop} (z : Z) : frA7a0 W r0 r1 r2 r3 ms Z := ⟨rfl, rfl, rfl, rfl, rfl, rfl, (fun _ _ _ _ => rfl), z⟩
theorem f7c_step (W r0 r1 r2 r3 : Int) (ms : List Mm) (s k : Nat) (hk : k < ms.length) (h64 : ms.length < 4611686018427387904) (hs : s + (ms.getD k default).n < 4611686018427387904) : Vc (vcC Try.prog false (ntOf Try.prog 46) (lpC Try.prog 46 0) (f7c (progL W r0 r1 r2 r3 (memR ms)) s k) [.b true] .nrm [(0, 0)] (f7c (progL W r0 r1 r2 r3 (memR ms)) (s + (ms.getD k default).n) (k + 1))) :=
  vc_of (q := (decide ((↑k : Int) < (↑(List.length ms) : Int)) = true) ∧ ((0 : Int) ≤ (↑k : Int) ∧ (↑k : Int) < (↑(List.length ms) : Int)) ∧ (inK IntKind.i64 ((↑s : Int) + (↑(Mm.n (List.getD ms k Inhabited.default)) : Int))) ∧ (inK IntKind.i64 ((↑k : Int) + (1 : Int))) ∧ (frA7a0 W r0 r1 r2 r3 ms (((↑k : Int) + (1 : Int) = (↑(k + (1 : Nat)) : Int)) ∧ ((↑s : Int) + (↑(Mm.n (List.getD ms k Inhabited.default)) : Int) = (↑(s + Mm.n (List.getD ms k Inhabited.default)) : Int)) ∧ True))) (by kernel_rfl)
    ⟨(decide_eq_true (by first | omega | (simp; omega) | (simp; done))),
 (by first | omega | rfl),
 (in64 (by omega) (by omega)),
 (in64 (by omega) (by omega)), (frA7a0_mk W r0 r1 r2 r3 ms ⟨(by first | omega | rfl),
 (by first | omega | rfl), trivial⟩)⟩
theorem f7c_end (W r0 r1 r2 r3 : Int) (ms : List Mm) (s : Nat) : Vc (vcC Try.prog false (ntOf Try.prog 46) (lpC Try.prog 46 0) (f7c (progL W r0 r1 r2 r3 (memR ms)) s ms.length) [.b false] (.ext 0) [(0, 0)] (f7c (progL W r0 r1 r2 r3 (memR ms)) s ms.length)) :=
  vc_of (q := (decide ((↑(List.length ms) : Int) < (↑(List.length ms) : Int)) = false) ∧ (frA7a0 W r0 r1 r2 r3 ms (((↑(List.length ms) : Int) = (↑(List.length ms) : Int)) ∧ ((↑s : Int) = (↑s : Int)) ∧ True))) (by kernel_rfl)
    ⟨(decide_eq_false (by first | omega | (simp; omega) | (simp; done))), (frA7a0_mk W r0 r1 r2 r3 ms ⟨rfl,
 rfl, trivial⟩)⟩
theorem f7c_loop (W r0 r1 r2 r3 : Int) (ms : List Mm) (h64 : ms.length < 4611686018427387904) (hs : sumN ms < 4611686018427387904) : Ok Try.prog (ntOf Try.prog 46) (.loop (lpC Try.prog 46 0)) (f7c (progL W r0 r1 r2 r3 (memR ms)) 0 0).st (.ext 0) (f7c (progL W r0 r1 r2 r3 (memR ms)) (sumN ms) ms.length).st := by
  have := Ok.loop (P := Try.prog) (nt := ntOf Try.prog 46) (c := lpC Try.prog 46 0) (F := fun k => f7c (progL W r0 r1 r2 r3 (memR ms)) (sumN (ms.take k)) k) (m := ms.length) (x := .ext 0) (J := f7c (progL W r0 r1 r2 r3 (memR ms)) (sumN ms) ms.length) (fun k hk => by
    have h1 := sumN_take hk
    have h2 := sumN_take_le ms (k + 1)
    show Ok _ _ _ _ _ (f7c (progL W r0 r1 r2 r3 (memR ms)) (sumN (ms.take (k + 1))) (k + 1)).st
    rw [h1]
    exact Ok.vc (f7c_step W r0 r1 r2 r3 ms _ k hk h64 (by omega))) (by
    show Ok _ _ _ (f7c (progL W r0 r1 r2 r3 (memR ms)) (sumN (ms.take ms.length)) ms.length).st _ _
    rw [List.take_length]
    exact Ok.vc (f7c_end W r0 r1 r2 r3 ms _)) (by simp)
  simpa [sumN] using this
theorem f7c_vc (W r0 r1 r2 r3 : Int) (ms : List Mm) (h64 : ms.length < 4611686018427387904) (hs : sumN ms < 4611686018427387904) : Vc (vcFn Try.prog false 46 [.agg (progL W r0 r1 r2 r3 (memR ms))] [.lp [(0, 0)] (f7c (progL W r0 r1 r2 r3 (memR ms)) 0 0) (.ext 0) (f7c (progL W r0 r1 r2 r3 (memR ms)) (sumN ms) ms.length)] [] (.int .i64 (sumN ms)) []) :=
  vc_of (q := (frA7a0 W r0 r1 r2 r3 ms (((0 : Int) = (↑(0 : Nat) : Int)) ∧ ((0 : Int) = (↑(0 : Nat) : Int)) ∧ (Ok Try.prog (ntOf Try.prog 46) (.loop (lpC Try.prog 46 0)) (f7c (progL W r0 r1 r2 r3 (memR ms)) 0 0).st (.ext 0) (f7c (progL W r0 r1 r2 r3 (memR ms)) (sumN ms) ms.length).st) ∧ ((↑(sumN ms) : Int) = (↑(sumN ms) : Int)) ∧ True))) (by kernel_rfl)
    (frA7a0_mk W r0 r1 r2 r3 ms ⟨(by first | omega | rfl),
 (by first | omega | rfl),
 f7c_loop W r0 r1 r2 r3 ms h64 hs,
 rfl, trivial⟩)
theorem refCells (W r0 r1 r2 r3 : Int) (ms : List Mm) (h64 : ms.length < 4611686018427387904) (hs : sumN ms < 4611686018427387904) : PureC Try.prog 46 [.agg (progL W r0 r1 r2 r3 (memR ms))] (.int .i64 (sumN ms)) [] := PureC.vc (f7c_vc W r0 r1 r2 r3 ms h64 hs)
def h7 (cs : List AV) (l : List Pl) : List (Nat × Blk) := [box0 28 cs, (1, plB l)]
def own7 (l : List Pl) : AV := .own 1 0 3 0 l.length
def f7r (cs : List AV) (k : Nat) (l : List Pl) : Sm := ⟨[(1, .bptr 0 0), (4, .int .i64 k), (3, own7 l)], h7 cs l, 2⟩
def f7o (cs : List AV) (i a : Nat) (l : List Pl) : Sm := ⟨[(1, .bptr 0 0), (6, .int .i64 i), (5, .int .i64 a), (3, own7 l)], h7 cs l, 2⟩
def f7i (cs : List AV) (i k a : Nat) (l : List Pl) : Sm := ⟨[(1, .bptr 0 0), (6, .int .i64 i), (5, .int .i64 a), (7, .int .i64 k), (3, own7 l)], h7 cs l, 2⟩
def frA7a1 (W : Int) (r0 : Int) (r1 : Int) (r2 : Int) (r3 : Int) (ms : List Mm) (l : List Pl) (Z : Prop) : Prop := (W = W) ∧ (r0 = r0) ∧ (r1 = r1) ∧ (r2 = r2) ∧ (r3 = r3) ∧ (List.length ms = List.length ms) ∧ (∀ (i : Nat), i < List.length ms → ∀ (j : Nat), j < (3 : Nat) → rowL mmC ms i j = rowL mmC ms i j) ∧ (List.length l = List.length l) ∧ (∀ (i : Nat), i < List.length l → ∀ (j : Nat), j < (3 : Nat) → rowL plC l i j = rowL plC l i j) ∧ Z
theorem frA7a1_mk (W : Int) (r0 : Int) (r1 : Int) (r2 : Int) (r3 : Int) (ms : List Mm) (l : List Pl) {Z : Prop} (z : Z) : frA7a1 W r0 r1 r2 r3 ms l Z := ⟨rfl, rfl, rfl, rfl, rfl, rfl, (fun _ _ _ _ => rfl), rfl, (fun _ _ _ _ => rfl), z⟩
theorem f7r_no0 (W r0 r1 r2 r3 : Int) (ms : List Mm) (l : List Pl) (hz : r0 = 0) : Vc (vcC Try.prog false (ntOf Try.prog 11) (lpC Try.prog 11 0) (f7r (progL W r0 r1 r2 r3 (memR ms)) 0 l) [.b true, .b false] .nrm [(0, 0), (1, 1)] (f7r (progL W r0 r1 r2 r3 (memR ms)) 1 l)) :=
  vc_of (q := (decide ((↑(0 : Nat) : Int) < (4 : Int)) = true) ∧ ((r0 != (0 : Int)) = false) ∧ (inK IntKind.i64 ((↑(0 : Nat) : Int) + (1 : Int))) ∧ (frA7a1 W r0 r1 r2 r3 ms l (((↑(0 : Nat) : Int) + (1 : Int) = (↑(1 : Nat) : Int)) ∧ ((0 : Nat) = (0 : Nat)) ∧ (List.length l = List.length l) ∧ True))) (by kernel_rfl)
    ⟨(decide_eq_true (by first | omega | (simp; omega) | (simp; done))),
 (by simp [hz]),
 (in64 (by omega) (by omega)), (frA7a1_mk W r0 r1 r2 r3 ms l ⟨(by first | omega | rfl),
 rfl,
 rfl, trivial⟩)⟩
theorem f7r_yes0 (W r0 r1 r2 r3 : Int) (ms : List Mm) (l : List Pl) (hz : ¬ r0 = 0) (hl : l.length < 1000000) : Vc (vcC Try.prog false (ntOf Try.prog 11) (lpC Try.prog 11 0) (f7r (progL W r0 r1 r2 r3 (memR ms)) 0 l) [.b true, .b true] .nrm [(0, 0), (1, 1)] (f7r (progL W r0 r1 r2 r3 (memR ms)) 1 (l ++ [⟨true, 0, r0 == 2⟩]))) :=
  vc_of (q := (decide ((↑(0 : Nat) : Int) < (4 : Int)) = true) ∧ ((r0 != (0 : Int)) = true) ∧ ((0 : Nat) = (0 : Nat) ∧ List.length l = List.length l ∧ (List.length l + (1 : Nat)) * (24 : Nat) ≤ (140737488355328 : Nat) ∧ List.length l + (1 : Nat) ≤ (140737488355328 : Nat)) ∧ (inK IntKind.i64 ((↑(0 : Nat) : Int) + (1 : Int))) ∧ (frA7a0 W r0 r1 r2 r3 ms ((List.length l + (1 : Nat) = List.length (l ++ [{ reg := true, n := (0 : Nat), sec := r0 == (2 : Int) }])) ∧ (∀ (i : Nat), i < List.length l + (1 : Nat) → ∀ (j : Nat), j < (3 : Nat) → (bif Nat.blt i (List.length l) then rowL plC l i j else List.getD [AV.bool true, AV.int IntKind.i64 (↑(0 : Nat) : Int), AV.bool (r0 == (2 : Int))] ((i - List.length l + (0 : Nat)) * (3 : Nat) + j) AV.junk) = rowL plC (l ++ [{ reg := true, n := (0 : Nat), sec := r0 == (2 : Int) }]) i j) ∧ ((↑(0 : Nat) : Int) + (1 : Int) = (↑(1 : Nat) : Int)) ∧ ((0 : Nat) = (0 : Nat)) ∧ (List.length l + (1 : Nat) = List.length (l ++ [{ reg := true, n := (0 : Nat), sec := r0 == (2 : Int) }])) ∧ True))) (by kernel_rfl)
    ⟨(decide_eq_true (by first | omega | (simp; omega) | (simp; done))),
 (by simp [hz]),
 (by first | omega | rfl),
 (in64 (by omega) (by omega)), (frA7a0_mk W r0 r1 r2 r3 ms ⟨(by first | omega | rfl | (simp; done) | (simp; omega)),
 (fun i hi j hj => row_if (fun h => (rowL_left h).symm) (fun h => by obtain rfl : i = _ := Nat.le_antisymm (Nat.lt_succ_iff.mp hi) (Nat.not_lt.mp h); rw [rowL_last, Nat.sub_self]; match j, hj with | 0, _ => rfl | 1, _ => rfl | 2, _ => rfl)),
 (by first | omega | rfl),
 rfl,
 (by first | omega | rfl | (simp; done) | (simp; omega)), trivial⟩)⟩
theorem f7r_no1 (W r0 r1 r2 r3 : Int) (ms : List Mm) (l : List Pl) (hz : r1 = 0) : Vc (vcC Try.prog false (ntOf Try.prog 11) (lpC Try.prog 11 0) (f7r (progL W r0 r1 r2 r3 (memR ms)) 1 l) [.b true, .b false] .nrm [(0, 0), (1, 1)] (f7r (progL W r0 r1 r2 r3 (memR ms)) 2 l)) :=
  vc_of (q := (decide ((↑(1 : Nat) : Int) < (4 : Int)) = true) ∧ ((r1 != (0 : Int)) = false) ∧ (inK IntKind.i64 ((↑(1 : Nat) : Int) + (1 : Int))) ∧ (frA7a1 W r0 r1 r2 r3 ms l (((↑(1 : Nat) : Int) + (1 : Int) = (↑(2 : Nat) : Int)) ∧ ((0 : Nat) = (0 : Nat)) ∧ (List.length l = List.length l) ∧ True))) (by kernel_rfl)
    ⟨(decide_eq_true (by first | omega | (simp; omega) | (simp; done))),
 (by simp [hz]),
 (in64 (by omega) (by omega)), (frA7a1_mk W r0 r1 r2 r3 ms l ⟨(by first | omega | rfl),
 rfl,
 rfl, trivial⟩)⟩
theorem f7r_yes1 (W r0 r1 r2 r3 : Int) (ms : List Mm) (l : List Pl) (hz : ¬ r1 = 0) (hl : l.length < 1000000) : Vc (vcC Try.prog false (ntOf Try.prog 11) (lpC Try.prog 11 0) (f7r (progL W r0 r1 r2 r3 (memR ms)) 1 l) [.b true, .b true] .nrm [(0, 0), (1, 1)] (f7r (progL W r0 r1 r2 r3 (memR ms)) 2 (l ++ [⟨true, 1, r1 == 2⟩]))) :=
  vc_of (q := (decide ((↑(1 : Nat) : Int) < (4 : Int)) = true) ∧ ((r1 != (0 : Int)) = true) ∧ ((0 : Nat) = (0 : Nat) ∧ List.length l = List.length l ∧ (List.length l + (1 : Nat)) * (24 : Nat) ≤ (140737488355328 : Nat) ∧ List.length l + (1 : Nat) ≤ (140737488355328 : Nat)) ∧ (inK IntKind.i64 ((↑(1 : Nat) : Int) + (1 : Int))) ∧ (frA7a0 W r0 r1 r2 r3 ms ((List.length l + (1 : Nat) = List.length (l ++ [{ reg := true, n := (1 : Nat), sec := r1 == (2 : Int) }])) ∧ (∀ (i : Nat), i < List.length l + (1 : Nat) → ∀ (j : Nat), j < (3 : Nat) → (bif Nat.blt i (List.length l) then rowL plC l i j else List.getD [AV.bool true, AV.int IntKind.i64 (↑(1 : Nat) : Int), AV.bool (r1 == (2 : Int))] ((i - List.length l + (0 : Nat)) * (3 : Nat) + j) AV.junk) = rowL plC (l ++ [{ reg := true, n := (1 : Nat), sec := r1 == (2 : Int) }]) i j) ∧ ((↑(1 : Nat) : Int) + (1 : Int) = (↑(2 : Nat) : Int)) ∧ ((0 : Nat) = (0 : Nat)) ∧ (List.length l + (1 : Nat) = List.length (l ++ [{ reg := true, n := (1 : Nat), sec := r1 == (2 : Int) }])) ∧ True))) (by kernel_rfl)
    ⟨(decide_eq_true (by first | omega | (simp; omega) | (simp; done))),
 (by simp [hz]),
 (by first | omega | rfl),
 (in64 (by omega) (by omega)), (frA7a0_mk W r0 r1 r2 r3 ms ⟨(by first | omega | rfl | (simp; done) | (simp; omega)),
 (fun i hi j hj => row_if (fun h => (rowL_left h).symm) (fun h => by obtain rfl : i = _ := Nat.le_antisymm (Nat.lt_succ_iff.mp hi) (Nat.not_lt.mp h); rw [rowL_last, Nat.sub_self]; match j, hj with | 0, _ => rfl | 1, _ => rfl | 2, _ => rfl)),
 (by first | omega | rfl),
 rfl,
 (by first | omega | rfl | (simp; done) | (simp; omega)), trivial⟩)⟩
theorem f7r_no2 (W r0 r1 r2 r3 : Int) (ms : List Mm) (l : List Pl) (hz : r2 = 0) : Vc (vcC Try.prog false (ntOf Try.prog 11) (lpC Try.prog 11 0) (f7r (progL W r0 r1 r2 r3 (memR ms)) 2 l) [.b true, .b false] .nrm [(0, 0), (1, 1)] (f7r (progL W r0 r1 r2 r3 (memR ms)) 3 l)) :=
  vc_of (q := (decide ((↑(2 : Nat) : Int) < (4 : Int)) = true) ∧ ((r2 != (0 : Int)) = false) ∧ (inK IntKind.i64 ((↑(2 : Nat) : Int) + (1 : Int))) ∧ (frA7a1 W r0 r1 r2 r3 ms l (((↑(2 : Nat) : Int) + (1 : Int) = (↑(3 : Nat) : Int)) ∧ ((0 : Nat) = (0 : Nat)) ∧ (List.length l = List.length l) ∧ True))) (by kernel_rfl)
    ⟨(decide_eq_true (by first | omega | (simp; omega) | (simp; done))),
 (by simp [hz]),
 (in64 (by omega) (by omega)), (frA7a1_mk W r0 r1 r2 r3 ms l ⟨(by first | omega | rfl),
 rfl,
 rfl, trivial⟩)⟩
theorem f7r_yes2 (W r0 r1 r2 r3 : Int) (ms : List Mm) (l : List Pl) (hz : ¬ r2 = 0) (hl : l.length < 1000000) : Vc (vcC Try.prog false (ntOf Try.prog 11) (lpC Try.prog 11 0) (f7r (progL W r0 r1 r2 r3 (memR ms)) 2 l) [.b true, .b true] .nrm [(0, 0), (1, 1)] (f7r (progL W r0 r1 r2 r3 (memR ms)) 3 (l ++ [⟨true, 2, r2 == 2⟩]))) :=
  vc_of (q := (decide ((↑(2 : Nat) : Int) < (4 : Int)) = true) ∧ ((r2 != (0 : Int)) = true) ∧ ((0 : Nat) = (0 : Nat) ∧ List.length l = List.length l ∧ (List.length l + (1 : Nat)) * (24 : Nat) ≤ (140737488355328 : Nat) ∧ List.length l + (1 : Nat) ≤ (140737488355328 : Nat)) ∧ (inK IntKind.i64 ((↑(2 : Nat) : Int) + (1 : Int))) ∧ (frA7a0 W r0 r1 r2 r3 ms ((List.length l + (1 : Nat) = List.length (l ++ [{ reg := true, n := (2 : Nat), sec := r2 == (2 : Int) }])) ∧ (∀ (i : Nat), i < List.length l + (1 : Nat) → ∀ (j : Nat), j < (3 : Nat) → (bif Nat.blt i (List.length l) then rowL plC l i j else List.getD [AV.bool true, AV.int IntKind.i64 (↑(2 : Nat) : Int), AV.bool (r2 == (2 : Int))] ((i - List.length l + (0 : Nat)) * (3 : Nat) + j) AV.junk) = rowL plC (l ++ [{ reg := true, n := (2 : Nat), sec := r2 == (2 : Int) }]) i j) ∧ ((↑(2 : Nat) : Int) + (1 : Int) = (↑(3 : Nat) : Int)) ∧ ((0 : Nat) = (0 : Nat)) ∧ (List.length l + (1 : Nat) = List.length (l ++ [{ reg := true, n := (2 : Nat), sec := r2 == (2 : Int) }])) ∧ True))) (by kernel_rfl)
    ⟨(decide_eq_true (by first | omega | (simp; omega) | (simp; done))),
 (by simp [hz]),
 (by first | omega | rfl),
 (in64 (by omega) (by omega)), (frA7a0_mk W r0 r1 r2 r3 ms ⟨(by first | omega | rfl | (simp; done) | (simp; omega)),
 (fun i hi j hj => row_if (fun h => (rowL_left h).symm) (fun h => by obtain rfl : i = _ := Nat.le_antisymm (Nat.lt_succ_iff.mp hi) (Nat.not_lt.mp h); rw [rowL_last, Nat.sub_self]; match j, hj with | 0, _ => rfl | 1, _ => rfl | 2, _ => rfl)),
 (by first | omega | rfl),
 rfl,
 (by first | omega | rfl | (simp; done) | (simp; omega)), trivial⟩)⟩
theorem f7r_no3 (W r0 r1 r2 r3 : Int) (ms : List Mm) (l : List Pl) (hz : r3 = 0) : Vc (vcC Try.prog false (ntOf Try.prog 11) (lpC Try.prog 11 0) (f7r (progL W r0 r1 r2 r3 (memR ms)) 3 l) [.b true, .b false] .nrm [(0, 0), (1, 1)] (f7r (progL W r0 r1 r2 r3 (memR ms)) 4 l)) :=
  vc_of (q := (decide ((↑(3 : Nat) : Int) < (4 : Int)) = true) ∧ ((r3 != (0 : Int)) = false) ∧ (inK IntKind.i64 ((↑(3 : Nat) : Int) + (1 : Int))) ∧ (frA7a1 W r0 r1 r2 r3 ms l (((↑(3 : Nat) : Int) + (1 : Int) = (↑(4 : Nat) : Int)) ∧ ((0 : Nat) = (0 : Nat)) ∧ (List.length l = List.length l) ∧ True))) (by kernel_rfl)
    ⟨(decide_eq_true (by first | omega | (simp; omega) | (simp; done))),
 (by simp [hz]),
 (in64 (by omega) (by omega)), (frA7a1_mk W r0 r1 r2 r3 ms l ⟨(by first | omega | rfl),
 rfl,
 rfl, trivial⟩)⟩
theorem f7r_yes3 (W r0 r1 r2 r3 : Int) (ms : List Mm) (l : List Pl) (hz : ¬ r3 = 0) (hl : l.length < 1000000) : Vc (vcC Try.prog false (ntOf Try.prog 11) (lpC Try.prog 11 0) (f7r (progL W r0 r1 r2 r3 (memR ms)) 3 l) [.b true, .b true] .nrm [(0, 0), (1, 1)] (f7r (progL W r0 r1 r2 r3 (memR ms)) 4 (l ++ [⟨true, 3, r3 == 2⟩]))) :=
  vc_of (q := (decide ((↑(3 : Nat) : Int) < (4 : Int)) = true) ∧ ((r3 != (0 : Int)) = true) ∧ ((0 : Nat) = (0 : Nat) ∧ List.length l = List.length l ∧ (List.length l + (1 : Nat)) * (24 : Nat) ≤ (140737488355328 : Nat) ∧ List.length l + (1 : Nat) ≤ (140737488355328 : Nat)) ∧ (inK IntKind.i64 ((↑(3 : Nat) : Int) + (1 : Int))) ∧ (frA7a0 W r0 r1 r2 r3 ms ((List.length l + (1 : Nat) = List.length (l ++ [{ reg := true, n := (3 : Nat), sec := r3 == (2 : Int) }])) ∧ (∀ (i : Nat), i < List.length l + (1 : Nat) → ∀ (j : Nat), j < (3 : Nat) → (bif Nat.blt i (List.length l) then rowL plC l i j else List.getD [AV.bool true, AV.int IntKind.i64 (↑(3 : Nat) : Int), AV.bool (r3 == (2 : Int))] ((i - List.length l + (0 : Nat)) * (3 : Nat) + j) AV.junk) = rowL plC (l ++ [{ reg := true, n := (3 : Nat), sec := r3 == (2 : Int) }]) i j) ∧ ((↑(3 : Nat) : Int) + (1 : Int) = (↑(4 : Nat) : Int)) ∧ ((0 : Nat) = (0 : Nat)) ∧ (List.length l + (1 : Nat) = List.length (l ++ [{ reg := true, n := (3 : Nat), sec := r3 == (2 : Int) }])) ∧ True))) (by kernel_rfl)
    ⟨(decide_eq_true (by first | omega | (simp; omega) | (simp; done))),
 (by simp [hz]),
 (by first | omega | rfl),
 (in64 (by omega) (by omega)), (frA7a0_mk W r0 r1 r2 r3 ms ⟨(by first | omega | rfl | (simp; done) | (simp; omega)),
 (fun i hi j hj => row_if (fun h => (rowL_left h).symm) (fun h => by obtain rfl : i = _ := Nat.le_antisymm (Nat.lt_succ_iff.mp hi) (Nat.not_lt.mp h); rw [rowL_last, Nat.sub_self]; match j, hj with | 0, _ => rfl | 1, _ => rfl | 2, _ => rfl)),
 (by first | omega | rfl),
 rfl,
 (by first | omega | rfl | (simp; done) | (simp; omega)), trivial⟩)⟩
theorem f7r_end (W r0 r1 r2 r3 : Int) (ms : List Mm) (l : List Pl) : Vc (vcC Try.prog false (ntOf Try.prog 11) (lpC Try.prog 11 0) (f7r (progL W r0 r1 r2 r3 (memR ms)) 4 l) [] (.ext 0) [(0, 0), (1, 1)] (f7r (progL W r0 r1 r2 r3 (memR ms)) 4 l)) :=
  vc_of (q := (frA7a1 W r0 r1 r2 r3 ms l (((↑(4 : Nat) : Int) = (↑(4 : Nat) : Int)) ∧ ((0 : Nat) = (0 : Nat)) ∧ (List.length l = List.length l) ∧ True))) (by kernel_rfl)
    (frA7a1_mk W r0 r1 r2 r3 ms l ⟨rfl,
 rfl,
 rfl, trivial⟩)
theorem f7r_loop (W r0 r1 r2 r3 : Int) (ms : List Mm) : Ok Try.prog (ntOf Try.prog 11) (.loop (lpC Try.prog 11 0)) (f7r (progL W r0 r1 r2 r3 (memR ms)) 0 []).st (.ext 0) (f7r (progL W r0 r1 r2 r3 (memR ms)) 4 (regL (rg r0 r1 r2 r3) 4)).st :=
  Ok.loop (P := Try.prog) (nt := ntOf Try.prog 11) (c := lpC Try.prog 11 0) (F := fun k => f7r (progL W r0 r1 r2 r3 (memR ms)) k (regL (rg r0 r1 r2 r3) k)) (m := 4) (x := .ext 0) (J := f7r (progL W r0 r1 r2 r3 (memR ms)) 4 (regL (rg r0 r1 r2 r3) 4)) (fun k hk => by
    match k, hk with
    | 0, _ =>
      by_cases hz : r0 = 0
      · have e : regL (rg r0 r1 r2 r3) 1 = regL (rg r0 r1 r2 r3) 0 := regL_zero (k := 0) hz
        show Ok _ _ _ _ _ (f7r _ 1 (regL (rg r0 r1 r2 r3) 1)).st
        rw [e]
        exact Ok.vc (f7r_no0 W r0 r1 r2 r3 ms _ hz)
      · have e : regL (rg r0 r1 r2 r3) 1 = regL (rg r0 r1 r2 r3) 0 ++ [⟨true, 0, r0 == 2⟩] := regL_pos (k := 0) hz
        show Ok _ _ _ _ _ (f7r _ 1 (regL (rg r0 r1 r2 r3) 1)).st
        rw [e]
        exact Ok.vc (f7r_yes0 W r0 r1 r2 r3 ms _ hz (by have := regL_le (rg r0 r1 r2 r3) 0; omega))
    | 1, _ =>
      by_cases hz : r1 = 0
      · have e : regL (rg r0 r1 r2 r3) 2 = regL (rg r0 r1 r2 r3) 1 := regL_zero (k := 1) hz
        show Ok _ _ _ _ _ (f7r _ 2 (regL (rg r0 r1 r2 r3) 2)).st
        rw [e]
        exact Ok.vc (f7r_no1 W r0 r1 r2 r3 ms _ hz)
      · have e : regL (rg r0 r1 r2 r3) 2 = regL (rg r0 r1 r2 r3) 1 ++ [⟨true, 1, r1 == 2⟩] := regL_pos (k := 1) hz
        show Ok _ _ _ _ _ (f7r _ 2 (regL (rg r0 r1 r2 r3) 2)).st
        rw [e]
        exact Ok.vc (f7r_yes1 W r0 r1 r2 r3 ms _ hz (by have := regL_le (rg r0 r1 r2 r3) 1; omega))
    | 2, _ =>
      by_cases hz : r2 = 0
      · have e : regL (rg r0 r1 r2 r3) 3 = regL (rg r0 r1 r2 r3) 2 := regL_zero (k := 2) hz
        show Ok _ _ _ _ _ (f7r _ 3 (regL (rg r0 r1 r2 r3) 3)).st
        rw [e]
        exact Ok.vc (f7r_no2 W r0 r1 r2 r3 ms _ hz)
      · have e : regL (rg r0 r1 r2 r3) 3 = regL (rg r0 r1 r2 r3) 2 ++ [⟨true, 2, r2 == 2⟩] := regL_pos (k := 2) hz
        show Ok _ _ _ _ _ (f7r _ 3 (regL (rg r0 r1 r2 r3) 3)).st
        rw [e]
        exact Ok.vc (f7r_yes2 W r0 r1 r2 r3 ms _ hz (by have := regL_le (rg r0 r1 r2 r3) 2; omega))
    | 3, _ =>
      by_cases hz : r3 = 0
      · have e : regL (rg r0 r1 r2 r3) 4 = regL (rg r0 r1 r2 r3) 3 := regL_zero (k := 3) hz
        show Ok _ _ _ _ _ (f7r _ 4 (regL (rg r0 r1 r2 r3) 4)).st
        rw [e]
        exact Ok.vc (f7r_no3 W r0 r1 r2 r3 ms _ hz)
      · have e : regL (rg r0 r1 r2 r3) 4 = regL (rg r0 r1 r2 r3) 3 ++ [⟨true, 3, r3 == 2⟩] := regL_pos (k := 3) hz
        show Ok _ _ _ _ _ (f7r _ 4 (regL (rg r0 r1 r2 r3) 4)).st
        rw [e]
        exact Ok.vc (f7r_yes3 W r0 r1 r2 r3 ms _ hz (by have := regL_le (rg r0 r1 r2 r3) 3; omega))) (Ok.vc (f7r_end W r0 r1 r2 r3 ms _)) (by simp)
theorem f7i_step (W r0 r1 r2 r3 : Int) (ms : List Mm) (i k a : Nat) (l : List Pl) (h64 : ms.length < 4611686018427387904) (hi : i < ms.length) (hl : l.length < 1000000000000) (ha : a < 4611686018427387904) (hn : k < 4611686018427387904) (hk : k < (ms.getD i default).n) : Vc (vcC Try.prog false (ntOf Try.prog 11) (lpC Try.prog 11 2) (f7i (progL W r0 r1 r2 r3 (memR ms)) i k a l) [.b true] .nrm [(0, 0), (1, 1)] (f7i (progL W r0 r1 r2 r3 (memR ms)) i (k + 1) (a + 1) (l ++ [⟨false, a, (ms.getD i default).sec⟩]))) :=
  vc_of (q := ((0 : Int) ≤ (↑i : Int) ∧ (↑i : Int) < (↑(List.length ms) : Int)) ∧ (decide ((↑k : Int) < (↑(Mm.n (List.getD ms i Inhabited.default)) : Int)) = true) ∧ ((0 : Int) ≤ (↑i : Int) ∧ (↑i : Int) < (↑(List.length ms) : Int)) ∧ ((0 : Nat) = (0 : Nat) ∧ List.length l = List.length l ∧ (List.length l + (1 : Nat)) * (24 : Nat) ≤ (140737488355328 : Nat) ∧ List.length l + (1 : Nat) ≤ (140737488355328 : Nat)) ∧ (inK IntKind.i64 ((↑a : Int) + (1 : Int))) ∧ (inK IntKind.i64 ((↑k : Int) + (1 : Int))) ∧ (frA7a0 W r0 r1 r2 r3 ms ((List.length l + (1 : Nat) = List.length (l ++ [{ reg := false, n := a, sec := Mm.sec (List.getD ms i Inhabited.default) }])) ∧ (∀ (i_1 : Nat), i_1 < List.length l + (1 : Nat) → ∀ (j : Nat), j < (3 : Nat) → (bif Nat.blt i_1 (List.length l) then rowL plC l i_1 j else List.getD [AV.bool false, AV.int IntKind.i64 (↑a : Int), AV.bool (Mm.sec (List.getD ms i Inhabited.default))] ((i_1 - List.length l + (0 : Nat)) * (3 : Nat) + j) AV.junk) = rowL plC (l ++ [{ reg := false, n := a, sec := Mm.sec (List.getD ms i Inhabited.default) }]) i_1 j) ∧ ((↑i : Int) = (↑i : Int)) ∧ ((↑a : Int) + (1 : Int) = (↑(a + (1 : Nat)) : Int)) ∧ ((↑k : Int) + (1 : Int) = (↑(k + (1 : Nat)) : Int)) ∧ ((0 : Nat) = (0 : Nat)) ∧ (List.length l + (1 : Nat) = List.length (l ++ [{ reg := false, n := a, sec := Mm.sec (List.getD ms i Inhabited.default) }])) ∧ True))) (by kernel_rfl)
    ⟨(by first | omega | rfl),
 (decide_eq_true (by first | omega | (simp; omega) | (simp; done))),
 (by first | omega | rfl),
 (by first | omega | rfl),
 (in64 (by omega) (by omega)),
 (in64 (by omega) (by omega)), (frA7a0_mk W r0 r1 r2 r3 ms ⟨(by first | omega | rfl | (simp; done) | (simp; omega)),
 (fun i hi j hj => row_if (fun h => (rowL_left h).symm) (fun h => by obtain rfl : i = _ := Nat.le_antisymm (Nat.lt_succ_iff.mp hi) (Nat.not_lt.mp h); rw [rowL_last, Nat.sub_self]; match j, hj with | 0, _ => rfl | 1, _ => rfl | 2, _ => rfl)),
 rfl,
 (by first | omega | rfl),
 (by first | omega | rfl),
 rfl,
 (by first | omega | rfl | (simp; done) | (simp; omega)), trivial⟩)⟩
theorem f7i_end (W r0 r1 r2 r3 : Int) (ms : List Mm) (i k a : Nat) (l : List Pl) (h64 : ms.length < 4611686018427387904) (hi : i < ms.length) (hl : l.length < 1000000000000) (ha : a < 4611686018427387904) (hn : k < 4611686018427387904) (hk : k = (ms.getD i default).n) : Vc (vcC Try.prog false (ntOf Try.prog 11) (lpC Try.prog 11 2) (f7i (progL W r0 r1 r2 r3 (memR ms)) i k a l) [.b false] (.ext 4) [(0, 0), (1, 1)] (f7i (progL W r0 r1 r2 r3 (memR ms)) i k a l)) :=
  vc_of (q := ((0 : Int) ≤ (↑i : Int) ∧ (↑i : Int) < (↑(List.length ms) : Int)) ∧ (decide ((↑k : Int) < (↑(Mm.n (List.getD ms i Inhabited.default)) : Int)) = false) ∧ (frA7a1 W r0 r1 r2 r3 ms l (((↑i : Int) = (↑i : Int)) ∧ ((↑a : Int) = (↑a : Int)) ∧ ((↑k : Int) = (↑k : Int)) ∧ ((0 : Nat) = (0 : Nat)) ∧ (List.length l = List.length l) ∧ True))) (by kernel_rfl)
    ⟨(by first | omega | rfl),
 (decide_eq_false (by first | omega | (simp; omega) | (simp; done))), (frA7a1_mk W r0 r1 r2 r3 ms l ⟨rfl,
 rfl,
 rfl,
 rfl,
 rfl, trivial⟩)⟩
theorem f7i_loop (W r0 r1 r2 r3 : Int) (ms : List Mm) (i a : Nat) (l : List Pl) (h64 : ms.length < 4611686018427387904) (hi : i < ms.length) (hb : l.length + (ms.getD i default).n < 1000000000000) (ha : a + (ms.getD i default).n < 4611686018427387904) : Ok Try.prog (ntOf Try.prog 11) (.loop (lpC Try.prog 11 2)) (f7i (progL W r0 r1 r2 r3 (memR ms)) i 0 a l).st (.ext 4) (f7i (progL W r0 r1 r2 r3 (memR ms)) i (ms.getD i default).n (a + (ms.getD i default).n) (l ++ celL (ms.getD i default).sec a (ms.getD i default).n)).st := by
  have := Ok.loop (P := Try.prog) (nt := ntOf Try.prog 11) (c := lpC Try.prog 11 2) (F := fun k => f7i (progL W r0 r1 r2 r3 (memR ms)) i k (a + k) (l ++ celL (ms.getD i default).sec a k)) (m := (ms.getD i default).n) (x := .ext 4) (J := f7i (progL W r0 r1 r2 r3 (memR ms)) i (ms.getD i default).n (a + (ms.getD i default).n) (l ++ celL (ms.getD i default).sec a (ms.getD i default).n)) (fun k hk => by
    show Ok _ _ _ _ _ (f7i _ i (k + 1) (a + (k + 1)) (l ++ celL (ms.getD i default).sec a (k + 1))).st
    rw [celL_succ, ← List.append_assoc]
    exact Ok.vc (f7i_step W r0 r1 r2 r3 ms i k (a + k) _ h64 hi (by simp only [List.length_append, celL_length]; omega) (by omega) (by omega) hk))
    (Ok.vc (f7i_end W r0 r1 r2 r3 ms i _ _ _ h64 hi (by simp only [List.length_append, celL_length]; omega) (by omega) (by omega) rfl)) (by simp)
  simpa [celL] using this
theorem f7o_step (W r0 r1 r2 r3 : Int) (ms : List Mm) (i a : Nat) (l : List Pl) (h64 : ms.length < 4611686018427387904) (hi : i < ms.length) (hb : l.length + (ms.getD i default).n < 1000000000000) (ha : a + (ms.getD i default).n < 4611686018427387904) : Vc (vcC Try.prog false (ntOf Try.prog 11) (lpC Try.prog 11 1) (f7o (progL W r0 r1 r2 r3 (memR ms)) i a l) [.b true, .lp [(0, 0), (1, 1)] (f7i (progL W r0 r1 r2 r3 (memR ms)) i 0 a l) (.ext 4) (f7i (progL W r0 r1 r2 r3 (memR ms)) i (ms.getD i default).n (a + (ms.getD i default).n) (l ++ celL (ms.getD i default).sec a (ms.getD i default).n))] .nrm [(0, 0), (1, 1)] (f7o (progL W r0 r1 r2 r3 (memR ms)) (i + 1) (a + (ms.getD i default).n) (l ++ celL (ms.getD i default).sec a (ms.getD i default).n))) :=
  vc_of (q := (decide ((↑i : Int) < (↑(List.length ms) : Int)) = true) ∧ (frA7a1 W r0 r1 r2 r3 ms l (((↑i : Int) = (↑i : Int)) ∧ ((↑a : Int) = (↑a : Int)) ∧ ((0 : Int) = (↑(0 : Nat) : Int)) ∧ ((0 : Nat) = (0 : Nat)) ∧ (List.length l = List.length l) ∧ (Ok Try.prog (ntOf Try.prog 11) (.loop (lpC Try.prog 11 2)) (f7i (progL W r0 r1 r2 r3 (memR ms)) i 0 a l).st (.ext 4) (f7i (progL W r0 r1 r2 r3 (memR ms)) i (ms.getD i default).n (a + (ms.getD i default).n) (l ++ celL (ms.getD i default).sec a (ms.getD i default).n)).st) ∧ (inK IntKind.i64 ((↑i : Int) + (1 : Int))) ∧ (frA7a0 W r0 r1 r2 r3 ms ((List.length (l ++ celL (Mm.sec (List.getD ms i Inhabited.default)) a (Mm.n (List.getD ms i Inhabited.default))) = List.length (l ++ celL (Mm.sec (List.getD ms i Inhabited.default)) a (Mm.n (List.getD ms i Inhabited.default)))) ∧ (∀ (i_1 : Nat), i_1 < List.length (l ++ celL (Mm.sec (List.getD ms i Inhabited.default)) a (Mm.n (List.getD ms i Inhabited.default))) → ∀ (j : Nat), j < (3 : Nat) → rowL plC (l ++ celL (Mm.sec (List.getD ms i Inhabited.default)) a (Mm.n (List.getD ms i Inhabited.default))) i_1 j = rowL plC (l ++ celL (Mm.sec (List.getD ms i Inhabited.default)) a (Mm.n (List.getD ms i Inhabited.default))) i_1 j) ∧ ((↑i : Int) + (1 : Int) = (↑(i + (1 : Nat)) : Int)) ∧ ((↑(a + Mm.n (List.getD ms i Inhabited.default)) : Int) = (↑(a + Mm.n (List.getD ms i Inhabited.default)) : Int)) ∧ ((0 : Nat) = (0 : Nat)) ∧ (List.length (l ++ celL (Mm.sec (List.getD ms i Inhabited.default)) a (Mm.n (List.getD ms i Inhabited.default))) = List.length (l ++ celL (Mm.sec (List.getD ms i Inhabited.default)) a (Mm.n (List.getD ms i Inhabited.default)))) ∧ True))))) (by kernel_rfl)
    ⟨(decide_eq_true (by first | omega | (simp; omega) | (simp; done))), (frA7a1_mk W r0 r1 r2 r3 ms l ⟨rfl,
 rfl,
 (by first | omega | rfl),
 rfl,
 rfl,
 f7i_loop W r0 r1 r2 r3 ms i a l h64 hi hb ha,
 (in64 (by omega) (by omega)), (frA7a0_mk W r0 r1 r2 r3 ms ⟨rfl,
 (fun _ _ _ _ => rfl),
 (by first | omega | rfl),
 rfl,
 rfl,
 rfl, trivial⟩)⟩)⟩
theorem f7o_end (W r0 r1 r2 r3 : Int) (ms : List Mm) (a : Nat) (l : List Pl) : Vc (vcC Try.prog false (ntOf Try.prog 11) (lpC Try.prog 11 1) (f7o (progL W r0 r1 r2 r3 (memR ms)) ms.length a l) [.b false] (.ext 2) [(0, 0), (1, 1)] (f7o (progL W r0 r1 r2 r3 (memR ms)) ms.length a l)) :=
  vc_of (q := (decide ((↑(List.length ms) : Int) < (↑(List.length ms) : Int)) = false) ∧ (frA7a1 W r0 r1 r2 r3 ms l (((↑(List.length ms) : Int) = (↑(List.length ms) : Int)) ∧ ((↑a : Int) = (↑a : Int)) ∧ ((0 : Nat) = (0 : Nat)) ∧ (List.length l = List.length l) ∧ True))) (by kernel_rfl)
    ⟨(decide_eq_false (by first | omega | (simp; omega) | (simp; done))), (frA7a1_mk W r0 r1 r2 r3 ms l ⟨rfl,
 rfl,
 rfl,
 rfl, trivial⟩)⟩
theorem f7o_loop (W r0 r1 r2 r3 : Int) (ms : List Mm) (l : List Pl) (h64 : ms.length < 4611686018427387904) (hb : l.length + sumN ms < 1000000000000) : Ok Try.prog (ntOf Try.prog 11) (.loop (lpC Try.prog 11 1)) (f7o (progL W r0 r1 r2 r3 (memR ms)) 0 0 l).st (.ext 2) (f7o (progL W r0 r1 r2 r3 (memR ms)) ms.length (sumN ms) (l ++ memL 0 ms)).st := by
  have := Ok.loop (P := Try.prog) (nt := ntOf Try.prog 11) (c := lpC Try.prog 11 1) (F := fun k => f7o (progL W r0 r1 r2 r3 (memR ms)) k (sumN (ms.take k)) (l ++ memL 0 (ms.take k))) (m := ms.length) (x := .ext 2) (J := f7o (progL W r0 r1 r2 r3 (memR ms)) ms.length (sumN ms) (l ++ memL 0 ms)) (fun k hk => by
    have h1 := sumN_take hk
    have h2 := sumN_take_le ms (k + 1)
    show Ok _ _ _ _ _ (f7o _ (k + 1) (sumN (ms.take (k + 1))) (l ++ memL 0 (ms.take (k + 1)))).st
    rw [memL_take hk, Nat.zero_add, ← List.append_assoc, h1]
    exact Ok.vc (f7o_step W r0 r1 r2 r3 ms k _ _ h64 hk (by simp only [List.length_append, memL_length]; omega) (by omega)))
    (by
      show Ok _ _ _ (f7o _ ms.length (sumN (ms.take ms.length)) (l ++ memL 0 (ms.take ms.length))).st _ _
      rw [List.take_length]
      exact Ok.vc (f7o_end W r0 r1 r2 r3 ms _ _)) (by simp)
  simpa [sumN, memL] using this
theorem f7p_vc (W r0 r1 r2 r3 : Int) (ms : List Mm) (h64 : ms.length < 4611686018427387904) (hb : sumN ms < 100000000000) : Vc (vcFn Try.prog false 11 [.agg (progL W r0 r1 r2 r3 (memR ms))] [.lp [(0, 0)] (f7r (progL W r0 r1 r2 r3 (memR ms)) 0 []) (.ext 0) (f7r (progL W r0 r1 r2 r3 (memR ms)) 4 (regL (rg r0 r1 r2 r3) 4)), .lp [(0, 0), (1, 1)] (f7o (progL W r0 r1 r2 r3 (memR ms)) 0 0 (regL (rg r0 r1 r2 r3) 4)) (.ext 2) (f7o (progL W r0 r1 r2 r3 (memR ms)) ms.length (sumN ms) ((regL (rg r0 r1 r2 r3) 4) ++ memL 0 ms))] [(0, 1)] (.own 0 0 3 0 (places (rg r0 r1 r2 r3) ms).length) [plB (places (rg r0 r1 r2 r3) ms)]) :=
  vc_of (q := (W = W) ∧ (r0 = r0) ∧ (r1 = r1) ∧ (r2 = r2) ∧ (r3 = r3) ∧ (List.length ms = List.length ms) ∧ (∀ (i : Nat), i < List.length ms → ∀ (j : Nat), j < (3 : Nat) → rowL mmC ms i j = rowL mmC ms i j) ∧ ((0 : Nat) = (0 : Nat)) ∧ ((0 : Int) = (↑(0 : Nat) : Int)) ∧ ((0 : Nat) = (0 : Nat)) ∧ ((0 : Nat) = (0 : Nat)) ∧ (Ok Try.prog (ntOf Try.prog 11) (.loop (lpC Try.prog 11 0)) (f7r (progL W r0 r1 r2 r3 (memR ms)) 0 []).st (.ext 0) (f7r (progL W r0 r1 r2 r3 (memR ms)) 4 (regL (rg r0 r1 r2 r3) 4)).st) ∧ (frA7a0 W r0 r1 r2 r3 ms ((List.length (regL (rg r0 r1 r2 r3) (4 : Nat)) = List.length (regL (rg r0 r1 r2 r3) (4 : Nat))) ∧ (∀ (i : Nat), i < List.length (regL (rg r0 r1 r2 r3) (4 : Nat)) → ∀ (j : Nat), j < (3 : Nat) → rowL plC (regL (rg r0 r1 r2 r3) (4 : Nat)) i j = rowL plC (regL (rg r0 r1 r2 r3) (4 : Nat)) i j) ∧ ((0 : Int) = (↑(0 : Nat) : Int)) ∧ ((0 : Int) = (↑(0 : Nat) : Int)) ∧ ((0 : Nat) = (0 : Nat)) ∧ (List.length (regL (rg r0 r1 r2 r3) (4 : Nat)) = List.length (regL (rg r0 r1 r2 r3) (4 : Nat))) ∧ (Ok Try.prog (ntOf Try.prog 11) (.loop (lpC Try.prog 11 1)) (f7o (progL W r0 r1 r2 r3 (memR ms)) 0 0 (regL (rg r0 r1 r2 r3) 4)).st (.ext 2) (f7o (progL W r0 r1 r2 r3 (memR ms)) ms.length (sumN ms) ((regL (rg r0 r1 r2 r3) 4) ++ memL 0 ms)).st) ∧ (List.length (regL (rg r0 r1 r2 r3) (4 : Nat) ++ memL (0 : Nat) ms) = List.length (places (rg r0 r1 r2 r3) ms)) ∧ (∀ (i : Nat), i < List.length (regL (rg r0 r1 r2 r3) (4 : Nat) ++ memL (0 : Nat) ms) → ∀ (j : Nat), j < (3 : Nat) → rowL plC (regL (rg r0 r1 r2 r3) (4 : Nat) ++ memL (0 : Nat) ms) i j = rowL plC (places (rg r0 r1 r2 r3) ms) i j) ∧ ((0 : Nat) = (0 : Nat)) ∧ (List.length (regL (rg r0 r1 r2 r3) (4 : Nat) ++ memL (0 : Nat) ms) = List.length (places (rg r0 r1 r2 r3) ms)) ∧ True))) (by kernel_rfl)
    ⟨rfl,
 rfl,
 rfl,
 rfl,
 rfl,
 rfl,
 (fun _ _ _ _ => rfl),
 rfl,
 (by first | omega | rfl),
 rfl,
 rfl,
 f7r_loop W r0 r1 r2 r3 ms, (frA7a0_mk W r0 r1 r2 r3 ms ⟨rfl,
 (fun _ _ _ _ => rfl),
 (by first | omega | rfl),
 (by first | omega | rfl),
 rfl,
 rfl,
 f7o_loop W r0 r1 r2 r3 ms _ h64 (by have := regL_le (rg r0 r1 r2 r3) 4; omega),
 (by first | omega | rfl | (simp; done) | (simp; omega)),
 (fun _ _ _ _ => rfl),
 rfl,
 (by first | omega | rfl | (simp; done) | (simp; omega)), trivial⟩)⟩
theorem refPlaces (W r0 r1 r2 r3 : Int) (ms : List Mm) (h64 : ms.length < 4611686018427387904) (hb : sumN ms < 100000000000) : PureC Try.prog 11 [.agg (progL W r0 r1 r2 r3 (memR ms))] (.own 0 0 3 0 (places (rg r0 r1 r2 r3) ms).length) [plB (places (rg r0 r1 r2 r3) ms)] := PureC.vc (f7p_vc W r0 r1 r2 r3 ms h64 hb)
end
end Go.Proofs.Ytjdiabjmphdhiaa.Px
namespace Go.Proofs.Ytjdiabjmphdhiaa.Px
section
open Go.RowKit Go.Proofs.Ytjdiabjmphdhiaa.Rx
def ac (ms : List Mm) (s : Nat) (k : Nat) : Sm := ⟨[(8, .int .i64 ms.length), (7, memR ms), (9, .int .i64 k), (3, .int .i64 s)], [], 0⟩
theorem ac_step (ms : List Mm) (s k : Nat) (hk : k < ms.length) (h64 : ms.length < 4611686018427387904) (hs : s + (ms.getD k default).n ≤ 16) : Vc (vcC Try.prog false (ntOf Try.prog 30) (lpC Try.prog 30 0) (ac ms s k) [.b true] .nrm [] (ac ms (s + (ms.getD k default).n) (k + 1))) :=
  vc_of (q := (decide ((↑k : Int) < (↑(List.length ms) : Int)) = true) ∧ ((0 : Int) ≤ (↑k : Int) ∧ (↑k : Int) < (↑(List.length ms) : Int)) ∧ (inK IntKind.i64 ((16 : Int) - (↑s : Int))) ∧ (inK IntKind.i64 ((↑s : Int) + if (16 : Int) - (↑s : Int) < if (↑(Mm.n (List.getD ms k Inhabited.default)) : Int) < (0 : Int) then (0 : Int) else (↑(Mm.n (List.getD ms k Inhabited.default)) : Int) then (16 : Int) - (↑s : Int) else if (↑(Mm.n (List.getD ms k Inhabited.default)) : Int) < (0 : Int) then (0 : Int) else (↑(Mm.n (List.getD ms k Inhabited.default)) : Int))) ∧ (inK IntKind.i64 ((↑k : Int) + (1 : Int))) ∧ ((↑(List.length ms) : Int) = (↑(List.length ms) : Int)) ∧ (List.length ms = List.length ms) ∧ (∀ (i : Nat), i < List.length ms → ∀ (j : Nat), j < (3 : Nat) → rowL mmC ms i j = rowL mmC ms i j) ∧ ((↑k : Int) + (1 : Int) = (↑(k + (1 : Nat)) : Int)) ∧ (((↑s : Int) + if (16 : Int) - (↑s : Int) < if (↑(Mm.n (List.getD ms k Inhabited.default)) : Int) < (0 : Int) then (0 : Int) else (↑(Mm.n (List.getD ms k Inhabited.default)) : Int) then (16 : Int) - (↑s : Int) else if (↑(Mm.n (List.getD ms k Inhabited.default)) : Int) < (0 : Int) then (0 : Int) else (↑(Mm.n (List.getD ms k Inhabited.default)) : Int)) = (↑(s + Mm.n (List.getD ms k Inhabited.default)) : Int)) ∧ True) (by kernel_rfl)
    ⟨(decide_eq_true (by first | omega | (simp; omega) | (simp; done))),
 (by first | omega | rfl),
 (in64 (by omega) (by omega)),
 (in64 (by omega) (by omega)),
 (in64 (by omega) (by omega)),
 rfl,
 rfl,
 (fun _ _ _ _ => rfl),
 (by first | omega | rfl),
 (by first | omega | rfl | (simp; done) | (simp; omega)), trivial⟩
theorem ac_end (ms : List Mm) (s : Nat) : Vc (vcC Try.prog false (ntOf Try.prog 30) (lpC Try.prog 30 0) (ac ms s ms.length) [.b false] (.ext 0) [] (ac ms s ms.length)) :=
  vc_of (q := (decide ((↑(List.length ms) : Int) < (↑(List.length ms) : Int)) = false) ∧ ((↑(List.length ms) : Int) = (↑(List.length ms) : Int)) ∧ (List.length ms = List.length ms) ∧ (∀ (i : Nat), i < List.length ms → ∀ (j : Nat), j < (3 : Nat) → rowL mmC ms i j = rowL mmC ms i j) ∧ ((↑(List.length ms) : Int) = (↑(List.length ms) : Int)) ∧ ((↑s : Int) = (↑s : Int)) ∧ True) (by kernel_rfl)
    ⟨(decide_eq_false (by first | omega | (simp; omega) | (simp; done))),
 rfl,
 rfl,
 (fun _ _ _ _ => rfl),
 rfl,
 rfl, trivial⟩
theorem ac_loop (ms : List Mm) (h64 : ms.length < 4611686018427387904) (hs : sumN ms ≤ 16) : Ok Try.prog (ntOf Try.prog 30) (.loop (lpC Try.prog 30 0)) (ac ms 0 0).st (.ext 0) (ac ms (sumN ms) ms.length).st := by
  have := Ok.loop (P := Try.prog) (nt := ntOf Try.prog 30) (c := lpC Try.prog 30 0) (F := fun k => ac ms (sumN (ms.take k)) k) (m := ms.length) (x := .ext 0) (J := ac ms (sumN ms) ms.length) (fun k hk => by
    have h1 := sumN_take hk
    have h2 := sumN_take_le ms (k + 1)
    show Ok _ _ _ _ _ (ac ms (sumN (ms.take (k + 1))) (k + 1)).st
    rw [h1]
    exact Ok.vc (ac_step ms _ k hk h64 (by omega))) (by
    show Ok _ _ _ (ac ms (sumN (ms.take ms.length)) ms.length).st _ _
    rw [List.take_length]
    exact Ok.vc (ac_end ms _)) (by simp)
  simpa [sumN] using this
theorem acc_vc (W r0 r1 r2 r3 : Int) (ms : List Mm) (h64 : ms.length < 4611686018427387904) (hs : sumN ms ≤ 16) : Vc (vcFn Try.prog false 30 [.agg (progL W r0 r1 r2 r3 (memR ms))] [.lp [] (ac ms 0 0) (.ext 0) (ac ms (sumN ms) ms.length)] [] (.int .i64 (sumN ms)) []) :=
  vc_of (q := ((↑(List.length ms) : Int) = (↑(List.length ms) : Int)) ∧ (List.length ms = List.length ms) ∧ (∀ (i : Nat), i < List.length ms → ∀ (j : Nat), j < (3 : Nat) → rowL mmC ms i j = rowL mmC ms i j) ∧ ((0 : Int) = (↑(0 : Nat) : Int)) ∧ ((0 : Int) = (↑(0 : Nat) : Int)) ∧ (Ok Try.prog (ntOf Try.prog 30) (.loop (lpC Try.prog 30 0)) (ac ms 0 0).st (.ext 0) (ac ms (sumN ms) ms.length).st) ∧ ((↑(sumN ms) : Int) = (↑(sumN ms) : Int)) ∧ True) (by kernel_rfl)
    ⟨rfl,
 rfl,
 (fun _ _ _ _ => rfl),
 (by first | omega | rfl),
 (by first | omega | rfl),
 ac_loop ms h64 hs,
 rfl, trivial⟩
theorem archCells (W r0 r1 r2 r3 : Int) (ms : List Mm) (h64 : ms.length < 4611686018427387904) (hs : sumN ms ≤ 16) : PureC Try.prog 30 [.agg (progL W r0 r1 r2 r3 (memR ms))] (.int .i64 (sumN ms)) [] := PureC.vc (acc_vc W r0 r1 r2 r3 ms h64 hs)
def ar (r0 r1 r2 r3 : Int) (k : Nat) (l : List Pl) : Sm := ⟨[(7, .agg [.int .i64 r0, .int .i64 r1, .int .i64 r2, .int .i64 r3]), (8, .int .i64 k), (3, .own 0 0 3 0 l.length)], [(0, plB l)], 1⟩
def frA7b0 (r0 : Int) (r1 : Int) (r2 : Int) (r3 : Int) (l : List Pl) (Z : Prop) : Prop := (List.length l = List.length l) ∧ (∀ (i : Nat), i < List.length l → ∀ (j : Nat), j < (3 : Nat) → rowL plC l i j = rowL plC l i j) ∧ (r0 = r0) ∧ (r1 = r1) ∧ (r2 = r2) ∧ (r3 = r3) ∧ Z
theorem frA7b0_mk (r0 : Int) (r1 : Int) (r2 : Int) (r3 : Int) (l : List Pl) {Z : Prop} (z : Z) : frA7b0 r0 r1 r2 r3 l Z := ⟨rfl, (fun _ _ _ _ => rfl), rfl, rfl, rfl, rfl, z⟩
theorem ar_no0 (r0 r1 r2 r3 : Int) (l : List Pl) (hz : r0 = 0) : Vc (vcC Try.prog false (ntOf Try.prog 50) (lpC Try.prog 50 0) (ar r0 r1 r2 r3 0 l) [.b true, .b false] .nrm [(0, 0)] (ar r0 r1 r2 r3 1 l)) :=
  vc_of (q := (decide ((↑(0 : Nat) : Int) < (4 : Int)) = true) ∧ ((r0 != (0 : Int)) = false) ∧ (inK IntKind.i64 ((↑(0 : Nat) : Int) + (1 : Int))) ∧ (frA7b0 r0 r1 r2 r3 l (((↑(0 : Nat) : Int) + (1 : Int) = (↑(1 : Nat) : Int)) ∧ ((0 : Nat) = (0 : Nat)) ∧ (List.length l = List.length l) ∧ True))) (by kernel_rfl)
    ⟨(decide_eq_true (by first | omega | (simp; omega) | (simp; done))),
 (by simp [hz]),
 (in64 (by omega) (by omega)), (frA7b0_mk r0 r1 r2 r3 l ⟨(by first | omega | rfl),
 rfl,
 rfl, trivial⟩)⟩
def frA7b1 (r0 : Int) (r1 : Int) (r2 : Int) (r3 : Int) (Z : Prop) : Prop := (r0 = r0) ∧ (r1 = r1) ∧ (r2 = r2) ∧ (r3 = r3) ∧ Z
theorem frA7b1_mk (r0 : Int) (r1 : Int) (r2 : Int) (r3 : Int) {Z : Prop} (z : Z) : frA7b1 r0 r1 r2 r3 Z := ⟨rfl, rfl, rfl, rfl, z⟩
theorem ar_yes0 (r0 r1 r2 r3 : Int) (l : List Pl) (hz : ¬ r0 = 0) (hl : l.length < 1000000) : Vc (vcC Try.prog false (ntOf Try.prog 50) (lpC Try.prog 50 0) (ar r0 r1 r2 r3 0 l) [.b true, .b true] .nrm [(0, 0)] (ar r0 r1 r2 r3 1 (l ++ [⟨true, 0, r0 == 2⟩]))) :=
  vc_of (q := (decide ((↑(0 : Nat) : Int) < (4 : Int)) = true) ∧ ((r0 != (0 : Int)) = true) ∧ ((0 : Nat) = (0 : Nat) ∧ List.length l = List.length l ∧ (List.length l + (1 : Nat)) * (24 : Nat) ≤ (140737488355328 : Nat) ∧ List.length l + (1 : Nat) ≤ (140737488355328 : Nat)) ∧ (inK IntKind.i64 ((↑(0 : Nat) : Int) + (1 : Int))) ∧ (List.length l + (1 : Nat) = List.length (l ++ [{ reg := true, n := (0 : Nat), sec := r0 == (2 : Int) }])) ∧ (∀ (i : Nat), i < List.length l + (1 : Nat) → ∀ (j : Nat), j < (3 : Nat) → (bif Nat.blt i (List.length l) then rowL plC l i j else List.getD [AV.bool true, AV.int IntKind.i64 (↑(0 : Nat) : Int), AV.bool (r0 == (2 : Int))] ((i - List.length l + (0 : Nat)) * (3 : Nat) + j) AV.junk) = rowL plC (l ++ [{ reg := true, n := (0 : Nat), sec := r0 == (2 : Int) }]) i j) ∧ (frA7b1 r0 r1 r2 r3 (((↑(0 : Nat) : Int) + (1 : Int) = (↑(1 : Nat) : Int)) ∧ ((0 : Nat) = (0 : Nat)) ∧ (List.length l + (1 : Nat) = List.length (l ++ [{ reg := true, n := (0 : Nat), sec := r0 == (2 : Int) }])) ∧ True))) (by kernel_rfl)
    ⟨(decide_eq_true (by first | omega | (simp; omega) | (simp; done))),
 (by simp [hz]),
 (by first | omega | rfl),
 (in64 (by omega) (by omega)),
 (by first | omega | rfl | (simp; done) | (simp; omega)),
 (fun i hi j hj => row_if (fun h => (rowL_left h).symm) (fun h => by obtain rfl : i = _ := Nat.le_antisymm (Nat.lt_succ_iff.mp hi) (Nat.not_lt.mp h); rw [rowL_last, Nat.sub_self]; match j, hj with | 0, _ => rfl | 1, _ => rfl | 2, _ => rfl)), (frA7b1_mk r0 r1 r2 r3 ⟨(by first | omega | rfl),
 rfl,
 (by first | omega | rfl | (simp; done) | (simp; omega)), trivial⟩)⟩
theorem ar_no1 (r0 r1 r2 r3 : Int) (l : List Pl) (hz : r1 = 0) : Vc (vcC Try.prog false (ntOf Try.prog 50) (lpC Try.prog 50 0) (ar r0 r1 r2 r3 1 l) [.b true, .b false] .nrm [(0, 0)] (ar r0 r1 r2 r3 2 l)) :=
  vc_of (q := (decide ((↑(1 : Nat) : Int) < (4 : Int)) = true) ∧ ((r1 != (0 : Int)) = false) ∧ (inK IntKind.i64 ((↑(1 : Nat) : Int) + (1 : Int))) ∧ (frA7b0 r0 r1 r2 r3 l (((↑(1 : Nat) : Int) + (1 : Int) = (↑(2 : Nat) : Int)) ∧ ((0 : Nat) = (0 : Nat)) ∧ (List.length l = List.length l) ∧ True))) (by kernel_rfl)
    ⟨(decide_eq_true (by first | omega | (simp; omega) | (simp; done))),
 (by simp [hz]),
 (in64 (by omega) (by omega)), (frA7b0_mk r0 r1 r2 r3 l ⟨(by first | omega | rfl),
 rfl,
 rfl, trivial⟩)⟩
theorem ar_yes1 (r0 r1 r2 r3 : Int) (l : List Pl) (hz : ¬ r1 = 0) (hl : l.length < 1000000) : Vc (vcC Try.prog false (ntOf Try.prog 50) (lpC Try.prog 50 0) (ar r0 r1 r2 r3 1 l) [.b true, .b true] .nrm [(0, 0)] (ar r0 r1 r2 r3 2 (l ++ [⟨true, 1, r1 == 2⟩]))) :=
  vc_of (q := (decide ((↑(1 : Nat) : Int) < (4 : Int)) = true) ∧ ((r1 != (0 : Int)) = true) ∧ ((0 : Nat) = (0 : Nat) ∧ List.length l = List.length l ∧ (List.length l + (1 : Nat)) * (24 : Nat) ≤ (140737488355328 : Nat) ∧ List.length l + (1 : Nat) ≤ (140737488355328 : Nat)) ∧ (inK IntKind.i64 ((↑(1 : Nat) : Int) + (1 : Int))) ∧ (List.length l + (1 : Nat) = List.length (l ++ [{ reg := true, n := (1 : Nat), sec := r1 == (2 : Int) }])) ∧ (∀ (i : Nat), i < List.length l + (1 : Nat) → ∀ (j : Nat), j < (3 : Nat) → (bif Nat.blt i (List.length l) then rowL plC l i j else List.getD [AV.bool true, AV.int IntKind.i64 (↑(1 : Nat) : Int), AV.bool (r1 == (2 : Int))] ((i - List.length l + (0 : Nat)) * (3 : Nat) + j) AV.junk) = rowL plC (l ++ [{ reg := true, n := (1 : Nat), sec := r1 == (2 : Int) }]) i j) ∧ (frA7b1 r0 r1 r2 r3 (((↑(1 : Nat) : Int) + (1 : Int) = (↑(2 : Nat) : Int)) ∧ ((0 : Nat) = (0 : Nat)) ∧ (List.length l + (1 : Nat) = List.length (l ++ [{ reg := true, n := (1 : Nat), sec := r1 == (2 : Int) }])) ∧ True))) (by kernel_rfl)
    ⟨(decide_eq_true (by first | omega | (simp; omega) | (simp; done))),
 (by simp [hz]),
 (by first | omega | rfl),
 (in64 (by omega) (by omega)),
 (by first | omega | rfl | (simp; done) | (simp; omega)),
 (fun i hi j hj => row_if (fun h => (rowL_left h).symm) (fun h => by obtain rfl : i = _ := Nat.le_antisymm (Nat.lt_succ_iff.mp hi) (Nat.not_lt.mp h); rw [rowL_last, Nat.sub_self]; match j, hj with | 0, _ => rfl | 1, _ => rfl | 2, _ => rfl)), (frA7b1_mk r0 r1 r2 r3 ⟨(by first | omega | rfl),
 rfl,
 (by first | omega | rfl | (simp; done) | (simp; omega)), trivial⟩)⟩
theorem ar_no2 (r0 r1 r2 r3 : Int) (l : List Pl) (hz : r2 = 0) : Vc (vcC Try.prog false (ntOf Try.prog 50) (lpC Try.prog 50 0) (ar r0 r1 r2 r3 2 l) [.b true, .b false] .nrm [(0, 0)] (ar r0 r1 r2 r3 3 l)) :=
  vc_of (q := (decide ((↑(2 : Nat) : Int) < (4 : Int)) = true) ∧ ((r2 != (0 : Int)) = false) ∧ (inK IntKind.i64 ((↑(2 : Nat) : Int) + (1 : Int))) ∧ (frA7b0 r0 r1 r2 r3 l (((↑(2 : Nat) : Int) + (1 : Int) = (↑(3 : Nat) : Int)) ∧ ((0 : Nat) = (0 : Nat)) ∧ (List.length l = List.length l) ∧ True))) (by kernel_rfl)
    ⟨(decide_eq_true (by first | omega | (simp; omega) | (simp; done))),
 (by simp [hz]),
 (in64 (by omega) (by omega)), (frA7b0_mk r0 r1 r2 r3 l ⟨(by first | omega | rfl),
 rfl,
 rfl, trivial⟩)⟩
theorem ar_yes2 (r0 r1 r2 r3 : Int) (l : List Pl) (hz : ¬ r2 = 0) (hl : l.length < 1000000) : Vc (vcC Try.prog false (ntOf Try.prog 50) (lpC Try.prog 50 0) (ar r0 r1 r2 r3 2 l) [.b true, .b true] .nrm [(0, 0)] (ar r0 r1 r2 r3 3 (l ++ [⟨true, 2, r2 == 2⟩]))) :=
  vc_of (q := (decide ((↑(2 : Nat) : Int) < (4 : Int)) = true) ∧ ((r2 != (0 : Int)) = true) ∧ ((0 : Nat) = (0 : Nat) ∧ List.length l = List.length l ∧ (List.length l + (1 : Nat)) * (24 : Nat) ≤ (140737488355328 : Nat) ∧ List.length l + (1 : Nat) ≤ (140737488355328 : Nat)) ∧ (inK IntKind.i64 ((↑(2 : Nat) : Int) + (1 : Int))) ∧ (List.length l + (1 : Nat) = List.length (l ++ [{ reg := true, n := (2 : Nat), sec := r2 == (2 : Int) }])) ∧ (∀ (i : Nat), i < List.length l + (1 : Nat) → ∀ (j : Nat), j < (3 : Nat) → (bif Nat.blt i (List.length l) then rowL plC l i j else List.getD [AV.bool true, AV.int IntKind.i64 (↑(2 : Nat) : Int), AV.bool (r2 == (2 : Int))] ((i - List.length l + (0 : Nat)) * (3 : Nat) + j) AV.junk) = rowL plC (l ++ [{ reg := true, n := (2 : Nat), sec := r2 == (2 : Int) }]) i j) ∧ (frA7b1 r0 r1 r2 r3 (((↑(2 : Nat) : Int) + (1 : Int) = (↑(3 : Nat) : Int)) ∧ ((0 : Nat) = (0 : Nat)) ∧ (List.length l + (1 : Nat) = List.length (l ++ [{ reg := true, n := (2 : Nat), sec := r2 == (2 : Int) }])) ∧ True))) (by kernel_rfl)
    ⟨(decide_eq_true (by first | omega | (simp; omega) | (simp; done))),
 (by simp [hz]),
 (by first | omega | rfl),
 (in64 (by omega) (by omega)),
 (by first | omega | rfl | (simp; done) | (simp; omega)),
 (fun i hi j hj => row_if (fun h => (rowL_left h).symm) (fun h => by obtain rfl : i = _ := Nat.le_antisymm (Nat.lt_succ_iff.mp hi) (Nat.not_lt.mp h); rw [rowL_last, Nat.sub_self]; match j, hj with | 0, _ => rfl | 1, _ => rfl | 2, _ => rfl)), (frA7b1_mk r0 r1 r2 r3 ⟨(by first | omega | rfl),
 rfl,
 (by first | omega | rfl | (simp; done) | (simp; omega)), trivial⟩)⟩
theorem ar_no3 (r0 r1 r2 r3 : Int) (l : List Pl) (hz : r3 = 0) : Vc (vcC Try.prog false (ntOf Try.prog 50) (lpC Try.prog 50 0) (ar r0 r1 r2 r3 3 l) [.b true, .b false] .nrm [(0, 0)] (ar r0 r1 r2 r3 4 l)) :=
  vc_of (q := (decide ((↑(3 : Nat) : Int) < (4 : Int)) = true) ∧ ((r3 != (0 : Int)) = false) ∧ (inK IntKind.i64 ((↑(3 : Nat) : Int) + (1 : Int))) ∧ (frA7b0 r0 r1 r2 r3 l (((↑(3 : Nat) : Int) + (1 : Int) = (↑(4 : Nat) : Int)) ∧ ((0 : Nat) = (0 : Nat)) ∧ (List.length l = List.length l) ∧ True))) (by kernel_rfl)
    ⟨(decide_eq_true (by first | omega | (simp; omega) | (simp; done))),
 (by simp [hz]),
 (in64 (by omega) (by omega)), (frA7b0_mk r0 r1 r2 r3 l ⟨(by first | omega | rfl),
 rfl,
 rfl, trivial⟩)⟩
theorem ar_yes3 (r0 r1 r2 r3 : Int) (l : List Pl) (hz : ¬ r3 = 0) (hl : l.length < 1000000) : Vc (vcC Try.prog false (ntOf Try.prog 50) (lpC Try.prog 50 0) (ar r0 r1 r2 r3 3 l) [.b true, .b true] .nrm [(0, 0)] (ar r0 r1 r2 r3 4 (l ++ [⟨true, 3, r3 == 2⟩]))) :=
  vc_of (q := (decide ((↑(3 : Nat) : Int) < (4 : Int)) = true) ∧ ((r3 != (0 : Int)) = true) ∧ ((0 : Nat) = (0 : Nat) ∧ List.length l = List.length l ∧ (List.length l + (1 : Nat)) * (24 : Nat) ≤ (140737488355328 : Nat) ∧ List.length l + (1 : Nat) ≤ (140737488355328 : Nat)) ∧ (inK IntKind.i64 ((↑(3 : Nat) : Int) + (1 : Int))) ∧ (List.length l + (1 : Nat) = List.length (l ++ [{ reg := true, n := (3 : Nat), sec := r3 == (2 : Int) }])) ∧ (∀ (i : Nat), i < List.length l + (1 : Nat) → ∀ (j : Nat), j < (3 : Nat) → (bif Nat.blt i (List.length l) then rowL plC l i j else List.getD [AV.bool true, AV.int IntKind.i64 (↑(3 : Nat) : Int), AV.bool (r3 == (2 : Int))] ((i - List.length l + (0 : Nat)) * (3 : Nat) + j) AV.junk) = rowL plC (l ++ [{ reg := true, n := (3 : Nat), sec := r3 == (2 : Int) }]) i j) ∧ (frA7b1 r0 r1 r2 r3 (((↑(3 : Nat) : Int) + (1 : Int) = (↑(4 : Nat) : Int)) ∧ ((0 : Nat) = (0 : Nat)) ∧ (List.length l + (1 : Nat) = List.length (l ++ [{ reg := true, n := (3 : Nat), sec := r3 == (2 : Int) }])) ∧ True))) (by kernel_rfl)
    ⟨(decide_eq_true (by first | omega | (simp; omega) | (simp; done))),
 (by simp [hz]),
 (by first | omega | rfl),
 (in64 (by omega) (by omega)),
 (by first | omega | rfl | (simp; done) | (simp; omega)),
 (fun i hi j hj => row_if (fun h => (rowL_left h).symm) (fun h => by obtain rfl : i = _ := Nat.le_antisymm (Nat.lt_succ_iff.mp hi) (Nat.not_lt.mp h); rw [rowL_last, Nat.sub_self]; match j, hj with | 0, _ => rfl | 1, _ => rfl | 2, _ => rfl)), (frA7b1_mk r0 r1 r2 r3 ⟨(by first | omega | rfl),
 rfl,
 (by first | omega | rfl | (simp; done) | (simp; omega)), trivial⟩)⟩
theorem ar_end (r0 r1 r2 r3 : Int) (l : List Pl) : Vc (vcC Try.prog false (ntOf Try.prog 50) (lpC Try.prog 50 0) (ar r0 r1 r2 r3 4 l) [.b false] (.ext 0) [(0, 0)] (ar r0 r1 r2 r3 4 l)) :=
  vc_of (q := (decide ((↑(4 : Nat) : Int) < (4 : Int)) = false) ∧ (frA7b0 r0 r1 r2 r3 l (((↑(4 : Nat) : Int) = (↑(4 : Nat) : Int)) ∧ ((0 : Nat) = (0 : Nat)) ∧ (List.length l = List.length l) ∧ True))) (by kernel_rfl)
    ⟨(decide_eq_false (by first | omega | (simp; omega) | (simp; done))), (frA7b0_mk r0 r1 r2 r3 l ⟨rfl,
 rfl,
 rfl, trivial⟩)⟩
theorem ar_loop (r0 r1 r2 r3 : Int) : Ok Try.prog (ntOf Try.prog 50) (.loop (lpC Try.prog 50 0)) (ar r0 r1 r2 r3 0 []).st (.ext 0) (ar r0 r1 r2 r3 4 (regL (rg r0 r1 r2 r3) 4)).st :=
  Ok.loop (P := Try.prog) (nt := ntOf Try.prog 50) (c := lpC Try.prog 50 0) (F := fun k => ar r0 r1 r2 r3 k (regL (rg r0 r1 r2 r3) k)) (m := 4) (x := .ext 0) (J := ar r0 r1 r2 r3 4 (regL (rg r0 r1 r2 r3) 4)) (fun k hk => by
    match k, hk with
    | 0, _ =>
      by_cases hz : r0 = 0
      · have e : regL (rg r0 r1 r2 r3) 1 = regL (rg r0 r1 r2 r3) 0 := regL_zero (k := 0) hz
        show Ok _ _ _ _ _ (ar r0 r1 r2 r3 1 (regL (rg r0 r1 r2 r3) 1)).st
        rw [e]
        exact Ok.vc (ar_no0 r0 r1 r2 r3 _ hz)
      · have e : regL (rg r0 r1 r2 r3) 1 = regL (rg r0 r1 r2 r3) 0 ++ [⟨true, 0, r0 == 2⟩] := regL_pos (k := 0) hz
        show Ok _ _ _ _ _ (ar r0 r1 r2 r3 1 (regL (rg r0 r1 r2 r3) 1)).st
        rw [e]
        exact Ok.vc (ar_yes0 r0 r1 r2 r3 _ hz (by have := regL_le (rg r0 r1 r2 r3) 0; omega))
    | 1, _ =>
      by_cases hz : r1 = 0
      · have e : regL (rg r0 r1 r2 r3) 2 = regL (rg r0 r1 r2 r3) 1 := regL_zero (k := 1) hz
        show Ok _ _ _ _ _ (ar r0 r1 r2 r3 2 (regL (rg r0 r1 r2 r3) 2)).st
        rw [e]
        exact Ok.vc (ar_no1 r0 r1 r2 r3 _ hz)
      · have e : regL (rg r0 r1 r2 r3) 2 = regL (rg r0 r1 r2 r3) 1 ++ [⟨true, 1, r1 == 2⟩] := regL_pos (k := 1) hz
        show Ok _ _ _ _ _ (ar r0 r1 r2 r3 2 (regL (rg r0 r1 r2 r3) 2)).st
        rw [e]
        exact Ok.vc (ar_yes1 r0 r1 r2 r3 _ hz (by have := regL_le (rg r0 r1 r2 r3) 1; omega))
    | 2, _ =>
      by_cases hz : r2 = 0
      · have e : regL (rg r0 r1 r2 r3) 3 = regL (rg r0 r1 r2 r3) 2 := regL_zero (k := 2) hz
        show Ok _ _ _ _ _ (ar r0 r1 r2 r3 3 (regL (rg r0 r1 r2 r3) 3)).st
        rw [e]
        exact Ok.vc (ar_no2 r0 r1 r2 r3 _ hz)
      · have e : regL (rg r0 r1 r2 r3) 3 = regL (rg r0 r1 r2 r3) 2 ++ [⟨true, 2, r2 == 2⟩] := regL_pos (k := 2) hz
        show Ok _ _ _ _ _ (ar r0 r1 r2 r3 3 (regL (rg r0 r1 r2 r3) 3)).st
        rw [e]
        exact Ok.vc (ar_yes2 r0 r1 r2 r3 _ hz (by have := regL_le (rg r0 r1 r2 r3) 2; omega))
    | 3, _ =>
      by_cases hz : r3 = 0
      · have e : regL (rg r0 r1 r2 r3) 4 = regL (rg r0 r1 r2 r3) 3 := regL_zero (k := 3) hz
        show Ok _ _ _ _ _ (ar r0 r1 r2 r3 4 (regL (rg r0 r1 r2 r3) 4)).st
        rw [e]
        exact Ok.vc (ar_no3 r0 r1 r2 r3 _ hz)
      · have e : regL (rg r0 r1 r2 r3) 4 = regL (rg r0 r1 r2 r3) 3 ++ [⟨true, 3, r3 == 2⟩] := regL_pos (k := 3) hz
        show Ok _ _ _ _ _ (ar r0 r1 r2 r3 4 (regL (rg r0 r1 r2 r3) 4)).st
        rw [e]
        exact Ok.vc (ar_yes3 r0 r1 r2 r3 _ hz (by have := regL_le (rg r0 r1 r2 r3) 3; omega))) (Ok.vc (ar_end r0 r1 r2 r3 _)) (by simp)
theorem arr_vc (W r0 r1 r2 r3 : Int) (ms : List Mm) : Vc (vcFn Try.prog false 50 [.agg (progL W r0 r1 r2 r3 (memR ms))] [.lp [] (ar r0 r1 r2 r3 0 []) (.ext 0) (ar r0 r1 r2 r3 4 (regL (rg r0 r1 r2 r3) 4))] [(0, 0)] (.own 0 0 3 0 (regL (rg r0 r1 r2 r3) 4).length) [plB (regL (rg r0 r1 r2 r3) 4)]) :=
  vc_of (q := ((0 : Nat) = (0 : Nat)) ∧ (r0 = r0) ∧ (r1 = r1) ∧ (r2 = r2) ∧ (r3 = r3) ∧ ((0 : Int) = (↑(0 : Nat) : Int)) ∧ ((0 : Nat) = (0 : Nat)) ∧ ((0 : Nat) = (0 : Nat)) ∧ (Ok Try.prog (ntOf Try.prog 50) (.loop (lpC Try.prog 50 0)) (ar r0 r1 r2 r3 0 []).st (.ext 0) (ar r0 r1 r2 r3 4 (regL (rg r0 r1 r2 r3) 4)).st) ∧ (List.length (regL (rg r0 r1 r2 r3) (4 : Nat)) = List.length (regL (rg r0 r1 r2 r3) (4 : Nat))) ∧ (∀ (i : Nat), i < List.length (regL (rg r0 r1 r2 r3) (4 : Nat)) → ∀ (j : Nat), j < (3 : Nat) → rowL plC (regL (rg r0 r1 r2 r3) (4 : Nat)) i j = rowL plC (regL (rg r0 r1 r2 r3) (4 : Nat)) i j) ∧ ((0 : Nat) = (0 : Nat)) ∧ (List.length (regL (rg r0 r1 r2 r3) (4 : Nat)) = List.length (regL (rg r0 r1 r2 r3) (4 : Nat))) ∧ True) (by kernel_rfl)
    ⟨rfl,
 rfl,
 rfl,
 rfl,
 rfl,
 (by first | omega | rfl),
 rfl,
 rfl,
 ar_loop r0 r1 r2 r3,
 rfl,
 (fun _ _ _ _ => rfl),
 rfl,
 rfl, trivial⟩
theorem archRegs (W r0 r1 r2 r3 : Int) (ms : List Mm) : PureC Try.prog 50 [.agg (progL W r0 r1 r2 r3 (memR ms))] (.own 0 0 3 0 (regL (rg r0 r1 r2 r3) 4).length) [plB (regL (rg r0 r1 r2 r3) 4)] := PureC.vc (arr_vc W r0 r1 r2 r3 ms)
def mmL (m : Mm) : List AV := [.str m.nm, .bool m.sec, .int .i64 m.n]
def ao (ms : List Mm) (i : Nat) (l : List Pl) : Sm := ⟨[(8, .int .i64 ms.length), (7, memR ms), (9, .int .i64 i), (3, .own 0 0 3 0 l.length)], [(0, plB l)], 1⟩
def ai (ms : List Mm) (i k : Nat) (l : List Pl) : Sm := ⟨[(8, .int .i64 ms.length), (7, memR ms), (9, .int .i64 i), (3, .own 0 0 3 0 l.length), (5, .bptr 1 0), (16, .int .i64 (ms.getD i default).n), (17, .int .i64 k)], [(0, plB l), (1, ⟨0, false, 52, .box (mmL (ms.getD i default))⟩)], 2⟩
theorem ai_step (ms : List Mm) (i k : Nat) (l : List Pl) (h64 : ms.length < 4611686018427387904) (hi : i < ms.length) (hl : l.length < 1000000000000) (hn : k < 4611686018427387904) (hk : k < (ms.getD i default).n) : Vc (vcC Try.prog false (ntOf Try.prog 51) (lpC Try.prog 51 1) (ai ms i k l) [.b true] .nrm [(0, 0), (1, 1)] (ai ms i (k + 1) (l ++ [⟨false, l.length, (ms.getD i default).sec⟩]))) :=
  vc_of (q := (decide ((↑k : Int) < (↑(Mm.n (List.getD ms i Inhabited.default)) : Int)) = true) ∧ ((0 : Nat) = (0 : Nat) ∧ List.length l = List.length l ∧ (List.length l + (1 : Nat)) * (24 : Nat) ≤ (140737488355328 : Nat) ∧ List.length l + (1 : Nat) ≤ (140737488355328 : Nat)) ∧ (inK IntKind.i64 ((↑k : Int) + (1 : Int))) ∧ (List.length l + (1 : Nat) = List.length (l ++ [{ reg := false, n := List.length l, sec := Mm.sec (List.getD ms i Inhabited.default) }])) ∧ (∀ (i_1 : Nat), i_1 < List.length l + (1 : Nat) → ∀ (j : Nat), j < (3 : Nat) → (bif Nat.blt i_1 (List.length l) then rowL plC l i_1 j else List.getD [AV.bool false, AV.int IntKind.i64 (↑(List.length l) : Int), AV.bool (Mm.sec (List.getD ms i Inhabited.default))] ((i_1 - List.length l + (0 : Nat)) * (3 : Nat) + j) AV.junk) = rowL plC (l ++ [{ reg := false, n := List.length l, sec := Mm.sec (List.getD ms i Inhabited.default) }]) i_1 j) ∧ (Mm.nm (List.getD ms i Inhabited.default) = Mm.nm (List.getD ms i Inhabited.default)) ∧ (Mm.sec (List.getD ms i Inhabited.default) = Mm.sec (List.getD ms i Inhabited.default)) ∧ ((↑(Mm.n (List.getD ms i Inhabited.default)) : Int) = (↑(Mm.n (List.getD ms i Inhabited.default)) : Int)) ∧ ((↑(List.length ms) : Int) = (↑(List.length ms) : Int)) ∧ (List.length ms = List.length ms) ∧ (∀ (i : Nat), i < List.length ms → ∀ (j : Nat), j < (3 : Nat) → rowL mmC ms i j = rowL mmC ms i j) ∧ ((↑i : Int) = (↑i : Int)) ∧ ((0 : Nat) = (0 : Nat)) ∧ (List.length l + (1 : Nat) = List.length (l ++ [{ reg := false, n := List.length l, sec := Mm.sec (List.getD ms i Inhabited.default) }])) ∧ ((↑(Mm.n (List.getD ms i Inhabited.default)) : Int) = (↑(Mm.n (List.getD ms i Inhabited.default)) : Int)) ∧ ((↑k : Int) + (1 : Int) = (↑(k + (1 : Nat)) : Int)) ∧ True) (by kernel_rfl)
    ⟨(decide_eq_true (by first | omega | (simp; omega) | (simp; done))),
 (by first | omega | rfl),
 (in64 (by omega) (by omega)),
 (by first | omega | rfl | (simp; done) | (simp; omega)),
 (fun i hi j hj => row_if (fun h => (rowL_left h).symm) (fun h => by obtain rfl : i = _ := Nat.le_antisymm (Nat.lt_succ_iff.mp hi) (Nat.not_lt.mp h); rw [rowL_last, Nat.sub_self]; match j, hj with | 0, _ => rfl | 1, _ => rfl | 2, _ => rfl)),
 rfl,
 rfl,
 rfl,
 rfl,
 rfl,
 (fun _ _ _ _ => rfl),
 rfl,
 rfl,
 (by first | omega | rfl | (simp; done) | (simp; omega)),
 rfl,
 (by first | omega | rfl), trivial⟩
def frA7b2 (ms : List Mm) (i : Nat) (l : List Pl) (Z : Prop) : Prop := (List.length l = List.length l) ∧ (∀ (i : Nat), i < List.length l → ∀ (j : Nat), j < (3 : Nat) → rowL plC l i j = rowL plC l i j) ∧ (Mm.nm (List.getD ms i Inhabited.default) = Mm.nm (List.getD ms i Inhabited.default)) ∧ (Mm.sec (List.getD ms i Inhabited.default) = Mm.sec (List.getD ms i Inhabited.default)) ∧ ((↑(Mm.n (List.getD ms i Inhabited.default)) : Int) = (↑(Mm.n (List.getD ms i Inhabited.default)) : Int)) ∧ ((↑(List.length ms) : Int) = (↑(List.length ms) : Int)) ∧ (List.length ms = List.length ms) ∧ (∀ (i : Nat), i < List.length ms → ∀ (j : Nat), j < (3 : Nat) → rowL mmC ms i j = rowL mmC ms i j) ∧ ((↑i : Int) = (↑i : Int)) ∧ Z
theorem frA7b2_mk (ms : List Mm) (i : Nat) (l : List Pl) {Z : Prop} (z : Z) : frA7b2 ms i l Z := ⟨rfl, (fun _ _ _ _ => rfl), rfl, rfl, rfl, rfl, rfl, (fun _ _ _ _ => rfl), rfl, z⟩
theorem ai_end (ms : List Mm) (i k : Nat) (l : List Pl) (h64 : ms.length < 4611686018427387904) (hi : i < ms.length) (hl : l.length < 1000000000000) (hn : k < 4611686018427387904) (hk : k = (ms.getD i default).n) : Vc (vcC Try.prog false (ntOf Try.prog 51) (lpC Try.prog 51 1) (ai ms i k l) [.b false] (.ext 2) [(0, 0), (1, 1)] (ai ms i k l)) :=
  vc_of (q := (decide ((↑k : Int) < (↑(Mm.n (List.getD ms i Inhabited.default)) : Int)) = false) ∧ (frA7b2 ms i l (((0 : Nat) = (0 : Nat)) ∧ (List.length l = List.length l) ∧ ((↑(Mm.n (List.getD ms i Inhabited.default)) : Int) = (↑(Mm.n (List.getD ms i Inhabited.default)) : Int)) ∧ ((↑k : Int) = (↑k : Int)) ∧ True))) (by kernel_rfl)
    ⟨(decide_eq_false (by first | omega | (simp; omega) | (simp; done))), (frA7b2_mk ms i l ⟨rfl,
 rfl,
 rfl,
 rfl, trivial⟩)⟩
theorem ai_loop (ms : List Mm) (i : Nat) (l : List Pl) (h64 : ms.length < 4611686018427387904) (hi : i < ms.length) (hb : l.length + (ms.getD i default).n ≤ 16) : Ok Try.prog (ntOf Try.prog 51) (.loop (lpC Try.prog 51 1)) (ai ms i 0 l).st (.ext 2) (ai ms i (ms.getD i default).n (l ++ celL (ms.getD i default).sec l.length (ms.getD i default).n)).st := by
  have := Ok.loop (P := Try.prog) (nt := ntOf Try.prog 51) (c := lpC Try.prog 51 1) (F := fun k => ai ms i k (l ++ celL (ms.getD i default).sec l.length k)) (m := (ms.getD i default).n) (x := .ext 2) (J := ai ms i (ms.getD i default).n (l ++ celL (ms.getD i default).sec l.length (ms.getD i default).n)) (fun k hk => by
    show Ok _ _ _ _ _ (ai _ i (k + 1) (l ++ celL (ms.getD i default).sec l.length (k + 1))).st
    have hl : (l ++ celL (ms.getD i default).sec l.length k).length = l.length + k := by simp only [List.length_append, celL_length]
    have := Ok.vc (ai_step ms i k (l ++ celL (ms.getD i default).sec l.length k) h64 hi (by omega) (by omega) hk)
    rw [hl] at this
    rw [celL_succ, ← List.append_assoc]
    exact this)
    (Ok.vc (ai_end ms i _ _ h64 hi (by simp only [List.length_append, celL_length]; omega) (by omega) rfl)) (by simp)
  simpa [celL] using this
theorem ao_step (ms : List Mm) (i : Nat) (l : List Pl) (h64 : ms.length < 4611686018427387904) (hi : i < ms.length) (hb : l.length + (ms.getD i default).n ≤ 16) : Vc (vcC Try.prog false (ntOf Try.prog 51) (lpC Try.prog 51 0) (ao ms i l) [.b true, .lp [(0, 0), (1, 1)] (ai ms i 0 l) (.ext 2) (ai ms i (ms.getD i default).n (l ++ celL (ms.getD i default).sec l.length (ms.getD i default).n))] .nrm [(0, 0)] (ao ms (i + 1) (l ++ celL (ms.getD i default).sec l.length (ms.getD i default).n))) :=
  vc_of (q := (decide ((↑i : Int) < (↑(List.length ms) : Int)) = true) ∧ ((0 : Int) ≤ (↑i : Int) ∧ (↑i : Int) < (↑(List.length ms) : Int)) ∧ (inK IntKind.i64 ((16 : Int) - (↑(List.length l) : Int))) ∧ (frA7b2 ms i l (((0 : Nat) = (0 : Nat)) ∧ (List.length l = List.length l) ∧ ((if (16 : Int) - (↑(List.length l) : Int) < if (↑(Mm.n (List.getD ms i Inhabited.default)) : Int) < (0 : Int) then (0 : Int) else (↑(Mm.n (List.getD ms i Inhabited.default)) : Int) then (16 : Int) - (↑(List.length l) : Int) else if (↑(Mm.n (List.getD ms i Inhabited.default)) : Int) < (0 : Int) then (0 : Int) else (↑(Mm.n (List.getD ms i Inhabited.default)) : Int)) = (↑(Mm.n (List.getD ms i Inhabited.default)) : Int)) ∧ ((0 : Int) = (↑(0 : Nat) : Int)) ∧ (Ok Try.prog (ntOf Try.prog 51) (.loop (lpC Try.prog 51 1)) (ai ms i 0 l).st (.ext 2) (ai ms i (ms.getD i default).n (l ++ celL (ms.getD i default).sec l.length (ms.getD i default).n)).st) ∧ (inK IntKind.i64 ((↑i : Int) + (1 : Int))) ∧ (List.length (l ++ celL (Mm.sec (List.getD ms i Inhabited.default)) (List.length l) (Mm.n (List.getD ms i Inhabited.default))) = List.length (l ++ celL (Mm.sec (List.getD ms i Inhabited.default)) (List.length l) (Mm.n (List.getD ms i Inhabited.default)))) ∧ (∀ (i_1 : Nat), i_1 < List.length (l ++ celL (Mm.sec (List.getD ms i Inhabited.default)) (List.length l) (Mm.n (List.getD ms i Inhabited.default))) → ∀ (j : Nat), j < (3 : Nat) → rowL plC (l ++ celL (Mm.sec (List.getD ms i Inhabited.default)) (List.length l) (Mm.n (List.getD ms i Inhabited.default))) i_1 j = rowL plC (l ++ celL (Mm.sec (List.getD ms i Inhabited.default)) (List.length l) (Mm.n (List.getD ms i Inhabited.default))) i_1 j) ∧ ((↑(List.length ms) : Int) = (↑(List.length ms) : Int)) ∧ (List.length ms = List.length ms) ∧ (∀ (i : Nat), i < List.length ms → ∀ (j : Nat), j < (3 : Nat) → rowL mmC ms i j = rowL mmC ms i j) ∧ ((↑i : Int) + (1 : Int) = (↑(i + (1 : Nat)) : Int)) ∧ ((0 : Nat) = (0 : Nat)) ∧ (List.length (l ++ celL (Mm.sec (List.getD ms i Inhabited.default)) (List.length l) (Mm.n (List.getD ms i Inhabited.default))) = List.length (l ++ celL (Mm.sec (List.getD ms i Inhabited.default)) (List.length l) (Mm.n (List.getD ms i Inhabited.default)))) ∧ True))) (by kernel_rfl)
    ⟨(decide_eq_true (by first | omega | (simp; omega) | (simp; done))),
 (by first | omega | rfl),
 (in64 (by omega) (by omega)), (frA7b2_mk ms i l ⟨rfl,
 rfl,
 (by first | omega | rfl | (simp; done) | (simp; omega)),
 (by first | omega | rfl),
 ai_loop ms i l h64 hi hb,
 (in64 (by omega) (by omega)),
 rfl,
 (fun _ _ _ _ => rfl),
 rfl,
 rfl,
 (fun _ _ _ _ => rfl),
 (by first | omega | rfl),
 rfl,
 rfl, trivial⟩)⟩
theorem ao_end (ms : List Mm) (l : List Pl) : Vc (vcC Try.prog false (ntOf Try.prog 51) (lpC Try.prog 51 0) (ao ms ms.length l) [.b false] (.ext 0) [(0, 0)] (ao ms ms.length l)) :=
  vc_of (q := (decide ((↑(List.length ms) : Int) < (↑(List.length ms) : Int)) = false) ∧ (List.length l = List.length l) ∧ (∀ (i : Nat), i < List.length l → ∀ (j : Nat), j < (3 : Nat) → rowL plC l i j = rowL plC l i j) ∧ ((↑(List.length ms) : Int) = (↑(List.length ms) : Int)) ∧ (List.length ms = List.length ms) ∧ (∀ (i : Nat), i < List.length ms → ∀ (j : Nat), j < (3 : Nat) → rowL mmC ms i j = rowL mmC ms i j) ∧ ((↑(List.length ms) : Int) = (↑(List.length ms) : Int)) ∧ ((0 : Nat) = (0 : Nat)) ∧ (List.length l = List.length l) ∧ True) (by kernel_rfl)
    ⟨(decide_eq_false (by first | omega | (simp; omega) | (simp; done))),
 rfl,
 (fun _ _ _ _ => rfl),
 rfl,
 rfl,
 (fun _ _ _ _ => rfl),
 rfl,
 rfl,
 rfl, trivial⟩
theorem ao_loop (ms : List Mm) (h64 : ms.length < 4611686018427387904) (hb : sumN ms ≤ 16) : Ok Try.prog (ntOf Try.prog 51) (.loop (lpC Try.prog 51 0)) (ao ms 0 []).st (.ext 0) (ao ms ms.length (memL 0 ms)).st := by
  have := Ok.loop (P := Try.prog) (nt := ntOf Try.prog 51) (c := lpC Try.prog 51 0) (F := fun k => ao ms k (memL 0 (ms.take k))) (m := ms.length) (x := .ext 0) (J := ao ms ms.length (memL 0 ms)) (fun k hk => by
    have h1 := sumN_take hk
    have h2 := sumN_take_le ms (k + 1)
    show Ok _ _ _ _ _ (ao _ (k + 1) (memL 0 (ms.take (k + 1)))).st
    have hl := memL_length 0 (ms.take k)
    have := Ok.vc (ao_step ms k (memL 0 (ms.take k)) h64 hk (by omega))
    rw [hl] at this
    rw [memL_take hk, Nat.zero_add]
    exact this)
    (by
      show Ok _ _ _ (ao _ ms.length (memL 0 (ms.take ms.length))).st _ _
      rw [List.take_length]
      exact Ok.vc (ao_end ms _)) (by simp)
  simpa [memL] using this
theorem ace_vc (W r0 r1 r2 r3 : Int) (ms : List Mm) (h64 : ms.length < 4611686018427387904) (hs : sumN ms ≤ 16) : Vc (vcFn Try.prog false 51 [.agg (progL W r0 r1 r2 r3 (memR ms))] [.lp [] (ao ms 0 []) (.ext 0) (ao ms ms.length (memL 0 ms))] [(0, 0)] (.own 0 0 3 0 (memL 0 ms).length) [plB (memL 0 ms)]) :=
  vc_of (q := ((0 : Nat) = (0 : Nat)) ∧ ((↑(List.length ms) : Int) = (↑(List.length ms) : Int)) ∧ (List.length ms = List.length ms) ∧ (∀ (i : Nat), i < List.length ms → ∀ (j : Nat), j < (3 : Nat) → rowL mmC ms i j = rowL mmC ms i j) ∧ ((0 : Int) = (↑(0 : Nat) : Int)) ∧ ((0 : Nat) = (0 : Nat)) ∧ ((0 : Nat) = (0 : Nat)) ∧ (Ok Try.prog (ntOf Try.prog 51) (.loop (lpC Try.prog 51 0)) (ao ms 0 []).st (.ext 0) (ao ms ms.length (memL 0 ms)).st) ∧ (List.length (memL (0 : Nat) ms) = List.length (memL (0 : Nat) ms)) ∧ (∀ (i : Nat), i < List.length (memL (0 : Nat) ms) → ∀ (j : Nat), j < (3 : Nat) → rowL plC (memL (0 : Nat) ms) i j = rowL plC (memL (0 : Nat) ms) i j) ∧ ((0 : Nat) = (0 : Nat)) ∧ (List.length (memL (0 : Nat) ms) = List.length (memL (0 : Nat) ms)) ∧ True) (by kernel_rfl)
    ⟨rfl,
 rfl,
 rfl,
 (fun _ _ _ _ => rfl),
 (by first | omega | rfl),
 rfl,
 rfl,
 ao_loop ms h64 hs,
 rfl,
 (fun _ _ _ _ => rfl),
 rfl,
 rfl, trivial⟩
theorem archCels (W r0 r1 r2 r3 : Int) (ms : List Mm) (h64 : ms.length < 4611686018427387904) (hs : sumN ms ≤ 16) : PureC Try.prog 51 [.agg (progL W r0 r1 r2 r3 (memR ms))] (.own 0 0 3 0 (memL 0 ms).length) [plB (memL 0 ms)] := PureC.vc (ace_vc W r0 r1 r2 r3 ms h64 hs)
end
end Go.Proofs.Ytjdiabjmphdhiaa.Px
namespace Go.Proofs.Ytjdiabjmphdhiaa.Px
section
open Go.RowKit Go.Proofs.Ytjdiabjmphdhiaa.Rx
theorem ap_vc (W r0 r1 r2 r3 : Int) (ms : List Mm) (h64 : ms.length < 4611686018427387904) (hs : sumN ms ≤ 16) : Vc (vcFn Try.prog false 33 [.agg (progL W r0 r1 r2 r3 (memR ms))] [.cl [.agg (progL W r0 r1 r2 r3 (memR ms))] (.own 0 0 3 0 (regL (rg r0 r1 r2 r3) 4).length) [plB (regL (rg r0 r1 r2 r3) 4)], .cl [.agg (progL W r0 r1 r2 r3 (memR ms))] (.own 0 0 3 0 (memL 0 ms).length) [plB (memL 0 ms)]] [(0, 1)] (.own 0 0 3 0 ((regL (rg r0 r1 r2 r3) 4) ++ memL 0 ms).length) [plB ((regL (rg r0 r1 r2 r3) 4) ++ memL 0 ms)]) :=
  vc_of (q := (W = W) ∧ (r0 = r0) ∧ (r1 = r1) ∧ (r2 = r2) ∧ (r3 = r3) ∧ (List.length ms = List.length ms) ∧ (∀ (i : Nat),
  i < List.length ms →
    ∀ (j : Nat),
      j < (3 : Nat) →
        rowL mmC ms i j =
          rowL mmC ms i j) ∧ (PureC Try.prog 50 [.agg (progL W r0 r1 r2 r3 (memR ms))] (.own 0 0 3 0 (regL (rg r0 r1 r2 r3) 4).length) [plB (regL (rg r0 r1 r2 r3) 4)]) ∧ (W = W) ∧ (r0 = r0) ∧ (r1 = r1) ∧ (r2 = r2) ∧ (r3 = r3) ∧ (List.length ms = List.length ms) ∧ (∀ (i : Nat),
  i < List.length ms →
    ∀ (j : Nat),
      j < (3 : Nat) →
        rowL mmC ms i j =
          rowL mmC ms i j) ∧ (PureC Try.prog 51 [.agg (progL W r0 r1 r2 r3 (memR ms))] (.own 0 0 3 0 (memL 0 ms).length) [plB (memL 0 ms)]) ∧ ((0 : Nat) = (0 : Nat) ∧
  List.length (regL (rg r0 r1 r2 r3) (4 : Nat)) =
      List.length (regL (rg r0 r1 r2 r3) (4 : Nat)) ∧
    (List.length (regL (rg r0 r1 r2 r3) (4 : Nat)) +
            List.length (memL (0 : Nat) ms)) *
          (24 : Nat) ≤
        (140737488355328 : Nat) ∧
      List.length (regL (rg r0 r1 r2 r3) (4 : Nat)) +
          List.length (memL (0 : Nat) ms) ≤
        (140737488355328 : Nat)) ∧ (List.length (regL (rg r0 r1 r2 r3) (4 : Nat)) +
    List.length (memL (0 : Nat) ms) =
  List.length
    (regL (rg r0 r1 r2 r3) (4 : Nat) ++
      memL (0 : Nat) ms)) ∧ (∀ (i : Nat),
  i <
      List.length (regL (rg r0 r1 r2 r3) (4 : Nat)) +
        List.length (memL (0 : Nat) ms) →
    ∀ (j : Nat),
      j < (3 : Nat) →
        (bif
              Nat.blt i
                (List.length
                  (regL (rg r0 r1 r2 r3) (4 : Nat))) then
            rowL plC
              (regL (rg r0 r1 r2 r3) (4 : Nat)) i j
          else
            rowL plC
              (memL (0 : Nat) ms)
              (i -
                  List.length
                    (regL (rg r0 r1 r2 r3) (4 : Nat)) +
                (0 : Nat))
              j) =
          rowL plC
            (regL (rg r0 r1 r2 r3) (4 : Nat) ++
              memL (0 : Nat) ms)
            i j) ∧ ((0 : Nat) = (0 : Nat)) ∧ (List.length (regL (rg r0 r1 r2 r3) (4 : Nat)) +
    List.length (memL (0 : Nat) ms) =
  List.length
    (regL (rg r0 r1 r2 r3) (4 : Nat) ++
      memL (0 : Nat) ms)) ∧ True) (by kernel_rfl)
    ⟨rfl,
     rfl,
     rfl,
     rfl,
     rfl,
     rfl,
     (fun _ _ _ _ => rfl),
     archRegs W r0 r1 r2 r3 ms,
     rfl,
     rfl,
     rfl,
     rfl,
     rfl,
     rfl,
     (fun _ _ _ _ => rfl),
     archCels W r0 r1 r2 r3 ms h64 hs,
     ⟨rfl, rfl, by have := regL_le (rg r0 r1 r2 r3) 4; rw [memL_length]; omega, by have := regL_le (rg r0 r1 r2 r3) 4; rw [memL_length]; omega⟩,
     List.length_append.symm,
     (fun i hi j hj => row_if (fun h => (rowL_left h).symm) (fun h => (rowL_right h).symm)),
     rfl,
     List.length_append.symm,
     trivial⟩
theorem archPlaces (W r0 r1 r2 r3 : Int) (ms : List Mm) (h64 : ms.length < 4611686018427387904) (hs : sumN ms ≤ 16) : PureC Try.prog 33 [.agg (progL W r0 r1 r2 r3 (memR ms))] (.own 0 0 3 0 (places (rg r0 r1 r2 r3) ms).length) [plB (places (rg r0 r1 r2 r3) ms)] := PureC.vc (ap_vc W r0 r1 r2 r3 ms h64 hs)
end
end Go.Proofs.Ytjdiabjmphdhiaa.Px
namespace Go.Proofs.Ytjdiabjmphdhiaa.Rx
section
open Go.RowKit
/-- what slot t names is only read from here on -/
def frzS (t : Nat) (s : St) : St := ⟨fun k => bif Nat.beq k t then frz s.heap (s.env t) else s.env k, frzIds s.heap (idsF (s.env t)), s.next⟩
def vcZ (t : Nat) (I : Sm) (r : List (Nat × Nat)) (I' : Sm) : Prop :=
  match leS r (frzS t I.st) I' with
  | some ps => allP ps
  | none => False
section
variable {P : Program}
theorem Ok.freeze {nt : Nat} {c : Code} {I I' : Sm} {r : List (Nat × Nat)} {x : X} {J : St} {t : Nat} (hv : Vc (vcZ t I r I')) (h : Ok P nt c I'.st x J) : Ok P nt c I.st x J := by
  replace hv := hv.out
  unfold vcZ at hv
  split at hv
  · rename_i ps hps
    intro cx a hs Q hQ
    obtain ⟨cx1, e1, hc1, hs1, e2, e3, e4, e5⟩ := frzIds_ok (idsF (I.st.env t)) hs.c
    have hz : SRep cx1 (frzS t I.st) a nt := by
      refine ⟨by rw [e1, hs.H]; rfl, hc1, fun k => ?_, fun i hi => ?_, hs.sz, hs.df⟩
      · show Rep cx1 (bif Nat.beq k t then frz I.st.heap (I.st.env t) else I.st.env k) _
        cases hk : Nat.beq k t with
        | true =>
          obtain rfl := Nat.eq_of_beq_eq_true hk
          exact .pure (frz_rep hc1 (fun id b hb => by rw [e1, hs.H]; exact frzIds_gen _ _ _ _ hb) ((hs.env k).stab hs.c hs1) fun id hid b g c hb hg => by
            obtain ⟨b', hb'⟩ := Option.isSome_iff_exists.1 (e5 id (by rw [hb]; rfl))
            rw [e3] at hg
            exact e4 id b' g c hid hb' hg)
        | false => exact (hs.env k).stab hs.c hs1
      · have : (cx1.H i).isSome = true := by rw [e1, hs.H]; exact hi
        have := e5 i this
        rw [hs.H] at this
        exact hs.lt i this
    obtain ⟨cx2, hs2, he2, hw2⟩ := hz.le hps fun p hp => allP_mem hv p hp
    rw [← e2, ← hw2]
    exact h cx2 a hs2 Q fun cx3 a3 hs3 he3 => hQ cx3 a3 hs3 ((hs1.ext.trans he2).trans he3)
  · cases hv
/-- a row of numbers that is handed in -/
theorem RepP.ints {w : World} {R : Nat → Prop} {k : IntKind} {n : Nat} {f : Nat → Nat → AV} {v : Value} {l : List Int} (h : RepP w R (.row 1 n f) v) (hR : ∀ g, R g → g < w.heap.size) (hn : n = l.length) (hf : ∀ i, i < n → f i 0 = .int k (l.getD i 0)) :
    ∃ A c, v = .slice A l.length c ∧ l.length ≤ c ∧ c ≤ maxLen ∧ Rd w w.heap.size A (l.map (Value.int k)) := by
  subst hn
  cases h with
  | row A cap u hn hc hA h1 hu =>
    refine ⟨A, cap, rfl, hn, hc, fun hl => ?_⟩
    rw [List.length_map] at hl
    obtain ⟨g, o, rfl, hg, hcell⟩ := hA (by omega)
    refine ⟨⟨g, o, none⟩, rfl, hR g hg, fun j x hx => ?_⟩
    have hj : j < l.length := by
      have := (List.getElem?_eq_some_iff.1 hx).1
      simpa using this
    have h2 := hu j hj 0 (by omega)
    rw [hf j hj] at h2
    have h3 : u j 0 = .int k (l.getD j 0) := by
      generalize u j 0 = z at h2
      cases h2; rfl
    have h4 := hcell j hj 0 (by omega)
    rw [h3] at h4
    rw [List.getElem?_map, List.getElem?_eq_getElem hj, Option.map_some, Option.some.injEq] at hx
    rw [← hx, show Addr.add ⟨g, o, none⟩ j = ⟨g, o + j, none⟩ from adr_mk g o j]
    rw [show o + (j * 1 + 0) = o + j by omega] at h4
    rw [h4]
    simp [List.getD, hj]
/-- a contract of the elder kind: a row of the call's own -/
theorem PureC.ofOwn {f : FuncId} {args : List AV} {t : TypeId} {k : IntKind} {l : List Int} {n : Nat} {g : Nat → Nat → AV} (hn : n = l.length) (hg : ∀ i, i < n → g i 0 = .int k (l.getD i 0))
    (h : ∀ (w : World) (R : Nat → Prop) (vs : Array Value), (∀ g, R g → g < w.heap.size) → args.length = vs.size → (∀ (j : Nat) a v, args[j]? = some a → vs[j]? = some v → RepP w R a v) → Calls P f vs w (RetOwn w.heap.size t (l.map (Value.int k)) w)) :
    PureC P f args (.own 0 0 1 0 n) [⟨0, false, t, .rows 1 n g⟩] := by
  subst hn
  intro w R vs hR hl ha
  refine (h w R vs hR hl ha).mono ?_
  rintro e w' ⟨v, rfl, hown, hb⟩
  have hlen : (l.map (Value.int k)).length = l.length := List.length_map _
  have hR' : ∀ g, R g → g < w'.heap.size := fun g hg => Nat.lt_of_lt_of_le (hR g hg) hb.size
  rcases hown.2 with ⟨rfl, h0⟩ | ⟨gg, cap, cur, rfl, hge, hh, hnc, hcm, hsz, htk⟩
  · rw [hlen] at h0
    refine ⟨_, ⟨w', R, fun _ => none, fun i => [(⟨0, false, t, .rows 1 l.length g⟩ : Blk)][i]?, w.heap.size⟩, rfl, rfl, rfl, ⟨fun id b hb' => ?_, fun _ _ _ _ _ _ _ h1 _ => (by cases h1), hR', hb.size⟩, rfl, fun _ h => h, fun _ h => .inl h, hb, ?_⟩
    · cases id with
      | zero =>
        simp only [List.getElem?_cons_zero, Option.some.injEq] at hb'
        subst hb'
        exact .inl ⟨rfl, h0⟩
      | succ i => simp at hb'
    · exact .own (b := ⟨0, false, t, .rows 1 l.length g⟩) rfl (Nat.le_refl _) rfl fun _ => ⟨l.length, g, rfl, by omega, .inl ⟨rfl, rfl, h0, rfl⟩⟩
  · rw [hlen] at hnc htk
    have hlt : gg < w'.heap.size := (Array.getElem?_eq_some_iff.1 hh).1
    refine ⟨_, ⟨w', R, fun i => if i = 0 then some (gg, cap) else none, fun i => [(⟨0, false, t, .rows 1 l.length g⟩ : Blk)][i]?, w.heap.size⟩, rfl, rfl, rfl, ⟨fun id b hb' => ?_, fun i j _ _ _ _ _ h1 h2 => ?_, hR', hb.size⟩, rfl, fun _ h => h, fun _ h => .inl h, hb, ?_⟩
    · cases id with
      | zero =>
        simp only [List.getElem?_cons_zero, Option.some.injEq] at hb'
        subst hb'
        refine .inr ⟨gg, cap, cur, rfl, hh, hsz, hnc, hcm, fun i hi j hj => ?_, hge, ?_⟩
        · obtain rfl : j = 0 := by omega
          have h5 : cur.toList[i]? = some (.int k (l.getD i 0)) := by
            have := congrArg (fun (x : List Value) => x[i]?) htk
            simp only [List.getElem?_map] at this
            rw [List.getElem?_take, if_pos (by omega)] at this
            rw [this]
            simp [List.getD, hi]
          refine ⟨.int k (l.getD i 0), ?_, rfl, ?_⟩
          · rw [← Array.getElem?_toList, show i * 1 + 0 = i by omega]
            exact h5
          · rw [hg i hi]
            exact .int _ _
        · show ¬ R gg
          intro hr
          have := hR gg hr
          omega
      | succ i => simp at hb'
    · simp only at h1 h2
      split at h1
      · split at h2
        · omega
        · cases h2
      · cases h1
    · refine .own (b := ⟨0, false, t, .rows 1 l.length g⟩) rfl (Nat.le_refl _) rfl fun _ => ⟨l.length, g, rfl, by omega, .inr ⟨gg, cap, rfl, ?_⟩⟩
      rw [hlen]
      simp
end
end
end Go.Proofs.Ytjdiabjmphdhiaa.Rx
namespace Go.Proofs.Ytjdiabjmphdhiaa
section
open Go.RowKit
/-- it answers v, and the world is as it was -/
def Ret (v : Value) (w : World) (e : Ending) (w' : World) : Prop := e = .returned v ∧ w = w'
theorem Ret.mk {v v' : Value} {w : World} (h : v' = v) : Ret v w (.returned v') w := ⟨by rw [h], rfl⟩
theorem Ret.b {X : Value} {a a' : Bool} {w : World} (hx : X = .bool a') (h : a' = a) : Ret (.bool a) w (.returned X) w := ⟨by rw [hx, h], rfl⟩
theorem Ret.i {X : Value} {k : IntKind} {a a' : Int} {w : World} (hx : X = .int k a') (h : a' = a) : Ret (.int k a) w (.returned X) w := ⟨by rw [hx, h], rfl⟩

theorem infoI : (Try.prog.info? 3).map (fun i => (i.zero, i.size, i.bytes)) = some (some (.int .i64 0), 1, 8) := by kernel_rfl
theorem infoB : (Try.prog.info? 5).map (fun i => (i.zero, i.size, i.bytes)) = some (some (.int .u8 0), 1, 1) := by kernel_rfl

end
end Go.Proofs.Ytjdiabjmphdhiaa
namespace Go.Proofs.Ytjdiabjmphdhiaa
section
open Go.RowKit
theorem grow_own (w : World) (n cap : Nat) (h0 : n ≤ cap) (hc : cap ≤ maxLen) : (w.drew.alloc (.cells (Builtin.zeroCells #[.int .i64 0] n ++ Builtin.zeroCells #[.int .i64 0] (cap - n)) 3)).ownsRow w.heap.size 3 1 (.slice (some ⟨w.heap.size, 0, none⟩) 0 cap) 0 [] := by
  refine ⟨rfl, .inr ⟨w.heap.size, cap, Builtin.zeroCells #[.int .i64 0] n ++ Builtin.zeroCells #[.int .i64 0] (cap - n), rfl, Nat.le_refl _, ?_, by omega, hc, ?_, by simp⟩⟩
  · exact heap_alloc_new w.drew _
  · simp [Builtin.zeroCells]; omega
set_option maxHeartbeats 2000000 in
theorem grow_any (n : Nat) (w : World) (h0 : 0 < n) (hn : n ≤ 1000000) :
    Calls Try.prog 70 #[.slice none 0 0, .int .i64 n] w (fun e w' => ∃ v, e = .returned v ∧ w'.ownsRow w.heap.size 3 1 v 0 [] ∧ Below w.heap.size w w') := by
  obtain ⟨i0, hi0, hz0, hs0, hb0⟩ := info_parts infoI
  have hrun := Lib.run_append_nil_zeros (P := Try.prog) w 22 3 22 3 i0 (.int .i64 0) .i64 .i64 rfl rfl hi0 hz0 n h0 (by omega) (by omega) (by rw [hb0]; omega)
  have hge := grownCap_ge w n 0 3
  have hle := grownCap_le_maxLen w n 0 3 (by simp only [maxLen]; omega)
  go_enter Try.func70, Try.ntmps70
  go_wp2_with (at_builtin; refine Lib.wpList_append_run _ rfl _ _ _ _ rfl _ _ rfl rfl _ _ hrun ?_)
  go_ret
  refine ⟨_, rfl, ?_, ?_⟩
  · exact grow_own w n _ hge hle
  · exact upA (upD (up0 w) 1) _
/-- a slice of numbers: where it lies, its capacity, what it reads as -/
abbrev Part := Option Addr × Nat × List Int
def Part.v (p : Part) : Value := .slice p.1 p.2.2.length p.2.1
def tot : List Part → Nat
  | [] => 0
  | p :: l => p.2.2.length + tot l
def allP : List Part → List Int
  | [] => []
  | p :: l => p.2.2 ++ allP l
def pd : Part := (none, 0, [])
theorem tot_take {l : List Part} {k : Nat} (h : k < l.length) : tot (l.take (k + 1)) = tot (l.take k) + (l.getD k pd).2.2.length := by
  induction l generalizing k with
  | nil => simp at h
  | cons p l ih =>
    cases k with
    | zero => simp [tot]
    | succ k =>
      have := ih (k := k) (by simpa using h)
      simp only [List.take_succ_cons, tot, this, List.getD_cons_succ]
      omega
theorem allP_take {l : List Part} {k : Nat} (h : k < l.length) : allP (l.take (k + 1)) = allP (l.take k) ++ (l.getD k pd).2.2 := by
  induction l generalizing k with
  | nil => simp at h
  | cons p l ih =>
    cases k with
    | zero => simp [allP]
    | succ k =>
      have := ih (k := k) (by simpa using h)
      simp only [List.take_succ_cons, allP, this, List.getD_cons_succ, List.append_assoc]
theorem tot_le (l : List Part) (k : Nat) : tot (l.take k) ≤ tot l := by
  induction l generalizing k with
  | nil => simp
  | cons p l ih =>
    cases k with
    | zero => simp [tot]
    | succ k => simp only [List.take_succ_cons, tot]; have := ih k; omega
theorem allP_len (l : List Part) : (allP l).length = tot l := by
  induction l with
  | nil => rfl
  | cons p l ih => simp [allP, tot, ih]
theorem part_at {w : World} {B : Nat} {A : Option Addr} {l : List Part} (h : Rd w B A (l.map Part.v)) {k : Nat} (hk : k < l.length) :
    ∃ ad, A = some ad ∧ ad.block < B ∧ w.cell? (ad.add k) = some (.slice (l.getD k pd).1 (l.getD k pd).2.2.length (l.getD k pd).2.1) := by
  obtain ⟨ad, e, hb, hc⟩ := h (by simp; omega)
  refine ⟨ad, e, hb, hc k _ ?_⟩
  simp [List.getD, hk, Part.v]
set_option maxHeartbeats 2000000 in
theorem concat_any (A : Option Addr) (n c : Nat) (l : List Part) (w : World) (hn : n = l.length) (hr : Rd w w.heap.size A (l.map Part.v)) (hp : ∀ k, k < l.length → Rd w w.heap.size (l.getD k pd).1 ((l.getD k pd).2.2.map (Value.int .i64))) (h0 : 0 < tot l) (ht : tot l ≤ 1000000) (hl : l.length ≤ 1000) :
    Calls Try.prog 53 #[.slice A n c] w (RetOwn w.heap.size 3 ((allP l).map (Value.int .i64)) w) := by
  subst hn
  obtain ⟨i0, hi0, hz0, hs0, hb0⟩ := info_parts infoI
  go_enter Try.func53, Try.ntmps53
  go_wp2_with fail
  go_loopw [3, 11] (fun s i wr => ∃ k : Nat, k ≤ l.length ∧ i = .int .i64 k ∧ s = .int .i64 (tot (l.take k) : Nat) ∧ w = wr) (fun _ i _ => l.length - (intOf i).toNat)
  case atStart => exact ⟨0, by omega, rfl, rfl, rfl⟩
  case round =>
    obtain ⟨k, hk, rfl, rfl, rfl⟩ := hrel
    by_cases hlt : k < l.length
    · obtain ⟨ad, rfl, hb, hc⟩ := part_at hr hlt
      have h1 := tot_take hlt
      have h2 := tot_le l (k + 1)
      obtain ⟨⟨pa, pc, px⟩, hpd⟩ : ∃ p, l.getD k pd = p := ⟨_, rfl⟩
      rw [hpd] at hc h1
      simp only at hc h1
      clear hpd
      go_wp2_with fail
      go_round
      case rel =>
        refine ⟨k + 1, by omega, by go_num, ?_, by first | rfl | trivial⟩
        rw [h1]; go_num
      case measure => simp [intOf]; omega
    · obtain rfl : k = l.length := by omega
      rw [List.take_length]
      go_wp2_with (go_at_call 70; refine (grow_any _ _ h0 ht).mono ?_; rintro e w1 ⟨v1, rfl, hown1, hb1⟩)
      go_loopw [6, 27] (fun v i wr => ∃ k : Nat, k ≤ l.length ∧ i = .int .i64 k ∧ wr.ownsRow w.heap.size 3 1 v (tot (l.take k)) ((allP (l.take k)).map (Value.int .i64)) ∧ Below w.heap.size w wr) (fun _ i _ => l.length - (intOf i).toNat)
      case atStart => exact ⟨0, by omega, rfl, by simpa [tot, allP] using hown1, hb1⟩
      case round =>
        obtain ⟨k, hk, rfl, hown2, hb2⟩ := hrel
        have hs2 := hb2.size
        by_cases hlt : k < l.length
        · obtain ⟨ad, rfl, hb, hc⟩ := part_at (hr.below hb2 (Nat.le_refl _)) hlt
          have hrk := (hp k hlt).below hb2 (Nat.le_refl _)
          have h1 := tot_take hlt
          have h2 := tot_le l (k + 1)
          have h3 := allP_take hlt
          obtain ⟨⟨pa, pc, px⟩, hpd⟩ : ∃ p, l.getD k pd = p := ⟨_, rfl⟩
          rw [hpd] at hc h1 hrk h3
          simp only at hc h1 hrk h3
          have HA := Lib.hid h3
          clear hpd h3
          go_wp2_with (at_builtin; refine wp_appR _ rfl (.tmp 31) (.tmp 32) _ rfl w.heap.size 3 i0 _ 8 Try.underlying22 hi0 hz0 hs0 hb0 rfl _ _ _ rfl hown2 w.heap.size _ _ _ _ rfl (by rw [List.length_map]) hrk (ints_one _ _) (by omega) (by omega) hs2 ?_; intro v3 w3 hown3 hb3)
          go_round
          case rel =>
            refine ⟨k + 1, by omega, by go_num, ?_, hb2.trans hb3⟩
            rw [h1, HA.out, List.map_append]
            exact hown3
          case measure => simp [intOf]; omega
        · obtain rfl : k = l.length := by omega
          go_wp2
          go_ret
          rw [List.take_length] at hown2
          refine ⟨_, rfl, ?_, hb2⟩
          rw [List.length_map, allP_len]
          exact hown2
set_option maxHeartbeats 2000000 in
theorem clone_any (A : Option Addr) (n c : Nat) (xs : List Int) (w : World) (hn : n = xs.length) (hr : Rd w w.heap.size A (xs.map (Value.int .i64))) (hs : n ≤ 1000000) :
    Calls Try.prog 37 #[.slice A n c] w (RetOwn w.heap.size 3 (xs.map (Value.int .i64)) w) := by
  subst hn
  obtain ⟨i0, hi0, hz0, hs0, hb0⟩ := info_parts infoI
  cases A with
  | none =>
    have hx : xs = [] := by have := hr.none_nil; simpa using this
    subst hx
    have he : ∀ w : World, (binOp .eql 22 (.slice none 0 c) (.slice none 0 0)).run Try.prog w = .ok (.bool true) w := fun _ => rfl
    go_enter Try.func37, Try.ntmps37
    go_wp2_with fail
    go_ret
    exact ⟨_, rfl, World.ownsRow_nil _ _ _ _, up0 _⟩
  | some ad =>
    have hlit := own_lit1 w 3 _ rfl
    have he : ∀ w : World, (binOp .eql 22 (.slice (some ad) xs.length c) (.slice none 0 0)).run Try.prog w = .ok (.bool false) w := fun _ => rfl
    go_enter Try.func37, Try.ntmps37
    go_wp2_with (at_builtin; refine wp_appR _ rfl (.tmp 5) (.tmp 6) _ rfl w.heap.size 3 i0 _ 8 Try.underlying22 hi0 hz0 hs0 hb0 rfl _ 0 [] rfl hlit (w.alloc (.cells #[] 3)).heap.size (some ad) xs.length c (xs.map (Value.int .i64)) rfl (by simp) (hr.allocT _) (ints_one _ _) (by omega) (by omega) (by simp) ?_; intro v1 w1 hown1 hb1)
    go_ret
    refine ⟨_, rfl, ?_, (upA (up0 w) _).trans hb1⟩
    have := own_zero hown1
    rwa [List.length_map]
end
end Go.Proofs.Ytjdiabjmphdhiaa
namespace Go.Proofs.Ytjdiabjmphdhiaa
section
namespace Cd
/-- a number that takes one byte -/
def nrB (n : Int) : Bool := decide (-1 ≤ n) && decide (n ≤ 253)
theorem nrB_iff {n : Int} : nrB n = true ↔ -1 ≤ n ∧ n ≤ 253 := by simp [nrB]
theorem nrB_not {n : Int} : nrB n = false ↔ n < -1 ∨ 253 < n := by
  cases h : nrB n
  · simp [nrB] at h; simp; omega
  · have := nrB_iff.1 h; simp; omega
/-- byte k of eight, the highest first -/
def byteAt (n : Int) (k : Nat) : Int := n % 18446744073709551616 / 2 ^ (8 * (7 - k)) % 256
def eight (n : Int) : List Int := (List.range 8).map (byteAt n)
def putN (n : Int) : List Int := if nrB n = true then [n + 1] else 255 :: eight n
def putL : List Int → List Int
  | [] => []
  | n :: l => putN n ++ putL l
def isI (xs : List Int) : Prop := ∀ x ∈ xs, -9223372036854775808 ≤ x ∧ x < 9223372036854775808

theorem eight_len (n : Int) : (eight n).length = 8 := by simp [eight]
theorem putN_len (n : Int) : (putN n).length = if nrB n = true then 1 else 9 := by
  unfold putN; split <;> simp [eight_len]
theorem putL_append (l m : List Int) : putL (l ++ m) = putL l ++ putL m := by
  induction l with
  | nil => rfl
  | cons n l ih => simp [putL, ih]
theorem putL_snoc (l : List Int) (n : Int) : putL (l ++ [n]) = putL l ++ putN n := by rw [putL_append]; simp [putL]
theorem putL_len_le (l : List Int) : (putL l).length ≤ 9 * l.length := by
  induction l with
  | nil => simp [putL]
  | cons n l ih =>
    have := putN_len n
    simp only [putL, List.length_append, List.length_cons]
    split at this <;> omega
end Cd
end
end Go.Proofs.Ytjdiabjmphdhiaa
namespace Go.Proofs.Ytjdiabjmphdhiaa
section
open Go.RowKit
theorem narrow_any (n : Int) (w : World) : Calls Try.prog 79 #[.int .i64 n] w (Ret (.bool (Cd.nrB n)) w) := by
  by_cases h1 : -1 ≤ n
  all_goals by_cases h2 : n ≤ 253
  all_goals
    go_enter Try.func79, Try.ntmps79
    go_wp2
    go_ret
    exact Ret.b rfl (by simp [Cd.nrB]; omega)

theorem eight_snoc (m : Int) (k : Nat) (h : k < 8) : (Cd.eight m).take (k + 1) = (Cd.eight m).take k ++ [Cd.byteAt m k] := by
  rw [List.take_succ_eq_append_getElem (by rw [Cd.eight_len]; exact h)]
  simp [Cd.eight]
theorem byteAt_w (m : Int) (k : Nat) : IntKind.u64.wrap m / 2 ^ (8 * (7 - k)) % 256 = Cd.byteAt m k := by unfold Cd.byteAt; rw [IntKind.wrap_u64]
theorem RetOwn.mk {B : Nat} {t : TypeId} {xs ys : List Value} {n : Nat} {w w' : World} {v : Value} (h : w'.ownsRow B t 1 v n ys) (he : ys = xs) (hb : Below B w w') : RetOwn B t xs w (.returned v) w' := by
  subst he
  have := own_len h
  subst this
  exact ⟨v, rfl, h, hb⟩

set_option maxHeartbeats 1000000 in
theorem put_any (B : Nat) (v : Value) (n : Nat) (xs : List Int) (m : Int) (w : World) (hown : w.ownsRow B 5 1 v n (xs.map (Value.int .u8))) (hB : B ≤ w.heap.size) (hn : n ≤ 1099511627000)
    (h1 : -9223372036854775808 ≤ m) (h2 : m < 9223372036854775808) :
    Calls Try.prog 71 #[v, .int .i64 m] w (RetOwn B 5 ((xs ++ Cd.putN m).map (Value.int .u8)) w) := by
  obtain ⟨i0, hi0, hz0, hs0, hb0⟩ := info_parts infoB
  cases hnr : Cd.nrB m
  · have hp : (xs ++ Cd.putN m).map (Value.int .u8) = (xs.map (Value.int .u8) ++ [Value.int .u8 255]) ++ (Cd.eight m).map (Value.int .u8) := by simp [Cd.putN, hnr]
    have HP := Lib.hid hp
    clear hp
    go_enter Try.func71, Try.ntmps71
    go_wp2_with (first
      | (go_at_call 79; refine (narrow_any _ _).mono ?_; rintro e w' ⟨rfl, rfl⟩)
      | (at_builtin; refine wp_app1 _ rfl (.tmp 14) (.tmp 15) _ rfl B 5 i0 _ 1 Try.underlying60 hi0 hz0 hs0 hb0 rfl v n _ rfl hown (.int .u8 255) rfl rfl (by omega) (by omega) hB ?_; intro v1 w1 hown1 hb1))
    go_loopw [0, 5] (fun v i wr => ∃ k : Nat, k ≤ 8 ∧ i = .int .i64 (7 - k) ∧ wr.ownsRow B 5 1 v (n + 1 + k) ((xs.map (Value.int .u8) ++ [Value.int .u8 255]) ++ ((Cd.eight m).take k).map (Value.int .u8)) ∧ Below B w wr) (fun _ i _ => (intOf i + 1).toNat)
    case atStart => exact ⟨0, by omega, rfl, by simpa using hown1, hb1⟩
    case round =>
      obtain ⟨k, hk, rfl, hown2, hb2⟩ := hrel
      by_cases hlt : k < 8
      · have hB2 : B ≤ wr.heap.size := by have := hb2.size; omega
        go_wp2_with (at_builtin; refine wp_app1 _ rfl (.tmp 21) (.tmp 28) _ rfl B 5 i0 _ 1 Try.underlying60 hi0 hz0 hs0 hb0 rfl _ (n + 1 + k) _ rfl hown2 _ rfl rfl (by omega) (by omega) hB2 ?_; intro v3 w3 hown3 hb3)
        go_round
        case rel =>
          refine ⟨k + 1, by omega, by go_num, ?_, hb2.trans hb3⟩
          rw [eight_snoc m k hlt, List.map_append, List.map_cons, List.map_nil, ← List.append_assoc]
          rw [byteAt_w] at hown3
          exact hown3
        case measure => simp [intOf]; omega
      · have : k = 8 := by omega
        subst this
        go_wp2
        go_ret
        refine RetOwn.mk hown2 ?_ hb2
        rw [HP.out, List.take_of_length_le (by rw [Cd.eight_len]; omega)]
  · have hm := Cd.nrB_iff.1 hnr
    obtain ⟨hm1, hm2⟩ := hm
    have hp : (xs ++ Cd.putN m).map (Value.int .u8) = xs.map (Value.int .u8) ++ [Value.int .u8 (m + 1)] := by simp [Cd.putN, hnr]
    have HP := Lib.hid hp
    clear hp
    go_enter Try.func71, Try.ntmps71
    go_wp2_with (first
      | (go_at_call 79; refine (narrow_any _ _).mono ?_; rintro e w' ⟨rfl, rfl⟩)
      | (at_builtin; refine wp_app1 _ rfl (.tmp 8) (.tmp 12) _ rfl B 5 i0 _ 1 Try.underlying60 hi0 hz0 hs0 hb0 rfl v n _ rfl hown (.int .u8 (m + 1)) rfl rfl (by omega) (by omega) hB ?_; intro v1 w1 hown1 hb1))
    go_ret
    exact RetOwn.mk hown1 HP.out.symm hb1

theorem isI_at {l : List Int} (h : Cd.isI l) {k : Nat} (hk : k < l.length) : -9223372036854775808 ≤ l.getD k 0 ∧ l.getD k 0 < 9223372036854775808 := by
  have := h l[k] (List.getElem_mem hk)
  simpa [List.getD, hk] using this
theorem take_snoc (l : List Int) (k : Nat) (h : k < l.length) : l.take (k + 1) = l.take k ++ [l.getD k 0] := by
  rw [List.take_succ_eq_append_getElem h]
  simp [List.getD, h]
set_option maxHeartbeats 1000000 in
theorem Put_any (A : Option Addr) (n c : Nat) (l : List Int) (w : World) (hn : n = l.length) (hx : Rd w w.heap.size A (l.map (Value.int .i64))) (hl : Cd.isI l) (hs : n ≤ 1000000) :
    Calls Try.prog 54 #[.slice A n c] w (RetOwn w.heap.size 5 ((Cd.putL l).map (Value.int .u8)) w) := by
  subst hn
  obtain ⟨i0, hi0, hz0, hs0, hb0⟩ := info_parts infoB
  go_enter Try.func54, Try.ntmps54
  go_wp2_with (at_make; refine wpList_make_own _ rfl _ _ 60 rfl w.heap.size 5 i0 _ 1 Try.underlying60 hi0 hz0 hs0 _ _ _ l.length rfl rfl (by omega) (by rw [hb0]; omega) (by simp only [maxLen]; omega) (by omega) ?_; intro w1 hown1 hg1)
  have hb1 : Below w.heap.size w w1 := (Below.refl _ _).grown hg1 (by omega) (by simp)
  go_loopw [3, 11] (fun v i wr => ∃ k : Nat, k ≤ l.length ∧ i = .int .i64 k ∧ wr.ownsRow w.heap.size 5 1 v ((Cd.putL (l.take k)).map (Value.int .u8)).length ((Cd.putL (l.take k)).map (Value.int .u8)) ∧ Below w.heap.size w wr) (fun _ i _ => l.length - (intOf i).toNat)
  case atStart => exact ⟨0, by omega, rfl, by simpa [Cd.putL] using hown1, hb1⟩
  case round =>
    obtain ⟨k, hk, rfl, hown2, hb2⟩ := hrel
    have hs2 := hb2.size
    by_cases hlt : k < l.length
    · have hx2 := hx.below hb2 (by omega)
      obtain ⟨ad, rfl, hb, hc⟩ := hx2.at_ (k := k) hlt
      have hz := isI_at hl hlt
      have hlen : ((Cd.putL (l.take k)).map (Value.int .u8)).length ≤ 9000000 := by
        rw [List.length_map]
        have := Cd.putL_len_le (l.take k)
        rw [List.length_take] at this
        omega
      go_wp2_with (go_at_call 71; refine (put_any w.heap.size _ _ _ _ _ hown2 (by omega) (by omega) (by first | exact hz.1 | (simpa [List.getD, hlt] using hz.1)) (by first | exact hz.2 | (simpa [List.getD, hlt] using hz.2))).mono ?_; rintro e w' ⟨v3, rfl, hown3, hb3⟩)
      go_round
      case rel =>
        refine ⟨k + 1, by omega, by go_num, ?_, hb2.trans hb3⟩
        rw [take_snoc l k hlt, Cd.putL_snoc]
        simpa [List.getD, hlt] using hown3
      case measure => simp [intOf]; omega
    · go_wp2
      go_ret
      have hk : k = l.length := by omega
      subst hk
      rw [List.take_of_length_le (by omega)] at hown2
      exact ⟨_, rfl, hown2, hb2⟩
end
end Go.Proofs.Ytjdiabjmphdhiaa
namespace Go.Proofs.Ytjdiabjmphdhiaa
section
open Go.RowKit
theorem byteAt_p (m : Int) (k : Nat) (h0 : 0 ≤ m) (h1 : m < 9223372036854775808) : m / 2 ^ (8 * (7 - k)) % 256 = Cd.byteAt m k := by
  rw [← byteAt_w, IntKind.wrap_u64, Int.emod_eq_of_lt h0 (by omega)]
set_option maxHeartbeats 2000000 in
theorem rPut_any (A : Option Addr) (n c : Nat) (l : List Int) (w : World) (hn : n = l.length) (hx : Rd w w.heap.size A (l.map (Value.int .i64))) (hl : Cd.isI l) (hs : n ≤ 1000000) :
    Calls Try.prog 36 #[.slice A n c] w (RetOwn w.heap.size 5 ((Cd.putL l).map (Value.int .u8)) w) := by
  subst hn
  obtain ⟨i0, hi0, hz0, hs0, hb0⟩ := info_parts infoB
  go_enter Try.func36, Try.ntmps36
  go_wp2
  go_loopw [3, 4] (fun v i wr => ∃ k : Nat, k ≤ l.length ∧ i = .int .i64 k ∧ wr.ownsRow w.heap.size 5 1 v ((Cd.putL (l.take k)).map (Value.int .u8)).length ((Cd.putL (l.take k)).map (Value.int .u8)) ∧ Below w.heap.size w wr) (fun _ i _ => l.length - (intOf i).toNat)
  case atStart => exact ⟨0, by omega, rfl, by simpa [Cd.putL] using World.ownsRow_nil _ _ _ _, Below.refl _ _⟩
  case round =>
    obtain ⟨k, hk, rfl, hown2, hb2⟩ := hrel
    have hs2 := hb2.size
    by_cases hlt : k < l.length
    · have hx2 := hx.below hb2 (by omega)
      obtain ⟨ad, rfl, hb, hc⟩ := hx2.at_ (k := k) hlt
      obtain ⟨z1, z2⟩ := isI_at hl hlt
      have hlen : ((Cd.putL (l.take k)).map (Value.int .u8)).length ≤ 9000000 := by
        rw [List.length_map]
        have := Cd.putL_len_le (l.take k)
        rw [List.length_take] at this
        omega
      have hst := take_snoc l k hlt
      generalize l.getD k 0 = m at hc z1 z2 hst
      have hst2 : (Cd.putL (l.take (k + 1))).map (Value.int .u8) = (Cd.putL (l.take k)).map (Value.int .u8) ++ (Cd.putN m).map (Value.int .u8) := by rw [hst, Cd.putL_snoc, List.map_append]
      have HST := Lib.hid hst2
      clear hst hst2
      generalize hX : (Cd.putL (l.take k)).map (Value.int .u8) = X at hown2 hlen HST
      clear hX
      cases hnr : Cd.nrB m
      · have hp : (Cd.putN m).map (Value.int .u8) = [Value.int .u8 255] ++ (Cd.eight m).map (Value.int .u8) := by simp [Cd.putN, hnr]
        have HP := Lib.hid hp
        have hm := Cd.nrB_not.1 hnr
        clear hp hnr
        by_cases hm1 : -1 ≤ m
        all_goals
          first | (have hm2 : 253 < m := by omega) | (have hm2 : m < -1 := by omega)
          clear hm
          obtain ⟨wo, rfl⟩ : ∃ wo : World, wo = wr := ⟨_, rfl⟩
          go_wp2_with (at_builtin; refine wp_app1 _ rfl (.tmp 29) (.tmp 30) _ rfl w.heap.size 5 i0 _ 1 Try.underlying60 hi0 hz0 hs0 hb0 rfl _ _ _ rfl hown2 (.int .u8 255) rfl rfl (by omega) (by omega) hs2 ?_; intro v1 w1 hown1 hb1)
          go_loopw [3, 6] (fun v i w4 => ∃ j : Nat, j ≤ 8 ∧ i = .int .i64 (7 - j) ∧ w4.ownsRow w.heap.size 5 1 v (X.length + 1 + j) ((X ++ [Value.int .u8 255]) ++ ((Cd.eight m).take j).map (Value.int .u8)) ∧ Below w.heap.size wo w4) (fun _ i _ => (intOf i + 1).toNat)
          case atStart => exact ⟨0, by omega, rfl, by simpa using hown1, hb1⟩
          case round =>
            obtain ⟨j, hj, rfl, hown5, hb5⟩ := hrel
            have hs5 := hb5.size
            by_cases hjt : j < 8
            · go_wp2_with (at_builtin; refine wp_app1 _ rfl (.tmp 36) (.tmp 44) _ rfl w.heap.size 5 i0 _ 1 Try.underlying60 hi0 hz0 hs0 hb0 rfl _ _ _ rfl hown5 _ rfl rfl (by omega) (by omega) (by omega) ?_; intro v6 w6 hown6 hb6)
              go_round
              case rel =>
                refine ⟨j + 1, by omega, by go_num, ?_, hb5.trans hb6⟩
                rw [eight_snoc m j hjt, List.map_append, List.map_cons, List.map_nil, ← List.append_assoc]
                first | rw [byteAt_w] at hown6 | rw [byteAt_p m j (by omega) (by omega)] at hown6
                exact hown6
              case measure => simp [intOf]; omega
            · have : j = 8 := by omega
              subst this
              go_wp2
              go_round
              case rel =>
                refine ⟨k + 1, by omega, by go_num, ?_, hb2.trans hb5⟩
                rw [HST.out, HP.out]
                rw [List.take_of_length_le (by rw [Cd.eight_len]; omega), List.append_assoc] at hown5
                have := own_len hown5
                rw [this]; exact hown5
              case measure => simp [intOf]; omega
      · have hm := Cd.nrB_iff.1 hnr
        obtain ⟨hm1, hm2⟩ := hm
        have hp : (Cd.putN m).map (Value.int .u8) = [Value.int .u8 (m + 1)] := by simp [Cd.putN, hnr]
        have HP := Lib.hid hp
        clear hp hnr
        go_wp2_with (at_builtin; refine wp_app1 _ rfl (.tmp 23) (.tmp 27) _ rfl w.heap.size 5 i0 _ 1 Try.underlying60 hi0 hz0 hs0 hb0 rfl _ _ _ rfl hown2 (.int .u8 (m + 1)) rfl rfl (by omega) (by omega) hs2 ?_; intro v1 w1 hown1 hb1)
        go_round
        case rel => exact ⟨k + 1, by omega, by go_num, by rw [HST.out, HP.out]; simpa using hown1, hb2.trans hb1⟩
        case measure => simp [intOf]; omega
    · go_wp2
      go_ret
      have hk : k = l.length := by omega
      subst hk
      rw [List.take_of_length_le (by omega)] at hown2
      exact ⟨_, rfl, hown2, hb2⟩
end
end Go.Proofs.Ytjdiabjmphdhiaa
namespace Go.Proofs.Ytjdiabjmphdhiaa.Px
section
open Go.RowKit Go.Proofs.Ytjdiabjmphdhiaa.Rx
def rowI (l : List Int) : Nat → Nat → AV := fun i _ => .int .i64 (l.getD i 0)
def rowB (l : List Int) : Nat → Nat → AV := fun i _ => .int .u8 (l.getD i 0)
def blkI (l : List Int) : Blk := ⟨0, false, 3, .rows 1 l.length (rowI l)⟩
def blkB (l : List Int) : Blk := ⟨0, false, 5, .rows 1 l.length (rowB l)⟩
/-- a slice that reads as these numbers -/
def PartOk (a : AV) (l : List Int) : Prop := (a = .nils ∧ l = []) ∨ ∃ g, a = .row 1 l.length g ∧ ∀ i, i < l.length → g i 0 = .int .i64 (l.getD i 0)
theorem PartOk.nil : PartOk .nils [] := .inl ⟨rfl, rfl⟩
theorem PartOk.row (l : List Int) : PartOk (.row 1 l.length (rowI l)) l := .inr ⟨_, rfl, fun _ _ => rfl⟩
theorem PartOk.rep {w : World} {R : Nat → Prop} {a : AV} {l : List Int} {v : Value} (h : PartOk a l) (hr : RepP w R a v) (hR : ∀ g, R g → g < w.heap.size) : ∃ A c, v = .slice A l.length c ∧ Rd w w.heap.size A (l.map (Value.int .i64)) := by
  rcases h with ⟨rfl, rfl⟩ | ⟨g, rfl, hg⟩
  · cases hr with
    | nils => exact ⟨none, 0, rfl, Rd.nil⟩
  · obtain ⟨A, c, e, _, _, h⟩ := hr.ints hR rfl hg
    exact ⟨A, c, e, h⟩
theorem one_arg {args : List AV} {vs : Array Value} {a : AV} (h : args = [a]) (hl : args.length = vs.size) {w : World} {R : Nat → Prop} (ha : ∀ (j : Nat) a v, args[j]? = some a → vs[j]? = some v → RepP w R a v) : ∃ v, vs = #[v] ∧ RepP w R a v := by
  subst h
  obtain ⟨vs⟩ := vs
  match vs, hl with
  | [v], _ => exact ⟨v, rfl, ha 0 a v rfl rfl⟩
theorem cloneC {a : AV} {l : List Int} (h : PartOk a l) (hl : l.length ≤ 1000000) : PureC Try.prog 37 [a] (.own 0 0 1 0 l.length) [blkI l] :=
  PureC.ofOwn (k := .i64) (l := l) rfl (fun _ _ => rfl) fun w R vs hR hn ha => by
    obtain ⟨v, rfl, hv⟩ := one_arg rfl hn ha
    obtain ⟨A, c, rfl, hr⟩ := h.rep hv hR
    exact clone_any A _ c l w rfl hr hl
theorem putC {a : AV} {l : List Int} (h : PartOk a l) (hl : l.length ≤ 1000000) (hi : Cd.isI l) : PureC Try.prog 54 [a] (.own 0 0 1 0 (Cd.putL l).length) [blkB (Cd.putL l)] :=
  PureC.ofOwn (k := .u8) (l := Cd.putL l) rfl (fun _ _ => rfl) fun w R vs hR hn ha => by
    obtain ⟨v, rfl, hv⟩ := one_arg rfl hn ha
    obtain ⟨A, c, rfl, hr⟩ := h.rep hv hR
    exact Put_any A _ c l w rfl hr hi hl
theorem rputC {a : AV} {l : List Int} (h : PartOk a l) (hl : l.length ≤ 1000000) (hi : Cd.isI l) : PureC Try.prog 36 [a] (.own 0 0 1 0 (Cd.putL l).length) [blkB (Cd.putL l)] :=
  PureC.ofOwn (k := .u8) (l := Cd.putL l) rfl (fun _ _ => rfl) fun w R vs hR hn ha => by
    obtain ⟨v, rfl, hv⟩ := one_arg rfl hn ha
    obtain ⟨A, c, rfl, hr⟩ := h.rep hv hR
    exact rPut_any A _ c l w rfl hr hi hl
def partV : Value → Option Addr × Nat
  | .slice A _ c => (A, c)
  | _ => (none, 0)
theorem allP_flat (l : List Part) : allP l = (l.map (·.2.2)).flatten := by
  induction l with
  | nil => rfl
  | cons p l ih => simp [allP, ih]
theorem concatC {f : Nat → Nat → AV} {L : List (List Int)} (h : ∀ i, i < L.length → PartOk (f i 0) (L.getD i [])) (h0 : 0 < L.flatten.length) (ht : L.flatten.length ≤ 1000000) (hL : L.length ≤ 1000) :
    PureC Try.prog 53 [.row 1 L.length f] (.own 0 0 1 0 L.flatten.length) [blkI L.flatten] :=
  PureC.ofOwn (k := .i64) (l := L.flatten) rfl (fun _ _ => rfl) fun w R vs hR hn ha => by
    obtain ⟨v, rfl, hv⟩ := one_arg rfl hn ha
    cases hv with
    | row A cap u hnc hc hA h1 hu =>
      let l : List Part := (List.range L.length).map fun i => ((partV (u i 0)).1, (partV (u i 0)).2, L.getD i [])
      have hll : l.length = L.length := by simp [l]
      have hfl : l.map (·.2.2) = L := by
        apply List.ext_getElem (by simp [l])
        intro i h1 h2
        simp [l, List.getD, h2]
      have hall : allP l = L.flatten := by rw [allP_flat, hfl]
      have hpt : ∀ i, i < L.length → l.getD i pd = ((partV (u i 0)).1, (partV (u i 0)).2, L.getD i []) := fun i hi => by
        simp [l, List.getD, hi]
      have hui : ∀ i, i < L.length → u i 0 = Part.v (l.getD i pd) ∧ Rd w w.heap.size (l.getD i pd).1 ((l.getD i pd).2.2.map (Value.int .i64)) := fun i hi => by
        obtain ⟨A', c', e, hr⟩ := (h i hi).rep (hu i hi 0 (by omega)) hR
        rw [hpt i hi, e]
        exact ⟨rfl, hr⟩
      have htot : tot l = L.flatten.length := by rw [← allP_len, hall]
      rw [← hall]
      refine concat_any A _ cap l w hll.symm (fun hl => ?_) (fun i hi => (hui i (by omega)).2) (by omega) (by omega) (by omega)
      rw [List.length_map, hll] at hl
      obtain ⟨g, o, rfl, hg, hcell⟩ := hA (by omega)
      refine ⟨⟨g, o, none⟩, rfl, hR g hg, fun j x hx => ?_⟩
      have hj : j < L.length := by
        have := (List.getElem?_eq_some_iff.1 hx).1
        simpa [hll] using this
      rw [show Addr.add ⟨g, o, none⟩ j = ⟨g, o + j, none⟩ from adr_mk g o j]
      have h4 := hcell j hj 0 (by omega)
      rw [show o + (j * 1 + 0) = o + j by omega] at h4
      rw [h4, (hui j hj).1]
      rw [List.getElem?_map, List.getElem?_eq_getElem (by omega), Option.map_some, Option.some.injEq] at hx
      rw [← hx]
      simp [List.getD, hj, hll]
end
end Go.Proofs.Ytjdiabjmphdhiaa.Px
