/- Cells and places of a program, as the document's own answer has them and as the program has. -/
import Derived.Test.YtdbnfdcjibgikaaRx24
set_option linter.unusedVariables false
set_option linter.unusedSimpArgs false
set_option maxRecDepth 100000
namespace Go.Proofs.Ytdbnfdcjibgikaa.Px
open Go.RowKit Go.Proofs.Ytdbnfdcjibgikaa.Rx
structure Mm where
  nm : ByteArray
  sec : Bool
  n : Nat
instance : Inhabited Mm := ⟨⟨.empty, false, 0⟩⟩
structure Pl where
  reg : Bool
  n : Nat
  sec : Bool
  deriving Inhabited
def mmC (m : Mm) (j : Nat) : AV := [.str m.nm, .bool m.sec, .int .i64 m.n].getD j .junk
def plC (p : Pl) (j : Nat) : AV := [.bool p.reg, .int .i64 p.n, .bool p.sec].getD j .junk
/-- a program's cells: W, Window, Fuel, Regs, and the rows -/
def progL (W r0 r1 r2 r3 : Int) (M : AV) : List AV := [.int .i64 W, .junk, .junk, .int .i64 r0, .int .i64 r1, .int .i64 r2, .int .i64 r3, M, .junk, .junk]
def memR (ms : List Mm) : AV := .row 3 ms.length (rowL mmC ms)
def sumN : List Mm → Nat
  | [] => 0
  | m :: l => m.n + sumN l
def rg (r0 r1 r2 r3 : Int) (i : Nat) : Int := [r0, r1, r2, r3].getD i 0
def regL (r : Nat → Int) : Nat → List Pl
  | 0 => []
  | k + 1 => regL r k ++ (if r k = 0 then [] else [⟨true, k, r k == 2⟩])
def celL (sec : Bool) (at_ k : Nat) : List Pl := (List.range k).map fun i => ⟨false, at_ + i, sec⟩
def memL : Nat → List Mm → List Pl
  | _, [] => []
  | at_, m :: l => celL m.sec at_ m.n ++ memL (at_ + m.n) l
def box0 (e : TypeId) (cs : List AV) : Nat × Blk := (0, ⟨0, false, e, .box cs⟩)
def plB (l : List Pl) : Blk := ⟨0, false, 39, .rows 3 l.length (rowL plC l)⟩
def places (r : Nat → Int) (ms : List Mm) : List Pl := regL r 4 ++ memL 0 ms
theorem sumN_take {ms : List Mm} {k : Nat} (hk : k < ms.length) : sumN (ms.take (k + 1)) = sumN (ms.take k) + (ms.getD k default).n := by
  induction ms generalizing k with
  | nil => simp at hk
  | cons m l ih =>
    cases k with
    | zero => simp [sumN]
    | succ k =>
      have := ih (k := k) (by simpa using hk)
      simp only [List.take_succ_cons, sumN, this, List.getD_cons_succ]
      omega
theorem sumN_take_le (ms : List Mm) (k : Nat) : sumN (ms.take k) ≤ sumN ms := by
  induction ms generalizing k with
  | nil => simp
  | cons m l ih =>
    cases k with
    | zero => simp [sumN]
    | succ k => simp only [List.take_succ_cons, sumN]; have := ih k; omega
theorem celL_succ (sec : Bool) (at_ k : Nat) : celL sec at_ (k + 1) = celL sec at_ k ++ [⟨false, at_ + k, sec⟩] := by simp [celL, List.range_succ]
theorem celL_length (sec : Bool) (at_ k : Nat) : (celL sec at_ k).length = k := by simp [celL]
theorem memL_take {ms : List Mm} {k : Nat} {at_ : Nat} (hk : k < ms.length) : memL at_ (ms.take (k + 1)) = memL at_ (ms.take k) ++ celL (ms.getD k default).sec (at_ + sumN (ms.take k)) (ms.getD k default).n := by
  induction ms generalizing k at_ with
  | nil => simp at hk
  | cons m l ih =>
    cases k with
    | zero => simp [sumN, memL]
    | succ k =>
      have := ih (k := k) (at_ := at_ + m.n) (by simpa using hk)
      simp only [List.take_succ_cons, sumN, memL, this, List.getD_cons_succ, List.append_assoc, Nat.add_assoc]
theorem memL_length (at_ : Nat) (ms : List Mm) : (memL at_ ms).length = sumN ms := by
  induction ms generalizing at_ with
  | nil => rfl
  | cons m l ih => simp only [memL, List.length_append, celL_length, ih, sumN]
theorem regL_zero {r : Nat → Int} {k : Nat} (h : r k = 0) : regL r (k + 1) = regL r k := by
  show regL r k ++ _ = _
  rw [if_pos h, List.append_nil]
theorem regL_pos {r : Nat → Int} {k : Nat} (h : ¬ r k = 0) : regL r (k + 1) = regL r k ++ [⟨true, k, r k == 2⟩] := by
  show regL r k ++ _ = _
  rw [if_neg h]
theorem regL_le (r : Nat → Int) (k : Nat) : (regL r k).length ≤ k := by
  induction k with
  | zero => simp [regL]
  | succ k ih =>
    simp only [regL, List.length_append]
    split <;> simp <;> omega
def frA7a0 (W : Int) (r0 : Int) (r1 : Int) (r2 : Int) (r3 : Int) (ms : List Mm) (Z : Prop) : Prop := (W = W) ∧ (r0 = r0) ∧ (r1 = r1) ∧ (r2 = r2) ∧ (r3 = r3) ∧ (List.length ms = List.length ms) ∧ (∀ (i : Nat), i < List.length ms → ∀ (j : Nat), j < (3 : Nat) → rowL mmC ms i j = rowL mmC ms i j) ∧ Z
theorem frA7a0_mk (W : Int) (r0 : Int) (r1 : Int) (r2 : Int) (r3 : Int) (ms : List Mm) {Z : Prop} (z : Z) : frA7a0 W r0 r1 r2 r3 ms Z := ⟨rfl, rfl, rfl, rfl, rfl, rfl, (fun _ _ _ _ => rfl), z⟩
def h7 (cs : List AV) (l : List Pl) : List (Nat × Blk) := [box0 31 cs, (1, plB l)]
def own7 (l : List Pl) : AV := .own 1 0 3 0 l.length
def f7r (cs : List AV) (k : Nat) (l : List Pl) : Sm := ⟨[(1, .bptr 0 0), (4, .int .i64 k), (3, own7 l)], h7 cs l, 2⟩
def f7o (cs : List AV) (i a : Nat) (l : List Pl) : Sm := ⟨[(1, .bptr 0 0), (6, .int .i64 i), (5, .int .i64 a), (3, own7 l)], h7 cs l, 2⟩
def f7i (cs : List AV) (i k a : Nat) (l : List Pl) : Sm := ⟨[(1, .bptr 0 0), (6, .int .i64 i), (5, .int .i64 a), (7, .int .i64 k), (3, own7 l)], h7 cs l, 2⟩
def frA7a1 (W : Int) (r0 : Int) (r1 : Int) (r2 : Int) (r3 : Int) (ms : List Mm) (l : List Pl) (Z : Prop) : Prop := (W = W) ∧ (r0 = r0) ∧ (r1 = r1) ∧ (r2 = r2) ∧ (r3 = r3) ∧ (List.length ms = List.length ms) ∧ (∀ (i : Nat), i < List.length ms → ∀ (j : Nat), j < (3 : Nat) → rowL mmC ms i j = rowL mmC ms i j) ∧ (List.length l = List.length l) ∧ (∀ (i : Nat), i < List.length l → ∀ (j : Nat), j < (3 : Nat) → rowL plC l i j = rowL plC l i j) ∧ Z
theorem frA7a1_mk (W : Int) (r0 : Int) (r1 : Int) (r2 : Int) (r3 : Int) (ms : List Mm) (l : List Pl) {Z : Prop} (z : Z) : frA7a1 W r0 r1 r2 r3 ms l Z := ⟨rfl, rfl, rfl, rfl, rfl, rfl, (fun _ _ _ _ => rfl), rfl, (fun _ _ _ _ => rfl), z⟩
theorem f7r_no0 (W r0 r1 r2 r3 : Int) (ms : List Mm) (l : List Pl) (hz : r0 = 0) : Vc (vcC Try.prog false (ntOf Try.prog 11) (lpC Try.prog 11 0) (f7r (progL W r0 r1 r2 r3 (memR ms)) 0 l) [.b true, .b false] .nrm [(0, 0), (1, 1)] (f7r (progL W r0 r1 r2 r3 (memR ms)) 1 l)) :=
  vc_of (q := (decide ((↑(0 : Nat) : Int) < (4 : Int)) = true) ∧ ((r0 != (0 : Int)) = false) ∧ (inK IntKind.i64 ((↑(0 : Nat) : Int) + (1 : Int))) ∧ (frA7a1 W r0 r1 r2 r3 ms l (((↑(0 : Nat) : Int) + (1 : Int) = (↑(1 : Nat) : Int)) ∧ ((0 : Nat) = (0 : Nat)) ∧ (List.length l = List.length l) ∧ True))) (by kernel_rfl)
    ⟨(decide_eq_true (by first | omega | (simp; omega) | (simp; done))),
 (by simp [hz]),
 (in64 (by omega) (by omega)), (frA7a1_mk W r0 r1 r2 r3 ms l ⟨(by first | omega | rfl),
 rfl,
 rfl, trivial⟩)⟩
theorem f7r_yes0 (W r0 r1 r2 r3 : Int) (ms : List Mm) (l : List Pl) (hz : ¬ r0 = 0) (hl : l.length < 1000000) : Vc (vcC Try.prog false (ntOf Try.prog 11) (lpC Try.prog 11 0) (f7r (progL W r0 r1 r2 r3 (memR ms)) 0 l) [.b true, .b true] .nrm [(0, 0), (1, 1)] (f7r (progL W r0 r1 r2 r3 (memR ms)) 1 (l ++ [⟨true, 0, r0 == 2⟩]))) :=
  vc_of (q := (decide ((↑(0 : Nat) : Int) < (4 : Int)) = true) ∧ ((r0 != (0 : Int)) = true) ∧ ((0 : Nat) = (0 : Nat) ∧ List.length l = List.length l ∧ (List.length l + (1 : Nat)) * (24 : Nat) ≤ (140737488355328 : Nat) ∧ List.length l + (1 : Nat) ≤ (140737488355328 : Nat)) ∧ (inK IntKind.i64 ((↑(0 : Nat) : Int) + (1 : Int))) ∧ (frA7a0 W r0 r1 r2 r3 ms ((List.length l + (1 : Nat) = List.length (l ++ [{ reg := true, n := (0 : Nat), sec := r0 == (2 : Int) }])) ∧ (∀ (i : Nat), i < List.length l + (1 : Nat) → ∀ (j : Nat), j < (3 : Nat) → (bif Nat.blt i (List.length l) then rowL plC l i j else List.getD [AV.bool true, AV.int IntKind.i64 (↑(0 : Nat) : Int), AV.bool (r0 == (2 : Int))] ((i - List.length l + (0 : Nat)) * (3 : Nat) + j) AV.junk) = rowL plC (l ++ [{ reg := true, n := (0 : Nat), sec := r0 == (2 : Int) }]) i j) ∧ ((↑(0 : Nat) : Int) + (1 : Int) = (↑(1 : Nat) : Int)) ∧ ((0 : Nat) = (0 : Nat)) ∧ (List.length l + (1 : Nat) = List.length (l ++ [{ reg := true, n := (0 : Nat), sec := r0 == (2 : Int) }])) ∧ True))) (by kernel_rfl)
    ⟨(decide_eq_true (by first | omega | (simp; omega) | (simp; done))),
 (by simp [hz]),
 (by first | omega | rfl),
 (in64 (by omega) (by omega)), (frA7a0_mk W r0 r1 r2 r3 ms ⟨(by first | omega | rfl | (simp; done) | (simp; omega)),
 (fun i hi j hj => row_if (fun h => (rowL_left h).symm) (fun h => by obtain rfl : i = _ := Nat.le_antisymm (Nat.lt_succ_iff.mp hi) (Nat.not_lt.mp h); rw [rowL_last, Nat.sub_self]; match j, hj with | 0, _ => rfl | 1, _ => rfl | 2, _ => rfl)),
 (by first | omega | rfl),
 rfl,
 (by first | omega | rfl | (simp; done) | (simp; omega)), trivial⟩)⟩
theorem f7r_no1 (W r0 r1 r2 r3 : Int) (ms : List Mm) (l : List Pl) (hz : r1 = 0) : Vc (vcC Try.prog false (ntOf Try.prog 11) (lpC Try.prog 11 0) (f7r (progL W r0 r1 r2 r3 (memR ms)) 1 l) [.b true, .b false] .nrm [(0, 0), (1, 1)] (f7r (progL W r0 r1 r2 r3 (memR ms)) 2 l)) :=
  vc_of (q := (decide ((↑(1 : Nat) : Int) < (4 : Int)) = true) ∧ ((r1 != (0 : Int)) = false) ∧ (inK IntKind.i64 ((↑(1 : Nat) : Int) + (1 : Int))) ∧ (frA7a1 W r0 r1 r2 r3 ms l (((↑(1 : Nat) : Int) + (1 : Int) = (↑(2 : Nat) : Int)) ∧ ((0 : Nat) = (0 : Nat)) ∧ (List.length l = List.length l) ∧ True))) (by kernel_rfl)
    ⟨(decide_eq_true (by first | omega | (simp; omega) | (simp; done))),
 (by simp [hz]),
 (in64 (by omega) (by omega)), (frA7a1_mk W r0 r1 r2 r3 ms l ⟨(by first | omega | rfl),
 rfl,
 rfl, trivial⟩)⟩
theorem f7r_yes1 (W r0 r1 r2 r3 : Int) (ms : List Mm) (l : List Pl) (hz : ¬ r1 = 0) (hl : l.length < 1000000) : Vc (vcC Try.prog false (ntOf Try.prog 11) (lpC Try.prog 11 0) (f7r (progL W r0 r1 r2 r3 (memR ms)) 1 l) [.b true, .b true] .nrm [(0, 0), (1, 1)] (f7r (progL W r0 r1 r2 r3 (memR ms)) 2 (l ++ [⟨true, 1, r1 == 2⟩]))) :=
  vc_of (q := (decide ((↑(1 : Nat) : Int) < (4 : Int)) = true) ∧ ((r1 != (0 : Int)) = true) ∧ ((0 : Nat) = (0 : Nat) ∧ List.length l = List.length l ∧ (List.length l + (1 : Nat)) * (24 : Nat) ≤ (140737488355328 : Nat) ∧ List.length l + (1 : Nat) ≤ (140737488355328 : Nat)) ∧ (inK IntKind.i64 ((↑(1 : Nat) : Int) + (1 : Int))) ∧ (frA7a0 W r0 r1 r2 r3 ms ((List.length l + (1 : Nat) = List.length (l ++ [{ reg := true, n := (1 : Nat), sec := r1 == (2 : Int) }])) ∧ (∀ (i : Nat), i < List.length l + (1 : Nat) → ∀ (j : Nat), j < (3 : Nat) → (bif Nat.blt i (List.length l) then rowL plC l i j else List.getD [AV.bool true, AV.int IntKind.i64 (↑(1 : Nat) : Int), AV.bool (r1 == (2 : Int))] ((i - List.length l + (0 : Nat)) * (3 : Nat) + j) AV.junk) = rowL plC (l ++ [{ reg := true, n := (1 : Nat), sec := r1 == (2 : Int) }]) i j) ∧ ((↑(1 : Nat) : Int) + (1 : Int) = (↑(2 : Nat) : Int)) ∧ ((0 : Nat) = (0 : Nat)) ∧ (List.length l + (1 : Nat) = List.length (l ++ [{ reg := true, n := (1 : Nat), sec := r1 == (2 : Int) }])) ∧ True))) (by kernel_rfl)
    ⟨(decide_eq_true (by first | omega | (simp; omega) | (simp; done))),
 (by simp [hz]),
 (by first | omega | rfl),
 (in64 (by omega) (by omega)), (frA7a0_mk W r0 r1 r2 r3 ms ⟨(by first | omega | rfl | (simp; done) | (simp; omega)),
 (fun i hi j hj => row_if (fun h => (rowL_left h).symm) (fun h => by obtain rfl : i = _ := Nat.le_antisymm (Nat.lt_succ_iff.mp hi) (Nat.not_lt.mp h); rw [rowL_last, Nat.sub_self]; match j, hj with | 0, _ => rfl | 1, _ => rfl | 2, _ => rfl)),
 (by first | omega | rfl),
 rfl,
 (by first | omega | rfl | (simp; done) | (simp; omega)), trivial⟩)⟩
theorem f7r_no2 (W r0 r1 r2 r3 : Int) (ms : List Mm) (l : List Pl) (hz : r2 = 0) : Vc (vcC Try.prog false (ntOf Try.prog 11) (lpC Try.prog 11 0) (f7r (progL W r0 r1 r2 r3 (memR ms)) 2 l) [.b true, .b false] .nrm [(0, 0), (1, 1)] (f7r (progL W r0 r1 r2 r3 (memR ms)) 3 l)) :=
  vc_of (q := (decide ((↑(2 : Nat) : Int) < (4 : Int)) = true) ∧ ((r2 != (0 : Int)) = false) ∧ (inK IntKind.i64 ((↑(2 : Nat) : Int) + (1 : Int))) ∧ (frA7a1 W r0 r1 r2 r3 ms l (((↑(2 : Nat) : Int) + (1 : Int) = (↑(3 : Nat) : Int)) ∧ ((0 : Nat) = (0 : Nat)) ∧ (List.length l = List.length l) ∧ True))) (by kernel_rfl)
    ⟨(decide_eq_true (by first | omega | (simp; omega) | (simp; done))),
 (by simp [hz]),
 (in64 (by omega) (by omega)), (frA7a1_mk W r0 r1 r2 r3 ms l ⟨(by first | omega | rfl),
 rfl,
 rfl, trivial⟩)⟩
theorem f7r_yes2 (W r0 r1 r2 r3 : Int) (ms : List Mm) (l : List Pl) (hz : ¬ r2 = 0) (hl : l.length < 1000000) : Vc (vcC Try.prog false (ntOf Try.prog 11) (lpC Try.prog 11 0) (f7r (progL W r0 r1 r2 r3 (memR ms)) 2 l) [.b true, .b true] .nrm [(0, 0), (1, 1)] (f7r (progL W r0 r1 r2 r3 (memR ms)) 3 (l ++ [⟨true, 2, r2 == 2⟩]))) :=
  vc_of (q := (decide ((↑(2 : Nat) : Int) < (4 : Int)) = true) ∧ ((r2 != (0 : Int)) = true) ∧ ((0 : Nat) = (0 : Nat) ∧ List.length l = List.length l ∧ (List.length l + (1 : Nat)) * (24 : Nat) ≤ (140737488355328 : Nat) ∧ List.length l + (1 : Nat) ≤ (140737488355328 : Nat)) ∧ (inK IntKind.i64 ((↑(2 : Nat) : Int) + (1 : Int))) ∧ (frA7a0 W r0 r1 r2 r3 ms ((List.length l + (1 : Nat) = List.length (l ++ [{ reg := true, n := (2 : Nat), sec := r2 == (2 : Int) }])) ∧ (∀ (i : Nat), i < List.length l + (1 : Nat) → ∀ (j : Nat), j < (3 : Nat) → (bif Nat.blt i (List.length l) then rowL plC l i j else List.getD [AV.bool true, AV.int IntKind.i64 (↑(2 : Nat) : Int), AV.bool (r2 == (2 : Int))] ((i - List.length l + (0 : Nat)) * (3 : Nat) + j) AV.junk) = rowL plC (l ++ [{ reg := true, n := (2 : Nat), sec := r2 == (2 : Int) }]) i j) ∧ ((↑(2 : Nat) : Int) + (1 : Int) = (↑(3 : Nat) : Int)) ∧ ((0 : Nat) = (0 : Nat)) ∧ (List.length l + (1 : Nat) = List.length (l ++ [{ reg := true, n := (2 : Nat), sec := r2 == (2 : Int) }])) ∧ True))) (by kernel_rfl)
    ⟨(decide_eq_true (by first | omega | (simp; omega) | (simp; done))),
 (by simp [hz]),
 (by first | omega | rfl),
 (in64 (by omega) (by omega)), (frA7a0_mk W r0 r1 r2 r3 ms ⟨(by first | omega | rfl | (simp; done) | (simp; omega)),
 (fun i hi j hj => row_if (fun h => (rowL_left h).symm) (fun h => by obtain rfl : i = _ := Nat.le_antisymm (Nat.lt_succ_iff.mp hi) (Nat.not_lt.mp h); rw [rowL_last, Nat.sub_self]; match j, hj with | 0, _ => rfl | 1, _ => rfl | 2, _ => rfl)),
 (by first | omega | rfl),
 rfl,
 (by first | omega | rfl | (simp; done) | (simp; omega)), trivial⟩)⟩
theorem f7r_no3 (W r0 r1 r2 r3 : Int) (ms : List Mm) (l : List Pl) (hz : r3 = 0) : Vc (vcC Try.prog false (ntOf Try.prog 11) (lpC Try.prog 11 0) (f7r (progL W r0 r1 r2 r3 (memR ms)) 3 l) [.b true, .b false] .nrm [(0, 0), (1, 1)] (f7r (progL W r0 r1 r2 r3 (memR ms)) 4 l)) :=
  vc_of (q := (decide ((↑(3 : Nat) : Int) < (4 : Int)) = true) ∧ ((r3 != (0 : Int)) = false) ∧ (inK IntKind.i64 ((↑(3 : Nat) : Int) + (1 : Int))) ∧ (frA7a1 W r0 r1 r2 r3 ms l (((↑(3 : Nat) : Int) + (1 : Int) = (↑(4 : Nat) : Int)) ∧ ((0 : Nat) = (0 : Nat)) ∧ (List.length l = List.length l) ∧ True))) (by kernel_rfl)
    ⟨(decide_eq_true (by first | omega | (simp; omega) | (simp; done))),
 (by simp [hz]),
 (in64 (by omega) (by omega)), (frA7a1_mk W r0 r1 r2 r3 ms l ⟨(by first | omega | rfl),
 rfl,
 rfl, trivial⟩)⟩
theorem f7r_yes3 (W r0 r1 r2 r3 : Int) (ms : List Mm) (l : List Pl) (hz : ¬ r3 = 0) (hl : l.length < 1000000) : Vc (vcC Try.prog false (ntOf Try.prog 11) (lpC Try.prog 11 0) (f7r (progL W r0 r1 r2 r3 (memR ms)) 3 l) [.b true, .b true] .nrm [(0, 0), (1, 1)] (f7r (progL W r0 r1 r2 r3 (memR ms)) 4 (l ++ [⟨true, 3, r3 == 2⟩]))) :=
  vc_of (q := (decide ((↑(3 : Nat) : Int) < (4 : Int)) = true) ∧ ((r3 != (0 : Int)) = true) ∧ ((0 : Nat) = (0 : Nat) ∧ List.length l = List.length l ∧ (List.length l + (1 : Nat)) * (24 : Nat) ≤ (140737488355328 : Nat) ∧ List.length l + (1 : Nat) ≤ (140737488355328 : Nat)) ∧ (inK IntKind.i64 ((↑(3 : Nat) : Int) + (1 : Int))) ∧ (frA7a0 W r0 r1 r2 r3 ms ((List.length l + (1 : Nat) = List.length (l ++ [{ reg := true, n := (3 : Nat), sec := r3 == (2 : Int) }])) ∧ (∀ (i : Nat), i < List.length l + (1 : Nat) → ∀ (j : Nat), j < (3 : Nat) → (bif Nat.blt i (List.length l) then rowL plC l i j else List.getD [AV.bool true, AV.int IntKind.i64 (↑(3 : Nat) : Int), AV.bool (r3 == (2 : Int))] ((i - List.length l + (0 : Nat)) * (3 : Nat) + j) AV.junk) = rowL plC (l ++ [{ reg := true, n := (3 : Nat), sec := r3 == (2 : Int) }]) i j) ∧ ((↑(3 : Nat) : Int) + (1 : Int) = (↑(4 : Nat) : Int)) ∧ ((0 : Nat) = (0 : Nat)) ∧ (List.length l + (1 : Nat) = List.length (l ++ [{ reg := true, n := (3 : Nat), sec := r3 == (2 : Int) }])) ∧ True))) (by kernel_rfl)
    ⟨(decide_eq_true (by first | omega | (simp; omega) | (simp; done))),
 (by simp [hz]),
 (by first | omega | rfl),
 (in64 (by omega) (by omega)), (frA7a0_mk W r0 r1 r2 r3 ms ⟨(by first | omega | rfl | (simp; done) | (simp; omega)),
 (fun i hi j hj => row_if (fun h => (rowL_left h).symm) (fun h => by obtain rfl : i = _ := Nat.le_antisymm (Nat.lt_succ_iff.mp hi) (Nat.not_lt.mp h); rw [rowL_last, Nat.sub_self]; match j, hj with | 0, _ => rfl | 1, _ => rfl | 2, _ => rfl)),
 (by first | omega | rfl),
 rfl,
 (by first | omega | rfl | (simp; done) | (simp; omega)), trivial⟩)⟩
theorem f7r_end (W r0 r1 r2 r3 : Int) (ms : List Mm) (l : List Pl) : Vc (vcC Try.prog false (ntOf Try.prog 11) (lpC Try.prog 11 0) (f7r (progL W r0 r1 r2 r3 (memR ms)) 4 l) [] (.ext 0) [(0, 0), (1, 1)] (f7r (progL W r0 r1 r2 r3 (memR ms)) 4 l)) :=
  vc_of (q := (frA7a1 W r0 r1 r2 r3 ms l (((↑(4 : Nat) : Int) = (↑(4 : Nat) : Int)) ∧ ((0 : Nat) = (0 : Nat)) ∧ (List.length l = List.length l) ∧ True))) (by kernel_rfl)
    (frA7a1_mk W r0 r1 r2 r3 ms l ⟨rfl,
 rfl,
 rfl, trivial⟩)
theorem f7r_loop (W r0 r1 r2 r3 : Int) (ms : List Mm) : Ok Try.prog (ntOf Try.prog 11) (.loop (lpC Try.prog 11 0)) (f7r (progL W r0 r1 r2 r3 (memR ms)) 0 []).st (.ext 0) (f7r (progL W r0 r1 r2 r3 (memR ms)) 4 (regL (rg r0 r1 r2 r3) 4)).st :=
  Ok.loop (P := Try.prog) (nt := ntOf Try.prog 11) (c := lpC Try.prog 11 0) (F := fun k => f7r (progL W r0 r1 r2 r3 (memR ms)) k (regL (rg r0 r1 r2 r3) k)) (m := 4) (x := .ext 0) (J := f7r (progL W r0 r1 r2 r3 (memR ms)) 4 (regL (rg r0 r1 r2 r3) 4)) (fun k hk => by
    match k, hk with
    | 0, _ =>
      by_cases hz : r0 = 0
      · have e : regL (rg r0 r1 r2 r3) 1 = regL (rg r0 r1 r2 r3) 0 := regL_zero (k := 0) hz
        show Ok _ _ _ _ _ (f7r _ 1 (regL (rg r0 r1 r2 r3) 1)).st
        rw [e]
        exact Ok.vc (f7r_no0 W r0 r1 r2 r3 ms _ hz)
      · have e : regL (rg r0 r1 r2 r3) 1 = regL (rg r0 r1 r2 r3) 0 ++ [⟨true, 0, r0 == 2⟩] := regL_pos (k := 0) hz
        show Ok _ _ _ _ _ (f7r _ 1 (regL (rg r0 r1 r2 r3) 1)).st
        rw [e]
        exact Ok.vc (f7r_yes0 W r0 r1 r2 r3 ms _ hz (by have := regL_le (rg r0 r1 r2 r3) 0; omega))
    | 1, _ =>
      by_cases hz : r1 = 0
      · have e : regL (rg r0 r1 r2 r3) 2 = regL (rg r0 r1 r2 r3) 1 := regL_zero (k := 1) hz
        show Ok _ _ _ _ _ (f7r _ 2 (regL (rg r0 r1 r2 r3) 2)).st
        rw [e]
        exact Ok.vc (f7r_no1 W r0 r1 r2 r3 ms _ hz)
      · have e : regL (rg r0 r1 r2 r3) 2 = regL (rg r0 r1 r2 r3) 1 ++ [⟨true, 1, r1 == 2⟩] := regL_pos (k := 1) hz
        show Ok _ _ _ _ _ (f7r _ 2 (regL (rg r0 r1 r2 r3) 2)).st
        rw [e]
        exact Ok.vc (f7r_yes1 W r0 r1 r2 r3 ms _ hz (by have := regL_le (rg r0 r1 r2 r3) 1; omega))
    | 2, _ =>
      by_cases hz : r2 = 0
      · have e : regL (rg r0 r1 r2 r3) 3 = regL (rg r0 r1 r2 r3) 2 := regL_zero (k := 2) hz
        show Ok _ _ _ _ _ (f7r _ 3 (regL (rg r0 r1 r2 r3) 3)).st
        rw [e]
        exact Ok.vc (f7r_no2 W r0 r1 r2 r3 ms _ hz)
      · have e : regL (rg r0 r1 r2 r3) 3 = regL (rg r0 r1 r2 r3) 2 ++ [⟨true, 2, r2 == 2⟩] := regL_pos (k := 2) hz
        show Ok _ _ _ _ _ (f7r _ 3 (regL (rg r0 r1 r2 r3) 3)).st
        rw [e]
        exact Ok.vc (f7r_yes2 W r0 r1 r2 r3 ms _ hz (by have := regL_le (rg r0 r1 r2 r3) 2; omega))
    | 3, _ =>
      by_cases hz : r3 = 0
      · have e : regL (rg r0 r1 r2 r3) 4 = regL (rg r0 r1 r2 r3) 3 := regL_zero (k := 3) hz
        show Ok _ _ _ _ _ (f7r _ 4 (regL (rg r0 r1 r2 r3) 4)).st
        rw [e]
        exact Ok.vc (f7r_no3 W r0 r1 r2 r3 ms _ hz)
      · have e : regL (rg r0 r1 r2 r3) 4 = regL (rg r0 r1 r2 r3) 3 ++ [⟨true, 3, r3 == 2⟩] := regL_pos (k := 3) hz
        show Ok _ _ _ _ _ (f7r _ 4 (regL (rg r0 r1 r2 r3) 4)).st
        rw [e]
        exact Ok.vc (f7r_yes3 W r0 r1 r2 r3 ms _ hz (by have := regL_le (rg r0 r1 r2 r3) 3; omega))) (Ok.vc (f7r_end W r0 r1 r2 r3 ms _)) (by simp)
theorem f7i_step (W r0 r1 r2 r3 : Int) (ms : List Mm) (i k a : Nat) (l : List Pl) (h64 : ms.length < 4611686018427387904) (hi : i < ms.length) (hl : l.length < 1000000000000) (ha : a < 4611686018427387904) (hn : k < 4611686018427387904) (hk : k < (ms.getD i default).n) : Vc (vcC Try.prog false (ntOf Try.prog 11) (lpC Try.prog 11 2) (f7i (progL W r0 r1 r2 r3 (memR ms)) i k a l) [.b true] .nrm [(0, 0), (1, 1)] (f7i (progL W r0 r1 r2 r3 (memR ms)) i (k + 1) (a + 1) (l ++ [⟨false, a, (ms.getD i default).sec⟩]))) :=
  vc_of (q := ((0 : Int) ≤ (↑i : Int) ∧ (↑i : Int) < (↑(List.length ms) : Int)) ∧ (decide ((↑k : Int) < (↑(Mm.n (List.getD ms i Inhabited.default)) : Int)) = true) ∧ ((0 : Int) ≤ (↑i : Int) ∧ (↑i : Int) < (↑(List.length ms) : Int)) ∧ ((0 : Nat) = (0 : Nat) ∧ List.length l = List.length l ∧ (List.length l + (1 : Nat)) * (24 : Nat) ≤ (140737488355328 : Nat) ∧ List.length l + (1 : Nat) ≤ (140737488355328 : Nat)) ∧ (inK IntKind.i64 ((↑a : Int) + (1 : Int))) ∧ (inK IntKind.i64 ((↑k : Int) + (1 : Int))) ∧ (frA7a0 W r0 r1 r2 r3 ms ((List.length l + (1 : Nat) = List.length (l ++ [{ reg := false, n := a, sec := Mm.sec (List.getD ms i Inhabited.default) }])) ∧ (∀ (i_1 : Nat), i_1 < List.length l + (1 : Nat) → ∀ (j : Nat), j < (3 : Nat) → (bif Nat.blt i_1 (List.length l) then rowL plC l i_1 j else List.getD [AV.bool false, AV.int IntKind.i64 (↑a : Int), AV.bool (Mm.sec (List.getD ms i Inhabited.default))] ((i_1 - List.length l + (0 : Nat)) * (3 : Nat) + j) AV.junk) = rowL plC (l ++ [{ reg := false, n := a, sec := Mm.sec (List.getD ms i Inhabited.default) }]) i_1 j) ∧ ((↑i : Int) = (↑i : Int)) ∧ ((↑a : Int) + (1 : Int) = (↑(a + (1 : Nat)) : Int)) ∧ ((↑k : Int) + (1 : Int) = (↑(k + (1 : Nat)) : Int)) ∧ ((0 : Nat) = (0 : Nat)) ∧ (List.length l + (1 : Nat) = List.length (l ++ [{ reg := false, n := a, sec := Mm.sec (List.getD ms i Inhabited.default) }])) ∧ True))) (by kernel_rfl)
    ⟨(by first | omega | rfl),
 (decide_eq_true (by first | omega | (simp; omega) | (simp; done))),
 (by first | omega | rfl),
 (by first | omega | rfl),
 (in64 (by omega) (by omega)),
 (in64 (by omega) (by omega)), (frA7a0_mk W r0 r1 r2 r3 ms ⟨(by first | omega | rfl | (simp; done) | (simp; omega)),
 (fun i hi j hj => row_if (fun h => (rowL_left h).symm) (fun h => by obtain rfl : i = _ := Nat.le_antisymm (Nat.lt_succ_iff.mp hi) (Nat.not_lt.mp h); rw [rowL_last, Nat.sub_self]; match j, hj with | 0, _ => rfl | 1, _ => rfl | 2, _ => rfl)),
 rfl,
 (by first | omega | rfl),
 (by first | omega | rfl),
 rfl,
 (by first | omega | rfl | (simp; done) | (simp; omega)), trivial⟩)⟩
theorem f7i_end (W r0 r1 r2 r3 : Int) (ms : List Mm) (i k a : Nat) (l : List Pl) (h64 : ms.length < 4611686018427387904) (hi : i < ms.length) (hl : l.length < 1000000000000) (ha : a < 4611686018427387904) (hn : k < 4611686018427387904) (hk : k = (ms.getD i default).n) : Vc (vcC Try.prog false (ntOf Try.prog 11) (lpC Try.prog 11 2) (f7i (progL W r0 r1 r2 r3 (memR ms)) i k a l) [.b false] (.ext 4) [(0, 0), (1, 1)] (f7i (progL W r0 r1 r2 r3 (memR ms)) i k a l)) :=
  vc_of (q := ((0 : Int) ≤ (↑i : Int) ∧ (↑i : Int) < (↑(List.length ms) : Int)) ∧ (decide ((↑k : Int) < (↑(Mm.n (List.getD ms i Inhabited.default)) : Int)) = false) ∧ (frA7a1 W r0 r1 r2 r3 ms l (((↑i : Int) = (↑i : Int)) ∧ ((↑a : Int) = (↑a : Int)) ∧ ((↑k : Int) = (↑k : Int)) ∧ ((0 : Nat) = (0 : Nat)) ∧ (List.length l = List.length l) ∧ True))) (by kernel_rfl)
    ⟨(by first | omega | rfl),
 (decide_eq_false (by first | omega | (simp; omega) | (simp; done))), (frA7a1_mk W r0 r1 r2 r3 ms l ⟨rfl,
 rfl,
 rfl,
 rfl,
 rfl, trivial⟩)⟩
theorem f7i_loop (W r0 r1 r2 r3 : Int) (ms : List Mm) (i a : Nat) (l : List Pl) (h64 : ms.length < 4611686018427387904) (hi : i < ms.length) (hb : l.length + (ms.getD i default).n < 1000000000000) (ha : a + (ms.getD i default).n < 4611686018427387904) : Ok Try.prog (ntOf Try.prog 11) (.loop (lpC Try.prog 11 2)) (f7i (progL W r0 r1 r2 r3 (memR ms)) i 0 a l).st (.ext 4) (f7i (progL W r0 r1 r2 r3 (memR ms)) i (ms.getD i default).n (a + (ms.getD i default).n) (l ++ celL (ms.getD i default).sec a (ms.getD i default).n)).st := by
  have := Ok.loop (P := Try.prog) (nt := ntOf Try.prog 11) (c := lpC Try.prog 11 2) (F := fun k => f7i (progL W r0 r1 r2 r3 (memR ms)) i k (a + k) (l ++ celL (ms.getD i default).sec a k)) (m := (ms.getD i default).n) (x := .ext 4) (J := f7i (progL W r0 r1 r2 r3 (memR ms)) i (ms.getD i default).n (a + (ms.getD i default).n) (l ++ celL (ms.getD i default).sec a (ms.getD i default).n)) (fun k hk => by
    show Ok _ _ _ _ _ (f7i _ i (k + 1) (a + (k + 1)) (l ++ celL (ms.getD i default).sec a (k + 1))).st
    rw [celL_succ, ← List.append_assoc]
    exact Ok.vc (f7i_step W r0 r1 r2 r3 ms i k (a + k) _ h64 hi (by simp only [List.length_append, celL_length]; omega) (by omega) (by omega) hk))
    (Ok.vc (f7i_end W r0 r1 r2 r3 ms i _ _ _ h64 hi (by simp only [List.length_append, celL_length]; omega) (by omega) (by omega) rfl)) (by simp)
  simpa [celL] using this
theorem f7o_step (W r0 r1 r2 r3 : Int) (ms : List Mm) (i a : Nat) (l : List Pl) (h64 : ms.length < 4611686018427387904) (hi : i < ms.length) (hb : l.length + (ms.getD i default).n < 1000000000000) (ha : a + (ms.getD i default).n < 4611686018427387904) : Vc (vcC Try.prog false (ntOf Try.prog 11) (lpC Try.prog 11 1) (f7o (progL W r0 r1 r2 r3 (memR ms)) i a l) [.b true, .lp [(0, 0), (1, 1)] (f7i (progL W r0 r1 r2 r3 (memR ms)) i 0 a l) (.ext 4) (f7i (progL W r0 r1 r2 r3 (memR ms)) i (ms.getD i default).n (a + (ms.getD i default).n) (l ++ celL (ms.getD i default).sec a (ms.getD i default).n))] .nrm [(0, 0), (1, 1)] (f7o (progL W r0 r1 r2 r3 (memR ms)) (i + 1) (a + (ms.getD i default).n) (l ++ celL (ms.getD i default).sec a (ms.getD i default).n))) :=
  vc_of (q := (decide ((↑i : Int) < (↑(List.length ms) : Int)) = true) ∧ (frA7a1 W r0 r1 r2 r3 ms l (((↑i : Int) = (↑i : Int)) ∧ ((↑a : Int) = (↑a : Int)) ∧ ((0 : Int) = (↑(0 : Nat) : Int)) ∧ ((0 : Nat) = (0 : Nat)) ∧ (List.length l = List.length l) ∧ (Ok Try.prog (ntOf Try.prog 11) (.loop (lpC Try.prog 11 2)) (f7i (progL W r0 r1 r2 r3 (memR ms)) i 0 a l).st (.ext 4) (f7i (progL W r0 r1 r2 r3 (memR ms)) i (ms.getD i default).n (a + (ms.getD i default).n) (l ++ celL (ms.getD i default).sec a (ms.getD i default).n)).st) ∧ (inK IntKind.i64 ((↑i : Int) + (1 : Int))) ∧ (frA7a0 W r0 r1 r2 r3 ms ((List.length (l ++ celL (Mm.sec (List.getD ms i Inhabited.default)) a (Mm.n (List.getD ms i Inhabited.default))) = List.length (l ++ celL (Mm.sec (List.getD ms i Inhabited.default)) a (Mm.n (List.getD ms i Inhabited.default)))) ∧ (∀ (i_1 : Nat), i_1 < List.length (l ++ celL (Mm.sec (List.getD ms i Inhabited.default)) a (Mm.n (List.getD ms i Inhabited.default))) → ∀ (j : Nat), j < (3 : Nat) → rowL plC (l ++ celL (Mm.sec (List.getD ms i Inhabited.default)) a (Mm.n (List.getD ms i Inhabited.default))) i_1 j = rowL plC (l ++ celL (Mm.sec (List.getD ms i Inhabited.default)) a (Mm.n (List.getD ms i Inhabited.default))) i_1 j) ∧ ((↑i : Int) + (1 : Int) = (↑(i + (1 : Nat)) : Int)) ∧ ((↑(a + Mm.n (List.getD ms i Inhabited.default)) : Int) = (↑(a + Mm.n (List.getD ms i Inhabited.default)) : Int)) ∧ ((0 : Nat) = (0 : Nat)) ∧ (List.length (l ++ celL (Mm.sec (List.getD ms i Inhabited.default)) a (Mm.n (List.getD ms i Inhabited.default))) = List.length (l ++ celL (Mm.sec (List.getD ms i Inhabited.default)) a (Mm.n (List.getD ms i Inhabited.default)))) ∧ True))))) (by kernel_rfl)
    ⟨(decide_eq_true (by first | omega | (simp; omega) | (simp; done))), (frA7a1_mk W r0 r1 r2 r3 ms l ⟨rfl,
 rfl,
 (by first | omega | rfl),
 rfl,
 rfl,
 f7i_loop W r0 r1 r2 r3 ms i a l h64 hi hb ha,
 (in64 (by omega) (by omega)), (frA7a0_mk W r0 r1 r2 r3 ms ⟨rfl,
 (fun _ _ _ _ => rfl),
 (by first | omega | rfl),
 rfl,
 rfl,
 rfl, trivial⟩)⟩)⟩
theorem f7o_end (W r0 r1 r2 r3 : Int) (ms : List Mm) (a : Nat) (l : List Pl) : Vc (vcC Try.prog false (ntOf Try.prog 11) (lpC Try.prog 11 1) (f7o (progL W r0 r1 r2 r3 (memR ms)) ms.length a l) [.b false] (.ext 2) [(0, 0), (1, 1)] (f7o (progL W r0 r1 r2 r3 (memR ms)) ms.length a l)) :=
  vc_of (q := (decide ((↑(List.length ms) : Int) < (↑(List.length ms) : Int)) = false) ∧ (frA7a1 W r0 r1 r2 r3 ms l (((↑(List.length ms) : Int) = (↑(List.length ms) : Int)) ∧ ((↑a : Int) = (↑a : Int)) ∧ ((0 : Nat) = (0 : Nat)) ∧ (List.length l = List.length l) ∧ True))) (by kernel_rfl)
    ⟨(decide_eq_false (by first | omega | (simp; omega) | (simp; done))), (frA7a1_mk W r0 r1 r2 r3 ms l ⟨rfl,
 rfl,
 rfl,
 rfl, trivial⟩)⟩
theorem f7o_loop (W r0 r1 r2 r3 : Int) (ms : List Mm) (l : List Pl) (h64 : ms.length < 4611686018427387904) (hb : l.length + sumN ms < 1000000000000) : Ok Try.prog (ntOf Try.prog 11) (.loop (lpC Try.prog 11 1)) (f7o (progL W r0 r1 r2 r3 (memR ms)) 0 0 l).st (.ext 2) (f7o (progL W r0 r1 r2 r3 (memR ms)) ms.length (sumN ms) (l ++ memL 0 ms)).st := by
  have := Ok.loop (P := Try.prog) (nt := ntOf Try.prog 11) (c := lpC Try.prog 11 1) (F := fun k => f7o (progL W r0 r1 r2 r3 (memR ms)) k (sumN (ms.take k)) (l ++ memL 0 (ms.take k))) (m := ms.length) (x := .ext 2) (J := f7o (progL W r0 r1 r2 r3 (memR ms)) ms.length (sumN ms) (l ++ memL 0 ms)) (fun k hk => by
    have h1 := sumN_take hk
    have h2 := sumN_take_le ms (k + 1)
    show Ok _ _ _ _ _ (f7o _ (k + 1) (sumN (ms.take (k + 1))) (l ++ memL 0 (ms.take (k + 1)))).st
    rw [memL_take hk, Nat.zero_add, ← List.append_assoc, h1]
    exact Ok.vc (f7o_step W r0 r1 r2 r3 ms k _ _ h64 hk (by simp only [List.length_append, memL_length]; omega) (by omega)))
    (by
      show Ok _ _ _ (f7o _ ms.length (sumN (ms.take ms.length)) (l ++ memL 0 (ms.take ms.length))).st _ _
      rw [List.take_length]
      exact Ok.vc (f7o_end W r0 r1 r2 r3 ms _ _)) (by simp)
  simpa [sumN, memL] using this
theorem f7p_vc (W r0 r1 r2 r3 : Int) (ms : List Mm) (h64 : ms.length < 4611686018427387904) (hb : sumN ms < 100000000000) : Vc (vcFn Try.prog false 11 [.agg (progL W r0 r1 r2 r3 (memR ms))] [.lp [(0, 0)] (f7r (progL W r0 r1 r2 r3 (memR ms)) 0 []) (.ext 0) (f7r (progL W r0 r1 r2 r3 (memR ms)) 4 (regL (rg r0 r1 r2 r3) 4)), .lp [(0, 0), (1, 1)] (f7o (progL W r0 r1 r2 r3 (memR ms)) 0 0 (regL (rg r0 r1 r2 r3) 4)) (.ext 2) (f7o (progL W r0 r1 r2 r3 (memR ms)) ms.length (sumN ms) ((regL (rg r0 r1 r2 r3) 4) ++ memL 0 ms))] [(0, 1)] (.own 0 0 3 0 (places (rg r0 r1 r2 r3) ms).length) [plB (places (rg r0 r1 r2 r3) ms)]) :=
  vc_of (q := (W = W) ∧ (r0 = r0) ∧ (r1 = r1) ∧ (r2 = r2) ∧ (r3 = r3) ∧ (List.length ms = List.length ms) ∧ (∀ (i : Nat), i < List.length ms → ∀ (j : Nat), j < (3 : Nat) → rowL mmC ms i j = rowL mmC ms i j) ∧ ((0 : Nat) = (0 : Nat)) ∧ ((0 : Int) = (↑(0 : Nat) : Int)) ∧ ((0 : Nat) = (0 : Nat)) ∧ ((0 : Nat) = (0 : Nat)) ∧ (Ok Try.prog (ntOf Try.prog 11) (.loop (lpC Try.prog 11 0)) (f7r (progL W r0 r1 r2 r3 (memR ms)) 0 []).st (.ext 0) (f7r (progL W r0 r1 r2 r3 (memR ms)) 4 (regL (rg r0 r1 r2 r3) 4)).st) ∧ (frA7a0 W r0 r1 r2 r3 ms ((List.length (regL (rg r0 r1 r2 r3) (4 : Nat)) = List.length (regL (rg r0 r1 r2 r3) (4 : Nat))) ∧ (∀ (i : Nat), i < List.length (regL (rg r0 r1 r2 r3) (4 : Nat)) → ∀ (j : Nat), j < (3 : Nat) → rowL plC (regL (rg r0 r1 r2 r3) (4 : Nat)) i j = rowL plC (regL (rg r0 r1 r2 r3) (4 : Nat)) i j) ∧ ((0 : Int) = (↑(0 : Nat) : Int)) ∧ ((0 : Int) = (↑(0 : Nat) : Int)) ∧ ((0 : Nat) = (0 : Nat)) ∧ (List.length (regL (rg r0 r1 r2 r3) (4 : Nat)) = List.length (regL (rg r0 r1 r2 r3) (4 : Nat))) ∧ (Ok Try.prog (ntOf Try.prog 11) (.loop (lpC Try.prog 11 1)) (f7o (progL W r0 r1 r2 r3 (memR ms)) 0 0 (regL (rg r0 r1 r2 r3) 4)).st (.ext 2) (f7o (progL W r0 r1 r2 r3 (memR ms)) ms.length (sumN ms) ((regL (rg r0 r1 r2 r3) 4) ++ memL 0 ms)).st) ∧ (List.length (regL (rg r0 r1 r2 r3) (4 : Nat) ++ memL (0 : Nat) ms) = List.length (places (rg r0 r1 r2 r3) ms)) ∧ (∀ (i : Nat), i < List.length (regL (rg r0 r1 r2 r3) (4 : Nat) ++ memL (0 : Nat) ms) → ∀ (j : Nat), j < (3 : Nat) → rowL plC (regL (rg r0 r1 r2 r3) (4 : Nat) ++ memL (0 : Nat) ms) i j = rowL plC (places (rg r0 r1 r2 r3) ms) i j) ∧ ((0 : Nat) = (0 : Nat)) ∧ (List.length (regL (rg r0 r1 r2 r3) (4 : Nat) ++ memL (0 : Nat) ms) = List.length (places (rg r0 r1 r2 r3) ms)) ∧ True))) (by kernel_rfl)
    ⟨rfl,
 rfl,
 rfl,
 rfl,
 rfl,
 rfl,
 (fun _ _ _ _ => rfl),
 rfl,
 (by first | omega | rfl),
 rfl,
 rfl,
 f7r_loop W r0 r1 r2 r3 ms, (frA7a0_mk W r0 r1 r2 r3 ms ⟨rfl,
 (fun _ _ _ _ => rfl),
 (by first | omega | rfl),
 (by first | omega | rfl),
 rfl,
 rfl,
 f7o_loop W r0 r1 r2 r3 ms _ h64 (by have := regL_le (rg r0 r1 r2 r3) 4; omega),
 (by first | omega | rfl | (simp; done) | (simp; omega)),
 (fun _ _ _ _ => rfl),
 rfl,
 (by first | omega | rfl | (simp; done) | (simp; omega)), trivial⟩)⟩
theorem refPlaces (W r0 r1 r2 r3 : Int) (ms : List Mm) (h64 : ms.length < 4611686018427387904) (hb : sumN ms < 100000000000) : PureC Try.prog 11 [.agg (progL W r0 r1 r2 r3 (memR ms))] (.own 0 0 3 0 (places (rg r0 r1 r2 r3) ms).length) [plB (places (rg r0 r1 r2 r3) ms)] := PureC.vc (f7p_vc W r0 r1 r2 r3 ms h64 hb)
end Go.Proofs.Ytdbnfdcjibgikaa.Px
