/- Merged: S8m. -/
import Derived.Test.YtjdiabjmphdhiaaMjI
set_option linter.unusedVariables false
set_option linter.unusedSimpArgs false
set_option maxRecDepth 100000
namespace Go.Proofs.Ytjdiabjmphdhiaa.Px
section
open Go.RowKit Go.Proofs.Ytjdiabjmphdhiaa.Rx
structure M1 where
  p : Int
  s : Int
  r0 : Int
  r1 : Int
  r2 : Int
  r3 : Int
def M1.set (m : M1) (k : Nat) (v : Int) : M1 := match k with
  | 0 => { m with r0 := v }
  | 1 => { m with r1 := v }
  | 2 => { m with r2 := v }
  | _ => { m with r3 := v }
def mq (l : List Int) (k : Nat) : Nat := (bits .and .i64 (Int.fdiv (kN l 1) (2 ^ (2 * k))) 3).toNat
def mstep (W : Int) (q k : Nat) (m : M1) : M1 :=
  if q = 2 then (if m.p + W ≤ 2 then { m.set k 1 with p := m.p + W } else m.set k 0)
  else if q = 3 then (if m.s + W ≤ 2 then { m.set k 2 with s := m.s + W } else m.set k 0) else m.set k 0
def mK (W : Int) (l : List Int) : Nat → M1
  | 0 => ⟨0, 0, 0, 0, 0, 0⟩
  | k + 1 => mstep W (mq l k) k (mK W l k)
def kclo : AV := .clo 26 [.bptr 0 0]
def lBox (l : List Int) : Blk := ⟨0, true, 22, .box [.row 1 l.length (rowI l)]⟩
def bJ (n : Nat) : Blk := ⟨0, false, 28, .box (List.replicate n .junk)⟩
def bP (W w : Int) (m : M1) (a b c : AV) : Blk := ⟨0, false, 28, .box [.int .i64 W, .int .i64 w, .int .i64 6, .int .i64 m.r0, .int .i64 m.r1, .int .i64 m.r2, .int .i64 m.r3, a, b, c]⟩
def mmB (ms : List Mm) : Blk := ⟨0, false, 52, .rows 3 ms.length (rowL mmC ms)⟩
def lbN (i : Nat) : Lb := ⟨⟨#[108]⟩ ++ dgS i, i⟩
def lbL : Nat → List Lb
  | 0 => []
  | k + 1 => lbL k ++ [lbN k]
def inL (l : List Int) (n : Nat) : Nat → List In
  | 0 => []
  | k + 1 => inL l n k ++ [insN (kN l (k + 2)) n]
def lbB (l : List Lb) : Blk := ⟨0, false, 70, .rows 2 l.length (rowL lbC l)⟩
def inB (l : List In) : Blk := ⟨0, false, 45, .rows 9 l.length (rowL inC l)⟩
def winN (l : List Int) : Int := Int.tmod (bits .and .i64 (Int.fdiv (kN l 0) (2 ^ 1)) 255) 3 + 1
def mk1 (W w : Int) (l : List Int) (m : M1) (k : Nat) : Sm := ⟨[(3, kclo), (4, .bptr 2 0), (2, .bptr 1 0), (5, .int .i64 m.p), (6, .int .i64 m.s), (7, .int .i64 k)], [(0, lBox l), (1, bJ 10), (2, bP W w m .nils .nils .nils)], 3⟩
def mk2 (W w : Int) (l : List Int) (m : M1) (ms : List Mm) (n k : Nat) : Sm := ⟨[(3, kclo), (4, .bptr 2 0), (2, .bptr 1 0), (8, .int .i64 n), (9, .int .i64 k)], [(0, lBox l), (1, bJ 10), (2, bP W w m (.own 3 0 3 0 ms.length) (.own 4 0 2 0 (lbL k).length) .nils), (3, mmB ms), (4, lbB (lbL k))], 5⟩
def mk3 (W w : Int) (l : List Int) (m : M1) (ms : List Mm) (n k : Nat) : Sm := ⟨[(3, kclo), (4, .bptr 2 0), (2, .bptr 1 0), (8, .int .i64 n), (10, .int .i64 k)], [(0, lBox l), (1, bJ 10), (2, bP W w m (.own 3 0 3 0 ms.length) (.own 4 0 2 0 (lbL (n + 1)).length) (.own 5 0 9 0 (inL l n k).length)), (3, mmB ms), (4, lbB (lbL (n + 1))), (5, inB (inL l n k))], 6⟩
def frS8m0 (W : Int) (w : Int) (l : List Int) (m : M1) (Z : Prop) : Prop := (List.length l = List.length l) ∧ (∀ (i : Nat), i < List.length l → ∀ (j : Nat), j < (1 : Nat) → AV.int IntKind.i64 (List.getD l i (0 : Int)) = AV.int IntKind.i64 (List.getD l i (0 : Int))) ∧ (W = W) ∧ (w = w) ∧ ((6 : Int) = (6 : Int)) ∧ ((0 : Int) = (0 : Int)) ∧ (M1.r1 m = M1.r1 m) ∧ (M1.r2 m = M1.r2 m) ∧ (M1.r3 m = M1.r3 m) ∧ Z
theorem frS8m0_mk (W : Int) (w : Int) (l : List Int) (m : M1) {Z : Prop} (z : Z) : frS8m0 W w l m Z := ⟨rfl, (fun _ _ _ _ => rfl), rfl, rfl, rfl, rfl, rfl, rfl, rfl, z⟩
theorem m1_0_0 (W w : Int) (l : List Int) (m : M1) (hW : 1 ≤ W ∧ W ≤ 2) (hp : 0 ≤ m.p ∧ m.p ≤ 2) (hs : 0 ≤ m.s ∧ m.s ≤ 2) (hq : bits .and .i64 (Int.fdiv (kN l 1) (2 ^ (2 * 0))) 3 = ((0 : Nat) : Int)) : Vc (vcC Try.prog false (ntOf Try.prog 9) (lpC Try.prog 9 0) (mk1 W w l m 0) [.b true, .cl [.int .i64 (1 : Nat), kptr l] (.int .i64 (kN l 1)) [], .iy 0] .nrm [(0, 0), (1, 1), (2, 2)] (mk1 W w l (⟨m.p, m.s, 0, m.r1, m.r2, m.r3⟩ : M1) 1)) :=
  vc_of (q := (decide ((↑(0 : Nat) : Int) < (4 : Int)) = true) ∧ ((1 : Int) = (↑(1 : Nat) : Int)) ∧ (List.length l = List.length l) ∧ (∀ (i : Nat), i < List.length l → ∀ (j : Nat), j < (1 : Nat) → AV.int IntKind.i64 (List.getD l i (0 : Int)) = AV.int IntKind.i64 (List.getD l i (0 : Int))) ∧ (PureC Try.prog 26 [.int .i64 (1 : Nat), kptr l] (.int .i64 (kN l 1)) []) ∧ (inK IntKind.i64 ((2 : Int) * (↑(0 : Nat) : Int))) ∧ ((0 : Int) ≤ IntKind.wrap IntKind.u64 ((2 : Int) * (↑(0 : Nat) : Int))) ∧ (Go.bits Go.BinOp.and IntKind.i64 (Int.fdiv (kN l (1 : Nat)) ((2 : Int) ^ (0 : Nat))) (3 : Int) = (↑(0 : Nat) : Int)) ∧ ((0 : Int) ≤ (↑(0 : Nat) : Int) ∧ (↑(0 : Nat) : Int) < (↑(4 : Nat) : Int)) ∧ ((0 : Nat) < (4 : Nat)) ∧ (inK IntKind.i64 ((↑(0 : Nat) : Int) + (1 : Int))) ∧ (frS8m0 W w l m ((M1.p m = M1.p m) ∧ (M1.s m = M1.s m) ∧ ((↑(0 : Nat) : Int) + (1 : Int) = (↑(1 : Nat) : Int)) ∧ True))) (by kernel_rfl)
    ⟨(decide_eq_true (by first | omega | (simp; omega) | (simp; done))),
 (by first | omega | rfl),
 rfl,
 (fun _ _ _ _ => rfl),
 kC l 1 (by omega),
 (in64 (by omega) (by omega)),
 (by decide),
 hq,
 (by first | omega | rfl),
 (by first | omega | rfl),
 (in64 (by omega) (by omega)), (frS8m0_mk W w l m ⟨rfl,
 rfl,
 (by first | omega | rfl), trivial⟩)⟩
theorem m1_0_1 (W w : Int) (l : List Int) (m : M1) (hW : 1 ≤ W ∧ W ≤ 2) (hp : 0 ≤ m.p ∧ m.p ≤ 2) (hs : 0 ≤ m.s ∧ m.s ≤ 2) (hq : bits .and .i64 (Int.fdiv (kN l 1) (2 ^ (2 * 0))) 3 = ((1 : Nat) : Int)) : Vc (vcC Try.prog false (ntOf Try.prog 9) (lpC Try.prog 9 0) (mk1 W w l m 0) [.b true, .cl [.int .i64 (1 : Nat), kptr l] (.int .i64 (kN l 1)) [], .iy 1] .nrm [(0, 0), (1, 1), (2, 2)] (mk1 W w l (⟨m.p, m.s, 0, m.r1, m.r2, m.r3⟩ : M1) 1)) :=
  vc_of (q := (decide ((↑(0 : Nat) : Int) < (4 : Int)) = true) ∧ ((1 : Int) = (↑(1 : Nat) : Int)) ∧ (List.length l = List.length l) ∧ (∀ (i : Nat), i < List.length l → ∀ (j : Nat), j < (1 : Nat) → AV.int IntKind.i64 (List.getD l i (0 : Int)) = AV.int IntKind.i64 (List.getD l i (0 : Int))) ∧ (PureC Try.prog 26 [.int .i64 (1 : Nat), kptr l] (.int .i64 (kN l 1)) []) ∧ (inK IntKind.i64 ((2 : Int) * (↑(0 : Nat) : Int))) ∧ ((0 : Int) ≤ IntKind.wrap IntKind.u64 ((2 : Int) * (↑(0 : Nat) : Int))) ∧ (Go.bits Go.BinOp.and IntKind.i64 (Int.fdiv (kN l (1 : Nat)) ((2 : Int) ^ (0 : Nat))) (3 : Int) = (↑(1 : Nat) : Int)) ∧ ((0 : Int) ≤ (↑(1 : Nat) : Int) ∧ (↑(1 : Nat) : Int) < (↑(4 : Nat) : Int)) ∧ ((1 : Nat) < (4 : Nat)) ∧ (inK IntKind.i64 ((↑(0 : Nat) : Int) + (1 : Int))) ∧ (frS8m0 W w l m ((M1.p m = M1.p m) ∧ (M1.s m = M1.s m) ∧ ((↑(0 : Nat) : Int) + (1 : Int) = (↑(1 : Nat) : Int)) ∧ True))) (by kernel_rfl)
    ⟨(decide_eq_true (by first | omega | (simp; omega) | (simp; done))),
 (by first | omega | rfl),
 rfl,
 (fun _ _ _ _ => rfl),
 kC l 1 (by omega),
 (in64 (by omega) (by omega)),
 (by decide),
 hq,
 (by first | omega | rfl),
 (by first | omega | rfl),
 (in64 (by omega) (by omega)), (frS8m0_mk W w l m ⟨rfl,
 rfl,
 (by first | omega | rfl), trivial⟩)⟩
theorem m1_0_2t (W w : Int) (l : List Int) (m : M1) (hW : 1 ≤ W ∧ W ≤ 2) (hp : 0 ≤ m.p ∧ m.p ≤ 2) (hs : 0 ≤ m.s ∧ m.s ≤ 2) (hq : bits .and .i64 (Int.fdiv (kN l 1) (2 ^ (2 * 0))) 3 = ((2 : Nat) : Int)) (hc : decide (m.p + W ≤ 2) = true) : Vc (vcC Try.prog false (ntOf Try.prog 9) (lpC Try.prog 9 0) (mk1 W w l m 0) [.b true, .cl [.int .i64 (1 : Nat), kptr l] (.int .i64 (kN l 1)) [], .iy 2, .b true, .b true, .b true, .b true, .b true, .b true, .b true] .nrm [(0, 0), (1, 1), (2, 2)] (mk1 W w l (⟨m.p + W, m.s, 1, m.r1, m.r2, m.r3⟩ : M1) 1)) :=
  vc_of (q := (decide ((↑(0 : Nat) : Int) < (4 : Int)) = true) ∧ ((1 : Int) = (↑(1 : Nat) : Int)) ∧ (List.length l = List.length l) ∧ (∀ (i : Nat), i < List.length l → ∀ (j : Nat), j < (1 : Nat) → AV.int IntKind.i64 (List.getD l i (0 : Int)) = AV.int IntKind.i64 (List.getD l i (0 : Int))) ∧ (PureC Try.prog 26 [.int .i64 (1 : Nat), kptr l] (.int .i64 (kN l 1)) []) ∧ (inK IntKind.i64 ((2 : Int) * (↑(0 : Nat) : Int))) ∧ ((0 : Int) ≤ IntKind.wrap IntKind.u64 ((2 : Int) * (↑(0 : Nat) : Int))) ∧ (Go.bits Go.BinOp.and IntKind.i64 (Int.fdiv (kN l (1 : Nat)) ((2 : Int) ^ (0 : Nat))) (3 : Int) = (↑(2 : Nat) : Int)) ∧ ((0 : Int) ≤ (↑(2 : Nat) : Int) ∧ (↑(2 : Nat) : Int) < (↑(4 : Nat) : Int)) ∧ ((2 : Nat) < (4 : Nat)) ∧ (((1 : Int) == (1 : Int)) = true) ∧ (((1 : Int) == (1 : Int)) = true) ∧ (((1 : Int) == (1 : Int)) = true) ∧ (((1 : Int) == (1 : Int)) = true) ∧ (inK IntKind.i64 (M1.p m + W)) ∧ (((1 : Int) == (1 : Int)) = true) ∧ (((1 : Int) == (1 : Int)) = true) ∧ (decide (M1.p m + W ≤ (2 : Int)) = true) ∧ (inK IntKind.i64 (M1.p m + W)) ∧ (inK IntKind.i64 ((↑(0 : Nat) : Int) + (1 : Int))) ∧ (List.length l = List.length l) ∧ (∀ (i : Nat), i < List.length l → ∀ (j : Nat), j < (1 : Nat) → AV.int IntKind.i64 (List.getD l i (0 : Int)) = AV.int IntKind.i64 (List.getD l i (0 : Int))) ∧ (W = W) ∧ (w = w) ∧ ((6 : Int) = (6 : Int)) ∧ ((1 : Int) = (1 : Int)) ∧ (M1.r1 m = M1.r1 m) ∧ (M1.r2 m = M1.r2 m) ∧ (M1.r3 m = M1.r3 m) ∧ (M1.p m + W = M1.p m + W) ∧ (M1.s m = M1.s m) ∧ ((↑(0 : Nat) : Int) + (1 : Int) = (↑(1 : Nat) : Int)) ∧ True) (by kernel_rfl)
    ⟨(decide_eq_true (by first | omega | (simp; omega) | (simp; done))),
 (by first | omega | rfl),
 rfl,
 (fun _ _ _ _ => rfl),
 kC l 1 (by omega),
 (in64 (by omega) (by omega)),
 (by decide),
 hq,
 (by first | omega | rfl),
 (by first | omega | rfl),
 (by first | omega | rfl | (simp; done) | (simp; omega)),
 (by first | omega | rfl | (simp; done) | (simp; omega)),
 (by first | omega | rfl | (simp; done) | (simp; omega)),
 (by first | omega | rfl | (simp; done) | (simp; omega)),
 (in64 (by omega) (by omega)),
 (by first | omega | rfl | (simp; done) | (simp; omega)),
 (by first | omega | rfl | (simp; done) | (simp; omega)),
 hc,
 (in64 (by omega) (by omega)),
 (in64 (by omega) (by omega)),
 rfl,
 (fun _ _ _ _ => rfl),
 rfl,
 rfl,
 rfl,
 rfl,
 rfl,
 rfl,
 rfl,
 rfl,
 rfl,
 (by first | omega | rfl), trivial⟩
theorem m1_0_2f (W w : Int) (l : List Int) (m : M1) (hW : 1 ≤ W ∧ W ≤ 2) (hp : 0 ≤ m.p ∧ m.p ≤ 2) (hs : 0 ≤ m.s ∧ m.s ≤ 2) (hq : bits .and .i64 (Int.fdiv (kN l 1) (2 ^ (2 * 0))) 3 = ((2 : Nat) : Int)) (hc : decide (m.p + W ≤ 2) = false) : Vc (vcC Try.prog false (ntOf Try.prog 9) (lpC Try.prog 9 0) (mk1 W w l m 0) [.b true, .cl [.int .i64 (1 : Nat), kptr l] (.int .i64 (kN l 1)) [], .iy 2, .b true, .b true, .b true, .b true, .b true, .b true, .b false] .nrm [(0, 0), (1, 1), (2, 2)] (mk1 W w l (⟨m.p, m.s, 0, m.r1, m.r2, m.r3⟩ : M1) 1)) :=
  vc_of (q := (decide ((↑(0 : Nat) : Int) < (4 : Int)) = true) ∧ ((1 : Int) = (↑(1 : Nat) : Int)) ∧ (List.length l = List.length l) ∧ (∀ (i : Nat), i < List.length l → ∀ (j : Nat), j < (1 : Nat) → AV.int IntKind.i64 (List.getD l i (0 : Int)) = AV.int IntKind.i64 (List.getD l i (0 : Int))) ∧ (PureC Try.prog 26 [.int .i64 (1 : Nat), kptr l] (.int .i64 (kN l 1)) []) ∧ (inK IntKind.i64 ((2 : Int) * (↑(0 : Nat) : Int))) ∧ ((0 : Int) ≤ IntKind.wrap IntKind.u64 ((2 : Int) * (↑(0 : Nat) : Int))) ∧ (Go.bits Go.BinOp.and IntKind.i64 (Int.fdiv (kN l (1 : Nat)) ((2 : Int) ^ (0 : Nat))) (3 : Int) = (↑(2 : Nat) : Int)) ∧ ((0 : Int) ≤ (↑(2 : Nat) : Int) ∧ (↑(2 : Nat) : Int) < (↑(4 : Nat) : Int)) ∧ ((2 : Nat) < (4 : Nat)) ∧ (((1 : Int) == (1 : Int)) = true) ∧ (((1 : Int) == (1 : Int)) = true) ∧ (((1 : Int) == (1 : Int)) = true) ∧ (((1 : Int) == (1 : Int)) = true) ∧ (inK IntKind.i64 (M1.p m + W)) ∧ (((1 : Int) == (1 : Int)) = true) ∧ (((1 : Int) == (1 : Int)) = true) ∧ (decide (M1.p m + W ≤ (2 : Int)) = false) ∧ (inK IntKind.i64 ((↑(0 : Nat) : Int) + (1 : Int))) ∧ (frS8m0 W w l m ((M1.p m = M1.p m) ∧ (M1.s m = M1.s m) ∧ ((↑(0 : Nat) : Int) + (1 : Int) = (↑(1 : Nat) : Int)) ∧ True))) (by kernel_rfl)
    ⟨(decide_eq_true (by first | omega | (simp; omega) | (simp; done))),
 (by first | omega | rfl),
 rfl,
 (fun _ _ _ _ => rfl),
 kC l 1 (by omega),
 (in64 (by omega) (by omega)),
 (by decide),
 hq,
 (by first | omega | rfl),
 (by first | omega | rfl),
 (by first | omega | rfl | (simp; done) | (simp; omega)),
 (by first | omega | rfl | (simp; done) | (simp; omega)),
 (by first | omega | rfl | (simp; done) | (simp; omega)),
 (by first | omega | rfl | (simp; done) | (simp; omega)),
 (in64 (by omega) (by omega)),
 (by first | omega | rfl | (simp; done) | (simp; omega)),
 (by first | omega | rfl | (simp; done) | (simp; omega)),
 hc,
 (in64 (by omega) (by omega)), (frS8m0_mk W w l m ⟨rfl,
 rfl,
 (by first | omega | rfl), trivial⟩)⟩
theorem m1_0_3t (W w : Int) (l : List Int) (m : M1) (hW : 1 ≤ W ∧ W ≤ 2) (hp : 0 ≤ m.p ∧ m.p ≤ 2) (hs : 0 ≤ m.s ∧ m.s ≤ 2) (hq : bits .and .i64 (Int.fdiv (kN l 1) (2 ^ (2 * 0))) 3 = ((3 : Nat) : Int)) (hc : decide (m.s + W ≤ 2) = true) : Vc (vcC Try.prog false (ntOf Try.prog 9) (lpC Try.prog 9 0) (mk1 W w l m 0) [.b true, .cl [.int .i64 (1 : Nat), kptr l] (.int .i64 (kN l 1)) [], .iy 3, .b false, .b false, .b false, .b false, .b false, .b false, .b false, .b true, .b true, .b true, .b true, .b true, .b true, .b true] .nrm [(0, 0), (1, 1), (2, 2)] (mk1 W w l (⟨m.p, m.s + W, 2, m.r1, m.r2, m.r3⟩ : M1) 1)) :=
  vc_of (q := (decide ((↑(0 : Nat) : Int) < (4 : Int)) = true) ∧ ((1 : Int) = (↑(1 : Nat) : Int)) ∧ (List.length l = List.length l) ∧ (∀ (i : Nat), i < List.length l → ∀ (j : Nat), j < (1 : Nat) → AV.int IntKind.i64 (List.getD l i (0 : Int)) = AV.int IntKind.i64 (List.getD l i (0 : Int))) ∧ (PureC Try.prog 26 [.int .i64 (1 : Nat), kptr l] (.int .i64 (kN l 1)) []) ∧ (inK IntKind.i64 ((2 : Int) * (↑(0 : Nat) : Int))) ∧ ((0 : Int) ≤ IntKind.wrap IntKind.u64 ((2 : Int) * (↑(0 : Nat) : Int))) ∧ (Go.bits Go.BinOp.and IntKind.i64 (Int.fdiv (kN l (1 : Nat)) ((2 : Int) ^ (0 : Nat))) (3 : Int) = (↑(3 : Nat) : Int)) ∧ ((0 : Int) ≤ (↑(3 : Nat) : Int) ∧ (↑(3 : Nat) : Int) < (↑(4 : Nat) : Int)) ∧ ((3 : Nat) < (4 : Nat)) ∧ (((2 : Int) == (1 : Int)) = false) ∧ (((2 : Int) == (1 : Int)) = false) ∧ (((2 : Int) == (1 : Int)) = false) ∧ (((2 : Int) == (1 : Int)) = false) ∧ (((2 : Int) == (1 : Int)) = false) ∧ (((2 : Int) == (1 : Int)) = false) ∧ (false = false) ∧ (((2 : Int) == (2 : Int)) = true) ∧ (((2 : Int) == (2 : Int)) = true) ∧ (((2 : Int) == (2 : Int)) = true) ∧ (((2 : Int) == (2 : Int)) = true) ∧ (inK IntKind.i64 (M1.s m + W)) ∧ (((2 : Int) == (2 : Int)) = true) ∧ (((2 : Int) == (2 : Int)) = true) ∧ (decide (M1.s m + W ≤ (2 : Int)) = true) ∧ (inK IntKind.i64 (M1.s m + W)) ∧ (inK IntKind.i64 ((↑(0 : Nat) : Int) + (1 : Int))) ∧ (List.length l = List.length l) ∧ (∀ (i : Nat), i < List.length l → ∀ (j : Nat), j < (1 : Nat) → AV.int IntKind.i64 (List.getD l i (0 : Int)) = AV.int IntKind.i64 (List.getD l i (0 : Int))) ∧ (W = W) ∧ (w = w) ∧ ((6 : Int) = (6 : Int)) ∧ ((2 : Int) = (2 : Int)) ∧ (M1.r1 m = M1.r1 m) ∧ (M1.r2 m = M1.r2 m) ∧ (M1.r3 m = M1.r3 m) ∧ (M1.p m = M1.p m) ∧ (M1.s m + W = M1.s m + W) ∧ ((↑(0 : Nat) : Int) + (1 : Int) = (↑(1 : Nat) : Int)) ∧ True) (by kernel_rfl)
    ⟨(decide_eq_true (by first | omega | (simp; omega) | (simp; done))),
 (by first | omega | rfl),
 rfl,
 (fun _ _ _ _ => rfl),
 kC l 1 (by omega),
 (in64 (by omega) (by omega)),
 (by decide),
 hq,
 (by first | omega | rfl),
 (by first | omega | rfl),
 (by first | omega | rfl | (simp; done) | (simp; omega)),
 (by first | omega | rfl | (simp; done) | (simp; omega)),
 (by first | omega | rfl | (simp; done) | (simp; omega)),
 (by first | omega | rfl | (simp; done) | (simp; omega)),
 (by first | omega | rfl | (simp; done) | (simp; omega)),
 (by first | omega | rfl | (simp; done) | (simp; omega)),
 rfl,
 (by first | omega | rfl | (simp; done) | (simp; omega)),
 (by first | omega | rfl | (simp; done) | (simp; omega)),
 (by first | omega | rfl | (simp; done) | (simp; omega)),
 (by first | omega | rfl | (simp; done) | (simp; omega)),
 (in64 (by omega) (by omega)),
 (by first | omega | rfl | (simp; done) | (simp; omega)),
 (by first | omega | rfl | (simp; done) | (simp; omega)),
 hc,
 (in64 (by omega) (by omega)),
 (in64 (by omega) (by omega)),
 rfl,
 (fun _ _ _ _ => rfl),
 rfl,
 rfl,
 rfl,
 rfl,
 rfl,
 rfl,
 rfl,
 rfl,
 rfl,
 (by first | omega | rfl), trivial⟩
theorem m1_0_3f (W w : Int) (l : List Int) (m : M1) (hW : 1 ≤ W ∧ W ≤ 2) (hp : 0 ≤ m.p ∧ m.p ≤ 2) (hs : 0 ≤ m.s ∧ m.s ≤ 2) (hq : bits .and .i64 (Int.fdiv (kN l 1) (2 ^ (2 * 0))) 3 = ((3 : Nat) : Int)) (hc : decide (m.s + W ≤ 2) = false) : Vc (vcC Try.prog false (ntOf Try.prog 9) (lpC Try.prog 9 0) (mk1 W w l m 0) [.b true, .cl [.int .i64 (1 : Nat), kptr l] (.int .i64 (kN l 1)) [], .iy 3, .b false, .b false, .b false, .b false, .b false, .b false, .b false, .b true, .b true, .b true, .b true, .b true, .b true, .b false] .nrm [(0, 0), (1, 1), (2, 2)] (mk1 W w l (⟨m.p, m.s, 0, m.r1, m.r2, m.r3⟩ : M1) 1)) :=
  vc_of (q := (decide ((↑(0 : Nat) : Int) < (4 : Int)) = true) ∧ ((1 : Int) = (↑(1 : Nat) : Int)) ∧ (List.length l = List.length l) ∧ (∀ (i : Nat), i < List.length l → ∀ (j : Nat), j < (1 : Nat) → AV.int IntKind.i64 (List.getD l i (0 : Int)) = AV.int IntKind.i64 (List.getD l i (0 : Int))) ∧ (PureC Try.prog 26 [.int .i64 (1 : Nat), kptr l] (.int .i64 (kN l 1)) []) ∧ (inK IntKind.i64 ((2 : Int) * (↑(0 : Nat) : Int))) ∧ ((0 : Int) ≤ IntKind.wrap IntKind.u64 ((2 : Int) * (↑(0 : Nat) : Int))) ∧ (Go.bits Go.BinOp.and IntKind.i64 (Int.fdiv (kN l (1 : Nat)) ((2 : Int) ^ (0 : Nat))) (3 : Int) = (↑(3 : Nat) : Int)) ∧ ((0 : Int) ≤ (↑(3 : Nat) : Int) ∧ (↑(3 : Nat) : Int) < (↑(4 : Nat) : Int)) ∧ ((3 : Nat) < (4 : Nat)) ∧ (((2 : Int) == (1 : Int)) = false) ∧ (((2 : Int) == (1 : Int)) = false) ∧ (((2 : Int) == (1 : Int)) = false) ∧ (((2 : Int) == (1 : Int)) = false) ∧ (((2 : Int) == (1 : Int)) = false) ∧ (((2 : Int) == (1 : Int)) = false) ∧ (false = false) ∧ (((2 : Int) == (2 : Int)) = true) ∧ (((2 : Int) == (2 : Int)) = true) ∧ (((2 : Int) == (2 : Int)) = true) ∧ (((2 : Int) == (2 : Int)) = true) ∧ (inK IntKind.i64 (M1.s m + W)) ∧ (((2 : Int) == (2 : Int)) = true) ∧ (((2 : Int) == (2 : Int)) = true) ∧ (decide (M1.s m + W ≤ (2 : Int)) = false) ∧ (inK IntKind.i64 ((↑(0 : Nat) : Int) + (1 : Int))) ∧ (frS8m0 W w l m ((M1.p m = M1.p m) ∧ (M1.s m = M1.s m) ∧ ((↑(0 : Nat) : Int) + (1 : Int) = (↑(1 : Nat) : Int)) ∧ True))) (by kernel_rfl)
    ⟨(decide_eq_true (by first | omega | (simp; omega) | (simp; done))),
 (by first | omega | rfl),
 rfl,
 (fun _ _ _ _ => rfl),
 kC l 1 (by omega),
 (in64 (by omega) (by omega)),
 (by decide),
 hq,
 (by first | omega | rfl),
 (by first | omega | rfl),
 (by first | omega | rfl | (simp; done) | (simp; omega)),
 (by first | omega | rfl | (simp; done) | (simp; omega)),
 (by first | omega | rfl | (simp; done) | (simp; omega)),
 (by first | omega | rfl | (simp; done) | (simp; omega)),
 (by first | omega | rfl | (simp; done) | (simp; omega)),
 (by first | omega | rfl | (simp; done) | (simp; omega)),
 rfl,
 (by first | omega | rfl | (simp; done) | (simp; omega)),
 (by first | omega | rfl | (simp; done) | (simp; omega)),
 (by first | omega | rfl | (simp; done) | (simp; omega)),
 (by first | omega | rfl | (simp; done) | (simp; omega)),
 (in64 (by omega) (by omega)),
 (by first | omega | rfl | (simp; done) | (simp; omega)),
 (by first | omega | rfl | (simp; done) | (simp; omega)),
 hc,
 (in64 (by omega) (by omega)), (frS8m0_mk W w l m ⟨rfl,
 rfl,
 (by first | omega | rfl), trivial⟩)⟩
def frS8m1 (W : Int) (w : Int) (l : List Int) (m : M1) (Z : Prop) : Prop := (List.length l = List.length l) ∧ (∀ (i : Nat), i < List.length l → ∀ (j : Nat), j < (1 : Nat) → AV.int IntKind.i64 (List.getD l i (0 : Int)) = AV.int IntKind.i64 (List.getD l i (0 : Int))) ∧ (W = W) ∧ (w = w) ∧ ((6 : Int) = (6 : Int)) ∧ (M1.r0 m = M1.r0 m) ∧ ((0 : Int) = (0 : Int)) ∧ (M1.r2 m = M1.r2 m) ∧ (M1.r3 m = M1.r3 m) ∧ Z
theorem frS8m1_mk (W : Int) (w : Int) (l : List Int) (m : M1) {Z : Prop} (z : Z) : frS8m1 W w l m Z := ⟨rfl, (fun _ _ _ _ => rfl), rfl, rfl, rfl, rfl, rfl, rfl, rfl, z⟩
theorem m1_1_0 (W w : Int) (l : List Int) (m : M1) (hW : 1 ≤ W ∧ W ≤ 2) (hp : 0 ≤ m.p ∧ m.p ≤ 2) (hs : 0 ≤ m.s ∧ m.s ≤ 2) (hq : bits .and .i64 (Int.fdiv (kN l 1) (2 ^ (2 * 1))) 3 = ((0 : Nat) : Int)) : Vc (vcC Try.prog false (ntOf Try.prog 9) (lpC Try.prog 9 0) (mk1 W w l m 1) [.b true, .cl [.int .i64 (1 : Nat), kptr l] (.int .i64 (kN l 1)) [], .iy 0] .nrm [(0, 0), (1, 1), (2, 2)] (mk1 W w l (⟨m.p, m.s, m.r0, 0, m.r2, m.r3⟩ : M1) 2)) :=
  vc_of (q := (decide ((↑(1 : Nat) : Int) < (4 : Int)) = true) ∧ ((1 : Int) = (↑(1 : Nat) : Int)) ∧ (List.length l = List.length l) ∧ (∀ (i : Nat), i < List.length l → ∀ (j : Nat), j < (1 : Nat) → AV.int IntKind.i64 (List.getD l i (0 : Int)) = AV.int IntKind.i64 (List.getD l i (0 : Int))) ∧ (PureC Try.prog 26 [.int .i64 (1 : Nat), kptr l] (.int .i64 (kN l 1)) []) ∧ (inK IntKind.i64 ((2 : Int) * (↑(1 : Nat) : Int))) ∧ ((0 : Int) ≤ IntKind.wrap IntKind.u64 ((2 : Int) * (↑(1 : Nat) : Int))) ∧ (Go.bits Go.BinOp.and IntKind.i64 (Int.fdiv (kN l (1 : Nat)) ((2 : Int) ^ (2 : Nat))) (3 : Int) = (↑(0 : Nat) : Int)) ∧ ((0 : Int) ≤ (↑(0 : Nat) : Int) ∧ (↑(0 : Nat) : Int) < (↑(4 : Nat) : Int)) ∧ ((0 : Nat) < (4 : Nat)) ∧ (inK IntKind.i64 ((↑(1 : Nat) : Int) + (1 : Int))) ∧ (frS8m1 W w l m ((M1.p m = M1.p m) ∧ (M1.s m = M1.s m) ∧ ((↑(1 : Nat) : Int) + (1 : Int) = (↑(2 : Nat) : Int)) ∧ True))) (by kernel_rfl)
    ⟨(decide_eq_true (by first | omega | (simp; omega) | (simp; done))),
 (by first | omega | rfl),
 rfl,
 (fun _ _ _ _ => rfl),
 kC l 1 (by omega),
 (in64 (by omega) (by omega)),
 (by decide),
 hq,
 (by first | omega | rfl),
 (by first | omega | rfl),
 (in64 (by omega) (by omega)), (frS8m1_mk W w l m ⟨rfl,
 rfl,
 (by first | omega | rfl), trivial⟩)⟩
theorem m1_1_1 (W w : Int) (l : List Int) (m : M1) (hW : 1 ≤ W ∧ W ≤ 2) (hp : 0 ≤ m.p ∧ m.p ≤ 2) (hs : 0 ≤ m.s ∧ m.s ≤ 2) (hq : bits .and .i64 (Int.fdiv (kN l 1) (2 ^ (2 * 1))) 3 = ((1 : Nat) : Int)) : Vc (vcC Try.prog false (ntOf Try.prog 9) (lpC Try.prog 9 0) (mk1 W w l m 1) [.b true, .cl [.int .i64 (1 : Nat), kptr l] (.int .i64 (kN l 1)) [], .iy 1] .nrm [(0, 0), (1, 1), (2, 2)] (mk1 W w l (⟨m.p, m.s, m.r0, 0, m.r2, m.r3⟩ : M1) 2)) :=
  vc_of (q := (decide ((↑(1 : Nat) : Int) < (4 : Int)) = true) ∧ ((1 : Int) = (↑(1 : Nat) : Int)) ∧ (List.length l = List.length l) ∧ (∀ (i : Nat), i < List.length l → ∀ (j : Nat), j < (1 : Nat) → AV.int IntKind.i64 (List.getD l i (0 : Int)) = AV.int IntKind.i64 (List.getD l i (0 : Int))) ∧ (PureC Try.prog 26 [.int .i64 (1 : Nat), kptr l] (.int .i64 (kN l 1)) []) ∧ (inK IntKind.i64 ((2 : Int) * (↑(1 : Nat) : Int))) ∧ ((0 : Int) ≤ IntKind.wrap IntKind.u64 ((2 : Int) * (↑(1 : Nat) : Int))) ∧ (Go.bits Go.BinOp.and IntKind.i64 (Int.fdiv (kN l (1 : Nat)) ((2 : Int) ^ (2 : Nat))) (3 : Int) = (↑(1 : Nat) : Int)) ∧ ((0 : Int) ≤ (↑(1 : Nat) : Int) ∧ (↑(1 : Nat) : Int) < (↑(4 : Nat) : Int)) ∧ ((1 : Nat) < (4 : Nat)) ∧ (inK IntKind.i64 ((↑(1 : Nat) : Int) + (1 : Int))) ∧ (frS8m1 W w l m ((M1.p m = M1.p m) ∧ (M1.s m = M1.s m) ∧ ((↑(1 : Nat) : Int) + (1 : Int) = (↑(2 : Nat) : Int)) ∧ True))) (by kernel_rfl)
    ⟨(decide_eq_true (by first | omega | (simp; omega) | (simp; done))),
 (by first | omega | rfl),
 rfl,
 (fun _ _ _ _ => rfl),
 kC l 1 (by omega),
 (in64 (by omega) (by omega)),
 (by decide),
 hq,
 (by first | omega | rfl),
 (by first | omega | rfl),
 (in64 (by omega) (by omega)), (frS8m1_mk W w l m ⟨rfl,
 rfl,
 (by first | omega | rfl), trivial⟩)⟩
theorem m1_1_2t (W w : Int) (l : List Int) (m : M1) (hW : 1 ≤ W ∧ W ≤ 2) (hp : 0 ≤ m.p ∧ m.p ≤ 2) (hs : 0 ≤ m.s ∧ m.s ≤ 2) (hq : bits .and .i64 (Int.fdiv (kN l 1) (2 ^ (2 * 1))) 3 = ((2 : Nat) : Int)) (hc : decide (m.p + W ≤ 2) = true) : Vc (vcC Try.prog false (ntOf Try.prog 9) (lpC Try.prog 9 0) (mk1 W w l m 1) [.b true, .cl [.int .i64 (1 : Nat), kptr l] (.int .i64 (kN l 1)) [], .iy 2, .b true, .b true, .b true, .b true, .b true, .b true, .b true] .nrm [(0, 0), (1, 1), (2, 2)] (mk1 W w l (⟨m.p + W, m.s, m.r0, 1, m.r2, m.r3⟩ : M1) 2)) :=
  vc_of (q := (decide ((↑(1 : Nat) : Int) < (4 : Int)) = true) ∧ ((1 : Int) = (↑(1 : Nat) : Int)) ∧ (List.length l = List.length l) ∧ (∀ (i : Nat), i < List.length l → ∀ (j : Nat), j < (1 : Nat) → AV.int IntKind.i64 (List.getD l i (0 : Int)) = AV.int IntKind.i64 (List.getD l i (0 : Int))) ∧ (PureC Try.prog 26 [.int .i64 (1 : Nat), kptr l] (.int .i64 (kN l 1)) []) ∧ (inK IntKind.i64 ((2 : Int) * (↑(1 : Nat) : Int))) ∧ ((0 : Int) ≤ IntKind.wrap IntKind.u64 ((2 : Int) * (↑(1 : Nat) : Int))) ∧ (Go.bits Go.BinOp.and IntKind.i64 (Int.fdiv (kN l (1 : Nat)) ((2 : Int) ^ (2 : Nat))) (3 : Int) = (↑(2 : Nat) : Int)) ∧ ((0 : Int) ≤ (↑(2 : Nat) : Int) ∧ (↑(2 : Nat) : Int) < (↑(4 : Nat) : Int)) ∧ ((2 : Nat) < (4 : Nat)) ∧ (((1 : Int) == (1 : Int)) = true) ∧ (((1 : Int) == (1 : Int)) = true) ∧ (((1 : Int) == (1 : Int)) = true) ∧ (((1 : Int) == (1 : Int)) = true) ∧ (inK IntKind.i64 (M1.p m + W)) ∧ (((1 : Int) == (1 : Int)) = true) ∧ (((1 : Int) == (1 : Int)) = true) ∧ (decide (M1.p m + W ≤ (2 : Int)) = true) ∧ (inK IntKind.i64 (M1.p m + W)) ∧ (inK IntKind.i64 ((↑(1 : Nat) : Int) + (1 : Int))) ∧ (List.length l = List.length l) ∧ (∀ (i : Nat), i < List.length l → ∀ (j : Nat), j < (1 : Nat) → AV.int IntKind.i64 (List.getD l i (0 : Int)) = AV.int IntKind.i64 (List.getD l i (0 : Int))) ∧ (W = W) ∧ (w = w) ∧ ((6 : Int) = (6 : Int)) ∧ (M1.r0 m = M1.r0 m) ∧ ((1 : Int) = (1 : Int)) ∧ (M1.r2 m = M1.r2 m) ∧ (M1.r3 m = M1.r3 m) ∧ (M1.p m + W = M1.p m + W) ∧ (M1.s m = M1.s m) ∧ ((↑(1 : Nat) : Int) + (1 : Int) = (↑(2 : Nat) : Int)) ∧ True) (by kernel_rfl)
    ⟨(decide_eq_true (by first | omega | (simp; omega) | (simp; done))),
 (by first | omega | rfl),
 rfl,
 (fun _ _ _ _ => rfl),
 kC l 1 (by omega),
 (in64 (by omega) (by omega)),
 (by decide),
 hq,
 (by first | omega | rfl),
 (by first | omega | rfl),
 (by first | omega | rfl | (simp; done) | (simp; omega)),
 (by first | omega | rfl | (simp; done) | (simp; omega)),
 (by first | omega | rfl | (simp; done) | (simp; omega)),
 (by first | omega | rfl | (simp; done) | (simp; omega)),
 (in64 (by omega) (by omega)),
 (by first | omega | rfl | (simp; done) | (simp; omega)),
 (by first | omega | rfl | (simp; done) | (simp; omega)),
 hc,
 (in64 (by omega) (by omega)),
 (in64 (by omega) (by omega)),
 rfl,
 (fun _ _ _ _ => rfl),
 rfl,
 rfl,
 rfl,
 rfl,
 rfl,
 rfl,
 rfl,
 rfl,
 rfl,
 (by first | omega | rfl), trivial⟩
theorem m1_1_2f (W w : Int) (l : List Int) (m : M1) (hW : 1 ≤ W ∧ W ≤ 2) (hp : 0 ≤ m.p ∧ m.p ≤ 2) (hs : 0 ≤ m.s ∧ m.s ≤ 2) (hq : bits .and .i64 (Int.fdiv (kN l 1) (2 ^ (2 * 1))) 3 = ((2 : Nat) : Int)) (hc : decide (m.p + W ≤ 2) = false) : Vc (vcC Try.prog false (ntOf Try.prog 9) (lpC Try.prog 9 0) (mk1 W w l m 1) [.b true, .cl [.int .i64 (1 : Nat), kptr l] (.int .i64 (kN l 1)) [], .iy 2, .b true, .b true, .b true, .b true, .b true, .b true, .b false] .nrm [(0, 0), (1, 1), (2, 2)] (mk1 W w l (⟨m.p, m.s, m.r0, 0, m.r2, m.r3⟩ : M1) 2)) :=
  vc_of (q := (decide ((↑(1 : Nat) : Int) < (4 : Int)) = true) ∧ ((1 : Int) = (↑(1 : Nat) : Int)) ∧ (List.length l = List.length l) ∧ (∀ (i : Nat), i < List.length l → ∀ (j : Nat), j < (1 : Nat) → AV.int IntKind.i64 (List.getD l i (0 : Int)) = AV.int IntKind.i64 (List.getD l i (0 : Int))) ∧ (PureC Try.prog 26 [.int .i64 (1 : Nat), kptr l] (.int .i64 (kN l 1)) []) ∧ (inK IntKind.i64 ((2 : Int) * (↑(1 : Nat) : Int))) ∧ ((0 : Int) ≤ IntKind.wrap IntKind.u64 ((2 : Int) * (↑(1 : Nat) : Int))) ∧ (Go.bits Go.BinOp.and IntKind.i64 (Int.fdiv (kN l (1 : Nat)) ((2 : Int) ^ (2 : Nat))) (3 : Int) = (↑(2 : Nat) : Int)) ∧ ((0 : Int) ≤ (↑(2 : Nat) : Int) ∧ (↑(2 : Nat) : Int) < (↑(4 : Nat) : Int)) ∧ ((2 : Nat) < (4 : Nat)) ∧ (((1 : Int) == (1 : Int)) = true) ∧ (((1 : Int) == (1 : Int)) = true) ∧ (((1 : Int) == (1 : Int)) = true) ∧ (((1 : Int) == (1 : Int)) = true) ∧ (inK IntKind.i64 (M1.p m + W)) ∧ (((1 : Int) == (1 : Int)) = true) ∧ (((1 : Int) == (1 : Int)) = true) ∧ (decide (M1.p m + W ≤ (2 : Int)) = false) ∧ (inK IntKind.i64 ((↑(1 : Nat) : Int) + (1 : Int))) ∧ (frS8m1 W w l m ((M1.p m = M1.p m) ∧ (M1.s m = M1.s m) ∧ ((↑(1 : Nat) : Int) + (1 : Int) = (↑(2 : Nat) : Int)) ∧ True))) (by kernel_rfl)
    ⟨(decide_eq_true (by first | omega | (simp; omega) | (simp; done))),
 (by first | omega | rfl),
 rfl,
 (fun _ _ _ _ => rfl),
 kC l 1 (by omega),
 (in64 (by omega) (by omega)),
 (by decide),
 hq,
 (by first | omega | rfl),
 (by first | omega | rfl),
 (by first | omega | rfl | (simp; done) | (simp; omega)),
 (by first | omega | rfl | (simp; done) | (simp; omega)),
 (by first | omega | rfl | (simp; done) | (simp; omega)),
 (by first | omega | rfl | (simp; done) | (simp; omega)),
 (in64 (by omega) (by omega)),
 (by first | omega | rfl | (simp; done) | (simp; omega)),
 (by first | omega | rfl | (simp; done) | (simp; omega)),
 hc,
 (in64 (by omega) (by omega)), (frS8m1_mk W w l m ⟨rfl,
 rfl,
 (by first | omega | rfl), trivial⟩)⟩
theorem m1_1_3t (W w : Int) (l : List Int) (m : M1) (hW : 1 ≤ W ∧ W ≤ 2) (hp : 0 ≤ m.p ∧ m.p ≤ 2) (hs : 0 ≤ m.s ∧ m.s ≤ 2) (hq : bits .and .i64 (Int.fdiv (kN l 1) (2 ^ (2 * 1))) 3 = ((3 : Nat) : Int)) (hc : decide (m.s + W ≤ 2) = true) : Vc (vcC Try.prog false (ntOf Try.prog 9) (lpC Try.prog 9 0) (mk1 W w l m 1) [.b true, .cl [.int .i64 (1 : Nat), kptr l] (.int .i64 (kN l 1)) [], .iy 3, .b false, .b false, .b false, .b false, .b false, .b false, .b false, .b true, .b true, .b true, .b true, .b true, .b true, .b true] .nrm [(0, 0), (1, 1), (2, 2)] (mk1 W w l (⟨m.p, m.s + W, m.r0, 2, m.r2, m.r3⟩ : M1) 2)) :=
  vc_of (q := (decide ((↑(1 : Nat) : Int) < (4 : Int)) = true) ∧ ((1 : Int) = (↑(1 : Nat) : Int)) ∧ (List.length l = List.length l) ∧ (∀ (i : Nat), i < List.length l → ∀ (j : Nat), j < (1 : Nat) → AV.int IntKind.i64 (List.getD l i (0 : Int)) = AV.int IntKind.i64 (List.getD l i (0 : Int))) ∧ (PureC Try.prog 26 [.int .i64 (1 : Nat), kptr l] (.int .i64 (kN l 1)) []) ∧ (inK IntKind.i64 ((2 : Int) * (↑(1 : Nat) : Int))) ∧ ((0 : Int) ≤ IntKind.wrap IntKind.u64 ((2 : Int) * (↑(1 : Nat) : Int))) ∧ (Go.bits Go.BinOp.and IntKind.i64 (Int.fdiv (kN l (1 : Nat)) ((2 : Int) ^ (2 : Nat))) (3 : Int) = (↑(3 : Nat) : Int)) ∧ ((0 : Int) ≤ (↑(3 : Nat) : Int) ∧ (↑(3 : Nat) : Int) < (↑(4 : Nat) : Int)) ∧ ((3 : Nat) < (4 : Nat)) ∧ (((2 : Int) == (1 : Int)) = false) ∧ (((2 : Int) == (1 : Int)) = false) ∧ (((2 : Int) == (1 : Int)) = false) ∧ (((2 : Int) == (1 : Int)) = false) ∧ (((2 : Int) == (1 : Int)) = false) ∧ (((2 : Int) == (1 : Int)) = false) ∧ (false = false) ∧ (((2 : Int) == (2 : Int)) = true) ∧ (((2 : Int) == (2 : Int)) = true) ∧ (((2 : Int) == (2 : Int)) = true) ∧ (((2 : Int) == (2 : Int)) = true) ∧ (inK IntKind.i64 (M1.s m + W)) ∧ (((2 : Int) == (2 : Int)) = true) ∧ (((2 : Int) == (2 : Int)) = true) ∧ (decide (M1.s m + W ≤ (2 : Int)) = true) ∧ (inK IntKind.i64 (M1.s m + W)) ∧ (inK IntKind.i64 ((↑(1 : Nat) : Int) + (1 : Int))) ∧ (List.length l = List.length l) ∧ (∀ (i : Nat), i < List.length l → ∀ (j : Nat), j < (1 : Nat) → AV.int IntKind.i64 (List.getD l i (0 : Int)) = AV.int IntKind.i64 (List.getD l i (0 : Int))) ∧ (W = W) ∧ (w = w) ∧ ((6 : Int) = (6 : Int)) ∧ (M1.r0 m = M1.r0 m) ∧ ((2 : Int) = (2 : Int)) ∧ (M1.r2 m = M1.r2 m) ∧ (M1.r3 m = M1.r3 m) ∧ (M1.p m = M1.p m) ∧ (M1.s m + W = M1.s m + W) ∧ ((↑(1 : Nat) : Int) + (1 : Int) = (↑(2 : Nat) : Int)) ∧ True) (by kernel_rfl)
    ⟨(decide_eq_true (by first | omega | (simp; omega) | (simp; done))),
 (by first | omega | rfl),
 rfl,
 (fun _ _ _ _ => rfl),
 kC l 1 (by omega),
 (in64 (by omega) (by omega)),
 (by decide),
 hq,
 (by first | omega | rfl),
 (by first | omega | rfl),
 (by first | omega | rfl | (simp; done) | (simp; omega)),
 (by first | omega | rfl | (simp; done) | (simp; omega)),
 (by first | omega | rfl | (simp; done) | (simp; omega)),
 (by first | omega | rfl | (simp; done) | (simp; omega)),
 (by first | omega | rfl | (simp; done) | (simp; omega)),
 (by first | omega | rfl | (simp; done) | (simp; omega)),
 rfl,
 (by first | omega | rfl | (simp; done) | (simp; omega)),
 (by first | omega | rfl | (simp; done) | (simp; omega)),
 (by first | omega | rfl | (simp; done) | (simp; omega)),
 (by first | omega | rfl | (simp; done) | (simp; omega)),
 (in64 (by omega) (by omega)),
 (by first | omega | rfl | (simp; done) | (simp; omega)),
 (by first | omega | rfl | (simp; done) | (simp; omega)),
 hc,
 (in64 (by omega) (by omega)),
 (in64 (by omega) (by omega)),
 rfl,
 (fun _ _ _ _ => rfl),
 rfl,
 rfl,
 rfl,
 rfl,
 rfl,
 rfl,
 rfl,
 rfl,
 rfl,
 (by first | omega | rfl), trivial⟩
theorem m1_1_3f (W w : Int) (l : List Int) (m : M1) (hW : 1 ≤ W ∧ W ≤ 2) (hp : 0 ≤ m.p ∧ m.p ≤ 2) (hs : 0 ≤ m.s ∧ m.s ≤ 2) (hq : bits .and .i64 (Int.fdiv (kN l 1) (2 ^ (2 * 1))) 3 = ((3 : Nat) : Int)) (hc : decide (m.s + W ≤ 2) = false) : Vc (vcC Try.prog false (ntOf Try.prog 9) (lpC Try.prog 9 0) (mk1 W w l m 1) [.b true, .cl [.int .i64 (1 : Nat), kptr l] (.int .i64 (kN l 1)) [], .iy 3, .b false, .b false, .b false, .b false, .b false, .b false, .b false, .b true, .b true, .b true, .b true, .b true, .b true, .b false] .nrm [(0, 0), (1, 1), (2, 2)] (mk1 W w l (⟨m.p, m.s, m.r0, 0, m.r2, m.r3⟩ : M1) 2)) :=
  vc_of (q := (decide ((↑(1 : Nat) : Int) < (4 : Int)) = true) ∧ ((1 : Int) = (↑(1 : Nat) : Int)) ∧ (List.length l = List.length l) ∧ (∀ (i : Nat), i < List.length l → ∀ (j : Nat), j < (1 : Nat) → AV.int IntKind.i64 (List.getD l i (0 : Int)) = AV.int IntKind.i64 (List.getD l i (0 : Int))) ∧ (PureC Try.prog 26 [.int .i64 (1 : Nat), kptr l] (.int .i64 (kN l 1)) []) ∧ (inK IntKind.i64 ((2 : Int) * (↑(1 : Nat) : Int))) ∧ ((0 : Int) ≤ IntKind.wrap IntKind.u64 ((2 : Int) * (↑(1 : Nat) : Int))) ∧ (Go.bits Go.BinOp.and IntKind.i64 (Int.fdiv (kN l (1 : Nat)) ((2 : Int) ^ (2 : Nat))) (3 : Int) = (↑(3 : Nat) : Int)) ∧ ((0 : Int) ≤ (↑(3 : Nat) : Int) ∧ (↑(3 : Nat) : Int) < (↑(4 : Nat) : Int)) ∧ ((3 : Nat) < (4 : Nat)) ∧ (((2 : Int) == (1 : Int)) = false) ∧ (((2 : Int) == (1 : Int)) = false) ∧ (((2 : Int) == (1 : Int)) = false) ∧ (((2 : Int) == (1 : Int)) = false) ∧ (((2 : Int) == (1 : Int)) = false) ∧ (((2 : Int) == (1 : Int)) = false) ∧ (false = false) ∧ (((2 : Int) == (2 : Int)) = true) ∧ (((2 : Int) == (2 : Int)) = true) ∧ (((2 : Int) == (2 : Int)) = true) ∧ (((2 : Int) == (2 : Int)) = true) ∧ (inK IntKind.i64 (M1.s m + W)) ∧ (((2 : Int) == (2 : Int)) = true) ∧ (((2 : Int) == (2 : Int)) = true) ∧ (decide (M1.s m + W ≤ (2 : Int)) = false) ∧ (inK IntKind.i64 ((↑(1 : Nat) : Int) + (1 : Int))) ∧ (frS8m1 W w l m ((M1.p m = M1.p m) ∧ (M1.s m = M1.s m) ∧ ((↑(1 : Nat) : Int) + (1 : Int) = (↑(2 : Nat) : Int)) ∧ True))) (by kernel_rfl)
    ⟨(decide_eq_true (by first | omega | (simp; omega) | (simp; done))),
 (by first | omega | rfl),
 rfl,
 (fun _ _ _ _ => rfl),
 kC l 1 (by omega),
 (in64 (by omega) (by omega)),
 (by decide),
 hq,
 (by first | omega | rfl),
 (by first | omega | rfl),
 (by first | omega | rfl | (simp; done) | (simp; omega)),
 (by first | omega | rfl | (simp; done) | (simp; omega)),
 (by first | omega | rfl | (simp; done) | (simp; omega)),
 (by first | omega | rfl | (simp; done) | (simp; omega)),
 (by first | omega | rfl | (simp; done) | (simp; omega)),
 (by first | omega | rfl | (simp; done) | (simp; omega)),
 rfl,
 (by first | omega | rfl | (simp; done) | (simp; omega)),
 (by first | omega | rfl | (simp; done) | (simp; omega)),
 (by first | omega | rfl | (simp; done) | (simp; omega)),
 (by first | omega | rfl | (simp; done) | (simp; omega)),
 (in64 (by omega) (by omega)),
 (by first | omega | rfl | (simp; done) | (simp; omega)),
 (by first | omega | rfl | (simp; done) | (simp; omega)),
 hc,
 (in64 (by omega) (by omega)), (frS8m1_mk W w l m ⟨rfl,
 rfl,
 (by first | omega | rfl), trivial⟩)⟩
def frS8m2 (W : Int) (w : Int) (l : List Int) (m : M1) (Z : Prop) : Prop := (List.length l = List.length l) ∧ (∀ (i : Nat), i < List.length l → ∀ (j : Nat), j < (1 : Nat) → AV.int IntKind.i64 (List.getD l i (0 : Int)) = AV.int IntKind.i64 (List.getD l i (0 : Int))) ∧ (W = W) ∧ (w = w) ∧ ((6 : Int) = (6 : Int)) ∧ (M1.r0 m = M1.r0 m) ∧ (M1.r1 m = M1.r1 m) ∧ ((0 : Int) = (0 : Int)) ∧ (M1.r3 m = M1.r3 m) ∧ Z
theorem frS8m2_mk (W : Int) (w : Int) (l : List Int) (m : M1) {Z : Prop} (z : Z) : frS8m2 W w l m Z := ⟨rfl, (fun _ _ _ _ => rfl), rfl, rfl, rfl, rfl, rfl, rfl, rfl, z⟩
theorem m1_2_0 (W w : Int) (l : List Int) (m : M1) (hW : 1 ≤ W ∧ W ≤ 2) (hp : 0 ≤ m.p ∧ m.p ≤ 2) (hs : 0 ≤ m.s ∧ m.s ≤ 2) (hq : bits .and .i64 (Int.fdiv (kN l 1) (2 ^ (2 * 2))) 3 = ((0 : Nat) : Int)) : Vc (vcC Try.prog false (ntOf Try.prog 9) (lpC Try.prog 9 0) (mk1 W w l m 2) [.b true, .cl [.int .i64 (1 : Nat), kptr l] (.int .i64 (kN l 1)) [], .iy 0] .nrm [(0, 0), (1, 1), (2, 2)] (mk1 W w l (⟨m.p, m.s, m.r0, m.r1, 0, m.r3⟩ : M1) 3)) :=
  vc_of (q := (decide ((↑(2 : Nat) : Int) < (4 : Int)) = true) ∧ ((1 : Int) = (↑(1 : Nat) : Int)) ∧ (List.length l = List.length l) ∧ (∀ (i : Nat), i < List.length l → ∀ (j : Nat), j < (1 : Nat) → AV.int IntKind.i64 (List.getD l i (0 : Int)) = AV.int IntKind.i64 (List.getD l i (0 : Int))) ∧ (PureC Try.prog 26 [.int .i64 (1 : Nat), kptr l] (.int .i64 (kN l 1)) []) ∧ (inK IntKind.i64 ((2 : Int) * (↑(2 : Nat) : Int))) ∧ ((0 : Int) ≤ IntKind.wrap IntKind.u64 ((2 : Int) * (↑(2 : Nat) : Int))) ∧ (Go.bits Go.BinOp.and IntKind.i64 (Int.fdiv (kN l (1 : Nat)) ((2 : Int) ^ (4 : Nat))) (3 : Int) = (↑(0 : Nat) : Int)) ∧ ((0 : Int) ≤ (↑(0 : Nat) : Int) ∧ (↑(0 : Nat) : Int) < (↑(4 : Nat) : Int)) ∧ ((0 : Nat) < (4 : Nat)) ∧ (inK IntKind.i64 ((↑(2 : Nat) : Int) + (1 : Int))) ∧ (frS8m2 W w l m ((M1.p m = M1.p m) ∧ (M1.s m = M1.s m) ∧ ((↑(2 : Nat) : Int) + (1 : Int) = (↑(3 : Nat) : Int)) ∧ True))) (by kernel_rfl)
    ⟨(decide_eq_true (by first | omega | (simp; omega) | (simp; done))),
 (by first | omega | rfl),
 rfl,
 (fun _ _ _ _ => rfl),
 kC l 1 (by omega),
 (in64 (by omega) (by omega)),
 (by decide),
 hq,
 (by first | omega | rfl),
 (by first | omega | rfl),
 (in64 (by omega) (by omega)), (frS8m2_mk W w l m ⟨rfl,
 rfl,
 (by first | omega | rfl), trivial⟩)⟩
theorem m1_2_1 (W w : Int) (l : List Int) (m : M1) (hW : 1 ≤ W ∧ W ≤ 2) (hp : 0 ≤ m.p ∧ m.p ≤ 2) (hs : 0 ≤ m.s ∧ m.s ≤ 2) (hq : bits .and .i64 (Int.fdiv (kN l 1) (2 ^ (2 * 2))) 3 = ((1 : Nat) : Int)) : Vc (vcC Try.prog false (ntOf Try.prog 9) (lpC Try.prog 9 0) (mk1 W w l m 2) [.b true, .cl [.int .i64 (1 : Nat), kptr l] (.int .i64 (kN l 1)) [], .iy 1] .nrm [(0, 0), (1, 1), (2, 2)] (mk1 W w l (⟨m.p, m.s, m.r0, m.r1, 0, m.r3⟩ : M1) 3)) :=
  vc_of (q := (decide ((↑(2 : Nat) : Int) < (4 : Int)) = true) ∧ ((1 : Int) = (↑(1 : Nat) : Int)) ∧ (List.length l = List.length l) ∧ (∀ (i : Nat), i < List.length l → ∀ (j : Nat), j < (1 : Nat) → AV.int IntKind.i64 (List.getD l i (0 : Int)) = AV.int IntKind.i64 (List.getD l i (0 : Int))) ∧ (PureC Try.prog 26 [.int .i64 (1 : Nat), kptr l] (.int .i64 (kN l 1)) []) ∧ (inK IntKind.i64 ((2 : Int) * (↑(2 : Nat) : Int))) ∧ ((0 : Int) ≤ IntKind.wrap IntKind.u64 ((2 : Int) * (↑(2 : Nat) : Int))) ∧ (Go.bits Go.BinOp.and IntKind.i64 (Int.fdiv (kN l (1 : Nat)) ((2 : Int) ^ (4 : Nat))) (3 : Int) = (↑(1 : Nat) : Int)) ∧ ((0 : Int) ≤ (↑(1 : Nat) : Int) ∧ (↑(1 : Nat) : Int) < (↑(4 : Nat) : Int)) ∧ ((1 : Nat) < (4 : Nat)) ∧ (inK IntKind.i64 ((↑(2 : Nat) : Int) + (1 : Int))) ∧ (frS8m2 W w l m ((M1.p m = M1.p m) ∧ (M1.s m = M1.s m) ∧ ((↑(2 : Nat) : Int) + (1 : Int) = (↑(3 : Nat) : Int)) ∧ True))) (by kernel_rfl)
    ⟨(decide_eq_true (by first | omega | (simp; omega) | (simp; done))),
 (by first | omega | rfl),
 rfl,
 (fun _ _ _ _ => rfl),
 kC l 1 (by omega),
 (in64 (by omega) (by omega)),
 (by decide),
 hq,
 (by first | omega | rfl),
 (by first | omega | rfl),
 (in64 (by omega) (by omega)), (frS8m2_mk W w l m ⟨rfl,
 rfl,
 (by first | omega | rfl), trivial⟩)⟩
theorem m1_2_2t (W w : Int) (l : List Int) (m : M1) (hW : 1 ≤ W ∧ W ≤ 2) (hp : 0 ≤ m.p ∧ m.p ≤ 2) (hs : 0 ≤ m.s ∧ m.s ≤ 2) (hq : bits .and .i64 (Int.fdiv (kN l 1) (2 ^ (2 * 2))) 3 = ((2 : Nat) : Int)) (hc : decide (m.p + W ≤ 2) = true) : Vc (vcC Try.prog false (ntOf Try.prog 9) (lpC Try.prog 9 0) (mk1 W w l m 2) [.b true, .cl [.int .i64 (1 : Nat), kptr l] (.int .i64 (kN l 1)) [], .iy 2, .b true, .b true, .b true, .b true, .b true, .b true, .b true] .nrm [(0, 0), (1, 1), (2, 2)] (mk1 W w l (⟨m.p + W, m.s, m.r0, m.r1, 1, m.r3⟩ : M1) 3)) :=
  vc_of (q := (decide ((↑(2 : Nat) : Int) < (4 : Int)) = true) ∧ ((1 : Int) = (↑(1 : Nat) : Int)) ∧ (List.length l = List.length l) ∧ (∀ (i : Nat), i < List.length l → ∀ (j : Nat), j < (1 : Nat) → AV.int IntKind.i64 (List.getD l i (0 : Int)) = AV.int IntKind.i64 (List.getD l i (0 : Int))) ∧ (PureC Try.prog 26 [.int .i64 (1 : Nat), kptr l] (.int .i64 (kN l 1)) []) ∧ (inK IntKind.i64 ((2 : Int) * (↑(2 : Nat) : Int))) ∧ ((0 : Int) ≤ IntKind.wrap IntKind.u64 ((2 : Int) * (↑(2 : Nat) : Int))) ∧ (Go.bits Go.BinOp.and IntKind.i64 (Int.fdiv (kN l (1 : Nat)) ((2 : Int) ^ (4 : Nat))) (3 : Int) = (↑(2 : Nat) : Int)) ∧ ((0 : Int) ≤ (↑(2 : Nat) : Int) ∧ (↑(2 : Nat) : Int) < (↑(4 : Nat) : Int)) ∧ ((2 : Nat) < (4 : Nat)) ∧ (((1 : Int) == (1 : Int)) = true) ∧ (((1 : Int) == (1 : Int)) = true) ∧ (((1 : Int) == (1 : Int)) = true) ∧ (((1 : Int) == (1 : Int)) = true) ∧ (inK IntKind.i64 (M1.p m + W)) ∧ (((1 : Int) == (1 : Int)) = true) ∧ (((1 : Int) == (1 : Int)) = true) ∧ (decide (M1.p m + W ≤ (2 : Int)) = true) ∧ (inK IntKind.i64 (M1.p m + W)) ∧ (inK IntKind.i64 ((↑(2 : Nat) : Int) + (1 : Int))) ∧ (List.length l = List.length l) ∧ (∀ (i : Nat), i < List.length l → ∀ (j : Nat), j < (1 : Nat) → AV.int IntKind.i64 (List.getD l i (0 : Int)) = AV.int IntKind.i64 (List.getD l i (0 : Int))) ∧ (W = W) ∧ (w = w) ∧ ((6 : Int) = (6 : Int)) ∧ (M1.r0 m = M1.r0 m) ∧ (M1.r1 m = M1.r1 m) ∧ ((1 : Int) = (1 : Int)) ∧ (M1.r3 m = M1.r3 m) ∧ (M1.p m + W = M1.p m + W) ∧ (M1.s m = M1.s m) ∧ ((↑(2 : Nat) : Int) + (1 : Int) = (↑(3 : Nat) : Int)) ∧ True) (by kernel_rfl)
    ⟨(decide_eq_true (by first | omega | (simp; omega) | (simp; done))),
 (by first | omega | rfl),
 rfl,
 (fun _ _ _ _ => rfl),
 kC l 1 (by omega),
 (in64 (by omega) (by omega)),
 (by decide),
 hq,
 (by first | omega | rfl),
 (by first | omega | rfl),
 (by first | omega | rfl | (simp; done) | (simp; omega)),
 (by first | omega | rfl | (simp; done) | (simp; omega)),
 (by first | omega | rfl | (simp; done) | (simp; omega)),
 (by first | omega | rfl | (simp; done) | (simp; omega)),
 (in64 (by omega) (by omega)),
 (by first | omega | rfl | (simp; done) | (simp; omega)),
 (by first | omega | rfl | (simp; done) | (simp; omega)),
 hc,
 (in64 (by omega) (by omega)),
 (in64 (by omega) (by omega)),
 rfl,
 (fun _ _ _ _ => rfl),
 rfl,
 rfl,
 rfl,
 rfl,
 rfl,
 rfl,
 rfl,
 rfl,
 rfl,
 (by first | omega | rfl), trivial⟩
theorem m1_2_2f (W w : Int) (l : List Int) (m : M1) (hW : 1 ≤ W ∧ W ≤ 2) (hp : 0 ≤ m.p ∧ m.p ≤ 2) (hs : 0 ≤ m.s ∧ m.s ≤ 2) (hq : bits .and .i64 (Int.fdiv (kN l 1) (2 ^ (2 * 2))) 3 = ((2 : Nat) : Int)) (hc : decide (m.p + W ≤ 2) = false) : Vc (vcC Try.prog false (ntOf Try.prog 9) (lpC Try.prog 9 0) (mk1 W w l m 2) [.b true, .cl [.int .i64 (1 : Nat), kptr l] (.int .i64 (kN l 1)) [], .iy 2, .b true, .b true, .b true, .b true, .b true, .b true, .b false] .nrm [(0, 0), (1, 1), (2, 2)] (mk1 W w l (⟨m.p, m.s, m.r0, m.r1, 0, m.r3⟩ : M1) 3)) :=
  vc_of (q := (decide ((↑(2 : Nat) : Int) < (4 : Int)) = true) ∧ ((1 : Int) = (↑(1 : Nat) : Int)) ∧ (List.length l = List.length l) ∧ (∀ (i : Nat), i < List.length l → ∀ (j : Nat), j < (1 : Nat) → AV.int IntKind.i64 (List.getD l i (0 : Int)) = AV.int IntKind.i64 (List.getD l i (0 : Int))) ∧ (PureC Try.prog 26 [.int .i64 (1 : Nat), kptr l] (.int .i64 (kN l 1)) []) ∧ (inK IntKind.i64 ((2 : Int) * (↑(2 : Nat) : Int))) ∧ ((0 : Int) ≤ IntKind.wrap IntKind.u64 ((2 : Int) * (↑(2 : Nat) : Int))) ∧ (Go.bits Go.BinOp.and IntKind.i64 (Int.fdiv (kN l (1 : Nat)) ((2 : Int) ^ (4 : Nat))) (3 : Int) = (↑(2 : Nat) : Int)) ∧ ((0 : Int) ≤ (↑(2 : Nat) : Int) ∧ (↑(2 : Nat) : Int) < (↑(4 : Nat) : Int)) ∧ ((2 : Nat) < (4 : Nat)) ∧ (((1 : Int) == (1 : Int)) = true) ∧ (((1 : Int) == (1 : Int)) = true) ∧ (((1 : Int) == (1 : Int)) = true) ∧ (((1 : Int) == (1 : Int)) = true) ∧ (inK IntKind.i64 (M1.p m + W)) ∧ (((1 : Int) == (1 : Int)) = true) ∧ (((1 : Int) == (1 : Int)) = true) ∧ (decide (M1.p m + W ≤ (2 : Int)) = false) ∧ (inK IntKind.i64 ((↑(2 : Nat) : Int) + (1 : Int))) ∧ (frS8m2 W w l m ((M1.p m = M1.p m) ∧ (M1.s m = M1.s m) ∧ ((↑(2 : Nat) : Int) + (1 : Int) = (↑(3 : Nat) : Int)) ∧ True))) (by kernel_rfl)
    ⟨(decide_eq_true (by first | omega | (simp; omega) | (simp; done))),
 (by first | omega | rfl),
 rfl,
 (fun _ _ _ _ => rfl),
 kC l 1 (by omega),
 (in64 (by omega) (by omega)),
 (by decide),
 hq,
 (by first | omega | rfl),
 (by first | omega | rfl),
 (by first | omega | rfl | (simp; done) | (simp; omega)),
 (by first | omega | rfl | (simp; done) | (simp; omega)),
 (by first | omega | rfl | (simp; done) | (simp; omega)),
 (by first | omega | rfl | (simp; done) | (simp; omega)),
 (in64 (by omega) (by omega)),
 (by first | omega | rfl | (simp; done) | (simp; omega)),
 (by first | omega | rfl | (simp; done) | (simp; omega)),
 hc,
 (in64 (by omega) (by omega)), (frS8m2_mk W w l m ⟨rfl,
 rfl,
 (by first | omega | rfl), trivial⟩)⟩
theorem m1_2_3t (W w : Int) (l : List Int) (m : M1) (hW : 1 ≤ W ∧ W ≤ 2) (hp : 0 ≤ m.p ∧ m.p ≤ 2) (hs : 0 ≤ m.s ∧ m.s ≤ 2) (hq : bits .and .i64 (Int.fdiv (kN l 1) (2 ^ (2 * 2))) 3 = ((3 : Nat) : Int)) (hc : decide (m.s + W ≤ 2) = true) : Vc (vcC Try.prog false (ntOf Try.prog 9) (lpC Try.prog 9 0) (mk1 W w l m 2) [.b true, .cl [.int .i64 (1 : Nat), kptr l] (.int .i64 (kN l 1)) [], .iy 3, .b false, .b false, .b false, .b false, .b false, .b false, .b false, .b true, .b true, .b true, .b true, .b true, .b true, .b true] .nrm [(0, 0), (1, 1), (2, 2)] (mk1 W w l (⟨m.p, m.s + W, m.r0, m.r1, 2, m.r3⟩ : M1) 3)) :=
  vc_of (q := (decide ((↑(2 : Nat) : Int) < (4 : Int)) = true) ∧ ((1 : Int) = (↑(1 : Nat) : Int)) ∧ (List.length l = List.length l) ∧ (∀ (i : Nat), i < List.length l → ∀ (j : Nat), j < (1 : Nat) → AV.int IntKind.i64 (List.getD l i (0 : Int)) = AV.int IntKind.i64 (List.getD l i (0 : Int))) ∧ (PureC Try.prog 26 [.int .i64 (1 : Nat), kptr l] (.int .i64 (kN l 1)) []) ∧ (inK IntKind.i64 ((2 : Int) * (↑(2 : Nat) : Int))) ∧ ((0 : Int) ≤ IntKind.wrap IntKind.u64 ((2 : Int) * (↑(2 : Nat) : Int))) ∧ (Go.bits Go.BinOp.and IntKind.i64 (Int.fdiv (kN l (1 : Nat)) ((2 : Int) ^ (4 : Nat))) (3 : Int) = (↑(3 : Nat) : Int)) ∧ ((0 : Int) ≤ (↑(3 : Nat) : Int) ∧ (↑(3 : Nat) : Int) < (↑(4 : Nat) : Int)) ∧ ((3 : Nat) < (4 : Nat)) ∧ (((2 : Int) == (1 : Int)) = false) ∧ (((2 : Int) == (1 : Int)) = false) ∧ (((2 : Int) == (1 : Int)) = false) ∧ (((2 : Int) == (1 : Int)) = false) ∧ (((2 : Int) == (1 : Int)) = false) ∧ (((2 : Int) == (1 : Int)) = false) ∧ (false = false) ∧ (((2 : Int) == (2 : Int)) = true) ∧ (((2 : Int) == (2 : Int)) = true) ∧ (((2 : Int) == (2 : Int)) = true) ∧ (((2 : Int) == (2 : Int)) = true) ∧ (inK IntKind.i64 (M1.s m + W)) ∧ (((2 : Int) == (2 : Int)) = true) ∧ (((2 : Int) == (2 : Int)) = true) ∧ (decide (M1.s m + W ≤ (2 : Int)) = true) ∧ (inK IntKind.i64 (M1.s m + W)) ∧ (inK IntKind.i64 ((↑(2 : Nat) : Int) + (1 : Int))) ∧ (List.length l = List.length l) ∧ (∀ (i : Nat), i < List.length l → ∀ (j : Nat), j < (1 : Nat) → AV.int IntKind.i64 (List.getD l i (0 : Int)) = AV.int IntKind.i64 (List.getD l i (0 : Int))) ∧ (W = W) ∧ (w = w) ∧ ((6 : Int) = (6 : Int)) ∧ (M1.r0 m = M1.r0 m) ∧ (M1.r1 m = M1.r1 m) ∧ ((2 : Int) = (2 : Int)) ∧ (M1.r3 m = M1.r3 m) ∧ (M1.p m = M1.p m) ∧ (M1.s m + W = M1.s m + W) ∧ ((↑(2 : Nat) : Int) + (1 : Int) = (↑(3 : Nat) : Int)) ∧ True) (by kernel_rfl)
    ⟨(decide_eq_true (by first | omega | (simp; omega) | (simp; done))),
 (by first | omega | rfl),
 rfl,
 (fun _ _ _ _ => rfl),
 kC l 1 (by omega),
 (in64 (by omega) (by omega)),
 (by decide),
 hq,
 (by first | omega | rfl),
 (by first | omega | rfl),
 (by first | omega | rfl | (simp; done) | (simp; omega)),
 (by first | omega | rfl | (simp; done) | (simp; omega)),
 (by first | omega | rfl | (simp; done) | (simp; omega)),
 (by first | omega | rfl | (simp; done) | (simp; omega)),
 (by first | omega | rfl | (simp; done) | (simp; omega)),
 (by first | omega | rfl | (simp; done) | (simp; omega)),
 rfl,
 (by first | omega | rfl | (simp; done) | (simp; omega)),
 (by first | omega | rfl | (simp; done) | (simp; omega)),
 (by first | omega | rfl | (simp; done) | (simp; omega)),
 (by first | omega | rfl | (simp; done) | (simp; omega)),
 (in64 (by omega) (by omega)),
 (by first | omega | rfl | (simp; done) | (simp; omega)),
 (by first | omega | rfl | (simp; done) | (simp; omega)),
 hc,
 (in64 (by omega) (by omega)),
 (in64 (by omega) (by omega)),
 rfl,
 (fun _ _ _ _ => rfl),
 rfl,
 rfl,
 rfl,
 rfl,
 rfl,
 rfl,
 rfl,
 rfl,
 rfl,
 (by first | omega | rfl), trivial⟩
theorem m1_2_3f (W w : Int) (l : List Int) (m : M1) (hW : 1 ≤ W ∧ W ≤ 2) (hp : 0 ≤ m.p ∧ m.p ≤ 2) (hs : 0 ≤ m.s ∧ m.s ≤ 2) (hq : bits .and .i64 (Int.fdiv (kN l 1) (2 ^ (2 * 2))) 3 = ((3 : Nat) : Int)) (hc : decide (m.s + W ≤ 2) = false) : Vc (vcC Try.prog false (ntOf Try.prog 9) (lpC Try.prog 9 0) (mk1 W w l m 2) [.b true, .cl [.int .i64 (1 : Nat), kptr l] (.int .i64 (kN l 1)) [], .iy 3, .b false, .b false, .b false, .b false, .b false, .b false, .b false, .b true, .b true, .b true, .b true, .b true, .b true, .b false] .nrm [(0, 0), (1, 1), (2, 2)] (mk1 W w l (⟨m.p, m.s, m.r0, m.r1, 0, m.r3⟩ : M1) 3)) :=
  vc_of (q := (decide ((↑(2 : Nat) : Int) < (4 : Int)) = true) ∧ ((1 : Int) = (↑(1 : Nat) : Int)) ∧ (List.length l = List.length l) ∧ (∀ (i : Nat), i < List.length l → ∀ (j : Nat), j < (1 : Nat) → AV.int IntKind.i64 (List.getD l i (0 : Int)) = AV.int IntKind.i64 (List.getD l i (0 : Int))) ∧ (PureC Try.prog 26 [.int .i64 (1 : Nat), kptr l] (.int .i64 (kN l 1)) []) ∧ (inK IntKind.i64 ((2 : Int) * (↑(2 : Nat) : Int))) ∧ ((0 : Int) ≤ IntKind.wrap IntKind.u64 ((2 : Int) * (↑(2 : Nat) : Int))) ∧ (Go.bits Go.BinOp.and IntKind.i64 (Int.fdiv (kN l (1 : Nat)) ((2 : Int) ^ (4 : Nat))) (3 : Int) = (↑(3 : Nat) : Int)) ∧ ((0 : Int) ≤ (↑(3 : Nat) : Int) ∧ (↑(3 : Nat) : Int) < (↑(4 : Nat) : Int)) ∧ ((3 : Nat) < (4 : Nat)) ∧ (((2 : Int) == (1 : Int)) = false) ∧ (((2 : Int) == (1 : Int)) = false) ∧ (((2 : Int) == (1 : Int)) = false) ∧ (((2 : Int) == (1 : Int)) = false) ∧ (((2 : Int) == (1 : Int)) = false) ∧ (((2 : Int) == (1 : Int)) = false) ∧ (false = false) ∧ (((2 : Int) == (2 : Int)) = true) ∧ (((2 : Int) == (2 : Int)) = true) ∧ (((2 : Int) == (2 : Int)) = true) ∧ (((2 : Int) == (2 : Int)) = true) ∧ (inK IntKind.i64 (M1.s m + W)) ∧ (((2 : Int) == (2 : Int)) = true) ∧ (((2 : Int) == (2 : Int)) = true) ∧ (decide (M1.s m + W ≤ (2 : Int)) = false) ∧ (inK IntKind.i64 ((↑(2 : Nat) : Int) + (1 : Int))) ∧ (frS8m2 W w l m ((M1.p m = M1.p m) ∧ (M1.s m = M1.s m) ∧ ((↑(2 : Nat) : Int) + (1 : Int) = (↑(3 : Nat) : Int)) ∧ True))) (by kernel_rfl)
    ⟨(decide_eq_true (by first | omega | (simp; omega) | (simp; done))),
 (by first | omega | rfl),
 rfl,
 (fun _ _ _ _ => rfl),
 kC l 1 (by omega),
 (in64 (by omega) (by omega)),
 (by decide),
 hq,
 (by first | omega | rfl),
 (by first | omega | rfl),
 (by first | omega | rfl | (simp; done) | (simp; omega)),
 (by first | omega | rfl | (simp; done) | (simp; omega)),
 (by first | omega | rfl | (simp; done) | (simp; omega)),
 (by first | omega | rfl | (simp; done) | (simp; omega)),
 (by first | omega | rfl | (simp; done) | (simp; omega)),
 (by first | omega | rfl | (simp; done) | (simp; omega)),
 rfl,
 (by first | omega | rfl | (simp; done) | (simp; omega)),
 (by first | omega | rfl | (simp; done) | (simp; omega)),
 (by first | omega | rfl | (simp; done) | (simp; omega)),
 (by first | omega | rfl | (simp; done) | (simp; omega)),
 (in64 (by omega) (by omega)),
 (by first | omega | rfl | (simp; done) | (simp; omega)),
 (by first | omega | rfl | (simp; done) | (simp; omega)),
 hc,
 (in64 (by omega) (by omega)), (frS8m2_mk W w l m ⟨rfl,
 rfl,
 (by first | omega | rfl), trivial⟩)⟩
def frS8m3 (W : Int) (w : Int) (l : List Int) (m : M1) (Z : Prop) : Prop := (List.length l = List.length l) ∧ (∀ (i : Nat), i < List.length l → ∀ (j : Nat), j < (1 : Nat) → AV.int IntKind.i64 (List.getD l i (0 : Int)) = AV.int IntKind.i64 (List.getD l i (0 : Int))) ∧ (W = W) ∧ (w = w) ∧ ((6 : Int) = (6 : Int)) ∧ (M1.r0 m = M1.r0 m) ∧ (M1.r1 m = M1.r1 m) ∧ (M1.r2 m = M1.r2 m) ∧ ((0 : Int) = (0 : Int)) ∧ Z
theorem frS8m3_mk (W : Int) (w : Int) (l : List Int) (m : M1) {Z : Prop} (z : Z) : frS8m3 W w l m Z := ⟨rfl, (fun _ _ _ _ => rfl), rfl, rfl, rfl, rfl, rfl, rfl, rfl, z⟩
theorem m1_3_0 (W w : Int) (l : List Int) (m : M1) (hW : 1 ≤ W ∧ W ≤ 2) (hp : 0 ≤ m.p ∧ m.p ≤ 2) (hs : 0 ≤ m.s ∧ m.s ≤ 2) (hq : bits .and .i64 (Int.fdiv (kN l 1) (2 ^ (2 * 3))) 3 = ((0 : Nat) : Int)) : Vc (vcC Try.prog false (ntOf Try.prog 9) (lpC Try.prog 9 0) (mk1 W w l m 3) [.b true, .cl [.int .i64 (1 : Nat), kptr l] (.int .i64 (kN l 1)) [], .iy 0] .nrm [(0, 0), (1, 1), (2, 2)] (mk1 W w l (⟨m.p, m.s, m.r0, m.r1, m.r2, 0⟩ : M1) 4)) :=
  vc_of (q := (decide ((↑(3 : Nat) : Int) < (4 : Int)) = true) ∧ ((1 : Int) = (↑(1 : Nat) : Int)) ∧ (List.length l = List.length l) ∧ (∀ (i : Nat), i < List.length l → ∀ (j : Nat), j < (1 : Nat) → AV.int IntKind.i64 (List.getD l i (0 : Int)) = AV.int IntKind.i64 (List.getD l i (0 : Int))) ∧ (PureC Try.prog 26 [.int .i64 (1 : Nat), kptr l] (.int .i64 (kN l 1)) []) ∧ (inK IntKind.i64 ((2 : Int) * (↑(3 : Nat) : Int))) ∧ ((0 : Int) ≤ IntKind.wrap IntKind.u64 ((2 : Int) * (↑(3 : Nat) : Int))) ∧ (Go.bits Go.BinOp.and IntKind.i64 (Int.fdiv (kN l (1 : Nat)) ((2 : Int) ^ (6 : Nat))) (3 : Int) = (↑(0 : Nat) : Int)) ∧ ((0 : Int) ≤ (↑(0 : Nat) : Int) ∧ (↑(0 : Nat) : Int) < (↑(4 : Nat) : Int)) ∧ ((0 : Nat) < (4 : Nat)) ∧ (inK IntKind.i64 ((↑(3 : Nat) : Int) + (1 : Int))) ∧ (frS8m3 W w l m ((M1.p m = M1.p m) ∧ (M1.s m = M1.s m) ∧ ((↑(3 : Nat) : Int) + (1 : Int) = (↑(4 : Nat) : Int)) ∧ True))) (by kernel_rfl)
    ⟨(decide_eq_true (by first | omega | (simp; omega) | (simp; done))),
 (by first | omega | rfl),
 rfl,
 (fun _ _ _ _ => rfl),
 kC l 1 (by omega),
 (in64 (by omega) (by omega)),
 (by decide),
 hq,
 (by first | omega | rfl),
 (by first | omega | rfl),
 (in64 (by omega) (by omega)), (frS8m3_mk W w l m ⟨rfl,
 rfl,
 (by first | omega | rfl), trivial⟩)⟩
theorem m1_3_1 (W w : Int) (l : List Int) (m : M1) (hW : 1 ≤ W ∧ W ≤ 2) (hp : 0 ≤ m.p ∧ m.p ≤ 2) (hs : 0 ≤ m.s ∧ m.s ≤ 2) (hq : bits .and .i64 (Int.fdiv (kN l 1) (2 ^ (2 * 3))) 3 = ((1 : Nat) : Int)) : Vc (vcC Try.prog false (ntOf Try.prog 9) (lpC Try.prog 9 0) (mk1 W w l m 3) [.b true, .cl [.int .i64 (1 : Nat), kptr l] (.int .i64 (kN l 1)) [], .iy 1] .nrm [(0, 0), (1, 1), (2, 2)] (mk1 W w l (⟨m.p, m.s, m.r0, m.r1, m.r2, 0⟩ : M1) 4)) :=
  vc_of (q := (decide ((↑(3 : Nat) : Int) < (4 : Int)) = true) ∧ ((1 : Int) = (↑(1 : Nat) : Int)) ∧ (List.length l = List.length l) ∧ (∀ (i : Nat), i < List.length l → ∀ (j : Nat), j < (1 : Nat) → AV.int IntKind.i64 (List.getD l i (0 : Int)) = AV.int IntKind.i64 (List.getD l i (0 : Int))) ∧ (PureC Try.prog 26 [.int .i64 (1 : Nat), kptr l] (.int .i64 (kN l 1)) []) ∧ (inK IntKind.i64 ((2 : Int) * (↑(3 : Nat) : Int))) ∧ ((0 : Int) ≤ IntKind.wrap IntKind.u64 ((2 : Int) * (↑(3 : Nat) : Int))) ∧ (Go.bits Go.BinOp.and IntKind.i64 (Int.fdiv (kN l (1 : Nat)) ((2 : Int) ^ (6 : Nat))) (3 : Int) = (↑(1 : Nat) : Int)) ∧ ((0 : Int) ≤ (↑(1 : Nat) : Int) ∧ (↑(1 : Nat) : Int) < (↑(4 : Nat) : Int)) ∧ ((1 : Nat) < (4 : Nat)) ∧ (inK IntKind.i64 ((↑(3 : Nat) : Int) + (1 : Int))) ∧ (frS8m3 W w l m ((M1.p m = M1.p m) ∧ (M1.s m = M1.s m) ∧ ((↑(3 : Nat) : Int) + (1 : Int) = (↑(4 : Nat) : Int)) ∧ True))) (by kernel_rfl)
    ⟨(decide_eq_true (by first | omega | (simp; omega) | (simp; done))),
 (by first | omega | rfl),
 rfl,
 (fun _ _ _ _ => rfl),
 kC l 1 (by omega),
 (in64 (by omega) (by omega)),
 (by decide),
 hq,
 (by first | omega | rfl),
 (by first | omega | rfl),
 (in64 (by omega) (by omega)), (frS8m3_mk W w l m ⟨rfl,
 rfl,
 (by first | omega | rfl), trivial⟩)⟩
theorem m1_3_2t (W w : Int) (l : List Int) (m : M1) (hW : 1 ≤ W ∧ W ≤ 2) (hp : 0 ≤ m.p ∧ m.p ≤ 2) (hs : 0 ≤ m.s ∧ m.s ≤ 2) (hq : bits .and .i64 (Int.fdiv (kN l 1) (2 ^ (2 * 3))) 3 = ((2 : Nat) : Int)) (hc : decide (m.p + W ≤ 2) = true) : Vc (vcC Try.prog false (ntOf Try.prog 9) (lpC Try.prog 9 0) (mk1 W w l m 3) [.b true, .cl [.int .i64 (1 : Nat), kptr l] (.int .i64 (kN l 1)) [], .iy 2, .b true, .b true, .b true, .b true, .b true, .b true, .b true] .nrm [(0, 0), (1, 1), (2, 2)] (mk1 W w l (⟨m.p + W, m.s, m.r0, m.r1, m.r2, 1⟩ : M1) 4)) :=
  vc_of (q := (decide ((↑(3 : Nat) : Int) < (4 : Int)) = true) ∧ ((1 : Int) = (↑(1 : Nat) : Int)) ∧ (List.length l = List.length l) ∧ (∀ (i : Nat), i < List.length l → ∀ (j : Nat), j < (1 : Nat) → AV.int IntKind.i64 (List.getD l i (0 : Int)) = AV.int IntKind.i64 (List.getD l i (0 : Int))) ∧ (PureC Try.prog 26 [.int .i64 (1 : Nat), kptr l] (.int .i64 (kN l 1)) []) ∧ (inK IntKind.i64 ((2 : Int) * (↑(3 : Nat) : Int))) ∧ ((0 : Int) ≤ IntKind.wrap IntKind.u64 ((2 : Int) * (↑(3 : Nat) : Int))) ∧ (Go.bits Go.BinOp.and IntKind.i64 (Int.fdiv (kN l (1 : Nat)) ((2 : Int) ^ (6 : Nat))) (3 : Int) = (↑(2 : Nat) : Int)) ∧ ((0 : Int) ≤ (↑(2 : Nat) : Int) ∧ (↑(2 : Nat) : Int) < (↑(4 : Nat) : Int)) ∧ ((2 : Nat) < (4 : Nat)) ∧ (((1 : Int) == (1 : Int)) = true) ∧ (((1 : Int) == (1 : Int)) = true) ∧ (((1 : Int) == (1 : Int)) = true) ∧ (((1 : Int) == (1 : Int)) = true) ∧ (inK IntKind.i64 (M1.p m + W)) ∧ (((1 : Int) == (1 : Int)) = true) ∧ (((1 : Int) == (1 : Int)) = true) ∧ (decide (M1.p m + W ≤ (2 : Int)) = true) ∧ (inK IntKind.i64 (M1.p m + W)) ∧ (inK IntKind.i64 ((↑(3 : Nat) : Int) + (1 : Int))) ∧ (List.length l = List.length l) ∧ (∀ (i : Nat), i < List.length l → ∀ (j : Nat), j < (1 : Nat) → AV.int IntKind.i64 (List.getD l i (0 : Int)) = AV.int IntKind.i64 (List.getD l i (0 : Int))) ∧ (W = W) ∧ (w = w) ∧ ((6 : Int) = (6 : Int)) ∧ (M1.r0 m = M1.r0 m) ∧ (M1.r1 m = M1.r1 m) ∧ (M1.r2 m = M1.r2 m) ∧ ((1 : Int) = (1 : Int)) ∧ (M1.p m + W = M1.p m + W) ∧ (M1.s m = M1.s m) ∧ ((↑(3 : Nat) : Int) + (1 : Int) = (↑(4 : Nat) : Int)) ∧ True) (by kernel_rfl)
    ⟨(decide_eq_true (by first | omega | (simp; omega) | (simp; done))),
 (by first | omega | rfl),
 rfl,
 (fun _ _ _ _ => rfl),
 kC l 1 (by omega),
 (in64 (by omega) (by omega)),
 (by decide),
 hq,
 (by first | omega | rfl),
 (by first | omega | rfl),
 (by first | omega | rfl | (simp; done) | (simp; omega)),
 (by first | omega | rfl | (simp; done) | (simp; omega)),
 (by first | omega | rfl | (simp; done) | (simp; omega)),
 (by first | omega | rfl | (simp; done) | (simp; omega)),
 (in64 (by omega) (by omega)),
 (by first | omega | rfl | (simp; done) | (simp; omega)),
 (by first | omega | rfl | (simp; done) | (simp; omega)),
 hc,
 (in64 (by omega) (by omega)),
 (in64 (by omega) (by omega)),
 rfl,
 (fun _ _ _ _ => rfl),
 rfl,
 rfl,
 rfl,
 rfl,
 rfl,
 rfl,
 rfl,
 rfl,
 rfl,
 (by first | omega | rfl), trivial⟩
theorem m1_3_2f (W w : Int) (l : List Int) (m : M1) (hW : 1 ≤ W ∧ W ≤ 2) (hp : 0 ≤ m.p ∧ m.p ≤ 2) (hs : 0 ≤ m.s ∧ m.s ≤ 2) (hq : bits .and .i64 (Int.fdiv (kN l 1) (2 ^ (2 * 3))) 3 = ((2 : Nat) : Int)) (hc : decide (m.p + W ≤ 2) = false) : Vc (vcC Try.prog false (ntOf Try.prog 9) (lpC Try.prog 9 0) (mk1 W w l m 3) [.b true, .cl [.int .i64 (1 : Nat), kptr l] (.int .i64 (kN l 1)) [], .iy 2, .b true, .b true, .b true, .b true, .b true, .b true, .b false] .nrm [(0, 0), (1, 1), (2, 2)] (mk1 W w l (⟨m.p, m.s, m.r0, m.r1, m.r2, 0⟩ : M1) 4)) :=
  vc_of (q := (decide ((↑(3 : Nat) : Int) < (4 : Int)) = true) ∧ ((1 : Int) = (↑(1 : Nat) : Int)) ∧ (List.length l = List.length l) ∧ (∀ (i : Nat), i < List.length l → ∀ (j : Nat), j < (1 : Nat) → AV.int IntKind.i64 (List.getD l i (0 : Int)) = AV.int IntKind.i64 (List.getD l i (0 : Int))) ∧ (PureC Try.prog 26 [.int .i64 (1 : Nat), kptr l] (.int .i64 (kN l 1)) []) ∧ (inK IntKind.i64 ((2 : Int) * (↑(3 : Nat) : Int))) ∧ ((0 : Int) ≤ IntKind.wrap IntKind.u64 ((2 : Int) * (↑(3 : Nat) : Int))) ∧ (Go.bits Go.BinOp.and IntKind.i64 (Int.fdiv (kN l (1 : Nat)) ((2 : Int) ^ (6 : Nat))) (3 : Int) = (↑(2 : Nat) : Int)) ∧ ((0 : Int) ≤ (↑(2 : Nat) : Int) ∧ (↑(2 : Nat) : Int) < (↑(4 : Nat) : Int)) ∧ ((2 : Nat) < (4 : Nat)) ∧ (((1 : Int) == (1 : Int)) = true) ∧ (((1 : Int) == (1 : Int)) = true) ∧ (((1 : Int) == (1 : Int)) = true) ∧ (((1 : Int) == (1 : Int)) = true) ∧ (inK IntKind.i64 (M1.p m + W)) ∧ (((1 : Int) == (1 : Int)) = true) ∧ (((1 : Int) == (1 : Int)) = true) ∧ (decide (M1.p m + W ≤ (2 : Int)) = false) ∧ (inK IntKind.i64 ((↑(3 : Nat) : Int) + (1 : Int))) ∧ (frS8m3 W w l m ((M1.p m = M1.p m) ∧ (M1.s m = M1.s m) ∧ ((↑(3 : Nat) : Int) + (1 : Int) = (↑(4 : Nat) : Int)) ∧ True))) (by kernel_rfl)
    ⟨(decide_eq_true (by first | omega | (simp; omega) | (simp; done))),
 (by first | omega | rfl),
 rfl,
 (fun _ _ _ _ => rfl),
 kC l 1 (by omega),
 (in64 (by omega) (by omega)),
 (by decide),
 hq,
 (by first | omega | rfl),
 (by first | omega | rfl),
 (by first | omega | rfl | (simp; done) | (simp; omega)),
 (by first | omega | rfl | (simp; done) | (simp; omega)),
 (by first | omega | rfl | (simp; done) | (simp; omega)),
 (by first | omega | rfl | (simp; done) | (simp; omega)),
 (in64 (by omega) (by omega)),
 (by first | omega | rfl | (simp; done) | (simp; omega)),
 (by first | omega | rfl | (simp; done) | (simp; omega)),
 hc,
 (in64 (by omega) (by omega)), (frS8m3_mk W w l m ⟨rfl,
 rfl,
 (by first | omega | rfl), trivial⟩)⟩
theorem m1_3_3t (W w : Int) (l : List Int) (m : M1) (hW : 1 ≤ W ∧ W ≤ 2) (hp : 0 ≤ m.p ∧ m.p ≤ 2) (hs : 0 ≤ m.s ∧ m.s ≤ 2) (hq : bits .and .i64 (Int.fdiv (kN l 1) (2 ^ (2 * 3))) 3 = ((3 : Nat) : Int)) (hc : decide (m.s + W ≤ 2) = true) : Vc (vcC Try.prog false (ntOf Try.prog 9) (lpC Try.prog 9 0) (mk1 W w l m 3) [.b true, .cl [.int .i64 (1 : Nat), kptr l] (.int .i64 (kN l 1)) [], .iy 3, .b false, .b false, .b false, .b false, .b false, .b false, .b false, .b true, .b true, .b true, .b true, .b true, .b true, .b true] .nrm [(0, 0), (1, 1), (2, 2)] (mk1 W w l (⟨m.p, m.s + W, m.r0, m.r1, m.r2, 2⟩ : M1) 4)) :=
  vc_of (q := (decide ((↑(3 : Nat) : Int) < (4 : Int)) = true) ∧ ((1 : Int) = (↑(1 : Nat) : Int)) ∧ (List.length l = List.length l) ∧ (∀ (i : Nat), i < List.length l → ∀ (j : Nat), j < (1 : Nat) → AV.int IntKind.i64 (List.getD l i (0 : Int)) = AV.int IntKind.i64 (List.getD l i (0 : Int))) ∧ (PureC Try.prog 26 [.int .i64 (1 : Nat), kptr l] (.int .i64 (kN l 1)) []) ∧ (inK IntKind.i64 ((2 : Int) * (↑(3 : Nat) : Int))) ∧ ((0 : Int) ≤ IntKind.wrap IntKind.u64 ((2 : Int) * (↑(3 : Nat) : Int))) ∧ (Go.bits Go.BinOp.and IntKind.i64 (Int.fdiv (kN l (1 : Nat)) ((2 : Int) ^ (6 : Nat))) (3 : Int) = (↑(3 : Nat) : Int)) ∧ ((0 : Int) ≤ (↑(3 : Nat) : Int) ∧ (↑(3 : Nat) : Int) < (↑(4 : Nat) : Int)) ∧ ((3 : Nat) < (4 : Nat)) ∧ (((2 : Int) == (1 : Int)) = false) ∧ (((2 : Int) == (1 : Int)) = false) ∧ (((2 : Int) == (1 : Int)) = false) ∧ (((2 : Int) == (1 : Int)) = false) ∧ (((2 : Int) == (1 : Int)) = false) ∧ (((2 : Int) == (1 : Int)) = false) ∧ (false = false) ∧ (((2 : Int) == (2 : Int)) = true) ∧ (((2 : Int) == (2 : Int)) = true) ∧ (((2 : Int) == (2 : Int)) = true) ∧ (((2 : Int) == (2 : Int)) = true) ∧ (inK IntKind.i64 (M1.s m + W)) ∧ (((2 : Int) == (2 : Int)) = true) ∧ (((2 : Int) == (2 : Int)) = true) ∧ (decide (M1.s m + W ≤ (2 : Int)) = true) ∧ (inK IntKind.i64 (M1.s m + W)) ∧ (inK IntKind.i64 ((↑(3 : Nat) : Int) + (1 : Int))) ∧ (List.length l = List.length l) ∧ (∀ (i : Nat), i < List.length l → ∀ (j : Nat), j < (1 : Nat) → AV.int IntKind.i64 (List.getD l i (0 : Int)) = AV.int IntKind.i64 (List.getD l i (0 : Int))) ∧ (W = W) ∧ (w = w) ∧ ((6 : Int) = (6 : Int)) ∧ (M1.r0 m = M1.r0 m) ∧ (M1.r1 m = M1.r1 m) ∧ (M1.r2 m = M1.r2 m) ∧ ((2 : Int) = (2 : Int)) ∧ (M1.p m = M1.p m) ∧ (M1.s m + W = M1.s m + W) ∧ ((↑(3 : Nat) : Int) + (1 : Int) = (↑(4 : Nat) : Int)) ∧ True) (by kernel_rfl)
    ⟨(decide_eq_true (by first | omega | (simp; omega) | (simp; done))),
 (by first | omega | rfl),
 rfl,
 (fun _ _ _ _ => rfl),
 kC l 1 (by omega),
 (in64 (by omega) (by omega)),
 (by decide),
 hq,
 (by first | omega | rfl),
 (by first | omega | rfl),
 (by first | omega | rfl | (simp; done) | (simp; omega)),
 (by first | omega | rfl | (simp; done) | (simp; omega)),
 (by first | omega | rfl | (simp; done) | (simp; omega)),
 (by first | omega | rfl | (simp; done) | (simp; omega)),
 (by first | omega | rfl | (simp; done) | (simp; omega)),
 (by first | omega | rfl | (simp; done) | (simp; omega)),
 rfl,
 (by first | omega | rfl | (simp; done) | (simp; omega)),
 (by first | omega | rfl | (simp; done) | (simp; omega)),
 (by first | omega | rfl | (simp; done) | (simp; omega)),
 (by first | omega | rfl | (simp; done) | (simp; omega)),
 (in64 (by omega) (by omega)),
 (by first | omega | rfl | (simp; done) | (simp; omega)),
 (by first | omega | rfl | (simp; done) | (simp; omega)),
 hc,
 (in64 (by omega) (by omega)),
 (in64 (by omega) (by omega)),
 rfl,
 (fun _ _ _ _ => rfl),
 rfl,
 rfl,
 rfl,
 rfl,
 rfl,
 rfl,
 rfl,
 rfl,
 rfl,
 (by first | omega | rfl), trivial⟩
theorem m1_3_3f (W w : Int) (l : List Int) (m : M1) (hW : 1 ≤ W ∧ W ≤ 2) (hp : 0 ≤ m.p ∧ m.p ≤ 2) (hs : 0 ≤ m.s ∧ m.s ≤ 2) (hq : bits .and .i64 (Int.fdiv (kN l 1) (2 ^ (2 * 3))) 3 = ((3 : Nat) : Int)) (hc : decide (m.s + W ≤ 2) = false) : Vc (vcC Try.prog false (ntOf Try.prog 9) (lpC Try.prog 9 0) (mk1 W w l m 3) [.b true, .cl [.int .i64 (1 : Nat), kptr l] (.int .i64 (kN l 1)) [], .iy 3, .b false, .b false, .b false, .b false, .b false, .b false, .b false, .b true, .b true, .b true, .b true, .b true, .b true, .b false] .nrm [(0, 0), (1, 1), (2, 2)] (mk1 W w l (⟨m.p, m.s, m.r0, m.r1, m.r2, 0⟩ : M1) 4)) :=
  vc_of (q := (decide ((↑(3 : Nat) : Int) < (4 : Int)) = true) ∧ ((1 : Int) = (↑(1 : Nat) : Int)) ∧ (List.length l = List.length l) ∧ (∀ (i : Nat), i < List.length l → ∀ (j : Nat), j < (1 : Nat) → AV.int IntKind.i64 (List.getD l i (0 : Int)) = AV.int IntKind.i64 (List.getD l i (0 : Int))) ∧ (PureC Try.prog 26 [.int .i64 (1 : Nat), kptr l] (.int .i64 (kN l 1)) []) ∧ (inK IntKind.i64 ((2 : Int) * (↑(3 : Nat) : Int))) ∧ ((0 : Int) ≤ IntKind.wrap IntKind.u64 ((2 : Int) * (↑(3 : Nat) : Int))) ∧ (Go.bits Go.BinOp.and IntKind.i64 (Int.fdiv (kN l (1 : Nat)) ((2 : Int) ^ (6 : Nat))) (3 : Int) = (↑(3 : Nat) : Int)) ∧ ((0 : Int) ≤ (↑(3 : Nat) : Int) ∧ (↑(3 : Nat) : Int) < (↑(4 : Nat) : Int)) ∧ ((3 : Nat) < (4 : Nat)) ∧ (((2 : Int) == (1 : Int)) = false) ∧ (((2 : Int) == (1 : Int)) = false) ∧ (((2 : Int) == (1 : Int)) = false) ∧ (((2 : Int) == (1 : Int)) = false) ∧ (((2 : Int) == (1 : Int)) = false) ∧ (((2 : Int) == (1 : Int)) = false) ∧ (false = false) ∧ (((2 : Int) == (2 : Int)) = true) ∧ (((2 : Int) == (2 : Int)) = true) ∧ (((2 : Int) == (2 : Int)) = true) ∧ (((2 : Int) == (2 : Int)) = true) ∧ (inK IntKind.i64 (M1.s m + W)) ∧ (((2 : Int) == (2 : Int)) = true) ∧ (((2 : Int) == (2 : Int)) = true) ∧ (decide (M1.s m + W ≤ (2 : Int)) = false) ∧ (inK IntKind.i64 ((↑(3 : Nat) : Int) + (1 : Int))) ∧ (frS8m3 W w l m ((M1.p m = M1.p m) ∧ (M1.s m = M1.s m) ∧ ((↑(3 : Nat) : Int) + (1 : Int) = (↑(4 : Nat) : Int)) ∧ True))) (by kernel_rfl)
    ⟨(decide_eq_true (by first | omega | (simp; omega) | (simp; done))),
 (by first | omega | rfl),
 rfl,
 (fun _ _ _ _ => rfl),
 kC l 1 (by omega),
 (in64 (by omega) (by omega)),
 (by decide),
 hq,
 (by first | omega | rfl),
 (by first | omega | rfl),
 (by first | omega | rfl | (simp; done) | (simp; omega)),
 (by first | omega | rfl | (simp; done) | (simp; omega)),
 (by first | omega | rfl | (simp; done) | (simp; omega)),
 (by first | omega | rfl | (simp; done) | (simp; omega)),
 (by first | omega | rfl | (simp; done) | (simp; omega)),
 (by first | omega | rfl | (simp; done) | (simp; omega)),
 rfl,
 (by first | omega | rfl | (simp; done) | (simp; omega)),
 (by first | omega | rfl | (simp; done) | (simp; omega)),
 (by first | omega | rfl | (simp; done) | (simp; omega)),
 (by first | omega | rfl | (simp; done) | (simp; omega)),
 (in64 (by omega) (by omega)),
 (by first | omega | rfl | (simp; done) | (simp; omega)),
 (by first | omega | rfl | (simp; done) | (simp; omega)),
 hc,
 (in64 (by omega) (by omega)), (frS8m3_mk W w l m ⟨rfl,
 rfl,
 (by first | omega | rfl), trivial⟩)⟩
def frS8m4 (W : Int) (w : Int) (l : List Int) (m : M1) (Z : Prop) : Prop := (List.length l = List.length l) ∧ (∀ (i : Nat), i < List.length l → ∀ (j : Nat), j < (1 : Nat) → AV.int IntKind.i64 (List.getD l i (0 : Int)) = AV.int IntKind.i64 (List.getD l i (0 : Int))) ∧ (W = W) ∧ (w = w) ∧ ((6 : Int) = (6 : Int)) ∧ (M1.r0 m = M1.r0 m) ∧ (M1.r1 m = M1.r1 m) ∧ (M1.r2 m = M1.r2 m) ∧ (M1.r3 m = M1.r3 m) ∧ Z
theorem frS8m4_mk (W : Int) (w : Int) (l : List Int) (m : M1) {Z : Prop} (z : Z) : frS8m4 W w l m Z := ⟨rfl, (fun _ _ _ _ => rfl), rfl, rfl, rfl, rfl, rfl, rfl, rfl, z⟩
theorem m1_end (W w : Int) (l : List Int) (m : M1) : Vc (vcC Try.prog false (ntOf Try.prog 9) (lpC Try.prog 9 0) (mk1 W w l m 4) [.b false] (.ext 0) [(0, 0), (1, 1), (2, 2)] (mk1 W w l m 4)) :=
  vc_of (q := (decide ((↑(4 : Nat) : Int) < (4 : Int)) = false) ∧ (frS8m4 W w l m ((M1.p m = M1.p m) ∧ (M1.s m = M1.s m) ∧ ((↑(4 : Nat) : Int) = (↑(4 : Nat) : Int)) ∧ True))) (by kernel_rfl)
    ⟨(decide_eq_false (by first | omega | (simp; omega) | (simp; done))), (frS8m4_mk W w l m ⟨rfl,
 rfl,
 rfl, trivial⟩)⟩
theorem mstep_bd {W : Int} {q k : Nat} {m : M1} (hW : 1 ≤ W ∧ W ≤ 2) (hp : 0 ≤ m.p ∧ m.p ≤ 2) (hs : 0 ≤ m.s ∧ m.s ≤ 2) : (0 ≤ (mstep W q k m).p ∧ (mstep W q k m).p ≤ 2) ∧ (0 ≤ (mstep W q k m).s ∧ (mstep W q k m).s ≤ 2) := by
  have h1 : ∀ v, (m.set k v).p = m.p ∧ (m.set k v).s = m.s := fun v => by unfold M1.set; split <;> exact ⟨rfl, rfl⟩
  have e0 := h1 0
  have e1 := h1 1
  have e2 := h1 2
  unfold mstep
  repeat' split
  all_goals simp only [e0.1, e0.2, e1.1, e1.2, e2.1, e2.2]
  all_goals omega
theorem mK_bd {W : Int} (hW : 1 ≤ W ∧ W ≤ 2) (l : List Int) (k : Nat) : (0 ≤ (mK W l k).p ∧ (mK W l k).p ≤ 2) ∧ (0 ≤ (mK W l k).s ∧ (mK W l k).s ≤ 2) := by
  induction k with
  | zero => exact ⟨⟨by show (0:Int) ≤ 0; omega, by show (0:Int) ≤ 2; omega⟩, ⟨by show (0:Int) ≤ 0; omega, by show (0:Int) ≤ 2; omega⟩⟩
  | succ k ih => exact mstep_bd hW ih.1 ih.2
theorem mq_eq (l : List Int) (k : Nat) : mq l k < 4 ∧ bits .and .i64 (Int.fdiv (kN l 1) (2 ^ (2 * k))) 3 = ((mq l k : Nat) : Int) := by
  obtain ⟨q, h1, h2⟩ := bits3 (Int.fdiv (kN l 1) (2 ^ (2 * k)))
  unfold mq
  rw [h2]
  exact ⟨by omega, by simp⟩
theorem m1_loop (W w : Int) (l : List Int) (hW : 1 ≤ W ∧ W ≤ 2) : Ok Try.prog (ntOf Try.prog 9) (.loop (lpC Try.prog 9 0)) (mk1 W w l ⟨0, 0, 0, 0, 0, 0⟩ 0).st (.ext 0) (mk1 W w l (mK W l 4) 4).st :=
  Ok.loop (P := Try.prog) (nt := ntOf Try.prog 9) (c := lpC Try.prog 9 0) (F := fun k => mk1 W w l (mK W l k) k) (m := 4) (x := .ext 0) (J := mk1 W w l (mK W l 4) 4) (fun k hk => by
    match k, hk with
    | 0, _ =>
      show Ok _ _ _ _ _ (mk1 W w l (mstep W (mq l 0) 0 (mK W l 0)) 1).st
      obtain ⟨hq4, hq⟩ := mq_eq l 0
      obtain ⟨hp, hs⟩ := mK_bd hW l 0
      match mq l 0, hq4, hq with
      | 0, _, hq => exact Ok.vc (m1_0_0 W w l _ hW hp hs hq)
      | 1, _, hq => exact Ok.vc (m1_0_1 W w l _ hW hp hs hq)
      | 2, _, hq =>
        unfold mstep
        rw [if_pos rfl]
        by_cases hc : (mK W l 0).p + W ≤ 2
        · rw [if_pos hc]; exact Ok.vc (m1_0_2t W w l _ hW hp hs hq (decide_eq_true hc))
        · rw [if_neg hc]; exact Ok.vc (m1_0_2f W w l _ hW hp hs hq (decide_eq_false hc))
      | 3, _, hq =>
        unfold mstep
        rw [if_neg (by omega), if_pos rfl]
        by_cases hc : (mK W l 0).s + W ≤ 2
        · rw [if_pos hc]; exact Ok.vc (m1_0_3t W w l _ hW hp hs hq (decide_eq_true hc))
        · rw [if_neg hc]; exact Ok.vc (m1_0_3f W w l _ hW hp hs hq (decide_eq_false hc))
    | 1, _ =>
      show Ok _ _ _ _ _ (mk1 W w l (mstep W (mq l 1) 1 (mK W l 1)) 2).st
      obtain ⟨hq4, hq⟩ := mq_eq l 1
      obtain ⟨hp, hs⟩ := mK_bd hW l 1
      match mq l 1, hq4, hq with
      | 0, _, hq => exact Ok.vc (m1_1_0 W w l _ hW hp hs hq)
      | 1, _, hq => exact Ok.vc (m1_1_1 W w l _ hW hp hs hq)
      | 2, _, hq =>
        unfold mstep
        rw [if_pos rfl]
        by_cases hc : (mK W l 1).p + W ≤ 2
        · rw [if_pos hc]; exact Ok.vc (m1_1_2t W w l _ hW hp hs hq (decide_eq_true hc))
        · rw [if_neg hc]; exact Ok.vc (m1_1_2f W w l _ hW hp hs hq (decide_eq_false hc))
      | 3, _, hq =>
        unfold mstep
        rw [if_neg (by omega), if_pos rfl]
        by_cases hc : (mK W l 1).s + W ≤ 2
        · rw [if_pos hc]; exact Ok.vc (m1_1_3t W w l _ hW hp hs hq (decide_eq_true hc))
        · rw [if_neg hc]; exact Ok.vc (m1_1_3f W w l _ hW hp hs hq (decide_eq_false hc))
    | 2, _ =>
      show Ok _ _ _ _ _ (mk1 W w l (mstep W (mq l 2) 2 (mK W l 2)) 3).st
      obtain ⟨hq4, hq⟩ := mq_eq l 2
      obtain ⟨hp, hs⟩ := mK_bd hW l 2
      match mq l 2, hq4, hq with
      | 0, _, hq => exact Ok.vc (m1_2_0 W w l _ hW hp hs hq)
      | 1, _, hq => exact Ok.vc (m1_2_1 W w l _ hW hp hs hq)
      | 2, _, hq =>
        unfold mstep
        rw [if_pos rfl]
        by_cases hc : (mK W l 2).p + W ≤ 2
        · rw [if_pos hc]; exact Ok.vc (m1_2_2t W w l _ hW hp hs hq (decide_eq_true hc))
        · rw [if_neg hc]; exact Ok.vc (m1_2_2f W w l _ hW hp hs hq (decide_eq_false hc))
      | 3, _, hq =>
        unfold mstep
        rw [if_neg (by omega), if_pos rfl]
        by_cases hc : (mK W l 2).s + W ≤ 2
        · rw [if_pos hc]; exact Ok.vc (m1_2_3t W w l _ hW hp hs hq (decide_eq_true hc))
        · rw [if_neg hc]; exact Ok.vc (m1_2_3f W w l _ hW hp hs hq (decide_eq_false hc))
    | 3, _ =>
      show Ok _ _ _ _ _ (mk1 W w l (mstep W (mq l 3) 3 (mK W l 3)) 4).st
      obtain ⟨hq4, hq⟩ := mq_eq l 3
      obtain ⟨hp, hs⟩ := mK_bd hW l 3
      match mq l 3, hq4, hq with
      | 0, _, hq => exact Ok.vc (m1_3_0 W w l _ hW hp hs hq)
      | 1, _, hq => exact Ok.vc (m1_3_1 W w l _ hW hp hs hq)
      | 2, _, hq =>
        unfold mstep
        rw [if_pos rfl]
        by_cases hc : (mK W l 3).p + W ≤ 2
        · rw [if_pos hc]; exact Ok.vc (m1_3_2t W w l _ hW hp hs hq (decide_eq_true hc))
        · rw [if_neg hc]; exact Ok.vc (m1_3_2f W w l _ hW hp hs hq (decide_eq_false hc))
      | 3, _, hq =>
        unfold mstep
        rw [if_neg (by omega), if_pos rfl]
        by_cases hc : (mK W l 3).s + W ≤ 2
        · rw [if_pos hc]; exact Ok.vc (m1_3_3t W w l _ hW hp hs hq (decide_eq_true hc))
        · rw [if_neg hc]; exact Ok.vc (m1_3_3f W w l _ hW hp hs hq (decide_eq_false hc))) (Ok.vc (m1_end W w l _)) (by simp)
theorem inL_len (l : List Int) (n : Nat) : ∀ k, (inL l n k).length = k
  | 0 => rfl
  | k + 1 => by simp [inL, inL_len l n k]
theorem lbL_len : ∀ k, (lbL k).length = k
  | 0 => rfl
  | k + 1 => by simp [lbL, lbL_len k]
theorem dg_sz (k : Nat) (hk : k < 6) : (⟨#[108]⟩ : ByteArray).size + (dgS k).size ≤ 9223372036854775807 := match k, hk with
  | 0, _ => by decide
  | 1, _ => by decide
  | 2, _ => by decide
  | 3, _ => by decide
  | 4, _ => by decide
  | 5, _ => by decide
theorem m2_step (W w : Int) (l : List Int) (m : M1) (ms : List Mm) (n : Nat) (k : Nat) (hn : n < 6) (hk : k ≤ n) : Vc (vcC Try.prog false (ntOf Try.prog 9) (lpC Try.prog 9 1) (mk2 W w l m ms n k) [.b true, .cl [.int .i64 k] (.str (dgS k)) []] .nrm [(0, 0), (1, 1), (2, 2), (3, 3), (4, 4)] (mk2 W w l m ms n (k + 1))) :=
  vc_of (q := (decide ((↑k : Int) ≤ (↑n : Int)) = true) ∧ ((↑k : Int) = (↑k : Int)) ∧ (PureC Try.prog 27 [.int .i64 k] (.str (dgS k)) []) ∧ ((1 : Nat) + ByteArray.size (dgS k) ≤ (9223372036854775807 : Nat)) ∧ ((0 : Nat) = (0 : Nat) ∧ List.length (lbL k) = List.length (lbL k) ∧ (List.length (lbL k) + (1 : Nat)) * (24 : Nat) ≤ (140737488355328 : Nat) ∧ List.length (lbL k) + (1 : Nat) ≤ (140737488355328 : Nat)) ∧ (inK IntKind.i64 ((↑k : Int) + (1 : Int))) ∧ (frS8m4 W w l m (((0 : Nat) = (0 : Nat)) ∧ (List.length ms = List.length ms) ∧ ((0 : Nat) = (0 : Nat)) ∧ (List.length (lbL k) + (1 : Nat) = List.length (lbL (k + (1 : Nat)))) ∧ (List.length ms = List.length ms) ∧ (∀ (i : Nat), i < List.length ms → ∀ (j : Nat), j < (3 : Nat) → rowL mmC ms i j = rowL mmC ms i j) ∧ (List.length (lbL k) + (1 : Nat) = List.length (lbL (k + (1 : Nat)))) ∧ (∀ (i : Nat), i < List.length (lbL k) + (1 : Nat) → ∀ (j : Nat), j < (2 : Nat) → (bif Nat.blt i (List.length (lbL k)) then rowL lbC (lbL k) i j else List.getD [AV.str (ByteArray.mk (Array.mk [(108 : UInt8)]) ++ dgS k), AV.int IntKind.i64 (↑k : Int)] ((i - List.length (lbL k) + (0 : Nat)) * (2 : Nat) + j) AV.junk) = rowL lbC (lbL (k + (1 : Nat))) i j) ∧ ((↑n : Int) = (↑n : Int)) ∧ ((↑k : Int) + (1 : Int) = (↑(k + (1 : Nat)) : Int)) ∧ True))) (by kernel_rfl)
    ⟨(decide_eq_true (by first | omega | (simp; omega) | (simp; done))),
 rfl,
 digC k (by omega),
 (dg_sz k (by omega)),
 (by rw [lbL_len]; omega),
 (in64 (by omega) (by omega)), (frS8m4_mk W w l m ⟨rfl,
 rfl,
 rfl,
 (by rw [lbL_len, lbL_len]),
 rfl,
 (fun _ _ _ _ => rfl),
 (by rw [lbL_len, lbL_len]),
 (fun i hi j hj => (show _ = rowL lbC (lbL k ++ [lbN k]) i j from row_if (fun h => (rowL_left h).symm) (fun h => by obtain rfl : i = _ := Nat.le_antisymm (Nat.lt_succ_iff.mp hi) (Nat.not_lt.mp h); rw [rowL_last, Nat.sub_self]; match j, hj with | 0, _ => rfl | 1, _ => rfl))),
 rfl,
 (by first | omega | rfl), trivial⟩)⟩
theorem m2_end (W w : Int) (l : List Int) (m : M1) (ms : List Mm) (n : Nat) (hn : n < 6) : Vc (vcC Try.prog false (ntOf Try.prog 9) (lpC Try.prog 9 1) (mk2 W w l m ms n (n + 1)) [.b false] (.ext 3) [(0, 0), (1, 1), (2, 2), (3, 3), (4, 4)] (mk2 W w l m ms n (n + 1))) :=
  vc_of (q := (decide ((↑(n + (1 : Nat)) : Int) ≤ (↑n : Int)) = false) ∧ (frS8m4 W w l m (((0 : Nat) = (0 : Nat)) ∧ (List.length ms = List.length ms) ∧ ((0 : Nat) = (0 : Nat)) ∧ (List.length (lbL (n + (1 : Nat))) = List.length (lbL (n + (1 : Nat)))) ∧ (List.length ms = List.length ms) ∧ (∀ (i : Nat), i < List.length ms → ∀ (j : Nat), j < (3 : Nat) → rowL mmC ms i j = rowL mmC ms i j) ∧ (List.length (lbL (n + (1 : Nat))) = List.length (lbL (n + (1 : Nat)))) ∧ (∀ (i : Nat), i < List.length (lbL (n + (1 : Nat))) → ∀ (j : Nat), j < (2 : Nat) → rowL lbC (lbL (n + (1 : Nat))) i j = rowL lbC (lbL (n + (1 : Nat))) i j) ∧ ((↑n : Int) = (↑n : Int)) ∧ ((↑(n + (1 : Nat)) : Int) = (↑(n + (1 : Nat)) : Int)) ∧ True))) (by kernel_rfl)
    ⟨(decide_eq_false (by first | omega | (simp; omega) | (simp; done))), (frS8m4_mk W w l m ⟨rfl,
 rfl,
 rfl,
 rfl,
 rfl,
 (fun _ _ _ _ => rfl),
 rfl,
 (fun _ _ _ _ => rfl),
 rfl,
 rfl, trivial⟩)⟩
theorem m3_step (W w : Int) (l : List Int) (m : M1) (ms : List Mm) (n : Nat) (k : Nat) (hn : n < 6) (hk : k < n) : Vc (vcC Try.prog false (ntOf Try.prog 9) (lpC Try.prog 9 2) (mk3 W w l m ms n k) [.b true, .cl [.int .i64 ((k + 2 : Nat) : Int), kptr l] (.int .i64 (kN l (k + 2))) [], .cl [.int .i64 (kN l (k + 2)), .int .i64 n] (.agg (inA (insN (kN l (k + 2)) n))) []] .nrm [(0, 0), (1, 1), (2, 2), (3, 3), (4, 4), (5, 5)] (mk3 W w l m ms n (k + 1))) :=
  vc_of (q := (decide ((↑k : Int) < (↑n : Int)) = true) ∧ (inK IntKind.i64 ((↑k : Int) + (2 : Int))) ∧ ((↑k : Int) + (2 : Int) = (↑(k + (2 : Nat)) : Int)) ∧ (List.length l = List.length l) ∧ (∀ (i : Nat), i < List.length l → ∀ (j : Nat), j < (1 : Nat) → AV.int IntKind.i64 (List.getD l i (0 : Int)) = AV.int IntKind.i64 (List.getD l i (0 : Int))) ∧ (PureC Try.prog 26 [.int .i64 ((k + 2 : Nat) : Int), kptr l] (.int .i64 (kN l (k + 2))) []) ∧ (kN l (k + (2 : Nat)) = kN l (k + (2 : Nat))) ∧ ((↑n : Int) = (↑n : Int)) ∧ (PureC Try.prog 28 [.int .i64 (kN l (k + 2)), .int .i64 n] (.agg (inA (insN (kN l (k + 2)) n))) []) ∧ ((0 : Nat) = (0 : Nat) ∧ List.length (inL l n k) = List.length (inL l n k) ∧ (List.length (inL l n k) + (1 : Nat)) * (80 : Nat) ≤ (140737488355328 : Nat) ∧ List.length (inL l n k) + (1 : Nat) ≤ (140737488355328 : Nat)) ∧ (inK IntKind.i64 ((↑k : Int) + (1 : Int))) ∧ (frS8m4 W w l m (((0 : Nat) = (0 : Nat)) ∧ (List.length ms = List.length ms) ∧ ((0 : Nat) = (0 : Nat)) ∧ (List.length (lbL (n + (1 : Nat))) = List.length (lbL (n + (1 : Nat)))) ∧ ((0 : Nat) = (0 : Nat)) ∧ (List.length (inL l n k) + (1 : Nat) = List.length (inL l n (k + (1 : Nat)))) ∧ (List.length ms = List.length ms) ∧ (∀ (i : Nat), i < List.length ms → ∀ (j : Nat), j < (3 : Nat) → rowL mmC ms i j = rowL mmC ms i j) ∧ (List.length (lbL (n + (1 : Nat))) = List.length (lbL (n + (1 : Nat)))) ∧ (∀ (i : Nat), i < List.length (lbL (n + (1 : Nat))) → ∀ (j : Nat), j < (2 : Nat) → rowL lbC (lbL (n + (1 : Nat))) i j = rowL lbC (lbL (n + (1 : Nat))) i j) ∧ (List.length (inL l n k) + (1 : Nat) = List.length (inL l n (k + (1 : Nat)))) ∧ (∀ (i : Nat), i < List.length (inL l n k) + (1 : Nat) → ∀ (j : Nat), j < (9 : Nat) → (bif Nat.blt i (List.length (inL l n k)) then rowL inC (inL l n k) i j else List.getD [AV.int IntKind.i64 (In.kind (insN (kN l (k + (2 : Nat))) n)), AV.int IntKind.i64 (In.op (insN (kN l (k + (2 : Nat))) n)), AV.int IntKind.i64 (In.d (insN (kN l (k + (2 : Nat))) n)), AV.bool (Vl.reg (In.a (insN (kN l (k + (2 : Nat))) n))), AV.int IntKind.i64 (Vl.n (In.a (insN (kN l (k + (2 : Nat))) n))), AV.bool (Vl.reg (In.b (insN (kN l (k + (2 : Nat))) n))), AV.int IntKind.i64 (Vl.n (In.b (insN (kN l (k + (2 : Nat))) n))), AV.str (In.nm (insN (kN l (k + (2 : Nat))) n)), AV.int IntKind.i64 (In.tg (insN (kN l (k + (2 : Nat))) n))] ((i - List.length (inL l n k) + (0 : Nat)) * (9 : Nat) + j) AV.junk) = rowL inC (inL l n (k + (1 : Nat))) i j) ∧ ((↑n : Int) = (↑n : Int)) ∧ ((↑k : Int) + (1 : Int) = (↑(k + (1 : Nat)) : Int)) ∧ True))) (by kernel_rfl)
    ⟨(decide_eq_true (by first | omega | (simp; omega) | (simp; done))),
 (in64 (by omega) (by omega)),
 (by first | omega | rfl),
 rfl,
 (fun _ _ _ _ => rfl),
 kC l (k + 2) (by omega),
 rfl,
 rfl,
 linsC (kN l (k + 2)) n (by omega),
 (by rw [inL_len]; omega),
 (in64 (by omega) (by omega)), (frS8m4_mk W w l m ⟨rfl,
 rfl,
 rfl,
 rfl,
 rfl,
 (by rw [inL_len, inL_len]),
 rfl,
 (fun _ _ _ _ => rfl),
 rfl,
 (fun _ _ _ _ => rfl),
 (by rw [inL_len, inL_len]),
 (fun i hi j hj => (show _ = rowL inC (inL l n k ++ [insN (kN l (k + 2)) n]) i j from row_if (fun h => (rowL_left h).symm) (fun h => by obtain rfl : i = _ := Nat.le_antisymm (Nat.lt_succ_iff.mp hi) (Nat.not_lt.mp h); rw [rowL_last, Nat.sub_self]; match j, hj with | 0, _ => rfl | 1, _ => rfl | 2, _ => rfl | 3, _ => rfl | 4, _ => rfl | 5, _ => rfl | 6, _ => rfl | 7, _ => rfl | 8, _ => rfl))),
 rfl,
 (by first | omega | rfl), trivial⟩)⟩
theorem m3_end (W w : Int) (l : List Int) (m : M1) (ms : List Mm) (n : Nat) (hn : n < 6) : Vc (vcC Try.prog false (ntOf Try.prog 9) (lpC Try.prog 9 2) (mk3 W w l m ms n n) [.b false] (.ext 5) [(0, 0), (1, 1), (2, 2), (3, 3), (4, 4), (5, 5)] (mk3 W w l m ms n n)) :=
  vc_of (q := (decide ((↑n : Int) < (↑n : Int)) = false) ∧ (frS8m4 W w l m (((0 : Nat) = (0 : Nat)) ∧ (List.length ms = List.length ms) ∧ ((0 : Nat) = (0 : Nat)) ∧ (List.length (lbL (n + (1 : Nat))) = List.length (lbL (n + (1 : Nat)))) ∧ ((0 : Nat) = (0 : Nat)) ∧ (List.length (inL l n n) = List.length (inL l n n)) ∧ (List.length ms = List.length ms) ∧ (∀ (i : Nat), i < List.length ms → ∀ (j : Nat), j < (3 : Nat) → rowL mmC ms i j = rowL mmC ms i j) ∧ (List.length (lbL (n + (1 : Nat))) = List.length (lbL (n + (1 : Nat)))) ∧ (∀ (i : Nat), i < List.length (lbL (n + (1 : Nat))) → ∀ (j : Nat), j < (2 : Nat) → rowL lbC (lbL (n + (1 : Nat))) i j = rowL lbC (lbL (n + (1 : Nat))) i j) ∧ (List.length (inL l n n) = List.length (inL l n n)) ∧ (∀ (i : Nat), i < List.length (inL l n n) → ∀ (j : Nat), j < (9 : Nat) → rowL inC (inL l n n) i j = rowL inC (inL l n n) i j) ∧ ((↑n : Int) = (↑n : Int)) ∧ ((↑n : Int) = (↑n : Int)) ∧ True))) (by kernel_rfl)
    ⟨(decide_eq_false (by first | omega | (simp; omega) | (simp; done))), (frS8m4_mk W w l m ⟨rfl,
 rfl,
 rfl,
 rfl,
 rfl,
 rfl,
 rfl,
 (fun _ _ _ _ => rfl),
 rfl,
 (fun _ _ _ _ => rfl),
 rfl,
 (fun _ _ _ _ => rfl),
 rfl,
 rfl, trivial⟩)⟩
theorem m2_loop (W w : Int) (l : List Int) (m : M1) (ms : List Mm) (n : Nat) (hn : n < 6) : Ok Try.prog (ntOf Try.prog 9) (.loop (lpC Try.prog 9 1)) (mk2 W w l m ms n 0).st (.ext 3) (mk2 W w l m ms n (n + 1)).st :=
  Ok.loop (P := Try.prog) (nt := ntOf Try.prog 9) (c := lpC Try.prog 9 1) (F := fun k => mk2 W w l m ms n k) (m := n + 1) (x := .ext 3) (J := mk2 W w l m ms n (n + 1)) (fun k hk => Ok.vc (m2_step W w l m ms n k hn (by omega))) (Ok.vc (m2_end W w l m ms n hn)) (by simp)
theorem m3_loop (W w : Int) (l : List Int) (m : M1) (ms : List Mm) (n : Nat) (hn : n < 6) : Ok Try.prog (ntOf Try.prog 9) (.loop (lpC Try.prog 9 2)) (mk3 W w l m ms n 0).st (.ext 5) (mk3 W w l m ms n n).st :=
  Ok.loop (P := Try.prog) (nt := ntOf Try.prog 9) (c := lpC Try.prog 9 2) (F := fun k => mk3 W w l m ms n k) (m := n) (x := .ext 5) (J := mk3 W w l m ms n n) (fun k hk => Ok.vc (m3_step W w l m ms n k hn hk)) (Ok.vc (m3_end W w l m ms n hn)) (by simp)
def mm1 : Mm := ⟨⟨#[109]⟩, false, 1⟩
def mm2 : Mm := ⟨⟨#[109]⟩, false, 2⟩
def ms1 : Mm := ⟨⟨#[115]⟩, true, 1⟩
def frS8m5 (W : Int) (l : List Int) (n : Nat) (Z : Prop) : Prop := (M1.r0 (mK W l (4 : Nat)) = M1.r0 (mK W l (4 : Nat))) ∧ (M1.r1 (mK W l (4 : Nat)) = M1.r1 (mK W l (4 : Nat))) ∧ (M1.r2 (mK W l (4 : Nat)) = M1.r2 (mK W l (4 : Nat))) ∧ (M1.r3 (mK W l (4 : Nat)) = M1.r3 (mK W l (4 : Nat))) ∧ ((0 : Nat) = (0 : Nat)) ∧ ((0 : Nat) = (0 : Nat)) ∧ ((0 : Nat) = (0 : Nat)) ∧ (List.length (lbL (n + (1 : Nat))) = List.length (lbL (n + (1 : Nat)))) ∧ ((0 : Nat) = (0 : Nat)) ∧ Z
theorem frS8m5_mk (W : Int) (l : List Int) (n : Nat) {Z : Prop} (z : Z) : frS8m5 W l n Z := ⟨rfl, rfl, rfl, rfl, rfl, rfl, rfl, rfl, rfl, z⟩
def frS8m6 (W : Int) (l : List Int) (n : Nat) (Z : Prop) : Prop := ((0 : Nat) = (0 : Nat)) ∧ (∀ (i : Nat), i < (0 : Nat) → ∀ (j : Nat), j < (3 : Nat) → rowL mmC [] i j = rowL mmC [] i j) ∧ (List.length (lbL (n + (1 : Nat))) = List.length (lbL (n + (1 : Nat)))) ∧ (∀ (i : Nat), i < List.length (lbL (n + (1 : Nat))) → ∀ (j : Nat), j < (2 : Nat) → rowL lbC (lbL (n + (1 : Nat))) i j = rowL lbC (lbL (n + (1 : Nat))) i j) ∧ (List.length (inL l n n) = List.length (inL l n n)) ∧ (∀ (i : Nat), i < List.length (inL l n n) → ∀ (j : Nat), j < (9 : Nat) → rowL inC (inL l n n) i j = rowL inC (inL l n n) i j) ∧ (W = W) ∧ (winN l = winN l) ∧ ((6 : Int) = (6 : Int)) ∧ Z
theorem frS8m6_mk (W : Int) (l : List Int) (n : Nat) {Z : Prop} (z : Z) : frS8m6 W l n Z := ⟨rfl, (fun _ _ _ _ => rfl), rfl, (fun _ _ _ _ => rfl), rfl, (fun _ _ _ _ => rfl), rfl, rfl, rfl, z⟩
def frS8m7 (n : Nat) (Z : Prop) : Prop := ((0 : Nat) = (0 : Nat)) ∧ ((0 : Nat) = (0 : Nat)) ∧ ((0 : Nat) = (0 : Nat)) ∧ (List.length (lbL (n + (1 : Nat))) = List.length (lbL (n + (1 : Nat)))) ∧ ((0 : Nat) = (0 : Nat)) ∧ ((0 : Nat) = (0 : Nat)) ∧ ((0 : Nat) = (0 : Nat)) ∧ (∀ (i : Nat), i < (0 : Nat) → ∀ (j : Nat), j < (3 : Nat) → rowL mmC [] i j = rowL mmC [] i j) ∧ (List.length (lbL (n + (1 : Nat))) = List.length (lbL (n + (1 : Nat)))) ∧ Z
theorem frS8m7_mk (n : Nat) {Z : Prop} (z : Z) : frS8m7 n Z := ⟨rfl, rfl, rfl, rfl, rfl, rfl, rfl, (fun _ _ _ _ => rfl), rfl, z⟩
def frS8m8 (W : Int) (l : List Int) (Z : Prop) : Prop := (List.length l = List.length l) ∧ (∀ (i : Nat), i < List.length l → ∀ (j : Nat), j < (1 : Nat) → AV.int IntKind.i64 (List.getD l i (0 : Int)) = AV.int IntKind.i64 (List.getD l i (0 : Int))) ∧ (W = W) ∧ (winN l = winN l) ∧ ((6 : Int) = (6 : Int)) ∧ (M1.r0 (mK W l (4 : Nat)) = M1.r0 (mK W l (4 : Nat))) ∧ (M1.r1 (mK W l (4 : Nat)) = M1.r1 (mK W l (4 : Nat))) ∧ (M1.r2 (mK W l (4 : Nat)) = M1.r2 (mK W l (4 : Nat))) ∧ (M1.r3 (mK W l (4 : Nat)) = M1.r3 (mK W l (4 : Nat))) ∧ Z
theorem frS8m8_mk (W : Int) (l : List Int) {Z : Prop} (z : Z) : frS8m8 W l Z := ⟨rfl, (fun _ _ _ _ => rfl), rfl, rfl, rfl, rfl, rfl, rfl, rfl, z⟩
abbrev cS8m0 (l : List Int) (n : Nat) : Prop := (Go.bits Go.BinOp.and IntKind.i64 (Int.fdiv (kN l (0 : Nat)) ((2 : Int) ^ (12 : Nat))) (3 : Int) + (2 : Int) = (↑n : Int))
def frS8m9  (Z : Prop) : Prop := ((0 : Nat) = (0 : Nat)) ∧ ((0 : Nat) = (0 : Nat)) ∧ ((0 : Nat) = (0 : Nat)) ∧ ((0 : Nat) = (0 : Nat)) ∧ ((0 : Nat) = (0 : Nat)) ∧ ((0 : Nat) = (0 : Nat)) ∧ Z
theorem frS8m9_mk  {Z : Prop} (z : Z) : frS8m9  Z := ⟨rfl, rfl, rfl, rfl, rfl, rfl, z⟩
abbrev cS8m1 (W : Int) (l : List Int) : Prop := (Ok Try.prog (ntOf Try.prog 9) (.loop (lpC Try.prog 9 0)) (mk1 W (winN l) l ⟨0, 0, 0, 0, 0, 0⟩ 0).st (.ext 0) (mk1 W (winN l) l (mK W l 4) 4).st)
def frS8m10  (Z : Prop) : Prop := ((6 : Int) = (6 : Int)) ∧ ((0 : Int) = (0 : Int)) ∧ ((0 : Int) = (0 : Int)) ∧ ((0 : Int) = (0 : Int)) ∧ ((0 : Int) = (0 : Int)) ∧ ((0 : Int) = (0 : Int)) ∧ ((0 : Int) = (0 : Int)) ∧ Z
theorem frS8m10_mk  {Z : Prop} (z : Z) : frS8m10  Z := ⟨rfl, rfl, rfl, rfl, rfl, rfl, rfl, z⟩
abbrev cS8m2 (W : Int) (l : List Int) : Prop := (Go.bits Go.BinOp.and IntKind.i64 (kN l (0 : Nat)) (1 : Int) + (1 : Int) = W)
theorem mk_F_F (W : Int) (l : List Int) (n : Nat) (hW1 : bits .and .i64 (kN l 0) 1 + 1 = W) (hW : 1 ≤ W ∧ W ≤ 2) (hn1 : bits .and .i64 (Int.fdiv (kN l 0) (2 ^ 12)) 3 + 2 = (n : Int)) (hn : n < 6) (c1f : (decide (bits .and .i64 (Int.fdiv (kN l 1) (2 ^ 8)) 3 > 0)) = false) (c4f : (decide (bits .and .i64 (Int.fdiv (kN l 1) (2 ^ 12)) 3 > 0)) = false) : Vc (vcFn Try.prog false 9 [.row 1 l.length (rowI l)] [.cl [.int .i64 ((0 : Nat) : Int), kptr l] (.int .i64 (kN l 0)) [], .cl [.int .i64 ((0 : Nat) : Int), kptr l] (.int .i64 (kN l 0)) [], .lp [(0, 0), (1, 1), (2, 2)] (mk1 W (winN l) l ⟨0, 0, 0, 0, 0, 0⟩ 0) (.ext 0) (mk1 W (winN l) l (mK W l 4) 4), .cl [.int .i64 (1 : Nat), kptr l] (.int .i64 (kN l 1)) [], .b false, .cl [.int .i64 (1 : Nat), kptr l] (.int .i64 (kN l 1)) [], .b false, .b false, .b false, .b false, .b false, .b false, .cl [.int .i64 ((0 : Nat) : Int), kptr l] (.int .i64 (kN l 0)) [], .lp [(0, 0), (1, 1), (2, 2)] (mk2 W (winN l) l (mK W l 4) ([] : List Mm) n 0) (.ext 3) (mk2 W (winN l) l (mK W l 4) ([] : List Mm) n (n + 1)), .lp [(0, 0), (1, 1), (2, 2), (3, 3), (4, 4)] (mk3 W (winN l) l (mK W l 4) ([] : List Mm) n 0) (.ext 5) (mk3 W (winN l) l (mK W l 4) ([] : List Mm) n n)] [(0, 3), (1, 4), (2, 5)] (.agg [.int .i64 W, .int .i64 (winN l), .int .i64 6, .int .i64 (mK W l 4).r0, .int .i64 (mK W l 4).r1, .int .i64 (mK W l 4).r2, .int .i64 (mK W l 4).r3, .own 0 0 3 0 ([] : List Mm).length, .own 1 0 2 0 (lbL (n + 1)).length, .own 2 0 9 0 (inL l n n).length]) [mmB ([] : List Mm), lbB (lbL (n + 1)), inB (inL l n n)]) :=
  vc_of (q := ((0 : Int) = (↑(0 : Nat) : Int)) ∧ (List.length l = List.length l) ∧ (∀ (i : Nat), i < List.length l → ∀ (j : Nat), j < (1 : Nat) → AV.int IntKind.i64 (List.getD l i (0 : Int)) = AV.int IntKind.i64 (List.getD l i (0 : Int))) ∧ (PureC Try.prog 26 [.int .i64 ((0 : Nat) : Int), kptr l] (.int .i64 (kN l 0)) []) ∧ (inK IntKind.i64 (Go.bits Go.BinOp.and IntKind.i64 (kN l (0 : Nat)) (1 : Int) + (1 : Int))) ∧ ((0 : Int) = (↑(0 : Nat) : Int)) ∧ (List.length l = List.length l) ∧ (∀ (i : Nat), i < List.length l → ∀ (j : Nat), j < (1 : Nat) → AV.int IntKind.i64 (List.getD l i (0 : Int)) = AV.int IntKind.i64 (List.getD l i (0 : Int))) ∧ (PureC Try.prog 26 [.int .i64 ((0 : Nat) : Int), kptr l] (.int .i64 (kN l 0)) []) ∧ ((0 : Int) ≤ (1 : Int)) ∧ ((3 : Int) ≠ (0 : Int)) ∧ (inK IntKind.i64 (Int.tmod (Go.bits Go.BinOp.and IntKind.i64 (Int.fdiv (kN l (0 : Nat)) ((2 : Int) ^ (1 : Nat))) (255 : Int)) (3 : Int) + (1 : Int))) ∧ (List.length l = List.length l) ∧ (∀ (i : Nat), i < List.length l → ∀ (j : Nat), j < (1 : Nat) → AV.int IntKind.i64 (List.getD l i (0 : Int)) = AV.int IntKind.i64 (List.getD l i (0 : Int))) ∧ cS8m2 W l ∧ (Int.tmod (Go.bits Go.BinOp.and IntKind.i64 (Int.fdiv (kN l (0 : Nat)) ((2 : Int) ^ (1 : Nat))) (255 : Int)) (3 : Int) + (1 : Int) = winN l) ∧ (frS8m10  (((0 : Int) = (↑(0 : Nat) : Int)) ∧ cS8m1 W l ∧ ((1 : Int) = (↑(1 : Nat) : Int)) ∧ (List.length l = List.length l) ∧ (∀ (i : Nat), i < List.length l → ∀ (j : Nat), j < (1 : Nat) → AV.int IntKind.i64 (List.getD l i (0 : Int)) = AV.int IntKind.i64 (List.getD l i (0 : Int))) ∧ (PureC Try.prog 26 [.int .i64 (1 : Nat), kptr l] (.int .i64 (kN l 1)) []) ∧ ((0 : Int) ≤ (8 : Int)) ∧ (decide (Go.bits Go.BinOp.and IntKind.i64 (Int.fdiv (kN l (1 : Nat)) ((2 : Int) ^ (8 : Nat))) (3 : Int) > (0 : Int)) = false) ∧ ((1 : Int) = (↑(1 : Nat) : Int)) ∧ (List.length l = List.length l) ∧ (∀ (i : Nat), i < List.length l → ∀ (j : Nat), j < (1 : Nat) → AV.int IntKind.i64 (List.getD l i (0 : Int)) = AV.int IntKind.i64 (List.getD l i (0 : Int))) ∧ (PureC Try.prog 26 [.int .i64 (1 : Nat), kptr l] (.int .i64 (kN l 1)) []) ∧ ((0 : Int) ≤ (12 : Int)) ∧ (decide (Go.bits Go.BinOp.and IntKind.i64 (Int.fdiv (kN l (1 : Nat)) ((2 : Int) ^ (12 : Nat))) (3 : Int) > (0 : Int)) = false) ∧ (decide (Go.bits Go.BinOp.and IntKind.i64 (Int.fdiv (kN l (1 : Nat)) ((2 : Int) ^ (12 : Nat))) (3 : Int) > (0 : Int)) = false) ∧ (decide (Go.bits Go.BinOp.and IntKind.i64 (Int.fdiv (kN l (1 : Nat)) ((2 : Int) ^ (12 : Nat))) (3 : Int) > (0 : Int)) = false) ∧ (decide (Go.bits Go.BinOp.and IntKind.i64 (Int.fdiv (kN l (1 : Nat)) ((2 : Int) ^ (12 : Nat))) (3 : Int) > (0 : Int)) = false) ∧ (decide (Go.bits Go.BinOp.and IntKind.i64 (Int.fdiv (kN l (1 : Nat)) ((2 : Int) ^ (12 : Nat))) (3 : Int) > (0 : Int)) = false) ∧ (decide (Go.bits Go.BinOp.and IntKind.i64 (Int.fdiv (kN l (1 : Nat)) ((2 : Int) ^ (12 : Nat))) (3 : Int) > (0 : Int)) = false) ∧ ((0 : Int) = (↑(0 : Nat) : Int)) ∧ (List.length l = List.length l) ∧ (∀ (i : Nat), i < List.length l → ∀ (j : Nat), j < (1 : Nat) → AV.int IntKind.i64 (List.getD l i (0 : Int)) = AV.int IntKind.i64 (List.getD l i (0 : Int))) ∧ (PureC Try.prog 26 [.int .i64 ((0 : Nat) : Int), kptr l] (.int .i64 (kN l 0)) []) ∧ ((0 : Int) ≤ (12 : Int)) ∧ (inK IntKind.i64 (Go.bits Go.BinOp.and IntKind.i64 (Int.fdiv (kN l (0 : Nat)) ((2 : Int) ^ (12 : Nat))) (3 : Int) + (2 : Int))) ∧ (frS8m8 W l ((frS8m9  (cS8m0 l n ∧ ((0 : Int) = (↑(0 : Nat) : Int)) ∧ (Ok Try.prog (ntOf Try.prog 9) (.loop (lpC Try.prog 9 1)) (mk2 W (winN l) l (mK W l 4) ([] : List Mm) n 0).st (.ext 3) (mk2 W (winN l) l (mK W l 4) ([] : List Mm) n (n + 1)).st) ∧ (frS8m8 W l ((frS8m7 n ((∀ (i : Nat), i < List.length (lbL (n + (1 : Nat))) → ∀ (j : Nat), j < (2 : Nat) → rowL lbC (lbL (n + (1 : Nat))) i j = rowL lbC (lbL (n + (1 : Nat))) i j) ∧ ((0 : Nat) = (0 : Nat)) ∧ ((↑n : Int) = (↑n : Int)) ∧ ((0 : Int) = (↑(0 : Nat) : Int)) ∧ (Ok Try.prog (ntOf Try.prog 9) (.loop (lpC Try.prog 9 2)) (mk3 W (winN l) l (mK W l 4) ([] : List Mm) n 0).st (.ext 5) (mk3 W (winN l) l (mK W l 4) ([] : List Mm) n n).st) ∧ (frS8m6 W l n ((frS8m5 W l n ((List.length (inL l n n) = List.length (inL l n n)) ∧ True))))))))))))))) (by kernel_rfl)
    ⟨(by first | omega | rfl),
 rfl,
 (fun _ _ _ _ => rfl),
 kC l 0 (by omega),
 (by rw [hW1]; exact in64 (by omega) (by omega)),
 (by first | omega | rfl),
 rfl,
 (fun _ _ _ _ => rfl),
 kC l 0 (by omega),
 (by first | omega | rfl),
 (by first | omega | rfl | (simp; done) | (simp; omega)),
 (in_tm _ _ (by omega) (by omega)),
 rfl,
 (fun _ _ _ _ => rfl),
 hW1,
 (by first | omega | rfl | (simp; done) | (simp; omega)), (frS8m10_mk  ⟨(by first | omega | rfl),
 m1_loop W (winN l) l hW,
 (by first | omega | rfl),
 rfl,
 (fun _ _ _ _ => rfl),
 kC l 1 (by omega),
 (by first | omega | rfl),
 (by first | exact c1f | (rw [hW1]; exact c1f) | (simpa [hW1] using c1f)),
 (by first | omega | rfl),
 rfl,
 (fun _ _ _ _ => rfl),
 kC l 1 (by omega),
 (by first | omega | rfl),
 (by first | exact c4f | (rw [hW1]; exact c4f) | (simpa [hW1] using c4f)),
 (by first | exact c4f | (rw [hW1]; exact c4f) | (simpa [hW1] using c4f)),
 (by first | exact c4f | (rw [hW1]; exact c4f) | (simpa [hW1] using c4f)),
 (by first | exact c4f | (rw [hW1]; exact c4f) | (simpa [hW1] using c4f)),
 (by first | exact c4f | (rw [hW1]; exact c4f) | (simpa [hW1] using c4f)),
 (by first | exact c4f | (rw [hW1]; exact c4f) | (simpa [hW1] using c4f)),
 (by first | omega | rfl),
 rfl,
 (fun _ _ _ _ => rfl),
 kC l 0 (by omega),
 (by first | omega | rfl),
 (by rw [hn1]; exact in64 (by omega) (by omega)), (frS8m8_mk W l (frS8m9_mk  ⟨hn1,
 (by first | omega | rfl),
 m2_loop W (winN l) l (mK W l 4) ([] : List Mm) n hn, (frS8m8_mk W l (frS8m7_mk n ⟨(fun _ _ _ _ => rfl),
 rfl,
 rfl,
 (by first | omega | rfl),
 m3_loop W (winN l) l (mK W l 4) ([] : List Mm) n hn, (frS8m6_mk W l n (frS8m5_mk W l n ⟨rfl, trivial⟩))⟩))⟩))⟩)⟩
theorem mk_F_TF (W : Int) (l : List Int) (n : Nat) (hW1 : bits .and .i64 (kN l 0) 1 + 1 = W) (hW : 1 ≤ W ∧ W ≤ 2) (hn1 : bits .and .i64 (Int.fdiv (kN l 0) (2 ^ 12)) 3 + 2 = (n : Int)) (hn : n < 6) (c1f : (decide (bits .and .i64 (Int.fdiv (kN l 1) (2 ^ 8)) 3 > 0)) = false) (c4t : (decide (bits .and .i64 (Int.fdiv (kN l 1) (2 ^ 12)) 3 > 0)) = true) (c5f : (decide ((mK W l 4).s + W ≤ 3)) = false) : Vc (vcFn Try.prog false 9 [.row 1 l.length (rowI l)] [.cl [.int .i64 ((0 : Nat) : Int), kptr l] (.int .i64 (kN l 0)) [], .cl [.int .i64 ((0 : Nat) : Int), kptr l] (.int .i64 (kN l 0)) [], .lp [(0, 0), (1, 1), (2, 2)] (mk1 W (winN l) l ⟨0, 0, 0, 0, 0, 0⟩ 0) (.ext 0) (mk1 W (winN l) l (mK W l 4) 4), .cl [.int .i64 (1 : Nat), kptr l] (.int .i64 (kN l 1)) [], .b false, .cl [.int .i64 (1 : Nat), kptr l] (.int .i64 (kN l 1)) [], .b true, .b true, .b true, .b true, .b true, .b true, .b false, .b false, .b false, .b false, .b false, .b false, .b false, .cl [.int .i64 ((0 : Nat) : Int), kptr l] (.int .i64 (kN l 0)) [], .lp [(0, 0), (1, 1), (2, 2)] (mk2 W (winN l) l (mK W l 4) ([] : List Mm) n 0) (.ext 3) (mk2 W (winN l) l (mK W l 4) ([] : List Mm) n (n + 1)), .lp [(0, 0), (1, 1), (2, 2), (3, 3), (4, 4)] (mk3 W (winN l) l (mK W l 4) ([] : List Mm) n 0) (.ext 5) (mk3 W (winN l) l (mK W l 4) ([] : List Mm) n n)] [(0, 3), (1, 4), (2, 5)] (.agg [.int .i64 W, .int .i64 (winN l), .int .i64 6, .int .i64 (mK W l 4).r0, .int .i64 (mK W l 4).r1, .int .i64 (mK W l 4).r2, .int .i64 (mK W l 4).r3, .own 0 0 3 0 ([] : List Mm).length, .own 1 0 2 0 (lbL (n + 1)).length, .own 2 0 9 0 (inL l n n).length]) [mmB ([] : List Mm), lbB (lbL (n + 1)), inB (inL l n n)]) :=
  vc_of (q := ((0 : Int) = (↑(0 : Nat) : Int)) ∧ (List.length l = List.length l) ∧ (∀ (i : Nat), i < List.length l → ∀ (j : Nat), j < (1 : Nat) → AV.int IntKind.i64 (List.getD l i (0 : Int)) = AV.int IntKind.i64 (List.getD l i (0 : Int))) ∧ (PureC Try.prog 26 [.int .i64 ((0 : Nat) : Int), kptr l] (.int .i64 (kN l 0)) []) ∧ (inK IntKind.i64 (Go.bits Go.BinOp.and IntKind.i64 (kN l (0 : Nat)) (1 : Int) + (1 : Int))) ∧ ((0 : Int) = (↑(0 : Nat) : Int)) ∧ (List.length l = List.length l) ∧ (∀ (i : Nat), i < List.length l → ∀ (j : Nat), j < (1 : Nat) → AV.int IntKind.i64 (List.getD l i (0 : Int)) = AV.int IntKind.i64 (List.getD l i (0 : Int))) ∧ (PureC Try.prog 26 [.int .i64 ((0 : Nat) : Int), kptr l] (.int .i64 (kN l 0)) []) ∧ ((0 : Int) ≤ (1 : Int)) ∧ ((3 : Int) ≠ (0 : Int)) ∧ (inK IntKind.i64 (Int.tmod (Go.bits Go.BinOp.and IntKind.i64 (Int.fdiv (kN l (0 : Nat)) ((2 : Int) ^ (1 : Nat))) (255 : Int)) (3 : Int) + (1 : Int))) ∧ (List.length l = List.length l) ∧ (∀ (i : Nat), i < List.length l → ∀ (j : Nat), j < (1 : Nat) → AV.int IntKind.i64 (List.getD l i (0 : Int)) = AV.int IntKind.i64 (List.getD l i (0 : Int))) ∧ cS8m2 W l ∧ (Int.tmod (Go.bits Go.BinOp.and IntKind.i64 (Int.fdiv (kN l (0 : Nat)) ((2 : Int) ^ (1 : Nat))) (255 : Int)) (3 : Int) + (1 : Int) = winN l) ∧ (frS8m10  (((0 : Int) = (↑(0 : Nat) : Int)) ∧ cS8m1 W l ∧ ((1 : Int) = (↑(1 : Nat) : Int)) ∧ (List.length l = List.length l) ∧ (∀ (i : Nat), i < List.length l → ∀ (j : Nat), j < (1 : Nat) → AV.int IntKind.i64 (List.getD l i (0 : Int)) = AV.int IntKind.i64 (List.getD l i (0 : Int))) ∧ (PureC Try.prog 26 [.int .i64 (1 : Nat), kptr l] (.int .i64 (kN l 1)) []) ∧ ((0 : Int) ≤ (8 : Int)) ∧ (decide (Go.bits Go.BinOp.and IntKind.i64 (Int.fdiv (kN l (1 : Nat)) ((2 : Int) ^ (8 : Nat))) (3 : Int) > (0 : Int)) = false) ∧ ((1 : Int) = (↑(1 : Nat) : Int)) ∧ (List.length l = List.length l) ∧ (∀ (i : Nat), i < List.length l → ∀ (j : Nat), j < (1 : Nat) → AV.int IntKind.i64 (List.getD l i (0 : Int)) = AV.int IntKind.i64 (List.getD l i (0 : Int))) ∧ (PureC Try.prog 26 [.int .i64 (1 : Nat), kptr l] (.int .i64 (kN l 1)) []) ∧ ((0 : Int) ≤ (12 : Int)) ∧ (decide (Go.bits Go.BinOp.and IntKind.i64 (Int.fdiv (kN l (1 : Nat)) ((2 : Int) ^ (12 : Nat))) (3 : Int) > (0 : Int)) = true) ∧ (decide (Go.bits Go.BinOp.and IntKind.i64 (Int.fdiv (kN l (1 : Nat)) ((2 : Int) ^ (12 : Nat))) (3 : Int) > (0 : Int)) = true) ∧ (decide (Go.bits Go.BinOp.and IntKind.i64 (Int.fdiv (kN l (1 : Nat)) ((2 : Int) ^ (12 : Nat))) (3 : Int) > (0 : Int)) = true) ∧ (decide (Go.bits Go.BinOp.and IntKind.i64 (Int.fdiv (kN l (1 : Nat)) ((2 : Int) ^ (12 : Nat))) (3 : Int) > (0 : Int)) = true) ∧ (inK IntKind.i64 (M1.s (mK W l (4 : Nat)) + W)) ∧ (decide (Go.bits Go.BinOp.and IntKind.i64 (Int.fdiv (kN l (1 : Nat)) ((2 : Int) ^ (12 : Nat))) (3 : Int) > (0 : Int)) = true) ∧ (decide (Go.bits Go.BinOp.and IntKind.i64 (Int.fdiv (kN l (1 : Nat)) ((2 : Int) ^ (12 : Nat))) (3 : Int) > (0 : Int)) = true) ∧ (decide (M1.s (mK W l (4 : Nat)) + W ≤ (3 : Int)) = false) ∧ (decide (M1.s (mK W l (4 : Nat)) + W ≤ (3 : Int)) = false) ∧ (decide (M1.s (mK W l (4 : Nat)) + W ≤ (3 : Int)) = false) ∧ (decide (M1.s (mK W l (4 : Nat)) + W ≤ (3 : Int)) = false) ∧ (decide (M1.s (mK W l (4 : Nat)) + W ≤ (3 : Int)) = false) ∧ (decide (M1.s (mK W l (4 : Nat)) + W ≤ (3 : Int)) = false) ∧ (decide (M1.s (mK W l (4 : Nat)) + W ≤ (3 : Int)) = false) ∧ ((0 : Int) = (↑(0 : Nat) : Int)) ∧ (List.length l = List.length l) ∧ (∀ (i : Nat), i < List.length l → ∀ (j : Nat), j < (1 : Nat) → AV.int IntKind.i64 (List.getD l i (0 : Int)) = AV.int IntKind.i64 (List.getD l i (0 : Int))) ∧ (PureC Try.prog 26 [.int .i64 ((0 : Nat) : Int), kptr l] (.int .i64 (kN l 0)) []) ∧ ((0 : Int) ≤ (12 : Int)) ∧ (inK IntKind.i64 (Go.bits Go.BinOp.and IntKind.i64 (Int.fdiv (kN l (0 : Nat)) ((2 : Int) ^ (12 : Nat))) (3 : Int) + (2 : Int))) ∧ (frS8m8 W l ((frS8m9  (cS8m0 l n ∧ ((0 : Int) = (↑(0 : Nat) : Int)) ∧ (Ok Try.prog (ntOf Try.prog 9) (.loop (lpC Try.prog 9 1)) (mk2 W (winN l) l (mK W l 4) ([] : List Mm) n 0).st (.ext 3) (mk2 W (winN l) l (mK W l 4) ([] : List Mm) n (n + 1)).st) ∧ (frS8m8 W l ((frS8m7 n ((∀ (i : Nat), i < List.length (lbL (n + (1 : Nat))) → ∀ (j : Nat), j < (2 : Nat) → rowL lbC (lbL (n + (1 : Nat))) i j = rowL lbC (lbL (n + (1 : Nat))) i j) ∧ ((0 : Nat) = (0 : Nat)) ∧ ((↑n : Int) = (↑n : Int)) ∧ ((0 : Int) = (↑(0 : Nat) : Int)) ∧ (Ok Try.prog (ntOf Try.prog 9) (.loop (lpC Try.prog 9 2)) (mk3 W (winN l) l (mK W l 4) ([] : List Mm) n 0).st (.ext 5) (mk3 W (winN l) l (mK W l 4) ([] : List Mm) n n).st) ∧ (frS8m6 W l n ((frS8m5 W l n ((List.length (inL l n n) = List.length (inL l n n)) ∧ True))))))))))))))) (by kernel_rfl)
    ⟨(by first | omega | rfl),
 rfl,
 (fun _ _ _ _ => rfl),
 kC l 0 (by omega),
 (by rw [hW1]; exact in64 (by omega) (by omega)),
 (by first | omega | rfl),
 rfl,
 (fun _ _ _ _ => rfl),
 kC l 0 (by omega),
 (by first | omega | rfl),
 (by first | omega | rfl | (simp; done) | (simp; omega)),
 (in_tm _ _ (by omega) (by omega)),
 rfl,
 (fun _ _ _ _ => rfl),
 hW1,
 (by first | omega | rfl | (simp; done) | (simp; omega)), (frS8m10_mk  ⟨(by first | omega | rfl),
 m1_loop W (winN l) l hW,
 (by first | omega | rfl),
 rfl,
 (fun _ _ _ _ => rfl),
 kC l 1 (by omega),
 (by first | omega | rfl),
 (by first | exact c1f | (rw [hW1]; exact c1f) | (simpa [hW1] using c1f)),
 (by first | omega | rfl),
 rfl,
 (fun _ _ _ _ => rfl),
 kC l 1 (by omega),
 (by first | omega | rfl),
 (by first | exact c4t | (rw [hW1]; exact c4t) | (simpa [hW1] using c4t)),
 (by first | exact c4t | (rw [hW1]; exact c4t) | (simpa [hW1] using c4t)),
 (by first | exact c4t | (rw [hW1]; exact c4t) | (simpa [hW1] using c4t)),
 (by first | exact c4t | (rw [hW1]; exact c4t) | (simpa [hW1] using c4t)),
 (in64 (by have := (mK_bd hW l 4).2; omega) (by have := (mK_bd hW l 4).2; omega)),
 (by first | exact c4t | (rw [hW1]; exact c4t) | (simpa [hW1] using c4t)),
 (by first | exact c4t | (rw [hW1]; exact c4t) | (simpa [hW1] using c4t)),
 (by first | exact c5f | (rw [hW1]; exact c5f) | (simpa [hW1] using c5f)),
 (by first | exact c5f | (rw [hW1]; exact c5f) | (simpa [hW1] using c5f)),
 (by first | exact c5f | (rw [hW1]; exact c5f) | (simpa [hW1] using c5f)),
 (by first | exact c5f | (rw [hW1]; exact c5f) | (simpa [hW1] using c5f)),
 (by first | exact c5f | (rw [hW1]; exact c5f) | (simpa [hW1] using c5f)),
 (by first | exact c5f | (rw [hW1]; exact c5f) | (simpa [hW1] using c5f)),
 (by first | exact c5f | (rw [hW1]; exact c5f) | (simpa [hW1] using c5f)),
 (by first | omega | rfl),
 rfl,
 (fun _ _ _ _ => rfl),
 kC l 0 (by omega),
 (by first | omega | rfl),
 (by rw [hn1]; exact in64 (by omega) (by omega)), (frS8m8_mk W l (frS8m9_mk  ⟨hn1,
 (by first | omega | rfl),
 m2_loop W (winN l) l (mK W l 4) ([] : List Mm) n hn, (frS8m8_mk W l (frS8m7_mk n ⟨(fun _ _ _ _ => rfl),
 rfl,
 rfl,
 (by first | omega | rfl),
 m3_loop W (winN l) l (mK W l 4) ([] : List Mm) n hn, (frS8m6_mk W l n (frS8m5_mk W l n ⟨rfl, trivial⟩))⟩))⟩))⟩)⟩
def frS8m11  (Z : Prop) : Prop := ((0 : Nat) = (0 : Nat)) ∧ ((1 : Nat) = (1 : Nat)) ∧ ((0 : Nat) = (0 : Nat)) ∧ ((0 : Nat) = (0 : Nat)) ∧ ((1 : Nat) = (1 : Nat)) ∧ Z
theorem frS8m11_mk  {Z : Prop} (z : Z) : frS8m11  Z := ⟨rfl, rfl, rfl, rfl, rfl, z⟩
theorem mk_F_TT (W : Int) (l : List Int) (n : Nat) (hW1 : bits .and .i64 (kN l 0) 1 + 1 = W) (hW : 1 ≤ W ∧ W ≤ 2) (hn1 : bits .and .i64 (Int.fdiv (kN l 0) (2 ^ 12)) 3 + 2 = (n : Int)) (hn : n < 6) (c1f : (decide (bits .and .i64 (Int.fdiv (kN l 1) (2 ^ 8)) 3 > 0)) = false) (c4t : (decide (bits .and .i64 (Int.fdiv (kN l 1) (2 ^ 12)) 3 > 0)) = true) (c5t : (decide ((mK W l 4).s + W ≤ 3)) = true) : Vc (vcFn Try.prog false 9 [.row 1 l.length (rowI l)] [.cl [.int .i64 ((0 : Nat) : Int), kptr l] (.int .i64 (kN l 0)) [], .cl [.int .i64 ((0 : Nat) : Int), kptr l] (.int .i64 (kN l 0)) [], .lp [(0, 0), (1, 1), (2, 2)] (mk1 W (winN l) l ⟨0, 0, 0, 0, 0, 0⟩ 0) (.ext 0) (mk1 W (winN l) l (mK W l 4) 4), .cl [.int .i64 (1 : Nat), kptr l] (.int .i64 (kN l 1)) [], .b false, .cl [.int .i64 (1 : Nat), kptr l] (.int .i64 (kN l 1)) [], .b true, .b true, .b true, .b true, .b true, .b true, .b true, .b true, .b true, .b true, .b true, .b true, .b true, .b true, .b true, .b true, .b true, .b true, .b true, .b true, .cl [.int .i64 ((0 : Nat) : Int), kptr l] (.int .i64 (kN l 0)) [], .lp [(0, 0), (1, 1), (2, 2), (3, 4)] (mk2 W (winN l) l (mK W l 4) ([ms1] : List Mm) n 0) (.ext 3) (mk2 W (winN l) l (mK W l 4) ([ms1] : List Mm) n (n + 1)), .lp [(0, 0), (1, 1), (2, 2), (3, 3), (4, 4)] (mk3 W (winN l) l (mK W l 4) ([ms1] : List Mm) n 0) (.ext 5) (mk3 W (winN l) l (mK W l 4) ([ms1] : List Mm) n n)] [(0, 3), (1, 4), (2, 5)] (.agg [.int .i64 W, .int .i64 (winN l), .int .i64 6, .int .i64 (mK W l 4).r0, .int .i64 (mK W l 4).r1, .int .i64 (mK W l 4).r2, .int .i64 (mK W l 4).r3, .own 0 0 3 0 ([ms1] : List Mm).length, .own 1 0 2 0 (lbL (n + 1)).length, .own 2 0 9 0 (inL l n n).length]) [mmB ([ms1] : List Mm), lbB (lbL (n + 1)), inB (inL l n n)]) :=
  vc_of (q := ((0 : Int) = (↑(0 : Nat) : Int)) ∧ (List.length l = List.length l) ∧ (∀ (i : Nat), i < List.length l → ∀ (j : Nat), j < (1 : Nat) → AV.int IntKind.i64 (List.getD l i (0 : Int)) = AV.int IntKind.i64 (List.getD l i (0 : Int))) ∧ (PureC Try.prog 26 [.int .i64 ((0 : Nat) : Int), kptr l] (.int .i64 (kN l 0)) []) ∧ (inK IntKind.i64 (Go.bits Go.BinOp.and IntKind.i64 (kN l (0 : Nat)) (1 : Int) + (1 : Int))) ∧ ((0 : Int) = (↑(0 : Nat) : Int)) ∧ (List.length l = List.length l) ∧ (∀ (i : Nat), i < List.length l → ∀ (j : Nat), j < (1 : Nat) → AV.int IntKind.i64 (List.getD l i (0 : Int)) = AV.int IntKind.i64 (List.getD l i (0 : Int))) ∧ (PureC Try.prog 26 [.int .i64 ((0 : Nat) : Int), kptr l] (.int .i64 (kN l 0)) []) ∧ ((0 : Int) ≤ (1 : Int)) ∧ ((3 : Int) ≠ (0 : Int)) ∧ (inK IntKind.i64 (Int.tmod (Go.bits Go.BinOp.and IntKind.i64 (Int.fdiv (kN l (0 : Nat)) ((2 : Int) ^ (1 : Nat))) (255 : Int)) (3 : Int) + (1 : Int))) ∧ (List.length l = List.length l) ∧ (∀ (i : Nat), i < List.length l → ∀ (j : Nat), j < (1 : Nat) → AV.int IntKind.i64 (List.getD l i (0 : Int)) = AV.int IntKind.i64 (List.getD l i (0 : Int))) ∧ cS8m2 W l ∧ (Int.tmod (Go.bits Go.BinOp.and IntKind.i64 (Int.fdiv (kN l (0 : Nat)) ((2 : Int) ^ (1 : Nat))) (255 : Int)) (3 : Int) + (1 : Int) = winN l) ∧ (frS8m10  (((0 : Int) = (↑(0 : Nat) : Int)) ∧ cS8m1 W l ∧ ((1 : Int) = (↑(1 : Nat) : Int)) ∧ (List.length l = List.length l) ∧ (∀ (i : Nat), i < List.length l → ∀ (j : Nat), j < (1 : Nat) → AV.int IntKind.i64 (List.getD l i (0 : Int)) = AV.int IntKind.i64 (List.getD l i (0 : Int))) ∧ (PureC Try.prog 26 [.int .i64 (1 : Nat), kptr l] (.int .i64 (kN l 1)) []) ∧ ((0 : Int) ≤ (8 : Int)) ∧ (decide (Go.bits Go.BinOp.and IntKind.i64 (Int.fdiv (kN l (1 : Nat)) ((2 : Int) ^ (8 : Nat))) (3 : Int) > (0 : Int)) = false) ∧ ((1 : Int) = (↑(1 : Nat) : Int)) ∧ (List.length l = List.length l) ∧ (∀ (i : Nat), i < List.length l → ∀ (j : Nat), j < (1 : Nat) → AV.int IntKind.i64 (List.getD l i (0 : Int)) = AV.int IntKind.i64 (List.getD l i (0 : Int))) ∧ (PureC Try.prog 26 [.int .i64 (1 : Nat), kptr l] (.int .i64 (kN l 1)) []) ∧ ((0 : Int) ≤ (12 : Int)) ∧ (decide (Go.bits Go.BinOp.and IntKind.i64 (Int.fdiv (kN l (1 : Nat)) ((2 : Int) ^ (12 : Nat))) (3 : Int) > (0 : Int)) = true) ∧ (decide (Go.bits Go.BinOp.and IntKind.i64 (Int.fdiv (kN l (1 : Nat)) ((2 : Int) ^ (12 : Nat))) (3 : Int) > (0 : Int)) = true) ∧ (decide (Go.bits Go.BinOp.and IntKind.i64 (Int.fdiv (kN l (1 : Nat)) ((2 : Int) ^ (12 : Nat))) (3 : Int) > (0 : Int)) = true) ∧ (decide (Go.bits Go.BinOp.and IntKind.i64 (Int.fdiv (kN l (1 : Nat)) ((2 : Int) ^ (12 : Nat))) (3 : Int) > (0 : Int)) = true) ∧ (inK IntKind.i64 (M1.s (mK W l (4 : Nat)) + W)) ∧ (decide (Go.bits Go.BinOp.and IntKind.i64 (Int.fdiv (kN l (1 : Nat)) ((2 : Int) ^ (12 : Nat))) (3 : Int) > (0 : Int)) = true) ∧ (decide (Go.bits Go.BinOp.and IntKind.i64 (Int.fdiv (kN l (1 : Nat)) ((2 : Int) ^ (12 : Nat))) (3 : Int) > (0 : Int)) = true) ∧ (decide (M1.s (mK W l (4 : Nat)) + W ≤ (3 : Int)) = true) ∧ (decide (M1.s (mK W l (4 : Nat)) + W ≤ (3 : Int)) = true) ∧ (decide (M1.s (mK W l (4 : Nat)) + W ≤ (3 : Int)) = true) ∧ (decide (M1.s (mK W l (4 : Nat)) + W ≤ (3 : Int)) = true) ∧ (decide (M1.s (mK W l (4 : Nat)) + W ≤ (3 : Int)) = true) ∧ (((0 : Int) == (0 : Int)) = true) ∧ (((0 : Int) == (0 : Int)) = true) ∧ (((0 : Int) == (0 : Int)) = true) ∧ (((0 : Int) == (0 : Int)) = true) ∧ (((0 : Int) == (0 : Int)) = true) ∧ (((0 : Int) == (0 : Int)) = true) ∧ (decide (M1.s (mK W l (4 : Nat)) + W ≤ (3 : Int)) = true) ∧ (((0 : Int) == (0 : Int)) = true) ∧ (decide (M1.s (mK W l (4 : Nat)) + W ≤ (3 : Int)) = true) ∧ ((32 : Nat) ≤ (140737488355328 : Nat) ∧ (1 : Nat) ≤ (140737488355328 : Nat)) ∧ ((0 : Int) = (↑(0 : Nat) : Int)) ∧ (List.length l = List.length l) ∧ (∀ (i : Nat), i < List.length l → ∀ (j : Nat), j < (1 : Nat) → AV.int IntKind.i64 (List.getD l i (0 : Int)) = AV.int IntKind.i64 (List.getD l i (0 : Int))) ∧ (PureC Try.prog 26 [.int .i64 ((0 : Nat) : Int), kptr l] (.int .i64 (kN l 0)) []) ∧ ((0 : Int) ≤ (12 : Int)) ∧ (inK IntKind.i64 (Go.bits Go.BinOp.and IntKind.i64 (Int.fdiv (kN l (0 : Nat)) ((2 : Int) ^ (12 : Nat))) (3 : Int) + (2 : Int))) ∧ (frS8m8 W l ((frS8m11  ((∀ (i : Nat), i < (1 : Nat) → ∀ (j : Nat), j < (3 : Nat) → List.getD [AV.str (ByteArray.mk (Array.mk [(115 : UInt8)])), AV.bool true, AV.int IntKind.i64 (1 : Int)] ((i + (0 : Nat)) * (3 : Nat) + j) AV.junk = rowL mmC [ms1] i j) ∧ ((0 : Nat) = (0 : Nat)) ∧ cS8m0 l n ∧ ((0 : Int) = (↑(0 : Nat) : Int)) ∧ (Ok Try.prog (ntOf Try.prog 9) (.loop (lpC Try.prog 9 1)) (mk2 W (winN l) l (mK W l 4) ([ms1] : List Mm) n 0).st (.ext 3) (mk2 W (winN l) l (mK W l 4) ([ms1] : List Mm) n (n + 1)).st) ∧ (frS8m8 W l (((0 : Nat) = (0 : Nat)) ∧ ((1 : Nat) = (1 : Nat)) ∧ ((0 : Nat) = (0 : Nat)) ∧ (List.length (lbL (n + (1 : Nat))) = List.length (lbL (n + (1 : Nat)))) ∧ ((0 : Nat) = (0 : Nat)) ∧ ((0 : Nat) = (0 : Nat)) ∧ ((1 : Nat) = (1 : Nat)) ∧ (∀ (i : Nat), i < (1 : Nat) → ∀ (j : Nat), j < (3 : Nat) → rowL mmC [ms1] i j = rowL mmC [ms1] i j) ∧ (List.length (lbL (n + (1 : Nat))) = List.length (lbL (n + (1 : Nat)))) ∧ (∀ (i : Nat), i < List.length (lbL (n + (1 : Nat))) → ∀ (j : Nat), j < (2 : Nat) → rowL lbC (lbL (n + (1 : Nat))) i j = rowL lbC (lbL (n + (1 : Nat))) i j) ∧ ((0 : Nat) = (0 : Nat)) ∧ ((↑n : Int) = (↑n : Int)) ∧ ((0 : Int) = (↑(0 : Nat) : Int)) ∧ (Ok Try.prog (ntOf Try.prog 9) (.loop (lpC Try.prog 9 2)) (mk3 W (winN l) l (mK W l 4) ([ms1] : List Mm) n 0).st (.ext 5) (mk3 W (winN l) l (mK W l 4) ([ms1] : List Mm) n n).st) ∧ ((1 : Nat) = (1 : Nat)) ∧ (∀ (i : Nat), i < (1 : Nat) → ∀ (j : Nat), j < (3 : Nat) → rowL mmC [ms1] i j = rowL mmC [ms1] i j) ∧ (List.length (lbL (n + (1 : Nat))) = List.length (lbL (n + (1 : Nat)))) ∧ (∀ (i : Nat), i < List.length (lbL (n + (1 : Nat))) → ∀ (j : Nat), j < (2 : Nat) → rowL lbC (lbL (n + (1 : Nat))) i j = rowL lbC (lbL (n + (1 : Nat))) i j) ∧ (List.length (inL l n n) = List.length (inL l n n)) ∧ (∀ (i : Nat), i < List.length (inL l n n) → ∀ (j : Nat), j < (9 : Nat) → rowL inC (inL l n n) i j = rowL inC (inL l n n) i j) ∧ (W = W) ∧ (winN l = winN l) ∧ ((6 : Int) = (6 : Int)) ∧ (M1.r0 (mK W l (4 : Nat)) = M1.r0 (mK W l (4 : Nat))) ∧ (M1.r1 (mK W l (4 : Nat)) = M1.r1 (mK W l (4 : Nat))) ∧ (M1.r2 (mK W l (4 : Nat)) = M1.r2 (mK W l (4 : Nat))) ∧ (M1.r3 (mK W l (4 : Nat)) = M1.r3 (mK W l (4 : Nat))) ∧ ((0 : Nat) = (0 : Nat)) ∧ ((1 : Nat) = (1 : Nat)) ∧ ((0 : Nat) = (0 : Nat)) ∧ (List.length (lbL (n + (1 : Nat))) = List.length (lbL (n + (1 : Nat)))) ∧ ((0 : Nat) = (0 : Nat)) ∧ (List.length (inL l n n) = List.length (inL l n n)) ∧ True))))))))) (by kernel_rfl)
    ⟨(by first | omega | rfl),
 rfl,
 (fun _ _ _ _ => rfl),
 kC l 0 (by omega),
 (by rw [hW1]; exact in64 (by omega) (by omega)),
 (by first | omega | rfl),
 rfl,
 (fun _ _ _ _ => rfl),
 kC l 0 (by omega),
 (by first | omega | rfl),
 (by first | omega | rfl | (simp; done) | (simp; omega)),
 (in_tm _ _ (by omega) (by omega)),
 rfl,
 (fun _ _ _ _ => rfl),
 hW1,
 (by first | omega | rfl | (simp; done) | (simp; omega)), (frS8m10_mk  ⟨(by first | omega | rfl),
 m1_loop W (winN l) l hW,
 (by first | omega | rfl),
 rfl,
 (fun _ _ _ _ => rfl),
 kC l 1 (by omega),
 (by first | omega | rfl),
 (by first | exact c1f | (rw [hW1]; exact c1f) | (simpa [hW1] using c1f)),
 (by first | omega | rfl),
 rfl,
 (fun _ _ _ _ => rfl),
 kC l 1 (by omega),
 (by first | omega | rfl),
 (by first | exact c4t | (rw [hW1]; exact c4t) | (simpa [hW1] using c4t)),
 (by first | exact c4t | (rw [hW1]; exact c4t) | (simpa [hW1] using c4t)),
 (by first | exact c4t | (rw [hW1]; exact c4t) | (simpa [hW1] using c4t)),
 (by first | exact c4t | (rw [hW1]; exact c4t) | (simpa [hW1] using c4t)),
 (in64 (by have := (mK_bd hW l 4).2; omega) (by have := (mK_bd hW l 4).2; omega)),
 (by first | exact c4t | (rw [hW1]; exact c4t) | (simpa [hW1] using c4t)),
 (by first | exact c4t | (rw [hW1]; exact c4t) | (simpa [hW1] using c4t)),
 (by first | exact c5t | (rw [hW1]; exact c5t) | (simpa [hW1] using c5t)),
 (by first | exact c5t | (rw [hW1]; exact c5t) | (simpa [hW1] using c5t)),
 (by first | exact c5t | (rw [hW1]; exact c5t) | (simpa [hW1] using c5t)),
 (by first | exact c5t | (rw [hW1]; exact c5t) | (simpa [hW1] using c5t)),
 (by first | exact c5t | (rw [hW1]; exact c5t) | (simpa [hW1] using c5t)),
 (by first | omega | rfl | (simp; done) | (simp; omega)),
 (by first | omega | rfl | (simp; done) | (simp; omega)),
 (by first | omega | rfl | (simp; done) | (simp; omega)),
 (by first | omega | rfl | (simp; done) | (simp; omega)),
 (by first | omega | rfl | (simp; done) | (simp; omega)),
 (by first | omega | rfl | (simp; done) | (simp; omega)),
 (by first | exact c5t | (rw [hW1]; exact c5t) | (simpa [hW1] using c5t)),
 (by first | omega | rfl | (simp; done) | (simp; omega)),
 (by first | exact c5t | (rw [hW1]; exact c5t) | (simpa [hW1] using c5t)),
 (by first | omega | rfl),
 (by first | omega | rfl),
 rfl,
 (fun _ _ _ _ => rfl),
 kC l 0 (by omega),
 (by first | omega | rfl),
 (by rw [hn1]; exact in64 (by omega) (by omega)), (frS8m8_mk W l (frS8m11_mk  ⟨(fun i hi j hj => match i, hi, j, hj with | 0, _, 0, _ => rfl | 0, _, 1, _ => rfl | 0, _, 2, _ => rfl),
 rfl,
 hn1,
 (by first | omega | rfl),
 m2_loop W (winN l) l (mK W l 4) ([ms1] : List Mm) n hn, (frS8m8_mk W l ⟨rfl,
 rfl,
 rfl,
 rfl,
 rfl,
 rfl,
 rfl,
 (fun _ _ _ _ => rfl),
 rfl,
 (fun _ _ _ _ => rfl),
 rfl,
 rfl,
 (by first | omega | rfl),
 m3_loop W (winN l) l (mK W l 4) ([ms1] : List Mm) n hn,
 rfl,
 (fun _ _ _ _ => rfl),
 rfl,
 (fun _ _ _ _ => rfl),
 rfl,
 (fun _ _ _ _ => rfl),
 rfl,
 rfl,
 rfl,
 rfl,
 rfl,
 rfl,
 rfl,
 rfl,
 rfl,
 rfl,
 rfl,
 rfl,
 rfl, trivial⟩)⟩))⟩)⟩
def frS8m12 (W : Int) (l : List Int) (n : Nat) (Z : Prop) : Prop := (M1.r0 (mK W l (4 : Nat)) = M1.r0 (mK W l (4 : Nat))) ∧ (M1.r1 (mK W l (4 : Nat)) = M1.r1 (mK W l (4 : Nat))) ∧ (M1.r2 (mK W l (4 : Nat)) = M1.r2 (mK W l (4 : Nat))) ∧ (M1.r3 (mK W l (4 : Nat)) = M1.r3 (mK W l (4 : Nat))) ∧ ((0 : Nat) = (0 : Nat)) ∧ ((1 : Nat) = (1 : Nat)) ∧ ((0 : Nat) = (0 : Nat)) ∧ (List.length (lbL (n + (1 : Nat))) = List.length (lbL (n + (1 : Nat)))) ∧ ((0 : Nat) = (0 : Nat)) ∧ Z
theorem frS8m12_mk (W : Int) (l : List Int) (n : Nat) {Z : Prop} (z : Z) : frS8m12 W l n Z := ⟨rfl, rfl, rfl, rfl, rfl, rfl, rfl, rfl, rfl, z⟩
def frS8m13 (W : Int) (l : List Int) (n : Nat) (Z : Prop) : Prop := ((1 : Nat) = (1 : Nat)) ∧ (∀ (i : Nat), i < (1 : Nat) → ∀ (j : Nat), j < (3 : Nat) → rowL mmC [mm1] i j = rowL mmC [mm1] i j) ∧ (List.length (lbL (n + (1 : Nat))) = List.length (lbL (n + (1 : Nat)))) ∧ (∀ (i : Nat), i < List.length (lbL (n + (1 : Nat))) → ∀ (j : Nat), j < (2 : Nat) → rowL lbC (lbL (n + (1 : Nat))) i j = rowL lbC (lbL (n + (1 : Nat))) i j) ∧ (List.length (inL l n n) = List.length (inL l n n)) ∧ (∀ (i : Nat), i < List.length (inL l n n) → ∀ (j : Nat), j < (9 : Nat) → rowL inC (inL l n n) i j = rowL inC (inL l n n) i j) ∧ (W = W) ∧ (winN l = winN l) ∧ ((6 : Int) = (6 : Int)) ∧ Z
theorem frS8m13_mk (W : Int) (l : List Int) (n : Nat) {Z : Prop} (z : Z) : frS8m13 W l n Z := ⟨rfl, (fun _ _ _ _ => rfl), rfl, (fun _ _ _ _ => rfl), rfl, (fun _ _ _ _ => rfl), rfl, rfl, rfl, z⟩
def frS8m14 (n : Nat) (Z : Prop) : Prop := ((0 : Nat) = (0 : Nat)) ∧ ((1 : Nat) = (1 : Nat)) ∧ ((0 : Nat) = (0 : Nat)) ∧ (List.length (lbL (n + (1 : Nat))) = List.length (lbL (n + (1 : Nat)))) ∧ ((0 : Nat) = (0 : Nat)) ∧ ((0 : Nat) = (0 : Nat)) ∧ ((1 : Nat) = (1 : Nat)) ∧ (∀ (i : Nat), i < (1 : Nat) → ∀ (j : Nat), j < (3 : Nat) → rowL mmC [mm1] i j = rowL mmC [mm1] i j) ∧ (List.length (lbL (n + (1 : Nat))) = List.length (lbL (n + (1 : Nat)))) ∧ Z
theorem frS8m14_mk (n : Nat) {Z : Prop} (z : Z) : frS8m14 n Z := ⟨rfl, rfl, rfl, rfl, rfl, rfl, rfl, (fun _ _ _ _ => rfl), rfl, z⟩
theorem mk_TF_F (W : Int) (l : List Int) (n : Nat) (hW1 : bits .and .i64 (kN l 0) 1 + 1 = W) (hW : 1 ≤ W ∧ W ≤ 2) (hn1 : bits .and .i64 (Int.fdiv (kN l 0) (2 ^ 12)) 3 + 2 = (n : Int)) (hn : n < 6) (c1t : (decide (bits .and .i64 (Int.fdiv (kN l 1) (2 ^ 8)) 3 > 0)) = true) (c2f : (W == 1) = false) (c4f : (decide (bits .and .i64 (Int.fdiv (kN l 1) (2 ^ 12)) 3 > 0)) = false) : Vc (vcFn Try.prog false 9 [.row 1 l.length (rowI l)] [.cl [.int .i64 ((0 : Nat) : Int), kptr l] (.int .i64 (kN l 0)) [], .cl [.int .i64 ((0 : Nat) : Int), kptr l] (.int .i64 (kN l 0)) [], .lp [(0, 0), (1, 1), (2, 2)] (mk1 W (winN l) l ⟨0, 0, 0, 0, 0, 0⟩ 0) (.ext 0) (mk1 W (winN l) l (mK W l 4) 4), .cl [.int .i64 (1 : Nat), kptr l] (.int .i64 (kN l 1)) [], .b true, .b false, .b false, .b false, .b false, .b false, .b false, .b false, .cl [.int .i64 (1 : Nat), kptr l] (.int .i64 (kN l 1)) [], .b false, .b false, .b false, .b false, .b false, .b false, .cl [.int .i64 ((0 : Nat) : Int), kptr l] (.int .i64 (kN l 0)) [], .lp [(0, 0), (1, 1), (2, 2), (3, 4)] (mk2 W (winN l) l (mK W l 4) ([mm1] : List Mm) n 0) (.ext 3) (mk2 W (winN l) l (mK W l 4) ([mm1] : List Mm) n (n + 1)), .lp [(0, 0), (1, 1), (2, 2), (3, 3), (4, 4)] (mk3 W (winN l) l (mK W l 4) ([mm1] : List Mm) n 0) (.ext 5) (mk3 W (winN l) l (mK W l 4) ([mm1] : List Mm) n n)] [(0, 3), (1, 4), (2, 5)] (.agg [.int .i64 W, .int .i64 (winN l), .int .i64 6, .int .i64 (mK W l 4).r0, .int .i64 (mK W l 4).r1, .int .i64 (mK W l 4).r2, .int .i64 (mK W l 4).r3, .own 0 0 3 0 ([mm1] : List Mm).length, .own 1 0 2 0 (lbL (n + 1)).length, .own 2 0 9 0 (inL l n n).length]) [mmB ([mm1] : List Mm), lbB (lbL (n + 1)), inB (inL l n n)]) :=
  vc_of (q := ((0 : Int) = (↑(0 : Nat) : Int)) ∧ (List.length l = List.length l) ∧ (∀ (i : Nat), i < List.length l → ∀ (j : Nat), j < (1 : Nat) → AV.int IntKind.i64 (List.getD l i (0 : Int)) = AV.int IntKind.i64 (List.getD l i (0 : Int))) ∧ (PureC Try.prog 26 [.int .i64 ((0 : Nat) : Int), kptr l] (.int .i64 (kN l 0)) []) ∧ (inK IntKind.i64 (Go.bits Go.BinOp.and IntKind.i64 (kN l (0 : Nat)) (1 : Int) + (1 : Int))) ∧ ((0 : Int) = (↑(0 : Nat) : Int)) ∧ (List.length l = List.length l) ∧ (∀ (i : Nat), i < List.length l → ∀ (j : Nat), j < (1 : Nat) → AV.int IntKind.i64 (List.getD l i (0 : Int)) = AV.int IntKind.i64 (List.getD l i (0 : Int))) ∧ (PureC Try.prog 26 [.int .i64 ((0 : Nat) : Int), kptr l] (.int .i64 (kN l 0)) []) ∧ ((0 : Int) ≤ (1 : Int)) ∧ ((3 : Int) ≠ (0 : Int)) ∧ (inK IntKind.i64 (Int.tmod (Go.bits Go.BinOp.and IntKind.i64 (Int.fdiv (kN l (0 : Nat)) ((2 : Int) ^ (1 : Nat))) (255 : Int)) (3 : Int) + (1 : Int))) ∧ (List.length l = List.length l) ∧ (∀ (i : Nat), i < List.length l → ∀ (j : Nat), j < (1 : Nat) → AV.int IntKind.i64 (List.getD l i (0 : Int)) = AV.int IntKind.i64 (List.getD l i (0 : Int))) ∧ cS8m2 W l ∧ (Int.tmod (Go.bits Go.BinOp.and IntKind.i64 (Int.fdiv (kN l (0 : Nat)) ((2 : Int) ^ (1 : Nat))) (255 : Int)) (3 : Int) + (1 : Int) = winN l) ∧ (frS8m10  (((0 : Int) = (↑(0 : Nat) : Int)) ∧ cS8m1 W l ∧ ((1 : Int) = (↑(1 : Nat) : Int)) ∧ (List.length l = List.length l) ∧ (∀ (i : Nat), i < List.length l → ∀ (j : Nat), j < (1 : Nat) → AV.int IntKind.i64 (List.getD l i (0 : Int)) = AV.int IntKind.i64 (List.getD l i (0 : Int))) ∧ (PureC Try.prog 26 [.int .i64 (1 : Nat), kptr l] (.int .i64 (kN l 1)) []) ∧ ((0 : Int) ≤ (8 : Int)) ∧ (decide (Go.bits Go.BinOp.and IntKind.i64 (Int.fdiv (kN l (1 : Nat)) ((2 : Int) ^ (8 : Nat))) (3 : Int) > (0 : Int)) = true) ∧ ((32 : Nat) ≤ (140737488355328 : Nat) ∧ (1 : Nat) ≤ (140737488355328 : Nat)) ∧ ((W == (1 : Int)) = false) ∧ ((W == (1 : Int)) = false) ∧ ((W == (1 : Int)) = false) ∧ ((W == (1 : Int)) = false) ∧ ((W == (1 : Int)) = false) ∧ ((W == (1 : Int)) = false) ∧ (false = false) ∧ ((1 : Int) = (↑(1 : Nat) : Int)) ∧ (List.length l = List.length l) ∧ (∀ (i : Nat), i < List.length l → ∀ (j : Nat), j < (1 : Nat) → AV.int IntKind.i64 (List.getD l i (0 : Int)) = AV.int IntKind.i64 (List.getD l i (0 : Int))) ∧ (PureC Try.prog 26 [.int .i64 (1 : Nat), kptr l] (.int .i64 (kN l 1)) []) ∧ ((0 : Int) ≤ (12 : Int)) ∧ (decide (Go.bits Go.BinOp.and IntKind.i64 (Int.fdiv (kN l (1 : Nat)) ((2 : Int) ^ (12 : Nat))) (3 : Int) > (0 : Int)) = false) ∧ (decide (Go.bits Go.BinOp.and IntKind.i64 (Int.fdiv (kN l (1 : Nat)) ((2 : Int) ^ (12 : Nat))) (3 : Int) > (0 : Int)) = false) ∧ (decide (Go.bits Go.BinOp.and IntKind.i64 (Int.fdiv (kN l (1 : Nat)) ((2 : Int) ^ (12 : Nat))) (3 : Int) > (0 : Int)) = false) ∧ (decide (Go.bits Go.BinOp.and IntKind.i64 (Int.fdiv (kN l (1 : Nat)) ((2 : Int) ^ (12 : Nat))) (3 : Int) > (0 : Int)) = false) ∧ (decide (Go.bits Go.BinOp.and IntKind.i64 (Int.fdiv (kN l (1 : Nat)) ((2 : Int) ^ (12 : Nat))) (3 : Int) > (0 : Int)) = false) ∧ (decide (Go.bits Go.BinOp.and IntKind.i64 (Int.fdiv (kN l (1 : Nat)) ((2 : Int) ^ (12 : Nat))) (3 : Int) > (0 : Int)) = false) ∧ ((0 : Int) = (↑(0 : Nat) : Int)) ∧ (List.length l = List.length l) ∧ (∀ (i : Nat), i < List.length l → ∀ (j : Nat), j < (1 : Nat) → AV.int IntKind.i64 (List.getD l i (0 : Int)) = AV.int IntKind.i64 (List.getD l i (0 : Int))) ∧ (PureC Try.prog 26 [.int .i64 ((0 : Nat) : Int), kptr l] (.int .i64 (kN l 0)) []) ∧ ((0 : Int) ≤ (12 : Int)) ∧ (inK IntKind.i64 (Go.bits Go.BinOp.and IntKind.i64 (Int.fdiv (kN l (0 : Nat)) ((2 : Int) ^ (12 : Nat))) (3 : Int) + (2 : Int))) ∧ (frS8m8 W l ((frS8m11  ((∀ (i : Nat), i < (1 : Nat) → ∀ (j : Nat), j < (3 : Nat) → List.getD [AV.str (ByteArray.mk (Array.mk [(109 : UInt8)])), AV.bool false, AV.int IntKind.i64 (1 : Int)] ((i + (0 : Nat)) * (3 : Nat) + j) AV.junk = rowL mmC [mm1] i j) ∧ ((0 : Nat) = (0 : Nat)) ∧ cS8m0 l n ∧ ((0 : Int) = (↑(0 : Nat) : Int)) ∧ (Ok Try.prog (ntOf Try.prog 9) (.loop (lpC Try.prog 9 1)) (mk2 W (winN l) l (mK W l 4) ([mm1] : List Mm) n 0).st (.ext 3) (mk2 W (winN l) l (mK W l 4) ([mm1] : List Mm) n (n + 1)).st) ∧ (frS8m8 W l ((frS8m14 n ((∀ (i : Nat), i < List.length (lbL (n + (1 : Nat))) → ∀ (j : Nat), j < (2 : Nat) → rowL lbC (lbL (n + (1 : Nat))) i j = rowL lbC (lbL (n + (1 : Nat))) i j) ∧ ((0 : Nat) = (0 : Nat)) ∧ ((↑n : Int) = (↑n : Int)) ∧ ((0 : Int) = (↑(0 : Nat) : Int)) ∧ (Ok Try.prog (ntOf Try.prog 9) (.loop (lpC Try.prog 9 2)) (mk3 W (winN l) l (mK W l 4) ([mm1] : List Mm) n 0).st (.ext 5) (mk3 W (winN l) l (mK W l 4) ([mm1] : List Mm) n n).st) ∧ (frS8m13 W l n ((frS8m12 W l n ((List.length (inL l n n) = List.length (inL l n n)) ∧ True))))))))))))))) (by kernel_rfl)
    ⟨(by first | omega | rfl),
 rfl,
 (fun _ _ _ _ => rfl),
 kC l 0 (by omega),
 (by rw [hW1]; exact in64 (by omega) (by omega)),
 (by first | omega | rfl),
 rfl,
 (fun _ _ _ _ => rfl),
 kC l 0 (by omega),
 (by first | omega | rfl),
 (by first | omega | rfl | (simp; done) | (simp; omega)),
 (in_tm _ _ (by omega) (by omega)),
 rfl,
 (fun _ _ _ _ => rfl),
 hW1,
 (by first | omega | rfl | (simp; done) | (simp; omega)), (frS8m10_mk  ⟨(by first | omega | rfl),
 m1_loop W (winN l) l hW,
 (by first | omega | rfl),
 rfl,
 (fun _ _ _ _ => rfl),
 kC l 1 (by omega),
 (by first | omega | rfl),
 (by first | exact c1t | (rw [hW1]; exact c1t) | (simpa [hW1] using c1t)),
 (by first | omega | rfl),
 (by first | exact c2f | (rw [hW1]; exact c2f) | (simpa [hW1] using c2f)),
 (by first | exact c2f | (rw [hW1]; exact c2f) | (simpa [hW1] using c2f)),
 (by first | exact c2f | (rw [hW1]; exact c2f) | (simpa [hW1] using c2f)),
 (by first | exact c2f | (rw [hW1]; exact c2f) | (simpa [hW1] using c2f)),
 (by first | exact c2f | (rw [hW1]; exact c2f) | (simpa [hW1] using c2f)),
 (by first | exact c2f | (rw [hW1]; exact c2f) | (simpa [hW1] using c2f)),
 rfl,
 (by first | omega | rfl),
 rfl,
 (fun _ _ _ _ => rfl),
 kC l 1 (by omega),
 (by first | omega | rfl),
 (by first | exact c4f | (rw [hW1]; exact c4f) | (simpa [hW1] using c4f)),
 (by first | exact c4f | (rw [hW1]; exact c4f) | (simpa [hW1] using c4f)),
 (by first | exact c4f | (rw [hW1]; exact c4f) | (simpa [hW1] using c4f)),
 (by first | exact c4f | (rw [hW1]; exact c4f) | (simpa [hW1] using c4f)),
 (by first | exact c4f | (rw [hW1]; exact c4f) | (simpa [hW1] using c4f)),
 (by first | exact c4f | (rw [hW1]; exact c4f) | (simpa [hW1] using c4f)),
 (by first | omega | rfl),
 rfl,
 (fun _ _ _ _ => rfl),
 kC l 0 (by omega),
 (by first | omega | rfl),
 (by rw [hn1]; exact in64 (by omega) (by omega)), (frS8m8_mk W l (frS8m11_mk  ⟨(fun i hi j hj => match i, hi, j, hj with | 0, _, 0, _ => rfl | 0, _, 1, _ => rfl | 0, _, 2, _ => rfl),
 rfl,
 hn1,
 (by first | omega | rfl),
 m2_loop W (winN l) l (mK W l 4) ([mm1] : List Mm) n hn, (frS8m8_mk W l (frS8m14_mk n ⟨(fun _ _ _ _ => rfl),
 rfl,
 rfl,
 (by first | omega | rfl),
 m3_loop W (winN l) l (mK W l 4) ([mm1] : List Mm) n hn, (frS8m13_mk W l n (frS8m12_mk W l n ⟨rfl, trivial⟩))⟩))⟩))⟩)⟩
theorem mk_TF_TF (W : Int) (l : List Int) (n : Nat) (hW1 : bits .and .i64 (kN l 0) 1 + 1 = W) (hW : 1 ≤ W ∧ W ≤ 2) (hn1 : bits .and .i64 (Int.fdiv (kN l 0) (2 ^ 12)) 3 + 2 = (n : Int)) (hn : n < 6) (c1t : (decide (bits .and .i64 (Int.fdiv (kN l 1) (2 ^ 8)) 3 > 0)) = true) (c2f : (W == 1) = false) (c4t : (decide (bits .and .i64 (Int.fdiv (kN l 1) (2 ^ 12)) 3 > 0)) = true) (c5f : (decide ((mK W l 4).s + W ≤ 3)) = false) : Vc (vcFn Try.prog false 9 [.row 1 l.length (rowI l)] [.cl [.int .i64 ((0 : Nat) : Int), kptr l] (.int .i64 (kN l 0)) [], .cl [.int .i64 ((0 : Nat) : Int), kptr l] (.int .i64 (kN l 0)) [], .lp [(0, 0), (1, 1), (2, 2)] (mk1 W (winN l) l ⟨0, 0, 0, 0, 0, 0⟩ 0) (.ext 0) (mk1 W (winN l) l (mK W l 4) 4), .cl [.int .i64 (1 : Nat), kptr l] (.int .i64 (kN l 1)) [], .b true, .b false, .b false, .b false, .b false, .b false, .b false, .b false, .cl [.int .i64 (1 : Nat), kptr l] (.int .i64 (kN l 1)) [], .b true, .b true, .b true, .b true, .b true, .b true, .b false, .b false, .b false, .b false, .b false, .b false, .b false, .cl [.int .i64 ((0 : Nat) : Int), kptr l] (.int .i64 (kN l 0)) [], .lp [(0, 0), (1, 1), (2, 2), (3, 4)] (mk2 W (winN l) l (mK W l 4) ([mm1] : List Mm) n 0) (.ext 3) (mk2 W (winN l) l (mK W l 4) ([mm1] : List Mm) n (n + 1)), .lp [(0, 0), (1, 1), (2, 2), (3, 3), (4, 4)] (mk3 W (winN l) l (mK W l 4) ([mm1] : List Mm) n 0) (.ext 5) (mk3 W (winN l) l (mK W l 4) ([mm1] : List Mm) n n)] [(0, 3), (1, 4), (2, 5)] (.agg [.int .i64 W, .int .i64 (winN l), .int .i64 6, .int .i64 (mK W l 4).r0, .int .i64 (mK W l 4).r1, .int .i64 (mK W l 4).r2, .int .i64 (mK W l 4).r3, .own 0 0 3 0 ([mm1] : List Mm).length, .own 1 0 2 0 (lbL (n + 1)).length, .own 2 0 9 0 (inL l n n).length]) [mmB ([mm1] : List Mm), lbB (lbL (n + 1)), inB (inL l n n)]) :=
  vc_of (q := ((0 : Int) = (↑(0 : Nat) : Int)) ∧ (List.length l = List.length l) ∧ (∀ (i : Nat), i < List.length l → ∀ (j : Nat), j < (1 : Nat) → AV.int IntKind.i64 (List.getD l i (0 : Int)) = AV.int IntKind.i64 (List.getD l i (0 : Int))) ∧ (PureC Try.prog 26 [.int .i64 ((0 : Nat) : Int), kptr l] (.int .i64 (kN l 0)) []) ∧ (inK IntKind.i64 (Go.bits Go.BinOp.and IntKind.i64 (kN l (0 : Nat)) (1 : Int) + (1 : Int))) ∧ ((0 : Int) = (↑(0 : Nat) : Int)) ∧ (List.length l = List.length l) ∧ (∀ (i : Nat), i < List.length l → ∀ (j : Nat), j < (1 : Nat) → AV.int IntKind.i64 (List.getD l i (0 : Int)) = AV.int IntKind.i64 (List.getD l i (0 : Int))) ∧ (PureC Try.prog 26 [.int .i64 ((0 : Nat) : Int), kptr l] (.int .i64 (kN l 0)) []) ∧ ((0 : Int) ≤ (1 : Int)) ∧ ((3 : Int) ≠ (0 : Int)) ∧ (inK IntKind.i64 (Int.tmod (Go.bits Go.BinOp.and IntKind.i64 (Int.fdiv (kN l (0 : Nat)) ((2 : Int) ^ (1 : Nat))) (255 : Int)) (3 : Int) + (1 : Int))) ∧ (List.length l = List.length l) ∧ (∀ (i : Nat), i < List.length l → ∀ (j : Nat), j < (1 : Nat) → AV.int IntKind.i64 (List.getD l i (0 : Int)) = AV.int IntKind.i64 (List.getD l i (0 : Int))) ∧ cS8m2 W l ∧ (Int.tmod (Go.bits Go.BinOp.and IntKind.i64 (Int.fdiv (kN l (0 : Nat)) ((2 : Int) ^ (1 : Nat))) (255 : Int)) (3 : Int) + (1 : Int) = winN l) ∧ (frS8m10  (((0 : Int) = (↑(0 : Nat) : Int)) ∧ cS8m1 W l ∧ ((1 : Int) = (↑(1 : Nat) : Int)) ∧ (List.length l = List.length l) ∧ (∀ (i : Nat), i < List.length l → ∀ (j : Nat), j < (1 : Nat) → AV.int IntKind.i64 (List.getD l i (0 : Int)) = AV.int IntKind.i64 (List.getD l i (0 : Int))) ∧ (PureC Try.prog 26 [.int .i64 (1 : Nat), kptr l] (.int .i64 (kN l 1)) []) ∧ ((0 : Int) ≤ (8 : Int)) ∧ (decide (Go.bits Go.BinOp.and IntKind.i64 (Int.fdiv (kN l (1 : Nat)) ((2 : Int) ^ (8 : Nat))) (3 : Int) > (0 : Int)) = true) ∧ ((32 : Nat) ≤ (140737488355328 : Nat) ∧ (1 : Nat) ≤ (140737488355328 : Nat)) ∧ ((W == (1 : Int)) = false) ∧ ((W == (1 : Int)) = false) ∧ ((W == (1 : Int)) = false) ∧ ((W == (1 : Int)) = false) ∧ ((W == (1 : Int)) = false) ∧ ((W == (1 : Int)) = false) ∧ (false = false) ∧ ((1 : Int) = (↑(1 : Nat) : Int)) ∧ (List.length l = List.length l) ∧ (∀ (i : Nat), i < List.length l → ∀ (j : Nat), j < (1 : Nat) → AV.int IntKind.i64 (List.getD l i (0 : Int)) = AV.int IntKind.i64 (List.getD l i (0 : Int))) ∧ (PureC Try.prog 26 [.int .i64 (1 : Nat), kptr l] (.int .i64 (kN l 1)) []) ∧ ((0 : Int) ≤ (12 : Int)) ∧ (decide (Go.bits Go.BinOp.and IntKind.i64 (Int.fdiv (kN l (1 : Nat)) ((2 : Int) ^ (12 : Nat))) (3 : Int) > (0 : Int)) = true) ∧ (decide (Go.bits Go.BinOp.and IntKind.i64 (Int.fdiv (kN l (1 : Nat)) ((2 : Int) ^ (12 : Nat))) (3 : Int) > (0 : Int)) = true) ∧ (decide (Go.bits Go.BinOp.and IntKind.i64 (Int.fdiv (kN l (1 : Nat)) ((2 : Int) ^ (12 : Nat))) (3 : Int) > (0 : Int)) = true) ∧ (decide (Go.bits Go.BinOp.and IntKind.i64 (Int.fdiv (kN l (1 : Nat)) ((2 : Int) ^ (12 : Nat))) (3 : Int) > (0 : Int)) = true) ∧ (inK IntKind.i64 (M1.s (mK W l (4 : Nat)) + W)) ∧ (decide (Go.bits Go.BinOp.and IntKind.i64 (Int.fdiv (kN l (1 : Nat)) ((2 : Int) ^ (12 : Nat))) (3 : Int) > (0 : Int)) = true) ∧ (decide (Go.bits Go.BinOp.and IntKind.i64 (Int.fdiv (kN l (1 : Nat)) ((2 : Int) ^ (12 : Nat))) (3 : Int) > (0 : Int)) = true) ∧ (decide (M1.s (mK W l (4 : Nat)) + W ≤ (3 : Int)) = false) ∧ (decide (M1.s (mK W l (4 : Nat)) + W ≤ (3 : Int)) = false) ∧ (decide (M1.s (mK W l (4 : Nat)) + W ≤ (3 : Int)) = false) ∧ (decide (M1.s (mK W l (4 : Nat)) + W ≤ (3 : Int)) = false) ∧ (decide (M1.s (mK W l (4 : Nat)) + W ≤ (3 : Int)) = false) ∧ (decide (M1.s (mK W l (4 : Nat)) + W ≤ (3 : Int)) = false) ∧ (decide (M1.s (mK W l (4 : Nat)) + W ≤ (3 : Int)) = false) ∧ ((0 : Int) = (↑(0 : Nat) : Int)) ∧ (List.length l = List.length l) ∧ (∀ (i : Nat), i < List.length l → ∀ (j : Nat), j < (1 : Nat) → AV.int IntKind.i64 (List.getD l i (0 : Int)) = AV.int IntKind.i64 (List.getD l i (0 : Int))) ∧ (PureC Try.prog 26 [.int .i64 ((0 : Nat) : Int), kptr l] (.int .i64 (kN l 0)) []) ∧ ((0 : Int) ≤ (12 : Int)) ∧ (inK IntKind.i64 (Go.bits Go.BinOp.and IntKind.i64 (Int.fdiv (kN l (0 : Nat)) ((2 : Int) ^ (12 : Nat))) (3 : Int) + (2 : Int))) ∧ (frS8m8 W l ((frS8m11  ((∀ (i : Nat), i < (1 : Nat) → ∀ (j : Nat), j < (3 : Nat) → List.getD [AV.str (ByteArray.mk (Array.mk [(109 : UInt8)])), AV.bool false, AV.int IntKind.i64 (1 : Int)] ((i + (0 : Nat)) * (3 : Nat) + j) AV.junk = rowL mmC [mm1] i j) ∧ ((0 : Nat) = (0 : Nat)) ∧ cS8m0 l n ∧ ((0 : Int) = (↑(0 : Nat) : Int)) ∧ (Ok Try.prog (ntOf Try.prog 9) (.loop (lpC Try.prog 9 1)) (mk2 W (winN l) l (mK W l 4) ([mm1] : List Mm) n 0).st (.ext 3) (mk2 W (winN l) l (mK W l 4) ([mm1] : List Mm) n (n + 1)).st) ∧ (frS8m8 W l ((frS8m14 n ((∀ (i : Nat), i < List.length (lbL (n + (1 : Nat))) → ∀ (j : Nat), j < (2 : Nat) → rowL lbC (lbL (n + (1 : Nat))) i j = rowL lbC (lbL (n + (1 : Nat))) i j) ∧ ((0 : Nat) = (0 : Nat)) ∧ ((↑n : Int) = (↑n : Int)) ∧ ((0 : Int) = (↑(0 : Nat) : Int)) ∧ (Ok Try.prog (ntOf Try.prog 9) (.loop (lpC Try.prog 9 2)) (mk3 W (winN l) l (mK W l 4) ([mm1] : List Mm) n 0).st (.ext 5) (mk3 W (winN l) l (mK W l 4) ([mm1] : List Mm) n n).st) ∧ (frS8m13 W l n ((frS8m12 W l n ((List.length (inL l n n) = List.length (inL l n n)) ∧ True))))))))))))))) (by kernel_rfl)
    ⟨(by first | omega | rfl),
 rfl,
 (fun _ _ _ _ => rfl),
 kC l 0 (by omega),
 (by rw [hW1]; exact in64 (by omega) (by omega)),
 (by first | omega | rfl),
 rfl,
 (fun _ _ _ _ => rfl),
 kC l 0 (by omega),
 (by first | omega | rfl),
 (by first | omega | rfl | (simp; done) | (simp; omega)),
 (in_tm _ _ (by omega) (by omega)),
 rfl,
 (fun _ _ _ _ => rfl),
 hW1,
 (by first | omega | rfl | (simp; done) | (simp; omega)), (frS8m10_mk  ⟨(by first | omega | rfl),
 m1_loop W (winN l) l hW,
 (by first | omega | rfl),
 rfl,
 (fun _ _ _ _ => rfl),
 kC l 1 (by omega),
 (by first | omega | rfl),
 (by first | exact c1t | (rw [hW1]; exact c1t) | (simpa [hW1] using c1t)),
 (by first | omega | rfl),
 (by first | exact c2f | (rw [hW1]; exact c2f) | (simpa [hW1] using c2f)),
 (by first | exact c2f | (rw [hW1]; exact c2f) | (simpa [hW1] using c2f)),
 (by first | exact c2f | (rw [hW1]; exact c2f) | (simpa [hW1] using c2f)),
 (by first | exact c2f | (rw [hW1]; exact c2f) | (simpa [hW1] using c2f)),
 (by first | exact c2f | (rw [hW1]; exact c2f) | (simpa [hW1] using c2f)),
 (by first | exact c2f | (rw [hW1]; exact c2f) | (simpa [hW1] using c2f)),
 rfl,
 (by first | omega | rfl),
 rfl,
 (fun _ _ _ _ => rfl),
 kC l 1 (by omega),
 (by first | omega | rfl),
 (by first | exact c4t | (rw [hW1]; exact c4t) | (simpa [hW1] using c4t)),
 (by first | exact c4t | (rw [hW1]; exact c4t) | (simpa [hW1] using c4t)),
 (by first | exact c4t | (rw [hW1]; exact c4t) | (simpa [hW1] using c4t)),
 (by first | exact c4t | (rw [hW1]; exact c4t) | (simpa [hW1] using c4t)),
 (in64 (by have := (mK_bd hW l 4).2; omega) (by have := (mK_bd hW l 4).2; omega)),
 (by first | exact c4t | (rw [hW1]; exact c4t) | (simpa [hW1] using c4t)),
 (by first | exact c4t | (rw [hW1]; exact c4t) | (simpa [hW1] using c4t)),
 (by first | exact c5f | (rw [hW1]; exact c5f) | (simpa [hW1] using c5f)),
 (by first | exact c5f | (rw [hW1]; exact c5f) | (simpa [hW1] using c5f)),
 (by first | exact c5f | (rw [hW1]; exact c5f) | (simpa [hW1] using c5f)),
 (by first | exact c5f | (rw [hW1]; exact c5f) | (simpa [hW1] using c5f)),
 (by first | exact c5f | (rw [hW1]; exact c5f) | (simpa [hW1] using c5f)),
 (by first | exact c5f | (rw [hW1]; exact c5f) | (simpa [hW1] using c5f)),
 (by first | exact c5f | (rw [hW1]; exact c5f) | (simpa [hW1] using c5f)),
 (by first | omega | rfl),
 rfl,
 (fun _ _ _ _ => rfl),
 kC l 0 (by omega),
 (by first | omega | rfl),
 (by rw [hn1]; exact in64 (by omega) (by omega)), (frS8m8_mk W l (frS8m11_mk  ⟨(fun i hi j hj => match i, hi, j, hj with | 0, _, 0, _ => rfl | 0, _, 1, _ => rfl | 0, _, 2, _ => rfl),
 rfl,
 hn1,
 (by first | omega | rfl),
 m2_loop W (winN l) l (mK W l 4) ([mm1] : List Mm) n hn, (frS8m8_mk W l (frS8m14_mk n ⟨(fun _ _ _ _ => rfl),
 rfl,
 rfl,
 (by first | omega | rfl),
 m3_loop W (winN l) l (mK W l 4) ([mm1] : List Mm) n hn, (frS8m13_mk W l n (frS8m12_mk W l n ⟨rfl, trivial⟩))⟩))⟩))⟩)⟩
def frS8m15 (W : Int) (l : List Int) (n : Nat) (Z : Prop) : Prop := (M1.r0 (mK W l (4 : Nat)) = M1.r0 (mK W l (4 : Nat))) ∧ (M1.r1 (mK W l (4 : Nat)) = M1.r1 (mK W l (4 : Nat))) ∧ (M1.r2 (mK W l (4 : Nat)) = M1.r2 (mK W l (4 : Nat))) ∧ (M1.r3 (mK W l (4 : Nat)) = M1.r3 (mK W l (4 : Nat))) ∧ ((0 : Nat) = (0 : Nat)) ∧ ((2 : Nat) = (2 : Nat)) ∧ ((0 : Nat) = (0 : Nat)) ∧ (List.length (lbL (n + (1 : Nat))) = List.length (lbL (n + (1 : Nat)))) ∧ ((0 : Nat) = (0 : Nat)) ∧ Z
theorem frS8m15_mk (W : Int) (l : List Int) (n : Nat) {Z : Prop} (z : Z) : frS8m15 W l n Z := ⟨rfl, rfl, rfl, rfl, rfl, rfl, rfl, rfl, rfl, z⟩
def frS8m16 (W : Int) (l : List Int) (n : Nat) (Z : Prop) : Prop := ((2 : Nat) = (2 : Nat)) ∧ (∀ (i : Nat), i < (2 : Nat) → ∀ (j : Nat), j < (3 : Nat) → rowL mmC [mm1, ms1] i j = rowL mmC [mm1, ms1] i j) ∧ (List.length (lbL (n + (1 : Nat))) = List.length (lbL (n + (1 : Nat)))) ∧ (∀ (i : Nat), i < List.length (lbL (n + (1 : Nat))) → ∀ (j : Nat), j < (2 : Nat) → rowL lbC (lbL (n + (1 : Nat))) i j = rowL lbC (lbL (n + (1 : Nat))) i j) ∧ (List.length (inL l n n) = List.length (inL l n n)) ∧ (∀ (i : Nat), i < List.length (inL l n n) → ∀ (j : Nat), j < (9 : Nat) → rowL inC (inL l n n) i j = rowL inC (inL l n n) i j) ∧ (W = W) ∧ (winN l = winN l) ∧ ((6 : Int) = (6 : Int)) ∧ Z
theorem frS8m16_mk (W : Int) (l : List Int) (n : Nat) {Z : Prop} (z : Z) : frS8m16 W l n Z := ⟨rfl, (fun _ _ _ _ => rfl), rfl, (fun _ _ _ _ => rfl), rfl, (fun _ _ _ _ => rfl), rfl, rfl, rfl, z⟩
def frS8m17 (n : Nat) (Z : Prop) : Prop := ((0 : Nat) = (0 : Nat)) ∧ ((2 : Nat) = (2 : Nat)) ∧ ((0 : Nat) = (0 : Nat)) ∧ (List.length (lbL (n + (1 : Nat))) = List.length (lbL (n + (1 : Nat)))) ∧ ((0 : Nat) = (0 : Nat)) ∧ ((0 : Nat) = (0 : Nat)) ∧ ((2 : Nat) = (2 : Nat)) ∧ (∀ (i : Nat), i < (2 : Nat) → ∀ (j : Nat), j < (3 : Nat) → rowL mmC [mm1, ms1] i j = rowL mmC [mm1, ms1] i j) ∧ (List.length (lbL (n + (1 : Nat))) = List.length (lbL (n + (1 : Nat)))) ∧ Z
theorem frS8m17_mk (n : Nat) {Z : Prop} (z : Z) : frS8m17 n Z := ⟨rfl, rfl, rfl, rfl, rfl, rfl, rfl, (fun _ _ _ _ => rfl), rfl, z⟩
def frS8m18  (Z : Prop) : Prop := ((0 : Nat) = (0 : Nat)) ∧ ((2 : Nat) = (2 : Nat)) ∧ ((0 : Nat) = (0 : Nat)) ∧ ((0 : Nat) = (0 : Nat)) ∧ ((2 : Nat) = (2 : Nat)) ∧ Z
theorem frS8m18_mk  {Z : Prop} (z : Z) : frS8m18  Z := ⟨rfl, rfl, rfl, rfl, rfl, z⟩
theorem mk_TF_TT (W : Int) (l : List Int) (n : Nat) (hW1 : bits .and .i64 (kN l 0) 1 + 1 = W) (hW : 1 ≤ W ∧ W ≤ 2) (hn1 : bits .and .i64 (Int.fdiv (kN l 0) (2 ^ 12)) 3 + 2 = (n : Int)) (hn : n < 6) (c1t : (decide (bits .and .i64 (Int.fdiv (kN l 1) (2 ^ 8)) 3 > 0)) = true) (c2f : (W == 1) = false) (c4t : (decide (bits .and .i64 (Int.fdiv (kN l 1) (2 ^ 12)) 3 > 0)) = true) (c5t : (decide ((mK W l 4).s + W ≤ 3)) = true) : Vc (vcFn Try.prog false 9 [.row 1 l.length (rowI l)] [.cl [.int .i64 ((0 : Nat) : Int), kptr l] (.int .i64 (kN l 0)) [], .cl [.int .i64 ((0 : Nat) : Int), kptr l] (.int .i64 (kN l 0)) [], .lp [(0, 0), (1, 1), (2, 2)] (mk1 W (winN l) l ⟨0, 0, 0, 0, 0, 0⟩ 0) (.ext 0) (mk1 W (winN l) l (mK W l 4) 4), .cl [.int .i64 (1 : Nat), kptr l] (.int .i64 (kN l 1)) [], .b true, .b false, .b false, .b false, .b false, .b false, .b false, .b false, .cl [.int .i64 (1 : Nat), kptr l] (.int .i64 (kN l 1)) [], .b true, .b true, .b true, .b true, .b true, .b true, .b true, .b true, .b true, .b true, .b true, .b false, .b false, .b false, .b false, .b false, .b false, .b true, .b false, .b true, .cl [.int .i64 ((0 : Nat) : Int), kptr l] (.int .i64 (kN l 0)) [], .lp [(0, 0), (1, 1), (2, 2), (3, 4)] (mk2 W (winN l) l (mK W l 4) ([mm1, ms1] : List Mm) n 0) (.ext 3) (mk2 W (winN l) l (mK W l 4) ([mm1, ms1] : List Mm) n (n + 1)), .lp [(0, 0), (1, 1), (2, 2), (3, 3), (4, 4)] (mk3 W (winN l) l (mK W l 4) ([mm1, ms1] : List Mm) n 0) (.ext 5) (mk3 W (winN l) l (mK W l 4) ([mm1, ms1] : List Mm) n n)] [(0, 3), (1, 4), (2, 5)] (.agg [.int .i64 W, .int .i64 (winN l), .int .i64 6, .int .i64 (mK W l 4).r0, .int .i64 (mK W l 4).r1, .int .i64 (mK W l 4).r2, .int .i64 (mK W l 4).r3, .own 0 0 3 0 ([mm1, ms1] : List Mm).length, .own 1 0 2 0 (lbL (n + 1)).length, .own 2 0 9 0 (inL l n n).length]) [mmB ([mm1, ms1] : List Mm), lbB (lbL (n + 1)), inB (inL l n n)]) :=
  vc_of (q := ((0 : Int) = (↑(0 : Nat) : Int)) ∧ (List.length l = List.length l) ∧ (∀ (i : Nat), i < List.length l → ∀ (j : Nat), j < (1 : Nat) → AV.int IntKind.i64 (List.getD l i (0 : Int)) = AV.int IntKind.i64 (List.getD l i (0 : Int))) ∧ (PureC Try.prog 26 [.int .i64 ((0 : Nat) : Int), kptr l] (.int .i64 (kN l 0)) []) ∧ (inK IntKind.i64 (Go.bits Go.BinOp.and IntKind.i64 (kN l (0 : Nat)) (1 : Int) + (1 : Int))) ∧ ((0 : Int) = (↑(0 : Nat) : Int)) ∧ (List.length l = List.length l) ∧ (∀ (i : Nat), i < List.length l → ∀ (j : Nat), j < (1 : Nat) → AV.int IntKind.i64 (List.getD l i (0 : Int)) = AV.int IntKind.i64 (List.getD l i (0 : Int))) ∧ (PureC Try.prog 26 [.int .i64 ((0 : Nat) : Int), kptr l] (.int .i64 (kN l 0)) []) ∧ ((0 : Int) ≤ (1 : Int)) ∧ ((3 : Int) ≠ (0 : Int)) ∧ (inK IntKind.i64 (Int.tmod (Go.bits Go.BinOp.and IntKind.i64 (Int.fdiv (kN l (0 : Nat)) ((2 : Int) ^ (1 : Nat))) (255 : Int)) (3 : Int) + (1 : Int))) ∧ (List.length l = List.length l) ∧ (∀ (i : Nat), i < List.length l → ∀ (j : Nat), j < (1 : Nat) → AV.int IntKind.i64 (List.getD l i (0 : Int)) = AV.int IntKind.i64 (List.getD l i (0 : Int))) ∧ cS8m2 W l ∧ (Int.tmod (Go.bits Go.BinOp.and IntKind.i64 (Int.fdiv (kN l (0 : Nat)) ((2 : Int) ^ (1 : Nat))) (255 : Int)) (3 : Int) + (1 : Int) = winN l) ∧ (frS8m10  (((0 : Int) = (↑(0 : Nat) : Int)) ∧ cS8m1 W l ∧ ((1 : Int) = (↑(1 : Nat) : Int)) ∧ (List.length l = List.length l) ∧ (∀ (i : Nat), i < List.length l → ∀ (j : Nat), j < (1 : Nat) → AV.int IntKind.i64 (List.getD l i (0 : Int)) = AV.int IntKind.i64 (List.getD l i (0 : Int))) ∧ (PureC Try.prog 26 [.int .i64 (1 : Nat), kptr l] (.int .i64 (kN l 1)) []) ∧ ((0 : Int) ≤ (8 : Int)) ∧ (decide (Go.bits Go.BinOp.and IntKind.i64 (Int.fdiv (kN l (1 : Nat)) ((2 : Int) ^ (8 : Nat))) (3 : Int) > (0 : Int)) = true) ∧ ((32 : Nat) ≤ (140737488355328 : Nat) ∧ (1 : Nat) ≤ (140737488355328 : Nat)) ∧ ((W == (1 : Int)) = false) ∧ ((W == (1 : Int)) = false) ∧ ((W == (1 : Int)) = false) ∧ ((W == (1 : Int)) = false) ∧ ((W == (1 : Int)) = false) ∧ ((W == (1 : Int)) = false) ∧ (false = false) ∧ ((1 : Int) = (↑(1 : Nat) : Int)) ∧ (List.length l = List.length l) ∧ (∀ (i : Nat), i < List.length l → ∀ (j : Nat), j < (1 : Nat) → AV.int IntKind.i64 (List.getD l i (0 : Int)) = AV.int IntKind.i64 (List.getD l i (0 : Int))) ∧ (PureC Try.prog 26 [.int .i64 (1 : Nat), kptr l] (.int .i64 (kN l 1)) []) ∧ ((0 : Int) ≤ (12 : Int)) ∧ (decide (Go.bits Go.BinOp.and IntKind.i64 (Int.fdiv (kN l (1 : Nat)) ((2 : Int) ^ (12 : Nat))) (3 : Int) > (0 : Int)) = true) ∧ (decide (Go.bits Go.BinOp.and IntKind.i64 (Int.fdiv (kN l (1 : Nat)) ((2 : Int) ^ (12 : Nat))) (3 : Int) > (0 : Int)) = true) ∧ (decide (Go.bits Go.BinOp.and IntKind.i64 (Int.fdiv (kN l (1 : Nat)) ((2 : Int) ^ (12 : Nat))) (3 : Int) > (0 : Int)) = true) ∧ (decide (Go.bits Go.BinOp.and IntKind.i64 (Int.fdiv (kN l (1 : Nat)) ((2 : Int) ^ (12 : Nat))) (3 : Int) > (0 : Int)) = true) ∧ (inK IntKind.i64 (M1.s (mK W l (4 : Nat)) + W)) ∧ (decide (Go.bits Go.BinOp.and IntKind.i64 (Int.fdiv (kN l (1 : Nat)) ((2 : Int) ^ (12 : Nat))) (3 : Int) > (0 : Int)) = true) ∧ (decide (Go.bits Go.BinOp.and IntKind.i64 (Int.fdiv (kN l (1 : Nat)) ((2 : Int) ^ (12 : Nat))) (3 : Int) > (0 : Int)) = true) ∧ (decide (M1.s (mK W l (4 : Nat)) + W ≤ (3 : Int)) = true) ∧ (decide (M1.s (mK W l (4 : Nat)) + W ≤ (3 : Int)) = true) ∧ (decide (M1.s (mK W l (4 : Nat)) + W ≤ (3 : Int)) = true) ∧ (decide (M1.s (mK W l (4 : Nat)) + W ≤ (3 : Int)) = true) ∧ (decide (M1.s (mK W l (4 : Nat)) + W ≤ (3 : Int)) = true) ∧ (((↑(1 : Nat) : Int) == (0 : Int)) = false) ∧ (((↑(1 : Nat) : Int) == (0 : Int)) = false) ∧ (((↑(1 : Nat) : Int) == (0 : Int)) = false) ∧ ((0 : Int) ≤ (0 : Int) ∧ (0 : Int) < (↑(1 : Nat) : Int)) ∧ (((↑(1 : Nat) : Int) == (0 : Int)) = false) ∧ (((↑(1 : Nat) : Int) == (0 : Int)) = false) ∧ ((0 : Nat) < (1 : Nat)) ∧ (((↑(1 : Nat) : Int) == (0 : Int)) = false) ∧ (decide (M1.s (mK W l (4 : Nat)) + W ≤ (3 : Int)) = true) ∧ (((↑(1 : Nat) : Int) == (0 : Int)) = false) ∧ (decide (M1.s (mK W l (4 : Nat)) + W ≤ (3 : Int)) = true) ∧ ((0 : Nat) = (0 : Nat) ∧ (1 : Nat) = (1 : Nat) ∧ (64 : Nat) ≤ (140737488355328 : Nat) ∧ (2 : Nat) ≤ (140737488355328 : Nat)) ∧ ((0 : Int) = (↑(0 : Nat) : Int)) ∧ (List.length l = List.length l) ∧ (∀ (i : Nat), i < List.length l → ∀ (j : Nat), j < (1 : Nat) → AV.int IntKind.i64 (List.getD l i (0 : Int)) = AV.int IntKind.i64 (List.getD l i (0 : Int))) ∧ (PureC Try.prog 26 [.int .i64 ((0 : Nat) : Int), kptr l] (.int .i64 (kN l 0)) []) ∧ ((0 : Int) ≤ (12 : Int)) ∧ (inK IntKind.i64 (Go.bits Go.BinOp.and IntKind.i64 (Int.fdiv (kN l (0 : Nat)) ((2 : Int) ^ (12 : Nat))) (3 : Int) + (2 : Int))) ∧ (frS8m8 W l ((frS8m18  ((∀ (i : Nat), i < (2 : Nat) → ∀ (j : Nat), j < (3 : Nat) → (bif Nat.blt i (1 : Nat) then List.getD [AV.str (ByteArray.mk (Array.mk [(109 : UInt8)])), AV.bool false, AV.int IntKind.i64 (1 : Int)] ((i + (0 : Nat)) * (3 : Nat) + j) AV.junk else List.getD [AV.str (ByteArray.mk (Array.mk [(115 : UInt8)])), AV.bool true, AV.int IntKind.i64 (1 : Int)] ((i - (1 : Nat) + (0 : Nat)) * (3 : Nat) + j) AV.junk) = rowL mmC [mm1, ms1] i j) ∧ ((0 : Nat) = (0 : Nat)) ∧ cS8m0 l n ∧ ((0 : Int) = (↑(0 : Nat) : Int)) ∧ (Ok Try.prog (ntOf Try.prog 9) (.loop (lpC Try.prog 9 1)) (mk2 W (winN l) l (mK W l 4) ([mm1, ms1] : List Mm) n 0).st (.ext 3) (mk2 W (winN l) l (mK W l 4) ([mm1, ms1] : List Mm) n (n + 1)).st) ∧ (frS8m8 W l ((frS8m17 n ((∀ (i : Nat), i < List.length (lbL (n + (1 : Nat))) → ∀ (j : Nat), j < (2 : Nat) → rowL lbC (lbL (n + (1 : Nat))) i j = rowL lbC (lbL (n + (1 : Nat))) i j) ∧ ((0 : Nat) = (0 : Nat)) ∧ ((↑n : Int) = (↑n : Int)) ∧ ((0 : Int) = (↑(0 : Nat) : Int)) ∧ (Ok Try.prog (ntOf Try.prog 9) (.loop (lpC Try.prog 9 2)) (mk3 W (winN l) l (mK W l 4) ([mm1, ms1] : List Mm) n 0).st (.ext 5) (mk3 W (winN l) l (mK W l 4) ([mm1, ms1] : List Mm) n n).st) ∧ (frS8m16 W l n ((frS8m15 W l n ((List.length (inL l n n) = List.length (inL l n n)) ∧ True))))))))))))))) (by kernel_rfl)
    ⟨(by first | omega | rfl),
 rfl,
 (fun _ _ _ _ => rfl),
 kC l 0 (by omega),
 (by rw [hW1]; exact in64 (by omega) (by omega)),
 (by first | omega | rfl),
 rfl,
 (fun _ _ _ _ => rfl),
 kC l 0 (by omega),
 (by first | omega | rfl),
 (by first | omega | rfl | (simp; done) | (simp; omega)),
 (in_tm _ _ (by omega) (by omega)),
 rfl,
 (fun _ _ _ _ => rfl),
 hW1,
 (by first | omega | rfl | (simp; done) | (simp; omega)), (frS8m10_mk  ⟨(by first | omega | rfl),
 m1_loop W (winN l) l hW,
 (by first | omega | rfl),
 rfl,
 (fun _ _ _ _ => rfl),
 kC l 1 (by omega),
 (by first | omega | rfl),
 (by first | exact c1t | (rw [hW1]; exact c1t) | (simpa [hW1] using c1t)),
 (by first | omega | rfl),
 (by first | exact c2f | (rw [hW1]; exact c2f) | (simpa [hW1] using c2f)),
 (by first | exact c2f | (rw [hW1]; exact c2f) | (simpa [hW1] using c2f)),
 (by first | exact c2f | (rw [hW1]; exact c2f) | (simpa [hW1] using c2f)),
 (by first | exact c2f | (rw [hW1]; exact c2f) | (simpa [hW1] using c2f)),
 (by first | exact c2f | (rw [hW1]; exact c2f) | (simpa [hW1] using c2f)),
 (by first | exact c2f | (rw [hW1]; exact c2f) | (simpa [hW1] using c2f)),
 rfl,
 (by first | omega | rfl),
 rfl,
 (fun _ _ _ _ => rfl),
 kC l 1 (by omega),
 (by first | omega | rfl),
 (by first | exact c4t | (rw [hW1]; exact c4t) | (simpa [hW1] using c4t)),
 (by first | exact c4t | (rw [hW1]; exact c4t) | (simpa [hW1] using c4t)),
 (by first | exact c4t | (rw [hW1]; exact c4t) | (simpa [hW1] using c4t)),
 (by first | exact c4t | (rw [hW1]; exact c4t) | (simpa [hW1] using c4t)),
 (in64 (by have := (mK_bd hW l 4).2; omega) (by have := (mK_bd hW l 4).2; omega)),
 (by first | exact c4t | (rw [hW1]; exact c4t) | (simpa [hW1] using c4t)),
 (by first | exact c4t | (rw [hW1]; exact c4t) | (simpa [hW1] using c4t)),
 (by first | exact c5t | (rw [hW1]; exact c5t) | (simpa [hW1] using c5t)),
 (by first | exact c5t | (rw [hW1]; exact c5t) | (simpa [hW1] using c5t)),
 (by first | exact c5t | (rw [hW1]; exact c5t) | (simpa [hW1] using c5t)),
 (by first | exact c5t | (rw [hW1]; exact c5t) | (simpa [hW1] using c5t)),
 (by first | exact c5t | (rw [hW1]; exact c5t) | (simpa [hW1] using c5t)),
 (by first | omega | rfl),
 (by first | omega | rfl),
 (by first | omega | rfl),
 (by first | omega | rfl),
 (by first | omega | rfl),
 (by first | omega | rfl),
 (by first | omega | rfl),
 (by first | omega | rfl),
 (by first | exact c5t | (rw [hW1]; exact c5t) | (simpa [hW1] using c5t)),
 (by first | omega | rfl),
 (by first | exact c5t | (rw [hW1]; exact c5t) | (simpa [hW1] using c5t)),
 (by first | omega | rfl),
 (by first | omega | rfl),
 rfl,
 (fun _ _ _ _ => rfl),
 kC l 0 (by omega),
 (by first | omega | rfl),
 (by rw [hn1]; exact in64 (by omega) (by omega)), (frS8m8_mk W l (frS8m18_mk  ⟨(fun i hi j hj => match i, hi, j, hj with | 0, _, 0, _ => rfl | 0, _, 1, _ => rfl | 0, _, 2, _ => rfl | 1, _, 0, _ => rfl | 1, _, 1, _ => rfl | 1, _, 2, _ => rfl),
 rfl,
 hn1,
 (by first | omega | rfl),
 m2_loop W (winN l) l (mK W l 4) ([mm1, ms1] : List Mm) n hn, (frS8m8_mk W l (frS8m17_mk n ⟨(fun _ _ _ _ => rfl),
 rfl,
 rfl,
 (by first | omega | rfl),
 m3_loop W (winN l) l (mK W l 4) ([mm1, ms1] : List Mm) n hn, (frS8m16_mk W l n (frS8m15_mk W l n ⟨rfl, trivial⟩))⟩))⟩))⟩)⟩
theorem mk_TTF_F (W : Int) (l : List Int) (n : Nat) (hW1 : bits .and .i64 (kN l 0) 1 + 1 = W) (hW : 1 ≤ W ∧ W ≤ 2) (hn1 : bits .and .i64 (Int.fdiv (kN l 0) (2 ^ 12)) 3 + 2 = (n : Int)) (hn : n < 6) (c1t : (decide (bits .and .i64 (Int.fdiv (kN l 1) (2 ^ 8)) 3 > 0)) = true) (c2t : (W == 1) = true) (c3f : (bits .and .i64 (Int.fdiv (kN l 1) (2 ^ 10)) 3 == 0) = false) (c4f : (decide (bits .and .i64 (Int.fdiv (kN l 1) (2 ^ 12)) 3 > 0)) = false) : Vc (vcFn Try.prog false 9 [.row 1 l.length (rowI l)] [.cl [.int .i64 ((0 : Nat) : Int), kptr l] (.int .i64 (kN l 0)) [], .cl [.int .i64 ((0 : Nat) : Int), kptr l] (.int .i64 (kN l 0)) [], .lp [(0, 0), (1, 1), (2, 2)] (mk1 W (winN l) l ⟨0, 0, 0, 0, 0, 0⟩ 0) (.ext 0) (mk1 W (winN l) l (mK W l 4) 4), .cl [.int .i64 (1 : Nat), kptr l] (.int .i64 (kN l 1)) [], .b true, .b true, .b true, .cl [.int .i64 (1 : Nat), kptr l] (.int .i64 (kN l 1)) [], .b true, .b true, .b true, .b true, .b false, .cl [.int .i64 (1 : Nat), kptr l] (.int .i64 (kN l 1)) [], .b false, .b false, .b false, .b false, .b false, .b false, .cl [.int .i64 ((0 : Nat) : Int), kptr l] (.int .i64 (kN l 0)) [], .lp [(0, 0), (1, 1), (2, 2), (3, 4)] (mk2 W (winN l) l (mK W l 4) ([mm1] : List Mm) n 0) (.ext 3) (mk2 W (winN l) l (mK W l 4) ([mm1] : List Mm) n (n + 1)), .lp [(0, 0), (1, 1), (2, 2), (3, 3), (4, 4)] (mk3 W (winN l) l (mK W l 4) ([mm1] : List Mm) n 0) (.ext 5) (mk3 W (winN l) l (mK W l 4) ([mm1] : List Mm) n n)] [(0, 3), (1, 4), (2, 5)] (.agg [.int .i64 W, .int .i64 (winN l), .int .i64 6, .int .i64 (mK W l 4).r0, .int .i64 (mK W l 4).r1, .int .i64 (mK W l 4).r2, .int .i64 (mK W l 4).r3, .own 0 0 3 0 ([mm1] : List Mm).length, .own 1 0 2 0 (lbL (n + 1)).length, .own 2 0 9 0 (inL l n n).length]) [mmB ([mm1] : List Mm), lbB (lbL (n + 1)), inB (inL l n n)]) :=
  vc_of (q := ((0 : Int) = (↑(0 : Nat) : Int)) ∧ (List.length l = List.length l) ∧ (∀ (i : Nat), i < List.length l → ∀ (j : Nat), j < (1 : Nat) → AV.int IntKind.i64 (List.getD l i (0 : Int)) = AV.int IntKind.i64 (List.getD l i (0 : Int))) ∧ (PureC Try.prog 26 [.int .i64 ((0 : Nat) : Int), kptr l] (.int .i64 (kN l 0)) []) ∧ (inK IntKind.i64 (Go.bits Go.BinOp.and IntKind.i64 (kN l (0 : Nat)) (1 : Int) + (1 : Int))) ∧ ((0 : Int) = (↑(0 : Nat) : Int)) ∧ (List.length l = List.length l) ∧ (∀ (i : Nat), i < List.length l → ∀ (j : Nat), j < (1 : Nat) → AV.int IntKind.i64 (List.getD l i (0 : Int)) = AV.int IntKind.i64 (List.getD l i (0 : Int))) ∧ (PureC Try.prog 26 [.int .i64 ((0 : Nat) : Int), kptr l] (.int .i64 (kN l 0)) []) ∧ ((0 : Int) ≤ (1 : Int)) ∧ ((3 : Int) ≠ (0 : Int)) ∧ (inK IntKind.i64 (Int.tmod (Go.bits Go.BinOp.and IntKind.i64 (Int.fdiv (kN l (0 : Nat)) ((2 : Int) ^ (1 : Nat))) (255 : Int)) (3 : Int) + (1 : Int))) ∧ (List.length l = List.length l) ∧ (∀ (i : Nat), i < List.length l → ∀ (j : Nat), j < (1 : Nat) → AV.int IntKind.i64 (List.getD l i (0 : Int)) = AV.int IntKind.i64 (List.getD l i (0 : Int))) ∧ cS8m2 W l ∧ (Int.tmod (Go.bits Go.BinOp.and IntKind.i64 (Int.fdiv (kN l (0 : Nat)) ((2 : Int) ^ (1 : Nat))) (255 : Int)) (3 : Int) + (1 : Int) = winN l) ∧ (frS8m10  (((0 : Int) = (↑(0 : Nat) : Int)) ∧ cS8m1 W l ∧ ((1 : Int) = (↑(1 : Nat) : Int)) ∧ (List.length l = List.length l) ∧ (∀ (i : Nat), i < List.length l → ∀ (j : Nat), j < (1 : Nat) → AV.int IntKind.i64 (List.getD l i (0 : Int)) = AV.int IntKind.i64 (List.getD l i (0 : Int))) ∧ (PureC Try.prog 26 [.int .i64 (1 : Nat), kptr l] (.int .i64 (kN l 1)) []) ∧ ((0 : Int) ≤ (8 : Int)) ∧ (decide (Go.bits Go.BinOp.and IntKind.i64 (Int.fdiv (kN l (1 : Nat)) ((2 : Int) ^ (8 : Nat))) (3 : Int) > (0 : Int)) = true) ∧ ((32 : Nat) ≤ (140737488355328 : Nat) ∧ (1 : Nat) ≤ (140737488355328 : Nat)) ∧ ((W == (1 : Int)) = true) ∧ ((W == (1 : Int)) = true) ∧ ((1 : Int) = (↑(1 : Nat) : Int)) ∧ (List.length l = List.length l) ∧ (∀ (i : Nat), i < List.length l → ∀ (j : Nat), j < (1 : Nat) → AV.int IntKind.i64 (List.getD l i (0 : Int)) = AV.int IntKind.i64 (List.getD l i (0 : Int))) ∧ (PureC Try.prog 26 [.int .i64 (1 : Nat), kptr l] (.int .i64 (kN l 1)) []) ∧ ((W == (1 : Int)) = true) ∧ ((0 : Int) ≤ (10 : Int)) ∧ ((W == (1 : Int)) = true) ∧ ((W == (1 : Int)) = true) ∧ ((W == (1 : Int)) = true) ∧ ((Go.bits Go.BinOp.and IntKind.i64 (Int.fdiv (kN l (1 : Nat)) ((2 : Int) ^ (10 : Nat))) (3 : Int) == (0 : Int)) = false) ∧ ((1 : Int) = (↑(1 : Nat) : Int)) ∧ (List.length l = List.length l) ∧ (∀ (i : Nat), i < List.length l → ∀ (j : Nat), j < (1 : Nat) → AV.int IntKind.i64 (List.getD l i (0 : Int)) = AV.int IntKind.i64 (List.getD l i (0 : Int))) ∧ (PureC Try.prog 26 [.int .i64 (1 : Nat), kptr l] (.int .i64 (kN l 1)) []) ∧ ((0 : Int) ≤ (12 : Int)) ∧ (decide (Go.bits Go.BinOp.and IntKind.i64 (Int.fdiv (kN l (1 : Nat)) ((2 : Int) ^ (12 : Nat))) (3 : Int) > (0 : Int)) = false) ∧ (decide (Go.bits Go.BinOp.and IntKind.i64 (Int.fdiv (kN l (1 : Nat)) ((2 : Int) ^ (12 : Nat))) (3 : Int) > (0 : Int)) = false) ∧ (decide (Go.bits Go.BinOp.and IntKind.i64 (Int.fdiv (kN l (1 : Nat)) ((2 : Int) ^ (12 : Nat))) (3 : Int) > (0 : Int)) = false) ∧ (decide (Go.bits Go.BinOp.and IntKind.i64 (Int.fdiv (kN l (1 : Nat)) ((2 : Int) ^ (12 : Nat))) (3 : Int) > (0 : Int)) = false) ∧ (decide (Go.bits Go.BinOp.and IntKind.i64 (Int.fdiv (kN l (1 : Nat)) ((2 : Int) ^ (12 : Nat))) (3 : Int) > (0 : Int)) = false) ∧ (decide (Go.bits Go.BinOp.and IntKind.i64 (Int.fdiv (kN l (1 : Nat)) ((2 : Int) ^ (12 : Nat))) (3 : Int) > (0 : Int)) = false) ∧ ((0 : Int) = (↑(0 : Nat) : Int)) ∧ (List.length l = List.length l) ∧ (∀ (i : Nat), i < List.length l → ∀ (j : Nat), j < (1 : Nat) → AV.int IntKind.i64 (List.getD l i (0 : Int)) = AV.int IntKind.i64 (List.getD l i (0 : Int))) ∧ (PureC Try.prog 26 [.int .i64 ((0 : Nat) : Int), kptr l] (.int .i64 (kN l 0)) []) ∧ ((0 : Int) ≤ (12 : Int)) ∧ (inK IntKind.i64 (Go.bits Go.BinOp.and IntKind.i64 (Int.fdiv (kN l (0 : Nat)) ((2 : Int) ^ (12 : Nat))) (3 : Int) + (2 : Int))) ∧ (frS8m8 W l ((frS8m11  ((∀ (i : Nat), i < (1 : Nat) → ∀ (j : Nat), j < (3 : Nat) → List.getD [AV.str (ByteArray.mk (Array.mk [(109 : UInt8)])), AV.bool false, AV.int IntKind.i64 (1 : Int)] ((i + (0 : Nat)) * (3 : Nat) + j) AV.junk = rowL mmC [mm1] i j) ∧ ((0 : Nat) = (0 : Nat)) ∧ cS8m0 l n ∧ ((0 : Int) = (↑(0 : Nat) : Int)) ∧ (Ok Try.prog (ntOf Try.prog 9) (.loop (lpC Try.prog 9 1)) (mk2 W (winN l) l (mK W l 4) ([mm1] : List Mm) n 0).st (.ext 3) (mk2 W (winN l) l (mK W l 4) ([mm1] : List Mm) n (n + 1)).st) ∧ (frS8m8 W l ((frS8m14 n ((∀ (i : Nat), i < List.length (lbL (n + (1 : Nat))) → ∀ (j : Nat), j < (2 : Nat) → rowL lbC (lbL (n + (1 : Nat))) i j = rowL lbC (lbL (n + (1 : Nat))) i j) ∧ ((0 : Nat) = (0 : Nat)) ∧ ((↑n : Int) = (↑n : Int)) ∧ ((0 : Int) = (↑(0 : Nat) : Int)) ∧ (Ok Try.prog (ntOf Try.prog 9) (.loop (lpC Try.prog 9 2)) (mk3 W (winN l) l (mK W l 4) ([mm1] : List Mm) n 0).st (.ext 5) (mk3 W (winN l) l (mK W l 4) ([mm1] : List Mm) n n).st) ∧ (frS8m13 W l n ((frS8m12 W l n ((List.length (inL l n n) = List.length (inL l n n)) ∧ True))))))))))))))) (by kernel_rfl)
    ⟨(by first | omega | rfl),
 rfl,
 (fun _ _ _ _ => rfl),
 kC l 0 (by omega),
 (by rw [hW1]; exact in64 (by omega) (by omega)),
 (by first | omega | rfl),
 rfl,
 (fun _ _ _ _ => rfl),
 kC l 0 (by omega),
 (by first | omega | rfl),
 (by first | omega | rfl | (simp; done) | (simp; omega)),
 (in_tm _ _ (by omega) (by omega)),
 rfl,
 (fun _ _ _ _ => rfl),
 hW1,
 (by first | omega | rfl | (simp; done) | (simp; omega)), (frS8m10_mk  ⟨(by first | omega | rfl),
 m1_loop W (winN l) l hW,
 (by first | omega | rfl),
 rfl,
 (fun _ _ _ _ => rfl),
 kC l 1 (by omega),
 (by first | omega | rfl),
 (by first | exact c1t | (rw [hW1]; exact c1t) | (simpa [hW1] using c1t)),
 (by first | omega | rfl),
 (by first | exact c2t | (rw [hW1]; exact c2t) | (simpa [hW1] using c2t)),
 (by first | exact c2t | (rw [hW1]; exact c2t) | (simpa [hW1] using c2t)),
 (by first | omega | rfl),
 rfl,
 (fun _ _ _ _ => rfl),
 kC l 1 (by omega),
 (by first | exact c2t | (rw [hW1]; exact c2t) | (simpa [hW1] using c2t)),
 (by first | omega | rfl),
 (by first | exact c2t | (rw [hW1]; exact c2t) | (simpa [hW1] using c2t)),
 (by first | exact c2t | (rw [hW1]; exact c2t) | (simpa [hW1] using c2t)),
 (by first | exact c2t | (rw [hW1]; exact c2t) | (simpa [hW1] using c2t)),
 (by first | exact c3f | (rw [hW1]; exact c3f) | (simpa [hW1] using c3f)),
 (by first | omega | rfl),
 rfl,
 (fun _ _ _ _ => rfl),
 kC l 1 (by omega),
 (by first | omega | rfl),
 (by first | exact c4f | (rw [hW1]; exact c4f) | (simpa [hW1] using c4f)),
 (by first | exact c4f | (rw [hW1]; exact c4f) | (simpa [hW1] using c4f)),
 (by first | exact c4f | (rw [hW1]; exact c4f) | (simpa [hW1] using c4f)),
 (by first | exact c4f | (rw [hW1]; exact c4f) | (simpa [hW1] using c4f)),
 (by first | exact c4f | (rw [hW1]; exact c4f) | (simpa [hW1] using c4f)),
 (by first | exact c4f | (rw [hW1]; exact c4f) | (simpa [hW1] using c4f)),
 (by first | omega | rfl),
 rfl,
 (fun _ _ _ _ => rfl),
 kC l 0 (by omega),
 (by first | omega | rfl),
 (by rw [hn1]; exact in64 (by omega) (by omega)), (frS8m8_mk W l (frS8m11_mk  ⟨(fun i hi j hj => match i, hi, j, hj with | 0, _, 0, _ => rfl | 0, _, 1, _ => rfl | 0, _, 2, _ => rfl),
 rfl,
 hn1,
 (by first | omega | rfl),
 m2_loop W (winN l) l (mK W l 4) ([mm1] : List Mm) n hn, (frS8m8_mk W l (frS8m14_mk n ⟨(fun _ _ _ _ => rfl),
 rfl,
 rfl,
 (by first | omega | rfl),
 m3_loop W (winN l) l (mK W l 4) ([mm1] : List Mm) n hn, (frS8m13_mk W l n (frS8m12_mk W l n ⟨rfl, trivial⟩))⟩))⟩))⟩)⟩
theorem mk_TTF_TF (W : Int) (l : List Int) (n : Nat) (hW1 : bits .and .i64 (kN l 0) 1 + 1 = W) (hW : 1 ≤ W ∧ W ≤ 2) (hn1 : bits .and .i64 (Int.fdiv (kN l 0) (2 ^ 12)) 3 + 2 = (n : Int)) (hn : n < 6) (c1t : (decide (bits .and .i64 (Int.fdiv (kN l 1) (2 ^ 8)) 3 > 0)) = true) (c2t : (W == 1) = true) (c3f : (bits .and .i64 (Int.fdiv (kN l 1) (2 ^ 10)) 3 == 0) = false) (c4t : (decide (bits .and .i64 (Int.fdiv (kN l 1) (2 ^ 12)) 3 > 0)) = true) (c5f : (decide ((mK W l 4).s + W ≤ 3)) = false) : Vc (vcFn Try.prog false 9 [.row 1 l.length (rowI l)] [.cl [.int .i64 ((0 : Nat) : Int), kptr l] (.int .i64 (kN l 0)) [], .cl [.int .i64 ((0 : Nat) : Int), kptr l] (.int .i64 (kN l 0)) [], .lp [(0, 0), (1, 1), (2, 2)] (mk1 W (winN l) l ⟨0, 0, 0, 0, 0, 0⟩ 0) (.ext 0) (mk1 W (winN l) l (mK W l 4) 4), .cl [.int .i64 (1 : Nat), kptr l] (.int .i64 (kN l 1)) [], .b true, .b true, .b true, .cl [.int .i64 (1 : Nat), kptr l] (.int .i64 (kN l 1)) [], .b true, .b true, .b true, .b true, .b false, .cl [.int .i64 (1 : Nat), kptr l] (.int .i64 (kN l 1)) [], .b true, .b true, .b true, .b true, .b true, .b true, .b false, .b false, .b false, .b false, .b false, .b false, .b false, .cl [.int .i64 ((0 : Nat) : Int), kptr l] (.int .i64 (kN l 0)) [], .lp [(0, 0), (1, 1), (2, 2), (3, 4)] (mk2 W (winN l) l (mK W l 4) ([mm1] : List Mm) n 0) (.ext 3) (mk2 W (winN l) l (mK W l 4) ([mm1] : List Mm) n (n + 1)), .lp [(0, 0), (1, 1), (2, 2), (3, 3), (4, 4)] (mk3 W (winN l) l (mK W l 4) ([mm1] : List Mm) n 0) (.ext 5) (mk3 W (winN l) l (mK W l 4) ([mm1] : List Mm) n n)] [(0, 3), (1, 4), (2, 5)] (.agg [.int .i64 W, .int .i64 (winN l), .int .i64 6, .int .i64 (mK W l 4).r0, .int .i64 (mK W l 4).r1, .int .i64 (mK W l 4).r2, .int .i64 (mK W l 4).r3, .own 0 0 3 0 ([mm1] : List Mm).length, .own 1 0 2 0 (lbL (n + 1)).length, .own 2 0 9 0 (inL l n n).length]) [mmB ([mm1] : List Mm), lbB (lbL (n + 1)), inB (inL l n n)]) :=
  vc_of (q := ((0 : Int) = (↑(0 : Nat) : Int)) ∧ (List.length l = List.length l) ∧ (∀ (i : Nat), i < List.length l → ∀ (j : Nat), j < (1 : Nat) → AV.int IntKind.i64 (List.getD l i (0 : Int)) = AV.int IntKind.i64 (List.getD l i (0 : Int))) ∧ (PureC Try.prog 26 [.int .i64 ((0 : Nat) : Int), kptr l] (.int .i64 (kN l 0)) []) ∧ (inK IntKind.i64 (Go.bits Go.BinOp.and IntKind.i64 (kN l (0 : Nat)) (1 : Int) + (1 : Int))) ∧ ((0 : Int) = (↑(0 : Nat) : Int)) ∧ (List.length l = List.length l) ∧ (∀ (i : Nat), i < List.length l → ∀ (j : Nat), j < (1 : Nat) → AV.int IntKind.i64 (List.getD l i (0 : Int)) = AV.int IntKind.i64 (List.getD l i (0 : Int))) ∧ (PureC Try.prog 26 [.int .i64 ((0 : Nat) : Int), kptr l] (.int .i64 (kN l 0)) []) ∧ ((0 : Int) ≤ (1 : Int)) ∧ ((3 : Int) ≠ (0 : Int)) ∧ (inK IntKind.i64 (Int.tmod (Go.bits Go.BinOp.and IntKind.i64 (Int.fdiv (kN l (0 : Nat)) ((2 : Int) ^ (1 : Nat))) (255 : Int)) (3 : Int) + (1 : Int))) ∧ (List.length l = List.length l) ∧ (∀ (i : Nat), i < List.length l → ∀ (j : Nat), j < (1 : Nat) → AV.int IntKind.i64 (List.getD l i (0 : Int)) = AV.int IntKind.i64 (List.getD l i (0 : Int))) ∧ cS8m2 W l ∧ (Int.tmod (Go.bits Go.BinOp.and IntKind.i64 (Int.fdiv (kN l (0 : Nat)) ((2 : Int) ^ (1 : Nat))) (255 : Int)) (3 : Int) + (1 : Int) = winN l) ∧ (frS8m10  (((0 : Int) = (↑(0 : Nat) : Int)) ∧ cS8m1 W l ∧ ((1 : Int) = (↑(1 : Nat) : Int)) ∧ (List.length l = List.length l) ∧ (∀ (i : Nat), i < List.length l → ∀ (j : Nat), j < (1 : Nat) → AV.int IntKind.i64 (List.getD l i (0 : Int)) = AV.int IntKind.i64 (List.getD l i (0 : Int))) ∧ (PureC Try.prog 26 [.int .i64 (1 : Nat), kptr l] (.int .i64 (kN l 1)) []) ∧ ((0 : Int) ≤ (8 : Int)) ∧ (decide (Go.bits Go.BinOp.and IntKind.i64 (Int.fdiv (kN l (1 : Nat)) ((2 : Int) ^ (8 : Nat))) (3 : Int) > (0 : Int)) = true) ∧ ((32 : Nat) ≤ (140737488355328 : Nat) ∧ (1 : Nat) ≤ (140737488355328 : Nat)) ∧ ((W == (1 : Int)) = true) ∧ ((W == (1 : Int)) = true) ∧ ((1 : Int) = (↑(1 : Nat) : Int)) ∧ (List.length l = List.length l) ∧ (∀ (i : Nat), i < List.length l → ∀ (j : Nat), j < (1 : Nat) → AV.int IntKind.i64 (List.getD l i (0 : Int)) = AV.int IntKind.i64 (List.getD l i (0 : Int))) ∧ (PureC Try.prog 26 [.int .i64 (1 : Nat), kptr l] (.int .i64 (kN l 1)) []) ∧ ((W == (1 : Int)) = true) ∧ ((0 : Int) ≤ (10 : Int)) ∧ ((W == (1 : Int)) = true) ∧ ((W == (1 : Int)) = true) ∧ ((W == (1 : Int)) = true) ∧ ((Go.bits Go.BinOp.and IntKind.i64 (Int.fdiv (kN l (1 : Nat)) ((2 : Int) ^ (10 : Nat))) (3 : Int) == (0 : Int)) = false) ∧ ((1 : Int) = (↑(1 : Nat) : Int)) ∧ (List.length l = List.length l) ∧ (∀ (i : Nat), i < List.length l → ∀ (j : Nat), j < (1 : Nat) → AV.int IntKind.i64 (List.getD l i (0 : Int)) = AV.int IntKind.i64 (List.getD l i (0 : Int))) ∧ (PureC Try.prog 26 [.int .i64 (1 : Nat), kptr l] (.int .i64 (kN l 1)) []) ∧ ((0 : Int) ≤ (12 : Int)) ∧ (decide (Go.bits Go.BinOp.and IntKind.i64 (Int.fdiv (kN l (1 : Nat)) ((2 : Int) ^ (12 : Nat))) (3 : Int) > (0 : Int)) = true) ∧ (decide (Go.bits Go.BinOp.and IntKind.i64 (Int.fdiv (kN l (1 : Nat)) ((2 : Int) ^ (12 : Nat))) (3 : Int) > (0 : Int)) = true) ∧ (decide (Go.bits Go.BinOp.and IntKind.i64 (Int.fdiv (kN l (1 : Nat)) ((2 : Int) ^ (12 : Nat))) (3 : Int) > (0 : Int)) = true) ∧ (decide (Go.bits Go.BinOp.and IntKind.i64 (Int.fdiv (kN l (1 : Nat)) ((2 : Int) ^ (12 : Nat))) (3 : Int) > (0 : Int)) = true) ∧ (inK IntKind.i64 (M1.s (mK W l (4 : Nat)) + W)) ∧ (decide (Go.bits Go.BinOp.and IntKind.i64 (Int.fdiv (kN l (1 : Nat)) ((2 : Int) ^ (12 : Nat))) (3 : Int) > (0 : Int)) = true) ∧ (decide (Go.bits Go.BinOp.and IntKind.i64 (Int.fdiv (kN l (1 : Nat)) ((2 : Int) ^ (12 : Nat))) (3 : Int) > (0 : Int)) = true) ∧ (decide (M1.s (mK W l (4 : Nat)) + W ≤ (3 : Int)) = false) ∧ (decide (M1.s (mK W l (4 : Nat)) + W ≤ (3 : Int)) = false) ∧ (decide (M1.s (mK W l (4 : Nat)) + W ≤ (3 : Int)) = false) ∧ (decide (M1.s (mK W l (4 : Nat)) + W ≤ (3 : Int)) = false) ∧ (decide (M1.s (mK W l (4 : Nat)) + W ≤ (3 : Int)) = false) ∧ (decide (M1.s (mK W l (4 : Nat)) + W ≤ (3 : Int)) = false) ∧ (decide (M1.s (mK W l (4 : Nat)) + W ≤ (3 : Int)) = false) ∧ ((0 : Int) = (↑(0 : Nat) : Int)) ∧ (List.length l = List.length l) ∧ (∀ (i : Nat), i < List.length l → ∀ (j : Nat), j < (1 : Nat) → AV.int IntKind.i64 (List.getD l i (0 : Int)) = AV.int IntKind.i64 (List.getD l i (0 : Int))) ∧ (PureC Try.prog 26 [.int .i64 ((0 : Nat) : Int), kptr l] (.int .i64 (kN l 0)) []) ∧ ((0 : Int) ≤ (12 : Int)) ∧ (inK IntKind.i64 (Go.bits Go.BinOp.and IntKind.i64 (Int.fdiv (kN l (0 : Nat)) ((2 : Int) ^ (12 : Nat))) (3 : Int) + (2 : Int))) ∧ (frS8m8 W l ((frS8m11  ((∀ (i : Nat), i < (1 : Nat) → ∀ (j : Nat), j < (3 : Nat) → List.getD [AV.str (ByteArray.mk (Array.mk [(109 : UInt8)])), AV.bool false, AV.int IntKind.i64 (1 : Int)] ((i + (0 : Nat)) * (3 : Nat) + j) AV.junk = rowL mmC [mm1] i j) ∧ ((0 : Nat) = (0 : Nat)) ∧ cS8m0 l n ∧ ((0 : Int) = (↑(0 : Nat) : Int)) ∧ (Ok Try.prog (ntOf Try.prog 9) (.loop (lpC Try.prog 9 1)) (mk2 W (winN l) l (mK W l 4) ([mm1] : List Mm) n 0).st (.ext 3) (mk2 W (winN l) l (mK W l 4) ([mm1] : List Mm) n (n + 1)).st) ∧ (frS8m8 W l ((frS8m14 n ((∀ (i : Nat), i < List.length (lbL (n + (1 : Nat))) → ∀ (j : Nat), j < (2 : Nat) → rowL lbC (lbL (n + (1 : Nat))) i j = rowL lbC (lbL (n + (1 : Nat))) i j) ∧ ((0 : Nat) = (0 : Nat)) ∧ ((↑n : Int) = (↑n : Int)) ∧ ((0 : Int) = (↑(0 : Nat) : Int)) ∧ (Ok Try.prog (ntOf Try.prog 9) (.loop (lpC Try.prog 9 2)) (mk3 W (winN l) l (mK W l 4) ([mm1] : List Mm) n 0).st (.ext 5) (mk3 W (winN l) l (mK W l 4) ([mm1] : List Mm) n n).st) ∧ (frS8m13 W l n ((frS8m12 W l n ((List.length (inL l n n) = List.length (inL l n n)) ∧ True))))))))))))))) (by kernel_rfl)
    ⟨(by first | omega | rfl),
 rfl,
 (fun _ _ _ _ => rfl),
 kC l 0 (by omega),
 (by rw [hW1]; exact in64 (by omega) (by omega)),
 (by first | omega | rfl),
 rfl,
 (fun _ _ _ _ => rfl),
 kC l 0 (by omega),
 (by first | omega | rfl),
 (by first | omega | rfl | (simp; done) | (simp; omega)),
 (in_tm _ _ (by omega) (by omega)),
 rfl,
 (fun _ _ _ _ => rfl),
 hW1,
 (by first | omega | rfl | (simp; done) | (simp; omega)), (frS8m10_mk  ⟨(by first | omega | rfl),
 m1_loop W (winN l) l hW,
 (by first | omega | rfl),
 rfl,
 (fun _ _ _ _ => rfl),
 kC l 1 (by omega),
 (by first | omega | rfl),
 (by first | exact c1t | (rw [hW1]; exact c1t) | (simpa [hW1] using c1t)),
 (by first | omega | rfl),
 (by first | exact c2t | (rw [hW1]; exact c2t) | (simpa [hW1] using c2t)),
 (by first | exact c2t | (rw [hW1]; exact c2t) | (simpa [hW1] using c2t)),
 (by first | omega | rfl),
 rfl,
 (fun _ _ _ _ => rfl),
 kC l 1 (by omega),
 (by first | exact c2t | (rw [hW1]; exact c2t) | (simpa [hW1] using c2t)),
 (by first | omega | rfl),
 (by first | exact c2t | (rw [hW1]; exact c2t) | (simpa [hW1] using c2t)),
 (by first | exact c2t | (rw [hW1]; exact c2t) | (simpa [hW1] using c2t)),
 (by first | exact c2t | (rw [hW1]; exact c2t) | (simpa [hW1] using c2t)),
 (by first | exact c3f | (rw [hW1]; exact c3f) | (simpa [hW1] using c3f)),
 (by first | omega | rfl),
 rfl,
 (fun _ _ _ _ => rfl),
 kC l 1 (by omega),
 (by first | omega | rfl),
 (by first | exact c4t | (rw [hW1]; exact c4t) | (simpa [hW1] using c4t)),
 (by first | exact c4t | (rw [hW1]; exact c4t) | (simpa [hW1] using c4t)),
 (by first | exact c4t | (rw [hW1]; exact c4t) | (simpa [hW1] using c4t)),
 (by first | exact c4t | (rw [hW1]; exact c4t) | (simpa [hW1] using c4t)),
 (in64 (by have := (mK_bd hW l 4).2; omega) (by have := (mK_bd hW l 4).2; omega)),
 (by first | exact c4t | (rw [hW1]; exact c4t) | (simpa [hW1] using c4t)),
 (by first | exact c4t | (rw [hW1]; exact c4t) | (simpa [hW1] using c4t)),
 (by first | exact c5f | (rw [hW1]; exact c5f) | (simpa [hW1] using c5f)),
 (by first | exact c5f | (rw [hW1]; exact c5f) | (simpa [hW1] using c5f)),
 (by first | exact c5f | (rw [hW1]; exact c5f) | (simpa [hW1] using c5f)),
 (by first | exact c5f | (rw [hW1]; exact c5f) | (simpa [hW1] using c5f)),
 (by first | exact c5f | (rw [hW1]; exact c5f) | (simpa [hW1] using c5f)),
 (by first | exact c5f | (rw [hW1]; exact c5f) | (simpa [hW1] using c5f)),
 (by first | exact c5f | (rw [hW1]; exact c5f) | (simpa [hW1] using c5f)),
 (by first | omega | rfl),
 rfl,
 (fun _ _ _ _ => rfl),
 kC l 0 (by omega),
 (by first | omega | rfl),
 (by rw [hn1]; exact in64 (by omega) (by omega)), (frS8m8_mk W l (frS8m11_mk  ⟨(fun i hi j hj => match i, hi, j, hj with | 0, _, 0, _ => rfl | 0, _, 1, _ => rfl | 0, _, 2, _ => rfl),
 rfl,
 hn1,
 (by first | omega | rfl),
 m2_loop W (winN l) l (mK W l 4) ([mm1] : List Mm) n hn, (frS8m8_mk W l (frS8m14_mk n ⟨(fun _ _ _ _ => rfl),
 rfl,
 rfl,
 (by first | omega | rfl),
 m3_loop W (winN l) l (mK W l 4) ([mm1] : List Mm) n hn, (frS8m13_mk W l n (frS8m12_mk W l n ⟨rfl, trivial⟩))⟩))⟩))⟩)⟩
theorem mk_TTF_TT (W : Int) (l : List Int) (n : Nat) (hW1 : bits .and .i64 (kN l 0) 1 + 1 = W) (hW : 1 ≤ W ∧ W ≤ 2) (hn1 : bits .and .i64 (Int.fdiv (kN l 0) (2 ^ 12)) 3 + 2 = (n : Int)) (hn : n < 6) (c1t : (decide (bits .and .i64 (Int.fdiv (kN l 1) (2 ^ 8)) 3 > 0)) = true) (c2t : (W == 1) = true) (c3f : (bits .and .i64 (Int.fdiv (kN l 1) (2 ^ 10)) 3 == 0) = false) (c4t : (decide (bits .and .i64 (Int.fdiv (kN l 1) (2 ^ 12)) 3 > 0)) = true) (c5t : (decide ((mK W l 4).s + W ≤ 3)) = true) : Vc (vcFn Try.prog false 9 [.row 1 l.length (rowI l)] [.cl [.int .i64 ((0 : Nat) : Int), kptr l] (.int .i64 (kN l 0)) [], .cl [.int .i64 ((0 : Nat) : Int), kptr l] (.int .i64 (kN l 0)) [], .lp [(0, 0), (1, 1), (2, 2)] (mk1 W (winN l) l ⟨0, 0, 0, 0, 0, 0⟩ 0) (.ext 0) (mk1 W (winN l) l (mK W l 4) 4), .cl [.int .i64 (1 : Nat), kptr l] (.int .i64 (kN l 1)) [], .b true, .b true, .b true, .cl [.int .i64 (1 : Nat), kptr l] (.int .i64 (kN l 1)) [], .b true, .b true, .b true, .b true, .b false, .cl [.int .i64 (1 : Nat), kptr l] (.int .i64 (kN l 1)) [], .b true, .b true, .b true, .b true, .b true, .b true, .b true, .b true, .b true, .b true, .b true, .b false, .b false, .b false, .b false, .b false, .b false, .b true, .b false, .b true, .cl [.int .i64 ((0 : Nat) : Int), kptr l] (.int .i64 (kN l 0)) [], .lp [(0, 0), (1, 1), (2, 2), (3, 4)] (mk2 W (winN l) l (mK W l 4) ([mm1, ms1] : List Mm) n 0) (.ext 3) (mk2 W (winN l) l (mK W l 4) ([mm1, ms1] : List Mm) n (n + 1)), .lp [(0, 0), (1, 1), (2, 2), (3, 3), (4, 4)] (mk3 W (winN l) l (mK W l 4) ([mm1, ms1] : List Mm) n 0) (.ext 5) (mk3 W (winN l) l (mK W l 4) ([mm1, ms1] : List Mm) n n)] [(0, 3), (1, 4), (2, 5)] (.agg [.int .i64 W, .int .i64 (winN l), .int .i64 6, .int .i64 (mK W l 4).r0, .int .i64 (mK W l 4).r1, .int .i64 (mK W l 4).r2, .int .i64 (mK W l 4).r3, .own 0 0 3 0 ([mm1, ms1] : List Mm).length, .own 1 0 2 0 (lbL (n + 1)).length, .own 2 0 9 0 (inL l n n).length]) [mmB ([mm1, ms1] : List Mm), lbB (lbL (n + 1)), inB (inL l n n)]) :=
  vc_of (q := ((0 : Int) = (↑(0 : Nat) : Int)) ∧ (List.length l = List.length l) ∧ (∀ (i : Nat), i < List.length l → ∀ (j : Nat), j < (1 : Nat) → AV.int IntKind.i64 (List.getD l i (0 : Int)) = AV.int IntKind.i64 (List.getD l i (0 : Int))) ∧ (PureC Try.prog 26 [.int .i64 ((0 : Nat) : Int), kptr l] (.int .i64 (kN l 0)) []) ∧ (inK IntKind.i64 (Go.bits Go.BinOp.and IntKind.i64 (kN l (0 : Nat)) (1 : Int) + (1 : Int))) ∧ ((0 : Int) = (↑(0 : Nat) : Int)) ∧ (List.length l = List.length l) ∧ (∀ (i : Nat), i < List.length l → ∀ (j : Nat), j < (1 : Nat) → AV.int IntKind.i64 (List.getD l i (0 : Int)) = AV.int IntKind.i64 (List.getD l i (0 : Int))) ∧ (PureC Try.prog 26 [.int .i64 ((0 : Nat) : Int), kptr l] (.int .i64 (kN l 0)) []) ∧ ((0 : Int) ≤ (1 : Int)) ∧ ((3 : Int) ≠ (0 : Int)) ∧ (inK IntKind.i64 (Int.tmod (Go.bits Go.BinOp.and IntKind.i64 (Int.fdiv (kN l (0 : Nat)) ((2 : Int) ^ (1 : Nat))) (255 : Int)) (3 : Int) + (1 : Int))) ∧ (List.length l = List.length l) ∧ (∀ (i : Nat), i < List.length l → ∀ (j : Nat), j < (1 : Nat) → AV.int IntKind.i64 (List.getD l i (0 : Int)) = AV.int IntKind.i64 (List.getD l i (0 : Int))) ∧ cS8m2 W l ∧ (Int.tmod (Go.bits Go.BinOp.and IntKind.i64 (Int.fdiv (kN l (0 : Nat)) ((2 : Int) ^ (1 : Nat))) (255 : Int)) (3 : Int) + (1 : Int) = winN l) ∧ (frS8m10  (((0 : Int) = (↑(0 : Nat) : Int)) ∧ cS8m1 W l ∧ ((1 : Int) = (↑(1 : Nat) : Int)) ∧ (List.length l = List.length l) ∧ (∀ (i : Nat), i < List.length l → ∀ (j : Nat), j < (1 : Nat) → AV.int IntKind.i64 (List.getD l i (0 : Int)) = AV.int IntKind.i64 (List.getD l i (0 : Int))) ∧ (PureC Try.prog 26 [.int .i64 (1 : Nat), kptr l] (.int .i64 (kN l 1)) []) ∧ ((0 : Int) ≤ (8 : Int)) ∧ (decide (Go.bits Go.BinOp.and IntKind.i64 (Int.fdiv (kN l (1 : Nat)) ((2 : Int) ^ (8 : Nat))) (3 : Int) > (0 : Int)) = true) ∧ ((32 : Nat) ≤ (140737488355328 : Nat) ∧ (1 : Nat) ≤ (140737488355328 : Nat)) ∧ ((W == (1 : Int)) = true) ∧ ((W == (1 : Int)) = true) ∧ ((1 : Int) = (↑(1 : Nat) : Int)) ∧ (List.length l = List.length l) ∧ (∀ (i : Nat), i < List.length l → ∀ (j : Nat), j < (1 : Nat) → AV.int IntKind.i64 (List.getD l i (0 : Int)) = AV.int IntKind.i64 (List.getD l i (0 : Int))) ∧ (PureC Try.prog 26 [.int .i64 (1 : Nat), kptr l] (.int .i64 (kN l 1)) []) ∧ ((W == (1 : Int)) = true) ∧ ((0 : Int) ≤ (10 : Int)) ∧ ((W == (1 : Int)) = true) ∧ ((W == (1 : Int)) = true) ∧ ((W == (1 : Int)) = true) ∧ ((Go.bits Go.BinOp.and IntKind.i64 (Int.fdiv (kN l (1 : Nat)) ((2 : Int) ^ (10 : Nat))) (3 : Int) == (0 : Int)) = false) ∧ ((1 : Int) = (↑(1 : Nat) : Int)) ∧ (List.length l = List.length l) ∧ (∀ (i : Nat), i < List.length l → ∀ (j : Nat), j < (1 : Nat) → AV.int IntKind.i64 (List.getD l i (0 : Int)) = AV.int IntKind.i64 (List.getD l i (0 : Int))) ∧ (PureC Try.prog 26 [.int .i64 (1 : Nat), kptr l] (.int .i64 (kN l 1)) []) ∧ ((0 : Int) ≤ (12 : Int)) ∧ (decide (Go.bits Go.BinOp.and IntKind.i64 (Int.fdiv (kN l (1 : Nat)) ((2 : Int) ^ (12 : Nat))) (3 : Int) > (0 : Int)) = true) ∧ (decide (Go.bits Go.BinOp.and IntKind.i64 (Int.fdiv (kN l (1 : Nat)) ((2 : Int) ^ (12 : Nat))) (3 : Int) > (0 : Int)) = true) ∧ (decide (Go.bits Go.BinOp.and IntKind.i64 (Int.fdiv (kN l (1 : Nat)) ((2 : Int) ^ (12 : Nat))) (3 : Int) > (0 : Int)) = true) ∧ (decide (Go.bits Go.BinOp.and IntKind.i64 (Int.fdiv (kN l (1 : Nat)) ((2 : Int) ^ (12 : Nat))) (3 : Int) > (0 : Int)) = true) ∧ (inK IntKind.i64 (M1.s (mK W l (4 : Nat)) + W)) ∧ (decide (Go.bits Go.BinOp.and IntKind.i64 (Int.fdiv (kN l (1 : Nat)) ((2 : Int) ^ (12 : Nat))) (3 : Int) > (0 : Int)) = true) ∧ (decide (Go.bits Go.BinOp.and IntKind.i64 (Int.fdiv (kN l (1 : Nat)) ((2 : Int) ^ (12 : Nat))) (3 : Int) > (0 : Int)) = true) ∧ (decide (M1.s (mK W l (4 : Nat)) + W ≤ (3 : Int)) = true) ∧ (decide (M1.s (mK W l (4 : Nat)) + W ≤ (3 : Int)) = true) ∧ (decide (M1.s (mK W l (4 : Nat)) + W ≤ (3 : Int)) = true) ∧ (decide (M1.s (mK W l (4 : Nat)) + W ≤ (3 : Int)) = true) ∧ (decide (M1.s (mK W l (4 : Nat)) + W ≤ (3 : Int)) = true) ∧ (((↑(1 : Nat) : Int) == (0 : Int)) = false) ∧ (((↑(1 : Nat) : Int) == (0 : Int)) = false) ∧ (((↑(1 : Nat) : Int) == (0 : Int)) = false) ∧ ((0 : Int) ≤ (0 : Int) ∧ (0 : Int) < (↑(1 : Nat) : Int)) ∧ (((↑(1 : Nat) : Int) == (0 : Int)) = false) ∧ (((↑(1 : Nat) : Int) == (0 : Int)) = false) ∧ ((0 : Nat) < (1 : Nat)) ∧ (((↑(1 : Nat) : Int) == (0 : Int)) = false) ∧ (decide (M1.s (mK W l (4 : Nat)) + W ≤ (3 : Int)) = true) ∧ (((↑(1 : Nat) : Int) == (0 : Int)) = false) ∧ (decide (M1.s (mK W l (4 : Nat)) + W ≤ (3 : Int)) = true) ∧ ((0 : Nat) = (0 : Nat) ∧ (1 : Nat) = (1 : Nat) ∧ (64 : Nat) ≤ (140737488355328 : Nat) ∧ (2 : Nat) ≤ (140737488355328 : Nat)) ∧ ((0 : Int) = (↑(0 : Nat) : Int)) ∧ (List.length l = List.length l) ∧ (∀ (i : Nat), i < List.length l → ∀ (j : Nat), j < (1 : Nat) → AV.int IntKind.i64 (List.getD l i (0 : Int)) = AV.int IntKind.i64 (List.getD l i (0 : Int))) ∧ (PureC Try.prog 26 [.int .i64 ((0 : Nat) : Int), kptr l] (.int .i64 (kN l 0)) []) ∧ ((0 : Int) ≤ (12 : Int)) ∧ (inK IntKind.i64 (Go.bits Go.BinOp.and IntKind.i64 (Int.fdiv (kN l (0 : Nat)) ((2 : Int) ^ (12 : Nat))) (3 : Int) + (2 : Int))) ∧ (frS8m8 W l ((frS8m18  ((∀ (i : Nat), i < (2 : Nat) → ∀ (j : Nat), j < (3 : Nat) → (bif Nat.blt i (1 : Nat) then List.getD [AV.str (ByteArray.mk (Array.mk [(109 : UInt8)])), AV.bool false, AV.int IntKind.i64 (1 : Int)] ((i + (0 : Nat)) * (3 : Nat) + j) AV.junk else List.getD [AV.str (ByteArray.mk (Array.mk [(115 : UInt8)])), AV.bool true, AV.int IntKind.i64 (1 : Int)] ((i - (1 : Nat) + (0 : Nat)) * (3 : Nat) + j) AV.junk) = rowL mmC [mm1, ms1] i j) ∧ ((0 : Nat) = (0 : Nat)) ∧ cS8m0 l n ∧ ((0 : Int) = (↑(0 : Nat) : Int)) ∧ (Ok Try.prog (ntOf Try.prog 9) (.loop (lpC Try.prog 9 1)) (mk2 W (winN l) l (mK W l 4) ([mm1, ms1] : List Mm) n 0).st (.ext 3) (mk2 W (winN l) l (mK W l 4) ([mm1, ms1] : List Mm) n (n + 1)).st) ∧ (frS8m8 W l ((frS8m17 n ((∀ (i : Nat), i < List.length (lbL (n + (1 : Nat))) → ∀ (j : Nat), j < (2 : Nat) → rowL lbC (lbL (n + (1 : Nat))) i j = rowL lbC (lbL (n + (1 : Nat))) i j) ∧ ((0 : Nat) = (0 : Nat)) ∧ ((↑n : Int) = (↑n : Int)) ∧ ((0 : Int) = (↑(0 : Nat) : Int)) ∧ (Ok Try.prog (ntOf Try.prog 9) (.loop (lpC Try.prog 9 2)) (mk3 W (winN l) l (mK W l 4) ([mm1, ms1] : List Mm) n 0).st (.ext 5) (mk3 W (winN l) l (mK W l 4) ([mm1, ms1] : List Mm) n n).st) ∧ (frS8m16 W l n ((frS8m15 W l n ((List.length (inL l n n) = List.length (inL l n n)) ∧ True))))))))))))))) (by kernel_rfl)
    ⟨(by first | omega | rfl),
 rfl,
 (fun _ _ _ _ => rfl),
 kC l 0 (by omega),
 (by rw [hW1]; exact in64 (by omega) (by omega)),
 (by first | omega | rfl),
 rfl,
 (fun _ _ _ _ => rfl),
 kC l 0 (by omega),
 (by first | omega | rfl),
 (by first | omega | rfl | (simp; done) | (simp; omega)),
 (in_tm _ _ (by omega) (by omega)),
 rfl,
 (fun _ _ _ _ => rfl),
 hW1,
 (by first | omega | rfl | (simp; done) | (simp; omega)), (frS8m10_mk  ⟨(by first | omega | rfl),
 m1_loop W (winN l) l hW,
 (by first | omega | rfl),
 rfl,
 (fun _ _ _ _ => rfl),
 kC l 1 (by omega),
 (by first | omega | rfl),
 (by first | exact c1t | (rw [hW1]; exact c1t) | (simpa [hW1] using c1t)),
 (by first | omega | rfl),
 (by first | exact c2t | (rw [hW1]; exact c2t) | (simpa [hW1] using c2t)),
 (by first | exact c2t | (rw [hW1]; exact c2t) | (simpa [hW1] using c2t)),
 (by first | omega | rfl),
 rfl,
 (fun _ _ _ _ => rfl),
 kC l 1 (by omega),
 (by first | exact c2t | (rw [hW1]; exact c2t) | (simpa [hW1] using c2t)),
 (by first | omega | rfl),
 (by first | exact c2t | (rw [hW1]; exact c2t) | (simpa [hW1] using c2t)),
 (by first | exact c2t | (rw [hW1]; exact c2t) | (simpa [hW1] using c2t)),
 (by first | exact c2t | (rw [hW1]; exact c2t) | (simpa [hW1] using c2t)),
 (by first | exact c3f | (rw [hW1]; exact c3f) | (simpa [hW1] using c3f)),
 (by first | omega | rfl),
 rfl,
 (fun _ _ _ _ => rfl),
 kC l 1 (by omega),
 (by first | omega | rfl),
 (by first | exact c4t | (rw [hW1]; exact c4t) | (simpa [hW1] using c4t)),
 (by first | exact c4t | (rw [hW1]; exact c4t) | (simpa [hW1] using c4t)),
 (by first | exact c4t | (rw [hW1]; exact c4t) | (simpa [hW1] using c4t)),
 (by first | exact c4t | (rw [hW1]; exact c4t) | (simpa [hW1] using c4t)),
 (in64 (by have := (mK_bd hW l 4).2; omega) (by have := (mK_bd hW l 4).2; omega)),
 (by first | exact c4t | (rw [hW1]; exact c4t) | (simpa [hW1] using c4t)),
 (by first | exact c4t | (rw [hW1]; exact c4t) | (simpa [hW1] using c4t)),
 (by first | exact c5t | (rw [hW1]; exact c5t) | (simpa [hW1] using c5t)),
 (by first | exact c5t | (rw [hW1]; exact c5t) | (simpa [hW1] using c5t)),
 (by first | exact c5t | (rw [hW1]; exact c5t) | (simpa [hW1] using c5t)),
 (by first | exact c5t | (rw [hW1]; exact c5t) | (simpa [hW1] using c5t)),
 (by first | exact c5t | (rw [hW1]; exact c5t) | (simpa [hW1] using c5t)),
 (by first | omega | rfl),
 (by first | omega | rfl),
 (by first | omega | rfl),
 (by first | omega | rfl),
 (by first | omega | rfl),
 (by first | omega | rfl),
 (by first | omega | rfl),
 (by first | omega | rfl),
 (by first | exact c5t | (rw [hW1]; exact c5t) | (simpa [hW1] using c5t)),
 (by first | omega | rfl),
 (by first | exact c5t | (rw [hW1]; exact c5t) | (simpa [hW1] using c5t)),
 (by first | omega | rfl),
 (by first | omega | rfl),
 rfl,
 (fun _ _ _ _ => rfl),
 kC l 0 (by omega),
 (by first | omega | rfl),
 (by rw [hn1]; exact in64 (by omega) (by omega)), (frS8m8_mk W l (frS8m18_mk  ⟨(fun i hi j hj => match i, hi, j, hj with | 0, _, 0, _ => rfl | 0, _, 1, _ => rfl | 0, _, 2, _ => rfl | 1, _, 0, _ => rfl | 1, _, 1, _ => rfl | 1, _, 2, _ => rfl),
 rfl,
 hn1,
 (by first | omega | rfl),
 m2_loop W (winN l) l (mK W l 4) ([mm1, ms1] : List Mm) n hn, (frS8m8_mk W l (frS8m17_mk n ⟨(fun _ _ _ _ => rfl),
 rfl,
 rfl,
 (by first | omega | rfl),
 m3_loop W (winN l) l (mK W l 4) ([mm1, ms1] : List Mm) n hn, (frS8m16_mk W l n (frS8m15_mk W l n ⟨rfl, trivial⟩))⟩))⟩))⟩)⟩
def frS8m19 (W : Int) (l : List Int) (n : Nat) (Z : Prop) : Prop := ((1 : Nat) = (1 : Nat)) ∧ (∀ (i : Nat), i < (1 : Nat) → ∀ (j : Nat), j < (3 : Nat) → rowL mmC [mm2] i j = rowL mmC [mm2] i j) ∧ (List.length (lbL (n + (1 : Nat))) = List.length (lbL (n + (1 : Nat)))) ∧ (∀ (i : Nat), i < List.length (lbL (n + (1 : Nat))) → ∀ (j : Nat), j < (2 : Nat) → rowL lbC (lbL (n + (1 : Nat))) i j = rowL lbC (lbL (n + (1 : Nat))) i j) ∧ (List.length (inL l n n) = List.length (inL l n n)) ∧ (∀ (i : Nat), i < List.length (inL l n n) → ∀ (j : Nat), j < (9 : Nat) → rowL inC (inL l n n) i j = rowL inC (inL l n n) i j) ∧ (W = W) ∧ (winN l = winN l) ∧ ((6 : Int) = (6 : Int)) ∧ Z
theorem frS8m19_mk (W : Int) (l : List Int) (n : Nat) {Z : Prop} (z : Z) : frS8m19 W l n Z := ⟨rfl, (fun _ _ _ _ => rfl), rfl, (fun _ _ _ _ => rfl), rfl, (fun _ _ _ _ => rfl), rfl, rfl, rfl, z⟩
def frS8m20 (n : Nat) (Z : Prop) : Prop := ((0 : Nat) = (0 : Nat)) ∧ ((1 : Nat) = (1 : Nat)) ∧ ((0 : Nat) = (0 : Nat)) ∧ (List.length (lbL (n + (1 : Nat))) = List.length (lbL (n + (1 : Nat)))) ∧ ((0 : Nat) = (0 : Nat)) ∧ ((0 : Nat) = (0 : Nat)) ∧ ((1 : Nat) = (1 : Nat)) ∧ (∀ (i : Nat), i < (1 : Nat) → ∀ (j : Nat), j < (3 : Nat) → rowL mmC [mm2] i j = rowL mmC [mm2] i j) ∧ (List.length (lbL (n + (1 : Nat))) = List.length (lbL (n + (1 : Nat)))) ∧ Z
theorem frS8m20_mk (n : Nat) {Z : Prop} (z : Z) : frS8m20 n Z := ⟨rfl, rfl, rfl, rfl, rfl, rfl, rfl, (fun _ _ _ _ => rfl), rfl, z⟩
theorem mk_TTT_F (W : Int) (l : List Int) (n : Nat) (hW1 : bits .and .i64 (kN l 0) 1 + 1 = W) (hW : 1 ≤ W ∧ W ≤ 2) (hn1 : bits .and .i64 (Int.fdiv (kN l 0) (2 ^ 12)) 3 + 2 = (n : Int)) (hn : n < 6) (c1t : (decide (bits .and .i64 (Int.fdiv (kN l 1) (2 ^ 8)) 3 > 0)) = true) (c2t : (W == 1) = true) (c3t : (bits .and .i64 (Int.fdiv (kN l 1) (2 ^ 10)) 3 == 0) = true) (c4f : (decide (bits .and .i64 (Int.fdiv (kN l 1) (2 ^ 12)) 3 > 0)) = false) : Vc (vcFn Try.prog false 9 [.row 1 l.length (rowI l)] [.cl [.int .i64 ((0 : Nat) : Int), kptr l] (.int .i64 (kN l 0)) [], .cl [.int .i64 ((0 : Nat) : Int), kptr l] (.int .i64 (kN l 0)) [], .lp [(0, 0), (1, 1), (2, 2)] (mk1 W (winN l) l ⟨0, 0, 0, 0, 0, 0⟩ 0) (.ext 0) (mk1 W (winN l) l (mK W l 4) 4), .cl [.int .i64 (1 : Nat), kptr l] (.int .i64 (kN l 1)) [], .b true, .b true, .b true, .cl [.int .i64 (1 : Nat), kptr l] (.int .i64 (kN l 1)) [], .b true, .b true, .b true, .b true, .b true, .cl [.int .i64 (1 : Nat), kptr l] (.int .i64 (kN l 1)) [], .b false, .b false, .b false, .b false, .b false, .b false, .cl [.int .i64 ((0 : Nat) : Int), kptr l] (.int .i64 (kN l 0)) [], .lp [(0, 0), (1, 1), (2, 2), (3, 4)] (mk2 W (winN l) l (mK W l 4) ([mm2] : List Mm) n 0) (.ext 3) (mk2 W (winN l) l (mK W l 4) ([mm2] : List Mm) n (n + 1)), .lp [(0, 0), (1, 1), (2, 2), (3, 3), (4, 4)] (mk3 W (winN l) l (mK W l 4) ([mm2] : List Mm) n 0) (.ext 5) (mk3 W (winN l) l (mK W l 4) ([mm2] : List Mm) n n)] [(0, 3), (1, 4), (2, 5)] (.agg [.int .i64 W, .int .i64 (winN l), .int .i64 6, .int .i64 (mK W l 4).r0, .int .i64 (mK W l 4).r1, .int .i64 (mK W l 4).r2, .int .i64 (mK W l 4).r3, .own 0 0 3 0 ([mm2] : List Mm).length, .own 1 0 2 0 (lbL (n + 1)).length, .own 2 0 9 0 (inL l n n).length]) [mmB ([mm2] : List Mm), lbB (lbL (n + 1)), inB (inL l n n)]) :=
  vc_of (q := ((0 : Int) = (↑(0 : Nat) : Int)) ∧ (List.length l = List.length l) ∧ (∀ (i : Nat), i < List.length l → ∀ (j : Nat), j < (1 : Nat) → AV.int IntKind.i64 (List.getD l i (0 : Int)) = AV.int IntKind.i64 (List.getD l i (0 : Int))) ∧ (PureC Try.prog 26 [.int .i64 ((0 : Nat) : Int), kptr l] (.int .i64 (kN l 0)) []) ∧ (inK IntKind.i64 (Go.bits Go.BinOp.and IntKind.i64 (kN l (0 : Nat)) (1 : Int) + (1 : Int))) ∧ ((0 : Int) = (↑(0 : Nat) : Int)) ∧ (List.length l = List.length l) ∧ (∀ (i : Nat), i < List.length l → ∀ (j : Nat), j < (1 : Nat) → AV.int IntKind.i64 (List.getD l i (0 : Int)) = AV.int IntKind.i64 (List.getD l i (0 : Int))) ∧ (PureC Try.prog 26 [.int .i64 ((0 : Nat) : Int), kptr l] (.int .i64 (kN l 0)) []) ∧ ((0 : Int) ≤ (1 : Int)) ∧ ((3 : Int) ≠ (0 : Int)) ∧ (inK IntKind.i64 (Int.tmod (Go.bits Go.BinOp.and IntKind.i64 (Int.fdiv (kN l (0 : Nat)) ((2 : Int) ^ (1 : Nat))) (255 : Int)) (3 : Int) + (1 : Int))) ∧ (List.length l = List.length l) ∧ (∀ (i : Nat), i < List.length l → ∀ (j : Nat), j < (1 : Nat) → AV.int IntKind.i64 (List.getD l i (0 : Int)) = AV.int IntKind.i64 (List.getD l i (0 : Int))) ∧ cS8m2 W l ∧ (Int.tmod (Go.bits Go.BinOp.and IntKind.i64 (Int.fdiv (kN l (0 : Nat)) ((2 : Int) ^ (1 : Nat))) (255 : Int)) (3 : Int) + (1 : Int) = winN l) ∧ (frS8m10  (((0 : Int) = (↑(0 : Nat) : Int)) ∧ cS8m1 W l ∧ ((1 : Int) = (↑(1 : Nat) : Int)) ∧ (List.length l = List.length l) ∧ (∀ (i : Nat), i < List.length l → ∀ (j : Nat), j < (1 : Nat) → AV.int IntKind.i64 (List.getD l i (0 : Int)) = AV.int IntKind.i64 (List.getD l i (0 : Int))) ∧ (PureC Try.prog 26 [.int .i64 (1 : Nat), kptr l] (.int .i64 (kN l 1)) []) ∧ ((0 : Int) ≤ (8 : Int)) ∧ (decide (Go.bits Go.BinOp.and IntKind.i64 (Int.fdiv (kN l (1 : Nat)) ((2 : Int) ^ (8 : Nat))) (3 : Int) > (0 : Int)) = true) ∧ ((32 : Nat) ≤ (140737488355328 : Nat) ∧ (1 : Nat) ≤ (140737488355328 : Nat)) ∧ ((W == (1 : Int)) = true) ∧ ((W == (1 : Int)) = true) ∧ ((1 : Int) = (↑(1 : Nat) : Int)) ∧ (List.length l = List.length l) ∧ (∀ (i : Nat), i < List.length l → ∀ (j : Nat), j < (1 : Nat) → AV.int IntKind.i64 (List.getD l i (0 : Int)) = AV.int IntKind.i64 (List.getD l i (0 : Int))) ∧ (PureC Try.prog 26 [.int .i64 (1 : Nat), kptr l] (.int .i64 (kN l 1)) []) ∧ ((W == (1 : Int)) = true) ∧ ((0 : Int) ≤ (10 : Int)) ∧ ((W == (1 : Int)) = true) ∧ ((W == (1 : Int)) = true) ∧ ((W == (1 : Int)) = true) ∧ ((Go.bits Go.BinOp.and IntKind.i64 (Int.fdiv (kN l (1 : Nat)) ((2 : Int) ^ (10 : Nat))) (3 : Int) == (0 : Int)) = true) ∧ ((0 : Int) ≤ (0 : Int) ∧ (0 : Int) < (↑(1 : Nat) : Int)) ∧ ((0 : Nat) < (1 : Nat)) ∧ ((1 : Int) = (↑(1 : Nat) : Int)) ∧ (List.length l = List.length l) ∧ (∀ (i : Nat), i < List.length l → ∀ (j : Nat), j < (1 : Nat) → AV.int IntKind.i64 (List.getD l i (0 : Int)) = AV.int IntKind.i64 (List.getD l i (0 : Int))) ∧ (PureC Try.prog 26 [.int .i64 (1 : Nat), kptr l] (.int .i64 (kN l 1)) []) ∧ ((0 : Int) ≤ (12 : Int)) ∧ (decide (Go.bits Go.BinOp.and IntKind.i64 (Int.fdiv (kN l (1 : Nat)) ((2 : Int) ^ (12 : Nat))) (3 : Int) > (0 : Int)) = false) ∧ (decide (Go.bits Go.BinOp.and IntKind.i64 (Int.fdiv (kN l (1 : Nat)) ((2 : Int) ^ (12 : Nat))) (3 : Int) > (0 : Int)) = false) ∧ (decide (Go.bits Go.BinOp.and IntKind.i64 (Int.fdiv (kN l (1 : Nat)) ((2 : Int) ^ (12 : Nat))) (3 : Int) > (0 : Int)) = false) ∧ (decide (Go.bits Go.BinOp.and IntKind.i64 (Int.fdiv (kN l (1 : Nat)) ((2 : Int) ^ (12 : Nat))) (3 : Int) > (0 : Int)) = false) ∧ (decide (Go.bits Go.BinOp.and IntKind.i64 (Int.fdiv (kN l (1 : Nat)) ((2 : Int) ^ (12 : Nat))) (3 : Int) > (0 : Int)) = false) ∧ (decide (Go.bits Go.BinOp.and IntKind.i64 (Int.fdiv (kN l (1 : Nat)) ((2 : Int) ^ (12 : Nat))) (3 : Int) > (0 : Int)) = false) ∧ ((0 : Int) = (↑(0 : Nat) : Int)) ∧ (List.length l = List.length l) ∧ (∀ (i : Nat), i < List.length l → ∀ (j : Nat), j < (1 : Nat) → AV.int IntKind.i64 (List.getD l i (0 : Int)) = AV.int IntKind.i64 (List.getD l i (0 : Int))) ∧ (PureC Try.prog 26 [.int .i64 ((0 : Nat) : Int), kptr l] (.int .i64 (kN l 0)) []) ∧ ((0 : Int) ≤ (12 : Int)) ∧ (inK IntKind.i64 (Go.bits Go.BinOp.and IntKind.i64 (Int.fdiv (kN l (0 : Nat)) ((2 : Int) ^ (12 : Nat))) (3 : Int) + (2 : Int))) ∧ (frS8m8 W l ((frS8m11  ((∀ (i : Nat), i < (1 : Nat) → ∀ (j : Nat), j < (3 : Nat) → (bif Nat.beq i (0 : Nat) && Nat.ble (2 : Nat) j && Nat.blt j (3 : Nat) then List.getD [AV.int IntKind.i64 (2 : Int)] (j - (2 : Nat)) AV.junk else List.getD [AV.str (ByteArray.mk (Array.mk [(109 : UInt8)])), AV.bool false, AV.int IntKind.i64 (1 : Int)] ((i + (0 : Nat)) * (3 : Nat) + j) AV.junk) = rowL mmC [mm2] i j) ∧ ((0 : Nat) = (0 : Nat)) ∧ cS8m0 l n ∧ ((0 : Int) = (↑(0 : Nat) : Int)) ∧ (Ok Try.prog (ntOf Try.prog 9) (.loop (lpC Try.prog 9 1)) (mk2 W (winN l) l (mK W l 4) ([mm2] : List Mm) n 0).st (.ext 3) (mk2 W (winN l) l (mK W l 4) ([mm2] : List Mm) n (n + 1)).st) ∧ (frS8m8 W l ((frS8m20 n ((∀ (i : Nat), i < List.length (lbL (n + (1 : Nat))) → ∀ (j : Nat), j < (2 : Nat) → rowL lbC (lbL (n + (1 : Nat))) i j = rowL lbC (lbL (n + (1 : Nat))) i j) ∧ ((0 : Nat) = (0 : Nat)) ∧ ((↑n : Int) = (↑n : Int)) ∧ ((0 : Int) = (↑(0 : Nat) : Int)) ∧ (Ok Try.prog (ntOf Try.prog 9) (.loop (lpC Try.prog 9 2)) (mk3 W (winN l) l (mK W l 4) ([mm2] : List Mm) n 0).st (.ext 5) (mk3 W (winN l) l (mK W l 4) ([mm2] : List Mm) n n).st) ∧ (frS8m19 W l n ((frS8m12 W l n ((List.length (inL l n n) = List.length (inL l n n)) ∧ True))))))))))))))) (by kernel_rfl)
    ⟨(by first | omega | rfl),
 rfl,
 (fun _ _ _ _ => rfl),
 kC l 0 (by omega),
 (by rw [hW1]; exact in64 (by omega) (by omega)),
 (by first | omega | rfl),
 rfl,
 (fun _ _ _ _ => rfl),
 kC l 0 (by omega),
 (by first | omega | rfl),
 (by first | omega | rfl | (simp; done) | (simp; omega)),
 (in_tm _ _ (by omega) (by omega)),
 rfl,
 (fun _ _ _ _ => rfl),
 hW1,
 (by first | omega | rfl | (simp; done) | (simp; omega)), (frS8m10_mk  ⟨(by first | omega | rfl),
 m1_loop W (winN l) l hW,
 (by first | omega | rfl),
 rfl,
 (fun _ _ _ _ => rfl),
 kC l 1 (by omega),
 (by first | omega | rfl),
 (by first | exact c1t | (rw [hW1]; exact c1t) | (simpa [hW1] using c1t)),
 (by first | omega | rfl),
 (by first | exact c2t | (rw [hW1]; exact c2t) | (simpa [hW1] using c2t)),
 (by first | exact c2t | (rw [hW1]; exact c2t) | (simpa [hW1] using c2t)),
 (by first | omega | rfl),
 rfl,
 (fun _ _ _ _ => rfl),
 kC l 1 (by omega),
 (by first | exact c2t | (rw [hW1]; exact c2t) | (simpa [hW1] using c2t)),
 (by first | omega | rfl),
 (by first | exact c2t | (rw [hW1]; exact c2t) | (simpa [hW1] using c2t)),
 (by first | exact c2t | (rw [hW1]; exact c2t) | (simpa [hW1] using c2t)),
 (by first | exact c2t | (rw [hW1]; exact c2t) | (simpa [hW1] using c2t)),
 (by first | exact c3t | (rw [hW1]; exact c3t) | (simpa [hW1] using c3t)),
 (by first | omega | rfl),
 (by first | omega | rfl),
 (by first | omega | rfl),
 rfl,
 (fun _ _ _ _ => rfl),
 kC l 1 (by omega),
 (by first | omega | rfl),
 (by first | exact c4f | (rw [hW1]; exact c4f) | (simpa [hW1] using c4f)),
 (by first | exact c4f | (rw [hW1]; exact c4f) | (simpa [hW1] using c4f)),
 (by first | exact c4f | (rw [hW1]; exact c4f) | (simpa [hW1] using c4f)),
 (by first | exact c4f | (rw [hW1]; exact c4f) | (simpa [hW1] using c4f)),
 (by first | exact c4f | (rw [hW1]; exact c4f) | (simpa [hW1] using c4f)),
 (by first | exact c4f | (rw [hW1]; exact c4f) | (simpa [hW1] using c4f)),
 (by first | omega | rfl),
 rfl,
 (fun _ _ _ _ => rfl),
 kC l 0 (by omega),
 (by first | omega | rfl),
 (by rw [hn1]; exact in64 (by omega) (by omega)), (frS8m8_mk W l (frS8m11_mk  ⟨(fun i hi j hj => match i, hi, j, hj with | 0, _, 0, _ => rfl | 0, _, 1, _ => rfl | 0, _, 2, _ => rfl),
 rfl,
 hn1,
 (by first | omega | rfl),
 m2_loop W (winN l) l (mK W l 4) ([mm2] : List Mm) n hn, (frS8m8_mk W l (frS8m20_mk n ⟨(fun _ _ _ _ => rfl),
 rfl,
 rfl,
 (by first | omega | rfl),
 m3_loop W (winN l) l (mK W l 4) ([mm2] : List Mm) n hn, (frS8m19_mk W l n (frS8m12_mk W l n ⟨rfl, trivial⟩))⟩))⟩))⟩)⟩
theorem mk_TTT_TF (W : Int) (l : List Int) (n : Nat) (hW1 : bits .and .i64 (kN l 0) 1 + 1 = W) (hW : 1 ≤ W ∧ W ≤ 2) (hn1 : bits .and .i64 (Int.fdiv (kN l 0) (2 ^ 12)) 3 + 2 = (n : Int)) (hn : n < 6) (c1t : (decide (bits .and .i64 (Int.fdiv (kN l 1) (2 ^ 8)) 3 > 0)) = true) (c2t : (W == 1) = true) (c3t : (bits .and .i64 (Int.fdiv (kN l 1) (2 ^ 10)) 3 == 0) = true) (c4t : (decide (bits .and .i64 (Int.fdiv (kN l 1) (2 ^ 12)) 3 > 0)) = true) (c5f : (decide ((mK W l 4).s + W ≤ 3)) = false) : Vc (vcFn Try.prog false 9 [.row 1 l.length (rowI l)] [.cl [.int .i64 ((0 : Nat) : Int), kptr l] (.int .i64 (kN l 0)) [], .cl [.int .i64 ((0 : Nat) : Int), kptr l] (.int .i64 (kN l 0)) [], .lp [(0, 0), (1, 1), (2, 2)] (mk1 W (winN l) l ⟨0, 0, 0, 0, 0, 0⟩ 0) (.ext 0) (mk1 W (winN l) l (mK W l 4) 4), .cl [.int .i64 (1 : Nat), kptr l] (.int .i64 (kN l 1)) [], .b true, .b true, .b true, .cl [.int .i64 (1 : Nat), kptr l] (.int .i64 (kN l 1)) [], .b true, .b true, .b true, .b true, .b true, .cl [.int .i64 (1 : Nat), kptr l] (.int .i64 (kN l 1)) [], .b true, .b true, .b true, .b true, .b true, .b true, .b false, .b false, .b false, .b false, .b false, .b false, .b false, .cl [.int .i64 ((0 : Nat) : Int), kptr l] (.int .i64 (kN l 0)) [], .lp [(0, 0), (1, 1), (2, 2), (3, 4)] (mk2 W (winN l) l (mK W l 4) ([mm2] : List Mm) n 0) (.ext 3) (mk2 W (winN l) l (mK W l 4) ([mm2] : List Mm) n (n + 1)), .lp [(0, 0), (1, 1), (2, 2), (3, 3), (4, 4)] (mk3 W (winN l) l (mK W l 4) ([mm2] : List Mm) n 0) (.ext 5) (mk3 W (winN l) l (mK W l 4) ([mm2] : List Mm) n n)] [(0, 3), (1, 4), (2, 5)] (.agg [.int .i64 W, .int .i64 (winN l), .int .i64 6, .int .i64 (mK W l 4).r0, .int .i64 (mK W l 4).r1, .int .i64 (mK W l 4).r2, .int .i64 (mK W l 4).r3, .own 0 0 3 0 ([mm2] : List Mm).length, .own 1 0 2 0 (lbL (n + 1)).length, .own 2 0 9 0 (inL l n n).length]) [mmB ([mm2] : List Mm), lbB (lbL (n + 1)), inB (inL l n n)]) :=
  vc_of (q := ((0 : Int) = (↑(0 : Nat) : Int)) ∧ (List.length l = List.length l) ∧ (∀ (i : Nat), i < List.length l → ∀ (j : Nat), j < (1 : Nat) → AV.int IntKind.i64 (List.getD l i (0 : Int)) = AV.int IntKind.i64 (List.getD l i (0 : Int))) ∧ (PureC Try.prog 26 [.int .i64 ((0 : Nat) : Int), kptr l] (.int .i64 (kN l 0)) []) ∧ (inK IntKind.i64 (Go.bits Go.BinOp.and IntKind.i64 (kN l (0 : Nat)) (1 : Int) + (1 : Int))) ∧ ((0 : Int) = (↑(0 : Nat) : Int)) ∧ (List.length l = List.length l) ∧ (∀ (i : Nat), i < List.length l → ∀ (j : Nat), j < (1 : Nat) → AV.int IntKind.i64 (List.getD l i (0 : Int)) = AV.int IntKind.i64 (List.getD l i (0 : Int))) ∧ (PureC Try.prog 26 [.int .i64 ((0 : Nat) : Int), kptr l] (.int .i64 (kN l 0)) []) ∧ ((0 : Int) ≤ (1 : Int)) ∧ ((3 : Int) ≠ (0 : Int)) ∧ (inK IntKind.i64 (Int.tmod (Go.bits Go.BinOp.and IntKind.i64 (Int.fdiv (kN l (0 : Nat)) ((2 : Int) ^ (1 : Nat))) (255 : Int)) (3 : Int) + (1 : Int))) ∧ (List.length l = List.length l) ∧ (∀ (i : Nat), i < List.length l → ∀ (j : Nat), j < (1 : Nat) → AV.int IntKind.i64 (List.getD l i (0 : Int)) = AV.int IntKind.i64 (List.getD l i (0 : Int))) ∧ cS8m2 W l ∧ (Int.tmod (Go.bits Go.BinOp.and IntKind.i64 (Int.fdiv (kN l (0 : Nat)) ((2 : Int) ^ (1 : Nat))) (255 : Int)) (3 : Int) + (1 : Int) = winN l) ∧ (frS8m10  (((0 : Int) = (↑(0 : Nat) : Int)) ∧ cS8m1 W l ∧ ((1 : Int) = (↑(1 : Nat) : Int)) ∧ (List.length l = List.length l) ∧ (∀ (i : Nat), i < List.length l → ∀ (j : Nat), j < (1 : Nat) → AV.int IntKind.i64 (List.getD l i (0 : Int)) = AV.int IntKind.i64 (List.getD l i (0 : Int))) ∧ (PureC Try.prog 26 [.int .i64 (1 : Nat), kptr l] (.int .i64 (kN l 1)) []) ∧ ((0 : Int) ≤ (8 : Int)) ∧ (decide (Go.bits Go.BinOp.and IntKind.i64 (Int.fdiv (kN l (1 : Nat)) ((2 : Int) ^ (8 : Nat))) (3 : Int) > (0 : Int)) = true) ∧ ((32 : Nat) ≤ (140737488355328 : Nat) ∧ (1 : Nat) ≤ (140737488355328 : Nat)) ∧ ((W == (1 : Int)) = true) ∧ ((W == (1 : Int)) = true) ∧ ((1 : Int) = (↑(1 : Nat) : Int)) ∧ (List.length l = List.length l) ∧ (∀ (i : Nat), i < List.length l → ∀ (j : Nat), j < (1 : Nat) → AV.int IntKind.i64 (List.getD l i (0 : Int)) = AV.int IntKind.i64 (List.getD l i (0 : Int))) ∧ (PureC Try.prog 26 [.int .i64 (1 : Nat), kptr l] (.int .i64 (kN l 1)) []) ∧ ((W == (1 : Int)) = true) ∧ ((0 : Int) ≤ (10 : Int)) ∧ ((W == (1 : Int)) = true) ∧ ((W == (1 : Int)) = true) ∧ ((W == (1 : Int)) = true) ∧ ((Go.bits Go.BinOp.and IntKind.i64 (Int.fdiv (kN l (1 : Nat)) ((2 : Int) ^ (10 : Nat))) (3 : Int) == (0 : Int)) = true) ∧ ((0 : Int) ≤ (0 : Int) ∧ (0 : Int) < (↑(1 : Nat) : Int)) ∧ ((0 : Nat) < (1 : Nat)) ∧ ((1 : Int) = (↑(1 : Nat) : Int)) ∧ (List.length l = List.length l) ∧ (∀ (i : Nat), i < List.length l → ∀ (j : Nat), j < (1 : Nat) → AV.int IntKind.i64 (List.getD l i (0 : Int)) = AV.int IntKind.i64 (List.getD l i (0 : Int))) ∧ (PureC Try.prog 26 [.int .i64 (1 : Nat), kptr l] (.int .i64 (kN l 1)) []) ∧ ((0 : Int) ≤ (12 : Int)) ∧ (decide (Go.bits Go.BinOp.and IntKind.i64 (Int.fdiv (kN l (1 : Nat)) ((2 : Int) ^ (12 : Nat))) (3 : Int) > (0 : Int)) = true) ∧ (decide (Go.bits Go.BinOp.and IntKind.i64 (Int.fdiv (kN l (1 : Nat)) ((2 : Int) ^ (12 : Nat))) (3 : Int) > (0 : Int)) = true) ∧ (decide (Go.bits Go.BinOp.and IntKind.i64 (Int.fdiv (kN l (1 : Nat)) ((2 : Int) ^ (12 : Nat))) (3 : Int) > (0 : Int)) = true) ∧ (decide (Go.bits Go.BinOp.and IntKind.i64 (Int.fdiv (kN l (1 : Nat)) ((2 : Int) ^ (12 : Nat))) (3 : Int) > (0 : Int)) = true) ∧ (inK IntKind.i64 (M1.s (mK W l (4 : Nat)) + W)) ∧ (decide (Go.bits Go.BinOp.and IntKind.i64 (Int.fdiv (kN l (1 : Nat)) ((2 : Int) ^ (12 : Nat))) (3 : Int) > (0 : Int)) = true) ∧ (decide (Go.bits Go.BinOp.and IntKind.i64 (Int.fdiv (kN l (1 : Nat)) ((2 : Int) ^ (12 : Nat))) (3 : Int) > (0 : Int)) = true) ∧ (decide (M1.s (mK W l (4 : Nat)) + W ≤ (3 : Int)) = false) ∧ (decide (M1.s (mK W l (4 : Nat)) + W ≤ (3 : Int)) = false) ∧ (decide (M1.s (mK W l (4 : Nat)) + W ≤ (3 : Int)) = false) ∧ (decide (M1.s (mK W l (4 : Nat)) + W ≤ (3 : Int)) = false) ∧ (decide (M1.s (mK W l (4 : Nat)) + W ≤ (3 : Int)) = false) ∧ (decide (M1.s (mK W l (4 : Nat)) + W ≤ (3 : Int)) = false) ∧ (decide (M1.s (mK W l (4 : Nat)) + W ≤ (3 : Int)) = false) ∧ ((0 : Int) = (↑(0 : Nat) : Int)) ∧ (List.length l = List.length l) ∧ (∀ (i : Nat), i < List.length l → ∀ (j : Nat), j < (1 : Nat) → AV.int IntKind.i64 (List.getD l i (0 : Int)) = AV.int IntKind.i64 (List.getD l i (0 : Int))) ∧ (PureC Try.prog 26 [.int .i64 ((0 : Nat) : Int), kptr l] (.int .i64 (kN l 0)) []) ∧ ((0 : Int) ≤ (12 : Int)) ∧ (inK IntKind.i64 (Go.bits Go.BinOp.and IntKind.i64 (Int.fdiv (kN l (0 : Nat)) ((2 : Int) ^ (12 : Nat))) (3 : Int) + (2 : Int))) ∧ (frS8m8 W l ((frS8m11  ((∀ (i : Nat), i < (1 : Nat) → ∀ (j : Nat), j < (3 : Nat) → (bif Nat.beq i (0 : Nat) && Nat.ble (2 : Nat) j && Nat.blt j (3 : Nat) then List.getD [AV.int IntKind.i64 (2 : Int)] (j - (2 : Nat)) AV.junk else List.getD [AV.str (ByteArray.mk (Array.mk [(109 : UInt8)])), AV.bool false, AV.int IntKind.i64 (1 : Int)] ((i + (0 : Nat)) * (3 : Nat) + j) AV.junk) = rowL mmC [mm2] i j) ∧ ((0 : Nat) = (0 : Nat)) ∧ cS8m0 l n ∧ ((0 : Int) = (↑(0 : Nat) : Int)) ∧ (Ok Try.prog (ntOf Try.prog 9) (.loop (lpC Try.prog 9 1)) (mk2 W (winN l) l (mK W l 4) ([mm2] : List Mm) n 0).st (.ext 3) (mk2 W (winN l) l (mK W l 4) ([mm2] : List Mm) n (n + 1)).st) ∧ (frS8m8 W l ((frS8m20 n ((∀ (i : Nat), i < List.length (lbL (n + (1 : Nat))) → ∀ (j : Nat), j < (2 : Nat) → rowL lbC (lbL (n + (1 : Nat))) i j = rowL lbC (lbL (n + (1 : Nat))) i j) ∧ ((0 : Nat) = (0 : Nat)) ∧ ((↑n : Int) = (↑n : Int)) ∧ ((0 : Int) = (↑(0 : Nat) : Int)) ∧ (Ok Try.prog (ntOf Try.prog 9) (.loop (lpC Try.prog 9 2)) (mk3 W (winN l) l (mK W l 4) ([mm2] : List Mm) n 0).st (.ext 5) (mk3 W (winN l) l (mK W l 4) ([mm2] : List Mm) n n).st) ∧ (frS8m19 W l n ((frS8m12 W l n ((List.length (inL l n n) = List.length (inL l n n)) ∧ True))))))))))))))) (by kernel_rfl)
    ⟨(by first | omega | rfl),
 rfl,
 (fun _ _ _ _ => rfl),
 kC l 0 (by omega),
 (by rw [hW1]; exact in64 (by omega) (by omega)),
 (by first | omega | rfl),
 rfl,
 (fun _ _ _ _ => rfl),
 kC l 0 (by omega),
 (by first | omega | rfl),
 (by first | omega | rfl | (simp; done) | (simp; omega)),
 (in_tm _ _ (by omega) (by omega)),
 rfl,
 (fun _ _ _ _ => rfl),
 hW1,
 (by first | omega | rfl | (simp; done) | (simp; omega)), (frS8m10_mk  ⟨(by first | omega | rfl),
 m1_loop W (winN l) l hW,
 (by first | omega | rfl),
 rfl,
 (fun _ _ _ _ => rfl),
 kC l 1 (by omega),
 (by first | omega | rfl),
 (by first | exact c1t | (rw [hW1]; exact c1t) | (simpa [hW1] using c1t)),
 (by first | omega | rfl),
 (by first | exact c2t | (rw [hW1]; exact c2t) | (simpa [hW1] using c2t)),
 (by first | exact c2t | (rw [hW1]; exact c2t) | (simpa [hW1] using c2t)),
 (by first | omega | rfl),
 rfl,
 (fun _ _ _ _ => rfl),
 kC l 1 (by omega),
 (by first | exact c2t | (rw [hW1]; exact c2t) | (simpa [hW1] using c2t)),
 (by first | omega | rfl),
 (by first | exact c2t | (rw [hW1]; exact c2t) | (simpa [hW1] using c2t)),
 (by first | exact c2t | (rw [hW1]; exact c2t) | (simpa [hW1] using c2t)),
 (by first | exact c2t | (rw [hW1]; exact c2t) | (simpa [hW1] using c2t)),
 (by first | exact c3t | (rw [hW1]; exact c3t) | (simpa [hW1] using c3t)),
 (by first | omega | rfl),
 (by first | omega | rfl),
 (by first | omega | rfl),
 rfl,
 (fun _ _ _ _ => rfl),
 kC l 1 (by omega),
 (by first | omega | rfl),
 (by first | exact c4t | (rw [hW1]; exact c4t) | (simpa [hW1] using c4t)),
 (by first | exact c4t | (rw [hW1]; exact c4t) | (simpa [hW1] using c4t)),
 (by first | exact c4t | (rw [hW1]; exact c4t) | (simpa [hW1] using c4t)),
 (by first | exact c4t | (rw [hW1]; exact c4t) | (simpa [hW1] using c4t)),
 (in64 (by have := (mK_bd hW l 4).2; omega) (by have := (mK_bd hW l 4).2; omega)),
 (by first | exact c4t | (rw [hW1]; exact c4t) | (simpa [hW1] using c4t)),
 (by first | exact c4t | (rw [hW1]; exact c4t) | (simpa [hW1] using c4t)),
 (by first | exact c5f | (rw [hW1]; exact c5f) | (simpa [hW1] using c5f)),
 (by first | exact c5f | (rw [hW1]; exact c5f) | (simpa [hW1] using c5f)),
 (by first | exact c5f | (rw [hW1]; exact c5f) | (simpa [hW1] using c5f)),
 (by first | exact c5f | (rw [hW1]; exact c5f) | (simpa [hW1] using c5f)),
 (by first | exact c5f | (rw [hW1]; exact c5f) | (simpa [hW1] using c5f)),
 (by first | exact c5f | (rw [hW1]; exact c5f) | (simpa [hW1] using c5f)),
 (by first | exact c5f | (rw [hW1]; exact c5f) | (simpa [hW1] using c5f)),
 (by first | omega | rfl),
 rfl,
 (fun _ _ _ _ => rfl),
 kC l 0 (by omega),
 (by first | omega | rfl),
 (by rw [hn1]; exact in64 (by omega) (by omega)), (frS8m8_mk W l (frS8m11_mk  ⟨(fun i hi j hj => match i, hi, j, hj with | 0, _, 0, _ => rfl | 0, _, 1, _ => rfl | 0, _, 2, _ => rfl),
 rfl,
 hn1,
 (by first | omega | rfl),
 m2_loop W (winN l) l (mK W l 4) ([mm2] : List Mm) n hn, (frS8m8_mk W l (frS8m20_mk n ⟨(fun _ _ _ _ => rfl),
 rfl,
 rfl,
 (by first | omega | rfl),
 m3_loop W (winN l) l (mK W l 4) ([mm2] : List Mm) n hn, (frS8m19_mk W l n (frS8m12_mk W l n ⟨rfl, trivial⟩))⟩))⟩))⟩)⟩
theorem mk_TTT_TT (W : Int) (l : List Int) (n : Nat) (hW1 : bits .and .i64 (kN l 0) 1 + 1 = W) (hW : 1 ≤ W ∧ W ≤ 2) (hn1 : bits .and .i64 (Int.fdiv (kN l 0) (2 ^ 12)) 3 + 2 = (n : Int)) (hn : n < 6) (c1t : (decide (bits .and .i64 (Int.fdiv (kN l 1) (2 ^ 8)) 3 > 0)) = true) (c2t : (W == 1) = true) (c3t : (bits .and .i64 (Int.fdiv (kN l 1) (2 ^ 10)) 3 == 0) = true) (c4t : (decide (bits .and .i64 (Int.fdiv (kN l 1) (2 ^ 12)) 3 > 0)) = true) (c5t : (decide ((mK W l 4).s + W ≤ 3)) = true) : Vc (vcFn Try.prog false 9 [.row 1 l.length (rowI l)] [.cl [.int .i64 ((0 : Nat) : Int), kptr l] (.int .i64 (kN l 0)) [], .cl [.int .i64 ((0 : Nat) : Int), kptr l] (.int .i64 (kN l 0)) [], .lp [(0, 0), (1, 1), (2, 2)] (mk1 W (winN l) l ⟨0, 0, 0, 0, 0, 0⟩ 0) (.ext 0) (mk1 W (winN l) l (mK W l 4) 4), .cl [.int .i64 (1 : Nat), kptr l] (.int .i64 (kN l 1)) [], .b true, .b true, .b true, .cl [.int .i64 (1 : Nat), kptr l] (.int .i64 (kN l 1)) [], .b true, .b true, .b true, .b true, .b true, .cl [.int .i64 (1 : Nat), kptr l] (.int .i64 (kN l 1)) [], .b true, .b true, .b true, .b true, .b true, .b true, .b true, .b true, .b true, .b true, .b true, .b false, .b false, .b false, .b false, .b false, .b false, .b true, .b false, .b true, .cl [.int .i64 ((0 : Nat) : Int), kptr l] (.int .i64 (kN l 0)) [], .lp [(0, 0), (1, 1), (2, 2), (3, 4)] (mk2 W (winN l) l (mK W l 4) ([mm2] : List Mm) n 0) (.ext 3) (mk2 W (winN l) l (mK W l 4) ([mm2] : List Mm) n (n + 1)), .lp [(0, 0), (1, 1), (2, 2), (3, 3), (4, 4)] (mk3 W (winN l) l (mK W l 4) ([mm2] : List Mm) n 0) (.ext 5) (mk3 W (winN l) l (mK W l 4) ([mm2] : List Mm) n n)] [(0, 3), (1, 4), (2, 5)] (.agg [.int .i64 W, .int .i64 (winN l), .int .i64 6, .int .i64 (mK W l 4).r0, .int .i64 (mK W l 4).r1, .int .i64 (mK W l 4).r2, .int .i64 (mK W l 4).r3, .own 0 0 3 0 ([mm2] : List Mm).length, .own 1 0 2 0 (lbL (n + 1)).length, .own 2 0 9 0 (inL l n n).length]) [mmB ([mm2] : List Mm), lbB (lbL (n + 1)), inB (inL l n n)]) :=
  vc_of (q := ((0 : Int) = (↑(0 : Nat) : Int)) ∧ (List.length l = List.length l) ∧ (∀ (i : Nat), i < List.length l → ∀ (j : Nat), j < (1 : Nat) → AV.int IntKind.i64 (List.getD l i (0 : Int)) = AV.int IntKind.i64 (List.getD l i (0 : Int))) ∧ (PureC Try.prog 26 [.int .i64 ((0 : Nat) : Int), kptr l] (.int .i64 (kN l 0)) []) ∧ (inK IntKind.i64 (Go.bits Go.BinOp.and IntKind.i64 (kN l (0 : Nat)) (1 : Int) + (1 : Int))) ∧ ((0 : Int) = (↑(0 : Nat) : Int)) ∧ (List.length l = List.length l) ∧ (∀ (i : Nat), i < List.length l → ∀ (j : Nat), j < (1 : Nat) → AV.int IntKind.i64 (List.getD l i (0 : Int)) = AV.int IntKind.i64 (List.getD l i (0 : Int))) ∧ (PureC Try.prog 26 [.int .i64 ((0 : Nat) : Int), kptr l] (.int .i64 (kN l 0)) []) ∧ ((0 : Int) ≤ (1 : Int)) ∧ ((3 : Int) ≠ (0 : Int)) ∧ (inK IntKind.i64 (Int.tmod (Go.bits Go.BinOp.and IntKind.i64 (Int.fdiv (kN l (0 : Nat)) ((2 : Int) ^ (1 : Nat))) (255 : Int)) (3 : Int) + (1 : Int))) ∧ (List.length l = List.length l) ∧ (∀ (i : Nat), i < List.length l → ∀ (j : Nat), j < (1 : Nat) → AV.int IntKind.i64 (List.getD l i (0 : Int)) = AV.int IntKind.i64 (List.getD l i (0 : Int))) ∧ cS8m2 W l ∧ (Int.tmod (Go.bits Go.BinOp.and IntKind.i64 (Int.fdiv (kN l (0 : Nat)) ((2 : Int) ^ (1 : Nat))) (255 : Int)) (3 : Int) + (1 : Int) = winN l) ∧ (frS8m10  (((0 : Int) = (↑(0 : Nat) : Int)) ∧ cS8m1 W l ∧ ((1 : Int) = (↑(1 : Nat) : Int)) ∧ (List.length l = List.length l) ∧ (∀ (i : Nat), i < List.length l → ∀ (j : Nat), j < (1 : Nat) → AV.int IntKind.i64 (List.getD l i (0 : Int)) = AV.int IntKind.i64 (List.getD l i (0 : Int))) ∧ (PureC Try.prog 26 [.int .i64 (1 : Nat), kptr l] (.int .i64 (kN l 1)) []) ∧ ((0 : Int) ≤ (8 : Int)) ∧ (decide (Go.bits Go.BinOp.and IntKind.i64 (Int.fdiv (kN l (1 : Nat)) ((2 : Int) ^ (8 : Nat))) (3 : Int) > (0 : Int)) = true) ∧ ((32 : Nat) ≤ (140737488355328 : Nat) ∧ (1 : Nat) ≤ (140737488355328 : Nat)) ∧ ((W == (1 : Int)) = true) ∧ ((W == (1 : Int)) = true) ∧ ((1 : Int) = (↑(1 : Nat) : Int)) ∧ (List.length l = List.length l) ∧ (∀ (i : Nat), i < List.length l → ∀ (j : Nat), j < (1 : Nat) → AV.int IntKind.i64 (List.getD l i (0 : Int)) = AV.int IntKind.i64 (List.getD l i (0 : Int))) ∧ (PureC Try.prog 26 [.int .i64 (1 : Nat), kptr l] (.int .i64 (kN l 1)) []) ∧ ((W == (1 : Int)) = true) ∧ ((0 : Int) ≤ (10 : Int)) ∧ ((W == (1 : Int)) = true) ∧ ((W == (1 : Int)) = true) ∧ ((W == (1 : Int)) = true) ∧ ((Go.bits Go.BinOp.and IntKind.i64 (Int.fdiv (kN l (1 : Nat)) ((2 : Int) ^ (10 : Nat))) (3 : Int) == (0 : Int)) = true) ∧ ((0 : Int) ≤ (0 : Int) ∧ (0 : Int) < (↑(1 : Nat) : Int)) ∧ ((0 : Nat) < (1 : Nat)) ∧ ((1 : Int) = (↑(1 : Nat) : Int)) ∧ (List.length l = List.length l) ∧ (∀ (i : Nat), i < List.length l → ∀ (j : Nat), j < (1 : Nat) → AV.int IntKind.i64 (List.getD l i (0 : Int)) = AV.int IntKind.i64 (List.getD l i (0 : Int))) ∧ (PureC Try.prog 26 [.int .i64 (1 : Nat), kptr l] (.int .i64 (kN l 1)) []) ∧ ((0 : Int) ≤ (12 : Int)) ∧ (decide (Go.bits Go.BinOp.and IntKind.i64 (Int.fdiv (kN l (1 : Nat)) ((2 : Int) ^ (12 : Nat))) (3 : Int) > (0 : Int)) = true) ∧ (decide (Go.bits Go.BinOp.and IntKind.i64 (Int.fdiv (kN l (1 : Nat)) ((2 : Int) ^ (12 : Nat))) (3 : Int) > (0 : Int)) = true) ∧ (decide (Go.bits Go.BinOp.and IntKind.i64 (Int.fdiv (kN l (1 : Nat)) ((2 : Int) ^ (12 : Nat))) (3 : Int) > (0 : Int)) = true) ∧ (decide (Go.bits Go.BinOp.and IntKind.i64 (Int.fdiv (kN l (1 : Nat)) ((2 : Int) ^ (12 : Nat))) (3 : Int) > (0 : Int)) = true) ∧ (inK IntKind.i64 (M1.s (mK W l (4 : Nat)) + W)) ∧ (decide (Go.bits Go.BinOp.and IntKind.i64 (Int.fdiv (kN l (1 : Nat)) ((2 : Int) ^ (12 : Nat))) (3 : Int) > (0 : Int)) = true) ∧ (decide (Go.bits Go.BinOp.and IntKind.i64 (Int.fdiv (kN l (1 : Nat)) ((2 : Int) ^ (12 : Nat))) (3 : Int) > (0 : Int)) = true) ∧ (decide (M1.s (mK W l (4 : Nat)) + W ≤ (3 : Int)) = true) ∧ (decide (M1.s (mK W l (4 : Nat)) + W ≤ (3 : Int)) = true) ∧ (decide (M1.s (mK W l (4 : Nat)) + W ≤ (3 : Int)) = true) ∧ (decide (M1.s (mK W l (4 : Nat)) + W ≤ (3 : Int)) = true) ∧ (decide (M1.s (mK W l (4 : Nat)) + W ≤ (3 : Int)) = true) ∧ (((↑(1 : Nat) : Int) == (0 : Int)) = false) ∧ (((↑(1 : Nat) : Int) == (0 : Int)) = false) ∧ (((↑(1 : Nat) : Int) == (0 : Int)) = false) ∧ ((0 : Int) ≤ (0 : Int) ∧ (0 : Int) < (↑(1 : Nat) : Int)) ∧ (((↑(1 : Nat) : Int) == (0 : Int)) = false) ∧ (((↑(1 : Nat) : Int) == (0 : Int)) = false) ∧ ((0 : Nat) < (1 : Nat)) ∧ (((↑(1 : Nat) : Int) == (0 : Int)) = false) ∧ (decide (M1.s (mK W l (4 : Nat)) + W ≤ (3 : Int)) = true) ∧ (((↑(1 : Nat) : Int) == (0 : Int)) = false) ∧ (decide (M1.s (mK W l (4 : Nat)) + W ≤ (3 : Int)) = true) ∧ ((0 : Int) = (↑(0 : Nat) : Int)) ∧ (List.length l = List.length l) ∧ (∀ (i : Nat), i < List.length l → ∀ (j : Nat), j < (1 : Nat) → AV.int IntKind.i64 (List.getD l i (0 : Int)) = AV.int IntKind.i64 (List.getD l i (0 : Int))) ∧ (PureC Try.prog 26 [.int .i64 ((0 : Nat) : Int), kptr l] (.int .i64 (kN l 0)) []) ∧ ((0 : Int) ≤ (12 : Int)) ∧ (inK IntKind.i64 (Go.bits Go.BinOp.and IntKind.i64 (Int.fdiv (kN l (0 : Nat)) ((2 : Int) ^ (12 : Nat))) (3 : Int) + (2 : Int))) ∧ (frS8m8 W l ((frS8m11  ((∀ (i : Nat), i < (1 : Nat) → ∀ (j : Nat), j < (3 : Nat) → (bif Nat.beq i (0 : Nat) && Nat.ble (2 : Nat) j && Nat.blt j (3 : Nat) then List.getD [AV.int IntKind.i64 (2 : Int)] (j - (2 : Nat)) AV.junk else List.getD [AV.str (ByteArray.mk (Array.mk [(109 : UInt8)])), AV.bool false, AV.int IntKind.i64 (1 : Int)] ((i + (0 : Nat)) * (3 : Nat) + j) AV.junk) = rowL mmC [mm2] i j) ∧ ((0 : Nat) = (0 : Nat)) ∧ cS8m0 l n ∧ ((0 : Int) = (↑(0 : Nat) : Int)) ∧ (Ok Try.prog (ntOf Try.prog 9) (.loop (lpC Try.prog 9 1)) (mk2 W (winN l) l (mK W l 4) ([mm2] : List Mm) n 0).st (.ext 3) (mk2 W (winN l) l (mK W l 4) ([mm2] : List Mm) n (n + 1)).st) ∧ (frS8m8 W l ((frS8m20 n ((∀ (i : Nat), i < List.length (lbL (n + (1 : Nat))) → ∀ (j : Nat), j < (2 : Nat) → rowL lbC (lbL (n + (1 : Nat))) i j = rowL lbC (lbL (n + (1 : Nat))) i j) ∧ ((0 : Nat) = (0 : Nat)) ∧ ((↑n : Int) = (↑n : Int)) ∧ ((0 : Int) = (↑(0 : Nat) : Int)) ∧ (Ok Try.prog (ntOf Try.prog 9) (.loop (lpC Try.prog 9 2)) (mk3 W (winN l) l (mK W l 4) ([mm2] : List Mm) n 0).st (.ext 5) (mk3 W (winN l) l (mK W l 4) ([mm2] : List Mm) n n).st) ∧ (frS8m19 W l n ((frS8m12 W l n ((List.length (inL l n n) = List.length (inL l n n)) ∧ True))))))))))))))) (by kernel_rfl)
    ⟨(by first | omega | rfl),
 rfl,
 (fun _ _ _ _ => rfl),
 kC l 0 (by omega),
 (by rw [hW1]; exact in64 (by omega) (by omega)),
 (by first | omega | rfl),
 rfl,
 (fun _ _ _ _ => rfl),
 kC l 0 (by omega),
 (by first | omega | rfl),
 (by first | omega | rfl | (simp; done) | (simp; omega)),
 (in_tm _ _ (by omega) (by omega)),
 rfl,
 (fun _ _ _ _ => rfl),
 hW1,
 (by first | omega | rfl | (simp; done) | (simp; omega)), (frS8m10_mk  ⟨(by first | omega | rfl),
 m1_loop W (winN l) l hW,
 (by first | omega | rfl),
 rfl,
 (fun _ _ _ _ => rfl),
 kC l 1 (by omega),
 (by first | omega | rfl),
 (by first | exact c1t | (rw [hW1]; exact c1t) | (simpa [hW1] using c1t)),
 (by first | omega | rfl),
 (by first | exact c2t | (rw [hW1]; exact c2t) | (simpa [hW1] using c2t)),
 (by first | exact c2t | (rw [hW1]; exact c2t) | (simpa [hW1] using c2t)),
 (by first | omega | rfl),
 rfl,
 (fun _ _ _ _ => rfl),
 kC l 1 (by omega),
 (by first | exact c2t | (rw [hW1]; exact c2t) | (simpa [hW1] using c2t)),
 (by first | omega | rfl),
 (by first | exact c2t | (rw [hW1]; exact c2t) | (simpa [hW1] using c2t)),
 (by first | exact c2t | (rw [hW1]; exact c2t) | (simpa [hW1] using c2t)),
 (by first | exact c2t | (rw [hW1]; exact c2t) | (simpa [hW1] using c2t)),
 (by first | exact c3t | (rw [hW1]; exact c3t) | (simpa [hW1] using c3t)),
 (by first | omega | rfl),
 (by first | omega | rfl),
 (by first | omega | rfl),
 rfl,
 (fun _ _ _ _ => rfl),
 kC l 1 (by omega),
 (by first | omega | rfl),
 (by first | exact c4t | (rw [hW1]; exact c4t) | (simpa [hW1] using c4t)),
 (by first | exact c4t | (rw [hW1]; exact c4t) | (simpa [hW1] using c4t)),
 (by first | exact c4t | (rw [hW1]; exact c4t) | (simpa [hW1] using c4t)),
 (by first | exact c4t | (rw [hW1]; exact c4t) | (simpa [hW1] using c4t)),
 (in64 (by have := (mK_bd hW l 4).2; omega) (by have := (mK_bd hW l 4).2; omega)),
 (by first | exact c4t | (rw [hW1]; exact c4t) | (simpa [hW1] using c4t)),
 (by first | exact c4t | (rw [hW1]; exact c4t) | (simpa [hW1] using c4t)),
 (by first | exact c5t | (rw [hW1]; exact c5t) | (simpa [hW1] using c5t)),
 (by first | exact c5t | (rw [hW1]; exact c5t) | (simpa [hW1] using c5t)),
 (by first | exact c5t | (rw [hW1]; exact c5t) | (simpa [hW1] using c5t)),
 (by first | exact c5t | (rw [hW1]; exact c5t) | (simpa [hW1] using c5t)),
 (by first | exact c5t | (rw [hW1]; exact c5t) | (simpa [hW1] using c5t)),
 (by first | omega | rfl),
 (by first | omega | rfl),
 (by first | omega | rfl),
 (by first | omega | rfl),
 (by first | omega | rfl),
 (by first | omega | rfl),
 (by first | omega | rfl),
 (by first | omega | rfl),
 (by first | exact c5t | (rw [hW1]; exact c5t) | (simpa [hW1] using c5t)),
 (by first | omega | rfl),
 (by first | exact c5t | (rw [hW1]; exact c5t) | (simpa [hW1] using c5t)),
 (by first | omega | rfl),
 rfl,
 (fun _ _ _ _ => rfl),
 kC l 0 (by omega),
 (by first | omega | rfl),
 (by rw [hn1]; exact in64 (by omega) (by omega)), (frS8m8_mk W l (frS8m11_mk  ⟨(fun i hi j hj => match i, hi, j, hj with | 0, _, 0, _ => rfl | 0, _, 1, _ => rfl | 0, _, 2, _ => rfl),
 rfl,
 hn1,
 (by first | omega | rfl),
 m2_loop W (winN l) l (mK W l 4) ([mm2] : List Mm) n hn, (frS8m8_mk W l (frS8m20_mk n ⟨(fun _ _ _ _ => rfl),
 rfl,
 rfl,
 (by first | omega | rfl),
 m3_loop W (winN l) l (mK W l 4) ([mm2] : List Mm) n hn, (frS8m19_mk W l n (frS8m12_mk W l n ⟨rfl, trivial⟩))⟩))⟩))⟩)⟩
def wN (l : List Int) : Int := bits .and .i64 (kN l 0) 1 + 1
def nN (l : List Int) : Nat := (bits .and .i64 (Int.fdiv (kN l 0) (2 ^ 12)) 3 + 2).toNat
def msA (c1 c2 c3 c4 c5 : Bool) : List Mm := bif c1 then (bif c2 then (bif c3 then [mm2] else (bif c4 then (bif c5 then [mm1, ms1] else [mm1]) else [mm1])) else (bif c4 then (bif c5 then [mm1, ms1] else [mm1]) else [mm1])) else (bif c4 then (bif c5 then [ms1] else []) else [])
def mkOf (W : Int) (n : Nat) (l : List Int) (c1 c2 c3 c4 c5 : Bool) : Pg := ⟨W, winN l, 6, (mK W l 4).r0, (mK W l 4).r1, (mK W l 4).r2, (mK W l 4).r3, msA c1 c2 c3 c4 c5, lbL (n + 1), inL l n n⟩
/-- the program of numbers -/
def mkPg (l : List Int) : Pg := mkOf (wN l) (nN l) l (decide (bits .and .i64 (Int.fdiv (kN l 1) (2 ^ 8)) 3 > 0)) ((wN l) == 1) (bits .and .i64 (Int.fdiv (kN l 1) (2 ^ 10)) 3 == 0) (decide (bits .and .i64 (Int.fdiv (kN l 1) (2 ^ 12)) 3 > 0)) (decide ((mK (wN l) l 4).s + wN l ≤ 3))
theorem wN_bd (l : List Int) : wN l = 1 ∨ wN l = 2 := by
  have hb1 : bits .and .i64 (kN l 0) 1 = kN l 0 % 2 := Wd.bits_mask (kN l 0) 1 (by omega)
  unfold wN
  omega
theorem nN_bd (l : List Int) : 2 ≤ nN l ∧ nN l ≤ 5 ∧ bits .and .i64 (Int.fdiv (kN l 0) (2 ^ 12)) 3 + 2 = ((nN l : Nat) : Int) := by
  have hb2 : bits .and .i64 (Int.fdiv (kN l 0) (2 ^ 12)) 3 = Int.fdiv (kN l 0) (2 ^ 12) % 4 := Wd.bits_mask _ 2 (by omega)
  unfold nN
  omega
theorem mkC (l : List Int) : PureC Try.prog 9 [.row 1 l.length (rowI l)] (.agg (pgA (mkPg l))) [] := by
  have hWW := wN_bd l
  have hnn := nN_bd l
  unfold mkPg
  obtain ⟨W, hW1⟩ : ∃ W, wN l = W := ⟨_, rfl⟩
  obtain ⟨n, hn0⟩ : ∃ n, nN l = n := ⟨_, rfl⟩
  rw [hW1] at hWW
  rw [hn0] at hnn
  rw [hW1, hn0]
  have hW : 1 ≤ W ∧ W ≤ 2 := by omega
  obtain ⟨_, hn5, hn1⟩ := hnn
  have hn : n < 6 := by omega
  unfold wN at hW1
  cases c1 : decide (bits .and .i64 (Int.fdiv (kN l 1) (2 ^ 8)) 3 > 0) with
  | false =>
    have c1f := c1
    cases c4 : decide (bits .and .i64 (Int.fdiv (kN l 1) (2 ^ 12)) 3 > 0) with
    | false => exact (PureC.vc (mk_F_F W l n hW1 hW hn1 hn c1f c4)).frozen
    | true =>
      cases c5 : decide ((mK W l 4).s + W ≤ 3) with
      | false => exact (PureC.vc (mk_F_TF W l n hW1 hW hn1 hn c1f c4 c5)).frozen
      | true => exact (PureC.vc (mk_F_TT W l n hW1 hW hn1 hn c1f c4 c5)).frozen
  | true =>
    have c1t := c1
    cases c2 : (W == 1) with
    | false =>
      have c2f := c2
      cases c4 : decide (bits .and .i64 (Int.fdiv (kN l 1) (2 ^ 12)) 3 > 0) with
      | false => exact (PureC.vc (mk_TF_F W l n hW1 hW hn1 hn c1t c2f c4)).frozen
      | true =>
        cases c5 : decide ((mK W l 4).s + W ≤ 3) with
        | false => exact (PureC.vc (mk_TF_TF W l n hW1 hW hn1 hn c1t c2f c4 c5)).frozen
        | true => exact (PureC.vc (mk_TF_TT W l n hW1 hW hn1 hn c1t c2f c4 c5)).frozen
    | true =>
      have c2t := c2
      cases c3 : (bits .and .i64 (Int.fdiv (kN l 1) (2 ^ 10)) 3 == 0) with
      | false =>
        have c3f := c3
        cases c4 : decide (bits .and .i64 (Int.fdiv (kN l 1) (2 ^ 12)) 3 > 0) with
        | false => exact (PureC.vc (mk_TTF_F W l n hW1 hW hn1 hn c1t c2t c3f c4)).frozen
        | true =>
          cases c5 : decide ((mK W l 4).s + W ≤ 3) with
          | false => exact (PureC.vc (mk_TTF_TF W l n hW1 hW hn1 hn c1t c2t c3f c4 c5)).frozen
          | true => exact (PureC.vc (mk_TTF_TT W l n hW1 hW hn1 hn c1t c2t c3f c4 c5)).frozen
      | true =>
        have c3t := c3
        cases c4 : decide (bits .and .i64 (Int.fdiv (kN l 1) (2 ^ 12)) 3 > 0) with
        | false => exact (PureC.vc (mk_TTT_F W l n hW1 hW hn1 hn c1t c2t c3t c4)).frozen
        | true =>
          cases c5 : decide ((mK W l 4).s + W ≤ 3) with
          | false => exact (PureC.vc (mk_TTT_TF W l n hW1 hW hn1 hn c1t c2t c3t c4 c5)).frozen
          | true => exact (PureC.vc (mk_TTT_TT W l n hW1 hW hn1 hn c1t c2t c3t c4 c5)).frozen
theorem tm_ok (y m : Int) (hm : 0 < m) : 0 ≤ tmN y m ∧ tmN y m < m := tm_bd y m hm
theorem b3_ok (y : Int) : 0 ≤ bits .and .i64 y 3 ∧ bits .and .i64 y 3 < 4 := by
  obtain ⟨q, h1, h2⟩ := bits3 y
  omega
theorem vlN_ok (x : Int) : okV (vlN x) := by
  unfold vlN
  split
  · exact fun h => by cases h
  · exact fun _ => b3_ok x
theorem insOf_ok (k : Nat) (x : Int) (n : Nat) (hk : 1 ≤ k ∧ k ≤ 11) : OkI (insOf k x n) n := by
  have h14 := b3_ok (x2 x 14)
  have ha := vlN_ok (x2 x 8)
  have hb := vlN_ok (x2 x 11)
  have ht := tm_ok (x2 x 18) (n + 1) (by omega)
  match k, hk with
  | 1, _ => exact ⟨⟨show (1 : Int) ≤ 1 by decide, show (1 : Int) ≤ 12 by decide⟩, ha, hb, h14, show (0 : Int) ≤ 0 by decide, by show (0 : Int) ≤ _; omega⟩
  | 2, _ => exact ⟨⟨show (1 : Int) ≤ 2 by decide, show (2 : Int) ≤ 12 by decide⟩, ha, hb, h14, show (0 : Int) ≤ 0 by decide, by show (0 : Int) ≤ _; omega⟩
  | 3, _ => exact ⟨⟨show (1 : Int) ≤ 3 by decide, show (3 : Int) ≤ 12 by decide⟩, ha, hb, h14, show (0 : Int) ≤ 0 by decide, by show (0 : Int) ≤ _; omega⟩
  | 4, _ => exact ⟨⟨show (1 : Int) ≤ 4 by decide, show (4 : Int) ≤ 12 by decide⟩, ha, hb, h14, show (0 : Int) ≤ 0 by decide, by show (0 : Int) ≤ _; omega⟩
  | 5, _ => exact ⟨⟨show (1 : Int) ≤ 5 by decide, show (5 : Int) ≤ 12 by decide⟩, ha, hb, ⟨show (0 : Int) ≤ 0 by decide, show (0 : Int) < 4 by decide⟩, ht.1, by show tmN _ _ ≤ _; omega⟩
  | 6, _ => exact ⟨⟨show (1 : Int) ≤ 6 by decide, show (6 : Int) ≤ 12 by decide⟩, okV0, okV0, ⟨show (0 : Int) ≤ 0 by decide, show (0 : Int) < 4 by decide⟩, ht.1, by show tmN _ _ ≤ _; omega⟩
  | 7, _ => exact ⟨⟨show (1 : Int) ≤ 7 by decide, show (7 : Int) ≤ 12 by decide⟩, ha, okV0, ⟨show (0 : Int) ≤ 0 by decide, show (0 : Int) < 4 by decide⟩, show (0 : Int) ≤ 0 by decide, by show (0 : Int) ≤ _; omega⟩
  | 8, _ => exact ⟨⟨show (1 : Int) ≤ 8 by decide, show (8 : Int) ≤ 12 by decide⟩, okV0, okV0, ⟨show (0 : Int) ≤ 0 by decide, show (0 : Int) < 4 by decide⟩, ht.1, by show tmN _ _ ≤ _; omega⟩
  | 9, _ => exact ⟨⟨show (1 : Int) ≤ 9 by decide, show (9 : Int) ≤ 12 by decide⟩, okV0, okV0, ⟨show (0 : Int) ≤ 0 by decide, show (0 : Int) < 4 by decide⟩, show (0 : Int) ≤ 0 by decide, by show (0 : Int) ≤ _; omega⟩
  | 10, _ => exact ⟨⟨show (1 : Int) ≤ 10 by decide, show (10 : Int) ≤ 12 by decide⟩, okV0, okV0, ⟨show (0 : Int) ≤ 0 by decide, show (0 : Int) < 4 by decide⟩, show (0 : Int) ≤ 0 by decide, by show (0 : Int) ≤ _; omega⟩
  | 11, _ => exact ⟨⟨show (1 : Int) ≤ 11 by decide, show (11 : Int) ≤ 12 by decide⟩, okV0, okV0, ⟨show (0 : Int) ≤ 0 by decide, show (0 : Int) < 4 by decide⟩, show (0 : Int) ≤ 0 by decide, by show (0 : Int) ≤ _; omega⟩
  | 0, h => exact absurd h.1 (by omega)
  | k + 12, h => exact absurd h.2 (by omega)
theorem insN_ok (x : Int) (n : Nat) : OkI (insN x n) n ∧ (insN x n).kind ≤ 11 := by
  have h := tm_ok x 18 (by omega)
  unfold insN
  obtain ⟨q, e⟩ : ∃ q : Nat, tmN x 18 = (q : Int) := ⟨(tmN x 18).toNat, by omega⟩
  have hq : q < 18 := by omega
  rw [e, Int.toNat_natCast]
  match q, hq with
  | 0, _ => exact ⟨insOf_ok 1 x n (by decide), by show (1 : Int) ≤ 11; decide⟩
  | 1, _ => exact ⟨insOf_ok 1 x n (by decide), by show (1 : Int) ≤ 11; decide⟩
  | 2, _ => exact ⟨insOf_ok 2 x n (by decide), by show (2 : Int) ≤ 11; decide⟩
  | 3, _ => exact ⟨insOf_ok 2 x n (by decide), by show (2 : Int) ≤ 11; decide⟩
  | 4, _ => exact ⟨insOf_ok 2 x n (by decide), by show (2 : Int) ≤ 11; decide⟩
  | 5, _ => exact ⟨insOf_ok 3 x n (by decide), by show (3 : Int) ≤ 11; decide⟩
  | 6, _ => exact ⟨insOf_ok 3 x n (by decide), by show (3 : Int) ≤ 11; decide⟩
  | 7, _ => exact ⟨insOf_ok 4 x n (by decide), by show (4 : Int) ≤ 11; decide⟩
  | 8, _ => exact ⟨insOf_ok 5 x n (by decide), by show (5 : Int) ≤ 11; decide⟩
  | 9, _ => exact ⟨insOf_ok 5 x n (by decide), by show (5 : Int) ≤ 11; decide⟩
  | 10, _ => exact ⟨insOf_ok 5 x n (by decide), by show (5 : Int) ≤ 11; decide⟩
  | 11, _ => exact ⟨insOf_ok 6 x n (by decide), by show (6 : Int) ≤ 11; decide⟩
  | 12, _ => exact ⟨insOf_ok 7 x n (by decide), by show (7 : Int) ≤ 11; decide⟩
  | 13, _ => exact ⟨insOf_ok 8 x n (by decide), by show (8 : Int) ≤ 11; decide⟩
  | 14, _ => exact ⟨insOf_ok 9 x n (by decide), by show (9 : Int) ≤ 11; decide⟩
  | 15, _ => exact ⟨insOf_ok 10 x n (by decide), by show (10 : Int) ≤ 11; decide⟩
  | 16, _ => exact ⟨insOf_ok 11 x n (by decide), by show (11 : Int) ≤ 11; decide⟩
  | 17, _ => exact ⟨insOf_ok 1 x n (by decide), by show (1 : Int) ≤ 11; decide⟩
  | _ + 18, h => exact absurd h (by omega)
theorem inL_ok (l : List Int) (n : Nat) : ∀ k, ∀ i ∈ inL l n k, OkI i n ∧ i.kind ≤ 11
  | 0, i, hi => by cases hi
  | k + 1, i, hi => by
    rcases List.mem_append.1 hi with h | h
    · exact inL_ok l n k i h
    · rw [List.mem_singleton.1 h]; exact insN_ok _ _
theorem msA_bd (c1 c2 c3 c4 c5 : Bool) : sumN (msA c1 c2 c3 c4 c5) ≤ 3 ∧ (msA c1 c2 c3 c4 c5).length ≤ 2 := by
  cases c1 <;> cases c2 <;> cases c3 <;> cases c4 <;> cases c5 <;> decide
theorem mkPg_ok (l : List Int) : OkP (mkPg l) := by
  have hnn := nN_bd l
  have hm := msA_bd (decide (bits .and .i64 (Int.fdiv (kN l 1) (2 ^ 8)) 3 > 0)) ((wN l) == 1) (bits .and .i64 (Int.fdiv (kN l 1) (2 ^ 10)) 3 == 0) (decide (bits .and .i64 (Int.fdiv (kN l 1) (2 ^ 12)) 3 > 0)) (decide ((mK (wN l) l 4).s + wN l ≤ 3))
  have e : (mkPg l).is.length = nN l := inL_len _ _ _
  refine ⟨fun i hi => ?_, by rw [e]; omega, Nat.lt_of_le_of_lt hm.2 (by omega), Nat.le_trans hm.1 (by omega)⟩
  rw [e]
  exact (inL_ok _ _ _ i hi).1
end
end Go.Proofs.Ytjdiabjmphdhiaa.Px
