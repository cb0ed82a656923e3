/- Merged: A7e, WdMath, WdMask, A7f, A7g, A7h. -/
import Derived.Test.YtjdiabjmphdhiaaMjE
import Derived.WalkKit
import Derived.Lib.Hide
set_option linter.unusedVariables false
set_option linter.unusedSimpArgs false
set_option maxRecDepth 100000
namespace Go.Proofs.Ytjdiabjmphdhiaa.Px
section
open Go.RowKit Go.Proofs.Ytjdiabjmphdhiaa.Rx
def stA (r0 r1 r2 r3 : Int) (m : List Int) (sk : AV) (pc : Int) : List AV := [.int .i64 r0, .int .i64 r1, .int .i64 r2, .int .i64 r3, .row 1 m.length (rowI m), sk, .int .i64 pc]
def rptrA (cs : List AV) : AV := .rptr 7 (fun q => cs.getD q .junk) 0
def oneI (n : Int) : AV := .row 1 1 fun i j => [AV.int .i64 n].getD ((i + 0) * 1 + j) .junk
def catF (r0 r1 r2 r3 : Int) (m : List Int) (sk : AV) (n : Nat) (pc : Int) : Nat → Nat → AV := fun i j =>
  [AV.row 1 4 fun i k => (stA r0 r1 r2 r3 m sk pc).getD (0 + (i * 1 + k)) .junk, oneI m.length, .row 1 m.length (rowI m), oneI n, sk, oneI pc].getD (i * 1 + j) .junk
def catL (r0 r1 r2 r3 : Int) (m : List Int) (st : List Int) (pc : Int) : List (List Int) := [[r0, r1, r2, r3], [(m.length : Int)], m, [(st.length : Int)], st, [pc]]
/-- a state's numbers -/
def stL (r0 r1 r2 r3 : Int) (m : List Int) (st : List Int) (pc : Int) : List Int := (catL r0 r1 r2 r3 m st pc).flatten
def stBox (cs : List AV) : Nat × Blk := (0, ⟨0, false, 31, .box cs⟩)
def cdI (cs : List AV) : Sm := ⟨[(1, .bptr 0 0)], [stBox cs], 1⟩
def cdZ (cs : List AV) : Sm := ⟨[(1, rptrA cs)], [], 0⟩
def cdJ (L : List Int) : Sm := ⟨[(3, .own 0 0 1 0 L.length)], [(0, blkI L)], 1⟩
theorem stL_len (r0 r1 r2 r3 : Int) (m st : List Int) (pc : Int) : (stL r0 r1 r2 r3 m st pc).length = m.length + st.length + 7 := by
  simp [stL, catL]; omega
theorem cdz_n (r0 r1 r2 r3 : Int) (m : List Int) (pc : Int) : Vc (vcZ 1 (cdI (stA r0 r1 r2 r3 m .nils pc)) [] (cdZ (stA r0 r1 r2 r3 m .nils pc))) :=
  vc_of (q := (r0 = r0) ∧ (r1 = r1) ∧ (r2 = r2) ∧ (r3 = r3) ∧ (List.length m = List.length m) ∧ (∀ (i : Nat), i < List.length m → ∀ (j : Nat), j < (1 : Nat) → AV.int IntKind.i64 (List.getD m i (0 : Int)) = AV.int IntKind.i64 (List.getD m i (0 : Int))) ∧ (pc = pc) ∧ True) (by kernel_rfl)
    ⟨rfl,
 rfl,
 rfl,
 rfl,
 rfl,
 (fun _ _ _ _ => rfl),
 rfl, trivial⟩
theorem cdr_n (r0 r1 r2 r3 : Int) (m : List Int) (pc : Int) (hl : (stL r0 r1 r2 r3 m [] pc).length ≤ 1000000) : Vc (vcC Try.prog false (ntOf Try.prog 35) (subC Try.prog 35 [1, 0]) (cdZ (stA r0 r1 r2 r3 m .nils pc)) [.cl [.row 1 6 (catF r0 r1 r2 r3 m .nils 0 pc)] (.own 0 0 1 0 (stL r0 r1 r2 r3 m [] pc).length) [blkI (stL r0 r1 r2 r3 m [] pc)]] .nrm [(0, 4)] (cdJ (stL r0 r1 r2 r3 m [] pc))) :=
  vc_of (q := ((6 : Nat) = (6 : Nat)) ∧ (∀ (i : Nat), i < (6 : Nat) → ∀ (j : Nat), j < (1 : Nat) → List.getD [AV.row (nat_lit 1) (nat_lit 4) fun (i k : Nat) => List.getD [AV.int IntKind.i64 r0, AV.int IntKind.i64 r1, AV.int IntKind.i64 r2, AV.int IntKind.i64 r3, AV.row (nat_lit 1) (List.length m) fun (a a_1 : Nat) => AV.int IntKind.i64 (List.getD m a (0 : Int)), AV.nils, AV.int IntKind.i64 pc] ((0 : Nat) + (i * (1 : Nat) + k)) AV.junk, AV.row (nat_lit 1) (nat_lit 1) fun (i j : Nat) => List.getD [AV.int IntKind.i64 (↑(List.length m) : Int)] ((i + (0 : Nat)) * (1 : Nat) + j) AV.junk, AV.row (nat_lit 1) (List.length m) fun (a a_1 : Nat) => AV.int IntKind.i64 (List.getD m a (0 : Int)), AV.row (nat_lit 1) (nat_lit 1) fun (i j : Nat) => List.getD [AV.int IntKind.i64 (0 : Int)] ((i + (0 : Nat)) * (1 : Nat) + j) AV.junk, AV.nils, AV.row (nat_lit 1) (nat_lit 1) fun (i j : Nat) => List.getD [AV.int IntKind.i64 pc] ((i + (0 : Nat)) * (1 : Nat) + j) AV.junk] ((i + (0 : Nat)) * (1 : Nat) + j) AV.junk = catF r0 r1 r2 r3 m AV.nils (0 : Nat) pc i j) ∧ (PureC Try.prog 53 [.row 1 6 (catF r0 r1 r2 r3 m .nils 0 pc)] (.own 0 0 1 0 (stL r0 r1 r2 r3 m [] pc).length) [blkI (stL r0 r1 r2 r3 m [] pc)]) ∧ (List.length (r0 :: r1 :: r2 :: r3 :: (↑(List.length m) : Int) :: List.append._f [] PUnit.unit (List.flatten._f [m, [(↑(0 : Nat) : Int)], [], [pc]] (List.rec ⟨[], PUnit.unit⟩ (fun (head : List Int) (tail : List (List Int)) (tail_ih : List Int ×' List.below tail) => ⟨List.flatten._f (head :: tail) tail_ih, tail_ih⟩) [[(↑(0 : Nat) : Int)], [], [pc]]))) = List.length (r0 :: r1 :: r2 :: r3 :: (↑(List.length m) : Int) :: List.append._f [] PUnit.unit (List.flatten._f [m, [(↑(0 : Nat) : Int)], [], [pc]] (List.rec ⟨[], PUnit.unit⟩ (fun (head : List Int) (tail : List (List Int)) (tail_ih : List Int ×' List.below tail) => ⟨List.flatten._f (head :: tail) tail_ih, tail_ih⟩) [[(↑(0 : Nat) : Int)], [], [pc]])))) ∧ (∀ (i : Nat), i < List.length (r0 :: r1 :: r2 :: r3 :: (↑(List.length m) : Int) :: List.append._f [] PUnit.unit (List.flatten._f [m, [(↑(0 : Nat) : Int)], [], [pc]] (List.rec ⟨[], PUnit.unit⟩ (fun (head : List Int) (tail : List (List Int)) (tail_ih : List Int ×' List.below tail) => ⟨List.flatten._f (head :: tail) tail_ih, tail_ih⟩) [[(↑(0 : Nat) : Int)], [], [pc]]))) → ∀ (j : Nat), j < (1 : Nat) → AV.int IntKind.i64 (List.getD (r0 :: r1 :: r2 :: r3 :: (↑(List.length m) : Int) :: List.append._f [] PUnit.unit (List.flatten._f [m, [(↑(0 : Nat) : Int)], [], [pc]] (List.rec ⟨[], PUnit.unit⟩ (fun (head : List Int) (tail : List (List Int)) (tail_ih : List Int ×' List.below tail) => ⟨List.flatten._f (head :: tail) tail_ih, tail_ih⟩) [[(↑(0 : Nat) : Int)], [], [pc]]))) i (0 : Int)) = AV.int IntKind.i64 (List.getD (r0 :: r1 :: r2 :: r3 :: (↑(List.length m) : Int) :: List.append._f [] PUnit.unit (List.flatten._f [m, [(↑(0 : Nat) : Int)], [], [pc]] (List.rec ⟨[], PUnit.unit⟩ (fun (head : List Int) (tail : List (List Int)) (tail_ih : List Int ×' List.below tail) => ⟨List.flatten._f (head :: tail) tail_ih, tail_ih⟩) [[(↑(0 : Nat) : Int)], [], [pc]]))) i (0 : Int))) ∧ ((0 : Nat) = (0 : Nat)) ∧ (List.length (r0 :: r1 :: r2 :: r3 :: (↑(List.length m) : Int) :: List.append._f [] PUnit.unit (List.flatten._f [m, [(↑(0 : Nat) : Int)], [], [pc]] (List.rec ⟨[], PUnit.unit⟩ (fun (head : List Int) (tail : List (List Int)) (tail_ih : List Int ×' List.below tail) => ⟨List.flatten._f (head :: tail) tail_ih, tail_ih⟩) [[(↑(0 : Nat) : Int)], [], [pc]]))) = List.length (r0 :: r1 :: r2 :: r3 :: (↑(List.length m) : Int) :: List.append._f [] PUnit.unit (List.flatten._f [m, [(↑(0 : Nat) : Int)], [], [pc]] (List.rec ⟨[], PUnit.unit⟩ (fun (head : List Int) (tail : List (List Int)) (tail_ih : List Int ×' List.below tail) => ⟨List.flatten._f (head :: tail) tail_ih, tail_ih⟩) [[(↑(0 : Nat) : Int)], [], [pc]])))) ∧ True) (by kernel_rfl)
    ⟨rfl,
 (fun i hi j hj => match i, hi, j, hj with | 0, _, 0, _ => rfl | 1, _, 0, _ => rfl | 2, _, 0, _ => rfl | 3, _, 0, _ => rfl | 4, _, 0, _ => rfl | 5, _, 0, _ => rfl),
 concatC (L := catL r0 r1 r2 r3 m [] pc) (f := catF r0 r1 r2 r3 m .nils 0 pc) (fun i hi => match i, hi with
        | 0, _ => .inr ⟨_, rfl, fun i hi => match i, hi with | 0, _ => rfl | 1, _ => rfl | 2, _ => rfl | 3, _ => rfl⟩
        | 1, _ => .inr ⟨_, rfl, fun i hi => match i, hi with | 0, _ => rfl⟩
        | 2, _ => .row m
        | 3, _ => .inr ⟨_, rfl, fun i hi => match i, hi with | 0, _ => rfl⟩
        | 4, _ => .nil
        | 5, _ => .inr ⟨_, rfl, fun i hi => match i, hi with | 0, _ => rfl⟩) (by show 0 < (stL r0 r1 r2 r3 m [] pc).length; rw [stL_len]; omega) hl (by simp [catL]),
 rfl,
 (fun _ _ _ _ => rfl),
 rfl,
 rfl, trivial⟩
theorem cdf_n (r0 r1 r2 r3 : Int) (m : List Int) (pc : Int) (hl : (stL r0 r1 r2 r3 m [] pc).length ≤ 1000000) (hi : Cd.isI (stL r0 r1 r2 r3 m [] pc)) : Vc (vcFn Try.prog false 35 [.agg (stA r0 r1 r2 r3 m .nils pc)] [.le [] ⟨[(0, .agg (stA r0 r1 r2 r3 m .nils pc))], [], 0⟩, .sr [(0, 0)] (cdI (stA r0 r1 r2 r3 m .nils pc)) .nrm (cdJ (stL r0 r1 r2 r3 m [] pc)), .cl [.row 1 (stL r0 r1 r2 r3 m [] pc).length (rowI (stL r0 r1 r2 r3 m [] pc))] (.own 0 0 1 0 (Cd.putL (stL r0 r1 r2 r3 m [] pc)).length) [blkB (Cd.putL (stL r0 r1 r2 r3 m [] pc))]] [(0, 1)] (.own 0 0 1 0 (Cd.putL (stL r0 r1 r2 r3 m [] pc)).length) [blkB (Cd.putL (stL r0 r1 r2 r3 m [] pc))]) :=
  vc_of (q := (r0 = r0) ∧ (r1 = r1) ∧ (r2 = r2) ∧ (r3 = r3) ∧ (List.length m = List.length m) ∧ (∀ (i : Nat), i < List.length m → ∀ (j : Nat), j < (1 : Nat) → AV.int IntKind.i64 (List.getD m i (0 : Int)) = AV.int IntKind.i64 (List.getD m i (0 : Int))) ∧ (pc = pc) ∧ (r0 = r0) ∧ (r1 = r1) ∧ (r2 = r2) ∧ (r3 = r3) ∧ (List.length m = List.length m) ∧ (∀ (i : Nat), i < List.length m → ∀ (j : Nat), j < (1 : Nat) → AV.int IntKind.i64 (List.getD m i (0 : Int)) = AV.int IntKind.i64 (List.getD m i (0 : Int))) ∧ (pc = pc) ∧ (Ok Try.prog (ntOf Try.prog 35) (subC Try.prog 35 [1, 0]) (cdI (stA r0 r1 r2 r3 m .nils pc)).st .nrm (cdJ (stL r0 r1 r2 r3 m [] pc)).st) ∧ (List.length (r0 :: r1 :: r2 :: r3 :: (↑(List.length m) : Int) :: List.append._f [] PUnit.unit (List.flatten._f [m, [(↑(0 : Nat) : Int)], [], [pc]] (List.rec ⟨[], PUnit.unit⟩ (fun (head : List Int) (tail : List (List Int)) (tail_ih : List Int ×' List.below tail) => ⟨List.flatten._f (head :: tail) tail_ih, tail_ih⟩) [[(↑(0 : Nat) : Int)], [], [pc]]))) = List.length (r0 :: r1 :: r2 :: r3 :: (↑(List.length m) : Int) :: List.append._f [] PUnit.unit (List.flatten._f [m, [(↑(0 : Nat) : Int)], [], [pc]] (List.rec ⟨[], PUnit.unit⟩ (fun (head : List Int) (tail : List (List Int)) (tail_ih : List Int ×' List.below tail) => ⟨List.flatten._f (head :: tail) tail_ih, tail_ih⟩) [[(↑(0 : Nat) : Int)], [], [pc]])))) ∧ (∀ (i : Nat), i < List.length (r0 :: r1 :: r2 :: r3 :: (↑(List.length m) : Int) :: List.append._f [] PUnit.unit (List.flatten._f [m, [(↑(0 : Nat) : Int)], [], [pc]] (List.rec ⟨[], PUnit.unit⟩ (fun (head : List Int) (tail : List (List Int)) (tail_ih : List Int ×' List.below tail) => ⟨List.flatten._f (head :: tail) tail_ih, tail_ih⟩) [[(↑(0 : Nat) : Int)], [], [pc]]))) → ∀ (j : Nat), j < (1 : Nat) → AV.int IntKind.i64 (List.getD (r0 :: r1 :: r2 :: r3 :: (↑(List.length m) : Int) :: List.append._f [] PUnit.unit (List.flatten._f [m, [(↑(0 : Nat) : Int)], [], [pc]] (List.rec ⟨[], PUnit.unit⟩ (fun (head : List Int) (tail : List (List Int)) (tail_ih : List Int ×' List.below tail) => ⟨List.flatten._f (head :: tail) tail_ih, tail_ih⟩) [[(↑(0 : Nat) : Int)], [], [pc]]))) (i + (0 : Nat)) (0 : Int)) = AV.int IntKind.i64 (List.getD (r0 :: r1 :: r2 :: r3 :: (↑(List.length m) : Int) :: List.append._f [] PUnit.unit (List.flatten._f [m, [(↑(0 : Nat) : Int)], [], [pc]] (List.rec ⟨[], PUnit.unit⟩ (fun (head : List Int) (tail : List (List Int)) (tail_ih : List Int ×' List.below tail) => ⟨List.flatten._f (head :: tail) tail_ih, tail_ih⟩) [[(↑(0 : Nat) : Int)], [], [pc]]))) i (0 : Int))) ∧ (PureC Try.prog 54 [.row 1 (stL r0 r1 r2 r3 m [] pc).length (rowI (stL r0 r1 r2 r3 m [] pc))] (.own 0 0 1 0 (Cd.putL (stL r0 r1 r2 r3 m [] pc)).length) [blkB (Cd.putL (stL r0 r1 r2 r3 m [] pc))]) ∧ (List.length (Cd.putL (r0 :: r1 :: r2 :: r3 :: (↑(List.length m) : Int) :: List.append._f [] PUnit.unit (List.flatten._f [m, [(↑(0 : Nat) : Int)], [], [pc]] (List.rec ⟨[], PUnit.unit⟩ (fun (head : List Int) (tail : List (List Int)) (tail_ih : List Int ×' List.below tail) => ⟨List.flatten._f (head :: tail) tail_ih, tail_ih⟩) [[(↑(0 : Nat) : Int)], [], [pc]])))) = List.length (Cd.putL (r0 :: r1 :: r2 :: r3 :: (↑(List.length m) : Int) :: List.append._f [] PUnit.unit (List.flatten._f [m, [(↑(0 : Nat) : Int)], [], [pc]] (List.rec ⟨[], PUnit.unit⟩ (fun (head : List Int) (tail : List (List Int)) (tail_ih : List Int ×' List.below tail) => ⟨List.flatten._f (head :: tail) tail_ih, tail_ih⟩) [[(↑(0 : Nat) : Int)], [], [pc]]))))) ∧ (∀ (i : Nat), i < List.length (Cd.putL (r0 :: r1 :: r2 :: r3 :: (↑(List.length m) : Int) :: List.append._f [] PUnit.unit (List.flatten._f [m, [(↑(0 : Nat) : Int)], [], [pc]] (List.rec ⟨[], PUnit.unit⟩ (fun (head : List Int) (tail : List (List Int)) (tail_ih : List Int ×' List.below tail) => ⟨List.flatten._f (head :: tail) tail_ih, tail_ih⟩) [[(↑(0 : Nat) : Int)], [], [pc]])))) → ∀ (j : Nat), j < (1 : Nat) → AV.int IntKind.u8 (List.getD (Cd.putL (r0 :: r1 :: r2 :: r3 :: (↑(List.length m) : Int) :: List.append._f [] PUnit.unit (List.flatten._f [m, [(↑(0 : Nat) : Int)], [], [pc]] (List.rec ⟨[], PUnit.unit⟩ (fun (head : List Int) (tail : List (List Int)) (tail_ih : List Int ×' List.below tail) => ⟨List.flatten._f (head :: tail) tail_ih, tail_ih⟩) [[(↑(0 : Nat) : Int)], [], [pc]])))) i (0 : Int)) = AV.int IntKind.u8 (List.getD (Cd.putL (r0 :: r1 :: r2 :: r3 :: (↑(List.length m) : Int) :: List.append._f [] PUnit.unit (List.flatten._f [m, [(↑(0 : Nat) : Int)], [], [pc]] (List.rec ⟨[], PUnit.unit⟩ (fun (head : List Int) (tail : List (List Int)) (tail_ih : List Int ×' List.below tail) => ⟨List.flatten._f (head :: tail) tail_ih, tail_ih⟩) [[(↑(0 : Nat) : Int)], [], [pc]])))) i (0 : Int))) ∧ ((0 : Nat) = (0 : Nat)) ∧ (List.length (Cd.putL (r0 :: r1 :: r2 :: r3 :: (↑(List.length m) : Int) :: List.append._f [] PUnit.unit (List.flatten._f [m, [(↑(0 : Nat) : Int)], [], [pc]] (List.rec ⟨[], PUnit.unit⟩ (fun (head : List Int) (tail : List (List Int)) (tail_ih : List Int ×' List.below tail) => ⟨List.flatten._f (head :: tail) tail_ih, tail_ih⟩) [[(↑(0 : Nat) : Int)], [], [pc]])))) = List.length (Cd.putL (r0 :: r1 :: r2 :: r3 :: (↑(List.length m) : Int) :: List.append._f [] PUnit.unit (List.flatten._f [m, [(↑(0 : Nat) : Int)], [], [pc]] (List.rec ⟨[], PUnit.unit⟩ (fun (head : List Int) (tail : List (List Int)) (tail_ih : List Int ×' List.below tail) => ⟨List.flatten._f (head :: tail) tail_ih, tail_ih⟩) [[(↑(0 : Nat) : Int)], [], [pc]]))))) ∧ True) (by kernel_rfl)
    ⟨rfl,
 rfl,
 rfl,
 rfl,
 rfl,
 (fun _ _ _ _ => rfl),
 rfl,
 rfl,
 rfl,
 rfl,
 rfl,
 rfl,
 (fun _ _ _ _ => rfl),
 rfl,
 Ok.freeze (cdz_n r0 r1 r2 r3 m pc) (Ok.vc (cdr_n r0 r1 r2 r3 m pc hl)),
 rfl,
 (fun _ _ _ _ => rfl),
 putC (.row _) hl hi,
 rfl,
 (fun _ _ _ _ => rfl),
 rfl,
 rfl, trivial⟩
theorem codeC_n (r0 r1 r2 r3 : Int) (m : List Int) (pc : Int) (hl : (stL r0 r1 r2 r3 m [] pc).length ≤ 1000000) (hi : Cd.isI (stL r0 r1 r2 r3 m [] pc)) : PureC Try.prog 35 [.agg (stA r0 r1 r2 r3 m .nils pc)] (.own 0 0 1 0 (Cd.putL (stL r0 r1 r2 r3 m [] pc)).length) [blkB (Cd.putL (stL r0 r1 r2 r3 m [] pc))] := PureC.vc (cdf_n r0 r1 r2 r3 m pc hl hi)
end
end Go.Proofs.Ytjdiabjmphdhiaa.Px
namespace Go.Proofs.Ytjdiabjmphdhiaa
section
open Go.RowKit
namespace Wd

def okB (w : Int) : Bool := decide (1 ≤ w) && decide (w ≤ 16)
def sizeV (w : Int) : Int := if okB w = true then 2 ^ w.toNat else 0
def maskV (w n : Int) : Int := if okB w = true then n % 2 ^ w.toNat else 0
def andI (x y : Int) : Int := ((x.toNat &&& y.toNat : Nat) : Int)
def orI (x y : Int) : Int := ((x.toNat ||| y.toNat : Nat) : Int)
def xorI (x y : Int) : Int := ((x.toNat ^^^ y.toNat : Nat) : Int)
/-- of two words, not yet cut to the width; false: no op -/
def rawV (op x y : Int) : Int :=
  if op = 1 then x + y else if op = 2 then x - y else if op = 3 then andI x y else if op = 4 then orI x y else if op = 5 then xorI x y
  else if op = 6 then x * 2 ^ y.toNat else if op = 7 then x / 2 ^ y.toNat else if op = 8 then x * y
  else if op = 9 then (if x < y then 1 else 0) else if op = 10 then (if x = y then 1 else 0) else 0
def doV (w op a b : Int) : Int := maskV w (rawV op (maskV w a) (maskV w b))
theorem okB_iff {w : Int} : okB w = true ↔ 1 ≤ w ∧ w ≤ 16 := by simp [okB]
theorem okB_nat {w : Int} (h : okB w = true) : ∃ k : Nat, w = k ∧ 1 ≤ k ∧ k ≤ 16 := by
  rw [okB_iff] at h; exact ⟨w.toNat, by omega, by omega, by omega⟩
theorem pow_le {k : Nat} (h : k ≤ 16) : (2 : Int) ^ k ≤ 65536 := by
  have : (2 : Nat) ^ k ≤ 2 ^ 16 := Nat.pow_le_pow_right (by omega) h
  have h2 : ((2 ^ k : Nat) : Int) ≤ ((2 ^ 16 : Nat) : Int) := by exact_mod_cast this
  simpa using h2
theorem pow_pos (k : Nat) : (1 : Int) ≤ 2 ^ k := by
  have : 1 ≤ 2 ^ k := Nat.one_le_two_pow
  have h2 : ((1 : Nat) : Int) ≤ ((2 ^ k : Nat) : Int) := by exact_mod_cast this
  simpa using h2
theorem maskV_bd (w n : Int) : 0 ≤ maskV w n ∧ maskV w n < 65536 := by
  unfold maskV; split
  · rename_i h
    obtain ⟨k, rfl, _, hk⟩ := okB_nat h
    have h1 := pow_le hk; have h2 := pow_pos k
    simp only [Int.toNat_natCast]
    have := Int.emod_nonneg n (b := 2 ^ k) (by omega); have := Int.emod_lt_of_pos n (b := 2 ^ k) (by omega); omega
  · omega
theorem sizeV_bd (w : Int) : 0 ≤ sizeV w ∧ sizeV w ≤ 65536 := by
  unfold sizeV; split
  · rename_i h; obtain ⟨k, rfl, _, hk⟩ := okB_nat h; have := pow_le hk; have := pow_pos k; simp only [Int.toNat_natCast]; omega
  · omega
/-- the model's and with a mask is the remainder, of numbers below 0, too -/
theorem bits_mask (n : Int) (k : Nat) (hk : k ≤ 16) : bits .and .i64 n (2 ^ k - 1) = n % 2 ^ k := by
  have e : (BitVec.ofInt 64 n &&& BitVec.ofInt 64 (2 ^ k - 1)).toNat = (n % 2 ^ k).toNat := by
    have h2 : (2 : Int) ^ k ≤ 65536 := pow_le hk
    have h3 := pow_pos k
    have e1 : (BitVec.ofInt 64 ((2 : Int) ^ k - 1)).toNat = 2 ^ k - 1 := by
      have h4 : 2 ^ k ≤ 65536 := by have := Nat.pow_le_pow_right (n := 2) (by omega) hk; simpa using this
      have h5 : 1 ≤ 2 ^ k := Nat.one_le_two_pow
      have : ((2 : Int) ^ k - 1) = ((2 ^ k - 1 : Nat) : Int) := by
        rw [Int.ofNat_sub h5]; simp
      rw [this, BitVec.ofInt_natCast, BitVec.toNat_ofNat]; omega
    rw [BitVec.toNat_and, e1, Nat.and_two_pow_sub_one_eq_mod, BitVec.toNat_ofInt]
    have h6 : (2 : Nat) ^ 64 = 2 ^ k * 2 ^ (64 - k) := by rw [← Nat.pow_add]; congr 1; omega
    have h7 : ((2 ^ 64 : Nat) : Int) = 2 ^ k * 2 ^ (64 - k) := by rw [h6]; simp
    have h8 : (((n % ((2 ^ 64 : Nat) : Int)).toNat % 2 ^ k : Nat) : Int) = n % 2 ^ k := by
      have := Int.emod_nonneg n (b := ((2 ^ 64 : Nat) : Int)) (by omega)
      rw [Int.natCast_emod, Int.toNat_of_nonneg this, Int.natCast_pow]
      exact Int.emod_emod_of_dvd n ⟨2 ^ (64 - k), h7⟩
    omega
  show IntKind.i64.wrap (((BitVec.ofInt 64 n &&& BitVec.ofInt 64 (2 ^ k - 1) : BitVec 64).toNat : Nat) : Int) = _
  have h2 : (2 : Int) ^ k ≤ 65536 := pow_le hk
  have h3 := pow_pos k
  have := Int.emod_nonneg n (b := 2 ^ k) (by omega); have := Int.emod_lt_of_pos n (b := 2 ^ k) (by omega)
  rw [e, Int.toNat_of_nonneg (by omega)]
  exact IntWalk.i64_in _ (by omega)

theorem ofInt_toNat {x : Int} (h0 : 0 ≤ x) (h1 : x < 65536) : (BitVec.ofInt 64 x).toNat = x.toNat := by
  rw [BitVec.toNat_ofInt]; congr 1; exact Int.emod_eq_of_lt h0 (by omega)
theorem bits_xor {x y : Int} (h0 : 0 ≤ x) (h1 : x < 65536) (h2 : 0 ≤ y) (h3 : y < 65536) : bits .xor .i64 x y = xorI x y := by
  show IntKind.i64.wrap (((BitVec.ofInt 64 x ^^^ BitVec.ofInt 64 y : BitVec 64).toNat : Nat) : Int) = ((x.toNat ^^^ y.toNat : Nat) : Int)
  rw [BitVec.toNat_xor, ofInt_toNat h0 h1, ofInt_toNat h2 h3]
  have := Nat.xor_lt_two_pow (n := 16) (show x.toNat < 2 ^ 16 by omega) (show y.toNat < 2 ^ 16 by omega)
  exact IntWalk.i64_in _ (by omega)
end Wd
end
end Go.Proofs.Ytjdiabjmphdhiaa
namespace Go.Proofs.Ytjdiabjmphdhiaa
section
open Go.RowKit
theorem int_eq {k : IntKind} {a b : Int} (h : a = b) : Value.int k a = Value.int k b := by rw [h]
theorem bool_eq {a b : Bool} (h : a = b) : Value.bool a = Value.bool b := by rw [h]
theorem ok_any (n : Int) (w : World) : Calls Try.prog 68 #[.int .i64 n] w (Ret (.bool (Wd.okB n)) w) := by
  by_cases h1 : 1 ≤ n
  all_goals by_cases h2 : n ≤ 16
  all_goals
    go_enter Try.func68, Try.ntmps68
    go_wp2
    go_ret
    exact Ret.mk (bool_eq (by simp [Wd.okB]; omega))
theorem size_any (n : Int) (w : World) : Calls Try.prog 69 #[.int .i64 n] w (Ret (.int .i64 (Wd.sizeV n)) w) := by
  by_cases h1 : Wd.okB n = true
  · have h2 := Wd.okB_iff.1 h1
    have h3 : 1 ≤ n := h2.1
    have h4 : n ≤ 16 := h2.2
    clear h2
    go_enter Try.func69, Try.ntmps69
    go_wp2_with (go_at_call 68; refine (ok_any _ _).mono ?_; rintro e w' ⟨rfl, rfl⟩)
    go_ret
    refine Ret.mk (int_eq ?_)
    have hz := Wd.sizeV_bd n
    unfold Wd.sizeV at *; rw [if_pos h1] at *
    exact IntWalk.wrap64_in _ (by omega)
  · have h1 : Wd.okB n = false := by simpa using h1
    go_enter Try.func69, Try.ntmps69
    go_wp2_with (go_at_call 68; refine (ok_any _ _).mono ?_; rintro e w' ⟨rfl, rfl⟩)
    go_ret
    exact Ret.mk (int_eq (by simp [Wd.sizeV, h1]))
theorem mask_any (n a : Int) (w : World) : Calls Try.prog 52 #[.int .i64 n, .int .i64 a] w (Ret (.int .i64 (Wd.maskV n a)) w) := by
  by_cases h1 : Wd.okB n = true
  · have hz := Wd.sizeV_bd n
    have HZ := Lib.hid hz.1
    have h2 := Wd.okB_iff.1 h1
    go_enter Try.func52, Try.ntmps52
    go_wp2_with (first | (go_at_call 68; refine (ok_any _ _).mono ?_; rintro e w' ⟨rfl, rfl⟩) | (go_at_call 69; refine (size_any _ _).mono ?_; rintro e w' ⟨rfl, rfl⟩))
    go_ret
    refine Ret.mk (int_eq ?_)
    obtain ⟨k, rfl, _, hk⟩ := Wd.okB_nat h1
    have := Wd.bits_mask a k hk
    simp only [Wd.sizeV, Wd.maskV, h1, if_true, Int.toNat_natCast]
    exact this
  · have h1 : Wd.okB n = false := by simpa using h1
    go_enter Try.func52, Try.ntmps52
    go_wp2_with (go_at_call 68; refine (ok_any _ _).mono ?_; rintro e w' ⟨rfl, rfl⟩)
    go_ret
    exact Ret.mk (int_eq (by simp [Wd.maskV, h1]))

namespace Wd
theorem sizeV_pos {w : Int} (h : okB w = true) : 2 ≤ sizeV w := by
  obtain ⟨k, rfl, h1, hk⟩ := okB_nat h
  unfold sizeV; rw [if_pos h, Int.toNat_natCast]
  have : (2 : Nat) ^ 1 ≤ 2 ^ k := Nat.pow_le_pow_right (by omega) h1
  have h2 : ((2 ^ 1 : Nat) : Int) ≤ ((2 ^ k : Nat) : Int) := by exact_mod_cast this
  simpa using h2
theorem tmod_mask {w n : Int} (h : okB w = true) : (n.tmod (sizeV w) + sizeV w) % sizeV w = maskV w n ∧ - sizeV w < n.tmod (sizeV w) ∧ n.tmod (sizeV w) < sizeV w := by
  have hs := sizeV_pos h
  have h1 := Int.tmod_lt_of_pos n (b := sizeV w) (by omega)
  have h2 : - sizeV w < n.tmod (sizeV w) := by
    by_cases hn : 0 ≤ n
    · have := Int.tmod_nonneg (sizeV w) hn; omega
    · have := Int.tmod_lt_of_pos (-n) (b := sizeV w) (by omega)
      rw [Int.neg_tmod] at this; omega
  refine ⟨?_, h2, h1⟩
  rw [Int.add_emod_right]
  have e : maskV w n = n % sizeV w := by unfold maskV sizeV; rw [if_pos h, if_pos h]
  rw [e, Int.tmod_eq_emod]
  split
  · simp
  · rw [Int.natAbs_of_nonneg (by omega), Int.sub_emod, Int.emod_self, Int.sub_zero, Int.emod_emod, Int.emod_emod]
end Wd
theorem rsize_any (n : Int) (w : World) : Calls Try.prog 66 #[.int .i64 n] w (Ret (.int .i64 (Wd.sizeV n)) w) := by
  by_cases h1 : Wd.okB n = true
  · have h2 := Wd.okB_iff.1 h1
    have h3 : 1 ≤ n := h2.1
    have h4 : n ≤ 16 := h2.2
    clear h2
    go_enter Try.func66, Try.ntmps66
    go_wp2
    go_ret
    refine Ret.i rfl ?_
    have hz := Wd.sizeV_bd n
    unfold Wd.sizeV at *; rw [if_pos h1] at *
    exact IntWalk.wrap64_in _ (by omega)
  · have h1 : Wd.okB n = false := by simpa using h1
    by_cases h2 : n < 1
    · go_enter Try.func66, Try.ntmps66
      go_wp2
      go_ret
      exact Ret.i rfl (by simp [Wd.sizeV, h1])
    · have h3 : 16 < n := by simp [Wd.okB] at h1; omega
      go_enter Try.func66, Try.ntmps66
      go_wp2
      go_ret
      exact Ret.i rfl (by simp [Wd.sizeV, h1])
theorem rmask_any (n a : Int) (w : World) : Calls Try.prog 41 #[.int .i64 n, .int .i64 a] w (Ret (.int .i64 (Wd.maskV n a)) w) := by
  by_cases h1 : Wd.okB n = true
  · have hs := Wd.sizeV_pos h1
    have hs2 := (Wd.sizeV_bd n).2
    have ht := (Wd.tmod_mask (n := a) h1).2
    have ht1 := ht.1
    have ht2 := ht.2
    clear ht
    go_enter Try.func41, Try.ntmps41
    go_wp2_with (go_at_call 66; refine (rsize_any _ _).mono ?_; rintro e w' ⟨rfl, rfl⟩)
    go_ret
    exact Ret.i rfl (Wd.tmod_mask h1).1
  · have h1 : Wd.okB n = false := by simpa using h1
    have hs : Wd.sizeV n = 0 := by simp [Wd.sizeV, h1]
    go_enter Try.func41, Try.ntmps41
    go_wp2_with (go_at_call 66; refine (rsize_any _ _).mono ?_; rintro e w' ⟨rfl, rfl⟩)
    go_ret
    exact Ret.i rfl (by simp [Wd.maskV, h1])

namespace Px
open Rx
/-- a contract of the elder kind: a number, of two numbers -/
theorem ofRet2 {f : FuncId} {k1 k2 k : IntKind} {a b c : Int} (h : ∀ w, Calls Try.prog f #[.int k1 a, .int k2 b] w (Ret (.int k c) w)) : PureC Try.prog f [.int k1 a, .int k2 b] (.int k c) [] := by
  intro w R vs hR hl ha
  obtain ⟨vs⟩ := vs
  match vs, hl, ha with
  | [x, y], _, ha =>
    have h1 := ha 0 _ x rfl rfl
    have h2 := ha 1 _ y rfl rfl
    cases h1; cases h2
    refine (h w).mono ?_
    rintro e w' ⟨rfl, rfl⟩
    exact ⟨_, ⟨w, R, fun _ => none, fun i => ([] : List Blk)[i]?, w.heap.size⟩, rfl, rfl, rfl, ⟨fun id b hb => (by simp at hb), fun _ _ _ _ _ _ _ h1 _ => (by cases h1), hR, Nat.le_refl _⟩, rfl, fun _ h => h, fun _ h => .inl h, Below.refl _ _, .pure (.int _ _)⟩
theorem maskC (W n : Int) : PureC Try.prog 52 [.int .i64 W, .int .i64 n] (.int .i64 (Wd.maskV W n)) [] := ofRet2 fun w => mask_any W n w
theorem rmaskC (W n : Int) : PureC Try.prog 41 [.int .i64 W, .int .i64 n] (.int .i64 (Wd.maskV W n)) [] := ofRet2 fun w => rmask_any W n w
end Px
end
end Go.Proofs.Ytjdiabjmphdhiaa
namespace Go.Proofs.Ytjdiabjmphdhiaa.Px
section
open Go.RowKit Go.Proofs.Ytjdiabjmphdhiaa.Rx
structure S7 where
  r0 : Int
  r1 : Int
  r2 : Int
  r3 : Int
  m : List Int
def put7 (s : S7) (p : Pl) (v : Int) : S7 :=
  if p.reg = true then (if p.n = 0 then { s with r0 := v } else if p.n = 1 then { s with r1 := v } else if p.n = 2 then { s with r2 := v } else { s with r3 := v }) else { s with m := s.m.set p.n v }
def putK (W : Int) (pl : List Pl) (l : List Int) (s0 : S7) : Nat → S7
  | 0 => s0
  | k + 1 => put7 (putK W pl l s0 k) (pl.getD k default) (Wd.maskV W (l.getD k 0))
def zer7 (N : Nat) : S7 := ⟨0, 0, 0, 0, List.replicate N 0⟩
def plOk (N : Nat) (p : Pl) : Prop := (p.reg = true → p.n < 4) ∧ (p.reg = false → p.n < N)
def stZ (a : AV) : List AV := [.int .i64 0, .int .i64 0, .int .i64 0, .int .i64 0, a, .nils, .int .i64 0]
def stC (s : S7) (a : AV) : List AV := [.int .i64 s.r0, .int .i64 s.r1, .int .i64 s.r2, .int .i64 s.r3, a, .nils, .int .i64 0]
def bx (e : TypeId) (cs : List AV) : Blk := ⟨0, false, e, .box cs⟩
def asS (cs : List AV) (pl : List Pl) (l : List Int) (s : S7) (k : Nat) : Sm := ⟨[(23, .int .i64 pl.length), (22, .own 2 0 3 0 pl.length), (2, .bptr 0 0), (1, .row 1 l.length (rowI l)), (7, .bptr 4 0), (4, .bptr 1 0), (5, .bool false), (24, .int .i64 k)],
  [(0, bx 28 cs), (1, bx 31 (stZ .nils)), (2, plB pl), (3, blkI s.m), (4, bx 31 (stC s (.own 3 0 1 0 s.m.length)))], 5⟩
theorem put7_len (s : S7) (p : Pl) (v : Int) : (put7 s p v).m.length = s.m.length := by
  unfold put7
  repeat' split
  all_goals first | rfl | simp
theorem putK_len (W : Int) (pl : List Pl) (l : List Int) (s : S7) (k : Nat) : (putK W pl l s k).m.length = s.m.length := by
  induction k with
  | zero => rfl
  | succ k ih => rw [putK, put7_len, ih]
theorem rowI_set {m : List Int} {n i j : Nat} {v : Int} {a : AV} (hi : i < m.length) (ha : a = .int .i64 v) : (bif Nat.beq i n then a else rowI m i j) = rowI (m.set n v) i j := by
  unfold rowI
  subst ha
  by_cases h : i = n
  · subst h
    simp [List.getD, hi]
  · have : Nat.beq i n = false := by
      cases hb : Nat.beq i n with
      | false => rfl
      | true => exact absurd (Nat.eq_of_beq_eq_true hb) h
    rw [this]
    simp [List.getD, List.getElem?_set, Ne.symm h]
theorem set_row {m : List Int} {n : Nat} {v : Int} : ∀ i, i < m.length → ∀ j, j < 1 → (bif Nat.beq i (n + 0) && Nat.ble 0 j && Nat.blt j 1 then [AV.int .i64 v].getD (j - 0) .junk else AV.int .i64 (m.getD i 0)) = .int .i64 ((m.set n v).getD i 0) := by
  intro i hi j hj
  obtain rfl : j = 0 := by omega
  show (bif Nat.beq i n && true && true then AV.int .i64 v else AV.int .i64 (m.getD i 0)) = _
  rw [Bool.and_true, Bool.and_true]
  exact rowI_set (m := m) (i := i) (j := 0) (n := n) (v := v) hi rfl
theorem rowI_rep {N : Nat} {a : AV} (ha : a = .int .i64 0) (i j : Nat) (hi : i < N) : a = rowI (List.replicate N 0) i j := by
  unfold rowI
  rw [ha]
  simp [List.getD, hi]
theorem places_ok (r : Nat → Int) (ms : List Mm) : ∀ p ∈ places r ms, plOk (sumN ms) p := by
  intro p hp
  rcases List.mem_append.1 hp with hp | hp
  · have key : ∀ k, p ∈ regL r k → p.reg = true ∧ p.n < k := by
      intro k
      induction k with
      | zero => intro h; cases h
      | succ k ih =>
        intro h
        rcases List.mem_append.1 h with h | h
        · have := ih h; exact ⟨this.1, by omega⟩
        · split at h
          · cases h
          · rw [List.mem_singleton] at h
            subst h
            exact ⟨rfl, Nat.lt_succ_self k⟩
    have := key 4 hp
    exact ⟨fun _ => this.2, fun h => by rw [this.1] at h; cases h⟩
  · have key : ∀ (l : List Mm) (at_ : Nat), p ∈ memL at_ l → p.reg = false ∧ p.n < at_ + sumN l := by
      intro l
      induction l with
      | nil => intro at_ h; cases h
      | cons m l ih =>
        intro at_ h
        rcases List.mem_append.1 h with h | h
        · obtain ⟨i, hi, rfl⟩ := List.mem_map.1 h
          rw [List.mem_range] at hi
          refine ⟨rfl, ?_⟩
          show at_ + i < _
          simp only [sumN]; omega
        · have := ih _ h
          refine ⟨this.1, ?_⟩
          simp only [sumN]; omega
    have := key ms 0 hp
    exact ⟨fun h => (by rw [this.1] at h; cases h), fun _ => by omega⟩
theorem places_length (r : Nat → Int) (ms : List Mm) : (places r ms).length ≤ 4 + sumN ms := by
  have := regL_le r 4
  have h2 := memL_length 0 ms
  simp only [places, List.length_append]; omega
theorem getD_mem {pl : List Pl} {k : Nat} (h : k < pl.length) : pl.getD k default ∈ pl := by
  simp [List.getD, h]
def frA7f0 (r2 : Int) (r3 : Int) (pl : List Pl) (l : List Int) (s : S7) (Z : Prop) : Prop := (S7.r2 s = S7.r2 s) ∧ (S7.r3 s = S7.r3 s) ∧ ((0 : Nat) = (0 : Nat)) ∧ (List.length (S7.m s) = List.length (S7.m s)) ∧ ((0 : Int) = (0 : Int)) ∧ ((↑(List.length pl) : Int) = (↑(List.length pl) : Int)) ∧ ((0 : Nat) = (0 : Nat)) ∧ (List.length pl = List.length pl) ∧ (List.length l = List.length l) ∧ Z
theorem frA7f0_mk (r2 : Int) (r3 : Int) (pl : List Pl) (l : List Int) (s : S7) {Z : Prop} (z : Z) : frA7f0 r2 r3 pl l s Z := ⟨rfl, rfl, rfl, rfl, rfl, rfl, rfl, rfl, rfl, z⟩
def frA7f1 (W : Int) (r0 : Int) (r1 : Int) (r2 : Int) (r3 : Int) (ms : List Mm) (Z : Prop) : Prop := (W = W) ∧ (r0 = r0) ∧ (r1 = r1) ∧ (r2 = r2) ∧ (r3 = r3) ∧ (List.length ms = List.length ms) ∧ (∀ (i : Nat), i < List.length ms → ∀ (j : Nat), j < (3 : Nat) → rowL mmC ms i j = rowL mmC ms i j) ∧ ((0 : Int) = (0 : Int)) ∧ ((0 : Int) = (0 : Int)) ∧ Z
theorem frA7f1_mk (W : Int) (r0 : Int) (r1 : Int) (r2 : Int) (r3 : Int) (ms : List Mm) {Z : Prop} (z : Z) : frA7f1 W r0 r1 r2 r3 ms Z := ⟨rfl, rfl, rfl, rfl, rfl, rfl, (fun _ _ _ _ => rfl), rfl, rfl, z⟩
theorem as_reg0 (W r0 r1 r2 r3 : Int) (ms : List Mm) (pl : List Pl) (l : List Int) (s : S7) (k : Nat) (hk : k < pl.length) (hl : l.length = pl.length) (hp : pl.length < 1000000) (hr : (pl.getD k default).reg = true) (hn : (pl.getD k default).n = 0) : Vc (vcC Try.prog false (ntOf Try.prog 34) (lpC Try.prog 34 0) (asS (progL W r0 r1 r2 r3 (memR ms)) pl l s k) [.b true, .cl [.int .i64 W, .int .i64 (l.getD k 0)] (.int .i64 (Wd.maskV W (l.getD k 0))) [], .b true, .ix 0] .nrm [(0, 0), (1, 1), (2, 2), (3, 3), (4, 4)] (asS (progL W r0 r1 r2 r3 (memR ms)) pl l { s with r0 := Wd.maskV W (l.getD k 0) } (k + 1))) :=
  vc_of (q := (decide ((↑k : Int) < (↑(List.length pl) : Int)) = true) ∧ ((0 : Int) ≤ (↑k : Int) ∧ (↑k : Int) < (↑(List.length pl) : Int)) ∧ (k + (0 : Nat) < List.length pl) ∧ ((0 : Int) ≤ (↑k : Int) ∧ (↑k : Int) < (↑(List.length l) : Int)) ∧ (W = W) ∧ (List.getD l k (0 : Int) = List.getD l k (0 : Int)) ∧ (PureC Try.prog 52 [.int .i64 W, .int .i64 (l.getD k 0)] (.int .i64 (Wd.maskV W (l.getD k 0))) []) ∧ (Pl.reg (List.getD pl (k + (0 : Nat)) Inhabited.default) = true) ∧ ((↑(Pl.n (List.getD pl (k + (0 : Nat)) Inhabited.default)) : Int) = (↑(0 : Nat) : Int)) ∧ (inK IntKind.i64 ((↑k : Int) + (1 : Int))) ∧ (frA7f1 W r0 r1 r2 r3 ms (((0 : Int) = (0 : Int)) ∧ ((0 : Int) = (0 : Int)) ∧ ((0 : Int) = (0 : Int)) ∧ (List.length pl = List.length pl) ∧ (∀ (i : Nat), i < List.length pl → ∀ (j : Nat), j < (3 : Nat) → rowL plC pl i j = rowL plC pl i j) ∧ (List.length (S7.m s) = List.length (S7.m s)) ∧ (∀ (i : Nat), i < List.length (S7.m s) → ∀ (j : Nat), j < (1 : Nat) → AV.int IntKind.i64 (List.getD (S7.m s) i (0 : Int)) = AV.int IntKind.i64 (List.getD (S7.m s) i (0 : Int))) ∧ (Wd.maskV W (List.getD l k (0 : Int)) = Wd.maskV W (List.getD l k (0 : Int))) ∧ (S7.r1 s = S7.r1 s) ∧ (frA7f0 r2 r3 pl l s ((∀ (i : Nat), i < List.length l → ∀ (j : Nat), j < (1 : Nat) → AV.int IntKind.i64 (List.getD l i (0 : Int)) = AV.int IntKind.i64 (List.getD l i (0 : Int))) ∧ (false = false) ∧ ((↑k : Int) + (1 : Int) = (↑(k + (1 : Nat)) : Int)) ∧ True))))) (by kernel_rfl)
    ⟨(decide_eq_true (by first | omega | (simp; omega) | (simp; done))),
 (by first | omega | rfl),
 (by first | omega | rfl),
 (by first | omega | rfl),
 rfl,
 rfl,
 maskC W (l.getD k 0),
 hr,
 (congrArg Int.ofNat hn),
 (in64 (by omega) (by omega)), (frA7f1_mk W r0 r1 r2 r3 ms ⟨rfl,
 rfl,
 rfl,
 rfl,
 (fun _ _ _ _ => rfl),
 rfl,
 (fun _ _ _ _ => rfl),
 rfl,
 rfl, (frA7f0_mk r2 r3 pl l s ⟨(fun _ _ _ _ => rfl),
 rfl,
 (by first | omega | rfl), trivial⟩)⟩)⟩
theorem as_reg1 (W r0 r1 r2 r3 : Int) (ms : List Mm) (pl : List Pl) (l : List Int) (s : S7) (k : Nat) (hk : k < pl.length) (hl : l.length = pl.length) (hp : pl.length < 1000000) (hr : (pl.getD k default).reg = true) (hn : (pl.getD k default).n = 1) : Vc (vcC Try.prog false (ntOf Try.prog 34) (lpC Try.prog 34 0) (asS (progL W r0 r1 r2 r3 (memR ms)) pl l s k) [.b true, .cl [.int .i64 W, .int .i64 (l.getD k 0)] (.int .i64 (Wd.maskV W (l.getD k 0))) [], .b true, .ix 1] .nrm [(0, 0), (1, 1), (2, 2), (3, 3), (4, 4)] (asS (progL W r0 r1 r2 r3 (memR ms)) pl l { s with r1 := Wd.maskV W (l.getD k 0) } (k + 1))) :=
  vc_of (q := (decide ((↑k : Int) < (↑(List.length pl) : Int)) = true) ∧ ((0 : Int) ≤ (↑k : Int) ∧ (↑k : Int) < (↑(List.length pl) : Int)) ∧ (k + (0 : Nat) < List.length pl) ∧ ((0 : Int) ≤ (↑k : Int) ∧ (↑k : Int) < (↑(List.length l) : Int)) ∧ (W = W) ∧ (List.getD l k (0 : Int) = List.getD l k (0 : Int)) ∧ (PureC Try.prog 52 [.int .i64 W, .int .i64 (l.getD k 0)] (.int .i64 (Wd.maskV W (l.getD k 0))) []) ∧ (Pl.reg (List.getD pl (k + (0 : Nat)) Inhabited.default) = true) ∧ ((↑(Pl.n (List.getD pl (k + (0 : Nat)) Inhabited.default)) : Int) = (↑(1 : Nat) : Int)) ∧ (inK IntKind.i64 ((↑k : Int) + (1 : Int))) ∧ (frA7f1 W r0 r1 r2 r3 ms (((0 : Int) = (0 : Int)) ∧ ((0 : Int) = (0 : Int)) ∧ ((0 : Int) = (0 : Int)) ∧ (List.length pl = List.length pl) ∧ (∀ (i : Nat), i < List.length pl → ∀ (j : Nat), j < (3 : Nat) → rowL plC pl i j = rowL plC pl i j) ∧ (List.length (S7.m s) = List.length (S7.m s)) ∧ (∀ (i : Nat), i < List.length (S7.m s) → ∀ (j : Nat), j < (1 : Nat) → AV.int IntKind.i64 (List.getD (S7.m s) i (0 : Int)) = AV.int IntKind.i64 (List.getD (S7.m s) i (0 : Int))) ∧ (S7.r0 s = S7.r0 s) ∧ (Wd.maskV W (List.getD l k (0 : Int)) = Wd.maskV W (List.getD l k (0 : Int))) ∧ (frA7f0 r2 r3 pl l s ((∀ (i : Nat), i < List.length l → ∀ (j : Nat), j < (1 : Nat) → AV.int IntKind.i64 (List.getD l i (0 : Int)) = AV.int IntKind.i64 (List.getD l i (0 : Int))) ∧ (false = false) ∧ ((↑k : Int) + (1 : Int) = (↑(k + (1 : Nat)) : Int)) ∧ True))))) (by kernel_rfl)
    ⟨(decide_eq_true (by first | omega | (simp; omega) | (simp; done))),
 (by first | omega | rfl),
 (by first | omega | rfl),
 (by first | omega | rfl),
 rfl,
 rfl,
 maskC W (l.getD k 0),
 hr,
 (congrArg Int.ofNat hn),
 (in64 (by omega) (by omega)), (frA7f1_mk W r0 r1 r2 r3 ms ⟨rfl,
 rfl,
 rfl,
 rfl,
 (fun _ _ _ _ => rfl),
 rfl,
 (fun _ _ _ _ => rfl),
 rfl,
 rfl, (frA7f0_mk r2 r3 pl l s ⟨(fun _ _ _ _ => rfl),
 rfl,
 (by first | omega | rfl), trivial⟩)⟩)⟩
def frA7f2 (r0 : Int) (r1 : Int) (pl : List Pl) (s : S7) (Z : Prop) : Prop := ((0 : Int) = (0 : Int)) ∧ ((0 : Int) = (0 : Int)) ∧ ((0 : Int) = (0 : Int)) ∧ (List.length pl = List.length pl) ∧ (∀ (i : Nat), i < List.length pl → ∀ (j : Nat), j < (3 : Nat) → rowL plC pl i j = rowL plC pl i j) ∧ (List.length (S7.m s) = List.length (S7.m s)) ∧ (∀ (i : Nat), i < List.length (S7.m s) → ∀ (j : Nat), j < (1 : Nat) → AV.int IntKind.i64 (List.getD (S7.m s) i (0 : Int)) = AV.int IntKind.i64 (List.getD (S7.m s) i (0 : Int))) ∧ (S7.r0 s = S7.r0 s) ∧ (S7.r1 s = S7.r1 s) ∧ Z
theorem frA7f2_mk (r0 : Int) (r1 : Int) (pl : List Pl) (s : S7) {Z : Prop} (z : Z) : frA7f2 r0 r1 pl s Z := ⟨rfl, rfl, rfl, rfl, (fun _ _ _ _ => rfl), rfl, (fun _ _ _ _ => rfl), rfl, rfl, z⟩
theorem as_reg2 (W r0 r1 r2 r3 : Int) (ms : List Mm) (pl : List Pl) (l : List Int) (s : S7) (k : Nat) (hk : k < pl.length) (hl : l.length = pl.length) (hp : pl.length < 1000000) (hr : (pl.getD k default).reg = true) (hn : (pl.getD k default).n = 2) : Vc (vcC Try.prog false (ntOf Try.prog 34) (lpC Try.prog 34 0) (asS (progL W r0 r1 r2 r3 (memR ms)) pl l s k) [.b true, .cl [.int .i64 W, .int .i64 (l.getD k 0)] (.int .i64 (Wd.maskV W (l.getD k 0))) [], .b true, .ix 2] .nrm [(0, 0), (1, 1), (2, 2), (3, 3), (4, 4)] (asS (progL W r0 r1 r2 r3 (memR ms)) pl l { s with r2 := Wd.maskV W (l.getD k 0) } (k + 1))) :=
  vc_of (q := (decide ((↑k : Int) < (↑(List.length pl) : Int)) = true) ∧ ((0 : Int) ≤ (↑k : Int) ∧ (↑k : Int) < (↑(List.length pl) : Int)) ∧ (k + (0 : Nat) < List.length pl) ∧ ((0 : Int) ≤ (↑k : Int) ∧ (↑k : Int) < (↑(List.length l) : Int)) ∧ (W = W) ∧ (List.getD l k (0 : Int) = List.getD l k (0 : Int)) ∧ (PureC Try.prog 52 [.int .i64 W, .int .i64 (l.getD k 0)] (.int .i64 (Wd.maskV W (l.getD k 0))) []) ∧ (Pl.reg (List.getD pl (k + (0 : Nat)) Inhabited.default) = true) ∧ ((↑(Pl.n (List.getD pl (k + (0 : Nat)) Inhabited.default)) : Int) = (↑(2 : Nat) : Int)) ∧ (inK IntKind.i64 ((↑k : Int) + (1 : Int))) ∧ (frA7f1 W r0 r1 r2 r3 ms ((frA7f2 r0 r1 pl s ((Wd.maskV W (List.getD l k (0 : Int)) = Wd.maskV W (List.getD l k (0 : Int))) ∧ (S7.r3 s = S7.r3 s) ∧ ((0 : Nat) = (0 : Nat)) ∧ (List.length (S7.m s) = List.length (S7.m s)) ∧ ((0 : Int) = (0 : Int)) ∧ ((↑(List.length pl) : Int) = (↑(List.length pl) : Int)) ∧ ((0 : Nat) = (0 : Nat)) ∧ (List.length pl = List.length pl) ∧ (List.length l = List.length l) ∧ (∀ (i : Nat), i < List.length l → ∀ (j : Nat), j < (1 : Nat) → AV.int IntKind.i64 (List.getD l i (0 : Int)) = AV.int IntKind.i64 (List.getD l i (0 : Int))) ∧ (false = false) ∧ ((↑k : Int) + (1 : Int) = (↑(k + (1 : Nat)) : Int)) ∧ True))))) (by kernel_rfl)
    ⟨(decide_eq_true (by first | omega | (simp; omega) | (simp; done))),
 (by first | omega | rfl),
 (by first | omega | rfl),
 (by first | omega | rfl),
 rfl,
 rfl,
 maskC W (l.getD k 0),
 hr,
 (congrArg Int.ofNat hn),
 (in64 (by omega) (by omega)), (frA7f1_mk W r0 r1 r2 r3 ms (frA7f2_mk r0 r1 pl s ⟨rfl,
 rfl,
 rfl,
 rfl,
 rfl,
 rfl,
 rfl,
 rfl,
 rfl,
 (fun _ _ _ _ => rfl),
 rfl,
 (by first | omega | rfl), trivial⟩))⟩
theorem as_reg3 (W r0 r1 r2 r3 : Int) (ms : List Mm) (pl : List Pl) (l : List Int) (s : S7) (k : Nat) (hk : k < pl.length) (hl : l.length = pl.length) (hp : pl.length < 1000000) (hr : (pl.getD k default).reg = true) (hn : (pl.getD k default).n = 3) : Vc (vcC Try.prog false (ntOf Try.prog 34) (lpC Try.prog 34 0) (asS (progL W r0 r1 r2 r3 (memR ms)) pl l s k) [.b true, .cl [.int .i64 W, .int .i64 (l.getD k 0)] (.int .i64 (Wd.maskV W (l.getD k 0))) [], .b true, .ix 3] .nrm [(0, 0), (1, 1), (2, 2), (3, 3), (4, 4)] (asS (progL W r0 r1 r2 r3 (memR ms)) pl l { s with r3 := Wd.maskV W (l.getD k 0) } (k + 1))) :=
  vc_of (q := (decide ((↑k : Int) < (↑(List.length pl) : Int)) = true) ∧ ((0 : Int) ≤ (↑k : Int) ∧ (↑k : Int) < (↑(List.length pl) : Int)) ∧ (k + (0 : Nat) < List.length pl) ∧ ((0 : Int) ≤ (↑k : Int) ∧ (↑k : Int) < (↑(List.length l) : Int)) ∧ (W = W) ∧ (List.getD l k (0 : Int) = List.getD l k (0 : Int)) ∧ (PureC Try.prog 52 [.int .i64 W, .int .i64 (l.getD k 0)] (.int .i64 (Wd.maskV W (l.getD k 0))) []) ∧ (Pl.reg (List.getD pl (k + (0 : Nat)) Inhabited.default) = true) ∧ ((↑(Pl.n (List.getD pl (k + (0 : Nat)) Inhabited.default)) : Int) = (↑(3 : Nat) : Int)) ∧ (inK IntKind.i64 ((↑k : Int) + (1 : Int))) ∧ (frA7f1 W r0 r1 r2 r3 ms ((frA7f2 r0 r1 pl s ((S7.r2 s = S7.r2 s) ∧ (Wd.maskV W (List.getD l k (0 : Int)) = Wd.maskV W (List.getD l k (0 : Int))) ∧ ((0 : Nat) = (0 : Nat)) ∧ (List.length (S7.m s) = List.length (S7.m s)) ∧ ((0 : Int) = (0 : Int)) ∧ ((↑(List.length pl) : Int) = (↑(List.length pl) : Int)) ∧ ((0 : Nat) = (0 : Nat)) ∧ (List.length pl = List.length pl) ∧ (List.length l = List.length l) ∧ (∀ (i : Nat), i < List.length l → ∀ (j : Nat), j < (1 : Nat) → AV.int IntKind.i64 (List.getD l i (0 : Int)) = AV.int IntKind.i64 (List.getD l i (0 : Int))) ∧ (false = false) ∧ ((↑k : Int) + (1 : Int) = (↑(k + (1 : Nat)) : Int)) ∧ True))))) (by kernel_rfl)
    ⟨(decide_eq_true (by first | omega | (simp; omega) | (simp; done))),
 (by first | omega | rfl),
 (by first | omega | rfl),
 (by first | omega | rfl),
 rfl,
 rfl,
 maskC W (l.getD k 0),
 hr,
 (congrArg Int.ofNat hn),
 (in64 (by omega) (by omega)), (frA7f1_mk W r0 r1 r2 r3 ms (frA7f2_mk r0 r1 pl s ⟨rfl,
 rfl,
 rfl,
 rfl,
 rfl,
 rfl,
 rfl,
 rfl,
 rfl,
 (fun _ _ _ _ => rfl),
 rfl,
 (by first | omega | rfl), trivial⟩))⟩
theorem as_mem (W r0 r1 r2 r3 : Int) (ms : List Mm) (pl : List Pl) (l : List Int) (s : S7) (k : Nat) (hk : k < pl.length) (hl : l.length = pl.length) (hp : pl.length < 1000000) (hr : (pl.getD k default).reg = false) (hn : (pl.getD k default).n < s.m.length) : Vc (vcC Try.prog false (ntOf Try.prog 34) (lpC Try.prog 34 0) (asS (progL W r0 r1 r2 r3 (memR ms)) pl l s k) [.b true, .cl [.int .i64 W, .int .i64 (l.getD k 0)] (.int .i64 (Wd.maskV W (l.getD k 0))) [], .b false] .nrm [(0, 0), (1, 1), (2, 2), (3, 3), (4, 4)] (asS (progL W r0 r1 r2 r3 (memR ms)) pl l { s with m := s.m.set (pl.getD k default).n (Wd.maskV W (l.getD k 0)) } (k + 1))) :=
  vc_of (q := (decide ((↑k : Int) < (↑(List.length pl) : Int)) = true) ∧ ((0 : Int) ≤ (↑k : Int) ∧ (↑k : Int) < (↑(List.length pl) : Int)) ∧ (k + (0 : Nat) < List.length pl) ∧ ((0 : Int) ≤ (↑k : Int) ∧ (↑k : Int) < (↑(List.length l) : Int)) ∧ (W = W) ∧ (List.getD l k (0 : Int) = List.getD l k (0 : Int)) ∧ (PureC Try.prog 52 [.int .i64 W, .int .i64 (l.getD k 0)] (.int .i64 (Wd.maskV W (l.getD k 0))) []) ∧ (Pl.reg (List.getD pl (k + (0 : Nat)) Inhabited.default) = false) ∧ ((0 : Int) ≤ (↑(Pl.n (List.getD pl (k + (0 : Nat)) Inhabited.default)) : Int) ∧ (↑(Pl.n (List.getD pl (k + (0 : Nat)) Inhabited.default)) : Int) < (↑(List.length (S7.m s)) : Int)) ∧ (Pl.n (List.getD pl (k + (0 : Nat)) Inhabited.default) + (0 : Nat) < List.length (S7.m s)) ∧ (inK IntKind.i64 ((↑k : Int) + (1 : Int))) ∧ (frA7f1 W r0 r1 r2 r3 ms (((0 : Int) = (0 : Int)) ∧ ((0 : Int) = (0 : Int)) ∧ ((0 : Int) = (0 : Int)) ∧ (List.length pl = List.length pl) ∧ (∀ (i : Nat), i < List.length pl → ∀ (j : Nat), j < (3 : Nat) → rowL plC pl i j = rowL plC pl i j) ∧ (List.length (S7.m s) = List.length (List.set (S7.m s) (Pl.n (List.getD pl k Inhabited.default)) (Wd.maskV W (List.getD l k (0 : Int))))) ∧ (∀ (i : Nat), i < List.length (S7.m s) → ∀ (j : Nat), j < (1 : Nat) → (bif Nat.beq i (Pl.n (List.getD pl (k + (0 : Nat)) Inhabited.default) + (0 : Nat)) && Nat.ble (0 : Nat) j && Nat.blt j (1 : Nat) then List.getD [AV.int IntKind.i64 (Wd.maskV W (List.getD l k (0 : Int)))] (j - (0 : Nat)) AV.junk else AV.int IntKind.i64 (List.getD (S7.m s) i (0 : Int))) = AV.int IntKind.i64 (List.getD (List.set (S7.m s) (Pl.n (List.getD pl k Inhabited.default)) (Wd.maskV W (List.getD l k (0 : Int)))) i (0 : Int))) ∧ (S7.r0 s = S7.r0 s) ∧ (S7.r1 s = S7.r1 s) ∧ (S7.r2 s = S7.r2 s) ∧ (S7.r3 s = S7.r3 s) ∧ ((0 : Nat) = (0 : Nat)) ∧ (List.length (S7.m s) = List.length (List.set (S7.m s) (Pl.n (List.getD pl k Inhabited.default)) (Wd.maskV W (List.getD l k (0 : Int))))) ∧ ((0 : Int) = (0 : Int)) ∧ ((↑(List.length pl) : Int) = (↑(List.length pl) : Int)) ∧ ((0 : Nat) = (0 : Nat)) ∧ (List.length pl = List.length pl) ∧ (List.length l = List.length l) ∧ (∀ (i : Nat), i < List.length l → ∀ (j : Nat), j < (1 : Nat) → AV.int IntKind.i64 (List.getD l i (0 : Int)) = AV.int IntKind.i64 (List.getD l i (0 : Int))) ∧ (false = false) ∧ ((↑k : Int) + (1 : Int) = (↑(k + (1 : Nat)) : Int)) ∧ True))) (by kernel_rfl)
    ⟨(decide_eq_true (by first | omega | (simp; omega) | (simp; done))),
 (by first | omega | rfl),
 (by first | omega | rfl),
 (by first | omega | rfl),
 rfl,
 rfl,
 maskC W (l.getD k 0),
 hr,
 ⟨Int.natCast_nonneg _, Int.ofNat_lt.2 hn⟩,
 hn,
 (in64 (by omega) (by omega)), (frA7f1_mk W r0 r1 r2 r3 ms ⟨rfl,
 rfl,
 rfl,
 rfl,
 (fun _ _ _ _ => rfl),
 List.length_set.symm,
 set_row,
 rfl,
 rfl,
 rfl,
 rfl,
 rfl,
 List.length_set.symm,
 rfl,
 rfl,
 rfl,
 rfl,
 rfl,
 (fun _ _ _ _ => rfl),
 rfl,
 (by first | omega | rfl), trivial⟩)⟩
theorem as_end (W r0 r1 r2 r3 : Int) (ms : List Mm) (pl : List Pl) (l : List Int) (s : S7) : Vc (vcC Try.prog false (ntOf Try.prog 34) (lpC Try.prog 34 0) (asS (progL W r0 r1 r2 r3 (memR ms)) pl l s pl.length) [.b false] (.ext 0) [(0, 0), (1, 1), (2, 2), (3, 3), (4, 4)] (asS (progL W r0 r1 r2 r3 (memR ms)) pl l s pl.length)) :=
  vc_of (q := (decide ((↑(List.length pl) : Int) < (↑(List.length pl) : Int)) = false) ∧ (frA7f1 W r0 r1 r2 r3 ms ((frA7f2 r0 r1 pl s ((frA7f0 r2 r3 pl l s ((∀ (i : Nat), i < List.length l → ∀ (j : Nat), j < (1 : Nat) → AV.int IntKind.i64 (List.getD l i (0 : Int)) = AV.int IntKind.i64 (List.getD l i (0 : Int))) ∧ (false = false) ∧ ((↑(List.length pl) : Int) = (↑(List.length pl) : Int)) ∧ True))))))) (by kernel_rfl)
    ⟨(decide_eq_false (by first | omega | (simp; omega) | (simp; done))), (frA7f1_mk W r0 r1 r2 r3 ms (frA7f2_mk r0 r1 pl s (frA7f0_mk r2 r3 pl l s ⟨(fun _ _ _ _ => rfl),
 rfl,
 rfl, trivial⟩)))⟩
theorem as_loop (W r0 r1 r2 r3 : Int) (ms : List Mm) (pl : List Pl) (l : List Int) (s : S7) (hl : l.length = pl.length) (hp : pl.length < 1000000) (ho : ∀ p ∈ pl, plOk s.m.length p) : Ok Try.prog (ntOf Try.prog 34) (.loop (lpC Try.prog 34 0)) (asS (progL W r0 r1 r2 r3 (memR ms)) pl l s 0).st (.ext 0) (asS (progL W r0 r1 r2 r3 (memR ms)) pl l (putK W pl l s pl.length) pl.length).st :=
  Ok.loop (P := Try.prog) (nt := ntOf Try.prog 34) (c := lpC Try.prog 34 0) (F := fun k => asS (progL W r0 r1 r2 r3 (memR ms)) pl l (putK W pl l s k) k) (m := pl.length) (x := .ext 0) (J := asS (progL W r0 r1 r2 r3 (memR ms)) pl l (putK W pl l s pl.length) pl.length) (fun k hk => by
    have hm := putK_len W pl l s k
    obtain ⟨h1, h2⟩ := ho _ (getD_mem hk)
    show Ok _ _ _ _ _ (asS _ pl l (put7 (putK W pl l s k) (pl.getD k default) (Wd.maskV W (l.getD k 0))) (k + 1)).st
    cases hr : (pl.getD k default).reg with
    | true =>
      have hn := h1 hr
      unfold put7
      rw [if_pos hr]
      match hq : (pl.getD k default).n, hn with
      | 0, _ => exact Ok.vc (as_reg0 W r0 r1 r2 r3 ms pl l _ k hk hl hp hr hq)
      | 1, _ => exact Ok.vc (as_reg1 W r0 r1 r2 r3 ms pl l _ k hk hl hp hr hq)
      | 2, _ => exact Ok.vc (as_reg2 W r0 r1 r2 r3 ms pl l _ k hk hl hp hr hq)
      | 3, _ => exact Ok.vc (as_reg3 W r0 r1 r2 r3 ms pl l _ k hk hl hp hr hq)
    | false =>
      have hn := h2 hr
      unfold put7
      rw [if_neg (by rw [hr]; simp)]
      exact Ok.vc (as_mem W r0 r1 r2 r3 ms pl l _ k hk hl hp hr (by rw [hm]; exact hn))) (Ok.vc (as_end W r0 r1 r2 r3 ms pl l _)) (by simp)
def frA7f3 (W : Int) (r0 : Int) (r1 : Int) (r2 : Int) (r3 : Int) (ms : List Mm) (Z : Prop) : Prop := (W = W) ∧ (r0 = r0) ∧ (r1 = r1) ∧ (r2 = r2) ∧ (r3 = r3) ∧ (List.length ms = List.length ms) ∧ (∀ (i : Nat), i < List.length ms → ∀ (j : Nat), j < (3 : Nat) → rowL mmC ms i j = rowL mmC ms i j) ∧ Z
theorem frA7f3_mk (W : Int) (r0 : Int) (r1 : Int) (r2 : Int) (r3 : Int) (ms : List Mm) {Z : Prop} (z : Z) : frA7f3 W r0 r1 r2 r3 ms Z := ⟨rfl, rfl, rfl, rfl, rfl, rfl, (fun _ _ _ _ => rfl), z⟩
theorem ast_r (W r0 r1 r2 r3 : Int) (ms : List Mm) (l : List Int) (h64 : ms.length < 4611686018427387904) (hs : sumN ms ≤ 16) (hl : l.length = (places (rg r0 r1 r2 r3) ms).length) : Vc (vcFn Try.prog false 34 [.agg (progL W r0 r1 r2 r3 (memR ms)), .row 1 l.length (rowI l)] [.cl [.agg (progL W r0 r1 r2 r3 (memR ms))] (.own 0 0 3 0 (places (rg r0 r1 r2 r3) ms).length) [plB (places (rg r0 r1 r2 r3) ms)], .b false, .cl [.agg (progL W r0 r1 r2 r3 (memR ms))] (.int .i64 (sumN ms)) [], .lp [(0, 0), (1, 1), (2, 2), (3, 3), (4, 4)] (asS (progL W r0 r1 r2 r3 (memR ms)) (places (rg r0 r1 r2 r3) ms) l (zer7 (sumN ms)) 0) (.ext 0) (asS (progL W r0 r1 r2 r3 (memR ms)) (places (rg r0 r1 r2 r3) ms) l (putK W (places (rg r0 r1 r2 r3) ms) l (zer7 (sumN ms)) (places (rg r0 r1 r2 r3) ms).length) (places (rg r0 r1 r2 r3) ms).length)] [(0, 3)] (.tup [.agg (stC (putK W (places (rg r0 r1 r2 r3) ms) l (zer7 (sumN ms)) (places (rg r0 r1 r2 r3) ms).length) (.own 0 0 1 0 (putK W (places (rg r0 r1 r2 r3) ms) l (zer7 (sumN ms)) (places (rg r0 r1 r2 r3) ms).length).m.length)), .bool true]) [blkI (putK W (places (rg r0 r1 r2 r3) ms) l (zer7 (sumN ms)) (places (rg r0 r1 r2 r3) ms).length).m]) :=
  vc_of (q := (frA7f3 W r0 r1 r2 r3 ms ((PureC Try.prog 33 [.agg (progL W r0 r1 r2 r3 (memR ms))] (.own 0 0 3 0 (places (rg r0 r1 r2 r3) ms).length) [plB (places (rg r0 r1 r2 r3) ms)]) ∧ (((↑(List.length l) : Int) != (↑(List.length (places (rg r0 r1 r2 r3) ms)) : Int)) = false) ∧ (frA7f3 W r0 r1 r2 r3 ms ((PureC Try.prog 30 [.agg (progL W r0 r1 r2 r3 (memR ms))] (.int .i64 (sumN ms)) []) ∧ ((0 : Int) ≤ (↑(sumN ms) : Int) ∧ (↑(sumN ms) : Int) ≤ (↑(sumN ms) : Int) ∧ (↑(sumN ms) : Int) * (↑(8 : Nat) : Int) ≤ (140737488355328 : Int) ∧ (↑(sumN ms) : Int) ≤ (140737488355328 : Int)) ∧ (frA7f1 W r0 r1 r2 r3 ms (((0 : Int) = (0 : Int)) ∧ ((0 : Int) = (0 : Int)) ∧ ((0 : Int) = (0 : Int)) ∧ (List.length (places (rg r0 r1 r2 r3) ms) = List.length (places (rg r0 r1 r2 r3) ms)) ∧ (∀ (i : Nat), i < List.length (places (rg r0 r1 r2 r3) ms) → ∀ (j : Nat), j < (3 : Nat) → rowL plC (places (rg r0 r1 r2 r3) ms) i j = rowL plC (places (rg r0 r1 r2 r3) ms) i j) ∧ (sumN ms = List.length (List.replicate (sumN ms) (0 : Int))) ∧ (∀ (i : Nat), i < sumN ms → ∀ (j : Nat), j < (1 : Nat) → List.getD [AV.int IntKind.i64 (0 : Int)] j AV.junk = AV.int IntKind.i64 (List.getD (List.replicate (sumN ms) (0 : Int)) i (0 : Int))) ∧ ((0 : Int) = (0 : Int)) ∧ ((0 : Int) = (0 : Int)) ∧ ((0 : Int) = (0 : Int)) ∧ ((0 : Int) = (0 : Int)) ∧ ((0 : Nat) = (0 : Nat)) ∧ (sumN ms = List.length (List.replicate (sumN ms) (0 : Int))) ∧ ((0 : Int) = (0 : Int)) ∧ ((↑(List.length (places (rg r0 r1 r2 r3) ms)) : Int) = (↑(List.length (places (rg r0 r1 r2 r3) ms)) : Int)) ∧ ((0 : Nat) = (0 : Nat)) ∧ (List.length (places (rg r0 r1 r2 r3) ms) = List.length (places (rg r0 r1 r2 r3) ms)) ∧ (List.length l = List.length l) ∧ (∀ (i : Nat), i < List.length l → ∀ (j : Nat), j < (1 : Nat) → AV.int IntKind.i64 (List.getD l i (0 : Int)) = AV.int IntKind.i64 (List.getD l i (0 : Int))) ∧ (false = false) ∧ ((0 : Int) = (↑(0 : Nat) : Int)) ∧ (Ok Try.prog (ntOf Try.prog 34) (.loop (lpC Try.prog 34 0)) (asS (progL W r0 r1 r2 r3 (memR ms)) (places (rg r0 r1 r2 r3) ms) l (zer7 (sumN ms)) 0).st (.ext 0) (asS (progL W r0 r1 r2 r3 (memR ms)) (places (rg r0 r1 r2 r3) ms) l (putK W (places (rg r0 r1 r2 r3) ms) l (zer7 (sumN ms)) (places (rg r0 r1 r2 r3) ms).length) (places (rg r0 r1 r2 r3) ms).length).st) ∧ (List.length (S7.m (putK W (places (rg r0 r1 r2 r3) ms) l (zer7 (sumN ms)) (List.length (places (rg r0 r1 r2 r3) ms)))) = List.length (S7.m (putK W (places (rg r0 r1 r2 r3) ms) l (zer7 (sumN ms)) (List.length (places (rg r0 r1 r2 r3) ms))))) ∧ (∀ (i : Nat), i < List.length (S7.m (putK W (places (rg r0 r1 r2 r3) ms) l (zer7 (sumN ms)) (List.length (places (rg r0 r1 r2 r3) ms)))) → ∀ (j : Nat), j < (1 : Nat) → AV.int IntKind.i64 (List.getD (S7.m (putK W (places (rg r0 r1 r2 r3) ms) l (zer7 (sumN ms)) (List.length (places (rg r0 r1 r2 r3) ms)))) i (0 : Int)) = AV.int IntKind.i64 (List.getD (S7.m (putK W (places (rg r0 r1 r2 r3) ms) l (zer7 (sumN ms)) (List.length (places (rg r0 r1 r2 r3) ms)))) i (0 : Int))) ∧ (S7.r0 (putK W (places (rg r0 r1 r2 r3) ms) l (zer7 (sumN ms)) (List.length (places (rg r0 r1 r2 r3) ms))) = S7.r0 (putK W (places (rg r0 r1 r2 r3) ms) l (zer7 (sumN ms)) (List.length (places (rg r0 r1 r2 r3) ms)))) ∧ (S7.r1 (putK W (places (rg r0 r1 r2 r3) ms) l (zer7 (sumN ms)) (List.length (places (rg r0 r1 r2 r3) ms))) = S7.r1 (putK W (places (rg r0 r1 r2 r3) ms) l (zer7 (sumN ms)) (List.length (places (rg r0 r1 r2 r3) ms)))) ∧ (S7.r2 (putK W (places (rg r0 r1 r2 r3) ms) l (zer7 (sumN ms)) (List.length (places (rg r0 r1 r2 r3) ms))) = S7.r2 (putK W (places (rg r0 r1 r2 r3) ms) l (zer7 (sumN ms)) (List.length (places (rg r0 r1 r2 r3) ms)))) ∧ (S7.r3 (putK W (places (rg r0 r1 r2 r3) ms) l (zer7 (sumN ms)) (List.length (places (rg r0 r1 r2 r3) ms))) = S7.r3 (putK W (places (rg r0 r1 r2 r3) ms) l (zer7 (sumN ms)) (List.length (places (rg r0 r1 r2 r3) ms)))) ∧ ((0 : Nat) = (0 : Nat)) ∧ (List.length (S7.m (putK W (places (rg r0 r1 r2 r3) ms) l (zer7 (sumN ms)) (List.length (places (rg r0 r1 r2 r3) ms)))) = List.length (S7.m (putK W (places (rg r0 r1 r2 r3) ms) l (zer7 (sumN ms)) (List.length (places (rg r0 r1 r2 r3) ms))))) ∧ ((0 : Int) = (0 : Int)) ∧ (true = true) ∧ True))))))) (by kernel_rfl)
    (frA7f3_mk W r0 r1 r2 r3 ms ⟨archPlaces W r0 r1 r2 r3 ms h64 hs,
 (by rw [hl]; simp), (frA7f3_mk W r0 r1 r2 r3 ms ⟨archCells W r0 r1 r2 r3 ms h64 hs,
 (by first | omega | rfl), (frA7f1_mk W r0 r1 r2 r3 ms ⟨rfl,
 rfl,
 rfl,
 rfl,
 (fun _ _ _ _ => rfl),
 (by simp [zer7, putK_len]),
 (fun i hi j hj => (match j, hj with | 0, _ => rowI_rep rfl i 0 (by simpa using hi))),
 rfl,
 rfl,
 rfl,
 rfl,
 rfl,
 (by simp [zer7, putK_len]),
 rfl,
 rfl,
 rfl,
 rfl,
 rfl,
 (fun _ _ _ _ => rfl),
 rfl,
 (by first | omega | rfl),
 as_loop W r0 r1 r2 r3 ms (places (rg r0 r1 r2 r3) ms) l _ hl (by have := places_length (rg r0 r1 r2 r3) ms; omega) (by have := places_ok (rg r0 r1 r2 r3) ms; simpa [zer7] using this),
 (by simp [zer7, putK_len]),
 (by simp [zer7, putK_len]),
 rfl,
 rfl,
 rfl,
 rfl,
 rfl,
 (by simp [zer7, putK_len]),
 rfl,
 rfl, trivial⟩)⟩)⟩)
theorem asn_r (W r0 r1 r2 r3 : Int) (ms : List Mm) (l : List Int) (h64 : ms.length < 4611686018427387904) (hs : sumN ms ≤ 16) (hl : l.length ≠ (places (rg r0 r1 r2 r3) ms).length) (hb : l.length < 1000000) : Vc (vcFn Try.prog false 34 [.agg (progL W r0 r1 r2 r3 (memR ms)), .row 1 l.length (rowI l)] [.cl [.agg (progL W r0 r1 r2 r3 (memR ms))] (.own 0 0 3 0 (places (rg r0 r1 r2 r3) ms).length) [plB (places (rg r0 r1 r2 r3) ms)], .b true] [] (.tup [.agg (stC ⟨0, 0, 0, 0, []⟩ .nils), .bool false]) []) :=
  vc_of (q := (frA7f3 W r0 r1 r2 r3 ms ((PureC Try.prog 33 [.agg (progL W r0 r1 r2 r3 (memR ms))] (.own 0 0 3 0 (places (rg r0 r1 r2 r3) ms).length) [plB (places (rg r0 r1 r2 r3) ms)]) ∧ (((↑(List.length l) : Int) != (↑(List.length (places (rg r0 r1 r2 r3) ms)) : Int)) = true) ∧ ((0 : Int) = (0 : Int)) ∧ ((0 : Int) = (0 : Int)) ∧ ((0 : Int) = (0 : Int)) ∧ ((0 : Int) = (0 : Int)) ∧ ((0 : Int) = (0 : Int)) ∧ (false = false) ∧ True))) (by kernel_rfl)
    (frA7f3_mk W r0 r1 r2 r3 ms ⟨archPlaces W r0 r1 r2 r3 ms h64 hs,
 (bne_iff_ne.2 fun h => hl (Int.ofNat_inj.1 h)),
 rfl,
 rfl,
 rfl,
 rfl,
 rfl,
 rfl, trivial⟩)
theorem startC (W r0 r1 r2 r3 : Int) (ms : List Mm) (l : List Int) (h64 : ms.length < 4611686018427387904) (hs : sumN ms ≤ 16) (hl : l.length = (places (rg r0 r1 r2 r3) ms).length) : PureC Try.prog 34 [.agg (progL W r0 r1 r2 r3 (memR ms)), .row 1 l.length (rowI l)] (.tup [.agg (stC (putK W (places (rg r0 r1 r2 r3) ms) l (zer7 (sumN ms)) (places (rg r0 r1 r2 r3) ms).length) (.own 0 0 1 0 (putK W (places (rg r0 r1 r2 r3) ms) l (zer7 (sumN ms)) (places (rg r0 r1 r2 r3) ms).length).m.length)), .bool true]) [blkI (putK W (places (rg r0 r1 r2 r3) ms) l (zer7 (sumN ms)) (places (rg r0 r1 r2 r3) ms).length).m] := PureC.vc (ast_r W r0 r1 r2 r3 ms l h64 hs hl)
theorem startC_no (W r0 r1 r2 r3 : Int) (ms : List Mm) (l : List Int) (h64 : ms.length < 4611686018427387904) (hs : sumN ms ≤ 16) (hl : l.length ≠ (places (rg r0 r1 r2 r3) ms).length) (hb : l.length < 1000000) : PureC Try.prog 34 [.agg (progL W r0 r1 r2 r3 (memR ms)), .row 1 l.length (rowI l)] (.tup [.agg (stC ⟨0, 0, 0, 0, []⟩ .nils), .bool false]) [] := PureC.vc (asn_r W r0 r1 r2 r3 ms l h64 hs hl hb)
end
end Go.Proofs.Ytjdiabjmphdhiaa.Px
namespace Go.Proofs.Ytjdiabjmphdhiaa.Px
section
open Go.RowKit Go.Proofs.Ytjdiabjmphdhiaa.Rx
def eqI (l l' : List Int) : Bool := decide (l = l')
def eS (l l' : List Int) (k : Nat) : Sm := ⟨[(12, .int .i64 l.length), (0, .row 1 l.length (rowI l)), (1, .row 1 l'.length (rowI l')), (13, .int .i64 k)], [], 0⟩
def eR : Sm := ⟨[(4, .bool false)], [], 0⟩
theorem diff_at : ∀ (l l' : List Int), l.length = l'.length → l ≠ l' → ∃ k, k < l.length ∧ (∀ i, i < k → l.getD i 0 = l'.getD i 0) ∧ l.getD k 0 ≠ l'.getD k 0
  | [], [], _, h => absurd rfl h
  | a :: l, b :: l', hl, h => by
    by_cases hab : a = b
    · subst hab
      obtain ⟨k, h1, h2, h3⟩ := diff_at l l' (by simpa using hl) (fun e => h (by rw [e]))
      refine ⟨k + 1, by simpa using h1, fun i hi => ?_, by simpa using h3⟩
      cases i with
      | zero => rfl
      | succ i => simpa using h2 i (by omega)
    · exact ⟨0, by simp, fun i hi => by omega, by simpa using hab⟩
theorem e_step (l l' : List Int) (k : Nat) (hk : k < l.length) (hl : l.length = l'.length) (hb : l.length < 1000000000) (he : l.getD k 0 = l'.getD k 0) : Vc (vcC Try.prog false (ntOf Try.prog 48) (lpC Try.prog 48 0) (eS l l' k) [.b true, .b false] .nrm [] (eS l l' (k + 1))) :=
  vc_of (q := (decide ((↑k : Int) < (↑(List.length l) : Int)) = true) ∧ ((0 : Int) ≤ (↑k : Int) ∧ (↑k : Int) < (↑(List.length l) : Int)) ∧ ((0 : Int) ≤ (↑k : Int) ∧ (↑k : Int) < (↑(List.length l') : Int)) ∧ ((List.getD l k (0 : Int) != List.getD l' k (0 : Int)) = false) ∧ (inK IntKind.i64 ((↑k : Int) + (1 : Int))) ∧ ((↑(List.length l) : Int) = (↑(List.length l) : Int)) ∧ (List.length l = List.length l) ∧ (∀ (i : Nat),
  i < List.length l →
    ∀ (j : Nat),
      j < (1 : Nat) →
        AV.int IntKind.i64 (List.getD l i (0 : Int)) =
          AV.int IntKind.i64 (List.getD l i (0 : Int))) ∧ (List.length l' = List.length l') ∧ (∀ (i : Nat),
  i < List.length l' →
    ∀ (j : Nat),
      j < (1 : Nat) →
        AV.int IntKind.i64 (List.getD l' i (0 : Int)) =
          AV.int IntKind.i64 (List.getD l' i (0 : Int))) ∧ ((↑k : Int) + (1 : Int) = (↑(k + (1 : Nat)) : Int)) ∧ True) (by kernel_rfl)
    ⟨(decide_eq_true (by first | omega | (simp; omega) | (simp; done))),
     (by first | omega | rfl | (simp; done) | (simp; omega)),
     (by first | omega | rfl | (simp; done) | (simp; omega)),
     (by rw [he]; simp),
     (in64 (by omega) (by omega)),
     rfl,
     rfl,
     (fun _ _ _ _ => rfl),
     rfl,
     (fun _ _ _ _ => rfl),
     (by first | omega | rfl | (simp; done) | (simp; omega)),
     trivial⟩
theorem e_dif (l l' : List Int) (k : Nat) (hk : k < l.length) (hl : l.length = l'.length) (hb : l.length < 1000000000) (he : l.getD k 0 ≠ l'.getD k 0) : Vc (vcC Try.prog false (ntOf Try.prog 48) (lpC Try.prog 48 0) (eS l l' k) [.b true, .b true] .ret [] eR) :=
  vc_of (q := (decide ((↑k : Int) < (↑(List.length l) : Int)) = true) ∧ ((0 : Int) ≤ (↑k : Int) ∧ (↑k : Int) < (↑(List.length l) : Int)) ∧ ((0 : Int) ≤ (↑k : Int) ∧ (↑k : Int) < (↑(List.length l') : Int)) ∧ ((List.getD l k (0 : Int) != List.getD l' k (0 : Int)) = true) ∧ (false = false) ∧ True) (by kernel_rfl)
    ⟨(decide_eq_true (by first | omega | (simp; omega) | (simp; done))),
     (by first | omega | rfl | (simp; done) | (simp; omega)),
     (by first | omega | rfl | (simp; done) | (simp; omega)),
     (bne_iff_ne.2 he),
     rfl,
     trivial⟩
theorem e_end (l l' : List Int) : Vc (vcC Try.prog false (ntOf Try.prog 48) (lpC Try.prog 48 0) (eS l l' l.length) [.b false] (.ext 0) [] (eS l l' l.length)) :=
  vc_of (q := (decide ((↑(List.length l) : Int) < (↑(List.length l) : Int)) = false) ∧ ((↑(List.length l) : Int) = (↑(List.length l) : Int)) ∧ (List.length l = List.length l) ∧ (∀ (i : Nat),
  i < List.length l →
    ∀ (j : Nat),
      j < (1 : Nat) →
        AV.int IntKind.i64 (List.getD l i (0 : Int)) =
          AV.int IntKind.i64 (List.getD l i (0 : Int))) ∧ (List.length l' = List.length l') ∧ (∀ (i : Nat),
  i < List.length l' →
    ∀ (j : Nat),
      j < (1 : Nat) →
        AV.int IntKind.i64 (List.getD l' i (0 : Int)) =
          AV.int IntKind.i64 (List.getD l' i (0 : Int))) ∧ ((↑(List.length l) : Int) = (↑(List.length l) : Int)) ∧ True) (by kernel_rfl)
    ⟨(decide_eq_false (by first | omega | (simp; omega) | (simp; done))),
     rfl,
     rfl,
     (fun _ _ _ _ => rfl),
     rfl,
     (fun _ _ _ _ => rfl),
     rfl,
     trivial⟩
theorem e_loop_dif (l l' : List Int) (hl : l.length = l'.length) (hb : l.length < 1000000000) (h : l ≠ l') : Ok Try.prog (ntOf Try.prog 48) (.loop (lpC Try.prog 48 0)) (eS l l' 0).st .ret (eR).st := by
  obtain ⟨m, hm, h1, h2⟩ := diff_at l l' hl h
  exact Ok.loop (P := Try.prog) (nt := ntOf Try.prog 48) (c := lpC Try.prog 48 0) (F := fun k => eS l l' k) (m := m) (x := .ret) (J := eR) (fun k hk => Ok.vc (e_step l l' k (by omega) hl hb (h1 k hk))) (Ok.vc (e_dif l l' m hm hl hb h2)) (by simp)
theorem e_loop_end (l : List Int) (hb : l.length < 1000000000) : Ok Try.prog (ntOf Try.prog 48) (.loop (lpC Try.prog 48 0)) (eS l l 0).st (.ext 0) (eS l l l.length).st :=
  Ok.loop (P := Try.prog) (nt := ntOf Try.prog 48) (c := lpC Try.prog 48 0) (F := fun k => eS l l k) (m := l.length) (x := .ext 0) (J := eS l l l.length) (fun k hk => Ok.vc (e_step l l k hk rfl hb rfl)) (Ok.vc (e_end l l)) (by simp)
theorem e_ne (l l' : List Int) (hl : l.length ≠ l'.length) : Vc (vcFn Try.prog false 48 [(.row 1 l.length (rowI l)), (.row 1 l'.length (rowI l'))] [.b true] [] (.bool false) []) :=
  vc_of (q := (((↑(List.length l) : Int) != (↑(List.length l') : Int)) = true) ∧ (false = false) ∧ True) (by kernel_rfl)
    ⟨(bne_iff_ne.2 fun h => hl (Int.ofNat_inj.1 h)),
     rfl,
     trivial⟩
theorem e_df (l l' : List Int) (hl : l.length = l'.length) (hb : l.length < 1000000000) (h : l ≠ l') : Vc (vcFn Try.prog false 48 [(.row 1 l.length (rowI l)), (.row 1 l'.length (rowI l'))] [.b false, .lp [] (eS l l' 0) .ret eR] [] (.bool false) []) :=
  vc_of (q := (((↑(List.length l) : Int) != (↑(List.length l') : Int)) = false) ∧ ((↑(List.length l) : Int) = (↑(List.length l) : Int)) ∧ (List.length l = List.length l) ∧ (∀ (i : Nat),
  i < List.length l →
    ∀ (j : Nat),
      j < (1 : Nat) →
        AV.int IntKind.i64 (List.getD l i (0 : Int)) =
          AV.int IntKind.i64 (List.getD l i (0 : Int))) ∧ (List.length l' = List.length l') ∧ (∀ (i : Nat),
  i < List.length l' →
    ∀ (j : Nat),
      j < (1 : Nat) →
        AV.int IntKind.i64 (List.getD l' i (0 : Int)) =
          AV.int IntKind.i64 (List.getD l' i (0 : Int))) ∧ ((0 : Int) = (↑(0 : Nat) : Int)) ∧ (Ok Try.prog (ntOf Try.prog 48) (.loop (lpC Try.prog 48 0)) (eS l l' 0).st .ret (eR).st) ∧ (false = false) ∧ True) (by kernel_rfl)
    ⟨(by rw [hl]; simp),
     rfl,
     rfl,
     (fun _ _ _ _ => rfl),
     rfl,
     (fun _ _ _ _ => rfl),
     (by first | omega | rfl | (simp; done) | (simp; omega)),
     e_loop_dif l l' hl hb h,
     rfl,
     trivial⟩
theorem e_eq (l : List Int) (hb : l.length < 1000000000) : Vc (vcFn Try.prog false 48 [(.row 1 l.length (rowI l)), (.row 1 l.length (rowI l))] [.b false, .lp [] (eS l l 0) (.ext 0) (eS l l l.length)] [] (.bool true) []) :=
  vc_of (q := (((↑(List.length l) : Int) != (↑(List.length l) : Int)) = false) ∧ ((↑(List.length l) : Int) = (↑(List.length l) : Int)) ∧ (List.length l = List.length l) ∧ (∀ (i : Nat),
  i < List.length l →
    ∀ (j : Nat),
      j < (1 : Nat) →
        AV.int IntKind.i64 (List.getD l i (0 : Int)) =
          AV.int IntKind.i64 (List.getD l i (0 : Int))) ∧ (List.length l = List.length l) ∧ (∀ (i : Nat),
  i < List.length l →
    ∀ (j : Nat),
      j < (1 : Nat) →
        AV.int IntKind.i64 (List.getD l i (0 : Int)) =
          AV.int IntKind.i64 (List.getD l i (0 : Int))) ∧ ((0 : Int) = (↑(0 : Nat) : Int)) ∧ (Ok Try.prog (ntOf Try.prog 48) (.loop (lpC Try.prog 48 0)) (eS l l 0).st (.ext 0) (eS l l l.length).st) ∧ (true = true) ∧ True) (by kernel_rfl)
    ⟨(by simp),
     rfl,
     rfl,
     (fun _ _ _ _ => rfl),
     rfl,
     (fun _ _ _ _ => rfl),
     (by first | omega | rfl | (simp; done) | (simp; omega)),
     e_loop_end l hb,
     rfl,
     trivial⟩
theorem e_nn  : Vc (vcFn Try.prog true 48 [.nils, .nils] [] [] (.bool true) []) :=
  vc_of (q := (true = true) ∧ True) (by kernel_rfl)
    ⟨rfl,
     trivial⟩
theorem e_nr0 (l : List Int) (h : l = []) : Vc (vcFn Try.prog false 48 [.nils, (.row 1 l.length (rowI l))] [.b false, .b false] [] (.bool true) []) :=
  vc_of (q := (((0 : Int) != (↑(List.length l) : Int)) = false) ∧ (decide ((0 : Int) < (0 : Int)) = false) ∧ (true = true) ∧ True) (by kernel_rfl)
    ⟨(by rw [h]; rfl),
     (by first | rw [h]; rfl | rfl),
     rfl,
     trivial⟩
theorem e_nr1 (l : List Int) (h : l ≠ []) : Vc (vcFn Try.prog false 48 [.nils, (.row 1 l.length (rowI l))] [.b true] [] (.bool false) []) :=
  vc_of (q := (((0 : Int) != (↑(List.length l) : Int)) = true) ∧ (false = false) ∧ True) (by kernel_rfl)
    ⟨(by cases l with | nil => exact absurd rfl h | cons a l => rfl),
     rfl,
     trivial⟩
theorem e_rn0 (l : List Int) (h : l = []) : Vc (vcFn Try.prog false 48 [(.row 1 l.length (rowI l)), .nils] [.b false, .b false] [] (.bool true) []) :=
  vc_of (q := (((↑(List.length l) : Int) != (0 : Int)) = false) ∧ (decide ((0 : Int) < (↑(List.length l) : Int)) = false) ∧ (true = true) ∧ True) (by kernel_rfl)
    ⟨(by rw [h]; rfl),
     (by first | rw [h]; rfl | rfl),
     rfl,
     trivial⟩
theorem e_rn1 (l : List Int) (h : l ≠ []) : Vc (vcFn Try.prog false 48 [(.row 1 l.length (rowI l)), .nils] [.b true] [] (.bool false) []) :=
  vc_of (q := (((↑(List.length l) : Int) != (0 : Int)) = true) ∧ (false = false) ∧ True) (by kernel_rfl)
    ⟨(by cases l with | nil => exact absurd rfl h | cons a l => rfl),
     rfl,
     trivial⟩
/-- a row in either of its forms -/
inductive RowA : AV → List Int → Prop where
  | nil : RowA .nils []
  | row (l : List Int) : RowA (.row 1 l.length (rowI l)) l
theorem equalC {a b : AV} {l l' : List Int} (ha : RowA a l) (hb : RowA b l') (h1 : l.length < 1000000000) (h2 : l'.length < 1000000000) : PureC Try.prog 48 [a, b] (.bool (eqI l l')) [] := by
  cases ha with
  | nil => cases hb with
    | nil => exact PureC.vc e_nn
    | row => by_cases h : l' = []
             · have e : eqI [] l' = true := by rw [h]; rfl
               rw [e]; exact PureC.vc (e_nr0 l' h)
             · have e : eqI [] l' = false := decide_eq_false (fun e => h e.symm)
               rw [e]; exact PureC.vc (e_nr1 l' h)
  | row => cases hb with
    | nil => by_cases h : l = []
             · have e : eqI l [] = true := by rw [h]; rfl
               rw [e]; exact PureC.vc (e_rn0 l h)
             · have e : eqI l [] = false := decide_eq_false h
               rw [e]; exact PureC.vc (e_rn1 l h)
    | row =>
      by_cases h : l = l'
      · subst h
        have e : eqI l l = true := decide_eq_true rfl
        rw [e]; exact PureC.vc (e_eq l h1)
      · have e : eqI l l' = false := decide_eq_false h
        rw [e]
        by_cases hl : l.length = l'.length
        · exact PureC.vc (e_df l l' hl h1 h)
        · exact PureC.vc (e_ne l l' hl)
end
end Go.Proofs.Ytjdiabjmphdhiaa.Px
namespace Go.Proofs.Ytjdiabjmphdhiaa.Px
section
open Go.RowKit Go.Proofs.Ytjdiabjmphdhiaa.Rx
def regE (a0 a1 a2 a3 b0 b1 b2 b3 : Int) : Bool := bif a0 == b0 then (bif a1 == b1 then (bif a2 == b2 then (bif a3 == b3 then true else false) else false) else false) else false
def sameB (a0 a1 a2 a3 : Int) (m st : List Int) (pa b0 b1 b2 b3 : Int) (m' st' : List Int) (pb : Int) : Bool := regE a0 a1 a2 a3 b0 b1 b2 b3 && eqI m m' && eqI st st' && (pa == pb)
abbrev cA7h0 (a0 : Int) (a1 : Int) (a2 : Int) (a3 : Int) (b0 : Int) (b1 : Int) (b2 : Int) (b3 : Int) : Prop := ((bif a0 == b0 then bif a1 == b1 then bif a2 == b2 then bif a3 == b3 then true else false else false else false else false) = false)
theorem s1_nn (a0 a1 a2 a3 pa b0 b1 b2 b3 pb : Int) (m m' : List Int) (hm : m.length < 1000000000) (hm' : m'.length < 1000000000) (h1 : regE a0 a1 a2 a3 b0 b1 b2 b3 = false) : Vc (vcFn Try.prog false 31 [.agg (stA a0 a1 a2 a3 m .nils pa), .agg (stA b0 b1 b2 b3 m' .nils pb)] [.b false, .b false, .b false, .b false, .b false, .b false] [] (.bool false) []) :=
  vc_of (q := cA7h0 a0 a1 a2 a3 b0 b1 b2 b3 ∧ cA7h0 a0 a1 a2 a3 b0 b1 b2 b3 ∧ cA7h0 a0 a1 a2 a3 b0 b1 b2 b3 ∧ cA7h0 a0 a1 a2 a3 b0 b1 b2 b3 ∧ cA7h0 a0 a1 a2 a3 b0 b1 b2 b3 ∧ cA7h0 a0 a1 a2 a3 b0 b1 b2 b3 ∧ (false = false) ∧ True) (by kernel_rfl)
    ⟨h1,
 h1,
 h1,
 h1,
 h1,
 h1,
 rfl, trivial⟩
abbrev cA7h1 (a0 : Int) (a1 : Int) (a2 : Int) (a3 : Int) (b0 : Int) (b1 : Int) (b2 : Int) (b3 : Int) : Prop := ((bif a0 == b0 then bif a1 == b1 then bif a2 == b2 then bif a3 == b3 then true else false else false else false else false) = true)
abbrev cA7h2 (m : List Int) (m' : List Int) : Prop := (PureC Try.prog 48 [.row 1 m.length (rowI m), .row 1 m'.length (rowI m')] (.bool (eqI m m')) [])
def frA7h0 (m : List Int) (m' : List Int) (Z : Prop) : Prop := (List.length m = List.length m) ∧ (∀ (i : Nat), i < List.length m → ∀ (j : Nat), j < (1 : Nat) → AV.int IntKind.i64 (List.getD m i (0 : Int)) = AV.int IntKind.i64 (List.getD m i (0 : Int))) ∧ (List.length m' = List.length m') ∧ (∀ (i : Nat), i < List.length m' → ∀ (j : Nat), j < (1 : Nat) → AV.int IntKind.i64 (List.getD m' i (0 : Int)) = AV.int IntKind.i64 (List.getD m' i (0 : Int))) ∧ Z
theorem frA7h0_mk (m : List Int) (m' : List Int) {Z : Prop} (z : Z) : frA7h0 m m' Z := ⟨rfl, (fun _ _ _ _ => rfl), rfl, (fun _ _ _ _ => rfl), z⟩
theorem s2_nn (a0 a1 a2 a3 pa b0 b1 b2 b3 pb : Int) (m m' : List Int) (hm : m.length < 1000000000) (hm' : m'.length < 1000000000) (h1 : regE a0 a1 a2 a3 b0 b1 b2 b3 = true) (h2 : eqI m m' = false) : Vc (vcFn Try.prog false 31 [.agg (stA a0 a1 a2 a3 m .nils pa), .agg (stA b0 b1 b2 b3 m' .nils pb)] [.b true, .b true, .b true, .b true, .b true, .cl [.row 1 m.length (rowI m), .row 1 m'.length (rowI m')] (.bool (eqI m m')) [], .b true, .b false, .b false, .b false, .b false, .b false, .b false] [] (.bool false) []) :=
  vc_of (q := cA7h1 a0 a1 a2 a3 b0 b1 b2 b3 ∧ cA7h1 a0 a1 a2 a3 b0 b1 b2 b3 ∧ cA7h1 a0 a1 a2 a3 b0 b1 b2 b3 ∧ cA7h1 a0 a1 a2 a3 b0 b1 b2 b3 ∧ cA7h1 a0 a1 a2 a3 b0 b1 b2 b3 ∧ (frA7h0 m m' (cA7h2 m m' ∧ cA7h1 a0 a1 a2 a3 b0 b1 b2 b3 ∧ (eqI m m' = false) ∧ (eqI m m' = false) ∧ (eqI m m' = false) ∧ (eqI m m' = false) ∧ (eqI m m' = false) ∧ (eqI m m' = false) ∧ (false = false) ∧ True))) (by kernel_rfl)
    ⟨h1,
 h1,
 h1,
 h1,
 h1, (frA7h0_mk m m' ⟨equalC (.row m) (.row m') hm hm',
 h1,
 (by first | exact h2 | exact h3),
 (by first | exact h2 | exact h3),
 (by first | exact h2 | exact h3),
 (by first | exact h2 | exact h3),
 (by first | exact h2 | exact h3),
 (by first | exact h2 | exact h3),
 rfl, trivial⟩)⟩
theorem s3_nn (a0 a1 a2 a3 pa b0 b1 b2 b3 pb : Int) (m m' : List Int) (hm : m.length < 1000000000) (hm' : m'.length < 1000000000) (h1 : regE a0 a1 a2 a3 b0 b1 b2 b3 = true) (h2 : eqI m m' = true) (h3 : eqI [] [] = false) : Vc (vcFn Try.prog false 31 [.agg (stA a0 a1 a2 a3 m .nils pa), .agg (stA b0 b1 b2 b3 m' .nils pb)] [.b true, .b true, .b true, .b true, .b true, .cl [.row 1 m.length (rowI m), .row 1 m'.length (rowI m')] (.bool (eqI m m')) [], .b true, .b true, .b true, .b true, .b true, .b true, .cl [.nils, .nils] (.bool (eqI [] [])) [], .b true, .b false, .b false, .b false, .b false, .b false, .b false] [] (.bool false) []) :=
  vc_of (q := cA7h1 a0 a1 a2 a3 b0 b1 b2 b3 ∧ cA7h1 a0 a1 a2 a3 b0 b1 b2 b3 ∧ cA7h1 a0 a1 a2 a3 b0 b1 b2 b3 ∧ cA7h1 a0 a1 a2 a3 b0 b1 b2 b3 ∧ cA7h1 a0 a1 a2 a3 b0 b1 b2 b3 ∧ (frA7h0 m m' (cA7h2 m m' ∧ cA7h1 a0 a1 a2 a3 b0 b1 b2 b3 ∧ (eqI m m' = true) ∧ (eqI m m' = true) ∧ (eqI m m' = true) ∧ (eqI m m' = true) ∧ (eqI m m' = true) ∧ (PureC Try.prog 48 [.nils, .nils] (.bool (eqI [] [])) []) ∧ (eqI m m' = true) ∧ (eqI [] [] = false) ∧ (eqI [] [] = false) ∧ (eqI [] [] = false) ∧ (eqI [] [] = false) ∧ (eqI [] [] = false) ∧ (eqI [] [] = false) ∧ (false = false) ∧ True))) (by kernel_rfl)
    ⟨h1,
 h1,
 h1,
 h1,
 h1, (frA7h0_mk m m' ⟨equalC (.row m) (.row m') hm hm',
 h1,
 (by first | exact h2 | exact h3),
 (by first | exact h2 | exact h3),
 (by first | exact h2 | exact h3),
 (by first | exact h2 | exact h3),
 (by first | exact h2 | exact h3),
 equalC .nil .nil (by simp) (by simp),
 (by first | exact h2 | exact h3),
 (by first | exact h2 | exact h3),
 (by first | exact h2 | exact h3),
 (by first | exact h2 | exact h3),
 (by first | exact h2 | exact h3),
 (by first | exact h2 | exact h3),
 (by first | exact h2 | exact h3),
 rfl, trivial⟩)⟩
theorem s4_nn (a0 a1 a2 a3 pa b0 b1 b2 b3 pb : Int) (m m' : List Int) (hm : m.length < 1000000000) (hm' : m'.length < 1000000000) (h1 : regE a0 a1 a2 a3 b0 b1 b2 b3 = true) (h2 : eqI m m' = true) (h3 : eqI [] [] = true) : Vc (vcFn Try.prog false 31 [.agg (stA a0 a1 a2 a3 m .nils pa), .agg (stA b0 b1 b2 b3 m' .nils pb)] [.b true, .b true, .b true, .b true, .b true, .cl [.row 1 m.length (rowI m), .row 1 m'.length (rowI m')] (.bool (eqI m m')) [], .b true, .b true, .b true, .b true, .b true, .b true, .cl [.nils, .nils] (.bool (eqI [] [])) [], .b true, .b true, .b true, .b true, .b true, .b true, .b true] [] (.bool (pa == pb)) []) :=
  vc_of (q := cA7h1 a0 a1 a2 a3 b0 b1 b2 b3 ∧ cA7h1 a0 a1 a2 a3 b0 b1 b2 b3 ∧ cA7h1 a0 a1 a2 a3 b0 b1 b2 b3 ∧ cA7h1 a0 a1 a2 a3 b0 b1 b2 b3 ∧ cA7h1 a0 a1 a2 a3 b0 b1 b2 b3 ∧ (frA7h0 m m' (cA7h2 m m' ∧ cA7h1 a0 a1 a2 a3 b0 b1 b2 b3 ∧ (eqI m m' = true) ∧ (eqI m m' = true) ∧ (eqI m m' = true) ∧ (eqI m m' = true) ∧ (eqI m m' = true) ∧ (PureC Try.prog 48 [.nils, .nils] (.bool (eqI [] [])) []) ∧ (eqI m m' = true) ∧ (eqI [] [] = true) ∧ (eqI [] [] = true) ∧ (eqI [] [] = true) ∧ (eqI [] [] = true) ∧ (eqI [] [] = true) ∧ (eqI [] [] = true) ∧ ((pa == pb) = (pa == pb)) ∧ True))) (by kernel_rfl)
    ⟨h1,
 h1,
 h1,
 h1,
 h1, (frA7h0_mk m m' ⟨equalC (.row m) (.row m') hm hm',
 h1,
 (by first | exact h2 | exact h3),
 (by first | exact h2 | exact h3),
 (by first | exact h2 | exact h3),
 (by first | exact h2 | exact h3),
 (by first | exact h2 | exact h3),
 equalC .nil .nil (by simp) (by simp),
 (by first | exact h2 | exact h3),
 (by first | exact h2 | exact h3),
 (by first | exact h2 | exact h3),
 (by first | exact h2 | exact h3),
 (by first | exact h2 | exact h3),
 (by first | exact h2 | exact h3),
 (by first | exact h2 | exact h3),
 rfl, trivial⟩)⟩
theorem same_nn (a0 a1 a2 a3 pa b0 b1 b2 b3 pb : Int) (m m' : List Int) (hm : m.length < 1000000000) (hm' : m'.length < 1000000000) : PureC Try.prog 31 [.agg (stA a0 a1 a2 a3 m .nils pa), .agg (stA b0 b1 b2 b3 m' .nils pb)] (.bool (sameB a0 a1 a2 a3 m [] pa b0 b1 b2 b3 m' [] pb)) [] := by
  unfold sameB
  cases h1 : regE a0 a1 a2 a3 b0 b1 b2 b3 with
  | false => exact PureC.vc (s1_nn a0 a1 a2 a3 pa b0 b1 b2 b3 pb m m' hm hm' h1)
  | true => cases h2 : eqI m m' with
    | false => exact PureC.vc (s2_nn a0 a1 a2 a3 pa b0 b1 b2 b3 pb m m' hm hm' h1 h2)
    | true => cases h3 : eqI [] [] with
      | false => exact PureC.vc (s3_nn a0 a1 a2 a3 pa b0 b1 b2 b3 pb m m' hm hm' h1 h2 h3)
      | true => exact PureC.vc (s4_nn a0 a1 a2 a3 pa b0 b1 b2 b3 pb m m' hm hm' h1 h2 h3)
theorem s1_nr (a0 a1 a2 a3 pa b0 b1 b2 b3 pb : Int) (m m' : List Int) (st' : List Int) (hm : m.length < 1000000000) (hm' : m'.length < 1000000000) (hs' : st'.length < 1000000000) (h1 : regE a0 a1 a2 a3 b0 b1 b2 b3 = false) : Vc (vcFn Try.prog false 31 [.agg (stA a0 a1 a2 a3 m .nils pa), .agg (stA b0 b1 b2 b3 m' (.row 1 st'.length (rowI st')) pb)] [.b false, .b false, .b false, .b false, .b false, .b false] [] (.bool false) []) :=
  vc_of (q := cA7h0 a0 a1 a2 a3 b0 b1 b2 b3 ∧ cA7h0 a0 a1 a2 a3 b0 b1 b2 b3 ∧ cA7h0 a0 a1 a2 a3 b0 b1 b2 b3 ∧ cA7h0 a0 a1 a2 a3 b0 b1 b2 b3 ∧ cA7h0 a0 a1 a2 a3 b0 b1 b2 b3 ∧ cA7h0 a0 a1 a2 a3 b0 b1 b2 b3 ∧ (false = false) ∧ True) (by kernel_rfl)
    ⟨h1,
 h1,
 h1,
 h1,
 h1,
 h1,
 rfl, trivial⟩
theorem s2_nr (a0 a1 a2 a3 pa b0 b1 b2 b3 pb : Int) (m m' : List Int) (st' : List Int) (hm : m.length < 1000000000) (hm' : m'.length < 1000000000) (hs' : st'.length < 1000000000) (h1 : regE a0 a1 a2 a3 b0 b1 b2 b3 = true) (h2 : eqI m m' = false) : Vc (vcFn Try.prog false 31 [.agg (stA a0 a1 a2 a3 m .nils pa), .agg (stA b0 b1 b2 b3 m' (.row 1 st'.length (rowI st')) pb)] [.b true, .b true, .b true, .b true, .b true, .cl [.row 1 m.length (rowI m), .row 1 m'.length (rowI m')] (.bool (eqI m m')) [], .b true, .b false, .b false, .b false, .b false, .b false, .b false] [] (.bool false) []) :=
  vc_of (q := cA7h1 a0 a1 a2 a3 b0 b1 b2 b3 ∧ cA7h1 a0 a1 a2 a3 b0 b1 b2 b3 ∧ cA7h1 a0 a1 a2 a3 b0 b1 b2 b3 ∧ cA7h1 a0 a1 a2 a3 b0 b1 b2 b3 ∧ cA7h1 a0 a1 a2 a3 b0 b1 b2 b3 ∧ (frA7h0 m m' (cA7h2 m m' ∧ cA7h1 a0 a1 a2 a3 b0 b1 b2 b3 ∧ (eqI m m' = false) ∧ (eqI m m' = false) ∧ (eqI m m' = false) ∧ (eqI m m' = false) ∧ (eqI m m' = false) ∧ (eqI m m' = false) ∧ (false = false) ∧ True))) (by kernel_rfl)
    ⟨h1,
 h1,
 h1,
 h1,
 h1, (frA7h0_mk m m' ⟨equalC (.row m) (.row m') hm hm',
 h1,
 (by first | exact h2 | exact h3),
 (by first | exact h2 | exact h3),
 (by first | exact h2 | exact h3),
 (by first | exact h2 | exact h3),
 (by first | exact h2 | exact h3),
 (by first | exact h2 | exact h3),
 rfl, trivial⟩)⟩
theorem s3_nr (a0 a1 a2 a3 pa b0 b1 b2 b3 pb : Int) (m m' : List Int) (st' : List Int) (hm : m.length < 1000000000) (hm' : m'.length < 1000000000) (hs' : st'.length < 1000000000) (h1 : regE a0 a1 a2 a3 b0 b1 b2 b3 = true) (h2 : eqI m m' = true) (h3 : eqI [] st' = false) : Vc (vcFn Try.prog false 31 [.agg (stA a0 a1 a2 a3 m .nils pa), .agg (stA b0 b1 b2 b3 m' (.row 1 st'.length (rowI st')) pb)] [.b true, .b true, .b true, .b true, .b true, .cl [.row 1 m.length (rowI m), .row 1 m'.length (rowI m')] (.bool (eqI m m')) [], .b true, .b true, .b true, .b true, .b true, .b true, .cl [.nils, (.row 1 st'.length (rowI st'))] (.bool (eqI [] st')) [], .b true, .b false, .b false, .b false, .b false, .b false, .b false] [] (.bool false) []) :=
  vc_of (q := cA7h1 a0 a1 a2 a3 b0 b1 b2 b3 ∧ cA7h1 a0 a1 a2 a3 b0 b1 b2 b3 ∧ cA7h1 a0 a1 a2 a3 b0 b1 b2 b3 ∧ cA7h1 a0 a1 a2 a3 b0 b1 b2 b3 ∧ cA7h1 a0 a1 a2 a3 b0 b1 b2 b3 ∧ (frA7h0 m m' (cA7h2 m m' ∧ cA7h1 a0 a1 a2 a3 b0 b1 b2 b3 ∧ (eqI m m' = true) ∧ (eqI m m' = true) ∧ (eqI m m' = true) ∧ (eqI m m' = true) ∧ (eqI m m' = true) ∧ (List.length st' = List.length st') ∧ (∀ (i : Nat), i < List.length st' → ∀ (j : Nat), j < (1 : Nat) → AV.int IntKind.i64 (List.getD st' i (0 : Int)) = AV.int IntKind.i64 (List.getD st' i (0 : Int))) ∧ (PureC Try.prog 48 [.nils, (.row 1 st'.length (rowI st'))] (.bool (eqI [] st')) []) ∧ (eqI m m' = true) ∧ (eqI [] st' = false) ∧ (eqI [] st' = false) ∧ (eqI [] st' = false) ∧ (eqI [] st' = false) ∧ (eqI [] st' = false) ∧ (eqI [] st' = false) ∧ (false = false) ∧ True))) (by kernel_rfl)
    ⟨h1,
 h1,
 h1,
 h1,
 h1, (frA7h0_mk m m' ⟨equalC (.row m) (.row m') hm hm',
 h1,
 (by first | exact h2 | exact h3),
 (by first | exact h2 | exact h3),
 (by first | exact h2 | exact h3),
 (by first | exact h2 | exact h3),
 (by first | exact h2 | exact h3),
 rfl,
 (fun _ _ _ _ => rfl),
 equalC .nil (.row st') (by simp) hs',
 (by first | exact h2 | exact h3),
 (by first | exact h2 | exact h3),
 (by first | exact h2 | exact h3),
 (by first | exact h2 | exact h3),
 (by first | exact h2 | exact h3),
 (by first | exact h2 | exact h3),
 (by first | exact h2 | exact h3),
 rfl, trivial⟩)⟩
theorem s4_nr (a0 a1 a2 a3 pa b0 b1 b2 b3 pb : Int) (m m' : List Int) (st' : List Int) (hm : m.length < 1000000000) (hm' : m'.length < 1000000000) (hs' : st'.length < 1000000000) (h1 : regE a0 a1 a2 a3 b0 b1 b2 b3 = true) (h2 : eqI m m' = true) (h3 : eqI [] st' = true) : Vc (vcFn Try.prog false 31 [.agg (stA a0 a1 a2 a3 m .nils pa), .agg (stA b0 b1 b2 b3 m' (.row 1 st'.length (rowI st')) pb)] [.b true, .b true, .b true, .b true, .b true, .cl [.row 1 m.length (rowI m), .row 1 m'.length (rowI m')] (.bool (eqI m m')) [], .b true, .b true, .b true, .b true, .b true, .b true, .cl [.nils, (.row 1 st'.length (rowI st'))] (.bool (eqI [] st')) [], .b true, .b true, .b true, .b true, .b true, .b true, .b true] [] (.bool (pa == pb)) []) :=
  vc_of (q := cA7h1 a0 a1 a2 a3 b0 b1 b2 b3 ∧ cA7h1 a0 a1 a2 a3 b0 b1 b2 b3 ∧ cA7h1 a0 a1 a2 a3 b0 b1 b2 b3 ∧ cA7h1 a0 a1 a2 a3 b0 b1 b2 b3 ∧ cA7h1 a0 a1 a2 a3 b0 b1 b2 b3 ∧ (frA7h0 m m' (cA7h2 m m' ∧ cA7h1 a0 a1 a2 a3 b0 b1 b2 b3 ∧ (eqI m m' = true) ∧ (eqI m m' = true) ∧ (eqI m m' = true) ∧ (eqI m m' = true) ∧ (eqI m m' = true) ∧ (List.length st' = List.length st') ∧ (∀ (i : Nat), i < List.length st' → ∀ (j : Nat), j < (1 : Nat) → AV.int IntKind.i64 (List.getD st' i (0 : Int)) = AV.int IntKind.i64 (List.getD st' i (0 : Int))) ∧ (PureC Try.prog 48 [.nils, (.row 1 st'.length (rowI st'))] (.bool (eqI [] st')) []) ∧ (eqI m m' = true) ∧ (eqI [] st' = true) ∧ (eqI [] st' = true) ∧ (eqI [] st' = true) ∧ (eqI [] st' = true) ∧ (eqI [] st' = true) ∧ (eqI [] st' = true) ∧ ((pa == pb) = (pa == pb)) ∧ True))) (by kernel_rfl)
    ⟨h1,
 h1,
 h1,
 h1,
 h1, (frA7h0_mk m m' ⟨equalC (.row m) (.row m') hm hm',
 h1,
 (by first | exact h2 | exact h3),
 (by first | exact h2 | exact h3),
 (by first | exact h2 | exact h3),
 (by first | exact h2 | exact h3),
 (by first | exact h2 | exact h3),
 rfl,
 (fun _ _ _ _ => rfl),
 equalC .nil (.row st') (by simp) hs',
 (by first | exact h2 | exact h3),
 (by first | exact h2 | exact h3),
 (by first | exact h2 | exact h3),
 (by first | exact h2 | exact h3),
 (by first | exact h2 | exact h3),
 (by first | exact h2 | exact h3),
 (by first | exact h2 | exact h3),
 rfl, trivial⟩)⟩
theorem same_nr (a0 a1 a2 a3 pa b0 b1 b2 b3 pb : Int) (m m' : List Int) (st' : List Int) (hm : m.length < 1000000000) (hm' : m'.length < 1000000000) (hs' : st'.length < 1000000000) : PureC Try.prog 31 [.agg (stA a0 a1 a2 a3 m .nils pa), .agg (stA b0 b1 b2 b3 m' (.row 1 st'.length (rowI st')) pb)] (.bool (sameB a0 a1 a2 a3 m [] pa b0 b1 b2 b3 m' st' pb)) [] := by
  unfold sameB
  cases h1 : regE a0 a1 a2 a3 b0 b1 b2 b3 with
  | false => exact PureC.vc (s1_nr a0 a1 a2 a3 pa b0 b1 b2 b3 pb m m' st' hm hm' hs' h1)
  | true => cases h2 : eqI m m' with
    | false => exact PureC.vc (s2_nr a0 a1 a2 a3 pa b0 b1 b2 b3 pb m m' st' hm hm' hs' h1 h2)
    | true => cases h3 : eqI [] st' with
      | false => exact PureC.vc (s3_nr a0 a1 a2 a3 pa b0 b1 b2 b3 pb m m' st' hm hm' hs' h1 h2 h3)
      | true => exact PureC.vc (s4_nr a0 a1 a2 a3 pa b0 b1 b2 b3 pb m m' st' hm hm' hs' h1 h2 h3)
end
end Go.Proofs.Ytjdiabjmphdhiaa.Px
