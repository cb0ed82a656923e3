/- Merged: S8u, S8v, S8w, S8x. -/
import Derived.Test.YtjdiabjmphdhiaaMgF
set_option linter.unusedVariables false
set_option linter.unusedSimpArgs false
set_option maxRecDepth 100000
namespace Go.Proofs.Ytjdiabjmphdhiaa.Px
section
open Go.RowKit Go.Proofs.Ytjdiabjmphdhiaa.Rx
def vN (n : Int) : Vl := ⟨false, n⟩
def isW : List In := [⟨1, 1, 0, vN 1, vN 2, ⟨#[]⟩, 0⟩, ⟨3, 0, 0, vN 0, vN 1, ⟨#[]⟩, 0⟩, ⟨5, 9, 0, ⟨true, 0⟩, vN 1, ⟨#[]⟩, 0⟩, ⟨2, 0, 1, vN 3, vN 0, ⟨#[]⟩, 0⟩]
def pW : Pg := ⟨2, 1, 5, 0, 0, 0, 0, [⟨⟨#[109]⟩, false, 2⟩], [], isW⟩
def sW : S8 := ⟨0, 0, 0, 0, [0, 0], [], 0⟩
def rW : S8 := ⟨3, 0, 0, 0, [0, 3], [], 3⟩
def oW : List Ob := [⟨2, 1⟩, ⟨3, 3⟩]
theorem runD_go {p : Pg} {c : Int} {s : S8} {n : Nat} {r : R8} (h : runD p c s n = r) (he : r.e = 0) : runD p c s (n + 1) = ⟨(stepI p.W c p.is.length (atI p r.s.pc) r.s).1, r.o ++ (stepI p.W c p.is.length (atI p r.s.pc) r.s).2.1, r.k + 1, (stepI p.W c p.is.length (atI p r.s.pc) r.s).2.2⟩ := by
  subst h
  rw [runD, if_pos he]
theorem runD_stay {p : Pg} {c : Int} {s : S8} {n : Nat} {r : R8} (h : runD p c s n = r) (he : ¬ r.e = 0) : runD p c s (n + 1) = r := by
  subst h
  rw [runD, if_neg he]
theorem okR0 {a b c d : Int} {m st : List Int} {pc : Int} (h : (0 ≤ a ∧ a < 65536) ∧ (0 ≤ b ∧ b < 65536) ∧ (0 ≤ c ∧ c < 65536) ∧ (0 ≤ d ∧ d < 65536)) : okR ⟨a, b, c, d, m, st, pc⟩ := h
theorem pW_ok : OkP pW := ⟨fun i hi => by
    simp only [pW, isW, List.mem_cons, List.not_mem_nil, or_false] at hi
    rcases hi with rfl | rfl | rfl | rfl <;> exact ⟨⟨by decide, by decide⟩, fun h => by first | exact absurd h (by decide) | exact ⟨by decide, by decide⟩, fun h => by first | exact absurd h (by decide) | exact ⟨by decide, by decide⟩, ⟨by decide, by decide⟩, by decide, by decide⟩, by decide, by decide, by decide⟩
theorem sW_ok : OkS ((sumN pW.ms : Nat) : Int) pW.is.length sW := ⟨okR0 ⟨⟨by decide, by decide⟩, ⟨by decide, by decide⟩, ⟨by decide, by decide⟩, ⟨by decide, by decide⟩⟩, fun x hx => by
    simp only [sW, List.mem_cons, List.not_mem_nil, or_false, or_self] at hx
    omega, by decide, ⟨by decide, by decide⟩, by decide, fun x hx => by cases hx⟩
theorem run9 : runD pW 2 sW 9 = ⟨rW, oW, 4, 2⟩ := by
  have h0 : runD pW 2 sW 0 = ⟨sW, [], 0, 0⟩ := rfl
  have h1 : runD pW 2 sW 1 = ⟨⟨3, 0, 0, 0, [0, 0], [], 1⟩, [], 1, 0⟩ := (runD_go h0 rfl).trans (by kernel_rfl)
  have h2 : runD pW 2 sW 2 = ⟨⟨3, 0, 0, 0, [0, 3], [], 2⟩, [⟨2, 1⟩], 2, 0⟩ := (runD_go h1 rfl).trans (by kernel_rfl)
  have h3 : runD pW 2 sW 3 = ⟨⟨3, 0, 0, 0, [0, 3], [], 3⟩, [⟨2, 1⟩, ⟨3, 3⟩], 3, 0⟩ := (runD_go h2 rfl).trans (by kernel_rfl)
  have h4 : runD pW 2 sW 4 = ⟨rW, oW, 4, 2⟩ := (runD_go h3 rfl).trans (by kernel_rfl)
  have h5 := runD_stay h4 (by decide)
  have h6 := runD_stay h5 (by decide)
  have h7 := runD_stay h6 (by decide)
  have h8 := runD_stay h7 (by decide)
  exact runD_stay h8 (by decide)
theorem runW : PureC Try.prog 19 [.agg (pgA pW), .agg (s8R sW), .int .i64 9] (.tup [.agg (s8R rW), obR oW, .int .i64 4, .int .i64 2]) [] := by
  have h := runF pW sW 9 pW_ok sW_ok (by decide)
  rw [show runD pW ((sumN pW.ms : Nat) : Int) sW (9 : Int).toNat = ⟨rW, oW, 4, 2⟩ from run9] at h
  exact h
theorem atW9 : PureC Try.prog 23 [.agg (pgA pW), .int .i64 9] (.agg (inA { In0 with kind := 12 })) [] := by
  have h := atC pW 9
  rw [atI_out (by decide)] at h
  exact h
theorem atW1 : PureC Try.prog 23 [.agg (pgA pW), .int .i64 (-1)] (.agg (inA { In0 with kind := 12 })) [] := by
  have h := atC pW (-1)
  rw [atI_out (by decide)] at h
  exact h
def frS8u0  (Z : Prop) : Prop := ((2 : Int) = (2 : Int)) ∧ ((1 : Int) = (1 : Int)) ∧ ((5 : Int) = (5 : Int)) ∧ ((0 : Int) = (0 : Int)) ∧ ((0 : Int) = (0 : Int)) ∧ ((0 : Int) = (0 : Int)) ∧ ((0 : Int) = (0 : Int)) ∧ ((1 : Nat) = (1 : Nat)) ∧ Z
theorem frS8u0_mk  {Z : Prop} (z : Z) : frS8u0  Z := ⟨rfl, rfl, rfl, rfl, rfl, rfl, rfl, rfl, z⟩
theorem aw_vc  : Vc (vcFn Try.prog true 18 [] [.fz, .fz, .fz, .cl [.agg (pgA pW), .agg (s8R sW), .int .i64 9] (.tup [.agg (s8R rW), obR oW, .int .i64 4, .int .i64 2]) [], .fz, .cl [obR oW, obR oW] (.bool true) [], .cl [.agg (pgA pW), .int .i64 9] (.agg (inA { In0 with kind := 12 })) [], .cl [.agg (pgA pW), .int .i64 (-1)] (.agg (inA { In0 with kind := 12 })) []] [] (.bool true) []) :=
  vc_of (q := (frS8u0  ((∀ (i : Nat), i < (1 : Nat) → ∀ (j : Nat), j < (3 : Nat) → List.getD [AV.str (ByteArray.mk (Array.mk [(109 : UInt8)])), AV.bool false, AV.int IntKind.i64 (2 : Int)] (i * (3 : Nat) + j) AV.junk = rowL mmC [Mm.mk (ByteArray.mk (Array.mk [(109 : UInt8)])) false (2 : Nat)] i j) ∧ ((0 : Nat) = (0 : Nat)) ∧ ((4 : Nat) = (4 : Nat)) ∧ (∀ (i : Nat), i < (4 : Nat) → ∀ (j : Nat), j < (9 : Nat) → List.getD [AV.int IntKind.i64 (1 : Int), AV.int IntKind.i64 (1 : Int), AV.int IntKind.i64 (0 : Int), AV.bool false, AV.int IntKind.i64 (1 : Int), AV.bool false, AV.int IntKind.i64 (2 : Int), AV.str (ByteArray.mk (Array.mk [])), AV.int IntKind.i64 (0 : Int), AV.int IntKind.i64 (3 : Int), AV.int IntKind.i64 (0 : Int), AV.int IntKind.i64 (0 : Int), AV.bool false, AV.int IntKind.i64 (0 : Int), AV.bool false, AV.int IntKind.i64 (1 : Int), AV.str (ByteArray.mk (Array.mk [])), AV.int IntKind.i64 (0 : Int), AV.int IntKind.i64 (5 : Int), AV.int IntKind.i64 (9 : Int), AV.int IntKind.i64 (0 : Int), AV.bool true, AV.int IntKind.i64 (0 : Int), AV.bool false, AV.int IntKind.i64 (1 : Int), AV.str (ByteArray.mk (Array.mk [])), AV.int IntKind.i64 (0 : Int), AV.int IntKind.i64 (2 : Int), AV.int IntKind.i64 (0 : Int), AV.int IntKind.i64 (1 : Int), AV.bool false, AV.int IntKind.i64 (3 : Int), AV.bool false, AV.int IntKind.i64 (0 : Int), AV.str (ByteArray.mk (Array.mk [])), AV.int IntKind.i64 (0 : Int)] (i * (9 : Nat) + j) AV.junk = rowL inC [In.mk (1 : Int) (1 : Int) (0 : Int) (vN (1 : Int)) (vN (2 : Int)) (ByteArray.mk (Array.mk [])) (0 : Int), In.mk (3 : Int) (0 : Int) (0 : Int) (vN (0 : Int)) (vN (1 : Int)) (ByteArray.mk (Array.mk [])) (0 : Int), In.mk (5 : Int) (9 : Int) (0 : Int) (Vl.mk true (0 : Int)) (vN (1 : Int)) (ByteArray.mk (Array.mk [])) (0 : Int), In.mk (2 : Int) (0 : Int) (1 : Int) (vN (3 : Int)) (vN (0 : Int)) (ByteArray.mk (Array.mk [])) (0 : Int)] i j) ∧ ((0 : Int) = (0 : Int)) ∧ ((0 : Int) = (0 : Int)) ∧ ((0 : Int) = (0 : Int)) ∧ ((0 : Int) = (0 : Int)) ∧ ((2 : Nat) = (2 : Nat)) ∧ (∀ (i : Nat), i < (2 : Nat) → ∀ (j : Nat), j < (1 : Nat) → List.getD [AV.int IntKind.i64 (0 : Int), AV.int IntKind.i64 (0 : Int)] (i * (1 : Nat) + j) AV.junk = AV.int IntKind.i64 (List.getD [(0 : Int), (0 : Int)] i (0 : Int))) ∧ ((0 : Nat) = (0 : Nat)) ∧ ((0 : Int) = (0 : Int)) ∧ ((9 : Int) = (9 : Int)) ∧ (PureC Try.prog 19 [.agg (pgA pW), .agg (s8R sW), .int .i64 9] (.tup [.agg (s8R rW), obR oW, .int .i64 4, .int .i64 2]) []) ∧ ((2 : Nat) = (2 : Nat)) ∧ (∀ (i : Nat), i < (2 : Nat) → ∀ (j : Nat), j < (2 : Nat) → rowL obC [Ob.mk (2 : Int) (1 : Int), Ob.mk (3 : Int) (3 : Int)] i j = rowL obC [Ob.mk (2 : Int) (1 : Int), Ob.mk (3 : Int) (3 : Int)] i j) ∧ ((2 : Nat) = (2 : Nat)) ∧ (∀ (i : Nat), i < (2 : Nat) → ∀ (j : Nat), j < (2 : Nat) → List.getD [AV.int IntKind.i64 (2 : Int), AV.int IntKind.i64 (1 : Int), AV.int IntKind.i64 (3 : Int), AV.int IntKind.i64 (3 : Int)] (i * (2 : Nat) + j) AV.junk = rowL obC [Ob.mk (2 : Int) (1 : Int), Ob.mk (3 : Int) (3 : Int)] i j) ∧ (PureC Try.prog 17 [obR oW, obR oW] (.bool true) []) ∧ (frS8u0  ((∀ (i : Nat), i < (1 : Nat) → ∀ (j : Nat), j < (3 : Nat) → List.getD [AV.str (ByteArray.mk (Array.mk [(109 : UInt8)])), AV.bool false, AV.int IntKind.i64 (2 : Int)] (i * (3 : Nat) + j) AV.junk = rowL mmC [Mm.mk (ByteArray.mk (Array.mk [(109 : UInt8)])) false (2 : Nat)] i j) ∧ ((0 : Nat) = (0 : Nat)) ∧ ((4 : Nat) = (4 : Nat)) ∧ (∀ (i : Nat), i < (4 : Nat) → ∀ (j : Nat), j < (9 : Nat) → List.getD [AV.int IntKind.i64 (1 : Int), AV.int IntKind.i64 (1 : Int), AV.int IntKind.i64 (0 : Int), AV.bool false, AV.int IntKind.i64 (1 : Int), AV.bool false, AV.int IntKind.i64 (2 : Int), AV.str (ByteArray.mk (Array.mk [])), AV.int IntKind.i64 (0 : Int), AV.int IntKind.i64 (3 : Int), AV.int IntKind.i64 (0 : Int), AV.int IntKind.i64 (0 : Int), AV.bool false, AV.int IntKind.i64 (0 : Int), AV.bool false, AV.int IntKind.i64 (1 : Int), AV.str (ByteArray.mk (Array.mk [])), AV.int IntKind.i64 (0 : Int), AV.int IntKind.i64 (5 : Int), AV.int IntKind.i64 (9 : Int), AV.int IntKind.i64 (0 : Int), AV.bool true, AV.int IntKind.i64 (0 : Int), AV.bool false, AV.int IntKind.i64 (1 : Int), AV.str (ByteArray.mk (Array.mk [])), AV.int IntKind.i64 (0 : Int), AV.int IntKind.i64 (2 : Int), AV.int IntKind.i64 (0 : Int), AV.int IntKind.i64 (1 : Int), AV.bool false, AV.int IntKind.i64 (3 : Int), AV.bool false, AV.int IntKind.i64 (0 : Int), AV.str (ByteArray.mk (Array.mk [])), AV.int IntKind.i64 (0 : Int)] (i * (9 : Nat) + j) AV.junk = rowL inC [In.mk (1 : Int) (1 : Int) (0 : Int) (vN (1 : Int)) (vN (2 : Int)) (ByteArray.mk (Array.mk [])) (0 : Int), In.mk (3 : Int) (0 : Int) (0 : Int) (vN (0 : Int)) (vN (1 : Int)) (ByteArray.mk (Array.mk [])) (0 : Int), In.mk (5 : Int) (9 : Int) (0 : Int) (Vl.mk true (0 : Int)) (vN (1 : Int)) (ByteArray.mk (Array.mk [])) (0 : Int), In.mk (2 : Int) (0 : Int) (1 : Int) (vN (3 : Int)) (vN (0 : Int)) (ByteArray.mk (Array.mk [])) (0 : Int)] i j) ∧ ((9 : Int) = (9 : Int)) ∧ (PureC Try.prog 23 [.agg (pgA pW), .int .i64 9] (.agg (inA { In0 with kind := 12 })) []) ∧ (frS8u0  ((∀ (i : Nat), i < (1 : Nat) → ∀ (j : Nat), j < (3 : Nat) → List.getD [AV.str (ByteArray.mk (Array.mk [(109 : UInt8)])), AV.bool false, AV.int IntKind.i64 (2 : Int)] (i * (3 : Nat) + j) AV.junk = rowL mmC [Mm.mk (ByteArray.mk (Array.mk [(109 : UInt8)])) false (2 : Nat)] i j) ∧ ((0 : Nat) = (0 : Nat)) ∧ ((4 : Nat) = (4 : Nat)) ∧ (∀ (i : Nat), i < (4 : Nat) → ∀ (j : Nat), j < (9 : Nat) → List.getD [AV.int IntKind.i64 (1 : Int), AV.int IntKind.i64 (1 : Int), AV.int IntKind.i64 (0 : Int), AV.bool false, AV.int IntKind.i64 (1 : Int), AV.bool false, AV.int IntKind.i64 (2 : Int), AV.str (ByteArray.mk (Array.mk [])), AV.int IntKind.i64 (0 : Int), AV.int IntKind.i64 (3 : Int), AV.int IntKind.i64 (0 : Int), AV.int IntKind.i64 (0 : Int), AV.bool false, AV.int IntKind.i64 (0 : Int), AV.bool false, AV.int IntKind.i64 (1 : Int), AV.str (ByteArray.mk (Array.mk [])), AV.int IntKind.i64 (0 : Int), AV.int IntKind.i64 (5 : Int), AV.int IntKind.i64 (9 : Int), AV.int IntKind.i64 (0 : Int), AV.bool true, AV.int IntKind.i64 (0 : Int), AV.bool false, AV.int IntKind.i64 (1 : Int), AV.str (ByteArray.mk (Array.mk [])), AV.int IntKind.i64 (0 : Int), AV.int IntKind.i64 (2 : Int), AV.int IntKind.i64 (0 : Int), AV.int IntKind.i64 (1 : Int), AV.bool false, AV.int IntKind.i64 (3 : Int), AV.bool false, AV.int IntKind.i64 (0 : Int), AV.str (ByteArray.mk (Array.mk [])), AV.int IntKind.i64 (0 : Int)] (i * (9 : Nat) + j) AV.junk = rowL inC [In.mk (1 : Int) (1 : Int) (0 : Int) (vN (1 : Int)) (vN (2 : Int)) (ByteArray.mk (Array.mk [])) (0 : Int), In.mk (3 : Int) (0 : Int) (0 : Int) (vN (0 : Int)) (vN (1 : Int)) (ByteArray.mk (Array.mk [])) (0 : Int), In.mk (5 : Int) (9 : Int) (0 : Int) (Vl.mk true (0 : Int)) (vN (1 : Int)) (ByteArray.mk (Array.mk [])) (0 : Int), In.mk (2 : Int) (0 : Int) (1 : Int) (vN (3 : Int)) (vN (0 : Int)) (ByteArray.mk (Array.mk [])) (0 : Int)] i j) ∧ ((-1 : Int) = (-1 : Int)) ∧ (PureC Try.prog 23 [.agg (pgA pW), .int .i64 (-1)] (.agg (inA { In0 with kind := 12 })) []) ∧ ((bif bif bif bif bif bif bif bif (4 : Int) == (4 : Int) then (2 : Int) == (2 : Int) else false then (↑(2 : Nat) : Int) == (2 : Int) else false then (3 : Int) == (3 : Int) else false then (3 : Int) == (3 : Int) else false then List.getD [(0 : Int), (3 : Int)] (1 : Nat) (0 : Int) == (3 : Int) else false then true else false then (12 : Int) == (12 : Int) else false then (12 : Int) == (12 : Int) else false) = true) ∧ True))))))) (by kernel_rfl)
    (frS8u0_mk  ⟨(fun i hi j hj => match i, hi, j, hj with | 0, _, 0, _ => rfl | 0, _, 1, _ => rfl | 0, _, 2, _ => rfl),
 rfl,
 rfl,
 (fun i hi j hj => match i, hi, j, hj with | 0, _, 0, _ => rfl | 0, _, 1, _ => rfl | 0, _, 2, _ => rfl | 0, _, 3, _ => rfl | 0, _, 4, _ => rfl | 0, _, 5, _ => rfl | 0, _, 6, _ => rfl | 0, _, 7, _ => rfl | 0, _, 8, _ => rfl | 1, _, 0, _ => rfl | 1, _, 1, _ => rfl | 1, _, 2, _ => rfl | 1, _, 3, _ => rfl | 1, _, 4, _ => rfl | 1, _, 5, _ => rfl | 1, _, 6, _ => rfl | 1, _, 7, _ => rfl | 1, _, 8, _ => rfl | 2, _, 0, _ => rfl | 2, _, 1, _ => rfl | 2, _, 2, _ => rfl | 2, _, 3, _ => rfl | 2, _, 4, _ => rfl | 2, _, 5, _ => rfl | 2, _, 6, _ => rfl | 2, _, 7, _ => rfl | 2, _, 8, _ => rfl | 3, _, 0, _ => rfl | 3, _, 1, _ => rfl | 3, _, 2, _ => rfl | 3, _, 3, _ => rfl | 3, _, 4, _ => rfl | 3, _, 5, _ => rfl | 3, _, 6, _ => rfl | 3, _, 7, _ => rfl | 3, _, 8, _ => rfl),
 rfl,
 rfl,
 rfl,
 rfl,
 rfl,
 (fun i hi j hj => match i, hi, j, hj with | 0, _, 0, _ => rfl | 1, _, 0, _ => rfl),
 rfl,
 rfl,
 rfl,
 runW,
 rfl,
 (fun _ _ _ _ => rfl),
 rfl,
 (fun i hi j hj => match i, hi, j, hj with | 0, _, 0, _ => rfl | 0, _, 1, _ => rfl | 1, _, 0, _ => rfl | 1, _, 1, _ => rfl),
 soC oW (by decide), (frS8u0_mk  ⟨(fun i hi j hj => match i, hi, j, hj with | 0, _, 0, _ => rfl | 0, _, 1, _ => rfl | 0, _, 2, _ => rfl),
 rfl,
 rfl,
 (fun i hi j hj => match i, hi, j, hj with | 0, _, 0, _ => rfl | 0, _, 1, _ => rfl | 0, _, 2, _ => rfl | 0, _, 3, _ => rfl | 0, _, 4, _ => rfl | 0, _, 5, _ => rfl | 0, _, 6, _ => rfl | 0, _, 7, _ => rfl | 0, _, 8, _ => rfl | 1, _, 0, _ => rfl | 1, _, 1, _ => rfl | 1, _, 2, _ => rfl | 1, _, 3, _ => rfl | 1, _, 4, _ => rfl | 1, _, 5, _ => rfl | 1, _, 6, _ => rfl | 1, _, 7, _ => rfl | 1, _, 8, _ => rfl | 2, _, 0, _ => rfl | 2, _, 1, _ => rfl | 2, _, 2, _ => rfl | 2, _, 3, _ => rfl | 2, _, 4, _ => rfl | 2, _, 5, _ => rfl | 2, _, 6, _ => rfl | 2, _, 7, _ => rfl | 2, _, 8, _ => rfl | 3, _, 0, _ => rfl | 3, _, 1, _ => rfl | 3, _, 2, _ => rfl | 3, _, 3, _ => rfl | 3, _, 4, _ => rfl | 3, _, 5, _ => rfl | 3, _, 6, _ => rfl | 3, _, 7, _ => rfl | 3, _, 8, _ => rfl),
 rfl,
 atW9, (frS8u0_mk  ⟨(fun i hi j hj => match i, hi, j, hj with | 0, _, 0, _ => rfl | 0, _, 1, _ => rfl | 0, _, 2, _ => rfl),
 rfl,
 rfl,
 (fun i hi j hj => match i, hi, j, hj with | 0, _, 0, _ => rfl | 0, _, 1, _ => rfl | 0, _, 2, _ => rfl | 0, _, 3, _ => rfl | 0, _, 4, _ => rfl | 0, _, 5, _ => rfl | 0, _, 6, _ => rfl | 0, _, 7, _ => rfl | 0, _, 8, _ => rfl | 1, _, 0, _ => rfl | 1, _, 1, _ => rfl | 1, _, 2, _ => rfl | 1, _, 3, _ => rfl | 1, _, 4, _ => rfl | 1, _, 5, _ => rfl | 1, _, 6, _ => rfl | 1, _, 7, _ => rfl | 1, _, 8, _ => rfl | 2, _, 0, _ => rfl | 2, _, 1, _ => rfl | 2, _, 2, _ => rfl | 2, _, 3, _ => rfl | 2, _, 4, _ => rfl | 2, _, 5, _ => rfl | 2, _, 6, _ => rfl | 2, _, 7, _ => rfl | 2, _, 8, _ => rfl | 3, _, 0, _ => rfl | 3, _, 1, _ => rfl | 3, _, 2, _ => rfl | 3, _, 3, _ => rfl | 3, _, 4, _ => rfl | 3, _, 5, _ => rfl | 3, _, 6, _ => rfl | 3, _, 7, _ => rfl | 3, _, 8, _ => rfl),
 rfl,
 atW1,
 (by kernel_rfl), trivial⟩)⟩)⟩)
theorem awakeC8 : PureC Try.prog 18 [] (.bool true) [] := PureC.vc aw_vc
end
end Go.Proofs.Ytjdiabjmphdhiaa.Px
namespace Go.Proofs.Ytjdiabjmphdhiaa.Px
section
open Go.RowKit Go.Proofs.Ytjdiabjmphdhiaa.Rx
def B7 (s : S7) : Prop := ((0 ≤ s.r0 ∧ s.r0 < 65536) ∧ (0 ≤ s.r1 ∧ s.r1 < 65536) ∧ (0 ≤ s.r2 ∧ s.r2 < 65536) ∧ (0 ≤ s.r3 ∧ s.r3 < 65536)) ∧ ∀ x ∈ s.m, 0 ≤ x ∧ x < 65536
theorem put7_b {s : S7} (h : B7 s) (P : Pl) {v : Int} (hv : 0 ≤ v ∧ v < 65536) : B7 (put7 s P v) := by
  obtain ⟨⟨h0, h1, h2, h3⟩, hm⟩ := h
  unfold put7
  split
  · split
    · exact ⟨⟨hv, h1, h2, h3⟩, hm⟩
    · split
      · exact ⟨⟨h0, hv, h2, h3⟩, hm⟩
      · split
        · exact ⟨⟨h0, h1, hv, h3⟩, hm⟩
        · exact ⟨⟨h0, h1, h2, hv⟩, hm⟩
  · refine ⟨⟨h0, h1, h2, h3⟩, fun x hx => ?_⟩
    rcases List.mem_or_eq_of_mem_set hx with h | rfl
    · exact hm x h
    · exact hv
theorem zz : (0 : Int) ≤ 0 ∧ (0 : Int) < 65536 := by decide
theorem zer7_b (n : Nat) : B7 (zer7 n) := ⟨⟨zz, zz, zz, zz⟩, fun x hx => by
  have := (List.mem_replicate.1 hx).2
  omega⟩
theorem putK_b (W : Int) (pl : List Pl) (l : List Int) (s : S7) (h : B7 s) : ∀ k, B7 (putK W pl l s k)
  | 0 => h
  | k + 1 => put7_b (putK_b W pl l s h k) _ (Wd.maskV_bd _ _)
theorem s8S_ok (p : Pg) (l : List Int) : OkS ((sumN p.ms : Nat) : Int) p.is.length (s8S (stK p l)) := by
  obtain ⟨h1, h2⟩ := putK_b p.W (plF p) l (zer7 (sumN p.ms)) (zer7_b _) (plF p).length
  refine ⟨h1, h2, ?_, ⟨by show (-1 : Int) ≤ 0; decide, by show (0 : Int) ≤ _; omega⟩, by show (0 : Nat) ≤ 100; decide, fun x hx => by cases hx⟩
  show ((sumN p.ms : Nat) : Int) = (((stK p l).m.length : Nat) : Int)
  rw [stK_len]
theorem sA_ok (p : Pg) (l : List Int) : OkS ((sumN p.ms : Nat) : Int) p.is.length (sA p l) := s8S_ok p _
theorem stepI_st {W c len : Int} {i : In} {s : S8} (h : s.st.length ≤ 4) : (stepI W c len i s).1.st.length ≤ 4 :=
  stepI_elim (Q := fun r => r.1.st.length ≤ 4) W c len i s (fun _ => h) (fun _ _ => h) (fun _ _ => h) (fun _ _ => h) (fun _ _ => h) (fun _ _ => h) (fun _ _ => h) (fun _ _ => h) (fun _ _ => h) (fun _ => h) (fun _ => h) (fun _ _ => h) (fun _ h4 => by simp only [List.length_append, List.length_singleton]; omega) (fun _ _ => h) (fun _ _ => by simp only [List.length_take]; omega) (fun _ => h) (fun _ => h) (fun _ => h)
theorem runD_st (p : Pg) (c : Int) (s : S8) (h : s.st.length ≤ 4) : ∀ n, (runD p c s n).s.st.length ≤ 4
  | 0 => h
  | n + 1 => by
    unfold runD
    split
    · exact stepI_st (runD_st p c s h n)
    · exact runD_st p c s h n
theorem runD_stop (p : Pg) (c : Int) (s : S8) (n : Nat) (h : ¬ (runD p c s n).e = 0) : ∀ k, runD p c s (n + k) = runD p c s n
  | 0 => rfl
  | k + 1 => by
    have e := runD_stop p c s n h k
    show runD p c s ((n + k) + 1) = _
    rw [runD, e, if_neg h]
theorem runD_add (p : Pg) (c : Int) (s : S8) (n : Nat) (h : (runD p c s n).e = 0) : ∀ k, runD p c s (n + k) = ⟨(runD p c (runD p c s n).s k).s, (runD p c s n).o ++ (runD p c (runD p c s n).s k).o, n + (runD p c (runD p c s n).s k).k, (runD p c (runD p c s n).s k).e⟩
  | 0 => by
    have hk := (runD_k p c s n).2.1 h
    show runD p c s n = ⟨(runD p c s n).s, (runD p c s n).o ++ [], n + 0, 0⟩
    rw [List.append_nil, Nat.add_zero]
    generalize runD p c s n = r at h hk
    obtain ⟨s1, o1, k1, e1⟩ := r
    simp only at h hk
    subst h; subst hk; rfl
  | k + 1 => by
    have e := runD_add p c s n h k
    show runD p c s ((n + k) + 1) = _
    rw [runD, e]
    by_cases he : (runD p c (runD p c s n).s k).e = 0
    · have e2 : runD p c (runD p c s n).s (k + 1) = ⟨(stepI p.W c p.is.length (atI p (runD p c (runD p c s n).s k).s.pc) (runD p c (runD p c s n).s k).s).1, (runD p c (runD p c s n).s k).o ++ (stepI p.W c p.is.length (atI p (runD p c (runD p c s n).s k).s.pc) (runD p c (runD p c s n).s k).s).2.1, (runD p c (runD p c s n).s k).k + 1, (stepI p.W c p.is.length (atI p (runD p c (runD p c s n).s k).s.pc) (runD p c (runD p c s n).s k).s).2.2⟩ := by rw [runD, if_pos he]
      rw [if_pos he, e2]
      simp only [List.append_assoc, Nat.add_assoc]
    · have e2 : runD p c (runD p c s n).s (k + 1) = runD p c (runD p c s n).s k := by rw [runD, if_neg he]
      rw [if_neg he, e2]
theorem and31 (n : Int) : 0 ≤ bits .and .i64 n 31 ∧ bits .and .i64 n 31 < 32 := by
  have h := Wd.bits_mask n 5 (by omega)
  have h2 : bits .and .i64 n 31 = n % 32 := h
  rw [h2]; omega
end
end Go.Proofs.Ytjdiabjmphdhiaa.Px
namespace Go.Proofs.Ytjdiabjmphdhiaa.Px
section
open Go.RowKit Go.Proofs.Ytjdiabjmphdhiaa.Rx
theorem ob_cat {x y : List Ob} : ∀ i, i < 0 + x.length + y.length → ∀ j, j < 2 → (bif Nat.blt (i + 0) (0 + x.length) then bif Nat.blt (i + 0) 0 then AV.junk else rowL obC x (i + 0 - 0) j else rowL obC y (i + 0 - (0 + x.length)) j) = rowL obC (x ++ y) i j := by
  intro i hi j hj
  simp only [Nat.add_zero, Nat.sub_zero, Nat.zero_add]
  have h0 : Nat.blt i 0 = false := rfl
  exact row_if (fun h => by rw [h0, cond_false]; exact (rowL_left h).symm) (fun h => (rowL_right h).symm)
def frS8w0 (m : List Int) (x : R8) (Z : Prop) : Prop := (S8.r0 (R8.s x) = S8.r0 (R8.s x)) ∧ (S8.r1 (R8.s x) = S8.r1 (R8.s x)) ∧ (S8.r2 (R8.s x) = S8.r2 (R8.s x)) ∧ (S8.r3 (R8.s x) = S8.r3 (R8.s x)) ∧ (List.length (S8.m (R8.s x)) = List.length (S8.m (R8.s x))) ∧ (∀ (i : Nat), i < List.length (S8.m (R8.s x)) → ∀ (j : Nat), j < (1 : Nat) → AV.int IntKind.i64 (List.getD (S8.m (R8.s x)) i (0 : Int)) = AV.int IntKind.i64 (List.getD (S8.m (R8.s x)) i (0 : Int))) ∧ (List.length (S8.st (R8.s x)) = List.length (S8.st (R8.s x))) ∧ (∀ (i : Nat), i < List.length (S8.st (R8.s x)) → ∀ (j : Nat), j < (1 : Nat) → AV.int IntKind.i64 (List.getD (S8.st (R8.s x)) i (0 : Int)) = AV.int IntKind.i64 (List.getD (S8.st (R8.s x)) i (0 : Int))) ∧ (S8.pc (R8.s x) = S8.pc (R8.s x)) ∧ Z
theorem frS8w0_mk (m : List Int) (x : R8) {Z : Prop} (z : Z) : frS8w0 m x Z := ⟨rfl, rfl, rfl, rfl, rfl, (fun _ _ _ _ => rfl), rfl, (fun _ _ _ _ => rfl), rfl, z⟩
def frS8w1 (m : List Int) (p : Pg) (a : S8) (Z : Prop) : Prop := (List.length (Pg.ls p) = List.length (Pg.ls p)) ∧ (∀ (i : Nat), i < List.length (Pg.ls p) → ∀ (j : Nat), j < (2 : Nat) → rowL lbC (Pg.ls p) i j = rowL lbC (Pg.ls p) i j) ∧ (List.length (Pg.is p) = List.length (Pg.is p)) ∧ (∀ (i : Nat), i < List.length (Pg.is p) → ∀ (j : Nat), j < (9 : Nat) → rowL inC (Pg.is p) i j = rowL inC (Pg.is p) i j) ∧ (S8.r0 a = S8.r0 a) ∧ (S8.r1 a = S8.r1 a) ∧ (S8.r2 a = S8.r2 a) ∧ (S8.r3 a = S8.r3 a) ∧ (List.length (S8.m a) = List.length (S8.m a)) ∧ Z
theorem frS8w1_mk (m : List Int) (p : Pg) (a : S8) {Z : Prop} (z : Z) : frS8w1 m p a Z := ⟨rfl, (fun _ _ _ _ => rfl), rfl, (fun _ _ _ _ => rfl), rfl, rfl, rfl, rfl, rfl, z⟩
def frS8w2 (p : Pg) (Z : Prop) : Prop := (Pg.W p = Pg.W p) ∧ (Pg.win p = Pg.win p) ∧ (Pg.fuel p = Pg.fuel p) ∧ (Pg.r0 p = Pg.r0 p) ∧ (Pg.r1 p = Pg.r1 p) ∧ (Pg.r2 p = Pg.r2 p) ∧ (Pg.r3 p = Pg.r3 p) ∧ (List.length (Pg.ms p) = List.length (Pg.ms p)) ∧ (∀ (i : Nat), i < List.length (Pg.ms p) → ∀ (j : Nat), j < (3 : Nat) → rowL mmC (Pg.ms p) i j = rowL mmC (Pg.ms p) i j) ∧ Z
theorem frS8w2_mk (p : Pg) {Z : Prop} (z : Z) : frS8w2 p Z := ⟨rfl, rfl, rfl, rfl, rfl, rfl, rfl, rfl, (fun _ _ _ _ => rfl), z⟩
def frS8w3 (m : List Int) (x : R8) (Z : Prop) : Prop := (∀ (i : Nat), i < List.length (S8.m (R8.s x)) → ∀ (j : Nat), j < (1 : Nat) → AV.int IntKind.i64 (List.getD (S8.m (R8.s x)) i (0 : Int)) = AV.int IntKind.i64 (List.getD (S8.m (R8.s x)) i (0 : Int))) ∧ (List.length (S8.st (R8.s x)) = List.length (S8.st (R8.s x))) ∧ (∀ (i : Nat), i < List.length (S8.st (R8.s x)) → ∀ (j : Nat), j < (1 : Nat) → AV.int IntKind.i64 (List.getD (S8.st (R8.s x)) i (0 : Int)) = AV.int IntKind.i64 (List.getD (S8.st (R8.s x)) i (0 : Int))) ∧ (S8.pc (R8.s x) = S8.pc (R8.s x)) ∧ Z
theorem frS8w3_mk (m : List Int) (x : R8) {Z : Prop} (z : Z) : frS8w3 m x Z := ⟨(fun _ _ _ _ => rfl), rfl, (fun _ _ _ _ => rfl), rfl, z⟩
def frS8w4 (m : List Int) (p : Pg) (x : R8) (Z : Prop) : Prop := (List.length (Pg.ls p) = List.length (Pg.ls p)) ∧ (∀ (i : Nat), i < List.length (Pg.ls p) → ∀ (j : Nat), j < (2 : Nat) → rowL lbC (Pg.ls p) i j = rowL lbC (Pg.ls p) i j) ∧ (List.length (Pg.is p) = List.length (Pg.is p)) ∧ (∀ (i : Nat), i < List.length (Pg.is p) → ∀ (j : Nat), j < (9 : Nat) → rowL inC (Pg.is p) i j = rowL inC (Pg.is p) i j) ∧ (S8.r0 (R8.s x) = S8.r0 (R8.s x)) ∧ (S8.r1 (R8.s x) = S8.r1 (R8.s x)) ∧ (S8.r2 (R8.s x) = S8.r2 (R8.s x)) ∧ (S8.r3 (R8.s x) = S8.r3 (R8.s x)) ∧ (List.length (S8.m (R8.s x)) = List.length (S8.m (R8.s x))) ∧ Z
theorem frS8w4_mk (m : List Int) (p : Pg) (x : R8) {Z : Prop} (z : Z) : frS8w4 m p x Z := ⟨rfl, (fun _ _ _ _ => rfl), rfl, (fun _ _ _ _ => rfl), rfl, rfl, rfl, rfl, rfl, z⟩
def frS8w5 (p : Pg) (Z : Prop) : Prop := (List.length (Pg.ls p) = List.length (Pg.ls p)) ∧ (∀ (i : Nat), i < List.length (Pg.ls p) → ∀ (j : Nat), j < (2 : Nat) → rowL lbC (Pg.ls p) i j = rowL lbC (Pg.ls p) i j) ∧ (List.length (Pg.is p) = List.length (Pg.is p)) ∧ (∀ (i : Nat), i < List.length (Pg.is p) → ∀ (j : Nat), j < (9 : Nat) → rowL inC (Pg.is p) i j = rowL inC (Pg.is p) i j) ∧ Z
theorem frS8w5_mk (p : Pg) {Z : Prop} (z : Z) : frS8w5 p Z := ⟨rfl, (fun _ _ _ _ => rfl), rfl, (fun _ _ _ _ => rfl), z⟩
theorem sp_stop (m l : List Int) (n0 k0 : Int) (p : Pg) (a b : S8) (n k : Int) (x y : R8) (hn : bits .and .i64 n0 31 = n) (hk : bits .and .i64 k0 31 = k) (ha : a.st = []) (hm0 : 0 ≤ n ∧ n < 32) (hm1 : 0 ≤ k ∧ k < 32) (hxo : x.o.length < 1000) (hyo : y.o.length < 1000) (hM : PureC Try.prog 9 [lR m] (.agg (pgA p)) []) (hS : PureC Try.prog 10 [.agg (pgA p), lR l, .int .i64 1] (.tup [.agg (s8N a), .agg (s8N b)]) []) (hX : PureC Try.prog 19 [.agg (pgA p), .agg (s8R a), .int .i64 n] (.tup [.agg (s8R x.s), obR x.o, .int .i64 x.k, .int .i64 x.e]) []) (hY : PureC Try.prog 19 [.agg (pgA p), .agg (s8R x.s), .int .i64 k] (.tup [.agg (s8R y.s), obR y.o, .int .i64 y.k, .int .i64 y.e]) []) (hZ : PureC Try.prog 19 [.agg (pgA p), .agg (s8R a), .int .i64 (n + k)] (.tup [.agg (s8R x.s), obR x.o, .int .i64 x.k, .int .i64 x.e]) []) (he : ¬ x.e = 0) (hi : (x.k : Int) ≤ n) (h1 : PureC Try.prog 22 [.agg (s8R x.s), .agg (s8R x.s)] (.bool true) []) (h2 : PureC Try.prog 17 [obR x.o, obR x.o] (.bool true) []) : Vc (vcFn Try.prog false 8 [lR m, lR l, .int .i64 n0, .int .i64 k0] [.cl [lR m] (.agg (pgA p)) [], .cl [.agg (pgA p), lR l, .int .i64 1] (.tup [.agg (s8N a), .agg (s8N b)]) [], .cl [.agg (pgA p), .agg (s8R a), .int .i64 n] (.tup [.agg (s8R x.s), obR x.o, .int .i64 x.k, .int .i64 x.e]) [], .cl [.agg (pgA p), .agg (s8R x.s), .int .i64 k] (.tup [.agg (s8R y.s), obR y.o, .int .i64 y.k, .int .i64 y.e]) [], .cl [.agg (pgA p), .agg (s8R a), .int .i64 (n + k)] (.tup [.agg (s8R x.s), obR x.o, .int .i64 x.k, .int .i64 x.e]) [], .b true, .b true, .b true, .b true, .b true, .b true, .b true, .b true, .b true, .b true, .b true, .b true, .cl [.agg (s8R x.s), .agg (s8R x.s)] (.bool true) [], .b true, .b true, .b true, .b true, .cl [obR x.o, obR x.o] (.bool true) [], .b true, .b true, .cl [] (.bool true) [], .b true] [] (.bool true) []) :=
  vc_of (q := (List.length m = List.length m) ∧ (∀ (i : Nat), i < List.length m → ∀ (j : Nat), j < (1 : Nat) → AV.int IntKind.i64 (List.getD m i (0 : Int)) = AV.int IntKind.i64 (List.getD m i (0 : Int))) ∧ (PureC Try.prog 9 [lR m] (.agg (pgA p)) []) ∧ (frS8w2 p ((frS8w5 p ((List.length l = List.length l) ∧ (∀ (i : Nat), i < List.length l → ∀ (j : Nat), j < (1 : Nat) → AV.int IntKind.i64 (List.getD l i (0 : Int)) = AV.int IntKind.i64 (List.getD l i (0 : Int))) ∧ ((1 : Int) = (1 : Int)) ∧ (PureC Try.prog 10 [.agg (pgA p), lR l, .int .i64 1] (.tup [.agg (s8N a), .agg (s8N b)]) []) ∧ (frS8w2 p ((frS8w1 m p a ((∀ (i : Nat), i < List.length (S8.m a) → ∀ (j : Nat), j < (1 : Nat) → AV.int IntKind.i64 (List.getD (S8.m a) i (0 : Int)) = AV.int IntKind.i64 (List.getD (S8.m a) i (0 : Int))) ∧ (List.length (S8.st a) = (0 : Nat)) ∧ (S8.pc a = S8.pc a) ∧ (Go.bits Go.BinOp.and IntKind.i64 n0 (31 : Int) = n) ∧ (PureC Try.prog 19 [.agg (pgA p), .agg (s8R a), .int .i64 n] (.tup [.agg (s8R x.s), obR x.o, .int .i64 x.k, .int .i64 x.e]) []) ∧ (frS8w2 p ((frS8w4 m p x ((frS8w3 m x ((Go.bits Go.BinOp.and IntKind.i64 k0 (31 : Int) = k) ∧ (PureC Try.prog 19 [.agg (pgA p), .agg (s8R x.s), .int .i64 k] (.tup [.agg (s8R y.s), obR y.o, .int .i64 y.k, .int .i64 y.e]) []) ∧ (inK IntKind.i64 (Go.bits Go.BinOp.and IntKind.i64 n0 (31 : Int) + Go.bits Go.BinOp.and IntKind.i64 k0 (31 : Int))) ∧ (frS8w2 p ((frS8w1 m p a ((∀ (i : Nat), i < List.length (S8.m a) → ∀ (j : Nat), j < (1 : Nat) → AV.int IntKind.i64 (List.getD (S8.m a) i (0 : Int)) = AV.int IntKind.i64 (List.getD (S8.m a) i (0 : Int))) ∧ (List.length (S8.st a) = (0 : Nat)) ∧ (S8.pc a = S8.pc a) ∧ (Go.bits Go.BinOp.and IntKind.i64 n0 (31 : Int) + Go.bits Go.BinOp.and IntKind.i64 k0 (31 : Int) = n + k) ∧ (PureC Try.prog 19 [.agg (pgA p), .agg (s8R a), .int .i64 (n + k)] (.tup [.agg (s8R x.s), obR x.o, .int .i64 x.k, .int .i64 x.e]) []) ∧ ((R8.e x != (0 : Int)) = true) ∧ (decide ((↑(R8.k x) : Int) ≤ Go.bits Go.BinOp.and IntKind.i64 n0 (31 : Int)) = true) ∧ (decide ((↑(R8.k x) : Int) ≤ Go.bits Go.BinOp.and IntKind.i64 n0 (31 : Int)) = true) ∧ (decide ((↑(R8.k x) : Int) ≤ Go.bits Go.BinOp.and IntKind.i64 n0 (31 : Int)) = true) ∧ (decide ((↑(R8.k x) : Int) ≤ Go.bits Go.BinOp.and IntKind.i64 n0 (31 : Int)) = true) ∧ ((R8.e x == R8.e x) = true) ∧ ((R8.e x == R8.e x) = true) ∧ ((R8.e x == R8.e x) = true) ∧ ((R8.e x == R8.e x) = true) ∧ (((↑(R8.k x) : Int) == (↑(R8.k x) : Int)) = true) ∧ (((↑(R8.k x) : Int) == (↑(R8.k x) : Int)) = true) ∧ (((↑(R8.k x) : Int) == (↑(R8.k x) : Int)) = true) ∧ (frS8w0 m x ((frS8w0 m x ((PureC Try.prog 22 [.agg (s8R x.s), .agg (s8R x.s)] (.bool true) []) ∧ (((↑(R8.k x) : Int) == (↑(R8.k x) : Int)) = true) ∧ (true = true) ∧ (true = true) ∧ (true = true) ∧ (List.length (R8.o x) = List.length (R8.o x)) ∧ (∀ (i : Nat), i < List.length (R8.o x) → ∀ (j : Nat), j < (2 : Nat) → rowL obC (R8.o x) i j = rowL obC (R8.o x) i j) ∧ (List.length (R8.o x) = List.length (R8.o x)) ∧ (∀ (i : Nat), i < List.length (R8.o x) → ∀ (j : Nat), j < (2 : Nat) → rowL obC (R8.o x) i j = rowL obC (R8.o x) i j) ∧ (PureC Try.prog 17 [obR x.o, obR x.o] (.bool true) []) ∧ (true = true) ∧ (true = true) ∧ (PureC Try.prog 18 [] (.bool true) []) ∧ (true = true) ∧ (true = true) ∧ True))))))))))))))))))))))) (by kernel_rfl)
    ⟨rfl,
 (fun _ _ _ _ => rfl),
 hM, (frS8w2_mk p (frS8w5_mk p ⟨rfl,
 (fun _ _ _ _ => rfl),
 rfl,
 hS, (frS8w2_mk p (frS8w1_mk m p a ⟨(fun _ _ _ _ => rfl),
 (by rw [ha]; rfl),
 rfl,
 hn,
 hX, (frS8w2_mk p (frS8w4_mk m p x (frS8w3_mk m x ⟨hk,
 hY,
 (in64 (by omega) (by omega)), (frS8w2_mk p (frS8w1_mk m p a ⟨(fun _ _ _ _ => rfl),
 (by rw [ha]; rfl),
 rfl,
 (by first | omega | rfl | (simp; done) | (simp; omega)),
 hZ,
 (bne_iff_ne.2 he),
 (decide_eq_true (by first | omega | (simp; omega) | (simp; done))),
 (decide_eq_true (by first | omega | (simp; omega) | (simp; done))),
 (decide_eq_true (by first | omega | (simp; omega) | (simp; done))),
 (decide_eq_true (by first | omega | (simp; omega) | (simp; done))),
 (beq_iff_eq.2 (by omega)),
 (beq_iff_eq.2 (by omega)),
 (beq_iff_eq.2 (by omega)),
 (beq_iff_eq.2 (by omega)),
 (beq_iff_eq.2 (by omega)),
 (beq_iff_eq.2 (by omega)),
 (beq_iff_eq.2 (by omega)), (frS8w0_mk m x (frS8w0_mk m x ⟨h1,
 (beq_iff_eq.2 (by omega)),
 rfl,
 rfl,
 rfl,
 rfl,
 (fun _ _ _ _ => rfl),
 rfl,
 (fun _ _ _ _ => rfl),
 h2,
 rfl,
 rfl,
 awakeC8,
 rfl,
 rfl, trivial⟩))⟩))⟩)))⟩))⟩))⟩
theorem sp_go (m l : List Int) (n0 k0 : Int) (p : Pg) (a b : S8) (n k : Int) (x y : R8) (hn : bits .and .i64 n0 31 = n) (hk : bits .and .i64 k0 31 = k) (ha : a.st = []) (hm0 : 0 ≤ n ∧ n < 32) (hm1 : 0 ≤ k ∧ k < 32) (hxo : x.o.length < 1000) (hyo : y.o.length < 1000) (hM : PureC Try.prog 9 [lR m] (.agg (pgA p)) []) (hS : PureC Try.prog 10 [.agg (pgA p), lR l, .int .i64 1] (.tup [.agg (s8N a), .agg (s8N b)]) []) (hX : PureC Try.prog 19 [.agg (pgA p), .agg (s8R a), .int .i64 n] (.tup [.agg (s8R x.s), obR x.o, .int .i64 x.k, .int .i64 x.e]) []) (hY : PureC Try.prog 19 [.agg (pgA p), .agg (s8R x.s), .int .i64 k] (.tup [.agg (s8R y.s), obR y.o, .int .i64 y.k, .int .i64 y.e]) []) (zo : List Ob) (zk : Int) (hzo : zo = x.o ++ y.o) (hzk : zk = n + y.k) (he : x.e = 0) (hyk : y.k < 1000) (hi : (x.k : Int) = n) (hst : y.s.st.length ≤ 4) (hml : y.s.m.length = a.m.length) (hZ : PureC Try.prog 19 [.agg (pgA p), .agg (s8R a), .int .i64 (n + k)] (.tup [.agg (s8R y.s), obR zo, .int .i64 zk, .int .i64 y.e]) []) (h1 : PureC Try.prog 22 [.agg (s8R y.s), .agg (s8R y.s)] (.bool true) []) (h2 : PureC Try.prog 17 [obR zo, obR zo] (.bool true) []) : Vc (vcFn Try.prog false 8 [lR m, lR l, .int .i64 n0, .int .i64 k0] [.cl [lR m] (.agg (pgA p)) [], .cl [.agg (pgA p), lR l, .int .i64 1] (.tup [.agg (s8N a), .agg (s8N b)]) [], .cl [.agg (pgA p), .agg (s8R a), .int .i64 n] (.tup [.agg (s8R x.s), obR x.o, .int .i64 x.k, .int .i64 x.e]) [], .cl [.agg (pgA p), .agg (s8R x.s), .int .i64 k] (.tup [.agg (s8R y.s), obR y.o, .int .i64 y.k, .int .i64 y.e]) [], .cl [.agg (pgA p), .agg (s8R a), .int .i64 (n + k)] (.tup [.agg (s8R y.s), obR zo, .int .i64 zk, .int .i64 y.e]) [], .b false, .b true, .b true, .b true, .b true, .b true, .b true, .b true, .b true, .b true, .b true, .b true, .b true, .b true, .cl [.agg (s8R y.s), .agg (s8R y.s)] (.bool true) [], .b true, .b true, .b true, .b true, .b true, .b true, .b true, .b true, .cl [obR zo, obR zo] (.bool true) [], .b true, .b true, .b true, .b true, .b true, .b true, .b true, .b true, .b true, .b true, .b true, .b true, .b true, .b true, .b true, .cl [] (.bool true) [], .b true] [] (.bool true) []) :=
  vc_of (q := (List.length m = List.length m) ∧ (∀ (i : Nat), i < List.length m → ∀ (j : Nat), j < (1 : Nat) → AV.int IntKind.i64 (List.getD m i (0 : Int)) = AV.int IntKind.i64 (List.getD m i (0 : Int))) ∧ (PureC Try.prog 9 [lR m] (.agg (pgA p)) []) ∧ (frS8w2 p ((frS8w5 p ((List.length l = List.length l) ∧ (∀ (i : Nat), i < List.length l → ∀ (j : Nat), j < (1 : Nat) → AV.int IntKind.i64 (List.getD l i (0 : Int)) = AV.int IntKind.i64 (List.getD l i (0 : Int))) ∧ ((1 : Int) = (1 : Int)) ∧ (PureC Try.prog 10 [.agg (pgA p), lR l, .int .i64 1] (.tup [.agg (s8N a), .agg (s8N b)]) []) ∧ (frS8w2 p ((frS8w1 m p a ((∀ (i : Nat), i < List.length (S8.m a) → ∀ (j : Nat), j < (1 : Nat) → AV.int IntKind.i64 (List.getD (S8.m a) i (0 : Int)) = AV.int IntKind.i64 (List.getD (S8.m a) i (0 : Int))) ∧ (List.length (S8.st a) = (0 : Nat)) ∧ (S8.pc a = S8.pc a) ∧ (Go.bits Go.BinOp.and IntKind.i64 n0 (31 : Int) = n) ∧ (PureC Try.prog 19 [.agg (pgA p), .agg (s8R a), .int .i64 n] (.tup [.agg (s8R x.s), obR x.o, .int .i64 x.k, .int .i64 x.e]) []) ∧ (frS8w2 p ((frS8w4 m p x ((frS8w3 m x ((Go.bits Go.BinOp.and IntKind.i64 k0 (31 : Int) = k) ∧ (PureC Try.prog 19 [.agg (pgA p), .agg (s8R x.s), .int .i64 k] (.tup [.agg (s8R y.s), obR y.o, .int .i64 y.k, .int .i64 y.e]) []) ∧ (inK IntKind.i64 (Go.bits Go.BinOp.and IntKind.i64 n0 (31 : Int) + Go.bits Go.BinOp.and IntKind.i64 k0 (31 : Int))) ∧ (frS8w2 p ((frS8w1 m p a ((∀ (i : Nat), i < List.length (S8.m a) → ∀ (j : Nat), j < (1 : Nat) → AV.int IntKind.i64 (List.getD (S8.m a) i (0 : Int)) = AV.int IntKind.i64 (List.getD (S8.m a) i (0 : Int))) ∧ (List.length (S8.st a) = (0 : Nat)) ∧ (S8.pc a = S8.pc a) ∧ (Go.bits Go.BinOp.and IntKind.i64 n0 (31 : Int) + Go.bits Go.BinOp.and IntKind.i64 k0 (31 : Int) = n + k) ∧ (PureC Try.prog 19 [.agg (pgA p), .agg (s8R a), .int .i64 (n + k)] (.tup [.agg (s8R y.s), obR zo, .int .i64 zk, .int .i64 y.e]) []) ∧ ((R8.e x != (0 : Int)) = false) ∧ (((↑(R8.k x) : Int) == Go.bits Go.BinOp.and IntKind.i64 n0 (31 : Int)) = true) ∧ (((↑(R8.k x) : Int) == Go.bits Go.BinOp.and IntKind.i64 n0 (31 : Int)) = true) ∧ (((↑(R8.k x) : Int) == Go.bits Go.BinOp.and IntKind.i64 n0 (31 : Int)) = true) ∧ (((↑(R8.k x) : Int) == Go.bits Go.BinOp.and IntKind.i64 n0 (31 : Int)) = true) ∧ (inK IntKind.i64 (Go.bits Go.BinOp.and IntKind.i64 n0 (31 : Int) + (↑(R8.k y) : Int))) ∧ (((↑(R8.k x) : Int) == Go.bits Go.BinOp.and IntKind.i64 n0 (31 : Int)) = true) ∧ (((↑(R8.k x) : Int) == Go.bits Go.BinOp.and IntKind.i64 n0 (31 : Int)) = true) ∧ ((zk == Go.bits Go.BinOp.and IntKind.i64 n0 (31 : Int) + (↑(R8.k y) : Int)) = true) ∧ ((zk == Go.bits Go.BinOp.and IntKind.i64 n0 (31 : Int) + (↑(R8.k y) : Int)) = true) ∧ ((zk == Go.bits Go.BinOp.and IntKind.i64 n0 (31 : Int) + (↑(R8.k y) : Int)) = true) ∧ ((zk == Go.bits Go.BinOp.and IntKind.i64 n0 (31 : Int) + (↑(R8.k y) : Int)) = true) ∧ ((R8.e y == R8.e y) = true) ∧ ((R8.e y == R8.e y) = true) ∧ ((R8.e y == R8.e y) = true) ∧ (S8.r0 (R8.s y) = S8.r0 (R8.s y)) ∧ (S8.r1 (R8.s y) = S8.r1 (R8.s y)) ∧ (S8.r2 (R8.s y) = S8.r2 (R8.s y)) ∧ (S8.r3 (R8.s y) = S8.r3 (R8.s y)) ∧ (List.length (S8.m (R8.s y)) = List.length (S8.m (R8.s y))) ∧ (∀ (i : Nat), i < List.length (S8.m (R8.s y)) → ∀ (j : Nat), j < (1 : Nat) → AV.int IntKind.i64 (List.getD (S8.m (R8.s y)) i (0 : Int)) = AV.int IntKind.i64 (List.getD (S8.m (R8.s y)) i (0 : Int))) ∧ (List.length (S8.st (R8.s y)) = List.length (S8.st (R8.s y))) ∧ (∀ (i : Nat), i < List.length (S8.st (R8.s y)) → ∀ (j : Nat), j < (1 : Nat) → AV.int IntKind.i64 (List.getD (S8.st (R8.s y)) i (0 : Int)) = AV.int IntKind.i64 (List.getD (S8.st (R8.s y)) i (0 : Int))) ∧ (S8.pc (R8.s y) = S8.pc (R8.s y)) ∧ (S8.r0 (R8.s y) = S8.r0 (R8.s y)) ∧ (S8.r1 (R8.s y) = S8.r1 (R8.s y)) ∧ (S8.r2 (R8.s y) = S8.r2 (R8.s y)) ∧ (S8.r3 (R8.s y) = S8.r3 (R8.s y)) ∧ (List.length (S8.m (R8.s y)) = List.length (S8.m (R8.s y))) ∧ (∀ (i : Nat), i < List.length (S8.m (R8.s y)) → ∀ (j : Nat), j < (1 : Nat) → AV.int IntKind.i64 (List.getD (S8.m (R8.s y)) i (0 : Int)) = AV.int IntKind.i64 (List.getD (S8.m (R8.s y)) i (0 : Int))) ∧ (List.length (S8.st (R8.s y)) = List.length (S8.st (R8.s y))) ∧ (∀ (i : Nat), i < List.length (S8.st (R8.s y)) → ∀ (j : Nat), j < (1 : Nat) → AV.int IntKind.i64 (List.getD (S8.st (R8.s y)) i (0 : Int)) = AV.int IntKind.i64 (List.getD (S8.st (R8.s y)) i (0 : Int))) ∧ (S8.pc (R8.s y) = S8.pc (R8.s y)) ∧ (PureC Try.prog 22 [.agg (s8R y.s), .agg (s8R y.s)] (.bool true) []) ∧ ((R8.e y == R8.e y) = true) ∧ (true = true) ∧ (true = true) ∧ (true = true) ∧ (true = true) ∧ ((0 : Nat) = (0 : Nat) ∧ (0 : Nat) = (0 : Nat) ∧ ((0 : Nat) + List.length (R8.o x)) * (16 : Nat) ≤ (140737488355328 : Nat) ∧ (0 : Nat) + List.length (R8.o x) ≤ (140737488355328 : Nat)) ∧ (true = true) ∧ (true = true) ∧ ((0 : Nat) = (0 : Nat) ∧ (0 : Nat) + List.length (R8.o x) = (0 : Nat) + List.length (R8.o x) ∧ ((0 : Nat) + List.length (R8.o x) + List.length (R8.o y)) * (16 : Nat) ≤ (140737488355328 : Nat) ∧ (0 : Nat) + List.length (R8.o x) + List.length (R8.o y) ≤ (140737488355328 : Nat)) ∧ (true = true) ∧ (List.length zo = List.length zo) ∧ (∀ (i : Nat), i < List.length zo → ∀ (j : Nat), j < (2 : Nat) → rowL obC zo i j = rowL obC zo i j) ∧ ((0 : Nat) + List.length (R8.o x) + List.length (R8.o y) = List.length zo) ∧ (∀ (i : Nat), i < (0 : Nat) + List.length (R8.o x) + List.length (R8.o y) → ∀ (j : Nat), j < (2 : Nat) → (bif Nat.blt (i + (0 : Nat)) ((0 : Nat) + List.length (R8.o x)) then bif Nat.blt (i + (0 : Nat)) (0 : Nat) then AV.junk else rowL obC (R8.o x) (i + (0 : Nat) - (0 : Nat)) j else rowL obC (R8.o y) (i + (0 : Nat) - ((0 : Nat) + List.length (R8.o x))) j) = rowL obC zo i j) ∧ (PureC Try.prog 17 [obR zo, obR zo] (.bool true) []) ∧ (true = true) ∧ (true = true) ∧ (true = true) ∧ (true = true) ∧ (true = true) ∧ (true = true) ∧ (decide ((↑(List.length (S8.st (R8.s y))) : Int) ≤ (4 : Int)) = true) ∧ (decide ((↑(List.length (S8.st (R8.s y))) : Int) ≤ (4 : Int)) = true) ∧ (decide ((↑(List.length (S8.st (R8.s y))) : Int) ≤ (4 : Int)) = true) ∧ (decide ((↑(List.length (S8.st (R8.s y))) : Int) ≤ (4 : Int)) = true) ∧ (decide ((↑(List.length (S8.st (R8.s y))) : Int) ≤ (4 : Int)) = true) ∧ (decide ((↑(List.length (S8.st (R8.s y))) : Int) ≤ (4 : Int)) = true) ∧ (decide ((↑(List.length (S8.st (R8.s y))) : Int) ≤ (4 : Int)) = true) ∧ (decide ((↑(List.length (S8.st (R8.s y))) : Int) ≤ (4 : Int)) = true) ∧ (((↑(List.length (S8.m (R8.s y))) : Int) == (↑(List.length (S8.m a)) : Int)) = true) ∧ (PureC Try.prog 18 [] (.bool true) []) ∧ (((↑(List.length (S8.m (R8.s y))) : Int) == (↑(List.length (S8.m a)) : Int)) = true) ∧ (true = true) ∧ True))))))))))))))))))) (by kernel_rfl)
    ⟨rfl,
 (fun _ _ _ _ => rfl),
 hM, (frS8w2_mk p (frS8w5_mk p ⟨rfl,
 (fun _ _ _ _ => rfl),
 rfl,
 hS, (frS8w2_mk p (frS8w1_mk m p a ⟨(fun _ _ _ _ => rfl),
 (by rw [ha]; rfl),
 rfl,
 hn,
 hX, (frS8w2_mk p (frS8w4_mk m p x (frS8w3_mk m x ⟨hk,
 hY,
 (in64 (by omega) (by omega)), (frS8w2_mk p (frS8w1_mk m p a ⟨(fun _ _ _ _ => rfl),
 (by rw [ha]; rfl),
 rfl,
 (by first | omega | rfl | (simp; done) | (simp; omega)),
 hZ,
 (by simp [he]),
 (beq_iff_eq.2 (by omega)),
 (beq_iff_eq.2 (by omega)),
 (beq_iff_eq.2 (by omega)),
 (beq_iff_eq.2 (by omega)),
 (in64 (by omega) (by omega)),
 (beq_iff_eq.2 (by omega)),
 (beq_iff_eq.2 (by omega)),
 (beq_iff_eq.2 (by omega)),
 (beq_iff_eq.2 (by omega)),
 (beq_iff_eq.2 (by omega)),
 (beq_iff_eq.2 (by omega)),
 (beq_iff_eq.2 (by omega)),
 (beq_iff_eq.2 (by omega)),
 (beq_iff_eq.2 (by omega)),
 rfl,
 rfl,
 rfl,
 rfl,
 rfl,
 (fun _ _ _ _ => rfl),
 rfl,
 (fun _ _ _ _ => rfl),
 rfl,
 rfl,
 rfl,
 rfl,
 rfl,
 rfl,
 (fun _ _ _ _ => rfl),
 rfl,
 (fun _ _ _ _ => rfl),
 rfl,
 h1,
 (beq_iff_eq.2 (by omega)),
 rfl,
 rfl,
 rfl,
 rfl,
 (by first | omega | rfl),
 rfl,
 rfl,
 (by first | omega | rfl),
 rfl,
 (by subst hzo; simp),
 (fun _ _ _ _ => rfl),
 (by subst hzo; simp),
 (by rw [hzo]; exact ob_cat),
 h2,
 rfl,
 rfl,
 rfl,
 rfl,
 rfl,
 rfl,
 (decide_eq_true (by first | omega | (simp; omega) | (simp; done))),
 (decide_eq_true (by first | omega | (simp; omega) | (simp; done))),
 (decide_eq_true (by first | omega | (simp; omega) | (simp; done))),
 (decide_eq_true (by first | omega | (simp; omega) | (simp; done))),
 (decide_eq_true (by first | omega | (simp; omega) | (simp; done))),
 (decide_eq_true (by first | omega | (simp; omega) | (simp; done))),
 (decide_eq_true (by first | omega | (simp; omega) | (simp; done))),
 (decide_eq_true (by first | omega | (simp; omega) | (simp; done))),
 (beq_iff_eq.2 (by omega)),
 awakeC8,
 (beq_iff_eq.2 (by omega)),
 rfl, trivial⟩))⟩)))⟩))⟩))⟩
theorem partsC (m l : List Int) (n0 k0 : Int) : PureC Try.prog 8 [lR m, lR l, .int .i64 n0, .int .i64 k0] (.bool true) [] := by
  have hP := mkPg_ok m
  have hM := mkC m
  generalize mkPg m = p at hP hM
  have hS := statesC p l 1 hP
  have hs := sA_ok p l
  have ha : (sA p l).st = [] := rfl
  generalize sA p l = a at hS hs ha
  generalize sB p l 1 = b at hS
  have hn := and31 n0
  have hk := and31 k0
  obtain ⟨n, en⟩ : ∃ n, bits .and .i64 n0 31 = n := ⟨_, rfl⟩
  obtain ⟨k, ek⟩ : ∃ k, bits .and .i64 k0 31 = k := ⟨_, rfl⟩
  rw [en] at hn
  rw [ek] at hk
  have hX := runF p a n hP hs (by omega)
  have hxs := runD_ok hP hs n.toNat
  have hxo := runD_obs p ((sumN p.ms : Nat) : Int) a n.toNat
  have hxk := runD_k p ((sumN p.ms : Nat) : Int) a n.toNat
  have hxt := runD_st p ((sumN p.ms : Nat) : Int) a (by rw [ha]; exact Nat.zero_le _) n.toNat
  have hY := runF p _ k hP hxs (by omega)
  have hys := runD_ok hP hxs k.toNat
  have hyo := runD_obs p ((sumN p.ms : Nat) : Int) (runD p ((sumN p.ms : Nat) : Int) a n.toNat).s k.toNat
  have hyt := runD_st p ((sumN p.ms : Nat) : Int) _ hxt k.toNat
  have hZ := runF p a (n + k) hP hs (by omega)
  have e : (n + k).toNat = n.toNat + k.toNat := by omega
  rw [e] at hZ
  by_cases he : (runD p ((sumN p.ms : Nat) : Int) a n.toNat).e = 0
  · rw [runD_add p ((sumN p.ms : Nat) : Int) a n.toNat he k.toNat] at hZ
    have hkk := hxk.2.1 he
    refine PureC.vc (sp_go m l n0 k0 p a b n k _ _ en ek ha hn hk (by omega) (by omega) hM hS hX hY _ _ rfl ?_ he (by have := (runD_k p ((sumN p.ms : Nat) : Int) (runD p ((sumN p.ms : Nat) : Int) a n.toNat).s k.toNat).1; omega) ?_ hyt ?_ hZ ?_ ?_)
    · show ((n.toNat + _ : Nat) : Int) = _
      omega
    · omega
    · have h1 := hys.c
      have h2 := hs.c
      omega
    · have h1 := hys.c
      have := hP.sum
      exact sameC8 _ (by omega) (by omega)
    · refine soC _ ?_
      show (_ ++ _ : List Ob).length < _
      rw [List.length_append]; omega
  · rw [runD_stop p ((sumN p.ms : Nat) : Int) a n.toNat he k.toNat] at hZ
    have h1 := hxs.c
    have := hP.sum
    exact PureC.vc (sp_stop m l n0 k0 p a b n k _ _ en ek ha hn hk (by omega) (by omega) hM hS hX hY hZ he (by have := hxk.1; omega) (sameC8 _ (by omega) (by omega)) (soC _ (by omega)))
theorem walk_SeqmParts (A0 : Option Addr) (c0 : Nat) (z0 : List Int) (A1 : Option Addr) (c1 : Nat) (z1 : List Int) (a2 a3 : Int) (W : World) (hc0 : z0.length ≤ c0) (hm0 : c0 ≤ maxLen) (hr0 : Rd W W.heap.size A0 (z0.map (Value.int .i64))) (hc1 : z1.length ≤ c1) (hm1 : c1 ≤ maxLen) (hr1 : Rd W W.heap.size A1 (z1.map (Value.int .i64))) : Calls Try.prog 8 #[.slice A0 z0.length c0, .slice A1 z1.length c1, .int .i64 a2, .int .i64 a3] W (RetB (.bool true) W) :=
  (partsC z0 z1 a2 a3).lawB (R := fun g => g < W.heap.size) (fun _ h => h) rfl (fun j x v hx hv => match j, hx, hv with
    | 0, rfl, rfl => .ofRd hr0 hc0 hm0
    | 1, rfl, rfl => .ofRd hr1 hc1 hm1
    | 2, rfl, rfl => .int _ _
    | 3, rfl, rfl => .int _ _)
end
end Go.Proofs.Ytjdiabjmphdhiaa.Px
namespace Go.Proofs.Ytjdiabjmphdhiaa.Px
section
open Go.RowKit Go.Proofs.Ytjdiabjmphdhiaa.Rx
def ev (st : List Int) (len : Int) (k : Nat) : Int := (bits .and .i64 (st.getD k 0) 255).tmod (len + 1)
def stT (st : List Int) (len : Int) : Nat → List Int
  | 0 => []
  | k + 1 => stT st len k ++ [ev st len k]
def S8.wst (s : S8) (l : List Int) : S8 := { s with st := l }
def tl1 (p : Pg) (a : S8) (pc : Int) (st : List Int) (n w : Int) (k : Nat) : Sm := ⟨[(3, lR st), (2, .int .i64 pc), (14, .bptr 1 0), (4, .int .i64 n), (5, .int .i64 w), (13, .bptr 0 0), (12, .bool false), (16, .int .i64 k)],
  [(0, bx 28 (pgA p)), (1, bx 31 (s8A a (lR a.m) (.own 2 0 1 0 a.st.length))), (2, blkI a.st)], 3⟩
def tl2 (p : Pg) (a : S8) (pc : Int) (n w : Int) (q : Nat) : Sm := ⟨[(2, .int .i64 pc), (14, .bptr 1 0), (4, .int .i64 n), (5, .int .i64 w), (13, .bptr 0 0), (12, .bool false), (17, .int .i64 q)],
  [(0, bx 28 (pgA p)), (1, bx 31 (s8R a))], 2⟩
def frS8x0 (pc : Int) (st : List Int) (n : Int) (w : Int) (Z : Prop) : Prop := (List.length st = List.length st) ∧ (∀ (i : Nat), i < List.length st → ∀ (j : Nat), j < (1 : Nat) → AV.int IntKind.i64 (List.getD st i (0 : Int)) = AV.int IntKind.i64 (List.getD st i (0 : Int))) ∧ (pc = pc) ∧ (n = n) ∧ (w = w) ∧ (false = false) ∧ Z
theorem frS8x0_mk (pc : Int) (st : List Int) (n : Int) (w : Int) {Z : Prop} (z : Z) : frS8x0 pc st n w Z := ⟨rfl, (fun _ _ _ _ => rfl), rfl, rfl, rfl, rfl, z⟩
def frS8x1 (p : Pg) (a : S8) (Z : Prop) : Prop := (List.length (Pg.ls p) = List.length (Pg.ls p)) ∧ (∀ (i : Nat), i < List.length (Pg.ls p) → ∀ (j : Nat), j < (2 : Nat) → rowL lbC (Pg.ls p) i j = rowL lbC (Pg.ls p) i j) ∧ (List.length (Pg.is p) = List.length (Pg.is p)) ∧ (∀ (i : Nat), i < List.length (Pg.is p) → ∀ (j : Nat), j < (9 : Nat) → rowL inC (Pg.is p) i j = rowL inC (Pg.is p) i j) ∧ (S8.r0 a = S8.r0 a) ∧ (S8.r1 a = S8.r1 a) ∧ (S8.r2 a = S8.r2 a) ∧ (S8.r3 a = S8.r3 a) ∧ (List.length (S8.m a) = List.length (S8.m a)) ∧ Z
theorem frS8x1_mk (p : Pg) (a : S8) {Z : Prop} (z : Z) : frS8x1 p a Z := ⟨rfl, (fun _ _ _ _ => rfl), rfl, (fun _ _ _ _ => rfl), rfl, rfl, rfl, rfl, rfl, z⟩
def frS8x2 (p : Pg) (Z : Prop) : Prop := (Pg.W p = Pg.W p) ∧ (Pg.win p = Pg.win p) ∧ (Pg.fuel p = Pg.fuel p) ∧ (Pg.r0 p = Pg.r0 p) ∧ (Pg.r1 p = Pg.r1 p) ∧ (Pg.r2 p = Pg.r2 p) ∧ (Pg.r3 p = Pg.r3 p) ∧ (List.length (Pg.ms p) = List.length (Pg.ms p)) ∧ (∀ (i : Nat), i < List.length (Pg.ms p) → ∀ (j : Nat), j < (3 : Nat) → rowL mmC (Pg.ms p) i j = rowL mmC (Pg.ms p) i j) ∧ Z
theorem frS8x2_mk (p : Pg) {Z : Prop} (z : Z) : frS8x2 p Z := ⟨rfl, rfl, rfl, rfl, rfl, rfl, rfl, rfl, (fun _ _ _ _ => rfl), z⟩
theorem t1_step (p : Pg) (a : S8) (pc : Int) (st : List Int) (n w : Int) (k : Nat) (hk : k < st.length) (hk4 : k < 4) (hp : p.is.length < 1000) (ha : a.st.length < 100) : Vc (vcC Try.prog false (ntOf Try.prog 7) (lpC Try.prog 7 0) (tl1 p a pc st n w k) [.b true, .b true, .b true, .b true] .nrm [(0, 0), (1, 1), (2, 2)] (tl1 p (a.wst (a.st ++ [ev st p.is.length k])) pc st n w (k + 1))) :=
  vc_of (q := (decide ((↑k : Int) < (↑(List.length st) : Int)) = true) ∧ (decide ((↑k : Int) < (↑(List.length st) : Int)) = true) ∧ (decide ((↑k : Int) < (↑(List.length st) : Int)) = true) ∧ (decide ((↑k : Int) < (4 : Int)) = true) ∧ ((0 : Int) ≤ (↑k : Int) ∧ (↑k : Int) < (↑(List.length st) : Int)) ∧ (inK IntKind.i64 ((↑(List.length (Pg.is p)) : Int) + (1 : Int))) ∧ ((↑(List.length (Pg.is p)) : Int) + (1 : Int) ≠ (0 : Int)) ∧ ((0 : Nat) = (0 : Nat) ∧ List.length (S8.st a) = List.length (S8.st a) ∧ (List.length (S8.st a) + (1 : Nat)) * (8 : Nat) ≤ (140737488355328 : Nat) ∧ List.length (S8.st a) + (1 : Nat) ≤ (140737488355328 : Nat)) ∧ (inK IntKind.i64 ((↑k : Int) + (1 : Int))) ∧ (frS8x2 p ((frS8x1 p a ((∀ (i : Nat), i < List.length (S8.m a) → ∀ (j : Nat), j < (1 : Nat) → AV.int IntKind.i64 (List.getD (S8.m a) i (0 : Int)) = AV.int IntKind.i64 (List.getD (S8.m a) i (0 : Int))) ∧ ((0 : Nat) = (0 : Nat)) ∧ (List.length (S8.st a) + (1 : Nat) = List.length (S8.st a ++ [ev st (↑(List.length (Pg.is p)) : Int) k])) ∧ (S8.pc a = S8.pc a) ∧ (List.length (S8.st a) + (1 : Nat) = List.length (S8.st a ++ [ev st (↑(List.length (Pg.is p)) : Int) k])) ∧ (∀ (i : Nat), i < List.length (S8.st a) + (1 : Nat) → ∀ (j : Nat), j < (1 : Nat) → (bif Nat.blt i (List.length (S8.st a)) then AV.int IntKind.i64 (List.getD (S8.st a) i (0 : Int)) else List.getD [AV.int IntKind.i64 (Int.tmod (Go.bits Go.BinOp.and IntKind.i64 (List.getD st k (0 : Int)) (255 : Int)) ((↑(List.length (Pg.is p)) : Int) + (1 : Int)))] ((i - List.length (S8.st a) + (0 : Nat)) * (1 : Nat) + j) AV.junk) = AV.int IntKind.i64 (List.getD (S8.st a ++ [ev st (↑(List.length (Pg.is p)) : Int) k]) i (0 : Int))) ∧ (frS8x0 pc st n w (((↑k : Int) + (1 : Int) = (↑(k + (1 : Nat)) : Int)) ∧ True))))))) (by kernel_rfl)
    ⟨(decide_eq_true (by first | omega | (simp; omega) | (simp; done))),
 (decide_eq_true (by first | omega | (simp; omega) | (simp; done))),
 (decide_eq_true (by first | omega | (simp; omega) | (simp; done))),
 (decide_eq_true (by first | omega | (simp; omega) | (simp; done))),
 (by first | omega | rfl),
 (in64 (by omega) (by omega)),
 (by first | omega | rfl | (simp; done) | (simp; omega)),
 (by first | omega | rfl),
 (in64 (by omega) (by omega)), (frS8x2_mk p (frS8x1_mk p a ⟨(fun _ _ _ _ => rfl),
 rfl,
 (by first | omega | rfl | (simp; done) | (simp; omega)),
 rfl,
 (by first | omega | rfl | (simp; done) | (simp; omega)),
 snocI, (frS8x0_mk pc st n w ⟨(by first | omega | rfl), trivial⟩)⟩))⟩
def frS8x3 (pc : Int) (n : Int) (w : Int) (Z : Prop) : Prop := (pc = pc) ∧ (n = n) ∧ (w = w) ∧ (false = false) ∧ Z
theorem frS8x3_mk (pc : Int) (n : Int) (w : Int) {Z : Prop} (z : Z) : frS8x3 pc n w Z := ⟨rfl, rfl, rfl, rfl, z⟩
theorem t1_end (p : Pg) (a : S8) (pc : Int) (st : List Int) (n w : Int) (k : Nat) (hk : ¬ k < st.length) : Vc (vcC Try.prog false (ntOf Try.prog 7) (lpC Try.prog 7 0) (tl1 p a pc st n w k) [.b false, .b false, .b false, .b false] (.ext 0) [(0, 0), (1, 1), (2, 2)] (tl1 p a pc st n w k)) :=
  vc_of (q := (decide ((↑k : Int) < (↑(List.length st) : Int)) = false) ∧ (decide ((↑k : Int) < (↑(List.length st) : Int)) = false) ∧ (decide ((↑k : Int) < (↑(List.length st) : Int)) = false) ∧ (false = false) ∧ (Pg.W p = Pg.W p) ∧ (Pg.win p = Pg.win p) ∧ (Pg.fuel p = Pg.fuel p) ∧ (Pg.r0 p = Pg.r0 p) ∧ (Pg.r1 p = Pg.r1 p) ∧ (Pg.r2 p = Pg.r2 p) ∧ (Pg.r3 p = Pg.r3 p) ∧ (List.length (Pg.ms p) = List.length (Pg.ms p)) ∧ (∀ (i : Nat), i < List.length (Pg.ms p) → ∀ (j : Nat), j < (3 : Nat) → rowL mmC (Pg.ms p) i j = rowL mmC (Pg.ms p) i j) ∧ (List.length (Pg.ls p) = List.length (Pg.ls p)) ∧ (∀ (i : Nat), i < List.length (Pg.ls p) → ∀ (j : Nat), j < (2 : Nat) → rowL lbC (Pg.ls p) i j = rowL lbC (Pg.ls p) i j) ∧ (List.length (Pg.is p) = List.length (Pg.is p)) ∧ (∀ (i : Nat), i < List.length (Pg.is p) → ∀ (j : Nat), j < (9 : Nat) → rowL inC (Pg.is p) i j = rowL inC (Pg.is p) i j) ∧ (S8.r0 a = S8.r0 a) ∧ (S8.r1 a = S8.r1 a) ∧ (S8.r2 a = S8.r2 a) ∧ (S8.r3 a = S8.r3 a) ∧ (List.length (S8.m a) = List.length (S8.m a)) ∧ (∀ (i : Nat), i < List.length (S8.m a) → ∀ (j : Nat), j < (1 : Nat) → AV.int IntKind.i64 (List.getD (S8.m a) i (0 : Int)) = AV.int IntKind.i64 (List.getD (S8.m a) i (0 : Int))) ∧ ((0 : Nat) = (0 : Nat)) ∧ (List.length (S8.st a) = List.length (S8.st a)) ∧ (S8.pc a = S8.pc a) ∧ (List.length (S8.st a) = List.length (S8.st a)) ∧ (∀ (i : Nat), i < List.length (S8.st a) → ∀ (j : Nat), j < (1 : Nat) → AV.int IntKind.i64 (List.getD (S8.st a) i (0 : Int)) = AV.int IntKind.i64 (List.getD (S8.st a) i (0 : Int))) ∧ (List.length st = List.length st) ∧ (∀ (i : Nat), i < List.length st → ∀ (j : Nat), j < (1 : Nat) → AV.int IntKind.i64 (List.getD st i (0 : Int)) = AV.int IntKind.i64 (List.getD st i (0 : Int))) ∧ (frS8x3 pc n w (((↑k : Int) = (↑k : Int)) ∧ True))) (by kernel_rfl)
    ⟨(decide_eq_false (by first | omega | (simp; omega) | (simp; done))),
 (decide_eq_false (by first | omega | (simp; omega) | (simp; done))),
 (decide_eq_false (by first | omega | (simp; omega) | (simp; done))),
 rfl,
 rfl,
 rfl,
 rfl,
 rfl,
 rfl,
 rfl,
 rfl,
 rfl,
 (fun _ _ _ _ => rfl),
 rfl,
 (fun _ _ _ _ => rfl),
 rfl,
 (fun _ _ _ _ => rfl),
 rfl,
 rfl,
 rfl,
 rfl,
 rfl,
 (fun _ _ _ _ => rfl),
 rfl,
 rfl,
 rfl,
 rfl,
 (fun _ _ _ _ => rfl),
 rfl,
 (fun _ _ _ _ => rfl), (frS8x3_mk pc n w ⟨rfl, trivial⟩)⟩
theorem t1_four (p : Pg) (a : S8) (pc : Int) (st : List Int) (n w : Int) (k : Nat) (hk : k < st.length) (hk4 : ¬ k < 4) : Vc (vcC Try.prog false (ntOf Try.prog 7) (lpC Try.prog 7 0) (tl1 p a pc st n w k) [.b true, .b true, .b true, .b false] (.ext 0) [(0, 0), (1, 1), (2, 2)] (tl1 p a pc st n w k)) :=
  vc_of (q := (decide ((↑k : Int) < (↑(List.length st) : Int)) = true) ∧ (decide ((↑k : Int) < (↑(List.length st) : Int)) = true) ∧ (decide ((↑k : Int) < (↑(List.length st) : Int)) = true) ∧ (decide ((↑k : Int) < (4 : Int)) = false) ∧ (frS8x2 p ((frS8x1 p a ((∀ (i : Nat), i < List.length (S8.m a) → ∀ (j : Nat), j < (1 : Nat) → AV.int IntKind.i64 (List.getD (S8.m a) i (0 : Int)) = AV.int IntKind.i64 (List.getD (S8.m a) i (0 : Int))) ∧ ((0 : Nat) = (0 : Nat)) ∧ (List.length (S8.st a) = List.length (S8.st a)) ∧ (S8.pc a = S8.pc a) ∧ (List.length (S8.st a) = List.length (S8.st a)) ∧ (∀ (i : Nat), i < List.length (S8.st a) → ∀ (j : Nat), j < (1 : Nat) → AV.int IntKind.i64 (List.getD (S8.st a) i (0 : Int)) = AV.int IntKind.i64 (List.getD (S8.st a) i (0 : Int))) ∧ (List.length st = List.length st) ∧ (∀ (i : Nat), i < List.length st → ∀ (j : Nat), j < (1 : Nat) → AV.int IntKind.i64 (List.getD st i (0 : Int)) = AV.int IntKind.i64 (List.getD st i (0 : Int))) ∧ (pc = pc) ∧ (n = n) ∧ (w = w) ∧ (false = false) ∧ ((↑k : Int) = (↑k : Int)) ∧ True))))) (by kernel_rfl)
    ⟨(decide_eq_true (by first | omega | (simp; omega) | (simp; done))),
 (decide_eq_true (by first | omega | (simp; omega) | (simp; done))),
 (decide_eq_true (by first | omega | (simp; omega) | (simp; done))),
 (decide_eq_false (by first | omega | (simp; omega) | (simp; done))), (frS8x2_mk p (frS8x1_mk p a ⟨(fun _ _ _ _ => rfl),
 rfl,
 rfl,
 rfl,
 rfl,
 (fun _ _ _ _ => rfl),
 rfl,
 (fun _ _ _ _ => rfl),
 rfl,
 rfl,
 rfl,
 rfl,
 rfl, trivial⟩))⟩
def Pg.wW (p : Pg) (v : Int) : Pg := { p with W := v }
def frS8x4 (a : S8) (pc : Int) (Z : Prop) : Prop := (∀ (i : Nat), i < List.length (S8.m a) → ∀ (j : Nat), j < (1 : Nat) → AV.int IntKind.i64 (List.getD (S8.m a) i (0 : Int)) = AV.int IntKind.i64 (List.getD (S8.m a) i (0 : Int))) ∧ (List.length (S8.st a) = List.length (S8.st a)) ∧ (∀ (i : Nat), i < List.length (S8.st a) → ∀ (j : Nat), j < (1 : Nat) → AV.int IntKind.i64 (List.getD (S8.st a) i (0 : Int)) = AV.int IntKind.i64 (List.getD (S8.st a) i (0 : Int))) ∧ (S8.pc a = S8.pc a) ∧ Z
theorem frS8x4_mk (a : S8) (pc : Int) {Z : Prop} (z : Z) : frS8x4 a pc Z := ⟨(fun _ _ _ _ => rfl), rfl, (fun _ _ _ _ => rfl), rfl, z⟩
def frS8x5 (p : Pg) (pc : Int) (Z : Prop) : Prop := (List.length (Pg.ls p) = List.length (Pg.ls p)) ∧ (∀ (i : Nat), i < List.length (Pg.ls p) → ∀ (j : Nat), j < (2 : Nat) → rowL lbC (Pg.ls p) i j = rowL lbC (Pg.ls p) i j) ∧ (List.length (Pg.is p) = List.length (Pg.is p)) ∧ (∀ (i : Nat), i < List.length (Pg.is p) → ∀ (j : Nat), j < (9 : Nat) → rowL inC (Pg.is p) i j = rowL inC (Pg.is p) i j) ∧ (pc = pc) ∧ Z
theorem frS8x5_mk (p : Pg) (pc : Int) {Z : Prop} (z : Z) : frS8x5 p pc Z := ⟨rfl, (fun _ _ _ _ => rfl), rfl, (fun _ _ _ _ => rfl), rfl, z⟩
theorem t2_step (p : Pg) (a : S8) (pc n w : Int) (q : Nat) (x y : R8) (i : In) (hq : q < 2) (hw : 0 ≤ bits .and .i64 w 15 ∧ bits .and .i64 w 15 < 16) (hn : 0 ≤ bits .and .i64 n 63 ∧ bits .and .i64 n 63 < 64) (h1 : PureC Try.prog 16 [.agg (pgA p), .agg (s8R a)] (.tup [.agg (s8R x.s), obR x.o, .int .i64 x.e]) []) (h2 : PureC Try.prog 21 [.agg (pgA p), .agg (s8R a)] (.tup [.agg (s8R x.s), obR x.o, .int .i64 x.e]) []) (h3 : PureC Try.prog 23 [.agg (pgA p), .int .i64 pc] (.agg (inA i)) []) (h4 : PureC Try.prog 24 [.agg (pgA p), .int .i64 pc] (.agg (inA i)) []) (h5 : PureC Try.prog 19 [.agg (pgA p), .agg (s8R a), .int .i64 (bits .and .i64 n 63 - 2)] (.tup [.agg (s8R y.s), obR y.o, .int .i64 y.k, .int .i64 y.e]) []) (h6 : PureC Try.prog 25 [.agg (pgA p), .agg (s8R a), .int .i64 (bits .and .i64 n 63 - 2)] (.tup [.agg (s8R y.s), obR y.o, .int .i64 y.k, .int .i64 y.e]) []) (h7 : PureC Try.prog 22 [.agg (s8R x.s), .agg (s8R x.s)] (.bool true) []) (h8 : PureC Try.prog 17 [obR x.o, obR x.o] (.bool true) []) (h9 : PureC Try.prog 22 [.agg (s8R y.s), .agg (s8R y.s)] (.bool true) []) (h10 : PureC Try.prog 17 [obR y.o, obR y.o] (.bool true) []) : Vc (vcC Try.prog false (ntOf Try.prog 7) (lpC Try.prog 7 1) (tl2 p a pc n w q) [.b true, .cl [.agg (pgA p), .agg (s8R a)] (.tup [.agg (s8R x.s), obR x.o, .int .i64 x.e]) [], .cl [.agg (pgA p), .agg (s8R a)] (.tup [.agg (s8R x.s), obR x.o, .int .i64 x.e]) [], .b false, .b false, .b false, .cl [.agg (s8R x.s), .agg (s8R x.s)] (.bool true) [], .b false, .b false, .b false, .b false, .b false, .cl [obR x.o, obR x.o] (.bool true) [], .b false, .b false, .b false, .b false, .b false, .cl [.agg (pgA p), .int .i64 pc] (.agg (inA i)) [], .b false, .b false, .b false, .cl [.agg (pgA p), .int .i64 pc] (.agg (inA i)) [], .b false, .b false, .b false, .cl [.agg (pgA p), .agg (s8R a), .int .i64 (bits .and .i64 n 63 - 2)] (.tup [.agg (s8R y.s), obR y.o, .int .i64 y.k, .int .i64 y.e]) [], .cl [.agg (pgA p), .agg (s8R a), .int .i64 (bits .and .i64 n 63 - 2)] (.tup [.agg (s8R y.s), obR y.o, .int .i64 y.k, .int .i64 y.e]) [], .b false, .b false, .b false, .b false, .b false, .b false, .b false, .cl [.agg (s8R y.s), .agg (s8R y.s)] (.bool true) [], .b false, .b false, .b false, .b false, .b false, .cl [obR y.o, obR y.o] (.bool true) [], .b false, .b false, .b false] .nrm [(0, 0), (1, 1)] (tl2 (p.wW (if p.W < bits .and .i64 w 15 + 1 then bits .and .i64 w 15 + 1 else p.W)) a pc n w (q + 1))) :=
  vc_of (q := (decide ((↑q : Int) < (2 : Int)) = true) ∧ (frS8x2 p ((frS8x1 p a ((frS8x4 a pc ((PureC Try.prog 16 [.agg (pgA p), .agg (s8R a)] (.tup [.agg (s8R x.s), obR x.o, .int .i64 x.e]) []) ∧ (frS8x2 p ((frS8x1 p a ((frS8x4 a pc ((PureC Try.prog 21 [.agg (pgA p), .agg (s8R a)] (.tup [.agg (s8R x.s), obR x.o, .int .i64 x.e]) []) ∧ ((R8.e x != R8.e x) = false) ∧ ((R8.e x != R8.e x) = false) ∧ ((R8.e x != R8.e x) = false) ∧ (S8.r0 (R8.s x) = S8.r0 (R8.s x)) ∧ (S8.r1 (R8.s x) = S8.r1 (R8.s x)) ∧ (S8.r2 (R8.s x) = S8.r2 (R8.s x)) ∧ (S8.r3 (R8.s x) = S8.r3 (R8.s x)) ∧ (List.length (S8.m (R8.s x)) = List.length (S8.m (R8.s x))) ∧ (∀ (i : Nat), i < List.length (S8.m (R8.s x)) → ∀ (j : Nat), j < (1 : Nat) → AV.int IntKind.i64 (List.getD (S8.m (R8.s x)) i (0 : Int)) = AV.int IntKind.i64 (List.getD (S8.m (R8.s x)) i (0 : Int))) ∧ (List.length (S8.st (R8.s x)) = List.length (S8.st (R8.s x))) ∧ (∀ (i : Nat), i < List.length (S8.st (R8.s x)) → ∀ (j : Nat), j < (1 : Nat) → AV.int IntKind.i64 (List.getD (S8.st (R8.s x)) i (0 : Int)) = AV.int IntKind.i64 (List.getD (S8.st (R8.s x)) i (0 : Int))) ∧ (S8.pc (R8.s x) = S8.pc (R8.s x)) ∧ (S8.r0 (R8.s x) = S8.r0 (R8.s x)) ∧ (S8.r1 (R8.s x) = S8.r1 (R8.s x)) ∧ (S8.r2 (R8.s x) = S8.r2 (R8.s x)) ∧ (S8.r3 (R8.s x) = S8.r3 (R8.s x)) ∧ (List.length (S8.m (R8.s x)) = List.length (S8.m (R8.s x))) ∧ (∀ (i : Nat), i < List.length (S8.m (R8.s x)) → ∀ (j : Nat), j < (1 : Nat) → AV.int IntKind.i64 (List.getD (S8.m (R8.s x)) i (0 : Int)) = AV.int IntKind.i64 (List.getD (S8.m (R8.s x)) i (0 : Int))) ∧ (List.length (S8.st (R8.s x)) = List.length (S8.st (R8.s x))) ∧ (∀ (i : Nat), i < List.length (S8.st (R8.s x)) → ∀ (j : Nat), j < (1 : Nat) → AV.int IntKind.i64 (List.getD (S8.st (R8.s x)) i (0 : Int)) = AV.int IntKind.i64 (List.getD (S8.st (R8.s x)) i (0 : Int))) ∧ (S8.pc (R8.s x) = S8.pc (R8.s x)) ∧ (PureC Try.prog 22 [.agg (s8R x.s), .agg (s8R x.s)] (.bool true) []) ∧ ((R8.e x != R8.e x) = false) ∧ ((R8.e x != R8.e x) = false) ∧ ((!true) = false) ∧ ((!true) = false) ∧ ((!true) = false) ∧ (List.length (R8.o x) = List.length (R8.o x)) ∧ (∀ (i : Nat), i < List.length (R8.o x) → ∀ (j : Nat), j < (2 : Nat) → rowL obC (R8.o x) i j = rowL obC (R8.o x) i j) ∧ (List.length (R8.o x) = List.length (R8.o x)) ∧ (∀ (i : Nat), i < List.length (R8.o x) → ∀ (j : Nat), j < (2 : Nat) → rowL obC (R8.o x) i j = rowL obC (R8.o x) i j) ∧ (PureC Try.prog 17 [obR x.o, obR x.o] (.bool true) []) ∧ ((!true) = false) ∧ ((!true) = false) ∧ ((!true) = false) ∧ ((!true) = false) ∧ ((!true) = false) ∧ (frS8x2 p ((frS8x5 p pc ((PureC Try.prog 23 [.agg (pgA p), .int .i64 pc] (.agg (inA i)) []) ∧ ((!true) = false) ∧ ((!true) = false) ∧ ((!true) = false) ∧ (frS8x2 p ((frS8x5 p pc ((PureC Try.prog 24 [.agg (pgA p), .int .i64 pc] (.agg (inA i)) []) ∧ ((!true) = false) ∧ ((!true) = false) ∧ ((!bif In.kind i == In.kind i then bif In.op i == In.op i then bif In.d i == In.d i then bif bif Vl.reg (In.a i) == Vl.reg (In.a i) then bif Vl.n (In.a i) == Vl.n (In.a i) then true else false else false then bif bif Vl.reg (In.b i) == Vl.reg (In.b i) then bif Vl.n (In.b i) == Vl.n (In.b i) then true else false else false then bif ByteArray.toList (In.nm i) == ByteArray.toList (In.nm i) then bif In.tg i == In.tg i then true else false else false else false else false else false else false else false) = false) ∧ (inK IntKind.i64 (Go.bits Go.BinOp.and IntKind.i64 n (63 : Int) - (2 : Int))) ∧ (frS8x2 p ((frS8x1 p a ((frS8x4 a pc ((Go.bits Go.BinOp.and IntKind.i64 n (63 : Int) - (2 : Int) = Go.bits Go.BinOp.and IntKind.i64 n (63 : Int) - (2 : Int)) ∧ (PureC Try.prog 19 [.agg (pgA p), .agg (s8R a), .int .i64 (bits .and .i64 n 63 - 2)] (.tup [.agg (s8R y.s), obR y.o, .int .i64 y.k, .int .i64 y.e]) []) ∧ (inK IntKind.i64 (Go.bits Go.BinOp.and IntKind.i64 n (63 : Int) - (2 : Int))) ∧ (frS8x2 p ((frS8x1 p a ((frS8x4 a pc ((Go.bits Go.BinOp.and IntKind.i64 n (63 : Int) - (2 : Int) = Go.bits Go.BinOp.and IntKind.i64 n (63 : Int) - (2 : Int)) ∧ (PureC Try.prog 25 [.agg (pgA p), .agg (s8R a), .int .i64 (bits .and .i64 n 63 - 2)] (.tup [.agg (s8R y.s), obR y.o, .int .i64 y.k, .int .i64 y.e]) []) ∧ ((R8.e y != R8.e y) = false) ∧ ((R8.e y != R8.e y) = false) ∧ ((R8.e y != R8.e y) = false) ∧ ((R8.e y != R8.e y) = false) ∧ (((↑(R8.k y) : Int) != (↑(R8.k y) : Int)) = false) ∧ (((↑(R8.k y) : Int) != (↑(R8.k y) : Int)) = false) ∧ (((↑(R8.k y) : Int) != (↑(R8.k y) : Int)) = false) ∧ (S8.r0 (R8.s y) = S8.r0 (R8.s y)) ∧ (S8.r1 (R8.s y) = S8.r1 (R8.s y)) ∧ (S8.r2 (R8.s y) = S8.r2 (R8.s y)) ∧ (S8.r3 (R8.s y) = S8.r3 (R8.s y)) ∧ (List.length (S8.m (R8.s y)) = List.length (S8.m (R8.s y))) ∧ (∀ (i : Nat), i < List.length (S8.m (R8.s y)) → ∀ (j : Nat), j < (1 : Nat) → AV.int IntKind.i64 (List.getD (S8.m (R8.s y)) i (0 : Int)) = AV.int IntKind.i64 (List.getD (S8.m (R8.s y)) i (0 : Int))) ∧ (List.length (S8.st (R8.s y)) = List.length (S8.st (R8.s y))) ∧ (∀ (i : Nat), i < List.length (S8.st (R8.s y)) → ∀ (j : Nat), j < (1 : Nat) → AV.int IntKind.i64 (List.getD (S8.st (R8.s y)) i (0 : Int)) = AV.int IntKind.i64 (List.getD (S8.st (R8.s y)) i (0 : Int))) ∧ (S8.pc (R8.s y) = S8.pc (R8.s y)) ∧ (S8.r0 (R8.s y) = S8.r0 (R8.s y)) ∧ (S8.r1 (R8.s y) = S8.r1 (R8.s y)) ∧ (S8.r2 (R8.s y) = S8.r2 (R8.s y)) ∧ (S8.r3 (R8.s y) = S8.r3 (R8.s y)) ∧ (List.length (S8.m (R8.s y)) = List.length (S8.m (R8.s y))) ∧ (∀ (i : Nat), i < List.length (S8.m (R8.s y)) → ∀ (j : Nat), j < (1 : Nat) → AV.int IntKind.i64 (List.getD (S8.m (R8.s y)) i (0 : Int)) = AV.int IntKind.i64 (List.getD (S8.m (R8.s y)) i (0 : Int))) ∧ (List.length (S8.st (R8.s y)) = List.length (S8.st (R8.s y))) ∧ (∀ (i : Nat), i < List.length (S8.st (R8.s y)) → ∀ (j : Nat), j < (1 : Nat) → AV.int IntKind.i64 (List.getD (S8.st (R8.s y)) i (0 : Int)) = AV.int IntKind.i64 (List.getD (S8.st (R8.s y)) i (0 : Int))) ∧ (S8.pc (R8.s y) = S8.pc (R8.s y)) ∧ (PureC Try.prog 22 [.agg (s8R y.s), .agg (s8R y.s)] (.bool true) []) ∧ (((↑(R8.k y) : Int) != (↑(R8.k y) : Int)) = false) ∧ (((↑(R8.k y) : Int) != (↑(R8.k y) : Int)) = false) ∧ ((!true) = false) ∧ ((!true) = false) ∧ ((!true) = false) ∧ (List.length (R8.o y) = List.length (R8.o y)) ∧ (∀ (i : Nat), i < List.length (R8.o y) → ∀ (j : Nat), j < (2 : Nat) → rowL obC (R8.o y) i j = rowL obC (R8.o y) i j) ∧ (List.length (R8.o y) = List.length (R8.o y)) ∧ (∀ (i : Nat), i < List.length (R8.o y) → ∀ (j : Nat), j < (2 : Nat) → rowL obC (R8.o y) i j = rowL obC (R8.o y) i j) ∧ (PureC Try.prog 17 [obR y.o, obR y.o] (.bool true) []) ∧ ((!true) = false) ∧ ((!true) = false) ∧ ((!true) = false) ∧ (inK IntKind.i64 (Go.bits Go.BinOp.and IntKind.i64 w (15 : Int) + (1 : Int))) ∧ (inK IntKind.i64 ((↑q : Int) + (1 : Int))) ∧ ((if Pg.W p < Go.bits Go.BinOp.and IntKind.i64 w (15 : Int) + (1 : Int) then Go.bits Go.BinOp.and IntKind.i64 w (15 : Int) + (1 : Int) else Pg.W p) = if Pg.W p < Go.bits Go.BinOp.and IntKind.i64 w (15 : Int) + (1 : Int) then Go.bits Go.BinOp.and IntKind.i64 w (15 : Int) + (1 : Int) else Pg.W p) ∧ (Pg.win p = Pg.win p) ∧ (Pg.fuel p = Pg.fuel p) ∧ (Pg.r0 p = Pg.r0 p) ∧ (Pg.r1 p = Pg.r1 p) ∧ (Pg.r2 p = Pg.r2 p) ∧ (Pg.r3 p = Pg.r3 p) ∧ (List.length (Pg.ms p) = List.length (Pg.ms p)) ∧ (∀ (i : Nat), i < List.length (Pg.ms p) → ∀ (j : Nat), j < (3 : Nat) → rowL mmC (Pg.ms p) i j = rowL mmC (Pg.ms p) i j) ∧ (List.length (Pg.ls p) = List.length (Pg.ls p)) ∧ (∀ (i : Nat), i < List.length (Pg.ls p) → ∀ (j : Nat), j < (2 : Nat) → rowL lbC (Pg.ls p) i j = rowL lbC (Pg.ls p) i j) ∧ (List.length (Pg.is p) = List.length (Pg.is p)) ∧ (∀ (i : Nat), i < List.length (Pg.is p) → ∀ (j : Nat), j < (9 : Nat) → rowL inC (Pg.is p) i j = rowL inC (Pg.is p) i j) ∧ (S8.r0 a = S8.r0 a) ∧ (S8.r1 a = S8.r1 a) ∧ (S8.r2 a = S8.r2 a) ∧ (S8.r3 a = S8.r3 a) ∧ (List.length (S8.m a) = List.length (S8.m a)) ∧ (∀ (i : Nat), i < List.length (S8.m a) → ∀ (j : Nat), j < (1 : Nat) → AV.int IntKind.i64 (List.getD (S8.m a) i (0 : Int)) = AV.int IntKind.i64 (List.getD (S8.m a) i (0 : Int))) ∧ (List.length (S8.st a) = List.length (S8.st a)) ∧ (∀ (i : Nat), i < List.length (S8.st a) → ∀ (j : Nat), j < (1 : Nat) → AV.int IntKind.i64 (List.getD (S8.st a) i (0 : Int)) = AV.int IntKind.i64 (List.getD (S8.st a) i (0 : Int))) ∧ (S8.pc a = S8.pc a) ∧ (pc = pc) ∧ (n = n) ∧ (w = w) ∧ (false = false) ∧ ((↑q : Int) + (1 : Int) = (↑(q + (1 : Nat)) : Int)) ∧ True))))))))))))))))))))))))))))))))) (by kernel_rfl)
    ⟨(decide_eq_true (by first | omega | (simp; omega) | (simp; done))), (frS8x2_mk p (frS8x1_mk p a (frS8x4_mk a pc ⟨h1, (frS8x2_mk p (frS8x1_mk p a (frS8x4_mk a pc ⟨h2,
 (by first | omega | rfl | (simp; done) | (simp; omega)),
 (by first | omega | rfl | (simp; done) | (simp; omega)),
 (by first | omega | rfl | (simp; done) | (simp; omega)),
 rfl,
 rfl,
 rfl,
 rfl,
 rfl,
 (fun _ _ _ _ => rfl),
 rfl,
 (fun _ _ _ _ => rfl),
 rfl,
 rfl,
 rfl,
 rfl,
 rfl,
 rfl,
 (fun _ _ _ _ => rfl),
 rfl,
 (fun _ _ _ _ => rfl),
 rfl,
 h7,
 (by first | omega | rfl | (simp; done) | (simp; omega)),
 (by first | omega | rfl | (simp; done) | (simp; omega)),
 (by first | omega | rfl | (simp; done) | (simp; omega)),
 (by first | omega | rfl | (simp; done) | (simp; omega)),
 (by first | omega | rfl | (simp; done) | (simp; omega)),
 rfl,
 (fun _ _ _ _ => rfl),
 rfl,
 (fun _ _ _ _ => rfl),
 h8,
 (by first | omega | rfl | (simp; done) | (simp; omega)),
 (by first | omega | rfl | (simp; done) | (simp; omega)),
 (by first | omega | rfl | (simp; done) | (simp; omega)),
 (by first | omega | rfl | (simp; done) | (simp; omega)),
 (by first | omega | rfl | (simp; done) | (simp; omega)), (frS8x2_mk p (frS8x5_mk p pc ⟨h3,
 (by first | omega | rfl | (simp; done) | (simp; omega)),
 (by first | omega | rfl | (simp; done) | (simp; omega)),
 (by first | omega | rfl | (simp; done) | (simp; omega)), (frS8x2_mk p (frS8x5_mk p pc ⟨h4,
 (by first | omega | rfl | (simp; done) | (simp; omega)),
 (by first | omega | rfl | (simp; done) | (simp; omega)),
 (by first | omega | rfl | (simp; done) | (simp; omega)),
 (in64 (by omega) (by omega)), (frS8x2_mk p (frS8x1_mk p a (frS8x4_mk a pc ⟨rfl,
 h5,
 (in64 (by omega) (by omega)), (frS8x2_mk p (frS8x1_mk p a (frS8x4_mk a pc ⟨rfl,
 h6,
 (by first | omega | rfl | (simp; done) | (simp; omega)),
 (by first | omega | rfl | (simp; done) | (simp; omega)),
 (by first | omega | rfl | (simp; done) | (simp; omega)),
 (by first | omega | rfl | (simp; done) | (simp; omega)),
 (by first | omega | rfl | (simp; done) | (simp; omega)),
 (by first | omega | rfl | (simp; done) | (simp; omega)),
 (by first | omega | rfl | (simp; done) | (simp; omega)),
 rfl,
 rfl,
 rfl,
 rfl,
 rfl,
 (fun _ _ _ _ => rfl),
 rfl,
 (fun _ _ _ _ => rfl),
 rfl,
 rfl,
 rfl,
 rfl,
 rfl,
 rfl,
 (fun _ _ _ _ => rfl),
 rfl,
 (fun _ _ _ _ => rfl),
 rfl,
 h9,
 (by first | omega | rfl | (simp; done) | (simp; omega)),
 (by first | omega | rfl | (simp; done) | (simp; omega)),
 (by first | omega | rfl | (simp; done) | (simp; omega)),
 (by first | omega | rfl | (simp; done) | (simp; omega)),
 (by first | omega | rfl | (simp; done) | (simp; omega)),
 rfl,
 (fun _ _ _ _ => rfl),
 rfl,
 (fun _ _ _ _ => rfl),
 h10,
 (by first | omega | rfl | (simp; done) | (simp; omega)),
 (by first | omega | rfl | (simp; done) | (simp; omega)),
 (by first | omega | rfl | (simp; done) | (simp; omega)),
 (in64 (by omega) (by omega)),
 (in64 (by omega) (by omega)),
 (by first | omega | rfl),
 rfl,
 rfl,
 rfl,
 rfl,
 rfl,
 rfl,
 rfl,
 (fun _ _ _ _ => rfl),
 rfl,
 (fun _ _ _ _ => rfl),
 rfl,
 (fun _ _ _ _ => rfl),
 rfl,
 rfl,
 rfl,
 rfl,
 rfl,
 (fun _ _ _ _ => rfl),
 rfl,
 (fun _ _ _ _ => rfl),
 rfl,
 rfl,
 rfl,
 rfl,
 rfl,
 (by first | omega | rfl), trivial⟩)))⟩)))⟩))⟩))⟩)))⟩)))⟩
theorem t2_end (p : Pg) (a : S8) (pc n w : Int) : Vc (vcC Try.prog false (ntOf Try.prog 7) (lpC Try.prog 7 1) (tl2 p a pc n w 2) [.b false] (.ext 2) [(0, 0), (1, 1)] (tl2 p a pc n w 2)) :=
  vc_of (q := (decide ((↑(2 : Nat) : Int) < (2 : Int)) = false) ∧ (frS8x2 p ((frS8x1 p a ((∀ (i : Nat), i < List.length (S8.m a) → ∀ (j : Nat), j < (1 : Nat) → AV.int IntKind.i64 (List.getD (S8.m a) i (0 : Int)) = AV.int IntKind.i64 (List.getD (S8.m a) i (0 : Int))) ∧ (List.length (S8.st a) = List.length (S8.st a)) ∧ (∀ (i : Nat), i < List.length (S8.st a) → ∀ (j : Nat), j < (1 : Nat) → AV.int IntKind.i64 (List.getD (S8.st a) i (0 : Int)) = AV.int IntKind.i64 (List.getD (S8.st a) i (0 : Int))) ∧ (S8.pc a = S8.pc a) ∧ (pc = pc) ∧ (n = n) ∧ (w = w) ∧ (false = false) ∧ ((↑(2 : Nat) : Int) = (↑(2 : Nat) : Int)) ∧ True))))) (by kernel_rfl)
    ⟨(decide_eq_false (by first | omega | (simp; omega) | (simp; done))), (frS8x2_mk p (frS8x1_mk p a ⟨(fun _ _ _ _ => rfl),
 rfl,
 (fun _ _ _ _ => rfl),
 rfl,
 rfl,
 rfl,
 rfl,
 rfl,
 rfl, trivial⟩))⟩
def frS8x6 (p : Pg) (Z : Prop) : Prop := (List.length (Pg.ls p) = List.length (Pg.ls p)) ∧ (∀ (i : Nat), i < List.length (Pg.ls p) → ∀ (j : Nat), j < (2 : Nat) → rowL lbC (Pg.ls p) i j = rowL lbC (Pg.ls p) i j) ∧ (List.length (Pg.is p) = List.length (Pg.is p)) ∧ (∀ (i : Nat), i < List.length (Pg.is p) → ∀ (j : Nat), j < (9 : Nat) → rowL inC (Pg.is p) i j = rowL inC (Pg.is p) i j) ∧ Z
theorem frS8x6_mk (p : Pg) {Z : Prop} (z : Z) : frS8x6 p Z := ⟨rfl, (fun _ _ _ _ => rfl), rfl, (fun _ _ _ _ => rfl), z⟩
theorem tl_vc (m l st : List Int) (pc n w : Int) (p p2 : Pg) (a b b1 : S8) (K : Nat) (ha : a.st = []) (hlen : p.is.length < 1000) (hpc : -1 ≤ ((bits .and .i64 pc 255).tmod ((p.is.length : Int) + 2) - 1) ∧ ((bits .and .i64 pc 255).tmod ((p.is.length : Int) + 2) - 1) < 1000000) (hM : PureC Try.prog 9 [lR m] (.agg (pgA p)) []) (hS : PureC Try.prog 10 [.agg (pgA p), lR l, .int .i64 n] (.tup [.agg (s8N a), .agg (s8N b)]) []) (hL1 : Ok Try.prog (ntOf Try.prog 7) (.loop (lpC Try.prog 7 0)) (tl1 p (a.go ((bits .and .i64 pc 255).tmod ((p.is.length : Int) + 2) - 1)) pc st n w 0).st (.ext 0) (tl1 p b1 pc st n w K).st) (hL2 : Ok Try.prog (ntOf Try.prog 7) (.loop (lpC Try.prog 7 1)) (tl2 p b1 pc n w 0).st (.ext 2) (tl2 p2 b1 pc n w 2).st) : Vc (vcFn Try.prog false 7 [lR m, lR l, .int .i64 pc, lR st, .int .i64 n, .int .i64 w] [.cl [lR m] (.agg (pgA p)) [], .cl [.agg (pgA p), lR l, .int .i64 n] (.tup [.agg (s8N a), .agg (s8N b)]) [], .lp [(0, 0), (1, 1)] (tl1 p (a.go ((bits .and .i64 pc 255).tmod ((p.is.length : Int) + 2) - 1)) pc st n w 0) (.ext 0) (tl1 p b1 pc st n w K), .lp [(0, 0), (1, 1)] (tl2 p b1 pc n w 0) (.ext 2) (tl2 p2 b1 pc n w 2), .cl [] (.bool true) []] [] (.bool true) []) :=
  vc_of (q := (List.length m = List.length m) ∧ (∀ (i : Nat), i < List.length m → ∀ (j : Nat), j < (1 : Nat) → AV.int IntKind.i64 (List.getD m i (0 : Int)) = AV.int IntKind.i64 (List.getD m i (0 : Int))) ∧ (PureC Try.prog 9 [lR m] (.agg (pgA p)) []) ∧ (frS8x2 p ((frS8x6 p ((List.length l = List.length l) ∧ (∀ (i : Nat), i < List.length l → ∀ (j : Nat), j < (1 : Nat) → AV.int IntKind.i64 (List.getD l i (0 : Int)) = AV.int IntKind.i64 (List.getD l i (0 : Int))) ∧ (n = n) ∧ (PureC Try.prog 10 [.agg (pgA p), lR l, .int .i64 n] (.tup [.agg (s8N a), .agg (s8N b)]) []) ∧ (inK IntKind.i64 ((↑(List.length (Pg.is p)) : Int) + (2 : Int))) ∧ ((↑(List.length (Pg.is p)) : Int) + (2 : Int) ≠ (0 : Int)) ∧ (inK IntKind.i64 (Int.tmod (Go.bits Go.BinOp.and IntKind.i64 pc (255 : Int)) ((↑(List.length (Pg.is p)) : Int) + (2 : Int)) - (1 : Int))) ∧ (frS8x2 p ((frS8x1 p a ((∀ (i : Nat), i < List.length (S8.m a) → ∀ (j : Nat), j < (1 : Nat) → AV.int IntKind.i64 (List.getD (S8.m a) i (0 : Int)) = AV.int IntKind.i64 (List.getD (S8.m a) i (0 : Int))) ∧ ((0 : Nat) = (0 : Nat)) ∧ (List.length (S8.st a) = (0 : Nat)) ∧ (Int.tmod (Go.bits Go.BinOp.and IntKind.i64 pc (255 : Int)) ((↑(List.length (Pg.is p)) : Int) + (2 : Int)) - (1 : Int) = Int.tmod (Go.bits Go.BinOp.and IntKind.i64 pc (255 : Int)) ((↑(List.length (Pg.is p)) : Int) + (2 : Int)) - (1 : Int)) ∧ (List.length (S8.st a) = (0 : Nat)) ∧ (frS8x0 pc st n w (((0 : Int) = (↑(0 : Nat) : Int)) ∧ (Ok Try.prog (ntOf Try.prog 7) (.loop (lpC Try.prog 7 0)) (tl1 p (a.go ((bits .and .i64 pc 255).tmod ((p.is.length : Int) + 2) - 1)) pc st n w 0).st (.ext 0) (tl1 p b1 pc st n w K).st) ∧ (frS8x2 p ((frS8x6 p ((S8.r0 b1 = S8.r0 b1) ∧ (S8.r1 b1 = S8.r1 b1) ∧ (S8.r2 b1 = S8.r2 b1) ∧ (S8.r3 b1 = S8.r3 b1) ∧ (List.length (S8.m b1) = List.length (S8.m b1)) ∧ (∀ (i : Nat), i < List.length (S8.m b1) → ∀ (j : Nat), j < (1 : Nat) → AV.int IntKind.i64 (List.getD (S8.m b1) i (0 : Int)) = AV.int IntKind.i64 (List.getD (S8.m b1) i (0 : Int))) ∧ (List.length (S8.st b1) = List.length (S8.st b1)) ∧ (∀ (i : Nat), i < List.length (S8.st b1) → ∀ (j : Nat), j < (1 : Nat) → AV.int IntKind.i64 (List.getD (S8.st b1) (i + (0 : Nat)) (0 : Int)) = AV.int IntKind.i64 (List.getD (S8.st b1) i (0 : Int))) ∧ (S8.pc b1 = S8.pc b1) ∧ (frS8x3 pc n w (((0 : Int) = (↑(0 : Nat) : Int)) ∧ (Ok Try.prog (ntOf Try.prog 7) (.loop (lpC Try.prog 7 1)) (tl2 p b1 pc n w 0).st (.ext 2) (tl2 p2 b1 pc n w 2).st) ∧ (PureC Try.prog 18 [] (.bool true) []) ∧ (true = true) ∧ True))))))))))))))))) (by kernel_rfl)
    ⟨rfl,
 (fun _ _ _ _ => rfl),
 hM, (frS8x2_mk p (frS8x6_mk p ⟨rfl,
 (fun _ _ _ _ => rfl),
 rfl,
 hS,
 (in64 (by omega) (by omega)),
 (by first | omega | rfl | (simp; done) | (simp; omega)),
 (in64 (Int.le_trans (by decide) hpc.1) (Int.le_trans (Int.le_of_lt hpc.2) (by decide))), (frS8x2_mk p (frS8x1_mk p a ⟨(fun _ _ _ _ => rfl),
 rfl,
 (by rw [ha]; rfl),
 rfl,
 (by rw [ha]; rfl), (frS8x0_mk pc st n w ⟨(by first | omega | rfl),
 hL1, (frS8x2_mk p (frS8x6_mk p ⟨rfl,
 rfl,
 rfl,
 rfl,
 rfl,
 (fun _ _ _ _ => rfl),
 rfl,
 (fun _ _ _ _ => rfl),
 rfl, (frS8x3_mk pc n w ⟨(by first | omega | rfl),
 hL2,
 awakeC8,
 rfl, trivial⟩)⟩))⟩)⟩))⟩))⟩
theorem and255 (n : Int) : 0 ≤ bits .and .i64 n 255 ∧ bits .and .i64 n 255 < 256 := by
  have h := Wd.bits_mask n 8 (by omega)
  have h2 : bits .and .i64 n 255 = n % 256 := h
  rw [h2]; omega
theorem and63 (n : Int) : 0 ≤ bits .and .i64 n 63 ∧ bits .and .i64 n 63 < 64 := by
  have h := Wd.bits_mask n 6 (by omega)
  have h2 : bits .and .i64 n 63 = n % 64 := h
  rw [h2]; omega
theorem and15 (n : Int) : 0 ≤ bits .and .i64 n 15 ∧ bits .and .i64 n 15 < 16 := by
  have h := Wd.bits_mask n 4 (by omega)
  have h2 : bits .and .i64 n 15 = n % 16 := h
  rw [h2]; omega
theorem tmBd {x d : Int} (hx : 0 ≤ x) (hd : 0 < d) : 0 ≤ x.tmod d ∧ x.tmod d < d := ⟨Int.tmod_nonneg _ hx, Int.tmod_lt_of_pos _ hd⟩
theorem stT_len (st : List Int) (len : Int) : ∀ k, (stT st len k).length = k
  | 0 => rfl
  | k + 1 => by simp [stT, stT_len st len k]
theorem stT_bd (st : List Int) {len : Int} (hl : 0 ≤ len) : ∀ k, ∀ x ∈ stT st len k, -1 ≤ x ∧ x ≤ len
  | 0, x, hx => by cases hx
  | k + 1, x, hx => by
    rcases List.mem_append.1 hx with h | h
    · exact stT_bd st hl k x h
    · rw [List.mem_singleton.1 h]
      have := tmBd (and255 (st.getD k 0)).1 (show 0 < len + 1 by omega)
      unfold ev
      omega
theorem OkP.wW {p : Pg} (h : OkP p) (v : Int) : OkP (p.wW v) := ⟨h.ins, h.len, h.ms, h.sum⟩
theorem t1_loop (p : Pg) (a : S8) (pc : Int) (st : List Int) (n w : Int) (hp : p.is.length < 1000) (ha : a.st = []) : Ok Try.prog (ntOf Try.prog 7) (.loop (lpC Try.prog 7 0)) (tl1 p a pc st n w 0).st (.ext 0) (tl1 p (a.wst (stT st p.is.length (min st.length 4))) pc st n w (min st.length 4)).st := by
  have h0 : a = a.wst (stT st p.is.length 0) := by
    obtain ⟨_, _, _, _, _, s, _⟩ := a
    simp only at ha
    subst ha; rfl
  have h : Ok Try.prog (ntOf Try.prog 7) (.loop (lpC Try.prog 7 0)) (tl1 p (a.wst (stT st p.is.length 0)) pc st n w 0).st (.ext 0) (tl1 p (a.wst (stT st p.is.length (min st.length 4))) pc st n w (min st.length 4)).st :=
    Ok.loop (P := Try.prog) (nt := ntOf Try.prog 7) (c := lpC Try.prog 7 0) (F := fun k => tl1 p (a.wst (stT st p.is.length k)) pc st n w k) (m := min st.length 4) (x := .ext 0) (J := tl1 p (a.wst (stT st p.is.length (min st.length 4))) pc st n w (min st.length 4)) (fun k hk => by
      have hl := stT_len st p.is.length k
      exact Ok.vc (t1_step p (a.wst (stT st p.is.length k)) pc st n w k (by omega) (by omega) hp (by show (stT st p.is.length k).length < 100; omega))) (by
      by_cases h4 : st.length ≤ 4
      · exact Ok.vc (t1_end p _ pc st n w _ (by omega))
      · exact Ok.vc (t1_four p _ pc st n w _ (by omega) (by omega))) (by simp)
  rw [← h0] at h
  exact h
/-- the program with the second width -/
def wK (p : Pg) (w : Int) : Nat → Pg
  | 0 => p
  | q + 1 => (wK p w q).wW (if (wK p w q).W < bits .and .i64 w 15 + 1 then bits .and .i64 w 15 + 1 else (wK p w q).W)
theorem wK_is (p : Pg) (w : Int) : ∀ q, (wK p w q).is = p.is ∧ (wK p w q).ms = p.ms
  | 0 => ⟨rfl, rfl⟩
  | q + 1 => wK_is p w q
theorem wK_ok {p : Pg} (h : OkP p) (w : Int) : ∀ q, OkP (wK p w q)
  | 0 => h
  | q + 1 => (wK_ok h w q).wW _
theorem t2_round (p : Pg) (a : S8) (pc n w : Int) (q : Nat) (hq : q < 2) (hP : OkP p) (hs : OkS ((sumN p.ms : Nat) : Int) p.is.length a) : Ok Try.prog (ntOf Try.prog 7) (lpC Try.prog 7 1) (tl2 p a pc n w q).st .nrm (tl2 (p.wW (if p.W < bits .and .i64 w 15 + 1 then bits .and .i64 w 15 + 1 else p.W)) a pc n w (q + 1)).st := by
  have hn := and63 n
  have hx := runD_ok hP hs 1
  have hy := runD_ok hP hs (bits .and .i64 n 63 - 2).toNat
  have hxo := runD_obs p ((sumN p.ms : Nat) : Int) a 1
  have hyo := runD_obs p ((sumN p.ms : Nat) : Int) a (bits .and .i64 n 63 - 2).toNat
  have hsum := hP.sum
  have e1 := hx.c
  have e2 := hx.st
  have e3 := hy.c
  have e4 := hy.st
  exact Ok.vc (t2_step p a pc n w q (runD p ((sumN p.ms : Nat) : Int) a 1) (runD p ((sumN p.ms : Nat) : Int) a (bits .and .i64 n 63 - 2).toNat) (atI p pc) hq (and15 w) hn (stepF p a hP hs) (rstepC p a hP hs) (atC p pc) (ratC p pc) (runF p a _ hP hs (by omega)) (rrunC p a _ hP hs (by omega)) (sameC8 _ (by omega) (by omega)) (soC _ (by omega)) (sameC8 _ (by omega) (by omega)) (soC _ (by omega)))
theorem t2_loop (p : Pg) (a : S8) (pc n w : Int) (hP : OkP p) (hs : OkS ((sumN p.ms : Nat) : Int) p.is.length a) : Ok Try.prog (ntOf Try.prog 7) (.loop (lpC Try.prog 7 1)) (tl2 p a pc n w 0).st (.ext 2) (tl2 (wK p w 2) a pc n w 2).st :=
  Ok.loop (P := Try.prog) (nt := ntOf Try.prog 7) (c := lpC Try.prog 7 1) (F := fun q => tl2 (wK p w q) a pc n w q) (m := 2) (x := .ext 2) (J := tl2 (wK p w 2) a pc n w 2) (fun q hq => by
    obtain ⟨e1, e2⟩ := wK_is p w q
    exact t2_round (wK p w q) a pc n w q hq (wK_ok hP w q) (by rw [e1, e2]; exact hs)) (Ok.vc (t2_end _ _ _ _ _)) (by simp)
theorem tellsC (m l st : List Int) (pc n w : Int) : PureC Try.prog 7 [lR m, lR l, .int .i64 pc, lR st, .int .i64 n, .int .i64 w] (.bool true) [] := by
  have hP := mkPg_ok m
  have hM := mkC m
  generalize mkPg m = p at hP hM
  have hS := statesC p l n hP
  have hs := sA_ok p l
  have ha : (sA p l).st = [] := rfl
  generalize sA p l = a at hS hs ha
  generalize sB p l n = b at hS
  have hlen := hP.len
  have hpc : -1 ≤ ((bits .and .i64 pc 255).tmod ((p.is.length : Int) + 2) - 1) ∧ ((bits .and .i64 pc 255).tmod ((p.is.length : Int) + 2) - 1) < 1000000 := by
    have := tmBd (and255 pc).1 (show 0 < (p.is.length : Int) + 2 by omega)
    omega
  have hpc2 : ((bits .and .i64 pc 255).tmod ((p.is.length : Int) + 2) - 1) ≤ p.is.length := by
    have := tmBd (and255 pc).1 (show 0 < (p.is.length : Int) + 2 by omega)
    omega
  have hl := stT_len st p.is.length (min st.length 4)
  have hs1 : OkS ((sumN p.ms : Nat) : Int) p.is.length ((a.go ((bits .and .i64 pc 255).tmod ((p.is.length : Int) + 2) - 1)).wst (stT st p.is.length (min st.length 4))) := ⟨hs.reg, hs.mem, hs.c, ⟨hpc.1, hpc2⟩, by show (stT st p.is.length (min st.length 4)).length ≤ 100; omega, stT_bd st (by omega) _⟩
  exact PureC.vc (tl_vc m l st pc n w p _ a b _ _ ha hlen hpc hM hS (t1_loop p (a.go ((bits .and .i64 pc 255).tmod ((p.is.length : Int) + 2) - 1)) pc st n w hlen ha) (t2_loop p _ pc n w hP hs1))
theorem walk_SeqmTells (A0 : Option Addr) (c0 : Nat) (z0 : List Int) (A1 : Option Addr) (c1 : Nat) (z1 : List Int) (a2 : Int) (A3 : Option Addr) (c3 : Nat) (z3 : List Int) (a4 a5 : Int) (W : World) (hc0 : z0.length ≤ c0) (hm0 : c0 ≤ maxLen) (hr0 : Rd W W.heap.size A0 (z0.map (Value.int .i64))) (hc1 : z1.length ≤ c1) (hm1 : c1 ≤ maxLen) (hr1 : Rd W W.heap.size A1 (z1.map (Value.int .i64))) (hc3 : z3.length ≤ c3) (hm3 : c3 ≤ maxLen) (hr3 : Rd W W.heap.size A3 (z3.map (Value.int .i64))) : Calls Try.prog 7 #[.slice A0 z0.length c0, .slice A1 z1.length c1, .int .i64 a2, .slice A3 z3.length c3, .int .i64 a4, .int .i64 a5] W (RetB (.bool true) W) :=
  (tellsC z0 z1 z3 a2 a4 a5).lawB (R := fun g => g < W.heap.size) (fun _ h => h) rfl (fun j x v hx hv => match j, hx, hv with
    | 0, rfl, rfl => .ofRd hr0 hc0 hm0
    | 1, rfl, rfl => .ofRd hr1 hc1 hm1
    | 2, rfl, rfl => .int _ _
    | 3, rfl, rfl => .ofRd hr3 hc3 hm3
    | 4, rfl, rfl => .int _ _
    | 5, rfl, rfl => .int _ _)
end
end Go.Proofs.Ytjdiabjmphdhiaa.Px
