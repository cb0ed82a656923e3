/- Two states held against each other, as the program does it. -/
import Derived.Test.YtdbnfdcjibgikaaA7g
set_option linter.unusedVariables false
set_option linter.unusedSimpArgs false
set_option maxRecDepth 100000
namespace Go.Proofs.Ytdbnfdcjibgikaa.Px
open Go.RowKit Go.Proofs.Ytdbnfdcjibgikaa.Rx
def regE (a0 a1 a2 a3 b0 b1 b2 b3 : Int) : Bool := bif a0 == b0 then (bif a1 == b1 then (bif a2 == b2 then (bif a3 == b3 then true else false) else false) else false) else false
def sameB (a0 a1 a2 a3 : Int) (m st : List Int) (pa b0 b1 b2 b3 : Int) (m' st' : List Int) (pb : Int) : Bool := regE a0 a1 a2 a3 b0 b1 b2 b3 && eqI m m' && eqI st st' && (pa == pb)
abbrev cA7h0 (a0 : Int) (a1 : Int) (a2 : Int) (a3 : Int) (b0 : Int) (b1 : Int) (b2 : Int) (b3 : Int) : Prop := ((bif a0 == b0 then bif a1 == b1 then bif a2 == b2 then bif a3 == b3 then true else false else false else false else false) = false)
theorem s1_nn (a0 a1 a2 a3 pa b0 b1 b2 b3 pb : Int) (m m' : List Int) (hm : m.length < 1000000000) (hm' : m'.length < 1000000000) (h1 : regE a0 a1 a2 a3 b0 b1 b2 b3 = false) : Vc (vcFn Try.prog false 28 [.agg (stA a0 a1 a2 a3 m .nils pa), .agg (stA b0 b1 b2 b3 m' .nils pb)] [.b false, .b false, .b false, .b false, .b false, .b false] [] (.bool false) []) :=
  vc_of (q := cA7h0 a0 a1 a2 a3 b0 b1 b2 b3 ∧ cA7h0 a0 a1 a2 a3 b0 b1 b2 b3 ∧ cA7h0 a0 a1 a2 a3 b0 b1 b2 b3 ∧ cA7h0 a0 a1 a2 a3 b0 b1 b2 b3 ∧ cA7h0 a0 a1 a2 a3 b0 b1 b2 b3 ∧ cA7h0 a0 a1 a2 a3 b0 b1 b2 b3 ∧ (false = false) ∧ True) (by kernel_rfl)
    ⟨h1,
 h1,
 h1,
 h1,
 h1,
 h1,
 rfl, trivial⟩
abbrev cA7h1 (a0 : Int) (a1 : Int) (a2 : Int) (a3 : Int) (b0 : Int) (b1 : Int) (b2 : Int) (b3 : Int) : Prop := ((bif a0 == b0 then bif a1 == b1 then bif a2 == b2 then bif a3 == b3 then true else false else false else false else false) = true)
abbrev cA7h2 (m : List Int) (m' : List Int) : Prop := (PureC Try.prog 37 [.row 1 m.length (rowI m), .row 1 m'.length (rowI m')] (.bool (eqI m m')) [])
def frA7h0 (m : List Int) (m' : List Int) (Z : Prop) : Prop := (List.length m = List.length m) ∧ (∀ (i : Nat), i < List.length m → ∀ (j : Nat), j < (1 : Nat) → AV.int IntKind.i64 (List.getD m i (0 : Int)) = AV.int IntKind.i64 (List.getD m i (0 : Int))) ∧ (List.length m' = List.length m') ∧ (∀ (i : Nat), i < List.length m' → ∀ (j : Nat), j < (1 : Nat) → AV.int IntKind.i64 (List.getD m' i (0 : Int)) = AV.int IntKind.i64 (List.getD m' i (0 : Int))) ∧ Z
theorem frA7h0_mk (m : List Int) (m' : List Int) {Z : Prop} (z : Z) : frA7h0 m m' Z := ⟨rfl, (fun _ _ _ _ => rfl), rfl, (fun _ _ _ _ => rfl), z⟩
theorem s2_nn (a0 a1 a2 a3 pa b0 b1 b2 b3 pb : Int) (m m' : List Int) (hm : m.length < 1000000000) (hm' : m'.length < 1000000000) (h1 : regE a0 a1 a2 a3 b0 b1 b2 b3 = true) (h2 : eqI m m' = false) : Vc (vcFn Try.prog false 28 [.agg (stA a0 a1 a2 a3 m .nils pa), .agg (stA b0 b1 b2 b3 m' .nils pb)] [.b true, .b true, .b true, .b true, .b true, .cl [.row 1 m.length (rowI m), .row 1 m'.length (rowI m')] (.bool (eqI m m')) [], .b true, .b false, .b false, .b false, .b false, .b false, .b false] [] (.bool false) []) :=
  vc_of (q := cA7h1 a0 a1 a2 a3 b0 b1 b2 b3 ∧ cA7h1 a0 a1 a2 a3 b0 b1 b2 b3 ∧ cA7h1 a0 a1 a2 a3 b0 b1 b2 b3 ∧ cA7h1 a0 a1 a2 a3 b0 b1 b2 b3 ∧ cA7h1 a0 a1 a2 a3 b0 b1 b2 b3 ∧ (frA7h0 m m' (cA7h2 m m' ∧ cA7h1 a0 a1 a2 a3 b0 b1 b2 b3 ∧ (eqI m m' = false) ∧ (eqI m m' = false) ∧ (eqI m m' = false) ∧ (eqI m m' = false) ∧ (eqI m m' = false) ∧ (eqI m m' = false) ∧ (false = false) ∧ True))) (by kernel_rfl)
    ⟨h1,
 h1,
 h1,
 h1,
 h1, (frA7h0_mk m m' ⟨equalC (.row m) (.row m') hm hm',
 h1,
 (by first | exact h2 | exact h3),
 (by first | exact h2 | exact h3),
 (by first | exact h2 | exact h3),
 (by first | exact h2 | exact h3),
 (by first | exact h2 | exact h3),
 (by first | exact h2 | exact h3),
 rfl, trivial⟩)⟩
theorem s3_nn (a0 a1 a2 a3 pa b0 b1 b2 b3 pb : Int) (m m' : List Int) (hm : m.length < 1000000000) (hm' : m'.length < 1000000000) (h1 : regE a0 a1 a2 a3 b0 b1 b2 b3 = true) (h2 : eqI m m' = true) (h3 : eqI [] [] = false) : Vc (vcFn Try.prog false 28 [.agg (stA a0 a1 a2 a3 m .nils pa), .agg (stA b0 b1 b2 b3 m' .nils pb)] [.b true, .b true, .b true, .b true, .b true, .cl [.row 1 m.length (rowI m), .row 1 m'.length (rowI m')] (.bool (eqI m m')) [], .b true, .b true, .b true, .b true, .b true, .b true, .cl [.nils, .nils] (.bool (eqI [] [])) [], .b true, .b false, .b false, .b false, .b false, .b false, .b false] [] (.bool false) []) :=
  vc_of (q := cA7h1 a0 a1 a2 a3 b0 b1 b2 b3 ∧ cA7h1 a0 a1 a2 a3 b0 b1 b2 b3 ∧ cA7h1 a0 a1 a2 a3 b0 b1 b2 b3 ∧ cA7h1 a0 a1 a2 a3 b0 b1 b2 b3 ∧ cA7h1 a0 a1 a2 a3 b0 b1 b2 b3 ∧ (frA7h0 m m' (cA7h2 m m' ∧ cA7h1 a0 a1 a2 a3 b0 b1 b2 b3 ∧ (eqI m m' = true) ∧ (eqI m m' = true) ∧ (eqI m m' = true) ∧ (eqI m m' = true) ∧ (eqI m m' = true) ∧ (PureC Try.prog 37 [.nils, .nils] (.bool (eqI [] [])) []) ∧ (eqI m m' = true) ∧ (eqI [] [] = false) ∧ (eqI [] [] = false) ∧ (eqI [] [] = false) ∧ (eqI [] [] = false) ∧ (eqI [] [] = false) ∧ (eqI [] [] = false) ∧ (false = false) ∧ True))) (by kernel_rfl)
    ⟨h1,
 h1,
 h1,
 h1,
 h1, (frA7h0_mk m m' ⟨equalC (.row m) (.row m') hm hm',
 h1,
 (by first | exact h2 | exact h3),
 (by first | exact h2 | exact h3),
 (by first | exact h2 | exact h3),
 (by first | exact h2 | exact h3),
 (by first | exact h2 | exact h3),
 equalC .nil .nil (by simp) (by simp),
 (by first | exact h2 | exact h3),
 (by first | exact h2 | exact h3),
 (by first | exact h2 | exact h3),
 (by first | exact h2 | exact h3),
 (by first | exact h2 | exact h3),
 (by first | exact h2 | exact h3),
 (by first | exact h2 | exact h3),
 rfl, trivial⟩)⟩
theorem s4_nn (a0 a1 a2 a3 pa b0 b1 b2 b3 pb : Int) (m m' : List Int) (hm : m.length < 1000000000) (hm' : m'.length < 1000000000) (h1 : regE a0 a1 a2 a3 b0 b1 b2 b3 = true) (h2 : eqI m m' = true) (h3 : eqI [] [] = true) : Vc (vcFn Try.prog false 28 [.agg (stA a0 a1 a2 a3 m .nils pa), .agg (stA b0 b1 b2 b3 m' .nils pb)] [.b true, .b true, .b true, .b true, .b true, .cl [.row 1 m.length (rowI m), .row 1 m'.length (rowI m')] (.bool (eqI m m')) [], .b true, .b true, .b true, .b true, .b true, .b true, .cl [.nils, .nils] (.bool (eqI [] [])) [], .b true, .b true, .b true, .b true, .b true, .b true, .b true] [] (.bool (pa == pb)) []) :=
  vc_of (q := cA7h1 a0 a1 a2 a3 b0 b1 b2 b3 ∧ cA7h1 a0 a1 a2 a3 b0 b1 b2 b3 ∧ cA7h1 a0 a1 a2 a3 b0 b1 b2 b3 ∧ cA7h1 a0 a1 a2 a3 b0 b1 b2 b3 ∧ cA7h1 a0 a1 a2 a3 b0 b1 b2 b3 ∧ (frA7h0 m m' (cA7h2 m m' ∧ cA7h1 a0 a1 a2 a3 b0 b1 b2 b3 ∧ (eqI m m' = true) ∧ (eqI m m' = true) ∧ (eqI m m' = true) ∧ (eqI m m' = true) ∧ (eqI m m' = true) ∧ (PureC Try.prog 37 [.nils, .nils] (.bool (eqI [] [])) []) ∧ (eqI m m' = true) ∧ (eqI [] [] = true) ∧ (eqI [] [] = true) ∧ (eqI [] [] = true) ∧ (eqI [] [] = true) ∧ (eqI [] [] = true) ∧ (eqI [] [] = true) ∧ ((pa == pb) = (pa == pb)) ∧ True))) (by kernel_rfl)
    ⟨h1,
 h1,
 h1,
 h1,
 h1, (frA7h0_mk m m' ⟨equalC (.row m) (.row m') hm hm',
 h1,
 (by first | exact h2 | exact h3),
 (by first | exact h2 | exact h3),
 (by first | exact h2 | exact h3),
 (by first | exact h2 | exact h3),
 (by first | exact h2 | exact h3),
 equalC .nil .nil (by simp) (by simp),
 (by first | exact h2 | exact h3),
 (by first | exact h2 | exact h3),
 (by first | exact h2 | exact h3),
 (by first | exact h2 | exact h3),
 (by first | exact h2 | exact h3),
 (by first | exact h2 | exact h3),
 (by first | exact h2 | exact h3),
 rfl, trivial⟩)⟩
theorem same_nn (a0 a1 a2 a3 pa b0 b1 b2 b3 pb : Int) (m m' : List Int) (hm : m.length < 1000000000) (hm' : m'.length < 1000000000) : PureC Try.prog 28 [.agg (stA a0 a1 a2 a3 m .nils pa), .agg (stA b0 b1 b2 b3 m' .nils pb)] (.bool (sameB a0 a1 a2 a3 m [] pa b0 b1 b2 b3 m' [] pb)) [] := by
  unfold sameB
  cases h1 : regE a0 a1 a2 a3 b0 b1 b2 b3 with
  | false => exact PureC.vc (s1_nn a0 a1 a2 a3 pa b0 b1 b2 b3 pb m m' hm hm' h1)
  | true => cases h2 : eqI m m' with
    | false => exact PureC.vc (s2_nn a0 a1 a2 a3 pa b0 b1 b2 b3 pb m m' hm hm' h1 h2)
    | true => cases h3 : eqI [] [] with
      | false => exact PureC.vc (s3_nn a0 a1 a2 a3 pa b0 b1 b2 b3 pb m m' hm hm' h1 h2 h3)
      | true => exact PureC.vc (s4_nn a0 a1 a2 a3 pa b0 b1 b2 b3 pb m m' hm hm' h1 h2 h3)
end Go.Proofs.Ytdbnfdcjibgikaa.Px
