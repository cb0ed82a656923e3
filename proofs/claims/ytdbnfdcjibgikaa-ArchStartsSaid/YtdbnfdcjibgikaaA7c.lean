/- What is free at the beginning, as the program has it. -/
import Derived.Test.YtdbnfdcjibgikaaA7b
set_option linter.unusedVariables false
set_option linter.unusedSimpArgs false
set_option maxRecDepth 100000
namespace Go.Proofs.Ytdbnfdcjibgikaa.Px
open Go.RowKit Go.Proofs.Ytdbnfdcjibgikaa.Rx
theorem ap_vc (W r0 r1 r2 r3 : Int) (ms : List Mm) (h64 : ms.length < 4611686018427387904) (hs : sumN ms ≤ 16) : Vc (vcFn Try.prog false 7 [.agg (progL W r0 r1 r2 r3 (memR ms))] [.cl [.agg (progL W r0 r1 r2 r3 (memR ms))] (.own 0 0 3 0 (regL (rg r0 r1 r2 r3) 4).length) [plB (regL (rg r0 r1 r2 r3) 4)], .cl [.agg (progL W r0 r1 r2 r3 (memR ms))] (.own 0 0 3 0 (memL 0 ms).length) [plB (memL 0 ms)]] [(0, 1)] (.own 0 0 3 0 ((regL (rg r0 r1 r2 r3) 4) ++ memL 0 ms).length) [plB ((regL (rg r0 r1 r2 r3) 4) ++ memL 0 ms)]) :=
  vc_of (q := (W = W) ∧ (r0 = r0) ∧ (r1 = r1) ∧ (r2 = r2) ∧ (r3 = r3) ∧ (List.length ms = List.length ms) ∧ (∀ (i : Nat),
  i < List.length ms →
    ∀ (j : Nat),
      j < (3 : Nat) →
        rowL mmC ms i j =
          rowL mmC ms i j) ∧ (PureC Try.prog 17 [.agg (progL W r0 r1 r2 r3 (memR ms))] (.own 0 0 3 0 (regL (rg r0 r1 r2 r3) 4).length) [plB (regL (rg r0 r1 r2 r3) 4)]) ∧ (W = W) ∧ (r0 = r0) ∧ (r1 = r1) ∧ (r2 = r2) ∧ (r3 = r3) ∧ (List.length ms = List.length ms) ∧ (∀ (i : Nat),
  i < List.length ms →
    ∀ (j : Nat),
      j < (3 : Nat) →
        rowL mmC ms i j =
          rowL mmC ms i j) ∧ (PureC Try.prog 18 [.agg (progL W r0 r1 r2 r3 (memR ms))] (.own 0 0 3 0 (memL 0 ms).length) [plB (memL 0 ms)]) ∧ ((0 : Nat) = (0 : Nat) ∧
  List.length (regL (rg r0 r1 r2 r3) (4 : Nat)) =
      List.length (regL (rg r0 r1 r2 r3) (4 : Nat)) ∧
    (List.length (regL (rg r0 r1 r2 r3) (4 : Nat)) +
            List.length (memL (0 : Nat) ms)) *
          (24 : Nat) ≤
        (140737488355328 : Nat) ∧
      List.length (regL (rg r0 r1 r2 r3) (4 : Nat)) +
          List.length (memL (0 : Nat) ms) ≤
        (140737488355328 : Nat)) ∧ (List.length (regL (rg r0 r1 r2 r3) (4 : Nat)) +
    List.length (memL (0 : Nat) ms) =
  List.length
    (regL (rg r0 r1 r2 r3) (4 : Nat) ++
      memL (0 : Nat) ms)) ∧ (∀ (i : Nat),
  i <
      List.length (regL (rg r0 r1 r2 r3) (4 : Nat)) +
        List.length (memL (0 : Nat) ms) →
    ∀ (j : Nat),
      j < (3 : Nat) →
        (bif
              Nat.blt i
                (List.length
                  (regL (rg r0 r1 r2 r3) (4 : Nat))) then
            rowL plC
              (regL (rg r0 r1 r2 r3) (4 : Nat)) i j
          else
            rowL plC
              (memL (0 : Nat) ms)
              (i -
                  List.length
                    (regL (rg r0 r1 r2 r3) (4 : Nat)) +
                (0 : Nat))
              j) =
          rowL plC
            (regL (rg r0 r1 r2 r3) (4 : Nat) ++
              memL (0 : Nat) ms)
            i j) ∧ ((0 : Nat) = (0 : Nat)) ∧ (List.length (regL (rg r0 r1 r2 r3) (4 : Nat)) +
    List.length (memL (0 : Nat) ms) =
  List.length
    (regL (rg r0 r1 r2 r3) (4 : Nat) ++
      memL (0 : Nat) ms)) ∧ True) (by kernel_rfl)
    ⟨rfl,
     rfl,
     rfl,
     rfl,
     rfl,
     rfl,
     (fun _ _ _ _ => rfl),
     archRegs W r0 r1 r2 r3 ms,
     rfl,
     rfl,
     rfl,
     rfl,
     rfl,
     rfl,
     (fun _ _ _ _ => rfl),
     archCels W r0 r1 r2 r3 ms h64 hs,
     ⟨rfl, rfl, by have := regL_le (rg r0 r1 r2 r3) 4; rw [memL_length]; omega, by have := regL_le (rg r0 r1 r2 r3) 4; rw [memL_length]; omega⟩,
     List.length_append.symm,
     (fun i hi j hj => row_if (fun h => (rowL_left h).symm) (fun h => (rowL_right h).symm)),
     rfl,
     List.length_append.symm,
     trivial⟩
theorem archPlaces (W r0 r1 r2 r3 : Int) (ms : List Mm) (h64 : ms.length < 4611686018427387904) (hs : sumN ms ≤ 16) : PureC Try.prog 7 [.agg (progL W r0 r1 r2 r3 (memR ms))] (.own 0 0 3 0 (places (rg r0 r1 r2 r3) ms).length) [plB (places (rg r0 r1 r2 r3) ms)] := PureC.vc (ap_vc W r0 r1 r2 r3 ms h64 hs)
end Go.Proofs.Ytdbnfdcjibgikaa.Px
