/- Merged: S8zj. -/
import Derived.Test.YtjdiabjmphdhiaaMiE
import Derived.Test.YtjdiabjmphdhiaaMiF
import Derived.Test.YtjdiabjmphdhiaaMiG
set_option linter.unusedVariables false
set_option linter.unusedSimpArgs false
set_option maxRecDepth 100000
namespace Go.Proofs.Ytjdiabjmphdhiaa.Px
section
open Go.RowKit Go.Proofs.Ytjdiabjmphdhiaa.Rx
theorem formsC (w : Int) : PureC Try.prog 4 [.int .i64 w] (.bool true) [] := by
  have hb := tmBd (and255 w).1 (show (0 : Int) < 17 by decide)
  obtain ⟨k, hk, hq⟩ : ∃ k : Nat, k < 17 ∧ (bits .and .i64 w 255).tmod 17 = k := ⟨((bits .and .i64 w 255).tmod 17).toNat, by omega, by omega⟩
  match k, hk, hq with
  | 0, _, hq => exact PureC.vc (fm_0 w hq (stF ⟨⟨by decide, by decide⟩, fun h => by first | exact absurd h (by decide) | exact ⟨by decide, by decide⟩, fun h => by first | exact absurd h (by decide) | exact ⟨by decide, by decide⟩, ⟨by decide, by decide⟩, by decide, by decide⟩ (by kernel_rfl)) (soC _ (by decide)))
  | 1, _, hq => exact PureC.vc (fm_1 w hq (stF ⟨⟨by decide, by decide⟩, fun h => by first | exact absurd h (by decide) | exact ⟨by decide, by decide⟩, fun h => by first | exact absurd h (by decide) | exact ⟨by decide, by decide⟩, ⟨by decide, by decide⟩, by decide, by decide⟩ (by kernel_rfl)) (soC _ (by decide)))
  | 2, _, hq => exact PureC.vc (fm_2 w hq (stF ⟨⟨by decide, by decide⟩, fun h => by first | exact absurd h (by decide) | exact ⟨by decide, by decide⟩, fun h => by first | exact absurd h (by decide) | exact ⟨by decide, by decide⟩, ⟨by decide, by decide⟩, by decide, by decide⟩ (by kernel_rfl)) (soC _ (by decide)))
  | 3, _, hq => exact PureC.vc (fm_3 w hq (stF ⟨⟨by decide, by decide⟩, fun h => by first | exact absurd h (by decide) | exact ⟨by decide, by decide⟩, fun h => by first | exact absurd h (by decide) | exact ⟨by decide, by decide⟩, ⟨by decide, by decide⟩, by decide, by decide⟩ (by kernel_rfl)) (soC _ (by decide)))
  | 4, _, hq => exact PureC.vc (fm_4 w hq (stF ⟨⟨by decide, by decide⟩, fun h => by first | exact absurd h (by decide) | exact ⟨by decide, by decide⟩, fun h => by first | exact absurd h (by decide) | exact ⟨by decide, by decide⟩, ⟨by decide, by decide⟩, by decide, by decide⟩ (by kernel_rfl)) (soC _ (by decide)))
  | 5, _, hq => exact PureC.vc (fm_5 w hq (stF ⟨⟨by decide, by decide⟩, fun h => by first | exact absurd h (by decide) | exact ⟨by decide, by decide⟩, fun h => by first | exact absurd h (by decide) | exact ⟨by decide, by decide⟩, ⟨by decide, by decide⟩, by decide, by decide⟩ (by kernel_rfl)) (soC _ (by decide)))
  | 6, _, hq => exact PureC.vc (fm_6 w hq (stF ⟨⟨by decide, by decide⟩, fun h => by first | exact absurd h (by decide) | exact ⟨by decide, by decide⟩, fun h => by first | exact absurd h (by decide) | exact ⟨by decide, by decide⟩, ⟨by decide, by decide⟩, by decide, by decide⟩ (by kernel_rfl)) (soC _ (by decide)))
  | 7, _, hq => exact PureC.vc (fm_7 w hq (stF ⟨⟨by decide, by decide⟩, fun h => by first | exact absurd h (by decide) | exact ⟨by decide, by decide⟩, fun h => by first | exact absurd h (by decide) | exact ⟨by decide, by decide⟩, ⟨by decide, by decide⟩, by decide, by decide⟩ (by kernel_rfl)) (soC _ (by decide)))
  | 8, _, hq => exact PureC.vc (fm_8 w hq (stF ⟨⟨by decide, by decide⟩, fun h => by first | exact absurd h (by decide) | exact ⟨by decide, by decide⟩, fun h => by first | exact absurd h (by decide) | exact ⟨by decide, by decide⟩, ⟨by decide, by decide⟩, by decide, by decide⟩ (by kernel_rfl)) (soC _ (by decide)))
  | 9, _, hq => exact PureC.vc (fm_9 w hq (stF ⟨⟨by decide, by decide⟩, fun h => by first | exact absurd h (by decide) | exact ⟨by decide, by decide⟩, fun h => by first | exact absurd h (by decide) | exact ⟨by decide, by decide⟩, ⟨by decide, by decide⟩, by decide, by decide⟩ (by kernel_rfl)) (soC _ (by decide)))
  | 10, _, hq => exact PureC.vc (fm_10 w hq (stF ⟨⟨by decide, by decide⟩, fun h => by first | exact absurd h (by decide) | exact ⟨by decide, by decide⟩, fun h => by first | exact absurd h (by decide) | exact ⟨by decide, by decide⟩, ⟨by decide, by decide⟩, by decide, by decide⟩ (by kernel_rfl)) (soC _ (by decide)))
  | 11, _, hq => exact PureC.vc (fm_11 w hq (stF ⟨⟨by decide, by decide⟩, fun h => by first | exact absurd h (by decide) | exact ⟨by decide, by decide⟩, fun h => by first | exact absurd h (by decide) | exact ⟨by decide, by decide⟩, ⟨by decide, by decide⟩, by decide, by decide⟩ (by kernel_rfl)) (soC _ (by decide)))
  | 12, _, hq => exact PureC.vc (fm_12 w hq (stF ⟨⟨by decide, by decide⟩, fun h => by first | exact absurd h (by decide) | exact ⟨by decide, by decide⟩, fun h => by first | exact absurd h (by decide) | exact ⟨by decide, by decide⟩, ⟨by decide, by decide⟩, by decide, by decide⟩ (by kernel_rfl)) (soC _ (by decide)))
  | 13, _, hq => exact PureC.vc (fm_13 w hq (stF ⟨⟨by decide, by decide⟩, fun h => by first | exact absurd h (by decide) | exact ⟨by decide, by decide⟩, fun h => by first | exact absurd h (by decide) | exact ⟨by decide, by decide⟩, ⟨by decide, by decide⟩, by decide, by decide⟩ (by kernel_rfl)) (soC _ (by decide)))
  | 14, _, hq => exact PureC.vc (fm_14 w hq (stF ⟨⟨by decide, by decide⟩, fun h => by first | exact absurd h (by decide) | exact ⟨by decide, by decide⟩, fun h => by first | exact absurd h (by decide) | exact ⟨by decide, by decide⟩, ⟨by decide, by decide⟩, by decide, by decide⟩ (by kernel_rfl)) (soC _ (by decide)))
  | 15, _, hq => exact PureC.vc (fm_15 w hq (stF ⟨⟨by decide, by decide⟩, fun h => by first | exact absurd h (by decide) | exact ⟨by decide, by decide⟩, fun h => by first | exact absurd h (by decide) | exact ⟨by decide, by decide⟩, ⟨by decide, by decide⟩, by decide, by decide⟩ (by kernel_rfl)) (soC _ (by decide)))
  | 16, _, hq => exact PureC.vc (fm_16 w hq (stF ⟨⟨by decide, by decide⟩, fun h => by first | exact absurd h (by decide) | exact ⟨by decide, by decide⟩, fun h => by first | exact absurd h (by decide) | exact ⟨by decide, by decide⟩, ⟨by decide, by decide⟩, by decide, by decide⟩ (by kernel_rfl)) (soC _ (by decide)))
  | k + 17, hk, _ => exact absurd hk (by omega)
theorem walk_SeqmForms (a0 : Int) (W : World) : Calls Try.prog 4 #[.int .i64 a0] W (RetB (.bool true) W) :=
  (formsC a0).lawB (R := fun g => g < W.heap.size) (fun _ h => h) rfl (fun j x v hx hv => match j, hx, hv with
    | 0, rfl, rfl => .int _ _)
end
end Go.Proofs.Ytjdiabjmphdhiaa.Px
