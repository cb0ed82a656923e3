/- The contract of the statements' own check of what the document fixes (augurylaw1.awake): it is true. -/
import Derived.Test.YthoolemphjingaaWord
set_option linter.unusedVariables false
set_option linter.unusedSimpArgs false
namespace Go.Proofs.Ythoolemphjingaa
open Go.RowKit
theorem awake1 (w : World) : Calls Try.prog 13 #[] w (Ret (.bool true) w) := by
  have e1 : Wd.doV 2 1 3 2 = 1 := by decide
  have e2 : Wd.doV 3 6 3 2 = 4 := by decide
  have e3 : Wd.doV 16 8 300 300 = 24464 := by decide
  have e4 : Wd.doB 2 1 = true := by decide
  have e5 : Wd.doB 3 6 = true := by decide
  have e6 : Wd.doB 16 8 = true := by decide
  have e7 : Wd.doB 0 1 = false := by decide
  have e8 : Wd.maskV 2 (-1) = 3 := by decide
  have e9 : Wd.sizeV 16 = 65536 := by decide
  have e10 : Wd.okB 17 = false := by decide
  go_enter Try.func13, Try.ntmps13
  go_wp2_with (first | (go_at_call 11; refine (do_any _ _ _ _ _).mono ?_; rintro e w' ⟨rfl, rfl⟩) | (go_at_call 12; refine (mask_any _ _ _).mono ?_; rintro e w' ⟨rfl, rfl⟩) | (go_at_call 14; refine (size_any _ _).mono ?_; rintro e w' ⟨rfl, rfl⟩) | (go_at_call 10; refine (ok_any _ _).mono ?_; rintro e w' ⟨rfl, rfl⟩))
  go_ret
  exact Ret.b rfl rfl
end Go.Proofs.Ythoolemphjingaa
