/- Three plain facts toward the walks of SynsFields. -/
import Derived.Test.YtcpbbkpfickfiaaDoorSnFdA
namespace Go.Proofs.YtcpbbkpfickfiaaDoor
open Go.RowKit
theorem mod_of (x m : Int) (hm : 0 < m) : ∃ q : Nat, (q : Int) < m ∧ (bits .and .i64 x 255) % m = q :=
  ⟨((bits .and .i64 x 255) % m).toNat, by have h1 := Int.emod_nonneg (bits .and .i64 x 255) (show m ≠ 0 by omega); have h2 := Int.emod_lt_of_pos (bits .and .i64 x 255) hm; omega, by have h1 := Int.emod_nonneg (bits .and .i64 x 255) (show m ≠ 0 by omega); omega⟩
theorem and3_of (x : Int) : ∃ q : Nat, q < 4 ∧ bits .and .i64 x 3 = q :=
  ⟨(x % 4).toNat, by omega, by have := Wd.bits_mask x 2 (by omega); rw [show (3 : Int) = 2 ^ 2 - 1 from rfl, this]; omega⟩
theorem and255_nn (x : Int) : 0 ≤ bits .and .i64 x 255 := by have := Wd.bits_mask x 8 (by omega); rw [show (255 : Int) = 2 ^ 8 - 1 from rfl, this]; omega
end Go.Proofs.YtcpbbkpfickfiaaDoor
