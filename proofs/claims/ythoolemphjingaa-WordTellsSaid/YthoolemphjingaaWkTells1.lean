/- The walk of WordTells: it answers true, whatever it is given. -/
import Derived.Test.YthoolemphjingaaRef1
import Derived.Test.YthoolemphjingaaAwake1
set_option linter.unusedVariables false
set_option linter.unusedSimpArgs false
namespace Go.Proofs.Ythoolemphjingaa
open Go.RowKit
set_option maxRecDepth 100000 in
set_option maxHeartbeats 1000000 in
theorem walk_WordTells (w0 op0 a0 b0 : Int) (w : World) : Calls Try.prog 7 #[.int .i64 w0, .int .i64 op0, .int .i64 a0, .int .i64 b0] w (Ret (.bool true) w) := by
  go_enter Try.func7, Try.ntmps7
  go_wp2
  go_loop [0, 1, 2, 3, 9] (fun v0 v1 v2 v3 v9 => ∃ (k : Nat) (n op a b : Int), k ≤ 3 ∧ v0 = .int .i64 n ∧ v1 = .int .i64 op ∧ v2 = .int .i64 a ∧ v3 = .int .i64 b ∧ v9 = .int .i64 k) (fun _ _ _ _ v9 => 3 - (intOf v9).toNat)
  case atStart => exact ⟨0, w0, op0, a0, b0, by omega, rfl, rfl, rfl, rfl, rfl⟩
  case round =>
    obtain ⟨k, n, op, a, b, hk, rfl, rfl, rfl, rfl, rfl⟩ := hrel
    by_cases hlt : k < 3
    · by_cases h1 : 1 ≤ n
      all_goals by_cases h2 : n ≤ 16
      all_goals
        have hok : Wd.okB n = (decide (1 ≤ n) && decide (n ≤ 16)) := rfl
        first | rw [decide_eq_true h1] at hok | rw [decide_eq_false h1] at hok
        first | rw [decide_eq_true h2] at hok | rw [decide_eq_false h2] at hok
        simp only [Bool.true_and, Bool.false_and] at hok
        go_wp2_with (first | (go_at_call 11; refine (do_any _ _ _ _ _).mono ?_; rintro e w' ⟨rfl, rfl⟩) | (go_at_call 15; refine (rdo_any _ _ _ _ _).mono ?_; rintro e w' ⟨rfl, rfl⟩) | (go_at_call 12; refine (mask_any _ _ _).mono ?_; rintro e w' ⟨rfl, rfl⟩) | (go_at_call 16; refine (rmask_any _ _ _).mono ?_; rintro e w' ⟨rfl, rfl⟩)| (go_at_call 14; refine (size_any _ _).mono ?_; rintro e w' ⟨rfl, rfl⟩) | (go_at_call 17; refine (rsize_any _ _).mono ?_; rintro e w' ⟨rfl, rfl⟩) | (go_at_call 10; refine (ok_any _ _).mono ?_; rintro e w' ⟨rfl, rfl⟩))
        all_goals
          go_round
          case rel => exact ⟨k + 1, _, _, _, _, by omega, rfl, rfl, rfl, rfl, by go_num⟩
          case measure => simp [intOf]; omega
    · go_wp2_with (go_at_call 13; refine (awake1 _).mono ?_; rintro e w' ⟨rfl, rfl⟩)
      go_ret
      exact Ret.b rfl rfl
end Go.Proofs.Ythoolemphjingaa
