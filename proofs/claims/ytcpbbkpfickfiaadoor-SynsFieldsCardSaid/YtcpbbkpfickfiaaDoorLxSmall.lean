/- Contracts of lexr's blank, letter, digit, letterOrDigit, single and cut. -/
import Derived.Test.YtcpbbkpfickfiaaDoorLxTok
import Derived.Test.YtcpbbkpfickfiaaDoorRetW
set_option linter.unusedVariables false
set_option linter.unusedSimpArgs false
namespace Go.Proofs.YtcpbbkpfickfiaaDoor
open Go.RowKit
theorem letter_any (c : Int) (w : World) : Calls Tryd.prog 45 #[.int .i32 c] w (Ret (.bool (Lx.lower c)) w) := by
  have key : (97 ≤ c ∧ c ≤ 122 ∧ Lx.lower c = true) ∨ (c < 97 ∧ Lx.lower c = false) ∨ (97 ≤ c ∧ 122 < c ∧ Lx.lower c = false) := by unfold Lx.lower; simp; omega
  rcases key with ⟨h1, h2, h3⟩ | ⟨h1, h3⟩ | ⟨h1, h2, h3⟩
  all_goals
    rw [h3]
    clear h3
    go_enter Tryd.func45, Tryd.ntmps45
    go_wp2
    all_goals first | (exfalso; omega) | skip
    all_goals
      go_ret
      exact ⟨by first | rfl | (simp; omega), rfl⟩
theorem digit_any (c : Int) (w : World) : Calls Tryd.prog 49 #[.int .i32 c] w (Ret (.bool (Lx.dig c)) w) := by
  have key : (48 ≤ c ∧ c ≤ 57 ∧ Lx.dig c = true) ∨ (c < 48 ∧ Lx.dig c = false) ∨ (48 ≤ c ∧ 57 < c ∧ Lx.dig c = false) := by unfold Lx.dig; simp; omega
  rcases key with ⟨h1, h2, h3⟩ | ⟨h1, h3⟩ | ⟨h1, h2, h3⟩
  all_goals
    rw [h3]
    clear h3
    go_enter Tryd.func49, Tryd.ntmps49
    go_wp2
    all_goals first | (exfalso; omega) | skip
    all_goals
      go_ret
      exact ⟨by first | rfl | (simp; omega), rfl⟩
theorem blank_any (c : Int) (w : World) : Calls Tryd.prog 28 #[.int .i32 c] w (Ret (.bool (Lx.blank c)) w) := by
  have key : (c = 32 ∧ Lx.blank c = true) ∨ (c ≠ 32 ∧ c = 9 ∧ Lx.blank c = true) ∨ (c ≠ 32 ∧ c ≠ 9 ∧ Lx.blank c = false) := by unfold Lx.blank; simp; omega
  rcases key with ⟨h1, h3⟩ | ⟨h1, h2, h3⟩ | ⟨h1, h2, h3⟩
  all_goals
    rw [h3]
    clear h3
    go_enter Tryd.func28, Tryd.ntmps28
    go_wp2
    all_goals first | (exfalso; omega) | skip
    all_goals
      go_ret
      exact ⟨by first | rfl | (simp; omega), rfl⟩
theorem lod_any (c : Int) (w : World) : Calls Tryd.prog 48 #[.int .i32 c] w (Ret (.bool (Lx.word c)) w) := by
  unfold Lx.word
  cases h1 : Lx.lower c
  · cases h2 : Lx.dig c
    all_goals
      go_enter Tryd.func48, Tryd.ntmps48
      go_wp2_with (first
        | (go_at_call 45; refine (letter_any _ _).mono ?_; rintro e w' ⟨rfl, rfl⟩; rw [h1])
        | (go_at_call 49; refine (digit_any _ _).mono ?_; rintro e w' ⟨rfl, rfl⟩; rw [h2]))
      go_ret
      exact ⟨rfl, rfl⟩
  · go_enter Tryd.func48, Tryd.ntmps48
    go_wp2_with (go_at_call 45; refine (letter_any _ _).mono ?_; rintro e w' ⟨rfl, rfl⟩; rw [h1])
    go_ret
    exact ⟨rfl, rfl⟩
theorem single_any (c : Int) (w : World) : Calls Tryd.prog 50 #[.int .i32 c] w (Ret (.bool (Lx.sgn c)) w) := by
  have key : (c = 44 ∧ Lx.sgn c = true) ∨ (c = 58 ∧ Lx.sgn c = true) ∨ (c = 91 ∧ Lx.sgn c = true) ∨ (c = 93 ∧ Lx.sgn c = true) ∨ (c = 43 ∧ Lx.sgn c = true) ∨ (c ≠ 44 ∧ c ≠ 58 ∧ c ≠ 91 ∧ c ≠ 93 ∧ c ≠ 43 ∧ Lx.sgn c = false) := by unfold Lx.sgn; simp; omega
  rcases key with ⟨h1, h3⟩ | ⟨h1, h3⟩ | ⟨h1, h3⟩ | ⟨h1, h3⟩ | ⟨h1, h3⟩ | ⟨h1, h2, h4, h5, h6, h3⟩
  all_goals
    rw [h3]
    clear h3
    try subst h1
    go_enter Tryd.func50, Tryd.ntmps50
    go_wp2
    all_goals first | (exfalso; omega) | skip
    all_goals
      go_ret
      exact ⟨by first | rfl | (simp; omega), rfl⟩
/-- a sign as it lies in a variable -/
abbrev tokA (k : Int) (t : ByteArray) (n a : Int) : Value := .agg #[.int .i64 k, .string t, .int .i64 n, .int .i64 a]
theorem cut_any (k : Int) (t : ByteArray) (n a : Int) (k' : Int) (t' : ByteArray) (n' a' : Int) (w : World) :
    Calls Tryd.prog 30 #[tokA k t n a, tokA k' t' n' a'] w (RetB (.bool (decide (k = 2) && decide (k' ≠ 3))) w) := by
  by_cases h1 : k = 2
  · by_cases h2 : k' = 3
    all_goals
      go_enter Tryd.func30, Tryd.ntmps30
      go_wp2
      go_ret
      exact RetB.b rfl (by simp [h1, h2]) (by repeat (first | exact up0 _ | apply upA))
  · go_enter Tryd.func30, Tryd.ntmps30
    go_wp2
    go_ret
    exact RetB.b rfl (by simp [h1]) (by repeat (first | exact up0 _ | apply upA))
end Go.Proofs.YtcpbbkpfickfiaaDoor
