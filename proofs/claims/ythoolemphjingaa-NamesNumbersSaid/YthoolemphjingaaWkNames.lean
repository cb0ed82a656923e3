/- The walk of NamesNumbers: it answers true. -/
import Derived.Test.YthoolemphjingaaWord
import Derived.Deep.QuietTactic
import Derived.BigQuiet
set_option linter.unusedVariables false
set_option linter.unusedSimpArgs false
namespace Go.Proofs.Ythoolemphjingaa
open Go.RowKit
/-- the kinds' numbers, as the row has them -/
def nmL : List Int := [1, 2, 3, 4, 5, 6, 7, 8, 9, 10, 1, 2, 3, 0, 1, 2, 3, 4, 5, 6, 7, 1, 2, 3, 4, 5, 6, 7, 8, 9, 10, 11, 12, 1, 2, 1, 2, 3, 1, 2, 3, 4, 1, 2, 3]
def nmRow : Array Value := (nmL.flatMap fun n => [Value.int .i64 n, Value.int .i64 n]).toArray
def nmObj : Obj := .cells nmRow 25
def AllPost (w : World) (e : Ending) (w' : World) : Prop := e = .returned (.slice (some ⟨w.heap.size, 0, none⟩) 45 45) ∧ w.alloc nmObj = w'
set_option maxRecDepth 100000 in
set_option maxHeartbeats 20000000 in
theorem all_any (w : World) : Calls Try.prog 9 #[] w (AllPost w) := by
  go_enter Try.func9, Try.ntmps9
  go_wp2_with fail
  go_ret
  exact ⟨by kernel_rfl, by kernel_rfl⟩
theorem nm_get (k : Nat) (h : k < 45) : nmRow[2 * k]? = some (.int .i64 (nmL.getD k 0)) ∧ nmRow[2 * k + 1]? = some (.int .i64 (nmL.getD k 0)) := by
  have key : ∀ (l : List Int) (k : Nat), k < l.length → (l.flatMap fun n => [Value.int .i64 n, Value.int .i64 n])[2 * k]? = some (Value.int .i64 (l.getD k 0)) ∧ (l.flatMap fun n => [Value.int .i64 n, Value.int .i64 n])[2 * k + 1]? = some (Value.int .i64 (l.getD k 0)) := by
    intro l
    induction l with
    | nil => intro k h; simp at h
    | cons n l ih =>
      intro k h
      cases k with
      | zero => simp
      | succ k =>
        have := ih k (by simpa using h)
        rw [show 2 * (k + 1) = 2 * k + 1 + 1 by omega]
        simpa using this
  have := key nmL k (by simpa [nmL] using h)
  simpa [nmRow] using this
theorem nm_cell (w : World) (k : Nat) (h : k < 45) : (w.alloc nmObj).cell? ⟨w.heap.size, k * 2, none⟩ = some (.int .i64 (nmL.getD k 0)) ∧ (w.alloc nmObj).cell? ⟨w.heap.size, k * 2 + 1, none⟩ = some (.int .i64 (nmL.getD k 0)) := by
  have g := nm_get k h
  have e : 2 * k = k * 2 := by omega
  rw [e] at g
  have h1 : (w.alloc nmObj).heap[w.heap.size]? = some nmObj := by
    show (w.heap.push nmObj)[w.heap.size]? = _
    simp
  simp only [World.cell?, h1]
  simp [nmObj, g.1, g.2]
set_option maxRecDepth 100000 in
set_option maxHeartbeats 2000000 in
theorem walk_Names (w : World) : Calls Try.prog 3 #[] w (RetG (.bool true) w) := by
  have o1 : Wd.okB 1 = true := by decide
  have o2 : Wd.okB 0 = false := by decide
  go_enter Try.func3, Try.ntmps3
  go_wp2_with (go_at_call 9; refine (all_any _).mono ?_; rintro e w' ⟨rfl, rfl⟩)
  go_loopw [2] (fun v wr => ∃ k n : Nat, k ≤ 45 ∧ v = .int .i64 k ∧ wr = (w.alloc nmObj).drewN n) (fun v _ => 45 - (intOf v).toNat)
  case atStart => exact ⟨0, 0, by omega, rfl, rfl⟩
  case round =>
    obtain ⟨k, n, hk, rfl, rfl⟩ := hrel
    by_cases hlt : k < 45
    · have c1 := (nm_cell w k hlt).1
      have c2 := (nm_cell w k hlt).2
      go_wp2_with fail
      go_quiet (fail)
      go_wp2_with fail
      go_roundw
      case rel => exact ⟨k + 1, _, by omega, by go_num, rfl⟩
      case measure => simp [intOf]; omega
    · go_wp2_with (go_at_call 10; refine (ok_any _ _).mono ?_; rintro e w' ⟨rfl, rfl⟩)
      go_ret
      exact RetG.b rfl rfl (by show Grown w (w.alloc nmObj); exact (Grown.refl _).alloc _ _)
end Go.Proofs.Ythoolemphjingaa
