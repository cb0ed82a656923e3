/- The walk of WordEnds: it answers true, whatever it is given. -/
import Derived.Test.YthoolemphjingaaAwake1
import Derived.Deep.QuietTactic
import Derived.BigQuiet
set_option linter.unusedVariables false
set_option linter.unusedSimpArgs false
namespace Go.Proofs.Ythoolemphjingaa
open Go.RowKit
/-- the row's columns -/
def enL : List (List Int) := [[1, 1, 1, 1, 1, 2, 2, 2, 2, 2, 16, 16, 16, 16, 16, 16, 16, 3, 4, 4], [1, 2, 8, 6, 7, 6, 6, 9, 9, 9, 1, 2, 8, 8, 7, 6, 5, 10, 3, 4], [1, 0, 1, 1, 1, 3, 3, 3, 0, -1, 65535, 0, 65535, 256, 65535, 1, 65535, 9, -1, 8], [1, 1, 1, 1, 0, 1, 2, 0, 3, 0, 1, 65535, 65535, 256, 15, 15, 43690, 1, 6, 23], [0, 1, 1, 0, 1, 2, 0, 0, 1, 0, 0, 1, 1, 0, 1, 32768, 21845, 1, 6, 15]]
def en (j q : Nat) : Int := (enL.getD j []).getD q 0
theorem en_ok (q : Nat) (h : q < 20) : Wd.doV (en 0 q) (en 1 q) (en 2 q) (en 3 q) = en 4 q ∧ Wd.doB (en 0 q) (en 1 q) = true := by
  have : ∀ q, q < 20 → Wd.doV (en 0 q) (en 1 q) (en 2 q) (en 3 q) = en 4 q ∧ Wd.doB (en 0 q) (en 1 q) = true := by decide +kernel
  exact this q h
abbrev enRow : Array Value := #[.int .i64 1, .int .i64 1, .int .i64 1, .int .i64 1, .int .i64 0, .int .i64 1, .int .i64 2, .int .i64 0, .int .i64 1, .int .i64 1, .int .i64 1, .int .i64 8, .int .i64 1, .int .i64 1, .int .i64 1, .int .i64 1, .int .i64 6, .int .i64 1, .int .i64 1, .int .i64 0, .int .i64 1, .int .i64 7, .int .i64 1, .int .i64 0, .int .i64 1, .int .i64 2, .int .i64 6, .int .i64 3, .int .i64 1, .int .i64 2, .int .i64 2, .int .i64 6, .int .i64 3, .int .i64 2, .int .i64 0, .int .i64 2, .int .i64 9, .int .i64 3, .int .i64 0, .int .i64 0, .int .i64 2, .int .i64 9, .int .i64 0, .int .i64 3, .int .i64 1, .int .i64 2, .int .i64 9, .int .i64 (-1), .int .i64 0, .int .i64 0, .int .i64 16, .int .i64 1, .int .i64 65535, .int .i64 1, .int .i64 0, .int .i64 16, .int .i64 2, .int .i64 0, .int .i64 65535, .int .i64 1, .int .i64 16, .int .i64 8, .int .i64 65535, .int .i64 65535, .int .i64 1, .int .i64 16, .int .i64 8, .int .i64 256, .int .i64 256, .int .i64 0, .int .i64 16, .int .i64 7, .int .i64 65535, .int .i64 15, .int .i64 1, .int .i64 16, .int .i64 6, .int .i64 1, .int .i64 15, .int .i64 32768, .int .i64 16, .int .i64 5, .int .i64 65535, .int .i64 43690, .int .i64 21845, .int .i64 3, .int .i64 10, .int .i64 9, .int .i64 1, .int .i64 1, .int .i64 4, .int .i64 3, .int .i64 (-1), .int .i64 6, .int .i64 6, .int .i64 4, .int .i64 4, .int .i64 8, .int .i64 23, .int .i64 15]
theorem en_get (q : Nat) (h : q < 20) : enRow[q * 5]? = some (.int .i64 (en 0 q)) ∧ enRow[q * 5 + 1]? = some (.int .i64 (en 1 q)) ∧ enRow[q * 5 + 2]? = some (.int .i64 (en 2 q)) ∧ enRow[q * 5 + 3]? = some (.int .i64 (en 3 q)) ∧ enRow[q * 5 + 4]? = some (.int .i64 (en 4 q)) := by
  rcases (by omega : q = 0 ∨ q = 1 ∨ q = 2 ∨ q = 3 ∨ q = 4 ∨ q = 5 ∨ q = 6 ∨ q = 7 ∨ q = 8 ∨ q = 9 ∨ q = 10 ∨ q = 11 ∨ q = 12 ∨ q = 13 ∨ q = 14 ∨ q = 15 ∨ q = 16 ∨ q = 17 ∨ q = 18 ∨ q = 19) with rfl | rfl | rfl | rfl | rfl | rfl | rfl | rfl | rfl | rfl | rfl | rfl | rfl | rfl | rfl | rfl | rfl | rfl | rfl | rfl
  all_goals exact ⟨rfl, rfl, rfl, rfl, rfl⟩
theorem en_cell (w : World) (q : Nat) (h : q < 20) (j : Nat) (hj : j < 5) : (w.alloc (.cells enRow 34)).cell? ⟨w.heap.size, q * 5 + j, none⟩ = some (.int .i64 (en j q)) := by
  have g := en_get q h
  have h1 : (w.alloc (.cells enRow 34)).heap[w.heap.size]? = some (.cells enRow 34) := by
    show (w.heap.push _)[w.heap.size]? = _
    simp
  simp only [World.cell?, h1]
  rcases (by omega : j = 0 ∨ j = 1 ∨ j = 2 ∨ j = 3 ∨ j = 4) with rfl | rfl | rfl | rfl | rfl
  · exact g.1
  · exact g.2.1
  · exact g.2.2.1
  · exact g.2.2.2.1
  · exact g.2.2.2.2
set_option maxRecDepth 100000 in
set_option maxHeartbeats 20000000 in
theorem walk_WordEnds (c0 : Int) (w : World) : Calls Try.prog 5 #[.int .i64 c0] w (RetG (.bool true) w) := by
  obtain ⟨q, hq, m255⟩ : ∃ q : Nat, q < 20 ∧ (bits .and .i64 c0 255) % 20 = q := ⟨(c0 % 256 % 20).toNat, by omega, by have := Wd.bits_mask c0 8 (by omega); rw [show (255 : Int) = 2 ^ 8 - 1 from rfl, this]; omega⟩
  have b0 : 0 ≤ bits .and .i64 c0 255 := by have := Wd.bits_mask c0 8 (by omega); rw [show (255 : Int) = 2 ^ 8 - 1 from rfl, this]; omega
  have d0 : (w.alloc (.cells enRow 34)).cell? ⟨w.heap.size, q * 5, none⟩ = some (.int .i64 (en 0 q)) := en_cell w q hq 0 (by omega)
  have d1 := en_cell w q hq 1 (by omega)
  have d2 := en_cell w q hq 2 (by omega)
  have d3 := en_cell w q hq 3 (by omega)
  have d4 := en_cell w q hq 4 (by omega)
  have k1 := (en_ok q hq).1
  have k2 := (en_ok q hq).2
  go_enter Try.func5, Try.ntmps5
  go_wp2_with fail
  refine (do_any _ _ _ _ _).mono ?_; rintro e w' ⟨rfl, rfl⟩
  go_wp2_with (go_at_call 13; refine (awake1 _).mono ?_; rintro e w' ⟨rfl, rfl⟩)
  go_ret
  exact RetG.b rfl rfl (by repeat (first | exact Grown.refl _ | apply Grown.drew | apply Grown.alloc))
end Go.Proofs.Ythoolemphjingaa
