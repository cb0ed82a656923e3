/- Plain arithmetic of rows of numbers in bytes: the bytes of a row, the row of bytes, and back. -/
import Derived.Test.YtdbnfdcjibgikaaRows
import Derived.Lib.Bytes
import Derived.Lib.Bytealg
set_option linter.unusedVariables false
set_option linter.unusedSimpArgs false
namespace Go.Proofs.Ytdbnfdcjibgikaa
namespace Cd
/-- a number that takes one byte -/
def nrB (n : Int) : Bool := decide (-1 ≤ n) && decide (n ≤ 253)
theorem nrB_iff {n : Int} : nrB n = true ↔ -1 ≤ n ∧ n ≤ 253 := by simp [nrB]
theorem nrB_not {n : Int} : nrB n = false ↔ n < -1 ∨ 253 < n := by
  cases h : nrB n
  · simp [nrB] at h; simp; omega
  · have := nrB_iff.1 h; simp; omega
/-- byte k of eight, the highest first -/
def byteAt (n : Int) (k : Nat) : Int := n % 18446744073709551616 / 2 ^ (8 * (7 - k)) % 256
def eight (n : Int) : List Int := (List.range 8).map (byteAt n)
def putN (n : Int) : List Int := if nrB n = true then [n + 1] else 255 :: eight n
def putL : List Int → List Int
  | [] => []
  | n :: l => putN n ++ putL l
def isI (xs : List Int) : Prop := ∀ x ∈ xs, -9223372036854775808 ≤ x ∧ x < 9223372036854775808

theorem eight_len (n : Int) : (eight n).length = 8 := by simp [eight]
theorem putN_len (n : Int) : (putN n).length = if nrB n = true then 1 else 9 := by
  unfold putN; split <;> simp [eight_len]
theorem putL_append (l m : List Int) : putL (l ++ m) = putL l ++ putL m := by
  induction l with
  | nil => rfl
  | cons n l ih => simp [putL, ih]
theorem putL_snoc (l : List Int) (n : Int) : putL (l ++ [n]) = putL l ++ putN n := by rw [putL_append]; simp [putL]
theorem putL_len_le (l : List Int) : (putL l).length ≤ 9 * l.length := by
  induction l with
  | nil => simp [putL]
  | cons n l ih =>
    have := putN_len n
    simp only [putL, List.length_append, List.length_cons]
    split at this <;> omega
end Cd
end Go.Proofs.Ytdbnfdcjibgikaa
