/- The contract of auguryref1.Less. -/
import Derived.Test.YtlmchkajlecmeaaRetW
import Derived.Test.YtlmchkajlecmeaaCdMath
set_option linter.unusedVariables false
set_option linter.unusedSimpArgs false
namespace Go.Proofs.Ytlmchkajlecmeaa
open Go.RowKit
theorem strOfNums_toList' (xs : List Int) : (strOfNums xs).toList = Lib.bytesOf xs := Lib.strOfNums_toList xs
theorem str_beq {xs ys : List Int} (hx : Cd.isB xs) (hy : Cd.isB ys) : ((strOfNums xs).toList == (strOfNums ys).toList) = (xs == ys) := by
  rw [strOfNums_toList', strOfNums_toList', Bool.eq_iff_iff, beq_iff_eq, beq_iff_eq]
  exact ⟨Cd.bytesOf_inj hx hy, fun h => by rw [h]⟩
theorem bytesLess_eq : ∀ (a b : List UInt8), Op.bytesLess a b = decide (Lib.compareBytes a b < 0)
  | [], [] => rfl
  | [], _ :: _ => rfl
  | _ :: _, [] => rfl
  | x :: a, y :: b => by
    have ih := bytesLess_eq a b
    simp only [Op.bytesLess, Lib.compareBytes]
    by_cases h1 : x < y
    · simp [h1]
    · by_cases h2 : y < x
      · have : x ≠ y := by rintro rfl; exact h1 h2
        simp [h1, h2, this]
      · have : x = y := UInt8.le_antisymm (UInt8.not_lt.1 h2) (UInt8.not_lt.1 h1)
        simp [h1, h2, this, ih]
theorem rless_any (A A' : Option Addr) (B n n' c c' : Nat) (xs ys : List Int) (w : World) (hn : n = xs.length) (hn' : n' = ys.length) (hx : Rd w B A (xs.map (Value.int .u8))) (hy : Rd w B A' (ys.map (Value.int .u8))) :
    Calls Try.prog 13 #[.slice A n c, .slice A' n' c'] w (Ret (.bool (Cd.lessB xs ys)) w) := by
  subst hn hn'
  have k1 := conv_any (P := Try.prog) (c := c) hx rfl 25 5 9 Try.underlying25 Try.underlying5 Try.underlying9
  have k2 := conv_any (P := Try.prog) (c := c') hy rfl 25 5 9 Try.underlying25 Try.underlying5 Try.underlying9
  by_cases hl : xs.length = ys.length
  · have hl3 : ((xs.length : Int) != (ys.length : Int)) = false := by simp [hl]
    have HL := Lib.hid hl
    clear hl
    go_enter Try.func13, Try.ntmps13
    go_wp2
    go_ret
    exact Ret.b rfl (by rw [Cd.lessB, if_pos HL.out, strOfNums_toList', strOfNums_toList', bytesLess_eq])
  · have hl3 : ((xs.length : Int) != (ys.length : Int)) = true := by simp; omega
    go_enter Try.func13, Try.ntmps13
    go_wp2_with fail
    go_ret
    exact Ret.b rfl (by rw [Cd.lessB, if_neg hl])
end Go.Proofs.Ytlmchkajlecmeaa
