/- Plain arithmetic of words of 1 to 16 places, over Int: nothing of the program stands here. -/
import Derived.WalkKit
set_option linter.unusedVariables false
set_option linter.unusedSimpArgs false
namespace Go.Proofs.Ytdbnfdcjibgikaa
open Go.RowKit
namespace Wd

def okB (w : Int) : Bool := decide (1 ≤ w) && decide (w ≤ 16)
def sizeV (w : Int) : Int := if okB w = true then 2 ^ w.toNat else 0
def maskV (w n : Int) : Int := if okB w = true then n % 2 ^ w.toNat else 0
theorem okB_iff {w : Int} : okB w = true ↔ 1 ≤ w ∧ w ≤ 16 := by simp [okB]
theorem okB_nat {w : Int} (h : okB w = true) : ∃ k : Nat, w = k ∧ 1 ≤ k ∧ k ≤ 16 := by
  rw [okB_iff] at h; exact ⟨w.toNat, by omega, by omega, by omega⟩
theorem pow_le {k : Nat} (h : k ≤ 16) : (2 : Int) ^ k ≤ 65536 := by
  have : (2 : Nat) ^ k ≤ 2 ^ 16 := Nat.pow_le_pow_right (by omega) h
  have h2 : ((2 ^ k : Nat) : Int) ≤ ((2 ^ 16 : Nat) : Int) := by exact_mod_cast this
  simpa using h2
theorem pow_pos (k : Nat) : (1 : Int) ≤ 2 ^ k := by
  have : 1 ≤ 2 ^ k := Nat.one_le_two_pow
  have h2 : ((1 : Nat) : Int) ≤ ((2 ^ k : Nat) : Int) := by exact_mod_cast this
  simpa using h2
theorem maskV_bd (w n : Int) : 0 ≤ maskV w n ∧ maskV w n < 65536 := by
  unfold maskV; split
  · rename_i h
    obtain ⟨k, rfl, _, hk⟩ := okB_nat h
    have h1 := pow_le hk; have h2 := pow_pos k
    simp only [Int.toNat_natCast]
    have := Int.emod_nonneg n (b := 2 ^ k) (by omega); have := Int.emod_lt_of_pos n (b := 2 ^ k) (by omega); omega
  · omega
theorem sizeV_bd (w : Int) : 0 ≤ sizeV w ∧ sizeV w ≤ 65536 := by
  unfold sizeV; split
  · rename_i h; obtain ⟨k, rfl, _, hk⟩ := okB_nat h; have := pow_le hk; have := pow_pos k; simp only [Int.toNat_natCast]; omega
  · omega
theorem maskV_lt {w n : Int} (h : okB w = true) : maskV w n < sizeV w := by
  unfold maskV sizeV; rw [if_pos h, if_pos h]
  exact Int.emod_lt_of_pos _ (by have := pow_pos w.toNat; omega)
theorem maskV_of_lt {w n : Int} (h : okB w = true) (h0 : 0 ≤ n) (h1 : n < sizeV w) : maskV w n = n := by
  unfold maskV; unfold sizeV at h1; rw [if_pos h] at *; exact Int.emod_eq_of_lt h0 h1
theorem maskV_idem (w n : Int) : maskV w (maskV w n) = maskV w n := by
  by_cases h : okB w = true
  · exact maskV_of_lt h (maskV_bd w n).1 (maskV_lt h)
  · simp [maskV, h]
/-- the model's and with a mask is the remainder, of numbers below 0, too -/
theorem bits_mask (n : Int) (k : Nat) (hk : k ≤ 16) : bits .and .i64 n (2 ^ k - 1) = n % 2 ^ k := by
  have e : (BitVec.ofInt 64 n &&& BitVec.ofInt 64 (2 ^ k - 1)).toNat = (n % 2 ^ k).toNat := by
    have h2 : (2 : Int) ^ k ≤ 65536 := pow_le hk
    have h3 := pow_pos k
    have e1 : (BitVec.ofInt 64 ((2 : Int) ^ k - 1)).toNat = 2 ^ k - 1 := by
      have h4 : 2 ^ k ≤ 65536 := by have := Nat.pow_le_pow_right (n := 2) (by omega) hk; simpa using this
      have h5 : 1 ≤ 2 ^ k := Nat.one_le_two_pow
      have : ((2 : Int) ^ k - 1) = ((2 ^ k - 1 : Nat) : Int) := by
        rw [Int.ofNat_sub h5]; simp
      rw [this, BitVec.ofInt_natCast, BitVec.toNat_ofNat]; omega
    rw [BitVec.toNat_and, e1, Nat.and_two_pow_sub_one_eq_mod, BitVec.toNat_ofInt]
    have h6 : (2 : Nat) ^ 64 = 2 ^ k * 2 ^ (64 - k) := by rw [← Nat.pow_add]; congr 1; omega
    have h7 : ((2 ^ 64 : Nat) : Int) = 2 ^ k * 2 ^ (64 - k) := by rw [h6]; simp
    have h8 : (((n % ((2 ^ 64 : Nat) : Int)).toNat % 2 ^ k : Nat) : Int) = n % 2 ^ k := by
      have := Int.emod_nonneg n (b := ((2 ^ 64 : Nat) : Int)) (by omega)
      rw [Int.natCast_emod, Int.toNat_of_nonneg this, Int.natCast_pow]
      exact Int.emod_emod_of_dvd n ⟨2 ^ (64 - k), h7⟩
    omega
  show IntKind.i64.wrap (((BitVec.ofInt 64 n &&& BitVec.ofInt 64 (2 ^ k - 1) : BitVec 64).toNat : Nat) : Int) = _
  have h2 : (2 : Int) ^ k ≤ 65536 := pow_le hk
  have h3 := pow_pos k
  have := Int.emod_nonneg n (b := 2 ^ k) (by omega); have := Int.emod_lt_of_pos n (b := 2 ^ k) (by omega)
  rw [e, Int.toNat_of_nonneg (by omega)]
  exact IntWalk.i64_in _ (by omega)

end Wd
end Go.Proofs.Ytdbnfdcjibgikaa
