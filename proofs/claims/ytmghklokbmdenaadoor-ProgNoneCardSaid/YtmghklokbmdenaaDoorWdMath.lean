/- Plain arithmetic of words of 1 to 16 places, over Int: nothing of the program stands here. -/
import Derived.WalkKit
set_option linter.unusedVariables false
set_option linter.unusedSimpArgs false
namespace Go.Proofs.YtmghklokbmdenaaDoor
open Go.RowKit
namespace Wd

def okB (w : Int) : Bool := decide (1 ≤ w) && decide (w ≤ 16)
def sizeV (w : Int) : Int := if okB w = true then 2 ^ w.toNat else 0
def maskV (w n : Int) : Int := if okB w = true then n % 2 ^ w.toNat else 0
def andI (x y : Int) : Int := ((x.toNat &&& y.toNat : Nat) : Int)
def orI (x y : Int) : Int := ((x.toNat ||| y.toNat : Nat) : Int)
def xorI (x y : Int) : Int := ((x.toNat ^^^ y.toNat : Nat) : Int)
/-- of two words, not yet cut to the width; false: no op -/
def rawV (op x y : Int) : Int :=
  if op = 1 then x + y else if op = 2 then x - y else if op = 3 then andI x y else if op = 4 then orI x y else if op = 5 then xorI x y
  else if op = 6 then x * 2 ^ y.toNat else if op = 7 then x / 2 ^ y.toNat else if op = 8 then x * y
  else if op = 9 then (if x < y then 1 else 0) else if op = 10 then (if x = y then 1 else 0) else 0
def opB (op : Int) : Bool := decide (1 ≤ op) && decide (op ≤ 10)
def doV (w op a b : Int) : Int := maskV w (rawV op (maskV w a) (maskV w b))
def doB (w op : Int) : Bool := okB w && opB op

theorem okB_iff {w : Int} : okB w = true ↔ 1 ≤ w ∧ w ≤ 16 := by simp [okB]
theorem okB_nat {w : Int} (h : okB w = true) : ∃ k : Nat, w = k ∧ 1 ≤ k ∧ k ≤ 16 := by
  rw [okB_iff] at h; exact ⟨w.toNat, by omega, by omega, by omega⟩
theorem pow_le {k : Nat} (h : k ≤ 16) : (2 : Int) ^ k ≤ 65536 := by
  have : (2 : Nat) ^ k ≤ 2 ^ 16 := Nat.pow_le_pow_right (by omega) h
  have h2 : ((2 ^ k : Nat) : Int) ≤ ((2 ^ 16 : Nat) : Int) := by exact_mod_cast this
  simpa using h2
theorem pow_pos (k : Nat) : (1 : Int) ≤ 2 ^ k := by
  have : 1 ≤ 2 ^ k := Nat.one_le_two_pow
  have h2 : ((1 : Nat) : Int) ≤ ((2 ^ k : Nat) : Int) := by exact_mod_cast this
  simpa using h2
theorem maskV_bd (w n : Int) : 0 ≤ maskV w n ∧ maskV w n < 65536 := by
  unfold maskV; split
  · rename_i h
    obtain ⟨k, rfl, _, hk⟩ := okB_nat h
    have h1 := pow_le hk; have h2 := pow_pos k
    simp only [Int.toNat_natCast]
    have := Int.emod_nonneg n (b := 2 ^ k) (by omega); have := Int.emod_lt_of_pos n (b := 2 ^ k) (by omega); omega
  · omega
theorem sizeV_bd (w : Int) : 0 ≤ sizeV w ∧ sizeV w ≤ 65536 := by
  unfold sizeV; split
  · rename_i h; obtain ⟨k, rfl, _, hk⟩ := okB_nat h; have := pow_le hk; have := pow_pos k; simp only [Int.toNat_natCast]; omega
  · omega
theorem maskV_lt {w n : Int} (h : okB w = true) : maskV w n < sizeV w := by
  unfold maskV sizeV; rw [if_pos h, if_pos h]
  exact Int.emod_lt_of_pos _ (by have := pow_pos w.toNat; omega)
theorem maskV_of_lt {w n : Int} (h : okB w = true) (h0 : 0 ≤ n) (h1 : n < sizeV w) : maskV w n = n := by
  unfold maskV; unfold sizeV at h1; rw [if_pos h] at *; exact Int.emod_eq_of_lt h0 h1
theorem maskV_idem (w n : Int) : maskV w (maskV w n) = maskV w n := by
  by_cases h : okB w = true
  · exact maskV_of_lt h (maskV_bd w n).1 (maskV_lt h)
  · simp [maskV, h]
theorem maskV_congr {w a b : Int} (h : a % sizeV w = b % sizeV w) : maskV w a = maskV w b := by
  by_cases ho : okB w = true
  · simp only [maskV, sizeV, ho, if_true] at *; exact h
  · simp [maskV, ho]

/-- the model's and with a mask is the remainder, of numbers below 0, too -/
theorem bits_mask (n : Int) (k : Nat) (hk : k ≤ 16) : bits .and .i64 n (2 ^ k - 1) = n % 2 ^ k := by
  have e : (BitVec.ofInt 64 n &&& BitVec.ofInt 64 (2 ^ k - 1)).toNat = (n % 2 ^ k).toNat := by
    have h2 : (2 : Int) ^ k ≤ 65536 := pow_le hk
    have h3 := pow_pos k
    have e1 : (BitVec.ofInt 64 ((2 : Int) ^ k - 1)).toNat = 2 ^ k - 1 := by
      have h4 : 2 ^ k ≤ 65536 := by have := Nat.pow_le_pow_right (n := 2) (by omega) hk; simpa using this
      have h5 : 1 ≤ 2 ^ k := Nat.one_le_two_pow
      have : ((2 : Int) ^ k - 1) = ((2 ^ k - 1 : Nat) : Int) := by
        rw [Int.ofNat_sub h5]; simp
      rw [this, BitVec.ofInt_natCast, BitVec.toNat_ofNat]; omega
    rw [BitVec.toNat_and, e1, Nat.and_two_pow_sub_one_eq_mod, BitVec.toNat_ofInt]
    have h6 : (2 : Nat) ^ 64 = 2 ^ k * 2 ^ (64 - k) := by rw [← Nat.pow_add]; congr 1; omega
    have h7 : ((2 ^ 64 : Nat) : Int) = 2 ^ k * 2 ^ (64 - k) := by rw [h6]; simp
    have h8 : (((n % ((2 ^ 64 : Nat) : Int)).toNat % 2 ^ k : Nat) : Int) = n % 2 ^ k := by
      have := Int.emod_nonneg n (b := ((2 ^ 64 : Nat) : Int)) (by omega)
      rw [Int.natCast_emod, Int.toNat_of_nonneg this, Int.natCast_pow]
      exact Int.emod_emod_of_dvd n ⟨2 ^ (64 - k), h7⟩
    omega
  show IntKind.i64.wrap (((BitVec.ofInt 64 n &&& BitVec.ofInt 64 (2 ^ k - 1) : BitVec 64).toNat : Nat) : Int) = _
  have h2 : (2 : Int) ^ k ≤ 65536 := pow_le hk
  have h3 := pow_pos k
  have := Int.emod_nonneg n (b := 2 ^ k) (by omega); have := Int.emod_lt_of_pos n (b := 2 ^ k) (by omega)
  rw [e, Int.toNat_of_nonneg (by omega)]
  exact IntWalk.i64_in _ (by omega)

theorem ofInt_toNat {x : Int} (h0 : 0 ≤ x) (h1 : x < 65536) : (BitVec.ofInt 64 x).toNat = x.toNat := by
  rw [BitVec.toNat_ofInt]; congr 1; exact Int.emod_eq_of_lt h0 (by omega)
theorem bits_and {x y : Int} (h0 : 0 ≤ x) (h1 : x < 65536) (h2 : 0 ≤ y) (h3 : y < 65536) : bits .and .i64 x y = andI x y := by
  show IntKind.i64.wrap (((BitVec.ofInt 64 x &&& BitVec.ofInt 64 y : BitVec 64).toNat : Nat) : Int) = ((x.toNat &&& y.toNat : Nat) : Int)
  rw [BitVec.toNat_and, ofInt_toNat h0 h1, ofInt_toNat h2 h3]
  have := Nat.and_lt_two_pow (n := 16) x.toNat (show y.toNat < 2 ^ 16 by omega)
  exact IntWalk.i64_in _ (by omega)
theorem bits_or {x y : Int} (h0 : 0 ≤ x) (h1 : x < 65536) (h2 : 0 ≤ y) (h3 : y < 65536) : bits .or .i64 x y = orI x y := by
  show IntKind.i64.wrap (((BitVec.ofInt 64 x ||| BitVec.ofInt 64 y : BitVec 64).toNat : Nat) : Int) = ((x.toNat ||| y.toNat : Nat) : Int)
  rw [BitVec.toNat_or, ofInt_toNat h0 h1, ofInt_toNat h2 h3]
  have := Nat.or_lt_two_pow (n := 16) (show x.toNat < 2 ^ 16 by omega) (show y.toNat < 2 ^ 16 by omega)
  exact IntWalk.i64_in _ (by omega)
theorem bits_xor {x y : Int} (h0 : 0 ≤ x) (h1 : x < 65536) (h2 : 0 ≤ y) (h3 : y < 65536) : bits .xor .i64 x y = xorI x y := by
  show IntKind.i64.wrap (((BitVec.ofInt 64 x ^^^ BitVec.ofInt 64 y : BitVec 64).toNat : Nat) : Int) = ((x.toNat ^^^ y.toNat : Nat) : Int)
  rw [BitVec.toNat_xor, ofInt_toNat h0 h1, ofInt_toNat h2 h3]
  have := Nat.xor_lt_two_pow (n := 16) (show x.toNat < 2 ^ 16 by omega) (show y.toNat < 2 ^ 16 by omega)
  exact IntWalk.i64_in _ (by omega)
/-- what the program reckons ahead of cutting: a shift upward is cut to 64 places, nothing else is -/
def recV (op x y : Int) : Int := if op = 6 then wrap64 (x * 2 ^ (min y.toNat 64)) else rawV op x y
/-- 1 of what is true, else 0 -/
def tI (b : Bool) : Int := if b = true then 1 else 0
theorem mul_bd {x y : Int} (h0 : 0 ≤ x) (h1 : x < 65536) (h2 : 0 ≤ y) (h3 : y < 65536) : 0 ≤ x * y ∧ x * y ≤ 4294836225 := by
  have a := Int.mul_nonneg h0 h2
  have b : x * y ≤ 65535 * 65535 := Int.mul_le_mul (by omega) (by omega) h2 (by omega)
  omega
theorem shr_far {x : Int} (h0 : 0 ≤ x) (h1 : x < 65536) {n : Nat} (hn : 16 ≤ n) : x / 2 ^ n = 0 := by
  refine Int.ediv_eq_zero_of_lt h0 ?_
  have : (2 : Nat) ^ 16 ≤ 2 ^ n := Nat.pow_le_pow_right (by omega) hn
  have h2 : ((2 ^ 16 : Nat) : Int) ≤ ((2 ^ n : Nat) : Int) := by exact_mod_cast this
  simp only [Int.natCast_pow] at h2
  have : ((2 : Nat) : Int) ^ 16 = 65536 := by decide
  have e : (((2 : Nat) : Int)) ^ n = 2 ^ n := rfl
  omega
theorem shr_min {x y : Int} (h0 : 0 ≤ x) (h1 : x < 65536) : x / 2 ^ (min y.toNat 64) = x / 2 ^ y.toNat := by
  by_cases h : y.toNat ≤ 64
  · rw [Nat.min_eq_left h]
  · rw [Nat.min_eq_right (by omega), shr_far h0 h1 (by omega), shr_far h0 h1 (by omega)]
theorem wrap64_emod (n : Int) (k : Nat) (hk : k ≤ 16) : wrap64 n % 2 ^ k = n % 2 ^ k := by
  have h6 : (2 : Nat) ^ 64 = 2 ^ k * 2 ^ (64 - k) := by rw [← Nat.pow_add]; congr 1; omega
  have h7 : ((2 ^ 64 : Nat) : Int) = 2 ^ k * 2 ^ (64 - k) := by rw [h6]; simp
  have h8 : ((2 ^ 64 : Nat) : Int) = 18446744073709551616 := by decide
  obtain ⟨q, hq⟩ : ∃ q, wrap64 n = n + 18446744073709551616 * q := ⟨-((n + 9223372036854775808) / 18446744073709551616), by unfold wrap64; omega⟩
  rw [hq, ← h8, h7, Int.mul_assoc]
  exact Int.add_mul_emod_self_left ..
theorem pow_mod {x : Int} {k n : Nat} (h : k ≤ n) : (x * 2 ^ n) % 2 ^ k = 0 := by
  have : n = k + (n - k) := by omega
  rw [this, Int.pow_add, ← Int.mul_assoc, Int.mul_comm x, Int.mul_assoc]
  exact Int.mul_emod_right ..
theorem recV_mask (w op x y : Int) : maskV w (recV op x y) = maskV w (rawV op x y) := by
  unfold recV
  split
  · rename_i h
    subst h
    have e : rawV 6 x y = x * 2 ^ y.toNat := by simp [rawV]
    rw [e]
    unfold maskV
    split
    · rename_i h
      obtain ⟨k, rfl, _, hk⟩ := okB_nat h
      simp only [Int.toNat_natCast]
      rw [wrap64_emod _ _ hk]
      by_cases h2 : y.toNat ≤ 64
      · rw [Nat.min_eq_left h2]
      · rw [pow_mod (by omega), pow_mod (by omega)]
    · rfl
  · rfl
theorem raw_no {op x y : Int} (h : op < 1 ∨ 10 < op) : rawV op x y = 0 := by
  simp [rawV, show op ≠ 1 by omega, show op ≠ 2 by omega, show op ≠ 3 by omega, show op ≠ 4 by omega, show op ≠ 5 by omega, show op ≠ 6 by omega, show op ≠ 7 by omega, show op ≠ 8 by omega, show op ≠ 9 by omega, show op ≠ 10 by omega]
theorem rec_no {op x y : Int} (h : op < 1 ∨ 10 < op) : recV op x y = 0 := by
  rw [recV, if_neg (by omega), raw_no h]
theorem rec3 {x y : Int} (h0 : 0 ≤ x) (h1 : x < 65536) (h2 : 0 ≤ y) (h3 : y < 65536) : bits .and .i64 x y = recV 3 x y := by rw [bits_and h0 h1 h2 h3]; simp [recV, rawV]
theorem rec4 {x y : Int} (h0 : 0 ≤ x) (h1 : x < 65536) (h2 : 0 ≤ y) (h3 : y < 65536) : bits .or .i64 x y = recV 4 x y := by rw [bits_or h0 h1 h2 h3]; simp [recV, rawV]
theorem rec5 {x y : Int} (h0 : 0 ≤ x) (h1 : x < 65536) (h2 : 0 ≤ y) (h3 : y < 65536) : bits .xor .i64 x y = recV 5 x y := by rw [bits_xor h0 h1 h2 h3]; simp [recV, rawV]
theorem rec7 {x y : Int} (h0 : 0 ≤ x) (h1 : x < 65536) : x / 2 ^ min y.toNat 64 = recV 7 x y := by rw [shr_min h0 h1]; simp [recV, rawV]
theorem rec8 {x y : Int} (h0 : 0 ≤ x) (h1 : x < 65536) (h2 : 0 ≤ y) (h3 : y < 65536) : wrap64 (x * y) = recV 8 x y := by
  have := mul_bd h0 h1 h2 h3; rw [IntWalk.wrap64_in _ (by omega)]; simp [recV, rawV]
theorem rec9 (x y : Int) : tI (decide (x < y)) = recV 9 x y := by simp [tI, recV, rawV]
theorem rec10 (x y : Int) : tI (x == y) = recV 10 x y := by simp [tI, recV, rawV]
theorem opB_no {op : Int} (h : op < 1 ∨ 10 < op) : opB op = false := by simp [opB]; omega
end Wd
end Go.Proofs.YtmghklokbmdenaaDoor
