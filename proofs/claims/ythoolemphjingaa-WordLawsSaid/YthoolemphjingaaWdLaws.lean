/- Plain laws of words: nothing of the program stands here. -/
import Derived.Test.YthoolemphjingaaRef1
set_option linter.unusedVariables false
set_option linter.unusedSimpArgs false
namespace Go.Proofs.Ythoolemphjingaa
open Go.RowKit
namespace Wd
theorem maskV_ok {w n : Int} (h : okB w = true) : maskV w n = n % 2 ^ w.toNat := by unfold maskV; rw [if_pos h]
theorem mask_add (w a b : Int) : maskV w (maskV w a + maskV w b) = maskV w (a + b) := by
  by_cases h : okB w = true
  · rw [maskV_ok h, maskV_ok h, maskV_ok h, maskV_ok h, ← Int.add_emod]
  · simp [maskV, h]
theorem mask_sub (w a b : Int) : maskV w (maskV w a - maskV w b) = maskV w (a - b) := by
  by_cases h : okB w = true
  · rw [maskV_ok h, maskV_ok h, maskV_ok h, maskV_ok h, ← Int.sub_emod]
  · simp [maskV, h]
theorem mask_mul (w a b : Int) : maskV w (maskV w a * maskV w b) = maskV w (a * b) := by
  by_cases h : okB w = true
  · rw [maskV_ok h, maskV_ok h, maskV_ok h, maskV_ok h, ← Int.mul_emod]
  · simp [maskV, h]
theorem mask_mull (w a b : Int) : maskV w (maskV w a * b) = maskV w (a * b) := by
  by_cases h : okB w = true
  · rw [maskV_ok h, maskV_ok h, maskV_ok h, Int.mul_emod, Int.emod_emod, ← Int.mul_emod]
  · simp [maskV, h]
theorem do1 (w a b : Int) : doV w 1 a b = maskV w (a + b) := mask_add w a b
theorem do2 (w a b : Int) : doV w 2 a b = maskV w (a - b) := mask_sub w a b
theorem do8 (w a b : Int) : doV w 8 a b = maskV w (a * b) := mask_mul w a b
theorem do3 {w a b : Int} (h : okB w = true) : doV w 3 a b = andI (maskV w a) (maskV w b) := by
  rw [← ref3 h, bits_and (maskV_bd w a).1 (maskV_bd w a).2 (maskV_bd w b).1 (maskV_bd w b).2]
theorem do4 {w a b : Int} (h : okB w = true) : doV w 4 a b = orI (maskV w a) (maskV w b) := by
  rw [← ref4 h, bits_or (maskV_bd w a).1 (maskV_bd w a).2 (maskV_bd w b).1 (maskV_bd w b).2]
theorem do5 {w a b : Int} (h : okB w = true) : doV w 5 a b = xorI (maskV w a) (maskV w b) := by
  rw [← ref5 h, bits_xor (maskV_bd w a).1 (maskV_bd w a).2 (maskV_bd w b).1 (maskV_bd w b).2]
theorem do6 (w a b : Int) : doV w 6 a b = maskV w (a * 2 ^ (maskV w b).toNat) := by
  show maskV w (rawV 6 _ _) = _
  rw [show rawV 6 (maskV w a) (maskV w b) = maskV w a * 2 ^ (maskV w b).toNat from rfl, mask_mull]
theorem do7 {w a b : Int} (h : okB w = true) : doV w 7 a b = maskV w a / 2 ^ (maskV w b).toNat := (ref7 h).symm
theorem do9 {w a b : Int} (h : okB w = true) : doV w 9 a b = tI (decide (maskV w a < maskV w b)) := (ref9 h).symm
theorem do10 {w a b : Int} (h : okB w = true) : doV w 10 a b = tI (maskV w a == maskV w b) := (ref10 h).symm
theorem doV_mask {w op a b : Int} : maskV w (doV w op a b) = doV w op a b := maskV_idem ..
theorem doV_bd {w op a b : Int} (h : okB w = true) : 0 ≤ doV w op a b ∧ doV w op a b < sizeV w := ⟨(maskV_bd ..).1, maskV_lt h⟩
theorem doV_congr {w op a b a' b' : Int} (h : maskV w a = maskV w a') (h2 : maskV w b = maskV w b') : doV w op a b = doV w op a' b' := by unfold doV; rw [h, h2]
theorem mask_size {w a : Int} : maskV w (a + sizeV w) = maskV w a := by
  by_cases h : okB w = true
  · rw [maskV_ok h, maskV_ok h]; unfold sizeV; rw [if_pos h]; exact Int.add_emod_right ..
  · simp [maskV, h]
theorem mask_size' {w a : Int} : maskV w (a - sizeV w) = maskV w a := by
  rw [← mask_size (a := a - sizeV w)]; congr 1; omega
theorem opComm {w a b op : Int} (h : op = 1 ∨ op = 3 ∨ op = 4 ∨ op = 5 ∨ op = 8) : doV w op a b = doV w op b a := by
  unfold doV
  congr 1
  rcases h with rfl | rfl | rfl | rfl | rfl <;> simp [rawV]
  · exact Int.add_comm ..
  · unfold andI; rw [Nat.and_comm]
  · unfold orI; rw [Nat.or_comm]
  · unfold xorI; rw [Nat.xor_comm]
  · exact Int.mul_comm ..
theorem opAssoc {w a b c op : Int} (hw : okB w = true) (h : op = 1 ∨ op = 3 ∨ op = 4 ∨ op = 5 ∨ op = 8) : doV w op (doV w op a b) c = doV w op a (doV w op b c) := by
  rcases h with rfl | rfl | rfl | rfl | rfl
  · rw [do1, do1, do1, do1, ← mask_add, maskV_idem, mask_add, ← mask_add w a, maskV_idem, mask_add, Int.add_assoc]
  · rw [do3 hw (a := doV w 3 a b), doV_mask, do3 hw (a := a) (b := b), do3 hw (a := a) (b := doV w 3 b c), doV_mask, do3 hw (a := b)]; unfold andI; simp [Nat.and_assoc]
  · rw [do4 hw (a := doV w 4 a b), doV_mask, do4 hw (a := a) (b := b), do4 hw (a := a) (b := doV w 4 b c), doV_mask, do4 hw (a := b)]; unfold orI; simp [Nat.or_assoc]
  · rw [do5 hw (a := doV w 5 a b), doV_mask, do5 hw (a := a) (b := b), do5 hw (a := a) (b := doV w 5 b c), doV_mask, do5 hw (a := b)]; unfold xorI; simp [Nat.xor_assoc]
  · rw [do8, do8, do8, do8, ← mask_mul, maskV_idem, mask_mul, ← mask_mul w a, maskV_idem, mask_mul, Int.mul_assoc]
theorem opAssoc' {w a b c op : Int} (hw : okB w = true) (h : op = 1 ∨ op = 3 ∨ op = 4 ∨ op = 5 ∨ op = 8) : doV w op (doV w op b a) c = doV w op a (doV w op b c) := by
  rw [opComm h (a := b) (b := a), opAssoc hw h]
/-- moved up and down again -/
theorem updown {w a b : Int} (hw : okB w = true) (hk : maskV w b < w) : doV w 7 (doV w 6 a b) b = a % 2 ^ (w - maskV w b).toNat := by
  have hb := maskV_bd w b
  rw [do7 hw, doV_mask, do6, maskV_ok hw]
  have e : w.toNat = (w - maskV w b).toNat + (maskV w b).toNat := by omega
  have hp := pow_pos (maskV w b).toNat
  rw [e, Int.pow_add, Int.mul_comm a, Int.mul_comm (2 ^ (w - maskV w b).toNat), Int.mul_emod_mul_of_pos _ _ (by omega), Int.mul_ediv_cancel_left _ (by omega)]
theorem mask_small {w n : Int} (h : okB w = true) (h0 : 0 ≤ n) (h1 : n < sizeV w) : maskV w n = n := maskV_of_lt h h0 h1
theorem okB_of {w : Int} (h0 : 1 ≤ w) (h1 : w ≤ 16) : okB w = true := okB_iff.2 ⟨h0, h1⟩
theorem dbl (w a : Int) : doV w 1 a a = doV w 8 a 2 := by rw [do1, do8]; congr 1; omega
theorem mask_one' {w : Int} (h : okB w = true) (h2 : 2 ≤ w) : maskV w 1 = 1 := mask_small h (by omega) (by have := sizeV_pos h; omega)
theorem up1 {w a : Int} (h : okB w = true) (h2 : 2 ≤ w) : doV w 6 a 1 = doV w 8 a 2 := by
  rw [do6, do8, mask_one' h h2]; rfl
theorem dn1 {w a : Int} (h : okB w = true) (h2 : 2 ≤ w) : doV w 7 a 1 = maskV w a / 2 := by
  rw [do7 h, mask_one' h h2]; rfl
theorem up_up {w a p q : Int} (h : okB w = true) (hp : 0 ≤ p) (hq : 0 ≤ q) (hs : p + q < sizeV w) : doV w 6 (doV w 6 a p) q = doV w 6 a (p + q) := by
  rw [do6, do6, do6, mask_mull, mask_small h hp (by omega), mask_small h hq (by omega), mask_small h (by omega) hs, Int.mul_assoc, ← Int.pow_add]
  congr 3; omega
theorem dn_dn {w a p q : Int} (h : okB w = true) (hp : 0 ≤ p) (hq : 0 ≤ q) (hs : p + q < sizeV w) : doV w 7 (doV w 7 a p) q = doV w 7 a (p + q) := by
  rw [do7 h, doV_mask, do7 h, do7 h, mask_small h hp (by omega), mask_small h hq (by omega), mask_small h (by omega) hs]
  have e : (p + q).toNat = p.toNat + q.toNat := by omega
  rw [e, Int.pow_add, Int.ediv_ediv_of_nonneg (by have := pow_pos p.toNat; omega)]
theorem doB_of {w op : Int} (h : okB w = true) (h0 : 1 ≤ op) (h1 : op ≤ 10) : doB w op = true := by simp [doB, h, opB, h0, h1]
theorem sub_add {w a b : Int} : doV w 2 (doV w 1 a b) b = maskV w a := by
  rw [do2, do1, ← mask_sub, maskV_idem, mask_sub]; congr 1; omega
theorem xor_xor {w a b : Int} (h : okB w = true) : doV w 5 (doV w 5 a b) b = maskV w a := by
  have ha := maskV_bd w a
  rw [do5 h (a := doV w 5 a b), doV_mask, do5 h]; unfold xorI; simp only [Int.toNat_natCast]
  rw [Nat.xor_assoc, Nat.xor_self, Nat.xor_zero]; omega
theorem tI_bd (b : Bool) : 0 ≤ tI b ∧ tI b ≤ 1 := by unfold tI; split <;> omega
theorem do9_bd {w a b : Int} (h : okB w = true) : 0 ≤ doV w 9 a b ∧ doV w 9 a b ≤ 1 := by rw [do9 h]; exact tI_bd _
theorem do10_bd {w a b : Int} (h : okB w = true) : 0 ≤ doV w 10 a b ∧ doV w 10 a b ≤ 1 := by rw [do10 h]; exact tI_bd _
theorem three {w a b : Int} (h : okB w = true) : doV w 9 a b + doV w 9 b a + doV w 10 a b = 1 := by
  rw [do9 h, do9 h, do10 h]
  rcases (by omega : maskV w a < maskV w b ∨ maskV w b < maskV w a ∨ maskV w a = maskV w b) with g | g | g
  · simp [tI, g, show ¬ maskV w b < maskV w a by omega, show ¬ maskV w a = maskV w b by omega]
  · simp [tI, g, show ¬ maskV w a < maskV w b by omega, show ¬ maskV w a = maskV w b by omega]
  · simp [tI, g]
theorem fits {w op a b : Int} : doV w op (a + sizeV w) (b - sizeV w) = doV w op a b := doV_congr mask_size mask_size'
theorem low_of {d a : Int} (h1 : 1 ≤ d) (h2 : d ≤ 16) : bits .and .i64 (maskV d a) (wrap64 (wrap64 (2 ^ d.toNat) - 1)) = a % 2 ^ d.toNat := by
  have hok := okB_of h1 h2
  obtain ⟨k, rfl, _, hk⟩ := okB_nat hok
  simp only [Int.toNat_natCast]
  have h3 := pow_le hk; have h4 := pow_pos k
  rw [IntWalk.wrap64_in (2 ^ k) (by omega), IntWalk.wrap64_in (2 ^ k - 1) (by omega), maskV_ok hok, Int.toNat_natCast, bits_mask _ _ hk, Int.emod_emod]
end Wd
/-- the low four places and one: a width -/
theorem width_of (n : Int) : ∃ u, 1 ≤ u ∧ u ≤ 16 ∧ bits .and .i64 n 15 = u - 1 :=
  ⟨n % 16 + 1, by omega, by omega, by have := Wd.bits_mask n 4 (by omega); rw [show (15 : Int) = 2 ^ 4 - 1 from rfl, this]; omega⟩
theorem low3 (n : Int) : ∃ p, 0 ≤ p ∧ p ≤ 7 ∧ bits .and .i64 n 7 = p := ⟨n % 8, by omega, by omega, Wd.bits_mask n 3 (by omega)⟩
theorem low5 (n : Int) : ∃ p, 0 ≤ p ∧ p ≤ 31 ∧ bits .and .i64 n 31 = p := ⟨n % 32, by omega, by omega, Wd.bits_mask n 5 (by omega)⟩
theorem low8 (n : Int) : ∃ p, 0 ≤ p ∧ p ≤ 255 ∧ bits .and .i64 n 255 = p := ⟨n % 256, by omega, by omega, Wd.bits_mask n 8 (by omega)⟩
end Go.Proofs.Ythoolemphjingaa
