/- Words of W bits; the contracts of augurylaw4.Text and augurylaw5.Line. -/
import Derived.WalkKit
import Derived.Test.YtcpbbkpfickfiaaDoorMem2
import Derived.Test.YtcpbbkpfickfiaaDoorRetW
set_option linter.unusedVariables false
set_option linter.unusedSimpArgs false
namespace Go.Proofs.YtcpbbkpfickfiaaDoor
section
open Go.RowKit
namespace Wd

def okB (w : Int) : Bool := decide (1 ≤ w) && decide (w ≤ 16)
def sizeV (w : Int) : Int := if okB w = true then 2 ^ w.toNat else 0
def maskV (w n : Int) : Int := if okB w = true then n % 2 ^ w.toNat else 0
def andI (x y : Int) : Int := ((x.toNat &&& y.toNat : Nat) : Int)
def orI (x y : Int) : Int := ((x.toNat ||| y.toNat : Nat) : Int)
def xorI (x y : Int) : Int := ((x.toNat ^^^ y.toNat : Nat) : Int)
/-- of two words, not yet cut to the width; false: no op -/
def rawV (op x y : Int) : Int :=
  if op = 1 then x + y else if op = 2 then x - y else if op = 3 then andI x y else if op = 4 then orI x y else if op = 5 then xorI x y
  else if op = 6 then x * 2 ^ y.toNat else if op = 7 then x / 2 ^ y.toNat else if op = 8 then x * y
  else if op = 9 then (if x < y then 1 else 0) else if op = 10 then (if x = y then 1 else 0) else 0
def opB (op : Int) : Bool := decide (1 ≤ op) && decide (op ≤ 10)
def doV (w op a b : Int) : Int := maskV w (rawV op (maskV w a) (maskV w b))
def doB (w op : Int) : Bool := okB w && opB op

theorem okB_iff {w : Int} : okB w = true ↔ 1 ≤ w ∧ w ≤ 16 := by simp [okB]
theorem okB_nat {w : Int} (h : okB w = true) : ∃ k : Nat, w = k ∧ 1 ≤ k ∧ k ≤ 16 := by
  rw [okB_iff] at h; exact ⟨w.toNat, by omega, by omega, by omega⟩
theorem pow_le {k : Nat} (h : k ≤ 16) : (2 : Int) ^ k ≤ 65536 := by
  have : (2 : Nat) ^ k ≤ 2 ^ 16 := Nat.pow_le_pow_right (by omega) h
  have h2 : ((2 ^ k : Nat) : Int) ≤ ((2 ^ 16 : Nat) : Int) := by exact_mod_cast this
  simpa using h2
theorem pow_pos (k : Nat) : (1 : Int) ≤ 2 ^ k := by
  have : 1 ≤ 2 ^ k := Nat.one_le_two_pow
  have h2 : ((1 : Nat) : Int) ≤ ((2 ^ k : Nat) : Int) := by exact_mod_cast this
  simpa using h2
theorem maskV_bd (w n : Int) : 0 ≤ maskV w n ∧ maskV w n < 65536 := by
  unfold maskV; split
  · rename_i h
    obtain ⟨k, rfl, _, hk⟩ := okB_nat h
    have h1 := pow_le hk; have h2 := pow_pos k
    simp only [Int.toNat_natCast]
    have := Int.emod_nonneg n (b := 2 ^ k) (by omega); have := Int.emod_lt_of_pos n (b := 2 ^ k) (by omega); omega
  · omega
theorem sizeV_bd (w : Int) : 0 ≤ sizeV w ∧ sizeV w ≤ 65536 := by
  unfold sizeV; split
  · rename_i h; obtain ⟨k, rfl, _, hk⟩ := okB_nat h; have := pow_le hk; have := pow_pos k; simp only [Int.toNat_natCast]; omega
  · omega
theorem maskV_lt {w n : Int} (h : okB w = true) : maskV w n < sizeV w := by
  unfold maskV sizeV; rw [if_pos h, if_pos h]
  exact Int.emod_lt_of_pos _ (by have := pow_pos w.toNat; omega)
theorem maskV_of_lt {w n : Int} (h : okB w = true) (h0 : 0 ≤ n) (h1 : n < sizeV w) : maskV w n = n := by
  unfold maskV; unfold sizeV at h1; rw [if_pos h] at *; exact Int.emod_eq_of_lt h0 h1
theorem maskV_idem (w n : Int) : maskV w (maskV w n) = maskV w n := by
  by_cases h : okB w = true
  · exact maskV_of_lt h (maskV_bd w n).1 (maskV_lt h)
  · simp [maskV, h]
theorem maskV_congr {w a b : Int} (h : a % sizeV w = b % sizeV w) : maskV w a = maskV w b := by
  by_cases ho : okB w = true
  · simp only [maskV, sizeV, ho, if_true] at *; exact h
  · simp [maskV, ho]

/-- the model's and with a mask is the remainder, of numbers below 0, too -/
theorem bits_mask (n : Int) (k : Nat) (hk : k ≤ 16) : bits .and .i64 n (2 ^ k - 1) = n % 2 ^ k := by
  have e : (BitVec.ofInt 64 n &&& BitVec.ofInt 64 (2 ^ k - 1)).toNat = (n % 2 ^ k).toNat := by
    have h2 : (2 : Int) ^ k ≤ 65536 := pow_le hk
    have h3 := pow_pos k
    have e1 : (BitVec.ofInt 64 ((2 : Int) ^ k - 1)).toNat = 2 ^ k - 1 := by
      have h4 : 2 ^ k ≤ 65536 := by have := Nat.pow_le_pow_right (n := 2) (by omega) hk; simpa using this
      have h5 : 1 ≤ 2 ^ k := Nat.one_le_two_pow
      have : ((2 : Int) ^ k - 1) = ((2 ^ k - 1 : Nat) : Int) := by
        rw [Int.ofNat_sub h5]; simp
      rw [this, BitVec.ofInt_natCast, BitVec.toNat_ofNat]; omega
    rw [BitVec.toNat_and, e1, Nat.and_two_pow_sub_one_eq_mod, BitVec.toNat_ofInt]
    have h6 : (2 : Nat) ^ 64 = 2 ^ k * 2 ^ (64 - k) := by rw [← Nat.pow_add]; congr 1; omega
    have h7 : ((2 ^ 64 : Nat) : Int) = 2 ^ k * 2 ^ (64 - k) := by rw [h6]; simp
    have h8 : (((n % ((2 ^ 64 : Nat) : Int)).toNat % 2 ^ k : Nat) : Int) = n % 2 ^ k := by
      have := Int.emod_nonneg n (b := ((2 ^ 64 : Nat) : Int)) (by omega)
      rw [Int.natCast_emod, Int.toNat_of_nonneg this, Int.natCast_pow]
      exact Int.emod_emod_of_dvd n ⟨2 ^ (64 - k), h7⟩
    omega
  show IntKind.i64.wrap (((BitVec.ofInt 64 n &&& BitVec.ofInt 64 (2 ^ k - 1) : BitVec 64).toNat : Nat) : Int) = _
  have h2 : (2 : Int) ^ k ≤ 65536 := pow_le hk
  have h3 := pow_pos k
  have := Int.emod_nonneg n (b := 2 ^ k) (by omega); have := Int.emod_lt_of_pos n (b := 2 ^ k) (by omega)
  rw [e, Int.toNat_of_nonneg (by omega)]
  exact IntWalk.i64_in _ (by omega)

theorem ofInt_toNat {x : Int} (h0 : 0 ≤ x) (h1 : x < 65536) : (BitVec.ofInt 64 x).toNat = x.toNat := by
  rw [BitVec.toNat_ofInt]; congr 1; exact Int.emod_eq_of_lt h0 (by omega)
theorem bits_and {x y : Int} (h0 : 0 ≤ x) (h1 : x < 65536) (h2 : 0 ≤ y) (h3 : y < 65536) : bits .and .i64 x y = andI x y := by
  show IntKind.i64.wrap (((BitVec.ofInt 64 x &&& BitVec.ofInt 64 y : BitVec 64).toNat : Nat) : Int) = ((x.toNat &&& y.toNat : Nat) : Int)
  rw [BitVec.toNat_and, ofInt_toNat h0 h1, ofInt_toNat h2 h3]
  have := Nat.and_lt_two_pow (n := 16) x.toNat (show y.toNat < 2 ^ 16 by omega)
  exact IntWalk.i64_in _ (by omega)
theorem bits_or {x y : Int} (h0 : 0 ≤ x) (h1 : x < 65536) (h2 : 0 ≤ y) (h3 : y < 65536) : bits .or .i64 x y = orI x y := by
  show IntKind.i64.wrap (((BitVec.ofInt 64 x ||| BitVec.ofInt 64 y : BitVec 64).toNat : Nat) : Int) = ((x.toNat ||| y.toNat : Nat) : Int)
  rw [BitVec.toNat_or, ofInt_toNat h0 h1, ofInt_toNat h2 h3]
  have := Nat.or_lt_two_pow (n := 16) (show x.toNat < 2 ^ 16 by omega) (show y.toNat < 2 ^ 16 by omega)
  exact IntWalk.i64_in _ (by omega)
theorem bits_xor {x y : Int} (h0 : 0 ≤ x) (h1 : x < 65536) (h2 : 0 ≤ y) (h3 : y < 65536) : bits .xor .i64 x y = xorI x y := by
  show IntKind.i64.wrap (((BitVec.ofInt 64 x ^^^ BitVec.ofInt 64 y : BitVec 64).toNat : Nat) : Int) = ((x.toNat ^^^ y.toNat : Nat) : Int)
  rw [BitVec.toNat_xor, ofInt_toNat h0 h1, ofInt_toNat h2 h3]
  have := Nat.xor_lt_two_pow (n := 16) (show x.toNat < 2 ^ 16 by omega) (show y.toNat < 2 ^ 16 by omega)
  exact IntWalk.i64_in _ (by omega)
/-- what the program reckons ahead of cutting: a shift upward is cut to 64 places, nothing else is -/
def recV (op x y : Int) : Int := if op = 6 then wrap64 (x * 2 ^ (min y.toNat 64)) else rawV op x y
/-- 1 of what is true, else 0 -/
def tI (b : Bool) : Int := if b = true then 1 else 0
theorem mul_bd {x y : Int} (h0 : 0 ≤ x) (h1 : x < 65536) (h2 : 0 ≤ y) (h3 : y < 65536) : 0 ≤ x * y ∧ x * y ≤ 4294836225 := by
  have a := Int.mul_nonneg h0 h2
  have b : x * y ≤ 65535 * 65535 := Int.mul_le_mul (by omega) (by omega) h2 (by omega)
  omega
theorem shr_far {x : Int} (h0 : 0 ≤ x) (h1 : x < 65536) {n : Nat} (hn : 16 ≤ n) : x / 2 ^ n = 0 := by
  refine Int.ediv_eq_zero_of_lt h0 ?_
  have : (2 : Nat) ^ 16 ≤ 2 ^ n := Nat.pow_le_pow_right (by omega) hn
  have h2 : ((2 ^ 16 : Nat) : Int) ≤ ((2 ^ n : Nat) : Int) := by exact_mod_cast this
  simp only [Int.natCast_pow] at h2
  have : ((2 : Nat) : Int) ^ 16 = 65536 := by decide
  have e : (((2 : Nat) : Int)) ^ n = 2 ^ n := rfl
  omega
theorem shr_min {x y : Int} (h0 : 0 ≤ x) (h1 : x < 65536) : x / 2 ^ (min y.toNat 64) = x / 2 ^ y.toNat := by
  by_cases h : y.toNat ≤ 64
  · rw [Nat.min_eq_left h]
  · rw [Nat.min_eq_right (by omega), shr_far h0 h1 (by omega), shr_far h0 h1 (by omega)]
theorem wrap64_emod (n : Int) (k : Nat) (hk : k ≤ 16) : wrap64 n % 2 ^ k = n % 2 ^ k := by
  have h6 : (2 : Nat) ^ 64 = 2 ^ k * 2 ^ (64 - k) := by rw [← Nat.pow_add]; congr 1; omega
  have h7 : ((2 ^ 64 : Nat) : Int) = 2 ^ k * 2 ^ (64 - k) := by rw [h6]; simp
  have h8 : ((2 ^ 64 : Nat) : Int) = 18446744073709551616 := by decide
  obtain ⟨q, hq⟩ : ∃ q, wrap64 n = n + 18446744073709551616 * q := ⟨-((n + 9223372036854775808) / 18446744073709551616), by unfold wrap64; omega⟩
  rw [hq, ← h8, h7, Int.mul_assoc]
  exact Int.add_mul_emod_self_left ..
theorem pow_mod {x : Int} {k n : Nat} (h : k ≤ n) : (x * 2 ^ n) % 2 ^ k = 0 := by
  have : n = k + (n - k) := by omega
  rw [this, Int.pow_add, ← Int.mul_assoc, Int.mul_comm x, Int.mul_assoc]
  exact Int.mul_emod_right ..
theorem recV_mask (w op x y : Int) : maskV w (recV op x y) = maskV w (rawV op x y) := by
  unfold recV
  split
  · rename_i h
    subst h
    have e : rawV 6 x y = x * 2 ^ y.toNat := by simp [rawV]
    rw [e]
    unfold maskV
    split
    · rename_i h
      obtain ⟨k, rfl, _, hk⟩ := okB_nat h
      simp only [Int.toNat_natCast]
      rw [wrap64_emod _ _ hk]
      by_cases h2 : y.toNat ≤ 64
      · rw [Nat.min_eq_left h2]
      · rw [pow_mod (by omega), pow_mod (by omega)]
    · rfl
  · rfl
theorem raw_no {op x y : Int} (h : op < 1 ∨ 10 < op) : rawV op x y = 0 := by
  simp [rawV, show op ≠ 1 by omega, show op ≠ 2 by omega, show op ≠ 3 by omega, show op ≠ 4 by omega, show op ≠ 5 by omega, show op ≠ 6 by omega, show op ≠ 7 by omega, show op ≠ 8 by omega, show op ≠ 9 by omega, show op ≠ 10 by omega]
theorem rec_no {op x y : Int} (h : op < 1 ∨ 10 < op) : recV op x y = 0 := by
  rw [recV, if_neg (by omega), raw_no h]
theorem rec3 {x y : Int} (h0 : 0 ≤ x) (h1 : x < 65536) (h2 : 0 ≤ y) (h3 : y < 65536) : bits .and .i64 x y = recV 3 x y := by rw [bits_and h0 h1 h2 h3]; simp [recV, rawV]
theorem rec4 {x y : Int} (h0 : 0 ≤ x) (h1 : x < 65536) (h2 : 0 ≤ y) (h3 : y < 65536) : bits .or .i64 x y = recV 4 x y := by rw [bits_or h0 h1 h2 h3]; simp [recV, rawV]
theorem rec5 {x y : Int} (h0 : 0 ≤ x) (h1 : x < 65536) (h2 : 0 ≤ y) (h3 : y < 65536) : bits .xor .i64 x y = recV 5 x y := by rw [bits_xor h0 h1 h2 h3]; simp [recV, rawV]
theorem rec7 {x y : Int} (h0 : 0 ≤ x) (h1 : x < 65536) : x / 2 ^ min y.toNat 64 = recV 7 x y := by rw [shr_min h0 h1]; simp [recV, rawV]
theorem rec8 {x y : Int} (h0 : 0 ≤ x) (h1 : x < 65536) (h2 : 0 ≤ y) (h3 : y < 65536) : wrap64 (x * y) = recV 8 x y := by
  have := mul_bd h0 h1 h2 h3; rw [IntWalk.wrap64_in _ (by omega)]; simp [recV, rawV]
theorem rec9 (x y : Int) : tI (decide (x < y)) = recV 9 x y := by simp [tI, recV, rawV]
theorem rec10 (x y : Int) : tI (x == y) = recV 10 x y := by simp [tI, recV, rawV]
theorem opB_no {op : Int} (h : op < 1 ∨ 10 < op) : opB op = false := by simp [opB]; omega
end Wd
end
section
open Go.RowKit
abbrev txRow : Array Value := #[.string ⟨#[119, 105, 100, 116, 104]⟩, .string ⟨#[119, 105, 110, 100, 111, 119]⟩, .string ⟨#[102, 117, 101, 108]⟩, .string ⟨#[112, 117, 98, 108, 105, 99]⟩, .string ⟨#[115, 101, 99, 114, 101, 116]⟩, .string ⟨#[97, 100, 100]⟩, .string ⟨#[120, 111, 114]⟩, .string ⟨#[108, 116]⟩, .string ⟨#[109, 111, 118]⟩, .string ⟨#[108, 111, 97, 100]⟩, .string ⟨#[115, 116, 111, 114, 101]⟩, .string ⟨#[99, 109, 111, 118]⟩, .string ⟨#[98, 114]⟩, .string ⟨#[106, 109, 112]⟩, .string ⟨#[99, 97, 108, 108]⟩, .string ⟨#[105, 110, 100]⟩, .string ⟨#[114, 101, 116]⟩, .string ⟨#[102, 101, 110, 99, 101]⟩, .string ⟨#[104, 97, 108, 116]⟩, .string ⟨#[114, 48]⟩, .string ⟨#[114, 49]⟩, .string ⟨#[114, 50]⟩, .string ⟨#[114, 51]⟩, .string ⟨#[114, 52]⟩, .string ⟨#[97]⟩, .string ⟨#[108, 97, 98, 49]⟩, .string ⟨#[48]⟩, .string ⟨#[49]⟩, .string ⟨#[50]⟩, .string ⟨#[48, 55]⟩, .string ⟨#[49, 50]⟩, .string ⟨#[57, 57, 57, 57, 57]⟩, .string ⟨#[49, 50, 51, 52, 53, 54]⟩, .string ⟨#[44]⟩, .string ⟨#[58]⟩, .string ⟨#[91]⟩, .string ⟨#[93]⟩, .string ⟨#[43]⟩, .string ⟨#[59]⟩, .string ⟨#[32]⟩, .string ⟨#[32, 32]⟩, .string ⟨#[9]⟩, .string ⟨#[195, 169]⟩, .string ⟨#[255]⟩, .string ⟨#[65]⟩, .string ⟨#[45]⟩, .string ⟨#[49, 97]⟩]
theorem tx_get (q : Nat) (h : q < 47) : ∃ s, txRow[q]? = some (.string s) ∧ s.size ≤ 6 := by
  rcases (by omega : q = 0 ∨ q = 1 ∨ q = 2 ∨ q = 3 ∨ q = 4 ∨ q = 5 ∨ q = 6 ∨ q = 7 ∨ q = 8 ∨ q = 9 ∨ q = 10 ∨ q = 11 ∨ q = 12 ∨ q = 13 ∨ q = 14 ∨ q = 15 ∨ q = 16 ∨ q = 17 ∨ q = 18 ∨ q = 19 ∨ q = 20 ∨ q = 21 ∨ q = 22 ∨ q = 23 ∨ q = 24 ∨ q = 25 ∨ q = 26 ∨ q = 27 ∨ q = 28 ∨ q = 29 ∨ q = 30 ∨ q = 31 ∨ q = 32 ∨ q = 33 ∨ q = 34 ∨ q = 35 ∨ q = 36 ∨ q = 37 ∨ q = 38 ∨ q = 39 ∨ q = 40 ∨ q = 41 ∨ q = 42 ∨ q = 43 ∨ q = 44 ∨ q = 45 ∨ q = 46) with rfl | rfl | rfl | rfl | rfl | rfl | rfl | rfl | rfl | rfl | rfl | rfl | rfl | rfl | rfl | rfl | rfl | rfl | rfl | rfl | rfl | rfl | rfl | rfl | rfl | rfl | rfl | rfl | rfl | rfl | rfl | rfl | rfl | rfl | rfl | rfl | rfl | rfl | rfl | rfl | rfl | rfl | rfl | rfl | rfl | rfl | rfl
  all_goals exact ⟨_, rfl, by decide⟩
theorem tx_cell {W : World} {b : Nat} (hb : W.heap[b]? = some (.cells txRow 9 (0, 0))) (q : Nat) (h : q < 47) : ∃ s : ByteArray, W.cell? ⟨b, q, none⟩ = some (.string s) ∧ s.size ≤ 6 := by
  obtain ⟨s, h1, h2⟩ := tx_get q h
  exact ⟨s, by rw [cell_of_row _ _ _ _ _ _ hb]; exact h1, h2⟩
set_option maxRecDepth 100000 in
set_option maxHeartbeats 20000000 in
theorem text_any (A : Option Addr) (n c : Nat) (z : List Int) (w : World) (hn : n = z.length) (hr : Rd w w.heap.size A (z.map (Value.int .i64))) :
    Calls Tryd.prog 13 #[.slice A n c] w fun e w' => ∃ s : ByteArray, e = .returned (.string s) ∧ s.size ≤ 140 ∧ Below w.heap.size w w' := by
  subst hn
  have HR := Lib.hid hr
  clear hr
  go_enter Tryd.func13, Tryd.ntmps13
  go_wp2_with fail
  have hb := heap_alloc_new w (.cells txRow 9)
  have hbw := upA (up0 w) (.cells txRow 9)
  generalize w.alloc (.cells txRow 9) = W at *
  have HB := Lib.hid hb
  clear hb
  go_loop [4, 5] (fun v4 v5 => ∃ (i : Nat) (s : ByteArray), v5 = .int .i64 (i : Int) ∧ v4 = .string s ∧ i ≤ 20 ∧ s.size ≤ 7 * i) (fun _ v5 => 20 - (intOf v5).toNat)
  case atStart => exact ⟨0, ⟨#[]⟩, rfl, rfl, by omega, by decide⟩
  case round =>
    obtain ⟨i, s, rfl, rfl, hi, hs⟩ := hrel
    by_cases h1 : i < z.length
    · have i1 : (i : Int) < (z.length : Int) := by omega
      by_cases h2 : i < 20
      · have i2 : (i : Int) < 20 := by omega
        have i0 : (0 : Int) ≤ (i : Int) := by omega
        obtain ⟨ad, rfl, hba, hca⟩ := HR.out.at_ h1
        have hcx : W.cell? (ad.add i) = some (.int .i64 (z.getD i 0)) := (hbw.cell (by rw [adr_block]; exact hba)).trans hca
        generalize z.getD i 0 = x at *
        obtain ⟨q, hq, m255⟩ : ∃ q : Nat, q < 47 ∧ (bits .and .i64 x 255) % 47 = q := ⟨(x % 256 % 47).toNat, by omega, by have := Wd.bits_mask x 8 (by omega); rw [show (255 : Int) = 2 ^ 8 - 1 from rfl, this]; omega⟩
        have b0 : 0 ≤ bits .and .i64 x 255 := by have := Wd.bits_mask x 8 (by omega); rw [show (255 : Int) = 2 ^ 8 - 1 from rfl, this]; omega
        obtain ⟨p, hp1, hp2⟩ := tx_cell HB.out q hq
        clear hca
        go_wp2_with fail
        all_goals
          refine ⟨⟨i + 1, _, by go_num, rfl, by omega, ?_⟩, by simp [intOf]; omega⟩
          have e32 : (⟨#[32]⟩ : ByteArray).size = 1 := rfl
          simp only [ByteArray.size_append]
          omega
      · have i2 : ¬ (i : Int) < 20 := by omega
        go_wp2_with fail
        go_ret
        exact ⟨s, rfl, by omega, hbw⟩
    · have i1 : ¬ (i : Int) < (z.length : Int) := by omega
      go_wp2_with fail
      go_ret
      exact ⟨s, rfl, by omega, hbw⟩
end
section
open Go.RowKit
theorem hmf (fn : Fn) (first cap : Array Value) (w : World) : (Instr.makeFunc fn first cap).run Tryd.prog w = .ok (.func fn first cap) w := rfl
/-- a row of strings, none longer than so much -/
def StrRow (R : Array Value) (B : Nat) : Prop := ∀ (q : Nat) v, R[q]? = some v → ∃ s : ByteArray, v = .string s ∧ s.size ≤ B
theorem wp_load_str {w : World} {ops : Array Oper} {rest : List Oper} {o : Oper} {a : Act} {Q : Exit → Act → World → Prop} (hgd : o.guard = none) (x : Operand) (ho : o.op = .load 9 x) (g q : Nat) (R : Array Value) (B : Nat) (t : TypeId) (fr : Nat × Nat)
    (hx : a.eval x = .pointer (some ⟨g, q, none⟩)) (hg : w.heap[g]? = some (.cells R t fr)) (hq : q < R.size) (hR : StrRow R B)
    (h : ∀ s : ByteArray, s.size ≤ B → wpList Tryd.prog ops Q rest (a.put o.dst (.string s)) w) : wpList Tryd.prog ops Q (o :: rest) a w := by
  obtain ⟨v, hv⟩ : ∃ v, R[q]? = some v := ⟨R[q], by simp [hq]⟩
  obtain ⟨s, rfl, hs⟩ := hR q v hv
  have hc := cell_of_row w g q R t fr hg
  rw [hv] at hc
  refine wpList_plain hgd fun K hK => ?_
  unfold Oper.wp execOp
  have hl : (loadVar 9 ⟨g, q, none⟩).run Tryd.prog w = .ok (.string s) w := by
    go_simp
  simp only [ho, hx, Instr.loadAt, Instr.sureAddr, Sem.run_bind, Sem.run_pure, Result.andThen_ok, hl]
  exact hK _ _ (h s hs)
set_option maxRecDepth 100000 in
theorem k_any (i : Nat) (A : Option Addr) (n c b : Nat) (z : List Int) (w : World) (hi : i < 1000) (hn : n = z.length) (hb : w.cell? ⟨b, 0, none⟩ = some (.slice A n c)) (hr : Rd w w.heap.size A (z.map (Value.int .i64))) :
    Calls Tryd.prog 21 #[.int .i64 (i : Int), .pointer (some ⟨b, 0, none⟩)] w (Ret (.int .i64 (z.getD i 0)) w) := by
  subst hn
  by_cases h : i < z.length
  · obtain ⟨ad, rfl, _, hc⟩ := hr.at_ h
    have i0 : (0 : Int) ≤ (i : Int) := by omega
    have i1 : (i : Int) < (z.length : Int) := by omega
    generalize z.getD i 0 = x at *
    go_enter Tryd.func21, Tryd.ntmps21
    go_wp2_with fail
    go_ret
    exact ⟨rfl, rfl⟩
  · have i1 : ¬ (i : Int) < (z.length : Int) := by omega
    have hg : z.getD i 0 = 0 := by simp [List.getD, h]
    rw [hg]
    go_enter Tryd.func21, Tryd.ntmps21
    go_wp2_with fail
    go_ret
    exact ⟨rfl, rfl⟩
theorem strRow_of {R : Array Value} {B : Nat} (h : R.toList.all (fun v => match v with | .string s => decide (s.size ≤ B) | _ => false) = true) : StrRow R B := fun q v hv => by
  have hm : v ∈ R.toList := by
    have : R.toList[q]? = some v := by simpa using hv
    exact List.mem_of_getElem? this
  have := List.all_eq_true.1 h v hm
  cases v <;> simp at this
  exact ⟨_, rfl, this⟩
abbrev vRow : Array Value := #[.string ⟨#[114, 48]⟩, .string ⟨#[114, 49]⟩, .string ⟨#[114, 50]⟩, .string ⟨#[114, 51]⟩, .string ⟨#[48]⟩, .string ⟨#[49]⟩, .string ⟨#[50]⟩, .string ⟨#[51]⟩, .string ⟨#[49, 53]⟩, .string ⟨#[55, 48, 48, 48, 48]⟩, .string ⟨#[114, 52]⟩, .string ⟨#[44]⟩]
set_option maxRecDepth 100000 in
set_option maxHeartbeats 4000000 in
theorem v_any (x : Int) (w : World) : Calls Tryd.prog 22 #[.int .i64 x] w fun e w' => ∃ s : ByteArray, e = .returned (.string s) ∧ s.size ≤ 5 ∧ Below w.heap.size w w' := by
  obtain ⟨q, hq, m12⟩ : ∃ q : Nat, q < 12 ∧ (bits .and .i64 x 255) % 12 = q := ⟨(x % 256 % 12).toNat, by omega, by have := Wd.bits_mask x 8 (by omega); rw [show (255 : Int) = 2 ^ 8 - 1 from rfl, this]; omega⟩
  have b0 : 0 ≤ bits .and .i64 x 255 := by have := Wd.bits_mask x 8 (by omega); rw [show (255 : Int) = 2 ^ 8 - 1 from rfl, this]; omega
  have hR : StrRow vRow 5 := strRow_of (by decide)
  have hn := heap_alloc_new w (.cells vRow 9)
  have HN := Lib.hid hn
  clear hn
  go_enter Tryd.func22, Tryd.ntmps22
  go_wp2_with (refine wp_load_str rfl _ rfl w.heap.size q vRow 5 _ _ rfl HN.out hq hR ?_; intro s hs)
  go_ret
  exact ⟨s, rfl, hs, upA (up0 w) _⟩
end
section
open Go.RowKit
abbrev lnD : Array Value := #[.string ⟨#[114, 48]⟩, .string ⟨#[114, 49]⟩, .string ⟨#[114, 50]⟩, .string ⟨#[114, 51]⟩]
theorem lnD_ok : StrRow lnD 2 := strRow_of (by decide)
abbrev lnN : Array Value := #[.string ⟨#[97]⟩, .string ⟨#[108, 97, 98]⟩, .string ⟨#[114, 52]⟩, .string ⟨#[114, 48]⟩, .string ⟨#[120, 49]⟩, .string ⟨#[97, 100, 100]⟩]
theorem lnN_ok : StrRow lnN 3 := strRow_of (by decide)
abbrev lnO : Array Value := #[.string ⟨#[97, 100, 100]⟩, .string ⟨#[115, 117, 98]⟩, .string ⟨#[97, 110, 100]⟩, .string ⟨#[111, 114]⟩, .string ⟨#[120, 111, 114]⟩, .string ⟨#[115, 104, 108]⟩, .string ⟨#[115, 104, 114]⟩, .string ⟨#[109, 117, 108]⟩, .string ⟨#[108, 116]⟩, .string ⟨#[101, 113]⟩, .string ⟨#[109, 111, 118]⟩]
theorem lnO_ok : StrRow lnO 3 := strRow_of (by decide)
abbrev lnM : Array Value := #[.string ⟨#[48]⟩, .string ⟨#[49]⟩, .string ⟨#[50]⟩, .string ⟨#[51]⟩, .string ⟨#[49, 54]⟩, .string ⟨#[49, 55]⟩, .string ⟨#[49, 48, 48, 48]⟩]
theorem lnM_ok : StrRow lnM 4 := strRow_of (by decide)
/-- the box of the row stands, and all that was there -/
structure LnG (w W : World) (A : Option Addr) (n c : Nat) : Prop where
  box : W.cell? ⟨w.heap.size, 0, none⟩ = some (.slice A n c)
  lt : w.heap.size < W.heap.size
  below : Below w.heap.size w W
section
variable {w W : World} {A : Option Addr} {n c : Nat}
theorem LnG.up (h : LnG w W A n c) {W' : World} (hb : Below W.heap.size W W') : LnG w W' A n c := ⟨(hb.cell (p := ⟨w.heap.size, 0, none⟩) h.lt).trans h.box, Nat.lt_of_lt_of_le h.lt hb.size, upT h.below hb⟩
theorem LnG.alloc (h : LnG w W A n c) (o : Obj) : LnG w (W.alloc o) A n c := h.up (upA (up0 W) o)
theorem wp_ld {ops : Array Oper} {rest : List Oper} {o : Oper} {a : Act} {Q : Exit → Act → World → Prop} (hgd : o.guard = none) (x : Operand) (ho : o.op = .load 9 x) (g q : Nat) (R : Array Value) (B : Nat) (t : TypeId)
    (hx : a.eval x = .pointer (some ⟨g, q, none⟩)) (hg : g = W.heap.size) (hG : LnG w W A n c) (hq : q < R.size) (hR : StrRow R B)
    (h : ∀ (s : ByteArray) (W2 : World), s.size ≤ B → LnG w W2 A n c → wpList Tryd.prog ops Q rest (a.put o.dst (.string s)) W2) : wpList Tryd.prog ops Q (o :: rest) a (W.alloc (.cells R t)) := by
  subst hg
  exact wp_load_str hgd x ho W.heap.size q R B t (0, 0) hx (heap_alloc_new W _) hq hR (fun s hs => h s _ hs (hG.alloc _))
end
theorem wp_cat {w : World} {ops : Array Oper} {rest : List Oper} {o : Oper} {a : Act} {Q : Exit → Act → World → Prop} (hgd : o.guard = none) (x y : Operand) (ho : o.op = .binOp .add 9 x y 9) (s t : ByteArray) {b1 b2 : Nat}
    (hx : a.eval x = .string s) (hy : a.eval y = .string t) (hs : s.size ≤ b1) (ht : t.size ≤ b2) (hb : b1 + b2 ≤ 1000)
    (h : ∀ u : ByteArray, u.size ≤ b1 + b2 → wpList Tryd.prog ops Q rest (a.put o.dst (.string u)) w) : wpList Tryd.prog ops Q (o :: rest) a w := by
  have hsz : (s ++ t).size ≤ b1 + b2 := by rw [ByteArray.size_append]; omega
  have hbig : s.size + t.size ≤ 1000 := by omega
  have hl : (binOp .add 9 (.string s) (.string t)).run Tryd.prog w = .ok (.string (s ++ t)) w := by
    rw [binOp_string_add, run_string_add_sum _ _ _ (by omega)]
  have hg : (eqGuard .add 9 x y (.string s) (.string t)).run Tryd.prog w = .ok () w := rfl
  refine wpList_plain hgd fun K hK => ?_
  unfold Oper.wp execOp
  simp only [ho, hx, hy, Sem.run_bind, Sem.run_pure, hg, hl, Result.andThen_ok]
  exact hK _ _ (h _ hsz)
theorem lit_size (a : Array UInt8) : (⟨a⟩ : ByteArray).size = a.size := rfl
theorem mod_of (x m : Int) (hm : 0 < m) : ∃ q : Nat, (q : Int) < m ∧ (bits .and .i64 x 255) % m = q :=
  ⟨((bits .and .i64 x 255) % m).toNat, by have h1 := Int.emod_nonneg (bits .and .i64 x 255) (show m ≠ 0 by omega); have h2 := Int.emod_lt_of_pos (bits .and .i64 x 255) hm; omega, by have h1 := Int.emod_nonneg (bits .and .i64 x 255) (show m ≠ 0 by omega); omega⟩
theorem and3_of (x : Int) : ∃ q : Nat, q < 4 ∧ bits .and .i64 x 3 = q :=
  ⟨(x % 4).toNat, by omega, by have := Wd.bits_mask x 2 (by omega); rw [show (3 : Int) = 2 ^ 2 - 1 from rfl, this]; omega⟩
theorem and255_nn (x : Int) : 0 ≤ bits .and .i64 x 255 := by have := Wd.bits_mask x 8 (by omega); rw [show (255 : Int) = 2 ^ 8 - 1 from rfl, this]; omega
theorem and7_of (x : Int) : ∃ q : Nat, q < 8 ∧ bits .and .i64 x 7 = q :=
  ⟨(x % 8).toNat, by omega, by have := Wd.bits_mask x 3 (by omega); rw [show (7 : Int) = 2 ^ 3 - 1 from rfl, this]; omega⟩
set_option maxRecDepth 100000 in
set_option maxHeartbeats 20000000 in
theorem line5_any (A : Option Addr) (n c : Nat) (z : List Int) (w : World) (hn : n = z.length) (hr : Rd w w.heap.size A (z.map (Value.int .i64))) :
    Calls Tryd.prog 14 #[.slice A n c] w fun e w' => ∃ s : ByteArray, e = .returned (.string s) ∧ s.size ≤ 100 ∧ Below w.heap.size w w' := by
  have HG : LnG w (w.alloc (.cells #[.slice A n c] 35)) A n c := ⟨cell_of_row _ _ 0 _ _ _ (heap_alloc_new w _), by simp, upA (up0 w) _⟩
  have hk := fun i hi W (hG : LnG w W A n c) => k_any i A n c w.heap.size z W hi hn hG.box ((hr.below hG.below (Nat.le_refl _)).more hG.below.size)
  have K0 := Lib.hid (fun W hG => hk 0 (by decide) W hG); have K1 := Lib.hid (fun W hG => hk 1 (by decide) W hG); have K2 := Lib.hid (fun W hG => hk 2 (by decide) W hG); have K3 := Lib.hid (fun W hG => hk 3 (by decide) W hG); have K4 := Lib.hid (fun W hG => hk 4 (by decide) W hG); have K5 := Lib.hid (fun W hG => hk 5 (by decide) W hG)
  clear hk hr hn
  generalize z.getD 0 0 = x0 at *
  generalize z.getD 1 0 = x1 at *
  generalize z.getD 2 0 = x2 at *
  generalize z.getD 3 0 = x3 at *
  generalize z.getD 4 0 = x4 at *
  generalize z.getD 5 0 = x5 at *
  obtain ⟨q1, hq1, m1⟩ := and3_of x1
  obtain ⟨q5, hq5, m5⟩ := mod_of x5 6 (by decide)
  obtain ⟨q2, hq2, m2⟩ := mod_of x2 11 (by decide)
  obtain ⟨r2, hr2, l2⟩ := mod_of x2 7 (by decide)
  obtain ⟨q0, hq0, m0⟩ := mod_of x0 22 (by decide)
  have hq5 : q5 < 6 := by omega
  have hq2 : q2 < 11 := by omega
  have hr2 : r2 < 7 := by omega
  have hq0 : q0 < 22 := by omega
  have n5 := and255_nn x5; have n2 := and255_nn x2; have n0 := and255_nn x0
  have hmf := hmf
  have get : ∀ (R : Array Value) (B q : Nat), StrRow R B → q < R.size → ∃ s : ByteArray, R[q]? = some (.string s) ∧ s.size ≤ B := fun R B q h hq => by
    obtain ⟨v, hv⟩ : ∃ v, R[q]? = some v := ⟨R[q], by simp [hq]⟩
    obtain ⟨s, rfl, hs⟩ := h q v hv
    exact ⟨s, hv, hs⟩
  obtain ⟨sD, gD, hD⟩ := get lnD 2 q1 lnD_ok hq1
  obtain ⟨sN, gN, hN⟩ := get lnN 3 q5 lnN_ok hq5
  obtain ⟨sO, gO, hO⟩ := get lnO 3 q2 lnO_ok hq2
  obtain ⟨sM, gM, hM⟩ := get lnM 4 r2 lnM_ok hr2
  clear get
  have cD : ((w.alloc (.cells #[.slice A n c] 35)).alloc (.cells lnD 9)).cell? ⟨w.heap.size + 1, q1, none⟩ = some (.string sD) := by
    have h := heap_alloc_new (w.alloc (.cells #[.slice A n c] 35)) (.cells lnD 9)
    rw [show (w.alloc (.cells #[.slice A n c] 35)).heap.size = w.heap.size + 1 by simp] at h
    rw [cell_of_row _ _ _ _ _ _ h]; exact gD
  have cN : (((w.alloc (.cells #[.slice A n c] 35)).alloc (.cells lnD 9)).alloc (.cells lnN 9)).cell? ⟨w.heap.size + 1 + 1, q5, none⟩ = some (.string sN) := by
    have h := heap_alloc_new ((w.alloc (.cells #[.slice A n c] 35)).alloc (.cells lnD 9)) (.cells lnN 9)
    rw [show ((w.alloc (.cells #[.slice A n c] 35)).alloc (.cells lnD 9)).heap.size = w.heap.size + 1 + 1 by simp] at h
    rw [cell_of_row _ _ _ _ _ _ h]; exact gN
  have cO : ((((w.alloc (.cells #[.slice A n c] 35)).alloc (.cells lnD 9)).alloc (.cells lnN 9)).alloc (.cells lnO 9)).cell? ⟨w.heap.size + 1 + 1 + 1, q2, none⟩ = some (.string sO) := by
    have h := heap_alloc_new (((w.alloc (.cells #[.slice A n c] 35)).alloc (.cells lnD 9)).alloc (.cells lnN 9)) (.cells lnO 9)
    rw [show (((w.alloc (.cells #[.slice A n c] 35)).alloc (.cells lnD 9)).alloc (.cells lnN 9)).heap.size = w.heap.size + 1 + 1 + 1 by simp] at h
    rw [cell_of_row _ _ _ _ _ _ h]; exact gO
  have cM : (((((w.alloc (.cells #[.slice A n c] 35)).alloc (.cells lnD 9)).alloc (.cells lnN 9)).alloc (.cells lnO 9)).alloc (.cells lnM 9)).cell? ⟨w.heap.size + 1 + 1 + 1 + 1, r2, none⟩ = some (.string sM) := by
    have h := heap_alloc_new ((((w.alloc (.cells #[.slice A n c] 35)).alloc (.cells lnD 9)).alloc (.cells lnN 9)).alloc (.cells lnO 9)) (.cells lnM 9)
    rw [show ((((w.alloc (.cells #[.slice A n c] 35)).alloc (.cells lnD 9)).alloc (.cells lnN 9)).alloc (.cells lnO 9)).heap.size = w.heap.size + 1 + 1 + 1 + 1 by simp] at h
    rw [cell_of_row _ _ _ _ _ _ h]; exact gM
  have G2 := Lib.hid (HG.alloc (.cells lnD 9))
  have G3 := Lib.hid (G2.out.alloc (.cells lnN 9))
  have G4 := Lib.hid (G3.out.alloc (.cells lnO 9))
  have G5 := Lib.hid (G4.out.alloc (.cells lnM 9))
  clear HG gD gN gO gM
  go_enter Tryd.func14, Tryd.ntmps14
  go_wp2_with fail
  refine (K1.out _ G2.out).mono ?_
  rintro e w9 ⟨rfl, rfl⟩
  go_wp2_with fail
  refine (K5.out _ G3.out).mono ?_
  rintro e w9 ⟨rfl, rfl⟩
  go_wp2_with fail
  refine (K2.out _ G4.out).mono ?_
  rintro e w9 ⟨rfl, rfl⟩
  go_wp2_with fail
  refine (K2.out _ G5.out).mono ?_
  rintro e w9 ⟨rfl, rfl⟩
  go_wp2_with fail
  clear cD cN cO cM
  refine (K3.out _ G5.out).mono ?_
  rintro e w9 ⟨rfl, rfl⟩
  go_wp2_with fail
  refine (v_any _ _).mono ?_
  rintro e w6 ⟨sA, rfl, hA, hb6⟩
  have G6 := Lib.hid (G5.out.up hb6)
  clear hb6 G2 G3 G4 G5
  go_wp2_with fail
  refine (K4.out _ G6.out).mono ?_
  rintro e w9 ⟨rfl, rfl⟩
  go_wp2_with fail
  refine (v_any _ _).mono ?_
  rintro e w7 ⟨sB, rfl, hB, hb7⟩
  have G7 := Lib.hid (G6.out.up hb7)
  clear hb7 G6
  go_wp2_with fail
  refine (K0.out _ (G7.out.alloc _)).mono ?_
  rintro e w9 ⟨rfl, rfl⟩
  go_wp2_with (show wpList _ _ _ (⟨_, .load _ _, _, _, _, _⟩ :: _) _ (World.alloc _ _); refine wp_ld rfl _ rfl w7.heap.size q0 _ 60 _ rfl rfl G7.out (by show q0 < 22; exact hq0) ?hR ?_; rotate_left; intro s8 W8 hs8 HG8)
  case hR =>
    intro q v hv
    have hm := Array.mem_of_getElem? hv
    simp only [List.mem_toArray, List.mem_cons, List.not_mem_nil, or_false] at hm
    rcases hm with rfl | rfl | rfl | rfl | rfl | rfl | rfl | rfl | rfl | rfl | rfl | rfl | rfl | rfl | rfl | rfl | rfl | rfl | rfl | rfl | rfl | rfl
    all_goals exact ⟨_, rfl, by simp only [ByteArray.size_append, lit_size, List.size_toArray, List.length_cons, List.length_nil]; omega⟩
  have y0 := and255_nn (x1 / 4)
  obtain ⟨r1, hr1, hl1⟩ : ∃ r : Nat, (bits .and .i64 (x1 / 4) 255).tmod ((s8.size : Int) + 1 + (sB.size : Int)) = r ∧ (r : Int) ≤ (s8.size : Int) + 1 + (sB.size : Int) :=
    ⟨((bits .and .i64 (x1 / 4) 255).tmod ((s8.size : Int) + 1 + (sB.size : Int))).toNat, by have := Int.tmod_nonneg ((s8.size : Int) + 1 + (sB.size : Int)) y0; omega, by have h1 := Int.tmod_nonneg ((s8.size : Int) + 1 + (sB.size : Int)) y0; have h2 := Int.tmod_lt_of_pos (bits .and .i64 (x1 / 4) 255) (show (0 : Int) < (s8.size : Int) + 1 + (sB.size : Int) by omega); omega⟩
  have hl1n : r1 ≤ s8.size + 1 + sB.size := by omega
  obtain ⟨r2, hr2', hl2, hl2n⟩ : ∃ r : Nat, (bits .and .i64 (x1 / 4) 255).tmod (s8.size : Int) = r ∧ (s8.size = 0 ∨ (r : Int) ≤ (s8.size : Int)) ∧ (s8.size = 0 ∨ r ≤ s8.size) := by
    have h1 := Int.tmod_nonneg (s8.size : Int) y0
    rcases Nat.eq_zero_or_pos s8.size with hz | hz
    · exact ⟨((bits .and .i64 (x1 / 4) 255).tmod (s8.size : Int)).toNat, by omega, .inl hz, .inl hz⟩
    · have h2 := Int.tmod_lt_of_pos (bits .and .i64 (x1 / 4) 255) (show (0 : Int) < (s8.size : Int) by omega)
      exact ⟨((bits .and .i64 (x1 / 4) 255).tmod (s8.size : Int)).toNat, by omega, .inr (by omega), .inr (by omega)⟩
  have hcases : s8.size = 0 ∨ (0 < s8.size ∧ (r2 : Int) ≤ (s8.size : Int) ∧ r2 ≤ s8.size) := by omega
  clear hl2 hl2n
  rcases hcases with hz | ⟨hz1, hz2, hz3⟩
  all_goals
    refine (K0.out _ HG8).mono ?_
    rintro e w9 ⟨rfl, rfl⟩
    go_wp2_with fail
  all_goals
    refine (K0.out _ HG8).mono ?_
    rintro e w9 ⟨rfl, rfl⟩
    go_wp2_with fail
  all_goals try (go_ret; exact ⟨_, rfl, by first | omega | (simp only [ByteArray.size_append, lit_size, List.size_toArray, List.length_cons, List.length_nil]; omega), HG8.below⟩)
  all_goals
    refine (K1.out _ HG8).mono ?_
    rintro e w9 ⟨rfl, rfl⟩
    go_wp2_with fail
  all_goals try (go_ret; exact ⟨_, rfl, by first | omega | (simp only [ByteArray.size_append, lit_size, List.size_toArray, List.length_cons, List.length_nil, ByteArray.size_extract]; omega), HG8.below⟩)
  all_goals
    rename_i hh
    exact absurd ⟨Int.emod_nonneg _ (by omega), Int.le_of_lt (Int.emod_lt_of_pos _ (by omega))⟩ hh
end
end Go.Proofs.YtcpbbkpfickfiaaDoor
