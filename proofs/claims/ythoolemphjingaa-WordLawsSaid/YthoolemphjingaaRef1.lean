/- Contracts of the document's own words (package auguryref1), as they are reached here: they come to the same plain functions as package word. -/
import Derived.Test.YthoolemphjingaaWord
set_option linter.unusedVariables false
set_option linter.unusedSimpArgs false
namespace Go.Proofs.Ythoolemphjingaa
open Go.RowKit
namespace Wd
theorem sizeV_pos {w : Int} (h : okB w = true) : 2 ≤ sizeV w := by
  obtain ⟨k, rfl, h1, hk⟩ := okB_nat h
  unfold sizeV; rw [if_pos h, Int.toNat_natCast]
  have : (2 : Nat) ^ 1 ≤ 2 ^ k := Nat.pow_le_pow_right (by omega) h1
  have h2 : ((2 ^ 1 : Nat) : Int) ≤ ((2 ^ k : Nat) : Int) := by exact_mod_cast this
  simpa using h2
theorem tmod_mask {w n : Int} (h : okB w = true) : (n.tmod (sizeV w) + sizeV w) % sizeV w = maskV w n ∧ - sizeV w < n.tmod (sizeV w) ∧ n.tmod (sizeV w) < sizeV w := by
  have hs := sizeV_pos h
  have h1 := Int.tmod_lt_of_pos n (b := sizeV w) (by omega)
  have h2 : - sizeV w < n.tmod (sizeV w) := by
    by_cases hn : 0 ≤ n
    · have := Int.tmod_nonneg (sizeV w) hn; omega
    · have := Int.tmod_lt_of_pos (-n) (b := sizeV w) (by omega)
      rw [Int.neg_tmod] at this; omega
  refine ⟨?_, h2, h1⟩
  rw [Int.add_emod_right]
  have e : maskV w n = n % sizeV w := by unfold maskV sizeV; rw [if_pos h, if_pos h]
  rw [e, Int.tmod_eq_emod]
  split
  · simp
  · rw [Int.natAbs_of_nonneg (by omega), Int.sub_emod, Int.emod_self, Int.sub_zero, Int.emod_emod, Int.emod_emod]
theorem lt_pow {w x : Int} (h : okB w = true) (h1 : x < sizeV w) (h0 : 0 ≤ x) : x.toNat < 2 ^ w.toNat := by
  unfold sizeV at h1; rw [if_pos h] at h1
  have : ((2 ^ w.toNat : Nat) : Int) = 2 ^ w.toNat := by simp
  omega
theorem mask_nat {w : Int} {m : Nat} (h : okB w = true) (h1 : m < 2 ^ w.toNat) : maskV w (m : Int) = (m : Int) := by
  refine maskV_of_lt h (by omega) ?_
  unfold sizeV; rw [if_pos h]
  have : ((2 ^ w.toNat : Nat) : Int) = 2 ^ w.toNat := by simp
  omega
theorem ref3 {w a b : Int} (h : okB w = true) : bits .and .i64 (maskV w a) (maskV w b) = doV w 3 a b := by
  have ha := maskV_bd w a; have hb := maskV_bd w b
  rw [bits_and ha.1 ha.2 hb.1 hb.2]; unfold doV; simp only [rawV]; simp
  refine (mask_nat h ?_).symm
  exact Nat.and_lt_two_pow _ (lt_pow h (maskV_lt h) hb.1)
theorem ref4 {w a b : Int} (h : okB w = true) : bits .or .i64 (maskV w a) (maskV w b) = doV w 4 a b := by
  have ha := maskV_bd w a; have hb := maskV_bd w b
  rw [bits_or ha.1 ha.2 hb.1 hb.2]; unfold doV; simp only [rawV]; simp
  refine (mask_nat h ?_).symm
  exact Nat.or_lt_two_pow (lt_pow h (maskV_lt h) ha.1) (lt_pow h (maskV_lt h) hb.1)
theorem ref5 {w a b : Int} (h : okB w = true) : bits .xor .i64 (maskV w a) (maskV w b) = doV w 5 a b := by
  have ha := maskV_bd w a; have hb := maskV_bd w b
  rw [bits_xor ha.1 ha.2 hb.1 hb.2]; unfold doV; simp only [rawV]; simp
  refine (mask_nat h ?_).symm
  exact Nat.xor_lt_two_pow (lt_pow h (maskV_lt h) ha.1) (lt_pow h (maskV_lt h) hb.1)
theorem do6_far {w a b : Int} (h : w ≤ maskV w b) : doV w 6 a b = 0 := by
  unfold doV; simp only [rawV]; simp
  unfold maskV; split
  · rename_i ho
    have := okB_iff.1 ho
    refine pow_mod ?_
    unfold maskV at h; rw [if_pos ho] at h; omega
  · rfl
theorem do7_far {w a b : Int} (hw : okB w = true) (h : w ≤ maskV w b) : doV w 7 a b = 0 := by
  have ha := maskV_bd w a
  have ho := okB_iff.1 hw
  have hl := maskV_lt (n := a) hw
  have e : maskV w a / 2 ^ (maskV w b).toNat = 0 := by
    refine Int.ediv_eq_zero_of_lt ha.1 ?_
    unfold sizeV at hl; rw [if_pos hw] at hl
    have : (2 : Nat) ^ w.toNat ≤ 2 ^ (maskV w b).toNat := Nat.pow_le_pow_right (by omega) (by omega)
    have h2 : ((2 ^ w.toNat : Nat) : Int) ≤ ((2 ^ (maskV w b).toNat : Nat) : Int) := by exact_mod_cast this
    simp at h2; omega
  unfold doV; simp only [rawV]; simp
  rw [e]; simp [maskV]
theorem ref7 {w a b : Int} (hw : okB w = true) : maskV w a / 2 ^ (maskV w b).toNat = doV w 7 a b := by
  have ha := maskV_bd w a
  have hl := maskV_lt (n := a) hw
  unfold doV; simp only [rawV]; simp
  refine (maskV_of_lt hw ?_ ?_).symm
  · exact Int.ediv_nonneg ha.1 (by have := pow_pos (maskV w b).toNat; omega)
  · have := Int.ediv_le_self (2 ^ (maskV w b).toNat) ha.1; omega
theorem ref7' {w a b : Int} (hw : okB w = true) : maskV w a / 2 ^ min (maskV w b).toNat 64 = doV w 7 a b := by
  rw [shr_min (maskV_bd w a).1 (maskV_bd w a).2]; exact ref7 hw
theorem mask_one {w : Int} (hw : okB w = true) (b : Bool) : maskV w (tI b) = tI b := by
  have := sizeV_pos hw
  exact maskV_of_lt hw (by unfold tI; split <;> omega) (by unfold tI; split <;> omega)
theorem ref6 {w a b : Int} : maskV w (wrap64 (maskV w a * 2 ^ (min (maskV w b).toNat 64))) = doV w 6 a b := by
  unfold doV; rw [← recV_mask]; rfl
theorem ref8 {w a b : Int} : maskV w (wrap64 (maskV w a * maskV w b)) = doV w 8 a b := by
  unfold doV; rw [← recV_mask]; rw [rec8 (maskV_bd w a).1 (maskV_bd w a).2 (maskV_bd w b).1 (maskV_bd w b).2]
theorem ref1 {w a b : Int} : maskV w (maskV w a + maskV w b) = doV w 1 a b := rfl
theorem ref2 {w a b : Int} : maskV w (maskV w a - maskV w b) = doV w 2 a b := rfl
theorem ref0 {w a b op : Int} (h : op < 1 ∨ 10 < op) : 0 = doV w op a b := by
  unfold doV; rw [raw_no h]; simp [maskV]
theorem ref9 {w a b : Int} (hw : okB w = true) : tI (decide (maskV w a < maskV w b)) = doV w 9 a b := by
  rw [← mask_one hw]; unfold doV; rw [rec9, recV_mask]
theorem ref10 {w a b : Int} (hw : okB w = true) : tI (maskV w a == maskV w b) = doV w 10 a b := by
  rw [← mask_one hw]; unfold doV; rw [rec10, recV_mask]
end Wd

theorem rsize_any (n : Int) (w : World) : Calls Try.prog 17 #[.int .i64 n] w (Ret (.int .i64 (Wd.sizeV n)) w) := by
  by_cases h1 : Wd.okB n = true
  · have h2 := Wd.okB_iff.1 h1
    have h3 : 1 ≤ n := h2.1
    have h4 : n ≤ 16 := h2.2
    clear h2
    go_enter Try.func17, Try.ntmps17
    go_wp2
    go_ret
    refine Ret.i rfl ?_
    have hz := Wd.sizeV_bd n
    unfold Wd.sizeV at *; rw [if_pos h1] at *
    exact IntWalk.wrap64_in _ (by omega)
  · have h1 : Wd.okB n = false := by simpa using h1
    by_cases h2 : n < 1
    · go_enter Try.func17, Try.ntmps17
      go_wp2
      go_ret
      exact Ret.i rfl (by simp [Wd.sizeV, h1])
    · have h3 : 16 < n := by simp [Wd.okB] at h1; omega
      go_enter Try.func17, Try.ntmps17
      go_wp2
      go_ret
      exact Ret.i rfl (by simp [Wd.sizeV, h1])
theorem rmask_any (n a : Int) (w : World) : Calls Try.prog 16 #[.int .i64 n, .int .i64 a] w (Ret (.int .i64 (Wd.maskV n a)) w) := by
  by_cases h1 : Wd.okB n = true
  · have hs := Wd.sizeV_pos h1
    have hs2 := (Wd.sizeV_bd n).2
    have ht := (Wd.tmod_mask (n := a) h1).2
    have ht1 := ht.1
    have ht2 := ht.2
    clear ht
    go_enter Try.func16, Try.ntmps16
    go_wp2_with (go_at_call 17; refine (rsize_any _ _).mono ?_; rintro e w' ⟨rfl, rfl⟩)
    go_ret
    exact Ret.i rfl (Wd.tmod_mask h1).1
  · have h1 : Wd.okB n = false := by simpa using h1
    have hs : Wd.sizeV n = 0 := by simp [Wd.sizeV, h1]
    go_enter Try.func16, Try.ntmps16
    go_wp2_with (go_at_call 17; refine (rsize_any _ _).mono ?_; rintro e w' ⟨rfl, rfl⟩)
    go_ret
    exact Ret.i rfl (by simp [Wd.maskV, h1])
theorem rtruth_any (b : Bool) (w : World) : Calls Try.prog 19 #[.bool b] w (Ret (.int .i64 (Wd.tI b)) w) := by
  cases b
  all_goals
    go_enter Try.func19, Try.ntmps19
    go_wp2
    go_ret
    exact Ret.i rfl rfl
theorem rdo_no (n op a b : Int) (w : World) (h1 : Wd.okB n = false) : Calls Try.prog 15 #[.int .i64 n, .int .i64 op, .int .i64 a, .int .i64 b] w (Ret (.tuple #[.int .i64 (Wd.doV n op a b), .bool (Wd.doB n op)]) w) := by
  have hs : Wd.sizeV n = 0 := by simp [Wd.sizeV, h1]
  go_enter Try.func15, Try.ntmps15
  go_wp2_with (go_at_call 17; refine (rsize_any _ _).mono ?_; rintro e w' ⟨rfl, rfl⟩)
  go_ret2
  exact Ret.ib rfl rfl (by simp [Wd.doV, Wd.maskV, h1]) (by simp [Wd.doB, h1])
set_option maxHeartbeats 4000000 in
theorem rdo_yes (n op a b : Int) (w : World) (h1 : Wd.okB n = true) : Calls Try.prog 15 #[.int .i64 n, .int .i64 op, .int .i64 a, .int .i64 b] w (Ret (.tuple #[.int .i64 (Wd.doV n op a b), .bool (Wd.doB n op)]) w) := by
  have hs := Wd.sizeV_pos h1
  have ha := Wd.maskV_bd n a
  have hb := Wd.maskV_bd n b
  rcases (by omega : op = 1 ∨ op = 2 ∨ op = 3 ∨ op = 4 ∨ op = 5 ∨ op = 6 ∨ op = 7 ∨ op = 8 ∨ op = 9 ∨ op = 10 ∨ op < 1 ∨ 10 < op) with rfl | rfl | rfl | rfl | rfl | rfl | rfl | rfl | rfl | rfl | h | h
  all_goals by_cases hf : n ≤ Wd.maskV n b
  all_goals
    go_enter Try.func15, Try.ntmps15
    go_wp2_with (first | (go_at_call 17; refine (rsize_any _ _).mono ?_; rintro e w' ⟨rfl, rfl⟩) | (go_at_call 16; refine (rmask_any _ _ _).mono ?_; rintro e w' ⟨rfl, rfl⟩) | (go_at_call 19; refine (rtruth_any _ _).mono ?_; rintro e w' ⟨rfl, rfl⟩))
    go_ret2
    refine Ret.ib rfl rfl ?_ ?_
    case refine_2 => first | (simp [Wd.doB, h1, Wd.opB]; done) | (simp [Wd.doB, Wd.opB_no (.inl h)]; done) | (simp [Wd.doB, Wd.opB_no (.inr h)]; done)
  all_goals first | exact Wd.ref0 (.inl h) | exact Wd.ref0 (.inr h) | exact Wd.ref1 | exact Wd.ref2 | exact Wd.ref6 | exact Wd.ref8 | exact Wd.ref3 h1 | exact Wd.ref4 h1 | exact Wd.ref5 h1 | exact Wd.ref7' h1 | exact Wd.ref9 h1 | exact Wd.ref10 h1 | exact (Wd.do6_far hf).symm | exact (Wd.do7_far h1 hf).symm
theorem rdo_any (n op a b : Int) (w : World) : Calls Try.prog 15 #[.int .i64 n, .int .i64 op, .int .i64 a, .int .i64 b] w (Ret (.tuple #[.int .i64 (Wd.doV n op a b), .bool (Wd.doB n op)]) w) := by
  by_cases h : Wd.okB n = true
  · exact rdo_yes n op a b w h
  · exact rdo_no n op a b w (by simpa using h)
end Go.Proofs.Ythoolemphjingaa
