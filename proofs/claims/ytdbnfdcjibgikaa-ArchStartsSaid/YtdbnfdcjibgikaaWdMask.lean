/- Contracts of both Masks. -/
import Derived.Test.YtdbnfdcjibgikaaRetW
import Derived.Test.YtdbnfdcjibgikaaWdMath
import Derived.Test.YtdbnfdcjibgikaaRx25
import Derived.Lib.Hide
set_option linter.unusedVariables false
set_option linter.unusedSimpArgs false
namespace Go.Proofs.Ytdbnfdcjibgikaa
open Go.RowKit
theorem int_eq {k : IntKind} {a b : Int} (h : a = b) : Value.int k a = Value.int k b := by rw [h]
theorem bool_eq {a b : Bool} (h : a = b) : Value.bool a = Value.bool b := by rw [h]
theorem ok_any (n : Int) (w : World) : Calls Try.prog 33 #[.int .i64 n] w (Ret (.bool (Wd.okB n)) w) := by
  by_cases h1 : 1 ≤ n
  all_goals by_cases h2 : n ≤ 16
  all_goals
    go_enter Try.func33, Try.ntmps33
    go_wp2
    go_ret
    exact Ret.mk (bool_eq (by simp [Wd.okB]; omega))
theorem size_any (n : Int) (w : World) : Calls Try.prog 34 #[.int .i64 n] w (Ret (.int .i64 (Wd.sizeV n)) w) := by
  by_cases h1 : Wd.okB n = true
  · have h2 := Wd.okB_iff.1 h1
    have h3 : 1 ≤ n := h2.1
    have h4 : n ≤ 16 := h2.2
    clear h2
    go_enter Try.func34, Try.ntmps34
    go_wp2_with (go_at_call 33; refine (ok_any _ _).mono ?_; rintro e w' ⟨rfl, rfl⟩)
    go_ret
    refine Ret.mk (int_eq ?_)
    have hz := Wd.sizeV_bd n
    unfold Wd.sizeV at *; rw [if_pos h1] at *
    exact IntWalk.wrap64_in _ (by omega)
  · have h1 : Wd.okB n = false := by simpa using h1
    go_enter Try.func34, Try.ntmps34
    go_wp2_with (go_at_call 33; refine (ok_any _ _).mono ?_; rintro e w' ⟨rfl, rfl⟩)
    go_ret
    exact Ret.mk (int_eq (by simp [Wd.sizeV, h1]))
theorem mask_any (n a : Int) (w : World) : Calls Try.prog 25 #[.int .i64 n, .int .i64 a] w (Ret (.int .i64 (Wd.maskV n a)) w) := by
  by_cases h1 : Wd.okB n = true
  · have hz := Wd.sizeV_bd n
    have HZ := Lib.hid hz.1
    have h2 := Wd.okB_iff.1 h1
    go_enter Try.func25, Try.ntmps25
    go_wp2_with (first | (go_at_call 33; refine (ok_any _ _).mono ?_; rintro e w' ⟨rfl, rfl⟩) | (go_at_call 34; refine (size_any _ _).mono ?_; rintro e w' ⟨rfl, rfl⟩))
    go_ret
    refine Ret.mk (int_eq ?_)
    obtain ⟨k, rfl, _, hk⟩ := Wd.okB_nat h1
    have := Wd.bits_mask a k hk
    simp only [Wd.sizeV, Wd.maskV, h1, if_true, Int.toNat_natCast]
    exact this
  · have h1 : Wd.okB n = false := by simpa using h1
    go_enter Try.func25, Try.ntmps25
    go_wp2_with (go_at_call 33; refine (ok_any _ _).mono ?_; rintro e w' ⟨rfl, rfl⟩)
    go_ret
    exact Ret.mk (int_eq (by simp [Wd.maskV, h1]))

namespace Wd
theorem sizeV_pos {w : Int} (h : okB w = true) : 2 ≤ sizeV w := by
  obtain ⟨k, rfl, h1, hk⟩ := okB_nat h
  unfold sizeV; rw [if_pos h, Int.toNat_natCast]
  have : (2 : Nat) ^ 1 ≤ 2 ^ k := Nat.pow_le_pow_right (by omega) h1
  have h2 : ((2 ^ 1 : Nat) : Int) ≤ ((2 ^ k : Nat) : Int) := by exact_mod_cast this
  simpa using h2
theorem tmod_mask {w n : Int} (h : okB w = true) : (n.tmod (sizeV w) + sizeV w) % sizeV w = maskV w n ∧ - sizeV w < n.tmod (sizeV w) ∧ n.tmod (sizeV w) < sizeV w := by
  have hs := sizeV_pos h
  have h1 := Int.tmod_lt_of_pos n (b := sizeV w) (by omega)
  have h2 : - sizeV w < n.tmod (sizeV w) := by
    by_cases hn : 0 ≤ n
    · have := Int.tmod_nonneg (sizeV w) hn; omega
    · have := Int.tmod_lt_of_pos (-n) (b := sizeV w) (by omega)
      rw [Int.neg_tmod] at this; omega
  refine ⟨?_, h2, h1⟩
  rw [Int.add_emod_right]
  have e : maskV w n = n % sizeV w := by unfold maskV sizeV; rw [if_pos h, if_pos h]
  rw [e, Int.tmod_eq_emod]
  split
  · simp
  · rw [Int.natAbs_of_nonneg (by omega), Int.sub_emod, Int.emod_self, Int.sub_zero, Int.emod_emod, Int.emod_emod]
end Wd
theorem rsize_any (n : Int) (w : World) : Calls Try.prog 31 #[.int .i64 n] w (Ret (.int .i64 (Wd.sizeV n)) w) := by
  by_cases h1 : Wd.okB n = true
  · have h2 := Wd.okB_iff.1 h1
    have h3 : 1 ≤ n := h2.1
    have h4 : n ≤ 16 := h2.2
    clear h2
    go_enter Try.func31, Try.ntmps31
    go_wp2
    go_ret
    refine Ret.i rfl ?_
    have hz := Wd.sizeV_bd n
    unfold Wd.sizeV at *; rw [if_pos h1] at *
    exact IntWalk.wrap64_in _ (by omega)
  · have h1 : Wd.okB n = false := by simpa using h1
    by_cases h2 : n < 1
    · go_enter Try.func31, Try.ntmps31
      go_wp2
      go_ret
      exact Ret.i rfl (by simp [Wd.sizeV, h1])
    · have h3 : 16 < n := by simp [Wd.okB] at h1; omega
      go_enter Try.func31, Try.ntmps31
      go_wp2
      go_ret
      exact Ret.i rfl (by simp [Wd.sizeV, h1])
theorem rmask_any (n a : Int) (w : World) : Calls Try.prog 16 #[.int .i64 n, .int .i64 a] w (Ret (.int .i64 (Wd.maskV n a)) w) := by
  by_cases h1 : Wd.okB n = true
  · have hs := Wd.sizeV_pos h1
    have hs2 := (Wd.sizeV_bd n).2
    have ht := (Wd.tmod_mask (n := a) h1).2
    have ht1 := ht.1
    have ht2 := ht.2
    clear ht
    go_enter Try.func16, Try.ntmps16
    go_wp2_with (go_at_call 31; refine (rsize_any _ _).mono ?_; rintro e w' ⟨rfl, rfl⟩)
    go_ret
    exact Ret.i rfl (Wd.tmod_mask h1).1
  · have h1 : Wd.okB n = false := by simpa using h1
    have hs : Wd.sizeV n = 0 := by simp [Wd.sizeV, h1]
    go_enter Try.func16, Try.ntmps16
    go_wp2_with (go_at_call 31; refine (rsize_any _ _).mono ?_; rintro e w' ⟨rfl, rfl⟩)
    go_ret
    exact Ret.i rfl (by simp [Wd.maskV, h1])

namespace Px
open Rx
/-- a contract of the elder kind: a number, of two numbers -/
theorem ofRet2 {f : FuncId} {k1 k2 k : IntKind} {a b c : Int} (h : ∀ w, Calls Try.prog f #[.int k1 a, .int k2 b] w (Ret (.int k c) w)) : PureC Try.prog f [.int k1 a, .int k2 b] (.int k c) [] := by
  intro w R vs hR hl ha
  obtain ⟨vs⟩ := vs
  match vs, hl, ha with
  | [x, y], _, ha =>
    have h1 := ha 0 _ x rfl rfl
    have h2 := ha 1 _ y rfl rfl
    cases h1; cases h2
    refine (h w).mono ?_
    rintro e w' ⟨rfl, rfl⟩
    exact ⟨_, ⟨w, R, fun _ => none, fun i => ([] : List Blk)[i]?, w.heap.size⟩, rfl, rfl, rfl, ⟨fun id b hb => (by simp at hb), fun _ _ _ _ _ _ _ h1 _ => (by cases h1), hR, Nat.le_refl _⟩, rfl, fun _ h => h, fun _ h => .inl h, Below.refl _ _, .pure (.int _ _)⟩
theorem maskC (W n : Int) : PureC Try.prog 25 [.int .i64 W, .int .i64 n] (.int .i64 (Wd.maskV W n)) [] := ofRet2 fun w => mask_any W n w
theorem rmaskC (W n : Int) : PureC Try.prog 16 [.int .i64 W, .int .i64 n] (.int .i64 (Wd.maskV W n)) [] := ofRet2 fun w => rmask_any W n w
end Px
end Go.Proofs.Ytdbnfdcjibgikaa
