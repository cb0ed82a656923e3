/- The walk of WordLaws: it answers true, whatever it is given. -/
import Derived.Test.YthoolemphjingaaWdLaws
import Derived.Test.YthoolemphjingaaAwake1
set_option linter.unusedVariables false
set_option linter.unusedSimpArgs false
namespace Go.Proofs.Ythoolemphjingaa
open Go.RowKit
set_option maxRecDepth 100000 in
set_option maxHeartbeats 2000000 in
theorem walk_WordLaws (w0 a0 b0 c0 : Int) (w : World) : Calls Try.prog 4 #[.int .i64 w0, .int .i64 a0, .int .i64 b0, .int .i64 c0] w (RetG (.bool true) w) := by
  obtain ⟨u, h1, h2, m15⟩ := width_of w0
  obtain ⟨p, hp0, hp1, m31⟩ := low5 c0
  obtain ⟨q, hq0, hq1, m7⟩ := low3 c0
  have hok := Wd.okB_of h1 h2
  have hk0 := (Wd.maskV_bd u p).1
  have hk1 := (Wd.maskV_bd u p).2
  have HOK := Lib.hid hok
  clear hok
  go_enter Try.func4, Try.ntmps4
  go_wp2_with fail
  go_loop [36] (fun v => ∃ k : Nat, k ≤ 5 ∧ v = .int .i64 k) (fun v => 5 - (intOf v).toNat)
  case atStart => exact ⟨0, by omega, rfl⟩
  case round =>
    obtain ⟨k, hk, rfl⟩ := hrel
    rcases (by omega : k = 5 ∨ k = 0 ∨ k = 1 ∨ k = 2 ∨ k = 3 ∨ k = 4) with rfl | rfl | rfl | rfl | rfl | rfl
    · by_cases hk : u ≤ Wd.maskV u p
      all_goals by_cases hf : u ≤ Wd.maskV u (u + q)
      all_goals
        first | have x1 := Wd.do6_far (a := a0) hk | have x1 := trivial
        first | have x2 := Wd.do7_far (a := a0) HOK.out hk | have x2 := trivial
        first | have x3 := Wd.do6_far (a := a0) hf | have x3 := trivial
        first | have x4 := Wd.updown (a := a0) HOK.out (Int.not_le.1 hk) | have x4 := trivial
        have x5 := Wd.do7 (w := u) (a := a0) (b := p) HOK.out
        first | have x6 := Wd.low_of (d := u - Wd.maskV u p) (a := a0) (by omega) (by omega) | have x6 := trivial
        go_wp2_with (first | (go_at_call 11; refine (do_any _ _ _ _ _).mono ?_; rintro e w' ⟨rfl, rfl⟩) | (go_at_call 12; refine (mask_any _ _ _).mono ?_; rintro e w' ⟨rfl, rfl⟩) | (go_at_call 13; refine (awake1 _).mono ?_; rintro e w' ⟨rfl, rfl⟩))
        go_ret
        exact RetG.b rfl rfl (by repeat (first | exact Grown.refl _ | apply Grown.drew | apply Grown.alloc))
    · have y1 := Wd.opComm (w := u) (a := a0) (b := b0) (op := 1) (by simp)
      have y2 := Wd.opAssoc' (w := u) (a := a0) (b := b0) (c := c0) (op := 1) HOK.out (by simp)
      go_wp2_with (go_at_call 11; refine (do_any _ _ _ _ _).mono ?_; rintro e w' ⟨rfl, rfl⟩)
      go_round
      case rel => exact ⟨1, by omega, rfl⟩
      case measure => simp [intOf]
    · have y1 := Wd.opComm (w := u) (a := a0) (b := b0) (op := 3) (by simp)
      have y2 := Wd.opAssoc' (w := u) (a := a0) (b := b0) (c := c0) (op := 3) HOK.out (by simp)
      go_wp2_with (go_at_call 11; refine (do_any _ _ _ _ _).mono ?_; rintro e w' ⟨rfl, rfl⟩)
      go_round
      case rel => exact ⟨2, by omega, rfl⟩
      case measure => simp [intOf]
    · have y1 := Wd.opComm (w := u) (a := a0) (b := b0) (op := 4) (by simp)
      have y2 := Wd.opAssoc' (w := u) (a := a0) (b := b0) (c := c0) (op := 4) HOK.out (by simp)
      go_wp2_with (go_at_call 11; refine (do_any _ _ _ _ _).mono ?_; rintro e w' ⟨rfl, rfl⟩)
      go_round
      case rel => exact ⟨3, by omega, rfl⟩
      case measure => simp [intOf]
    · have y1 := Wd.opComm (w := u) (a := a0) (b := b0) (op := 5) (by simp)
      have y2 := Wd.opAssoc' (w := u) (a := a0) (b := b0) (c := c0) (op := 5) HOK.out (by simp)
      go_wp2_with (go_at_call 11; refine (do_any _ _ _ _ _).mono ?_; rintro e w' ⟨rfl, rfl⟩)
      go_round
      case rel => exact ⟨4, by omega, rfl⟩
      case measure => simp [intOf]
    · have y1 := Wd.opComm (w := u) (a := a0) (b := b0) (op := 8) (by simp)
      have y2 := Wd.opAssoc' (w := u) (a := a0) (b := b0) (c := c0) (op := 8) HOK.out (by simp)
      go_wp2_with (go_at_call 11; refine (do_any _ _ _ _ _).mono ?_; rintro e w' ⟨rfl, rfl⟩)
      go_round
      case rel => exact ⟨5, by omega, rfl⟩
      case measure => simp [intOf]
end Go.Proofs.Ythoolemphjingaa
