/- The walk of WordFits: it answers true, whatever it is given. -/
import Derived.Test.YthoolemphjingaaWdLaws
import Derived.Test.YthoolemphjingaaAwake1
set_option linter.unusedVariables false
set_option linter.unusedSimpArgs false
namespace Go.Proofs.Ythoolemphjingaa
open Go.RowKit
set_option maxRecDepth 100000 in
set_option maxHeartbeats 1000000 in
theorem walk_WordFits (w0 op0 a0 b0 : Int) (ha : -9223372036854775808 ≤ a0 ∧ a0 ≤ 9223372036854775807) (hb : -9223372036854775808 ≤ b0 ∧ b0 ≤ 9223372036854775807) (w : World) : Calls Try.prog 8 #[.int .i64 w0, .int .i64 op0, .int .i64 a0, .int .i64 b0] w (Ret (.bool true) w) := by
  obtain ⟨u, h1, h2, m15⟩ := width_of w0
  obtain ⟨p, hp0, hp1, m255⟩ := low8 op0
  have hok := Wd.okB_of h1 h2
  have hA1 : -36028797018963968 ≤ a0 / 256 := by omega
  have hA2 : a0 / 256 ≤ 36028797018963968 := by omega
  have hB1 : -36028797018963968 ≤ b0 / 256 := by omega
  have hB2 : b0 / 256 ≤ 36028797018963968 := by omega
  have e1 := Wd.fits (w := u) (op := p % 10 + 1) (a := a0 / 256) (b := b0 / 256)
  have e2 := Wd.doB_of (op := p % 10 + 1) hok (by omega) (by omega)
  have s1 := (Wd.sizeV_bd u).1
  have s2 := (Wd.sizeV_bd u).2
  have g1 := (Wd.doV_bd (op := p % 10 + 1) (a := a0 / 256) (b := b0 / 256) hok).1
  have g2 := (Wd.doV_bd (op := p % 10 + 1) (a := a0 / 256) (b := b0 / 256) hok).2
  have g3 := (Wd.maskV_bd u (a0 / 256)).1
  have g4 := Wd.maskV_lt (w := u) (n := a0 / 256) hok
  have e3 := Wd.mask_size (w := u) (a := a0 / 256)
  have e4 := Wd.sub_add (w := u) (a := a0 / 256) (b := b0 / 256)
  have e5 := Wd.xor_xor (w := u) (a := a0 / 256) (b := b0 / 256) hok
  have e6 := Wd.three (w := u) (a := a0 / 256) (b := b0 / 256) hok
  have c1 := (Wd.do9_bd (a := a0 / 256) (b := b0 / 256) hok).1
  have c2 := (Wd.do9_bd (a := a0 / 256) (b := b0 / 256) hok).2
  have c3 := (Wd.do9_bd (a := b0 / 256) (b := a0 / 256) hok).1
  have c4 := (Wd.do9_bd (a := b0 / 256) (b := a0 / 256) hok).2
  have c5 := (Wd.do10_bd (a := a0 / 256) (b := b0 / 256) hok).1
  have c6 := (Wd.do10_bd (a := a0 / 256) (b := b0 / 256) hok).2
  clear hok
  go_enter Try.func8, Try.ntmps8
  go_wp2_with (first | (go_at_call 11; refine (do_any _ _ _ _ _).mono ?_; rintro e w' ⟨rfl, rfl⟩) | (go_at_call 14; refine (size_any _ _).mono ?_; rintro e w' ⟨rfl, rfl⟩) | (go_at_call 12; refine (mask_any _ _ _).mono ?_; rintro e w' ⟨rfl, rfl⟩) | (go_at_call 13; refine (awake1 _).mono ?_; rintro e w' ⟨rfl, rfl⟩))
  go_ret
  exact Ret.b rfl rfl
end Go.Proofs.Ythoolemphjingaa
