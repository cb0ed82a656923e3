/- The walk of WordShifts: it answers true, whatever it is given. -/
import Derived.Test.YthoolemphjingaaWdLaws
import Derived.Test.YthoolemphjingaaAwake1
set_option linter.unusedVariables false
set_option linter.unusedSimpArgs false
namespace Go.Proofs.Ythoolemphjingaa
open Go.RowKit
set_option maxRecDepth 100000 in
set_option maxHeartbeats 1000000 in
theorem walk_WordShifts (w0 a0 n0 k0 : Int) (w : World) : Calls Try.prog 6 #[.int .i64 w0, .int .i64 a0, .int .i64 n0, .int .i64 k0] w (Ret (.bool true) w) := by
  obtain ⟨u, h1, h2, m15⟩ := width_of w0
  obtain ⟨p, hp0, hp1, m7⟩ := low3 n0
  obtain ⟨q, hq0, hq1, m7'⟩ := low3 k0
  have hok := Wd.okB_of h1 h2
  have e1 := Wd.dbl u a0
  have e0 := Wd.doB_of (op := 6) hok (by omega) (by omega)
  have hm0 := (Wd.maskV_bd u a0).1
  have hm1 := (Wd.maskV_bd u a0).2
  by_cases hu : 2 ≤ u
  all_goals by_cases hs : p + q < Wd.sizeV u
  all_goals
    first | have e2 := Wd.up1 (a := a0) hok hu | have e2 := trivial
    first | have e3 := Wd.dn1 (a := a0) hok hu | have e3 := trivial
    first | have e4 := Wd.up_up (a := a0) hok hp0 hq0 hs | have e4 := trivial
    first | have e5 := Wd.dn_dn (a := a0) hok hp0 hq0 hs | have e5 := trivial
    clear hok
    go_enter Try.func6, Try.ntmps6
    go_wp2_with (first | (go_at_call 11; refine (do_any _ _ _ _ _).mono ?_; rintro e w' ⟨rfl, rfl⟩) | (go_at_call 14; refine (size_any _ _).mono ?_; rintro e w' ⟨rfl, rfl⟩) | (go_at_call 12; refine (mask_any _ _ _).mono ?_; rintro e w' ⟨rfl, rfl⟩) | (go_at_call 13; refine (awake1 _).mono ?_; rintro e w' ⟨rfl, rfl⟩))
    go_ret
    exact Ret.b rfl rfl
end Go.Proofs.Ythoolemphjingaa
