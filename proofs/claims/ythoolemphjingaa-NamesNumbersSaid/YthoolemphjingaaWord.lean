/- Contracts of package word's functions, as they are reached here: each comes to a plain Lean function, and leaves the world as it was. -/
import Derived.Test.YthoolemphjingaaRows
import Derived.Test.YthoolemphjingaaWdMath
import Derived.WalkKit
import Derived.ProofKit
import Derived.OpenShut
import Derived.WalkSpells
import Derived.WalkLawsBesides
import Derived.Lib.Hide
set_option linter.unusedVariables false
set_option linter.unusedSimpArgs false
namespace Go.Proofs.Ythoolemphjingaa
open Go.RowKit

/-- it answers v, and the world is as it was -/
def Ret (v : Value) (w : World) (e : Ending) (w' : World) : Prop := e = .returned v ∧ w = w'
theorem Ret.mk {v v' : Value} {w : World} (h : v' = v) : Ret v w (.returned v') w := ⟨by rw [h], rfl⟩
/-- it answers v, and the world has at most new blocks -/
def RetG (v : Value) (w : World) (e : Ending) (w' : World) : Prop := e = .returned v ∧ Grown w w'
theorem RetG.b {X : Value} {a a' : Bool} {w w' : World} (hx : X = .bool a') (h : a' = a) (hg : Grown w w') : RetG (.bool a) w (.returned X) w' := ⟨by rw [hx, h], hg⟩
theorem Ret.grown {v : Value} {w : World} {e : Ending} {w' : World} (h : Ret v w e w') : RetG v w e w' := ⟨h.1, by rw [← h.2]; exact Grown.refl _⟩
theorem Ret.i {X : Value} {k : IntKind} {a a' : Int} {w : World} (hx : X = .int k a') (h : a' = a) : Ret (.int k a) w (.returned X) w := ⟨by rw [hx, h], rfl⟩
theorem Ret.b {X : Value} {a a' : Bool} {w : World} (hx : X = .bool a') (h : a' = a) : Ret (.bool a) w (.returned X) w := ⟨by rw [hx, h], rfl⟩
theorem Ret.ib {X Y : Value} {k : IntKind} {a a' : Int} {b b' : Bool} {w : World} (hx : X = .int k a') (hy : Y = .bool b') (h : a' = a) (h2 : b' = b) :
    Ret (.tuple #[.int k a, .bool b]) w (.returned (.tuple #[X, Y])) w := ⟨by rw [hx, hy, h, h2], rfl⟩
theorem int_eq {k : IntKind} {a b : Int} (h : a = b) : Value.int k a = Value.int k b := by rw [h]
theorem bool_eq {a b : Bool} (h : a = b) : Value.bool a = Value.bool b := by rw [h]

theorem ok_any (n : Int) (w : World) : Calls Try.prog 10 #[.int .i64 n] w (Ret (.bool (Wd.okB n)) w) := by
  by_cases h1 : 1 ≤ n
  all_goals by_cases h2 : n ≤ 16
  all_goals
    go_enter Try.func10, Try.ntmps10
    go_wp2
    go_ret
    exact Ret.mk (bool_eq (by simp [Wd.okB]; omega))
theorem size_any (n : Int) (w : World) : Calls Try.prog 14 #[.int .i64 n] w (Ret (.int .i64 (Wd.sizeV n)) w) := by
  by_cases h1 : Wd.okB n = true
  · have h2 := Wd.okB_iff.1 h1
    have h3 : 1 ≤ n := h2.1
    have h4 : n ≤ 16 := h2.2
    clear h2
    go_enter Try.func14, Try.ntmps14
    go_wp2_with (go_at_call 10; refine (ok_any _ _).mono ?_; rintro e w' ⟨rfl, rfl⟩)
    go_ret
    refine Ret.mk (int_eq ?_)
    have hz := Wd.sizeV_bd n
    unfold Wd.sizeV at *; rw [if_pos h1] at *
    exact IntWalk.wrap64_in _ (by omega)
  · have h1 : Wd.okB n = false := by simpa using h1
    go_enter Try.func14, Try.ntmps14
    go_wp2_with (go_at_call 10; refine (ok_any _ _).mono ?_; rintro e w' ⟨rfl, rfl⟩)
    go_ret
    exact Ret.mk (int_eq (by simp [Wd.sizeV, h1]))
theorem mask_any (n a : Int) (w : World) : Calls Try.prog 12 #[.int .i64 n, .int .i64 a] w (Ret (.int .i64 (Wd.maskV n a)) w) := by
  by_cases h1 : Wd.okB n = true
  · have hz := Wd.sizeV_bd n
    have HZ := Lib.hid hz.1
    have h2 := Wd.okB_iff.1 h1
    go_enter Try.func12, Try.ntmps12
    go_wp2_with (first | (go_at_call 10; refine (ok_any _ _).mono ?_; rintro e w' ⟨rfl, rfl⟩) | (go_at_call 14; refine (size_any _ _).mono ?_; rintro e w' ⟨rfl, rfl⟩))
    go_ret
    refine Ret.mk (int_eq ?_)
    obtain ⟨k, rfl, _, hk⟩ := Wd.okB_nat h1
    have := Wd.bits_mask a k hk
    simp only [Wd.sizeV, Wd.maskV, h1, if_true, Int.toNat_natCast]
    exact this
  · have h1 : Wd.okB n = false := by simpa using h1
    go_enter Try.func12, Try.ntmps12
    go_wp2_with (go_at_call 10; refine (ok_any _ _).mono ?_; rintro e w' ⟨rfl, rfl⟩)
    go_ret
    exact Ret.mk (int_eq (by simp [Wd.maskV, h1]))

theorem truth_any (b : Bool) (w : World) : Calls Try.prog 20 #[.bool b] w (Ret (.int .i64 (Wd.tI b)) w) := by
  cases b
  all_goals
    go_enter Try.func20, Try.ntmps20
    go_wp2
    go_ret
    exact Ret.i rfl rfl

theorem reckon_any (op x y : Int) (w : World) (h0 : 0 ≤ x) (h1 : x < 65536) (h2 : 0 ≤ y) (h3 : y < 65536) :
    Calls Try.prog 18 #[.int .i64 op, .int .i64 x, .int .i64 y] w (Ret (.tuple #[.int .i64 (Wd.recV op x y), .bool (Wd.opB op)]) w) := by
  rcases (by omega : op = 1 ∨ op = 2 ∨ op = 3 ∨ op = 4 ∨ op = 5 ∨ op = 6 ∨ op = 7 ∨ op = 8 ∨ op = 9 ∨ op = 10 ∨ op < 1 ∨ 10 < op) with rfl | rfl | rfl | rfl | rfl | rfl | rfl | rfl | rfl | rfl | h | h
  all_goals
    go_enter Try.func18, Try.ntmps18
    go_wp2_with (go_at_call 20; refine (truth_any _ _).mono ?_; rintro e w' ⟨rfl, rfl⟩)
    go_ret2
    refine Ret.ib rfl rfl ?_ ?_
    case refine_2 => first | rfl | exact (Wd.opB_no (by omega)).symm
  all_goals first | exact Wd.rec3 h0 h1 h2 h3 | exact Wd.rec4 h0 h1 h2 h3 | exact Wd.rec5 h0 h1 h2 h3 | exact Wd.rec7 h0 h1 | exact Wd.rec8 h0 h1 h2 h3 | exact Wd.rec9 x y | exact Wd.rec10 x y | exact (Wd.rec_no (by omega)).symm | (simp [Wd.recV, Wd.rawV]; done)
theorem do_any (n op a b : Int) (w : World) : Calls Try.prog 11 #[.int .i64 n, .int .i64 op, .int .i64 a, .int .i64 b] w (Ret (.tuple #[.int .i64 (Wd.doV n op a b), .bool (Wd.doB n op)]) w) := by
  by_cases h1 : Wd.okB n = true
  · have ha := Wd.maskV_bd n a
    have hb := Wd.maskV_bd n b
    go_enter Try.func11, Try.ntmps11
    go_wp2_with (first | (go_at_call 10; refine (ok_any _ _).mono ?_; rintro e w' ⟨rfl, rfl⟩) | (go_at_call 12; refine (mask_any _ _ _).mono ?_; rintro e w' ⟨rfl, rfl⟩) | (go_at_call 18; refine (reckon_any _ _ _ _ (Wd.maskV_bd _ _).1 (Wd.maskV_bd _ _).2 (Wd.maskV_bd _ _).1 (Wd.maskV_bd _ _).2).mono ?_; rintro e w' ⟨rfl, rfl⟩))
    go_ret2
    refine Ret.ib rfl rfl ?_ ?_
    · rw [Wd.recV_mask]; rfl
    · simp [Wd.doB, h1]
  · have h1 : Wd.okB n = false := by simpa using h1
    go_enter Try.func11, Try.ntmps11
    go_wp2_with (go_at_call 10; refine (ok_any _ _).mono ?_; rintro e w' ⟨rfl, rfl⟩)
    go_ret2
    exact Ret.ib rfl rfl (by simp [Wd.doV, Wd.maskV, h1]) (by simp [Wd.doB, h1])
end Go.Proofs.Ythoolemphjingaa
