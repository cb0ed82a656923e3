/- The contract of code.Less, and of bytes.Compare beneath it. -/
import Derived.Test.YtlmchkajlecmeaaRetW
import Derived.Test.YtlmchkajlecmeaaCdMath
set_option linter.unusedVariables false
set_option linter.unusedSimpArgs false
namespace Go.Proofs.Ytlmchkajlecmeaa
open Go.RowKit
theorem compare_call (A A' : Option Addr) (B n n' c c' : Nat) (xs ys : List Int) (w : World) (hn : n = xs.length) (hn' : n' = ys.length) (hx : Rd w B A (xs.map (Value.int .u8))) (hy : Rd w B A' (ys.map (Value.int .u8))) :
    Calls Try.prog 26 #[.slice A n c, .slice A' n' c'] w (Ret (.int .i64 (Lib.compareBytes (Lib.bytesOf xs) (Lib.bytesOf ys))) w) := by
  subst hn hn'
  go_enter Try.func26, Try.ntmps26
  go_wp2
  rw [run_callFunc_extern Try.func27 (by kernel_rfl) (by kernel_rfl) (by kernel_rfl) (e := Extern.BytealgCompare.compare) (by kernel_rfl), compare_any hx hy rfl rfl]
  simp only [Result.andThen]
  rw [Oper.upon_value]
  go_wp2
  go_ret
  exact Ret.i rfl rfl

theorem less_any (A A' : Option Addr) (B n n' c c' : Nat) (xs ys : List Int) (w : World) (hn : n = xs.length) (hn' : n' = ys.length) (hx : Rd w B A (xs.map (Value.int .u8))) (hy : Rd w B A' (ys.map (Value.int .u8))) :
    Calls Try.prog 23 #[.slice A n c, .slice A' n' c'] w (Ret (.bool (Cd.lessB xs ys)) w) := by
  subst hn hn'
  by_cases hl : xs.length = ys.length
  · have hl3 : ((xs.length : Int) != (ys.length : Int)) = false := by simp [hl]
    have HL := Lib.hid hl
    clear hl
    go_enter Try.func23, Try.ntmps23
    go_wp2_with (go_at_call 26; refine (compare_call _ _ _ _ _ _ _ _ _ _ rfl rfl hx hy).mono ?_; rintro e w' ⟨rfl, rfl⟩)
    go_ret
    exact Ret.b rfl (by rw [Cd.lessB, if_pos HL.out])
  · have hl3 : ((xs.length : Int) != (ys.length : Int)) = true := by simp; omega
    go_enter Try.func23, Try.ntmps23
    go_wp2_with fail
    go_ret
    exact Ret.b rfl (by rw [Cd.lessB, if_neg hl])

end Go.Proofs.Ytlmchkajlecmeaa
