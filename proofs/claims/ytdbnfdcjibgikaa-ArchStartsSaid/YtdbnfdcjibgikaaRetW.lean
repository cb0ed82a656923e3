/- An answer that leaves the world as it was; the rows of the table for int and uint8. -/
import Derived.Test.YtdbnfdcjibgikaaMem
import Derived.Outline
set_option linter.unusedVariables false
set_option linter.unusedSimpArgs false
namespace Go.Proofs.Ytdbnfdcjibgikaa
open Go.RowKit
/-- it answers v, and the world is as it was -/
def Ret (v : Value) (w : World) (e : Ending) (w' : World) : Prop := e = .returned v ∧ w = w'
theorem Ret.mk {v v' : Value} {w : World} (h : v' = v) : Ret v w (.returned v') w := ⟨by rw [h], rfl⟩
theorem Ret.b {X : Value} {a a' : Bool} {w : World} (hx : X = .bool a') (h : a' = a) : Ret (.bool a) w (.returned X) w := ⟨by rw [hx, h], rfl⟩
theorem Ret.i {X : Value} {k : IntKind} {a a' : Int} {w : World} (hx : X = .int k a') (h : a' = a) : Ret (.int k a) w (.returned X) w := ⟨by rw [hx, h], rfl⟩

theorem infoI : (Try.prog.info? 3).map (fun i => (i.zero, i.size, i.bytes)) = some (some (.int .i64 0), 1, 8) := by kernel_rfl
theorem infoB : (Try.prog.info? 5).map (fun i => (i.zero, i.size, i.bytes)) = some (some (.int .u8 0), 1, 1) := by kernel_rfl

end Go.Proofs.Ytdbnfdcjibgikaa
