/- Plain facts of a line read sign by sign; what a call that reads a line answers. -/
import Derived.Test.YtcpbbkpfickfiaaDoorLxTok
import Derived.Test.YtcpbbkpfickfiaaDoorMem2
set_option linter.unusedVariables false
set_option linter.unusedSimpArgs false
namespace Go.Proofs.YtcpbbkpfickfiaaDoor
open Go.RowKit
namespace Lx
def glue : List Tk → Except Nat (List Tk) → Except Nat (List Tk)
  | ts, .ok l => .ok (ts ++ l)
  | _, .error e => .error e
theorem glue_nil (R : Except Nat (List Tk)) : glue [] R = R := by cases R <;> rfl
theorem glue_cons (ts : List Tk) (t : Tk) (R : Except Nat (List Tk)) : glue ts (cons t R) = glue (ts ++ [t]) R := by cases R <;> simp [glue, cons]
/-- what comes behind a sign of that kind -/
def nx (k : Int) (a : Nat) (r : List Int) : Except Nat (List Tk) := if k = 2 ∧ stops r = false then .error a else lxA a r
theorem nx_stop {k : Int} {a : Nat} {r : List Int} (h : stops r = true) : nx k a r = lxA a r := by
  unfold nx
  rw [if_neg (by simp [h])]
theorem nx_other {k : Int} {a : Nat} {r : List Int} (h : k ≠ 2) : nx k a r = lxA a r := by
  unfold nx
  rw [if_neg (by simp [h])]
theorem nx_cut {a : Nat} {r : List Int} (h : stops r = false) : nx 2 a r = .error a := by
  unfold nx
  rw [if_pos ⟨rfl, h⟩]
end Lx
/-- what a call that reads a line answers -/
def LineR (R : Except Nat (List Lx.Tk)) (w : World) (e : Ending) (w' : World) : Prop := match R with
  | .ok ts => ∃ v, e = .returned (.tuple #[v, .int .i64 0, .bool true]) ∧ w'.ownsRow w.heap.size 58 4 v ts.length (flat ts) ∧ Below w.heap.size w w'
  | .error a => e = .returned (.tuple #[.slice none 0 0, .int .i64 (a : Int), .bool false]) ∧ Below w.heap.size w w'
theorem own_keepb {w w' : World} {B n m : Nat} {e : TypeId} {v : Value} {xs : List Value} (h : w.ownsRow B e m v n xs) (hk : ∀ k, B ≤ k → w'.heap[k]? = w.heap[k]?) : w'.ownsRow B e m v n xs := by
  refine ⟨h.1, ?_⟩
  rcases h.2 with h2 | ⟨g, cap, cur, hv, hg, hh, r⟩
  · exact .inl h2
  · exact .inr ⟨g, cap, cur, hv, hg, (hk g hg).trans hh, r⟩
theorem own_belowT {w w' : World} {B n m : Nat} {e : TypeId} {v : Value} {xs : List Value} (h : w.ownsRow B e m v n xs) (hb : Below w.heap.size w w') : w'.ownsRow B e m v n xs := by
  refine ⟨h.1, ?_⟩
  rcases h.2 with h2 | ⟨g, cap, cur, hv, hg, hh, r⟩
  · exact .inl h2
  · have hlt : g < w.heap.size := (Array.getElem?_eq_some_iff.1 hh).1
    exact .inr ⟨g, cap, cur, hv, hg, (hb.block g hlt).trans hh, r⟩
theorem own_lower {w : World} {B B' n m : Nat} {e : TypeId} {v : Value} {xs : List Value} (h : w.ownsRow B e m v n xs) (hB : B' ≤ B) : w.ownsRow B' e m v n xs := by
  refine ⟨h.1, ?_⟩
  rcases h.2 with h2 | ⟨g, cap, cur, hv, hg, r⟩
  · exact .inl h2
  · exact .inr ⟨g, cap, cur, hv, by omega, r⟩
theorem infoTk : (Tryd.prog.info? 58).map (fun i => (i.zero, i.size, i.bytes)) = some (some (.agg #[.int .i64 0, .string ⟨#[]⟩, .int .i64 0, .int .i64 0]), 4, 40) := by kernel_rfl
theorem wrap_nn (a b : Nat) (ha : a ≤ 1000000) (hb : b ≤ 1000000) : Value.int .i64 (IntKind.i64.wrap ((a : Int) + (b : Int))) = .int .i64 ((a + b : Nat) : Int) := by
  have : IntKind.i64.wrap ((a : Int) + (b : Int)) = ((a + b : Nat) : Int) := by rw [IntKind.wrap_i64]; omega
  rw [this]
end Go.Proofs.YtcpbbkpfickfiaaDoor
