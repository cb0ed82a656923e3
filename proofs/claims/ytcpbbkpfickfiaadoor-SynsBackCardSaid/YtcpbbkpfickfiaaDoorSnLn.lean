/- The contract of augurylaw5.Line: it hands back some string that is not long. -/
import Derived.Test.YtcpbbkpfickfiaaDoorMem2
import Derived.Test.YtcpbbkpfickfiaaDoorWdMath
import Derived.Test.YtcpbbkpfickfiaaDoorRetW
import Derived.WalkKit
set_option linter.unusedVariables false
set_option linter.unusedSimpArgs false
namespace Go.Proofs.YtcpbbkpfickfiaaDoor
open Go.RowKit
theorem hmf (fn : Fn) (first cap : Array Value) (w : World) : (Instr.makeFunc fn first cap).run Tryd.prog w = .ok (.func fn first cap) w := rfl
/-- a row of strings, none longer than so much -/
def StrRow (R : Array Value) (B : Nat) : Prop := ∀ (q : Nat) v, R[q]? = some v → ∃ s : ByteArray, v = .string s ∧ s.size ≤ B
theorem wp_load_str {w : World} {ops : Array Oper} {rest : List Oper} {o : Oper} {a : Act} {Q : Exit → Act → World → Prop} (hgd : o.guard = none) (x : Operand) (ho : o.op = .load 9 x) (g q : Nat) (R : Array Value) (B : Nat) (t : TypeId) (fr : Nat × Nat)
    (hx : a.eval x = .pointer (some ⟨g, q, none⟩)) (hg : w.heap[g]? = some (.cells R t fr)) (hq : q < R.size) (hR : StrRow R B)
    (h : ∀ s : ByteArray, s.size ≤ B → wpList Tryd.prog ops Q rest (a.put o.dst (.string s)) w) : wpList Tryd.prog ops Q (o :: rest) a w := by
  obtain ⟨v, hv⟩ : ∃ v, R[q]? = some v := ⟨R[q], by simp [hq]⟩
  obtain ⟨s, rfl, hs⟩ := hR q v hv
  have hc := cell_of_row w g q R t fr hg
  rw [hv] at hc
  refine wpList_plain hgd fun K hK => ?_
  unfold Oper.wp execOp
  have hl : (loadVar 9 ⟨g, q, none⟩).run Tryd.prog w = .ok (.string s) w := by
    go_simp
  simp only [ho, hx, Instr.loadAt, Instr.sureAddr, Sem.run_bind, Sem.run_pure, Result.andThen_ok, hl]
  exact hK _ _ (h s hs)
set_option maxRecDepth 100000 in
theorem k_any (i : Nat) (A : Option Addr) (n c b : Nat) (z : List Int) (w : World) (hi : i < 1000) (hn : n = z.length) (hb : w.cell? ⟨b, 0, none⟩ = some (.slice A n c)) (hr : Rd w w.heap.size A (z.map (Value.int .i64))) :
    Calls Tryd.prog 21 #[.int .i64 (i : Int), .pointer (some ⟨b, 0, none⟩)] w (Ret (.int .i64 (z.getD i 0)) w) := by
  subst hn
  by_cases h : i < z.length
  · obtain ⟨ad, rfl, _, hc⟩ := hr.at_ h
    have i0 : (0 : Int) ≤ (i : Int) := by omega
    have i1 : (i : Int) < (z.length : Int) := by omega
    generalize z.getD i 0 = x at *
    go_enter Tryd.func21, Tryd.ntmps21
    go_wp2_with fail
    go_ret
    exact ⟨rfl, rfl⟩
  · have i1 : ¬ (i : Int) < (z.length : Int) := by omega
    have hg : z.getD i 0 = 0 := by simp [List.getD, h]
    rw [hg]
    go_enter Tryd.func21, Tryd.ntmps21
    go_wp2_with fail
    go_ret
    exact ⟨rfl, rfl⟩
theorem strRow_of {R : Array Value} {B : Nat} (h : R.toList.all (fun v => match v with | .string s => decide (s.size ≤ B) | _ => false) = true) : StrRow R B := fun q v hv => by
  have hm : v ∈ R.toList := by
    have : R.toList[q]? = some v := by simpa using hv
    exact List.mem_of_getElem? this
  have := List.all_eq_true.1 h v hm
  cases v <;> simp at this
  exact ⟨_, rfl, this⟩
abbrev vRow : Array Value := #[.string ⟨#[114, 48]⟩, .string ⟨#[114, 49]⟩, .string ⟨#[114, 50]⟩, .string ⟨#[114, 51]⟩, .string ⟨#[48]⟩, .string ⟨#[49]⟩, .string ⟨#[50]⟩, .string ⟨#[51]⟩, .string ⟨#[49, 53]⟩, .string ⟨#[55, 48, 48, 48, 48]⟩, .string ⟨#[114, 52]⟩, .string ⟨#[44]⟩]
set_option maxRecDepth 100000 in
set_option maxHeartbeats 4000000 in
theorem v_any (x : Int) (w : World) : Calls Tryd.prog 22 #[.int .i64 x] w fun e w' => ∃ s : ByteArray, e = .returned (.string s) ∧ s.size ≤ 5 ∧ Below w.heap.size w w' := by
  obtain ⟨q, hq, m12⟩ : ∃ q : Nat, q < 12 ∧ (bits .and .i64 x 255) % 12 = q := ⟨(x % 256 % 12).toNat, by omega, by have := Wd.bits_mask x 8 (by omega); rw [show (255 : Int) = 2 ^ 8 - 1 from rfl, this]; omega⟩
  have b0 : 0 ≤ bits .and .i64 x 255 := by have := Wd.bits_mask x 8 (by omega); rw [show (255 : Int) = 2 ^ 8 - 1 from rfl, this]; omega
  have hR : StrRow vRow 5 := strRow_of (by decide)
  have hn := heap_alloc_new w (.cells vRow 9)
  have HN := Lib.hid hn
  clear hn
  go_enter Tryd.func22, Tryd.ntmps22
  go_wp2_with (refine wp_load_str rfl _ rfl w.heap.size q vRow 5 _ _ rfl HN.out hq hR ?_; intro s hs)
  go_ret
  exact ⟨s, rfl, hs, upA (up0 w) _⟩
end Go.Proofs.YtcpbbkpfickfiaaDoor
