/- What an item is told as; which items a line tells. -/
import Derived.Test.YtcpbbkpfickfiaaDoorSyMath
import Derived.Test.YtcpbbkpfickfiaaDoorLxNum
set_option linter.unusedVariables false
set_option linter.unusedSimpArgs false
namespace Go.Proofs.YtcpbbkpfickfiaaDoor
namespace Sy
open Lx (Tk)
def dg : Nat → Nat → List Int
  | 0, _ => []
  | f + 1, n => if n < 10 then [48 + (n : Int)] else dg f (n / 10) ++ [48 + ((n % 10 : Nat) : Int)]
/-- a number's text -/
def digits (n : Int) : List Int := if n < 0 then [45] else dg 20 n.toNat
def rT (d : Int) : List Int := 114 :: digits d
def vT (v : Vl) : List Int := if v.reg then rT v.n else digits v.n
def opT (n : Int) : List Int := if 1 ≤ n ∧ n ≤ 10 then ops.getD (n - 1).toNat [] else [63]
def addrT (a b : Vl) : List Int := [91] ++ vT a ++ [32, 43, 32] ++ vT b ++ [93]
def two (a b : Vl) : List Int := vT a ++ [44, 32] ++ vT b
def insT (i : In) : List Int :=
  if i.kind = 1 then opT i.op ++ [32] ++ rT i.d ++ [44, 32] ++ two i.a i.b
  else if i.kind = 2 then [108, 111, 97, 100, 32] ++ rT i.d ++ [44, 32] ++ addrT i.a i.b
  else if i.kind = 3 then [115, 116, 111, 114, 101, 32] ++ addrT i.a i.b ++ [44, 32] ++ rT i.d
  else if i.kind = 4 then [99, 109, 111, 118, 32] ++ rT i.d ++ [44, 32] ++ two i.a i.b
  else if i.kind = 5 then [98, 114, 32] ++ opT i.op ++ [32] ++ two i.a i.b ++ [44, 32] ++ i.name
  else if i.kind = 6 then [106, 109, 112, 32] ++ i.name
  else if i.kind = 8 then [99, 97, 108, 108, 32] ++ i.name
  else if i.kind = 7 then [105, 110, 100, 32] ++ vT i.a
  else if i.kind = 9 then [114, 101, 116]
  else if i.kind = 10 then [102, 101, 110, 99, 101]
  else if i.kind = 11 then [104, 97, 108, 116]
  else [63]
def kindT (secret : Bool) : List Int := if secret then [115, 101, 99, 114, 101, 116, 32] else [112, 117, 98, 108, 105, 99, 32]
def text (i : It) : List Int :=
  if i.kind = 1 then [119, 105, 100, 116, 104, 32] ++ digits i.n
  else if i.kind = 2 then [119, 105, 110, 100, 111, 119, 32] ++ digits i.n
  else if i.kind = 3 then [102, 117, 101, 108, 32] ++ digits i.n
  else if i.kind = 4 then kindT i.secret ++ rT i.ins.d
  else if i.kind = 5 then kindT i.secret ++ i.name ++ [32] ++ digits i.n
  else if i.kind = 6 then i.name ++ [58]
  else if i.kind = 7 then insT i.ins
  else []
/-- what a line tells -/
def okR (d : Int) : Prop := 0 ≤ d ∧ d ≤ 3
def okN (n : Int) : Prop := 0 ≤ n ∧ n ≤ 99999
def okV (v : Vl) : Prop := (v.reg = true ∧ okR v.n) ∨ (v.reg = false ∧ okN v.n)
def okName (t : List Int) : Prop := (∃ c r, t = c :: r ∧ Lx.lower c = true ∧ ∀ x ∈ t, Lx.word x = true) ∧ isWord t = false
def okO (n : Int) : Prop := 1 ≤ n ∧ n ≤ 10
inductive OkI : In → Prop
  | alu {op d : Int} {a b : Vl} : okO op → okR d → okV a → okV b → OkI ⟨1, op, d, a, b, [], 0⟩
  | load {d : Int} {a b : Vl} : okR d → okV a → okV b → OkI ⟨2, 0, d, a, b, [], 0⟩
  | store {d : Int} {a b : Vl} : okR d → okV a → okV b → OkI ⟨3, 0, d, a, b, [], 0⟩
  | cmov {d : Int} {a b : Vl} : okR d → okV a → okV b → OkI ⟨4, 0, d, a, b, [], 0⟩
  | br {op : Int} {a b : Vl} {n : List Int} : okO op → okV a → okV b → okName n → OkI ⟨5, op, 0, a, b, n, 0⟩
  | jmp {n : List Int} : okName n → OkI ⟨6, 0, 0, v0, v0, n, 0⟩
  | call {n : List Int} : okName n → OkI ⟨8, 0, 0, v0, v0, n, 0⟩
  | ind {a : Vl} : okV a → OkI ⟨7, 0, 0, a, v0, [], 0⟩
  | ret : OkI ⟨9, 0, 0, v0, v0, [], 0⟩
  | fence : OkI ⟨10, 0, 0, v0, v0, [], 0⟩
  | halt : OkI ⟨11, 0, 0, v0, v0, [], 0⟩
inductive Ok : It → Prop
  | none : Ok t0
  | num {k n : Int} : 1 ≤ k → k ≤ 3 → okN n → Ok ⟨k, n, false, [], i0⟩
  | reg {s : Bool} {d : Int} : okR d → Ok ⟨4, 0, s, [], { i0 with d := d }⟩
  | mem {s : Bool} {m : List Int} {n : Int} : okName m → okN n → Ok ⟨5, n, s, m, i0⟩
  | label {m : List Int} : okName m → Ok ⟨6, 0, false, m, i0⟩
  | ins {i : In} : OkI i → Ok ⟨7, 0, false, [], i⟩
theorem dg_small {n : Nat} (h : n < 10) (f : Nat) : dg (f + 1) n = [48 + (n : Int)] := by unfold dg; rw [if_pos h]
theorem dg_big {n : Nat} (h : ¬ n < 10) (f : Nat) : dg (f + 1) n = dg f (n / 10) ++ [48 + ((n % 10 : Nat) : Int)] := by rw [dg, if_neg h]
open Lx in
theorem digits_form {n : Int} (h : okN n) : ∃ c r, digits n = c :: r ∧ dig c = true ∧ digs (c :: r) = c :: r ∧ val (c :: r) = n := by
  obtain ⟨h0, h1⟩ := h
  obtain ⟨m, rfl⟩ : ∃ m : Nat, n = m := ⟨n.toNat, by omega⟩
  have hm : m ≤ 99999 := by omega
  have key : ∀ (c : Int) (r : List Int), (c = 48 → r = []) → (c :: r).length ≤ 5 → (∀ x ∈ c :: r, dig x = true) → dig c = true ∧ digs (c :: r) = c :: r := by
    intro c r h1 h2 h3
    refine ⟨h3 c (by simp), ?_⟩
    rw [digs_cons]
    split
    · rename_i h4; rw [h1 h4]
    · rw [List.take_of_length_le h2]
      have := takeWhile_app (p := dig) (a := c :: r) (b := []) h3 (fun x q e => by cases e)
      simpa using this
  have hd : ∀ k : Nat, k < 10 → dig (48 + (k : Int)) = true := fun k hk => by simp [dig]; omega
  unfold digits
  rw [if_neg (by omega), Int.toNat_natCast]
  by_cases c1 : m < 10
  · rw [dg_small c1]
    have := key (48 + (m : Int)) [] (fun _ => rfl) (by simp) (fun x hx => by simp at hx; subst hx; exact hd m c1)
    exact ⟨_, _, rfl, this.1, this.2, by simp [val]; omega⟩
  by_cases c2 : m / 10 < 10
  · rw [dg_big c1, dg_small c2]
    have := key (48 + ((m / 10 : Nat) : Int)) [48 + ((m % 10 : Nat) : Int)] (fun h => by omega) (by simp) (fun x hx => by
      simp only [List.mem_cons, List.not_mem_nil, or_false] at hx
      rcases hx with rfl | rfl <;> exact hd _ (by omega))
    exact ⟨_, _, rfl, this.1, this.2, by show val [_, _] = _; simp only [val, List.foldl_cons, List.foldl_nil]; omega⟩
  by_cases c3 : m / 10 / 10 < 10
  · rw [dg_big c1, dg_big c2, dg_small c3]
    have := key (48 + ((m / 10 / 10 : Nat) : Int)) [48 + ((m / 10 % 10 : Nat) : Int), 48 + ((m % 10 : Nat) : Int)] (fun h => by omega) (by simp) (fun x hx => by
      simp only [List.mem_cons, List.not_mem_nil, or_false] at hx
      rcases hx with rfl | rfl | rfl <;> exact hd _ (by omega))
    exact ⟨_, _, rfl, this.1, this.2, by show val [_, _, _] = _; simp only [val, List.foldl_cons, List.foldl_nil]; omega⟩
  by_cases c4 : m / 10 / 10 / 10 < 10
  · rw [dg_big c1, dg_big c2, dg_big c3, dg_small c4]
    have := key (48 + ((m / 10 / 10 / 10 : Nat) : Int)) [48 + ((m / 10 / 10 % 10 : Nat) : Int), 48 + ((m / 10 % 10 : Nat) : Int), 48 + ((m % 10 : Nat) : Int)] (fun h => by omega) (by simp) (fun x hx => by
      simp only [List.mem_cons, List.not_mem_nil, or_false] at hx
      rcases hx with rfl | rfl | rfl | rfl <;> exact hd _ (by omega))
    exact ⟨_, _, rfl, this.1, this.2, by show val [_, _, _, _] = _; simp only [val, List.foldl_cons, List.foldl_nil]; omega⟩
  · rw [dg_big c1, dg_big c2, dg_big c3, dg_big c4, dg_small (show m / 10 / 10 / 10 / 10 < 10 by omega)]
    have := key (48 + ((m / 10 / 10 / 10 / 10 : Nat) : Int)) [48 + ((m / 10 / 10 / 10 % 10 : Nat) : Int), 48 + ((m / 10 / 10 % 10 : Nat) : Int), 48 + ((m / 10 % 10 : Nat) : Int), 48 + ((m % 10 : Nat) : Int)] (fun h => by omega) (by simp) (fun x hx => by
      simp only [List.mem_cons, List.not_mem_nil, or_false] at hx
      rcases hx with rfl | rfl | rfl | rfl | rfl <;> exact hd _ (by omega))
    exact ⟨_, _, rfl, this.1, this.2, by show val [_, _, _, _, _] = _; simp only [val, List.foldl_cons, List.foldl_nil]; omega⟩
theorem rT_of {d : Int} (h : okR d) : rT d = [114, 48 + d] ∧ regN (rT d) = d := by
  obtain ⟨h0, h1⟩ := h
  rcases (by omega : d = 0 ∨ d = 1 ∨ d = 2 ∨ d = 3) with rfl | rfl | rfl | rfl <;> exact ⟨rfl, rfl⟩
theorem opT_of {n : Int} (h : okO n) : opN (opT n) = n ∧ regN (opT n) < 0 ∧ isWord (opT n) = true ∧ ∃ c r, opT n = c :: r ∧ Lx.lower c = true ∧ ∀ x ∈ opT n, Lx.word x = true := by
  obtain ⟨h0, h1⟩ := h
  rcases (by omega : n = 1 ∨ n = 2 ∨ n = 3 ∨ n = 4 ∨ n = 5 ∨ n = 6 ∨ n = 7 ∨ n = 8 ∨ n = 9 ∨ n = 10) with rfl | rfl | rfl | rfl | rfl | rfl | rfl | rfl | rfl | rfl
  all_goals exact ⟨by decide, by decide, by decide, _, _, rfl, by decide, by decide⟩
end Sy
end Go.Proofs.YtcpbbkpfickfiaaDoor
