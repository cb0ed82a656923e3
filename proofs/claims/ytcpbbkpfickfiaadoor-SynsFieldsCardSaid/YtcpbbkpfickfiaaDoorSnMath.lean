/- What the landed syns does with signs, as plain functions: how far each form fits; the first that fits whole. It is what Sy.parse says. -/
import Derived.Test.YtcpbbkpfickfiaaDoorSyOk
set_option linter.unusedVariables false
set_option linter.unusedSimpArgs false
namespace Go.Proofs.YtcpbbkpfickfiaaDoor
namespace Sn
open Lx (Tk)
open Sy (In It Vl St)
structure Fm where
  word : List Int
  rest : List Int
  kind : Int
  ins : Int
  op : Int
  secret : Bool
def forms : List Fm := [
  ⟨[119, 105, 100, 116, 104], [32, 78], 1, 0, 0, false⟩,
  ⟨[119, 105, 110, 100, 111, 119], [32, 78], 2, 0, 0, false⟩,
  ⟨[102, 117, 101, 108], [32, 78], 3, 0, 0, false⟩,
  ⟨[112, 117, 98, 108, 105, 99], [32, 68], 4, 0, 0, false⟩,
  ⟨[115, 101, 99, 114, 101, 116], [32, 68], 4, 0, 0, true⟩,
  ⟨[112, 117, 98, 108, 105, 99], [32, 77, 32, 78], 5, 0, 0, false⟩,
  ⟨[115, 101, 99, 114, 101, 116], [32, 77, 32, 78], 5, 0, 0, true⟩,
  ⟨[], [77, 58], 6, 0, 0, false⟩,
  ⟨[], [79, 32, 68, 44, 32, 65, 44, 32, 66], 7, 1, 0, false⟩,
  ⟨[109, 111, 118], [32, 68, 44, 32, 65], 7, 1, 4, false⟩,
  ⟨[108, 111, 97, 100], [32, 68, 44, 32, 91, 65, 32, 43, 32, 66, 93], 7, 2, 0, false⟩,
  ⟨[115, 116, 111, 114, 101], [32, 91, 65, 32, 43, 32, 66, 93, 44, 32, 68], 7, 3, 0, false⟩,
  ⟨[99, 109, 111, 118], [32, 68, 44, 32, 65, 44, 32, 66], 7, 4, 0, false⟩,
  ⟨[98, 114], [32, 79, 32, 65, 44, 32, 66, 44, 32, 76], 7, 5, 0, false⟩,
  ⟨[106, 109, 112], [32, 76], 7, 6, 0, false⟩,
  ⟨[99, 97, 108, 108], [32, 76], 7, 8, 0, false⟩,
  ⟨[105, 110, 100], [32, 65], 7, 7, 0, false⟩,
  ⟨[114, 101, 116], [], 7, 9, 0, false⟩,
  ⟨[102, 101, 110, 99, 101], [], 7, 10, 0, false⟩,
  ⟨[104, 97, 108, 116], [], 7, 11, 0, false⟩
]
def isWordL (t : List Int) : Bool := forms.any (fun f => decide (f.word = t)) || decide (0 < Sy.opN t)
def isNm (t : Tk) : Bool := decide (t.kind = 1) && !decide (0 ≤ Sy.regN t.text) && !isWordL t.text
def rv (t : List Int) : Int := if 0 ≤ Sy.regN t then Sy.regN t else 0
def vlv (t : Tk) : Vl := if t.kind = 2 then ⟨false, t.n⟩ else if 0 ≤ Sy.regN t.text then ⟨true, Sy.regN t.text⟩ else Sy.v0
def vok (t : Tk) : Bool := decide (t.kind = 2) || decide (0 ≤ Sy.regN t.text)
/-- a piece of a form is that sign -/
def take (i : It) (p : Int) (t : Tk) : It × Bool :=
  if p = 78 then ({ i with n := t.n }, decide (t.kind = 2))
  else if p = 77 then ({ i with name := t.text }, isNm t)
  else if p = 76 then ({ i with ins := { i.ins with name := t.text } }, isNm t)
  else if p = 79 then ({ i with ins := { i.ins with op := Sy.opN t.text } }, decide (0 < Sy.opN t.text))
  else if p = 68 then ({ i with ins := { i.ins with d := rv t.text } }, decide (0 ≤ Sy.regN t.text))
  else if p = 65 then ({ i with ins := { i.ins with a := vlv t } }, vok t)
  else if p = 66 then ({ i with ins := { i.ins with b := vlv t } }, vok t)
  else (i, decide (t.text = [p]))
section
variable (ts : List Tk)
def fitG : It → List Int → Nat → Except Nat It
  | i, [], k => if k < ts.length then .error k else .ok i
  | i, p :: r, k => if p = 32 then fitG i r k else
    match ts[k]? with
    | none => .error k
    | some t => if (take i p t).2 = true then fitG (take i p t).1 r (k + 1) else .error k
def begin_ (f : Fm) : It := ⟨f.kind, 0, f.secret, [], ⟨f.ins, f.op, 0, Sy.v0, Sy.v0, [], 0⟩⟩
def fit (f : Fm) : Except Nat It :=
  if f.word = [] then fitG ts (begin_ f) f.rest 0
  else if (Sy.tokAt ts 0 0).text = f.word then fitG ts (begin_ f) f.rest 1 else .error 0
def best : List Fm → Nat → Except Nat It
  | [], m => .error m
  | f :: l, m => match fit ts f with
    | .ok i => .ok i
    | .error n => best l (max m n)
end
def parseT (ts : List Tk) (long : Nat) : Except Nat It :=
  if ts = [] then .ok Sy.t0 else
  match best ts forms 0 with
  | .ok i => .ok i
  | .error m => .error (Sy.tokAt ts long m).at_
/-- a sign, or none -/
def Okt (t : Tk) : Prop := Lx.Good t ∨ (t.kind = 0 ∧ t.text = [] ∧ t.n = 0)
theorem okt_tok {ts : List Tk} (G : ∀ t ∈ ts, Lx.Good t) (long k : Nat) : Okt (Sy.tokAt ts long k) := by
  unfold Sy.tokAt
  cases e : ts[k]? with
  | none => exact .inr ⟨rfl, rfl, rfl⟩
  | some t => exact .inl (G t (List.mem_of_getElem? e))
theorem low_not {c : Int} (h : Lx.lower c = true) : 97 ≤ c ∧ c ≤ 122 := by simpa [Lx.lower] using h
theorem dig_not {c : Int} (h : Lx.dig c = true) : 48 ≤ c ∧ c ≤ 57 := by simpa [Lx.dig] using h
theorem sgn_not {c : Int} (h : Lx.sgn c = true) : c = 44 ∨ c = 58 ∨ c = 91 ∨ c = 93 ∨ c = 43 := by simpa [Lx.sgn, or_assoc] using h
theorem Okt.reg1 {t : Tk} (h : Okt t) (hr : 0 ≤ Sy.regN t.text) : t.kind = 1 := by
  rcases h with (h | ⟨_, _, c, r, e, h1, h2⟩ | ⟨_, _, c, e, h1⟩) | ⟨_, e, _⟩
  · exact h.1
  · rw [e] at hr
    have := dig_not h1
    unfold Sy.regN at hr
    split at hr
    · rename_i a b e2
      injection e2 with e3 e4
      subst e3
      rw [if_neg (by omega)] at hr
      omega
    · omega
  · rw [e] at hr; simp [Sy.regN] at hr
  · rw [e] at hr; simp [Sy.regN] at hr
theorem opN_mem {t : List Int} (h : 0 < Sy.opN t) : t ∈ Sy.ops := by
  unfold Sy.opN Sy.ops at h
  simp only [Sy.opF] at h
  unfold Sy.ops
  repeat' split at h
  all_goals first | (rename_i hh; subst hh; decide) | (subst_vars; decide) | omega
theorem Okt.lower1 {t : Tk} (h : Okt t) {c : Int} {r : List Int} (e : t.text = c :: r) (hc : 97 ≤ c) : t.kind = 1 := by
  rcases h with (h | ⟨_, _, c', r', e', h1, h2⟩ | ⟨_, _, c', e', h1⟩) | ⟨_, e', _⟩
  · exact h.1
  · have := dig_not h1; rw [e] at e'; injection e' with e1 _; omega
  · have := sgn_not h1; rw [e] at e'; injection e' with e1 _; omega
  · rw [e] at e'; cases e'
theorem Okt.op1 {t : Tk} (h : Okt t) (ho : 0 < Sy.opN t.text) : t.kind = 1 ∧ Sy.regN t.text < 0 ∧ ∀ f ∈ forms, f.word ≠ t.text := by
  have hm := opN_mem ho
  have key : ∀ x ∈ Sy.ops, (∃ c r, x = c :: r ∧ 97 ≤ c) ∧ Sy.regN x < 0 ∧ ∀ f ∈ forms, f.word ≠ x := by
    intro x hx
    simp only [Sy.ops, List.mem_cons, List.not_mem_nil, or_false] at hx
    rcases hx with rfl | rfl | rfl | rfl | rfl | rfl | rfl | rfl | rfl | rfl
    all_goals exact ⟨⟨_, _, rfl, by decide⟩, by decide, by decide⟩
  obtain ⟨⟨c, r, e, hc⟩, h2, h3⟩ := key _ hm
  exact ⟨h.lower1 e hc, h2, h3⟩
theorem Okt.sign1 {t : Tk} (h : Okt t) {p : Int} (hp : p = 44 ∨ p = 58 ∨ p = 91 ∨ p = 93 ∨ p = 43) (e : t.text = [p]) : t.kind = 3 := by
  rcases h with (⟨_, _, c, r, e', h1, h2⟩ | ⟨_, _, c, r, e', h1, h2⟩ | h) | ⟨_, e', _⟩
  · have := low_not h1; rw [e] at e'; injection e' with e1 _; omega
  · have := dig_not h1; rw [e] at e'; injection e' with e1 _; omega
  · exact h.1
  · rw [e] at e'; cases e'
/-- a name that is none of the words -/
theorem isWord_eq {t : List Int} (hne : t ≠ []) : Sy.isWord t = (isWordL t || decide (0 ≤ Sy.regN t)) := by
  have key : forms.any (fun f => decide (f.word = t)) = Sy.words.contains t := by
    rw [Bool.eq_iff_iff, List.any_eq_true, List.contains_iff_mem]
    constructor
    · rintro ⟨f, hf, h1⟩
      have h1 := of_decide_eq_true h1
      subst h1
      simp only [forms, List.mem_cons, List.not_mem_nil, or_false] at hf
      rcases hf with rfl | rfl | rfl | rfl | rfl | rfl | rfl | rfl | rfl | rfl | rfl | rfl | rfl | rfl | rfl | rfl | rfl | rfl | rfl | rfl
      all_goals first | exact absurd rfl hne | (simp only [Sy.words]; decide)
    · intro h1
      simp only [Sy.words, List.mem_cons, List.not_mem_nil, or_false] at h1
      rcases h1 with rfl | rfl | rfl | rfl | rfl | rfl | rfl | rfl | rfl | rfl | rfl | rfl | rfl | rfl | rfl | rfl
      all_goals (simp only [forms]; decide)
  unfold Sy.isWord isWordL
  rw [key]
theorem isNm_iff {t : Tk} (h : Okt t) : isNm t = true ↔ t.kind = 1 ∧ Sy.isWord t.text = false := by
  unfold isNm
  by_cases hk : t.kind = 1
  · have hne : t.text ≠ [] := by
      rcases h with (⟨_, _, c, r, e, _⟩ | ⟨h1, _⟩ | ⟨h1, _⟩) | ⟨h1, _⟩
      · rw [e]; simp
      · rw [hk] at h1; cases h1
      · rw [hk] at h1; cases h1
      · rw [hk] at h1; cases h1
    rw [isWord_eq hne]
    simp [hk, and_comm]
  · simp [hk]
end Sn
end Go.Proofs.YtcpbbkpfickfiaaDoor
