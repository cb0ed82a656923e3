/- Merged: SnMath, SnSame, SnBest, SnBest2. -/
import Derived.Test.YtmghklokbmdenaaDoorMgSy
set_option linter.unusedVariables false
set_option linter.unusedSimpArgs false
namespace Go.Proofs.YtmghklokbmdenaaDoor
section
namespace Sn
open Lx (Tk)
open Sy (In It Vl St)
structure Fm where
  word : List Int
  rest : List Int
  kind : Int
  ins : Int
  op : Int
  secret : Bool
def forms : List Fm := [
  ⟨[119, 105, 100, 116, 104], [32, 78], 1, 0, 0, false⟩,
  ⟨[119, 105, 110, 100, 111, 119], [32, 78], 2, 0, 0, false⟩,
  ⟨[102, 117, 101, 108], [32, 78], 3, 0, 0, false⟩,
  ⟨[112, 117, 98, 108, 105, 99], [32, 68], 4, 0, 0, false⟩,
  ⟨[115, 101, 99, 114, 101, 116], [32, 68], 4, 0, 0, true⟩,
  ⟨[112, 117, 98, 108, 105, 99], [32, 77, 32, 78], 5, 0, 0, false⟩,
  ⟨[115, 101, 99, 114, 101, 116], [32, 77, 32, 78], 5, 0, 0, true⟩,
  ⟨[], [77, 58], 6, 0, 0, false⟩,
  ⟨[], [79, 32, 68, 44, 32, 65, 44, 32, 66], 7, 1, 0, false⟩,
  ⟨[109, 111, 118], [32, 68, 44, 32, 65], 7, 1, 4, false⟩,
  ⟨[108, 111, 97, 100], [32, 68, 44, 32, 91, 65, 32, 43, 32, 66, 93], 7, 2, 0, false⟩,
  ⟨[115, 116, 111, 114, 101], [32, 91, 65, 32, 43, 32, 66, 93, 44, 32, 68], 7, 3, 0, false⟩,
  ⟨[99, 109, 111, 118], [32, 68, 44, 32, 65, 44, 32, 66], 7, 4, 0, false⟩,
  ⟨[98, 114], [32, 79, 32, 65, 44, 32, 66, 44, 32, 76], 7, 5, 0, false⟩,
  ⟨[106, 109, 112], [32, 76], 7, 6, 0, false⟩,
  ⟨[99, 97, 108, 108], [32, 76], 7, 8, 0, false⟩,
  ⟨[105, 110, 100], [32, 65], 7, 7, 0, false⟩,
  ⟨[114, 101, 116], [], 7, 9, 0, false⟩,
  ⟨[102, 101, 110, 99, 101], [], 7, 10, 0, false⟩,
  ⟨[104, 97, 108, 116], [], 7, 11, 0, false⟩
]
def isWordL (t : List Int) : Bool := forms.any (fun f => decide (f.word = t)) || decide (0 < Sy.opN t)
def isNm (t : Tk) : Bool := decide (t.kind = 1) && !decide (0 ≤ Sy.regN t.text) && !isWordL t.text
def rv (t : List Int) : Int := if 0 ≤ Sy.regN t then Sy.regN t else 0
def vlv (t : Tk) : Vl := if t.kind = 2 then ⟨false, t.n⟩ else if 0 ≤ Sy.regN t.text then ⟨true, Sy.regN t.text⟩ else Sy.v0
def vok (t : Tk) : Bool := decide (t.kind = 2) || decide (0 ≤ Sy.regN t.text)
/-- a piece of a form is that sign -/
def take (i : It) (p : Int) (t : Tk) : It × Bool :=
  if p = 78 then ({ i with n := t.n }, decide (t.kind = 2))
  else if p = 77 then ({ i with name := t.text }, isNm t)
  else if p = 76 then ({ i with ins := { i.ins with name := t.text } }, isNm t)
  else if p = 79 then ({ i with ins := { i.ins with op := Sy.opN t.text } }, decide (0 < Sy.opN t.text))
  else if p = 68 then ({ i with ins := { i.ins with d := rv t.text } }, decide (0 ≤ Sy.regN t.text))
  else if p = 65 then ({ i with ins := { i.ins with a := vlv t } }, vok t)
  else if p = 66 then ({ i with ins := { i.ins with b := vlv t } }, vok t)
  else (i, decide (t.text = [p]))
section
variable (ts : List Tk)
def fitG : It → List Int → Nat → Except Nat It
  | i, [], k => if k < ts.length then .error k else .ok i
  | i, p :: r, k => if p = 32 then fitG i r k else
    match ts[k]? with
    | none => .error k
    | some t => if (take i p t).2 = true then fitG (take i p t).1 r (k + 1) else .error k
def begin_ (f : Fm) : It := ⟨f.kind, 0, f.secret, [], ⟨f.ins, f.op, 0, Sy.v0, Sy.v0, [], 0⟩⟩
def fit (f : Fm) : Except Nat It :=
  if f.word = [] then fitG ts (begin_ f) f.rest 0
  else if (Sy.tokAt ts 0 0).text = f.word then fitG ts (begin_ f) f.rest 1 else .error 0
def best : List Fm → Nat → Except Nat It
  | [], m => .error m
  | f :: l, m => match fit ts f with
    | .ok i => .ok i
    | .error n => best l (max m n)
end
def parseT (ts : List Tk) (long : Nat) : Except Nat It :=
  if ts = [] then .ok Sy.t0 else
  match best ts forms 0 with
  | .ok i => .ok i
  | .error m => .error (Sy.tokAt ts long m).at_
/-- a sign, or none -/
def Okt (t : Tk) : Prop := Lx.Good t ∨ (t.kind = 0 ∧ t.text = [] ∧ t.n = 0)
theorem okt_tok {ts : List Tk} (G : ∀ t ∈ ts, Lx.Good t) (long k : Nat) : Okt (Sy.tokAt ts long k) := by
  unfold Sy.tokAt
  cases e : ts[k]? with
  | none => exact .inr ⟨rfl, rfl, rfl⟩
  | some t => exact .inl (G t (List.mem_of_getElem? e))
theorem low_not {c : Int} (h : Lx.lower c = true) : 97 ≤ c ∧ c ≤ 122 := by simpa [Lx.lower] using h
theorem dig_not {c : Int} (h : Lx.dig c = true) : 48 ≤ c ∧ c ≤ 57 := by simpa [Lx.dig] using h
theorem sgn_not {c : Int} (h : Lx.sgn c = true) : c = 44 ∨ c = 58 ∨ c = 91 ∨ c = 93 ∨ c = 43 := by simpa [Lx.sgn, or_assoc] using h
theorem Okt.reg1 {t : Tk} (h : Okt t) (hr : 0 ≤ Sy.regN t.text) : t.kind = 1 := by
  rcases h with (h | ⟨_, _, c, r, e, h1, h2⟩ | ⟨_, _, c, e, h1⟩) | ⟨_, e, _⟩
  · exact h.1
  · rw [e] at hr
    have := dig_not h1
    unfold Sy.regN at hr
    split at hr
    · rename_i a b e2
      injection e2 with e3 e4
      subst e3
      rw [if_neg (by omega)] at hr
      omega
    · omega
  · rw [e] at hr; simp [Sy.regN] at hr
  · rw [e] at hr; simp [Sy.regN] at hr
theorem opN_mem {t : List Int} (h : 0 < Sy.opN t) : t ∈ Sy.ops := by
  unfold Sy.opN Sy.ops at h
  simp only [Sy.opF] at h
  unfold Sy.ops
  repeat' split at h
  all_goals first | (rename_i hh; subst hh; decide) | (subst_vars; decide) | omega
theorem Okt.lower1 {t : Tk} (h : Okt t) {c : Int} {r : List Int} (e : t.text = c :: r) (hc : 97 ≤ c) : t.kind = 1 := by
  rcases h with (h | ⟨_, _, c', r', e', h1, h2⟩ | ⟨_, _, c', e', h1⟩) | ⟨_, e', _⟩
  · exact h.1
  · have := dig_not h1; rw [e] at e'; injection e' with e1 _; omega
  · have := sgn_not h1; rw [e] at e'; injection e' with e1 _; omega
  · rw [e] at e'; cases e'
theorem Okt.op1 {t : Tk} (h : Okt t) (ho : 0 < Sy.opN t.text) : t.kind = 1 ∧ Sy.regN t.text < 0 ∧ ∀ f ∈ forms, f.word ≠ t.text := by
  have hm := opN_mem ho
  have key : ∀ x ∈ Sy.ops, (∃ c r, x = c :: r ∧ 97 ≤ c) ∧ Sy.regN x < 0 ∧ ∀ f ∈ forms, f.word ≠ x := by
    intro x hx
    simp only [Sy.ops, List.mem_cons, List.not_mem_nil, or_false] at hx
    rcases hx with rfl | rfl | rfl | rfl | rfl | rfl | rfl | rfl | rfl | rfl
    all_goals exact ⟨⟨_, _, rfl, by decide⟩, by decide, by decide⟩
  obtain ⟨⟨c, r, e, hc⟩, h2, h3⟩ := key _ hm
  exact ⟨h.lower1 e hc, h2, h3⟩
theorem Okt.sign1 {t : Tk} (h : Okt t) {p : Int} (hp : p = 44 ∨ p = 58 ∨ p = 91 ∨ p = 93 ∨ p = 43) (e : t.text = [p]) : t.kind = 3 := by
  rcases h with (⟨_, _, c, r, e', h1, h2⟩ | ⟨_, _, c, r, e', h1, h2⟩ | h) | ⟨_, e', _⟩
  · have := low_not h1; rw [e] at e'; injection e' with e1 _; omega
  · have := dig_not h1; rw [e] at e'; injection e' with e1 _; omega
  · exact h.1
  · rw [e] at e'; cases e'
/-- a name that is none of the words -/
theorem isWord_eq {t : List Int} (hne : t ≠ []) : Sy.isWord t = (isWordL t || decide (0 ≤ Sy.regN t)) := by
  have key : forms.any (fun f => decide (f.word = t)) = Sy.words.contains t := by
    rw [Bool.eq_iff_iff, List.any_eq_true, List.contains_iff_mem]
    constructor
    · rintro ⟨f, hf, h1⟩
      have h1 := of_decide_eq_true h1
      subst h1
      simp only [forms, List.mem_cons, List.not_mem_nil, or_false] at hf
      rcases hf with rfl | rfl | rfl | rfl | rfl | rfl | rfl | rfl | rfl | rfl | rfl | rfl | rfl | rfl | rfl | rfl | rfl | rfl | rfl | rfl
      all_goals first | exact absurd rfl hne | (simp only [Sy.words]; decide)
    · intro h1
      simp only [Sy.words, List.mem_cons, List.not_mem_nil, or_false] at h1
      rcases h1 with rfl | rfl | rfl | rfl | rfl | rfl | rfl | rfl | rfl | rfl | rfl | rfl | rfl | rfl | rfl | rfl
      all_goals (simp only [forms]; decide)
  unfold Sy.isWord isWordL
  rw [key]
theorem isNm_iff {t : Tk} (h : Okt t) : isNm t = true ↔ t.kind = 1 ∧ Sy.isWord t.text = false := by
  unfold isNm
  by_cases hk : t.kind = 1
  · have hne : t.text ≠ [] := by
      rcases h with (⟨_, _, c, r, e, _⟩ | ⟨h1, _⟩ | ⟨h1, _⟩) | ⟨h1, _⟩
      · rw [e]; simp
      · rw [hk] at h1; cases h1
      · rw [hk] at h1; cases h1
      · rw [hk] at h1; cases h1
    rw [isWord_eq hne]
    simp [hk, and_comm]
  · simp [hk]
end Sn
end
end Go.Proofs.YtmghklokbmdenaaDoor
namespace Go.Proofs.YtmghklokbmdenaaDoor
section
namespace Sn
open Lx (Tk)
open Sy (In It Vl St)
section
variable (ts : List Tk) (long : Nat)
/-- a piece of a form, read as the reader does -/
def rd (x : It × St) (p : Int) : It × St :=
  if p = 32 then x else ((take x.1 p (Sy.tokAt ts long x.2.k)).1, if (take x.1 p (Sy.tokAt ts long x.2.k)).2 = true then Sy.step ts x.2 else Sy.fail (Sy.tokAt ts long x.2.k).at_ (Sy.step ts x.2))
def run (l : List Int) (x : It × St) : It × St := l.foldl (rd ts long) x
def fin (s : St) : St := if s.bad < 0 ∧ s.k < ts.length then Sy.fail (Sy.tokAt ts long s.k).at_ s else s
end
section
variable {ts : List Tk} {long : Nat}
theorem step_bad' (s : St) : (Sy.step ts s).bad = s.bad := by unfold Sy.step; split <;> rfl
theorem fail_keep {s : St} (h : 0 ≤ s.bad) (p : Nat) : Sy.fail p s = s := by unfold Sy.fail; rw [if_neg (by omega)]
theorem fail_new {s : St} (h : s.bad < 0) (p : Nat) : (Sy.fail p s).bad = p := by unfold Sy.fail; rw [if_pos h]
theorem rd_bad {x : It × St} (h : 0 ≤ x.2.bad) (p : Int) : (rd ts long x p).2.bad = x.2.bad := by
  unfold rd
  split
  · rfl
  · dsimp only
    split
    · exact step_bad' _
    · rw [fail_keep (by rw [step_bad']; exact h), step_bad']
theorem run_bad : ∀ (l : List Int) (x : It × St), 0 ≤ x.2.bad → (run ts long l x).2.bad = x.2.bad
  | [], x, h => rfl
  | p :: l, x, h => by
    have h1 := rd_bad (ts := ts) (long := long) h p
    show (run ts long l (rd ts long x p)).2.bad = _
    rw [run_bad l _ (by rw [h1]; exact h), h1]
theorem tok_none {k : Nat} (h : ts[k]? = none) (i : It) (p : Int) (hp : p ≠ 32) : (take i p (Sy.tokAt ts long k)).2 = false := by
  have e : Sy.tokAt ts long k = ⟨0, [], 0, long⟩ := by unfold Sy.tokAt; rw [h]; rfl
  rw [e]
  unfold take
  repeat' split
  all_goals first | rfl | simp [isNm, vok]
theorem fitG_run : ∀ (l : List Int) (i : It) (s : St), s.bad < 0 → s.k ≤ ts.length →
    match fitG ts i l s.k with
    | .ok j => run ts long l (i, s) = (j, ⟨ts.length, s.bad⟩)
    | .error m => s.k ≤ m ∧ m ≤ ts.length ∧ (fin ts long (run ts long l (i, s)).2).bad = (Sy.tokAt ts long m).at_
  | [], i, s, hb, hk => by
    unfold fitG
    by_cases h : s.k < ts.length
    · rw [if_pos h]
      refine ⟨Nat.le_refl _, hk, ?_⟩
      show (fin ts long s).bad = _
      unfold fin
      rw [if_pos ⟨hb, h⟩]
      exact fail_new hb _
    · rw [if_neg h]
      obtain ⟨k, b⟩ := s
      have : k = ts.length := by simp only at h hk; omega
      subst this
      rfl
  | p :: l, i, s, hb, hk => by
    by_cases hp : p = 32
    · have e1 : fitG ts i (p :: l) s.k = fitG ts i l s.k := by rw [fitG, if_pos hp]
      have e2 : run ts long (p :: l) (i, s) = run ts long l (i, s) := by show run ts long l (rd ts long (i, s) p) = _; rw [rd, if_pos hp]
      rw [e1, e2]
      exact fitG_run l i s hb hk
    · cases e : ts[s.k]? with
      | none =>
        have e1 : fitG ts i (p :: l) s.k = .error s.k := by rw [fitG, if_neg hp, e]
        rw [e1]
        have hlen : ts.length ≤ s.k := by rw [List.getElem?_eq_none_iff] at e; exact e
        refine ⟨Nat.le_refl _, hk, ?_⟩
        have e2 : rd ts long (i, s) p = ((take i p (Sy.tokAt ts long s.k)).1, Sy.fail (Sy.tokAt ts long s.k).at_ (Sy.step ts s)) := by rw [rd, if_neg hp, if_neg (by rw [tok_none e i p hp]; decide)]
        have h3 : (Sy.fail (Sy.tokAt ts long s.k).at_ (Sy.step ts s)).bad = (Sy.tokAt ts long s.k).at_ := fail_new (by rw [step_bad']; exact hb) _
        have h4 : (run ts long (p :: l) (i, s)).2.bad = (Sy.tokAt ts long s.k).at_ := by
          show (run ts long l (rd ts long (i, s) p)).2.bad = _
          rw [e2, run_bad _ _ (by rw [h3]; exact Int.natCast_nonneg _), h3]
        unfold fin
        rw [if_neg (by rw [h4]; have := Int.natCast_nonneg (Sy.tokAt ts long s.k).at_; omega), h4]
      | some t =>
        have et : Sy.tokAt ts long s.k = t := by unfold Sy.tokAt; rw [e]; rfl
        have hlt : s.k < ts.length := (List.getElem?_eq_some_iff.1 e).1
        by_cases hf : (take i p t).2 = true
        · have e1 : fitG ts i (p :: l) s.k = fitG ts (take i p t).1 l (s.k + 1) := by rw [fitG, if_neg hp, e]; simp only [hf, if_true]
          have es : Sy.step ts s = ⟨s.k + 1, s.bad⟩ := by unfold Sy.step; rw [if_pos hlt]
          have e2 : run ts long (p :: l) (i, s) = run ts long l ((take i p t).1, ⟨s.k + 1, s.bad⟩) := by
            show run ts long l (rd ts long (i, s) p) = _
            rw [rd, if_neg hp, et]
            simp only [hf, if_true, es]
          rw [e1, e2]
          have := fitG_run l (take i p t).1 ⟨s.k + 1, s.bad⟩ hb (by simp only; omega)
          cases hq : fitG ts (take i p t).1 l (s.k + 1) with
          | ok j => rw [hq] at this; exact this
          | error m =>
            rw [hq] at this
            obtain ⟨h1, h2, h3⟩ := this
            exact ⟨by simp only at h1; omega, h2, h3⟩
        · have e1 : fitG ts i (p :: l) s.k = .error s.k := by rw [fitG, if_neg hp, e]; simp only [hf]; rfl
          rw [e1]
          refine ⟨Nat.le_refl _, hk, ?_⟩
          have e2 : rd ts long (i, s) p = ((take i p t).1, Sy.fail t.at_ (Sy.step ts s)) := by rw [rd, if_neg hp, et]; simp only [hf]; rfl
          have h3 : (Sy.fail t.at_ (Sy.step ts s)).bad = t.at_ := fail_new (by rw [step_bad']; exact hb) _
          have h4 : (run ts long (p :: l) (i, s)).2.bad = t.at_ := by
            show (run ts long l (rd ts long (i, s) p)).2.bad = _
            rw [e2, run_bad _ _ (by rw [h3]; exact Int.natCast_nonneg _), h3]
          rw [et]
          unfold fin
          rw [if_neg (by rw [h4]; have := Int.natCast_nonneg t.at_; omega), h4]
/-- how the reader ends -/
def ended (ts : List Tk) (long : Nat) (x : It × St) : Except Nat It := if 0 ≤ (fin ts long x.2).bad then .error (fin ts long x.2).bad.toNat else .ok x.1
def told (ts : List Tk) (long : Nat) : Except Nat It → Except Nat It
  | .ok i => .ok i
  | .error m => .error (Sy.tokAt ts long m).at_
theorem ended_run (l : List Int) (i : It) (s : St) (hb : s.bad < 0) (hk : s.k ≤ ts.length) : ended ts long (run ts long l (i, s)) = told ts long (fitG ts i l s.k) := by
  have h := fitG_run (ts := ts) (long := long) l i s hb hk
  revert h
  cases fitG ts i l s.k with
  | ok j =>
    intro h
    simp only at h
    have e : fin ts long ⟨ts.length, s.bad⟩ = ⟨ts.length, s.bad⟩ := by unfold fin; rw [if_neg (by simp only; omega)]
    unfold ended
    rw [h, e, if_neg (by simp only; omega)]
    rfl
  | error m =>
    rintro ⟨_, _, h⟩
    unfold ended
    rw [h, if_pos (Int.natCast_nonneg _)]
    rfl
/-- pieces, one by one -/
theorem num_rd (i : It) (s : St) : (({ i with n := (Sy.num ts long s).1 } : It), (Sy.num ts long s).2) = rd ts long (i, s) 78 := by
  unfold rd Sy.num
  simp only [take, if_neg (show ¬ (78 : Int) = 32 by decide), if_true, decide_eq_true_eq]
theorem name_rd (G : ∀ t ∈ ts, Lx.Good t) (i : It) (s : St) : (({ i with name := (Sy.name ts long s).1 } : It), (Sy.name ts long s).2) = rd ts long (i, s) 77 := by
  have h := isNm_iff (okt_tok G long s.k)
  unfold rd Sy.name
  simp only [take, if_neg (show ¬ (77 : Int) = 32 by decide), if_neg (show ¬ (77 : Int) = 78 by decide), if_true, h]
theorem goes_rd (G : ∀ t ∈ ts, Lx.Good t) (i : It) (s : St) : (({ i with ins := { i.ins with name := (Sy.name ts long s).1 } } : It), (Sy.name ts long s).2) = rd ts long (i, s) 76 := by
  have h := isNm_iff (okt_tok G long s.k)
  unfold rd Sy.name
  simp only [take, if_neg (show ¬ (76 : Int) = 32 by decide), if_neg (show ¬ (76 : Int) = 78 by decide), if_neg (show ¬ (76 : Int) = 77 by decide), if_true, h]
theorem reg_rd (G : ∀ t ∈ ts, Lx.Good t) (i : It) (s : St) : (({ i with ins := { i.ins with d := (Sy.reg ts long s).1 } } : It), (Sy.reg ts long s).2) = rd ts long (i, s) 68 := by
  have h := (okt_tok G long s.k).reg1
  unfold rd Sy.reg
  simp only [take, if_neg (show ¬ (68 : Int) = 32 by decide), if_neg (show ¬ (68 : Int) = 78 by decide), if_neg (show ¬ (68 : Int) = 77 by decide), if_neg (show ¬ (68 : Int) = 76 by decide), if_neg (show ¬ (68 : Int) = 79 by decide), if_true, decide_eq_true_eq, rv]
  by_cases hr : 0 ≤ Sy.regN (Sy.tokAt ts long s.k).text
  · simp only [hr, h hr, and_self, if_true]
  · simp only [hr, and_false, if_false]
theorem vl_eq (G : ∀ t ∈ ts, Lx.Good t) (s : St) : Sy.vl ts long s = (vlv (Sy.tokAt ts long s.k), if vok (Sy.tokAt ts long s.k) = true then Sy.step ts s else Sy.fail (Sy.tokAt ts long s.k).at_ (Sy.step ts s)) := by
  have h := (okt_tok G long s.k).reg1
  unfold Sy.vl vlv vok
  by_cases h2 : (Sy.tokAt ts long s.k).kind = 2
  · simp [h2]
  · by_cases hr : 0 ≤ Sy.regN (Sy.tokAt ts long s.k).text
    · simp [hr, h hr]
    · simp [hr, h2]
theorem a_rd (G : ∀ t ∈ ts, Lx.Good t) (i : It) (s : St) : (({ i with ins := { i.ins with a := (Sy.vl ts long s).1 } } : It), (Sy.vl ts long s).2) = rd ts long (i, s) 65 := by
  rw [vl_eq G]; rfl
theorem b_rd (G : ∀ t ∈ ts, Lx.Good t) (i : It) (s : St) : (({ i with ins := { i.ins with b := (Sy.vl ts long s).1 } } : It), (Sy.vl ts long s).2) = rd ts long (i, s) 66 := by
  rw [vl_eq G]; rfl
theorem sign_rd (G : ∀ t ∈ ts, Lx.Good t) (i : It) (s : St) {p : Int} (hp : p = 44 ∨ p = 58 ∨ p = 91 ∨ p = 93 ∨ p = 43) : (i, Sy.sign ts long p s) = rd ts long (i, s) p := by
  have h := (okt_tok G long s.k).sign1 hp
  have e : ∀ t, take i p t = (i, decide (t.text = [p])) := fun t => by unfold take; rcases hp with rfl | rfl | rfl | rfl | rfl <;> rfl
  have h32 : p ≠ 32 := by omega
  unfold rd Sy.sign
  simp only [e, if_neg h32, decide_eq_true_eq]
  by_cases ht : (Sy.tokAt ts long s.k).text = [p]
  · simp only [ht, h ht, and_self, if_true]
  · simp only [ht, and_false, if_false]
theorem op_rd (G : ∀ t ∈ ts, Lx.Good t) (i : It) (s : St) : (({ i with ins := { i.ins with op := Sy.opN (Sy.tokAt ts long s.k).text } } : It), if (Sy.tokAt ts long s.k).kind = 1 ∧ Sy.opN (Sy.tokAt ts long s.k).text ≠ 0 then Sy.step ts s else Sy.fail (Sy.tokAt ts long s.k).at_ (Sy.step ts s)) = rd ts long (i, s) 79 := by
  have h := (okt_tok G long s.k).op1
  have h0 := (Sy.opN_range (Sy.tokAt ts long s.k).text).1
  unfold rd
  simp only [take, if_neg (show ¬ (79 : Int) = 32 by decide), if_neg (show ¬ (79 : Int) = 78 by decide), if_neg (show ¬ (79 : Int) = 77 by decide), if_neg (show ¬ (79 : Int) = 76 by decide), if_true, decide_eq_true_eq]
  by_cases ho : 0 < Sy.opN (Sy.tokAt ts long s.k).text
  · rw [if_pos ⟨(h ho).1, by omega⟩, if_pos ho]
  · rw [if_neg (fun hh => ho (by have := hh.2; omega)), if_neg ho]
end
end Sn
end
end Go.Proofs.YtmghklokbmdenaaDoor
namespace Go.Proofs.YtmghklokbmdenaaDoor
section
namespace Sn
open Lx (Tk)
open Sy (In It Vl St)
/-- may a form begin with that sign? -/
def app (t : Tk) (g : Fm) : Bool := if g.word = [] then (if g.rest.head? = some 77 then isNm t else decide (0 < Sy.opN t.text)) else decide (t.text = g.word)
section
variable {t : Tk} {l : List Tk} {long : Nat}
theorem fit_zero {g : Fm} (hg : g ∈ forms) (h : app t g = false) : fit (t :: l) g = .error 0 := by
  unfold app at h
  unfold fit
  by_cases hw : g.word = []
  · rw [if_pos hw] at h ⊢
    simp only [forms, List.mem_cons, List.not_mem_nil, or_false] at hg
    rcases hg with rfl | rfl | rfl | rfl | rfl | rfl | rfl | rfl | rfl | rfl | rfl | rfl | rfl | rfl | rfl | rfl | rfl | rfl | rfl | rfl
    all_goals try (exact absurd hw (by decide))
    · simp at h
      simp only [begin_]
      rw [fitG, if_neg (by decide)]
      simp [take, h]
    · simp at h
      simp only [begin_]
      rw [fitG, if_neg (by decide)]
      simp [take, show ¬ 0 < Sy.opN t.text by omega]
  · rw [if_neg hw] at h ⊢
    rw [if_neg]
    simpa [Sy.tokAt] using h
theorem best_zero {ts : List Tk} : ∀ (L : List Fm) (m : Nat), (∀ g ∈ L, fit ts g = .error 0) → best ts L m = .error m
  | [], m, _ => rfl
  | g :: L, m, h => by
    rw [best, h g (by simp)]
    have := best_zero L (max m 0) (fun x hx => h x (by simp [hx]))
    simpa using this
theorem best_skip {ts : List Tk} : ∀ (L R : List Fm) (m : Nat), (∀ g ∈ L, fit ts g = .error 0) → best ts (L ++ R) m = best ts R m
  | [], R, m, _ => rfl
  | g :: L, R, m, h => by
    rw [List.cons_append, best, h g (by simp)]
    have := best_skip L R (max m 0) (fun x hx => h x (by simp [hx]))
    simpa using this
theorem all_zero {L : List Fm} (hL : ∀ g ∈ L, g ∈ forms) (h : L.all (fun g => !app t g) = true) : ∀ g ∈ L, fit (t :: l) g = .error 0 := fun g hg => by
  have := List.all_eq_true.1 h g hg
  exact fit_zero (hL g hg) (by simpa using this)
theorem only (k : Nat) {f : Fm} (hk : forms = forms.take k ++ f :: forms.drop (k + 1)) (h1 : (forms.take k).all (fun g => !app t g) = true) (h2 : (forms.drop (k + 1)).all (fun g => !app t g) = true) :
    best (t :: l) forms 0 = fit (t :: l) f := by
  rw [hk, best_skip _ _ _ (all_zero (fun g hg => List.mem_of_mem_take hg) h1), best]
  cases fit (t :: l) f with
  | ok i => rfl
  | error n => simp only [best_zero _ _ (all_zero (l := l) (fun g hg => List.mem_of_mem_drop hg) h2)]; simp
theorem none_ (h : forms.all (fun g => !app t g) = true) : best (t :: l) forms 0 = .error 0 := best_zero _ _ (all_zero (fun g hg => hg) h)
theorem fit_self {f : Fm} (hw : f.word ≠ []) (ht : t.text = f.word) : fit (t :: l) f = fitG (t :: l) (begin_ f) f.rest 1 := by
  unfold fit
  rw [if_neg hw, if_pos (by simpa [Sy.tokAt] using ht)]
theorem step0 : Sy.step (t :: l) ⟨0, -1⟩ = ⟨1, -1⟩ := by simp [Sy.step]
theorem tok0 : Sy.tokAt (t :: l) long 0 = t := rfl
theorem r32 {ts : List Tk} (x : It × St) : rd ts long x 32 = x := by rw [rd, if_pos rfl]
theorem len1 : 1 ≤ (t :: l).length := by simp

set_option maxHeartbeats 4000000 in
theorem same_width (n : Int) (a : Nat) (G : ∀ x ∈ (⟨1, [119, 105, 100, 116, 104], n, a⟩ : Tk) :: l, Lx.Good x) : told (⟨1, [119, 105, 100, 116, 104], n, a⟩ :: l) long (best (⟨1, [119, 105, 100, 116, 104], n, a⟩ :: l) forms 0) = ended (⟨1, [119, 105, 100, 116, 104], n, a⟩ :: l) long (Sy.item (⟨1, [119, 105, 100, 116, 104], n, a⟩ :: l) long ⟨0, -1⟩) := by
  rw [only 0 (f := forms[0]) rfl rfl rfl, fit_self (by decide) rfl, ← ended_run (ts := ⟨1, [119, 105, 100, 116, 104], n, a⟩ :: l) _ _ ⟨1, -1⟩ (by decide) len1]
  refine congrArg _ ?_
  have D := fun i s => (reg_rd (long := long) G i s).symm; have A := fun i s => (a_rd (long := long) G i s).symm; have B := fun i s => (b_rd (long := long) G i s).symm
  have O := fun i s => (op_rd (long := long) G i s).symm; have L := fun i s => (goes_rd (long := long) G i s).symm; have N := fun i s => (num_rd (ts := ⟨1, [119, 105, 100, 116, 104], n, a⟩ :: l) (long := long) i s).symm
  have S1 := fun i s => (sign_rd (long := long) G i s (p := 44) (by decide)).symm; have S2 := fun i s => (sign_rd (long := long) G i s (p := 91) (by decide)).symm; have S3 := fun i s => (sign_rd (long := long) G i s (p := 43) (by decide)).symm; have S4 := fun i s => (sign_rd (long := long) G i s (p := 93) (by decide)).symm
  show run _ _ forms[0].rest _ = _
  simp only [forms, List.getElem_cons_succ, List.getElem_cons_zero, begin_, run, List.foldl_cons, List.foldl_nil, r32, D, A, B, O, L, N, S1, S2, S3, S4]
  unfold Sy.item
  simp only [tok0, step0]
  rfl
set_option maxHeartbeats 4000000 in
theorem same_window (n : Int) (a : Nat) (G : ∀ x ∈ (⟨1, [119, 105, 110, 100, 111, 119], n, a⟩ : Tk) :: l, Lx.Good x) : told (⟨1, [119, 105, 110, 100, 111, 119], n, a⟩ :: l) long (best (⟨1, [119, 105, 110, 100, 111, 119], n, a⟩ :: l) forms 0) = ended (⟨1, [119, 105, 110, 100, 111, 119], n, a⟩ :: l) long (Sy.item (⟨1, [119, 105, 110, 100, 111, 119], n, a⟩ :: l) long ⟨0, -1⟩) := by
  rw [only 1 (f := forms[1]) rfl rfl rfl, fit_self (by decide) rfl, ← ended_run (ts := ⟨1, [119, 105, 110, 100, 111, 119], n, a⟩ :: l) _ _ ⟨1, -1⟩ (by decide) len1]
  refine congrArg _ ?_
  have D := fun i s => (reg_rd (long := long) G i s).symm; have A := fun i s => (a_rd (long := long) G i s).symm; have B := fun i s => (b_rd (long := long) G i s).symm
  have O := fun i s => (op_rd (long := long) G i s).symm; have L := fun i s => (goes_rd (long := long) G i s).symm; have N := fun i s => (num_rd (ts := ⟨1, [119, 105, 110, 100, 111, 119], n, a⟩ :: l) (long := long) i s).symm
  have S1 := fun i s => (sign_rd (long := long) G i s (p := 44) (by decide)).symm; have S2 := fun i s => (sign_rd (long := long) G i s (p := 91) (by decide)).symm; have S3 := fun i s => (sign_rd (long := long) G i s (p := 43) (by decide)).symm; have S4 := fun i s => (sign_rd (long := long) G i s (p := 93) (by decide)).symm
  show run _ _ forms[1].rest _ = _
  simp only [forms, List.getElem_cons_succ, List.getElem_cons_zero, begin_, run, List.foldl_cons, List.foldl_nil, r32, D, A, B, O, L, N, S1, S2, S3, S4]
  unfold Sy.item
  simp only [tok0, step0]
  rfl
set_option maxHeartbeats 4000000 in
theorem same_fuel (n : Int) (a : Nat) (G : ∀ x ∈ (⟨1, [102, 117, 101, 108], n, a⟩ : Tk) :: l, Lx.Good x) : told (⟨1, [102, 117, 101, 108], n, a⟩ :: l) long (best (⟨1, [102, 117, 101, 108], n, a⟩ :: l) forms 0) = ended (⟨1, [102, 117, 101, 108], n, a⟩ :: l) long (Sy.item (⟨1, [102, 117, 101, 108], n, a⟩ :: l) long ⟨0, -1⟩) := by
  rw [only 2 (f := forms[2]) rfl rfl rfl, fit_self (by decide) rfl, ← ended_run (ts := ⟨1, [102, 117, 101, 108], n, a⟩ :: l) _ _ ⟨1, -1⟩ (by decide) len1]
  refine congrArg _ ?_
  have D := fun i s => (reg_rd (long := long) G i s).symm; have A := fun i s => (a_rd (long := long) G i s).symm; have B := fun i s => (b_rd (long := long) G i s).symm
  have O := fun i s => (op_rd (long := long) G i s).symm; have L := fun i s => (goes_rd (long := long) G i s).symm; have N := fun i s => (num_rd (ts := ⟨1, [102, 117, 101, 108], n, a⟩ :: l) (long := long) i s).symm
  have S1 := fun i s => (sign_rd (long := long) G i s (p := 44) (by decide)).symm; have S2 := fun i s => (sign_rd (long := long) G i s (p := 91) (by decide)).symm; have S3 := fun i s => (sign_rd (long := long) G i s (p := 43) (by decide)).symm; have S4 := fun i s => (sign_rd (long := long) G i s (p := 93) (by decide)).symm
  show run _ _ forms[2].rest _ = _
  simp only [forms, List.getElem_cons_succ, List.getElem_cons_zero, begin_, run, List.foldl_cons, List.foldl_nil, r32, D, A, B, O, L, N, S1, S2, S3, S4]
  unfold Sy.item
  simp only [tok0, step0]
  rfl
set_option maxHeartbeats 4000000 in
theorem same_mov (n : Int) (a : Nat) (G : ∀ x ∈ (⟨1, [109, 111, 118], n, a⟩ : Tk) :: l, Lx.Good x) : told (⟨1, [109, 111, 118], n, a⟩ :: l) long (best (⟨1, [109, 111, 118], n, a⟩ :: l) forms 0) = ended (⟨1, [109, 111, 118], n, a⟩ :: l) long (Sy.item (⟨1, [109, 111, 118], n, a⟩ :: l) long ⟨0, -1⟩) := by
  rw [only 9 (f := forms[9]) rfl rfl rfl, fit_self (by decide) rfl, ← ended_run (ts := ⟨1, [109, 111, 118], n, a⟩ :: l) _ _ ⟨1, -1⟩ (by decide) len1]
  refine congrArg _ ?_
  have D := fun i s => (reg_rd (long := long) G i s).symm; have A := fun i s => (a_rd (long := long) G i s).symm; have B := fun i s => (b_rd (long := long) G i s).symm
  have O := fun i s => (op_rd (long := long) G i s).symm; have L := fun i s => (goes_rd (long := long) G i s).symm; have N := fun i s => (num_rd (ts := ⟨1, [109, 111, 118], n, a⟩ :: l) (long := long) i s).symm
  have S1 := fun i s => (sign_rd (long := long) G i s (p := 44) (by decide)).symm; have S2 := fun i s => (sign_rd (long := long) G i s (p := 91) (by decide)).symm; have S3 := fun i s => (sign_rd (long := long) G i s (p := 43) (by decide)).symm; have S4 := fun i s => (sign_rd (long := long) G i s (p := 93) (by decide)).symm
  show run _ _ forms[9].rest _ = _
  simp only [forms, List.getElem_cons_succ, List.getElem_cons_zero, begin_, run, List.foldl_cons, List.foldl_nil, r32, D, A, B, O, L, N, S1, S2, S3, S4]
  unfold Sy.item
  simp only [tok0, step0]
  rfl
set_option maxHeartbeats 4000000 in
theorem same_load (n : Int) (a : Nat) (G : ∀ x ∈ (⟨1, [108, 111, 97, 100], n, a⟩ : Tk) :: l, Lx.Good x) : told (⟨1, [108, 111, 97, 100], n, a⟩ :: l) long (best (⟨1, [108, 111, 97, 100], n, a⟩ :: l) forms 0) = ended (⟨1, [108, 111, 97, 100], n, a⟩ :: l) long (Sy.item (⟨1, [108, 111, 97, 100], n, a⟩ :: l) long ⟨0, -1⟩) := by
  rw [only 10 (f := forms[10]) rfl rfl rfl, fit_self (by decide) rfl, ← ended_run (ts := ⟨1, [108, 111, 97, 100], n, a⟩ :: l) _ _ ⟨1, -1⟩ (by decide) len1]
  refine congrArg _ ?_
  have D := fun i s => (reg_rd (long := long) G i s).symm; have A := fun i s => (a_rd (long := long) G i s).symm; have B := fun i s => (b_rd (long := long) G i s).symm
  have O := fun i s => (op_rd (long := long) G i s).symm; have L := fun i s => (goes_rd (long := long) G i s).symm; have N := fun i s => (num_rd (ts := ⟨1, [108, 111, 97, 100], n, a⟩ :: l) (long := long) i s).symm
  have S1 := fun i s => (sign_rd (long := long) G i s (p := 44) (by decide)).symm; have S2 := fun i s => (sign_rd (long := long) G i s (p := 91) (by decide)).symm; have S3 := fun i s => (sign_rd (long := long) G i s (p := 43) (by decide)).symm; have S4 := fun i s => (sign_rd (long := long) G i s (p := 93) (by decide)).symm
  show run _ _ forms[10].rest _ = _
  simp only [forms, List.getElem_cons_succ, List.getElem_cons_zero, begin_, run, List.foldl_cons, List.foldl_nil, r32, D, A, B, O, L, N, S1, S2, S3, S4]
  unfold Sy.item
  simp only [tok0, step0]
  rfl
set_option maxHeartbeats 4000000 in
theorem same_store (n : Int) (a : Nat) (G : ∀ x ∈ (⟨1, [115, 116, 111, 114, 101], n, a⟩ : Tk) :: l, Lx.Good x) : told (⟨1, [115, 116, 111, 114, 101], n, a⟩ :: l) long (best (⟨1, [115, 116, 111, 114, 101], n, a⟩ :: l) forms 0) = ended (⟨1, [115, 116, 111, 114, 101], n, a⟩ :: l) long (Sy.item (⟨1, [115, 116, 111, 114, 101], n, a⟩ :: l) long ⟨0, -1⟩) := by
  rw [only 11 (f := forms[11]) rfl rfl rfl, fit_self (by decide) rfl, ← ended_run (ts := ⟨1, [115, 116, 111, 114, 101], n, a⟩ :: l) _ _ ⟨1, -1⟩ (by decide) len1]
  refine congrArg _ ?_
  have D := fun i s => (reg_rd (long := long) G i s).symm; have A := fun i s => (a_rd (long := long) G i s).symm; have B := fun i s => (b_rd (long := long) G i s).symm
  have O := fun i s => (op_rd (long := long) G i s).symm; have L := fun i s => (goes_rd (long := long) G i s).symm; have N := fun i s => (num_rd (ts := ⟨1, [115, 116, 111, 114, 101], n, a⟩ :: l) (long := long) i s).symm
  have S1 := fun i s => (sign_rd (long := long) G i s (p := 44) (by decide)).symm; have S2 := fun i s => (sign_rd (long := long) G i s (p := 91) (by decide)).symm; have S3 := fun i s => (sign_rd (long := long) G i s (p := 43) (by decide)).symm; have S4 := fun i s => (sign_rd (long := long) G i s (p := 93) (by decide)).symm
  show run _ _ forms[11].rest _ = _
  simp only [forms, List.getElem_cons_succ, List.getElem_cons_zero, begin_, run, List.foldl_cons, List.foldl_nil, r32, D, A, B, O, L, N, S1, S2, S3, S4]
  unfold Sy.item
  simp only [tok0, step0]
  rfl
set_option maxHeartbeats 4000000 in
theorem same_cmov (n : Int) (a : Nat) (G : ∀ x ∈ (⟨1, [99, 109, 111, 118], n, a⟩ : Tk) :: l, Lx.Good x) : told (⟨1, [99, 109, 111, 118], n, a⟩ :: l) long (best (⟨1, [99, 109, 111, 118], n, a⟩ :: l) forms 0) = ended (⟨1, [99, 109, 111, 118], n, a⟩ :: l) long (Sy.item (⟨1, [99, 109, 111, 118], n, a⟩ :: l) long ⟨0, -1⟩) := by
  rw [only 12 (f := forms[12]) rfl rfl rfl, fit_self (by decide) rfl, ← ended_run (ts := ⟨1, [99, 109, 111, 118], n, a⟩ :: l) _ _ ⟨1, -1⟩ (by decide) len1]
  refine congrArg _ ?_
  have D := fun i s => (reg_rd (long := long) G i s).symm; have A := fun i s => (a_rd (long := long) G i s).symm; have B := fun i s => (b_rd (long := long) G i s).symm
  have O := fun i s => (op_rd (long := long) G i s).symm; have L := fun i s => (goes_rd (long := long) G i s).symm; have N := fun i s => (num_rd (ts := ⟨1, [99, 109, 111, 118], n, a⟩ :: l) (long := long) i s).symm
  have S1 := fun i s => (sign_rd (long := long) G i s (p := 44) (by decide)).symm; have S2 := fun i s => (sign_rd (long := long) G i s (p := 91) (by decide)).symm; have S3 := fun i s => (sign_rd (long := long) G i s (p := 43) (by decide)).symm; have S4 := fun i s => (sign_rd (long := long) G i s (p := 93) (by decide)).symm
  show run _ _ forms[12].rest _ = _
  simp only [forms, List.getElem_cons_succ, List.getElem_cons_zero, begin_, run, List.foldl_cons, List.foldl_nil, r32, D, A, B, O, L, N, S1, S2, S3, S4]
  unfold Sy.item
  simp only [tok0, step0]
  rfl
set_option maxHeartbeats 4000000 in
theorem same_br (n : Int) (a : Nat) (G : ∀ x ∈ (⟨1, [98, 114], n, a⟩ : Tk) :: l, Lx.Good x) : told (⟨1, [98, 114], n, a⟩ :: l) long (best (⟨1, [98, 114], n, a⟩ :: l) forms 0) = ended (⟨1, [98, 114], n, a⟩ :: l) long (Sy.item (⟨1, [98, 114], n, a⟩ :: l) long ⟨0, -1⟩) := by
  rw [only 13 (f := forms[13]) rfl rfl rfl, fit_self (by decide) rfl, ← ended_run (ts := ⟨1, [98, 114], n, a⟩ :: l) _ _ ⟨1, -1⟩ (by decide) len1]
  refine congrArg _ ?_
  have D := fun i s => (reg_rd (long := long) G i s).symm; have A := fun i s => (a_rd (long := long) G i s).symm; have B := fun i s => (b_rd (long := long) G i s).symm
  have O := fun i s => (op_rd (long := long) G i s).symm; have L := fun i s => (goes_rd (long := long) G i s).symm; have N := fun i s => (num_rd (ts := ⟨1, [98, 114], n, a⟩ :: l) (long := long) i s).symm
  have S1 := fun i s => (sign_rd (long := long) G i s (p := 44) (by decide)).symm; have S2 := fun i s => (sign_rd (long := long) G i s (p := 91) (by decide)).symm; have S3 := fun i s => (sign_rd (long := long) G i s (p := 43) (by decide)).symm; have S4 := fun i s => (sign_rd (long := long) G i s (p := 93) (by decide)).symm
  show run _ _ forms[13].rest _ = _
  simp only [forms, List.getElem_cons_succ, List.getElem_cons_zero, begin_, run, List.foldl_cons, List.foldl_nil, r32, D, A, B, O, L, N, S1, S2, S3, S4]
  unfold Sy.item
  simp only [tok0, step0]
  rfl
set_option maxHeartbeats 4000000 in
theorem same_jmp (n : Int) (a : Nat) (G : ∀ x ∈ (⟨1, [106, 109, 112], n, a⟩ : Tk) :: l, Lx.Good x) : told (⟨1, [106, 109, 112], n, a⟩ :: l) long (best (⟨1, [106, 109, 112], n, a⟩ :: l) forms 0) = ended (⟨1, [106, 109, 112], n, a⟩ :: l) long (Sy.item (⟨1, [106, 109, 112], n, a⟩ :: l) long ⟨0, -1⟩) := by
  rw [only 14 (f := forms[14]) rfl rfl rfl, fit_self (by decide) rfl, ← ended_run (ts := ⟨1, [106, 109, 112], n, a⟩ :: l) _ _ ⟨1, -1⟩ (by decide) len1]
  refine congrArg _ ?_
  have D := fun i s => (reg_rd (long := long) G i s).symm; have A := fun i s => (a_rd (long := long) G i s).symm; have B := fun i s => (b_rd (long := long) G i s).symm
  have O := fun i s => (op_rd (long := long) G i s).symm; have L := fun i s => (goes_rd (long := long) G i s).symm; have N := fun i s => (num_rd (ts := ⟨1, [106, 109, 112], n, a⟩ :: l) (long := long) i s).symm
  have S1 := fun i s => (sign_rd (long := long) G i s (p := 44) (by decide)).symm; have S2 := fun i s => (sign_rd (long := long) G i s (p := 91) (by decide)).symm; have S3 := fun i s => (sign_rd (long := long) G i s (p := 43) (by decide)).symm; have S4 := fun i s => (sign_rd (long := long) G i s (p := 93) (by decide)).symm
  show run _ _ forms[14].rest _ = _
  simp only [forms, List.getElem_cons_succ, List.getElem_cons_zero, begin_, run, List.foldl_cons, List.foldl_nil, r32, D, A, B, O, L, N, S1, S2, S3, S4]
  unfold Sy.item
  simp only [tok0, step0]
  rfl
set_option maxHeartbeats 4000000 in
theorem same_call (n : Int) (a : Nat) (G : ∀ x ∈ (⟨1, [99, 97, 108, 108], n, a⟩ : Tk) :: l, Lx.Good x) : told (⟨1, [99, 97, 108, 108], n, a⟩ :: l) long (best (⟨1, [99, 97, 108, 108], n, a⟩ :: l) forms 0) = ended (⟨1, [99, 97, 108, 108], n, a⟩ :: l) long (Sy.item (⟨1, [99, 97, 108, 108], n, a⟩ :: l) long ⟨0, -1⟩) := by
  rw [only 15 (f := forms[15]) rfl rfl rfl, fit_self (by decide) rfl, ← ended_run (ts := ⟨1, [99, 97, 108, 108], n, a⟩ :: l) _ _ ⟨1, -1⟩ (by decide) len1]
  refine congrArg _ ?_
  have D := fun i s => (reg_rd (long := long) G i s).symm; have A := fun i s => (a_rd (long := long) G i s).symm; have B := fun i s => (b_rd (long := long) G i s).symm
  have O := fun i s => (op_rd (long := long) G i s).symm; have L := fun i s => (goes_rd (long := long) G i s).symm; have N := fun i s => (num_rd (ts := ⟨1, [99, 97, 108, 108], n, a⟩ :: l) (long := long) i s).symm
  have S1 := fun i s => (sign_rd (long := long) G i s (p := 44) (by decide)).symm; have S2 := fun i s => (sign_rd (long := long) G i s (p := 91) (by decide)).symm; have S3 := fun i s => (sign_rd (long := long) G i s (p := 43) (by decide)).symm; have S4 := fun i s => (sign_rd (long := long) G i s (p := 93) (by decide)).symm
  show run _ _ forms[15].rest _ = _
  simp only [forms, List.getElem_cons_succ, List.getElem_cons_zero, begin_, run, List.foldl_cons, List.foldl_nil, r32, D, A, B, O, L, N, S1, S2, S3, S4]
  unfold Sy.item
  simp only [tok0, step0]
  rfl
set_option maxHeartbeats 4000000 in
theorem same_ind (n : Int) (a : Nat) (G : ∀ x ∈ (⟨1, [105, 110, 100], n, a⟩ : Tk) :: l, Lx.Good x) : told (⟨1, [105, 110, 100], n, a⟩ :: l) long (best (⟨1, [105, 110, 100], n, a⟩ :: l) forms 0) = ended (⟨1, [105, 110, 100], n, a⟩ :: l) long (Sy.item (⟨1, [105, 110, 100], n, a⟩ :: l) long ⟨0, -1⟩) := by
  rw [only 16 (f := forms[16]) rfl rfl rfl, fit_self (by decide) rfl, ← ended_run (ts := ⟨1, [105, 110, 100], n, a⟩ :: l) _ _ ⟨1, -1⟩ (by decide) len1]
  refine congrArg _ ?_
  have D := fun i s => (reg_rd (long := long) G i s).symm; have A := fun i s => (a_rd (long := long) G i s).symm; have B := fun i s => (b_rd (long := long) G i s).symm
  have O := fun i s => (op_rd (long := long) G i s).symm; have L := fun i s => (goes_rd (long := long) G i s).symm; have N := fun i s => (num_rd (ts := ⟨1, [105, 110, 100], n, a⟩ :: l) (long := long) i s).symm
  have S1 := fun i s => (sign_rd (long := long) G i s (p := 44) (by decide)).symm; have S2 := fun i s => (sign_rd (long := long) G i s (p := 91) (by decide)).symm; have S3 := fun i s => (sign_rd (long := long) G i s (p := 43) (by decide)).symm; have S4 := fun i s => (sign_rd (long := long) G i s (p := 93) (by decide)).symm
  show run _ _ forms[16].rest _ = _
  simp only [forms, List.getElem_cons_succ, List.getElem_cons_zero, begin_, run, List.foldl_cons, List.foldl_nil, r32, D, A, B, O, L, N, S1, S2, S3, S4]
  unfold Sy.item
  simp only [tok0, step0]
  rfl
set_option maxHeartbeats 4000000 in
theorem same_ret (n : Int) (a : Nat) (G : ∀ x ∈ (⟨1, [114, 101, 116], n, a⟩ : Tk) :: l, Lx.Good x) : told (⟨1, [114, 101, 116], n, a⟩ :: l) long (best (⟨1, [114, 101, 116], n, a⟩ :: l) forms 0) = ended (⟨1, [114, 101, 116], n, a⟩ :: l) long (Sy.item (⟨1, [114, 101, 116], n, a⟩ :: l) long ⟨0, -1⟩) := by
  rw [only 17 (f := forms[17]) rfl rfl rfl, fit_self (by decide) rfl, ← ended_run (ts := ⟨1, [114, 101, 116], n, a⟩ :: l) _ _ ⟨1, -1⟩ (by decide) len1]
  refine congrArg _ ?_
  have D := fun i s => (reg_rd (long := long) G i s).symm; have A := fun i s => (a_rd (long := long) G i s).symm; have B := fun i s => (b_rd (long := long) G i s).symm
  have O := fun i s => (op_rd (long := long) G i s).symm; have L := fun i s => (goes_rd (long := long) G i s).symm; have N := fun i s => (num_rd (ts := ⟨1, [114, 101, 116], n, a⟩ :: l) (long := long) i s).symm
  have S1 := fun i s => (sign_rd (long := long) G i s (p := 44) (by decide)).symm; have S2 := fun i s => (sign_rd (long := long) G i s (p := 91) (by decide)).symm; have S3 := fun i s => (sign_rd (long := long) G i s (p := 43) (by decide)).symm; have S4 := fun i s => (sign_rd (long := long) G i s (p := 93) (by decide)).symm
  show run _ _ forms[17].rest _ = _
  simp only [forms, List.getElem_cons_succ, List.getElem_cons_zero, begin_, run, List.foldl_cons, List.foldl_nil, r32, D, A, B, O, L, N, S1, S2, S3, S4]
  unfold Sy.item
  simp only [tok0, step0]
  rfl
set_option maxHeartbeats 4000000 in
theorem same_fence (n : Int) (a : Nat) (G : ∀ x ∈ (⟨1, [102, 101, 110, 99, 101], n, a⟩ : Tk) :: l, Lx.Good x) : told (⟨1, [102, 101, 110, 99, 101], n, a⟩ :: l) long (best (⟨1, [102, 101, 110, 99, 101], n, a⟩ :: l) forms 0) = ended (⟨1, [102, 101, 110, 99, 101], n, a⟩ :: l) long (Sy.item (⟨1, [102, 101, 110, 99, 101], n, a⟩ :: l) long ⟨0, -1⟩) := by
  rw [only 18 (f := forms[18]) rfl rfl rfl, fit_self (by decide) rfl, ← ended_run (ts := ⟨1, [102, 101, 110, 99, 101], n, a⟩ :: l) _ _ ⟨1, -1⟩ (by decide) len1]
  refine congrArg _ ?_
  have D := fun i s => (reg_rd (long := long) G i s).symm; have A := fun i s => (a_rd (long := long) G i s).symm; have B := fun i s => (b_rd (long := long) G i s).symm
  have O := fun i s => (op_rd (long := long) G i s).symm; have L := fun i s => (goes_rd (long := long) G i s).symm; have N := fun i s => (num_rd (ts := ⟨1, [102, 101, 110, 99, 101], n, a⟩ :: l) (long := long) i s).symm
  have S1 := fun i s => (sign_rd (long := long) G i s (p := 44) (by decide)).symm; have S2 := fun i s => (sign_rd (long := long) G i s (p := 91) (by decide)).symm; have S3 := fun i s => (sign_rd (long := long) G i s (p := 43) (by decide)).symm; have S4 := fun i s => (sign_rd (long := long) G i s (p := 93) (by decide)).symm
  show run _ _ forms[18].rest _ = _
  simp only [forms, List.getElem_cons_succ, List.getElem_cons_zero, begin_, run, List.foldl_cons, List.foldl_nil, r32, D, A, B, O, L, N, S1, S2, S3, S4]
  unfold Sy.item
  simp only [tok0, step0]
  rfl
set_option maxHeartbeats 4000000 in
theorem same_halt (n : Int) (a : Nat) (G : ∀ x ∈ (⟨1, [104, 97, 108, 116], n, a⟩ : Tk) :: l, Lx.Good x) : told (⟨1, [104, 97, 108, 116], n, a⟩ :: l) long (best (⟨1, [104, 97, 108, 116], n, a⟩ :: l) forms 0) = ended (⟨1, [104, 97, 108, 116], n, a⟩ :: l) long (Sy.item (⟨1, [104, 97, 108, 116], n, a⟩ :: l) long ⟨0, -1⟩) := by
  rw [only 19 (f := forms[19]) rfl rfl rfl, fit_self (by decide) rfl, ← ended_run (ts := ⟨1, [104, 97, 108, 116], n, a⟩ :: l) _ _ ⟨1, -1⟩ (by decide) len1]
  refine congrArg _ ?_
  have D := fun i s => (reg_rd (long := long) G i s).symm; have A := fun i s => (a_rd (long := long) G i s).symm; have B := fun i s => (b_rd (long := long) G i s).symm
  have O := fun i s => (op_rd (long := long) G i s).symm; have L := fun i s => (goes_rd (long := long) G i s).symm; have N := fun i s => (num_rd (ts := ⟨1, [104, 97, 108, 116], n, a⟩ :: l) (long := long) i s).symm
  have S1 := fun i s => (sign_rd (long := long) G i s (p := 44) (by decide)).symm; have S2 := fun i s => (sign_rd (long := long) G i s (p := 91) (by decide)).symm; have S3 := fun i s => (sign_rd (long := long) G i s (p := 43) (by decide)).symm; have S4 := fun i s => (sign_rd (long := long) G i s (p := 93) (by decide)).symm
  show run _ _ forms[19].rest _ = _
  simp only [forms, List.getElem_cons_succ, List.getElem_cons_zero, begin_, run, List.foldl_cons, List.foldl_nil, r32, D, A, B, O, L, N, S1, S2, S3, S4]
  unfold Sy.item
  simp only [tok0, step0]
  rfl

set_option maxHeartbeats 4000000 in
theorem same_add (n : Int) (a : Nat) (G : ∀ x ∈ (⟨1, [97, 100, 100], n, a⟩ : Tk) :: l, Lx.Good x) : told (⟨1, [97, 100, 100], n, a⟩ :: l) long (best (⟨1, [97, 100, 100], n, a⟩ :: l) forms 0) = ended (⟨1, [97, 100, 100], n, a⟩ :: l) long (Sy.item (⟨1, [97, 100, 100], n, a⟩ :: l) long ⟨0, -1⟩) := by
  rw [only 8 (f := forms[8]) rfl rfl rfl, show fit (⟨1, [97, 100, 100], n, a⟩ :: l) forms[8] = fitG (⟨1, [97, 100, 100], n, a⟩ :: l) (begin_ forms[8]) forms[8].rest 0 from rfl, ← ended_run (ts := (⟨1, [97, 100, 100], n, a⟩ :: l)) _ _ ⟨0, -1⟩ (by decide) (Nat.zero_le _)]
  refine congrArg _ ?_
  have D := fun i s => (reg_rd (long := long) G i s).symm; have A := fun i s => (a_rd (long := long) G i s).symm; have B := fun i s => (b_rd (long := long) G i s).symm
  have O := fun i s => (op_rd (long := long) G i s).symm
  have S1 := fun i s => (sign_rd (long := long) G i s (p := 44) (by decide)).symm
  show run _ _ forms[8].rest _ = _
  simp only [forms, List.getElem_cons_succ, List.getElem_cons_zero, begin_, run, List.foldl_cons, List.foldl_nil, r32, O, D, A, B, S1]
  unfold Sy.item
  simp only [tok0, step0]
  rfl
set_option maxHeartbeats 4000000 in
theorem same_sub (n : Int) (a : Nat) (G : ∀ x ∈ (⟨1, [115, 117, 98], n, a⟩ : Tk) :: l, Lx.Good x) : told (⟨1, [115, 117, 98], n, a⟩ :: l) long (best (⟨1, [115, 117, 98], n, a⟩ :: l) forms 0) = ended (⟨1, [115, 117, 98], n, a⟩ :: l) long (Sy.item (⟨1, [115, 117, 98], n, a⟩ :: l) long ⟨0, -1⟩) := by
  rw [only 8 (f := forms[8]) rfl rfl rfl, show fit (⟨1, [115, 117, 98], n, a⟩ :: l) forms[8] = fitG (⟨1, [115, 117, 98], n, a⟩ :: l) (begin_ forms[8]) forms[8].rest 0 from rfl, ← ended_run (ts := (⟨1, [115, 117, 98], n, a⟩ :: l)) _ _ ⟨0, -1⟩ (by decide) (Nat.zero_le _)]
  refine congrArg _ ?_
  have D := fun i s => (reg_rd (long := long) G i s).symm; have A := fun i s => (a_rd (long := long) G i s).symm; have B := fun i s => (b_rd (long := long) G i s).symm
  have O := fun i s => (op_rd (long := long) G i s).symm
  have S1 := fun i s => (sign_rd (long := long) G i s (p := 44) (by decide)).symm
  show run _ _ forms[8].rest _ = _
  simp only [forms, List.getElem_cons_succ, List.getElem_cons_zero, begin_, run, List.foldl_cons, List.foldl_nil, r32, O, D, A, B, S1]
  unfold Sy.item
  simp only [tok0, step0]
  rfl
set_option maxHeartbeats 4000000 in
theorem same_and (n : Int) (a : Nat) (G : ∀ x ∈ (⟨1, [97, 110, 100], n, a⟩ : Tk) :: l, Lx.Good x) : told (⟨1, [97, 110, 100], n, a⟩ :: l) long (best (⟨1, [97, 110, 100], n, a⟩ :: l) forms 0) = ended (⟨1, [97, 110, 100], n, a⟩ :: l) long (Sy.item (⟨1, [97, 110, 100], n, a⟩ :: l) long ⟨0, -1⟩) := by
  rw [only 8 (f := forms[8]) rfl rfl rfl, show fit (⟨1, [97, 110, 100], n, a⟩ :: l) forms[8] = fitG (⟨1, [97, 110, 100], n, a⟩ :: l) (begin_ forms[8]) forms[8].rest 0 from rfl, ← ended_run (ts := (⟨1, [97, 110, 100], n, a⟩ :: l)) _ _ ⟨0, -1⟩ (by decide) (Nat.zero_le _)]
  refine congrArg _ ?_
  have D := fun i s => (reg_rd (long := long) G i s).symm; have A := fun i s => (a_rd (long := long) G i s).symm; have B := fun i s => (b_rd (long := long) G i s).symm
  have O := fun i s => (op_rd (long := long) G i s).symm
  have S1 := fun i s => (sign_rd (long := long) G i s (p := 44) (by decide)).symm
  show run _ _ forms[8].rest _ = _
  simp only [forms, List.getElem_cons_succ, List.getElem_cons_zero, begin_, run, List.foldl_cons, List.foldl_nil, r32, O, D, A, B, S1]
  unfold Sy.item
  simp only [tok0, step0]
  rfl
set_option maxHeartbeats 4000000 in
theorem same_or (n : Int) (a : Nat) (G : ∀ x ∈ (⟨1, [111, 114], n, a⟩ : Tk) :: l, Lx.Good x) : told (⟨1, [111, 114], n, a⟩ :: l) long (best (⟨1, [111, 114], n, a⟩ :: l) forms 0) = ended (⟨1, [111, 114], n, a⟩ :: l) long (Sy.item (⟨1, [111, 114], n, a⟩ :: l) long ⟨0, -1⟩) := by
  rw [only 8 (f := forms[8]) rfl rfl rfl, show fit (⟨1, [111, 114], n, a⟩ :: l) forms[8] = fitG (⟨1, [111, 114], n, a⟩ :: l) (begin_ forms[8]) forms[8].rest 0 from rfl, ← ended_run (ts := (⟨1, [111, 114], n, a⟩ :: l)) _ _ ⟨0, -1⟩ (by decide) (Nat.zero_le _)]
  refine congrArg _ ?_
  have D := fun i s => (reg_rd (long := long) G i s).symm; have A := fun i s => (a_rd (long := long) G i s).symm; have B := fun i s => (b_rd (long := long) G i s).symm
  have O := fun i s => (op_rd (long := long) G i s).symm
  have S1 := fun i s => (sign_rd (long := long) G i s (p := 44) (by decide)).symm
  show run _ _ forms[8].rest _ = _
  simp only [forms, List.getElem_cons_succ, List.getElem_cons_zero, begin_, run, List.foldl_cons, List.foldl_nil, r32, O, D, A, B, S1]
  unfold Sy.item
  simp only [tok0, step0]
  rfl
set_option maxHeartbeats 4000000 in
theorem same_xor (n : Int) (a : Nat) (G : ∀ x ∈ (⟨1, [120, 111, 114], n, a⟩ : Tk) :: l, Lx.Good x) : told (⟨1, [120, 111, 114], n, a⟩ :: l) long (best (⟨1, [120, 111, 114], n, a⟩ :: l) forms 0) = ended (⟨1, [120, 111, 114], n, a⟩ :: l) long (Sy.item (⟨1, [120, 111, 114], n, a⟩ :: l) long ⟨0, -1⟩) := by
  rw [only 8 (f := forms[8]) rfl rfl rfl, show fit (⟨1, [120, 111, 114], n, a⟩ :: l) forms[8] = fitG (⟨1, [120, 111, 114], n, a⟩ :: l) (begin_ forms[8]) forms[8].rest 0 from rfl, ← ended_run (ts := (⟨1, [120, 111, 114], n, a⟩ :: l)) _ _ ⟨0, -1⟩ (by decide) (Nat.zero_le _)]
  refine congrArg _ ?_
  have D := fun i s => (reg_rd (long := long) G i s).symm; have A := fun i s => (a_rd (long := long) G i s).symm; have B := fun i s => (b_rd (long := long) G i s).symm
  have O := fun i s => (op_rd (long := long) G i s).symm
  have S1 := fun i s => (sign_rd (long := long) G i s (p := 44) (by decide)).symm
  show run _ _ forms[8].rest _ = _
  simp only [forms, List.getElem_cons_succ, List.getElem_cons_zero, begin_, run, List.foldl_cons, List.foldl_nil, r32, O, D, A, B, S1]
  unfold Sy.item
  simp only [tok0, step0]
  rfl
set_option maxHeartbeats 4000000 in
theorem same_shl (n : Int) (a : Nat) (G : ∀ x ∈ (⟨1, [115, 104, 108], n, a⟩ : Tk) :: l, Lx.Good x) : told (⟨1, [115, 104, 108], n, a⟩ :: l) long (best (⟨1, [115, 104, 108], n, a⟩ :: l) forms 0) = ended (⟨1, [115, 104, 108], n, a⟩ :: l) long (Sy.item (⟨1, [115, 104, 108], n, a⟩ :: l) long ⟨0, -1⟩) := by
  rw [only 8 (f := forms[8]) rfl rfl rfl, show fit (⟨1, [115, 104, 108], n, a⟩ :: l) forms[8] = fitG (⟨1, [115, 104, 108], n, a⟩ :: l) (begin_ forms[8]) forms[8].rest 0 from rfl, ← ended_run (ts := (⟨1, [115, 104, 108], n, a⟩ :: l)) _ _ ⟨0, -1⟩ (by decide) (Nat.zero_le _)]
  refine congrArg _ ?_
  have D := fun i s => (reg_rd (long := long) G i s).symm; have A := fun i s => (a_rd (long := long) G i s).symm; have B := fun i s => (b_rd (long := long) G i s).symm
  have O := fun i s => (op_rd (long := long) G i s).symm
  have S1 := fun i s => (sign_rd (long := long) G i s (p := 44) (by decide)).symm
  show run _ _ forms[8].rest _ = _
  simp only [forms, List.getElem_cons_succ, List.getElem_cons_zero, begin_, run, List.foldl_cons, List.foldl_nil, r32, O, D, A, B, S1]
  unfold Sy.item
  simp only [tok0, step0]
  rfl
set_option maxHeartbeats 4000000 in
theorem same_shr (n : Int) (a : Nat) (G : ∀ x ∈ (⟨1, [115, 104, 114], n, a⟩ : Tk) :: l, Lx.Good x) : told (⟨1, [115, 104, 114], n, a⟩ :: l) long (best (⟨1, [115, 104, 114], n, a⟩ :: l) forms 0) = ended (⟨1, [115, 104, 114], n, a⟩ :: l) long (Sy.item (⟨1, [115, 104, 114], n, a⟩ :: l) long ⟨0, -1⟩) := by
  rw [only 8 (f := forms[8]) rfl rfl rfl, show fit (⟨1, [115, 104, 114], n, a⟩ :: l) forms[8] = fitG (⟨1, [115, 104, 114], n, a⟩ :: l) (begin_ forms[8]) forms[8].rest 0 from rfl, ← ended_run (ts := (⟨1, [115, 104, 114], n, a⟩ :: l)) _ _ ⟨0, -1⟩ (by decide) (Nat.zero_le _)]
  refine congrArg _ ?_
  have D := fun i s => (reg_rd (long := long) G i s).symm; have A := fun i s => (a_rd (long := long) G i s).symm; have B := fun i s => (b_rd (long := long) G i s).symm
  have O := fun i s => (op_rd (long := long) G i s).symm
  have S1 := fun i s => (sign_rd (long := long) G i s (p := 44) (by decide)).symm
  show run _ _ forms[8].rest _ = _
  simp only [forms, List.getElem_cons_succ, List.getElem_cons_zero, begin_, run, List.foldl_cons, List.foldl_nil, r32, O, D, A, B, S1]
  unfold Sy.item
  simp only [tok0, step0]
  rfl
set_option maxHeartbeats 4000000 in
theorem same_mul (n : Int) (a : Nat) (G : ∀ x ∈ (⟨1, [109, 117, 108], n, a⟩ : Tk) :: l, Lx.Good x) : told (⟨1, [109, 117, 108], n, a⟩ :: l) long (best (⟨1, [109, 117, 108], n, a⟩ :: l) forms 0) = ended (⟨1, [109, 117, 108], n, a⟩ :: l) long (Sy.item (⟨1, [109, 117, 108], n, a⟩ :: l) long ⟨0, -1⟩) := by
  rw [only 8 (f := forms[8]) rfl rfl rfl, show fit (⟨1, [109, 117, 108], n, a⟩ :: l) forms[8] = fitG (⟨1, [109, 117, 108], n, a⟩ :: l) (begin_ forms[8]) forms[8].rest 0 from rfl, ← ended_run (ts := (⟨1, [109, 117, 108], n, a⟩ :: l)) _ _ ⟨0, -1⟩ (by decide) (Nat.zero_le _)]
  refine congrArg _ ?_
  have D := fun i s => (reg_rd (long := long) G i s).symm; have A := fun i s => (a_rd (long := long) G i s).symm; have B := fun i s => (b_rd (long := long) G i s).symm
  have O := fun i s => (op_rd (long := long) G i s).symm
  have S1 := fun i s => (sign_rd (long := long) G i s (p := 44) (by decide)).symm
  show run _ _ forms[8].rest _ = _
  simp only [forms, List.getElem_cons_succ, List.getElem_cons_zero, begin_, run, List.foldl_cons, List.foldl_nil, r32, O, D, A, B, S1]
  unfold Sy.item
  simp only [tok0, step0]
  rfl
set_option maxHeartbeats 4000000 in
theorem same_lt (n : Int) (a : Nat) (G : ∀ x ∈ (⟨1, [108, 116], n, a⟩ : Tk) :: l, Lx.Good x) : told (⟨1, [108, 116], n, a⟩ :: l) long (best (⟨1, [108, 116], n, a⟩ :: l) forms 0) = ended (⟨1, [108, 116], n, a⟩ :: l) long (Sy.item (⟨1, [108, 116], n, a⟩ :: l) long ⟨0, -1⟩) := by
  rw [only 8 (f := forms[8]) rfl rfl rfl, show fit (⟨1, [108, 116], n, a⟩ :: l) forms[8] = fitG (⟨1, [108, 116], n, a⟩ :: l) (begin_ forms[8]) forms[8].rest 0 from rfl, ← ended_run (ts := (⟨1, [108, 116], n, a⟩ :: l)) _ _ ⟨0, -1⟩ (by decide) (Nat.zero_le _)]
  refine congrArg _ ?_
  have D := fun i s => (reg_rd (long := long) G i s).symm; have A := fun i s => (a_rd (long := long) G i s).symm; have B := fun i s => (b_rd (long := long) G i s).symm
  have O := fun i s => (op_rd (long := long) G i s).symm
  have S1 := fun i s => (sign_rd (long := long) G i s (p := 44) (by decide)).symm
  show run _ _ forms[8].rest _ = _
  simp only [forms, List.getElem_cons_succ, List.getElem_cons_zero, begin_, run, List.foldl_cons, List.foldl_nil, r32, O, D, A, B, S1]
  unfold Sy.item
  simp only [tok0, step0]
  rfl
set_option maxHeartbeats 4000000 in
theorem same_eq (n : Int) (a : Nat) (G : ∀ x ∈ (⟨1, [101, 113], n, a⟩ : Tk) :: l, Lx.Good x) : told (⟨1, [101, 113], n, a⟩ :: l) long (best (⟨1, [101, 113], n, a⟩ :: l) forms 0) = ended (⟨1, [101, 113], n, a⟩ :: l) long (Sy.item (⟨1, [101, 113], n, a⟩ :: l) long ⟨0, -1⟩) := by
  rw [only 8 (f := forms[8]) rfl rfl rfl, show fit (⟨1, [101, 113], n, a⟩ :: l) forms[8] = fitG (⟨1, [101, 113], n, a⟩ :: l) (begin_ forms[8]) forms[8].rest 0 from rfl, ← ended_run (ts := (⟨1, [101, 113], n, a⟩ :: l)) _ _ ⟨0, -1⟩ (by decide) (Nat.zero_le _)]
  refine congrArg _ ?_
  have D := fun i s => (reg_rd (long := long) G i s).symm; have A := fun i s => (a_rd (long := long) G i s).symm; have B := fun i s => (b_rd (long := long) G i s).symm
  have O := fun i s => (op_rd (long := long) G i s).symm
  have S1 := fun i s => (sign_rd (long := long) G i s (p := 44) (by decide)).symm
  show run _ _ forms[8].rest _ = _
  simp only [forms, List.getElem_cons_succ, List.getElem_cons_zero, begin_, run, List.foldl_cons, List.foldl_nil, r32, O, D, A, B, S1]
  unfold Sy.item
  simp only [tok0, step0]
  rfl
end
end Sn
end
end Go.Proofs.YtmghklokbmdenaaDoor
namespace Go.Proofs.YtmghklokbmdenaaDoor
section
namespace Sn
open Lx (Tk)
open Sy (In It Vl St)
section
variable {t : Tk} {l : List Tk} {long : Nat}
def two (x y : Except Nat It) : Except Nat It := match x with
  | .ok i => .ok i
  | .error n => match y with
    | .ok i => .ok i
    | .error m => .error (max n m)
theorem best_two {ts : List Tk} {A B C : List Fm} {f g : Fm} (hF : forms = A ++ f :: (B ++ g :: C)) (hA : ∀ x ∈ A, fit ts x = .error 0) (hB : ∀ x ∈ B, fit ts x = .error 0) (hC : ∀ x ∈ C, fit ts x = .error 0) :
    best ts forms 0 = two (fit ts f) (fit ts g) := by
  unfold two
  rw [hF, best_skip _ _ _ hA, best]
  cases fit ts f with
  | ok i => rfl
  | error n =>
    simp only [best_skip _ _ _ hB, best]
    cases fit ts g with
    | ok i => rfl
    | error m => simp only [best_zero _ _ hC]; simp
theorem fitG_le {ts : List Tk} {i : It} {r : List Int} {k m : Nat} (hk : k ≤ ts.length) (h : fitG ts i r k = .error m) : k ≤ m := by
  have := fitG_run (ts := ts) (long := 0) r i ⟨k, -1⟩ (by show (-1 : Int) < 0; decide) hk
  rw [h] at this
  exact this.1
theorem max_r {ts : List Tk} {long : Nat} {x y : Except Nat It} (hx : x = .error 1) (hy : ∀ m, y = .error m → 1 ≤ m) :
    told ts long (two x y) = told ts long y := by
  subst hx
  cases y with
  | ok i => rfl
  | error m => unfold two; simp only; rw [Nat.max_eq_right (hy m rfl)]
theorem max_l {ts : List Tk} {long : Nat} {x y : Except Nat It} (hy : y = .error 1) (hx : ∀ m, x = .error m → 1 ≤ m) :
    told ts long (two x y) = told ts long x := by
  subst hy
  cases x with
  | ok i => rfl
  | error m => unfold two; simp only; rw [Nat.max_eq_left (hx m rfl)]
theorem stuck {ts : List Tk} {i : It} {p : Int} {r : List Int} {k : Nat} (hp : p ≠ 32) (h : (take i p (Sy.tokAt ts 0 k)).2 = false) : fitG ts i (32 :: p :: r) k = .error k := by
  rw [fitG, if_pos rfl, fitG, if_neg hp]
  cases e : ts[k]? with
  | none => rfl
  | some t =>
    have et : Sy.tokAt ts 0 k = t := by unfold Sy.tokAt; rw [e]; rfl
    rw [et] at h
    simp [h]

set_option maxHeartbeats 4000000 in
theorem same_public (n : Int) (a : Nat) (G : ∀ x ∈ (⟨1, [112, 117, 98, 108, 105, 99], n, a⟩ : Tk) :: l, Lx.Good x) : told (⟨1, [112, 117, 98, 108, 105, 99], n, a⟩ :: l) long (best (⟨1, [112, 117, 98, 108, 105, 99], n, a⟩ :: l) forms 0) = ended (⟨1, [112, 117, 98, 108, 105, 99], n, a⟩ :: l) long (Sy.item (⟨1, [112, 117, 98, 108, 105, 99], n, a⟩ :: l) long ⟨0, -1⟩) := by
  rw [best_two (A := forms.take 3) (f := forms[3]) (B := [forms[4]]) (g := forms[5]) (C := forms.drop 6) rfl (all_zero (fun g hg => List.mem_of_mem_take hg) rfl) (all_zero (fun g hg => by simp only [List.mem_singleton] at hg; subst hg; simp [forms]) rfl) (all_zero (fun g hg => List.mem_of_mem_drop hg) rfl)]
  rw [fit_self (f := forms[3]) (by decide) rfl, fit_self (f := forms[5]) (by decide) rfl]
  have D := fun i s => (reg_rd (long := long) G i s).symm; have M := fun i s => (name_rd (long := long) G i s).symm; have N := fun i s => (num_rd (ts := (⟨1, [112, 117, 98, 108, 105, 99], n, a⟩ :: l)) (long := long) i s).symm
  have ok1 := okt_tok G 0 1
  have et : ∀ q, (Sy.tokAt (⟨1, [112, 117, 98, 108, 105, 99], n, a⟩ :: l) q 1).text = (Sy.tokAt (⟨1, [112, 117, 98, 108, 105, 99], n, a⟩ :: l) 0 1).text ∧ (Sy.tokAt (⟨1, [112, 117, 98, 108, 105, 99], n, a⟩ :: l) q 1).kind = (Sy.tokAt (⟨1, [112, 117, 98, 108, 105, 99], n, a⟩ :: l) 0 1).kind := fun q => by
    unfold Sy.tokAt
    cases ((⟨1, [112, 117, 98, 108, 105, 99], n, a⟩ :: l)[1]?) <;> exact ⟨rfl, rfl⟩
  have hI : Sy.item (⟨1, [112, 117, 98, 108, 105, 99], n, a⟩ :: l) long ⟨0, -1⟩ = Sy.declare (⟨1, [112, 117, 98, 108, 105, 99], n, a⟩ :: l) long false ⟨1, -1⟩ := by
    unfold Sy.item
    simp only [tok0, step0]
    rfl
  rw [hI]
  by_cases hr : 0 ≤ Sy.regN (Sy.tokAt (⟨1, [112, 117, 98, 108, 105, 99], n, a⟩ :: l) 0 1).text
  · have hk := ok1.reg1 hr
    refine Eq.trans (max_l (stuck (ts := (⟨1, [112, 117, 98, 108, 105, 99], n, a⟩ :: l)) (i := begin_ forms[5]) (p := 77) (r := [32, 78]) (by decide) (by simp [take, isNm, hk, hr])) (fun m hm => fitG_le len1 hm)) ?_
    rw [← ended_run (ts := (⟨1, [112, 117, 98, 108, 105, 99], n, a⟩ :: l)) _ _ ⟨1, -1⟩ (by decide) len1]
    refine congrArg _ ?_
    show run _ _ forms[3].rest _ = _
    simp only [forms, List.getElem_cons_succ, List.getElem_cons_zero, begin_, run, List.foldl_cons, List.foldl_nil, r32, D]
    unfold Sy.declare Sy.reg
    simp only [(et long).1, (et long).2, hk, hr, and_self, if_true]
    rfl
  · refine Eq.trans (max_r (stuck (ts := (⟨1, [112, 117, 98, 108, 105, 99], n, a⟩ :: l)) (i := begin_ forms[3]) (p := 68) (r := []) (by decide) (by simp [take, hr])) (fun m hm => fitG_le len1 hm)) ?_
    rw [← ended_run (ts := (⟨1, [112, 117, 98, 108, 105, 99], n, a⟩ :: l)) _ _ ⟨1, -1⟩ (by decide) len1]
    refine congrArg _ ?_
    show run _ _ forms[5].rest _ = _
    simp only [forms, List.getElem_cons_succ, List.getElem_cons_zero, begin_, run, List.foldl_cons, List.foldl_nil, r32, M, N]
    unfold Sy.declare Sy.name
    simp only [(et long).1, (et long).2, hr, and_false, if_false]
    rfl
set_option maxHeartbeats 4000000 in
theorem same_secret (n : Int) (a : Nat) (G : ∀ x ∈ (⟨1, [115, 101, 99, 114, 101, 116], n, a⟩ : Tk) :: l, Lx.Good x) : told (⟨1, [115, 101, 99, 114, 101, 116], n, a⟩ :: l) long (best (⟨1, [115, 101, 99, 114, 101, 116], n, a⟩ :: l) forms 0) = ended (⟨1, [115, 101, 99, 114, 101, 116], n, a⟩ :: l) long (Sy.item (⟨1, [115, 101, 99, 114, 101, 116], n, a⟩ :: l) long ⟨0, -1⟩) := by
  rw [best_two (A := forms.take 4) (f := forms[4]) (B := [forms[5]]) (g := forms[6]) (C := forms.drop 7) rfl (all_zero (fun g hg => List.mem_of_mem_take hg) rfl) (all_zero (fun g hg => by simp only [List.mem_singleton] at hg; subst hg; simp [forms]) rfl) (all_zero (fun g hg => List.mem_of_mem_drop hg) rfl)]
  rw [fit_self (f := forms[4]) (by decide) rfl, fit_self (f := forms[6]) (by decide) rfl]
  have D := fun i s => (reg_rd (long := long) G i s).symm; have M := fun i s => (name_rd (long := long) G i s).symm; have N := fun i s => (num_rd (ts := (⟨1, [115, 101, 99, 114, 101, 116], n, a⟩ :: l)) (long := long) i s).symm
  have ok1 := okt_tok G 0 1
  have et : ∀ q, (Sy.tokAt (⟨1, [115, 101, 99, 114, 101, 116], n, a⟩ :: l) q 1).text = (Sy.tokAt (⟨1, [115, 101, 99, 114, 101, 116], n, a⟩ :: l) 0 1).text ∧ (Sy.tokAt (⟨1, [115, 101, 99, 114, 101, 116], n, a⟩ :: l) q 1).kind = (Sy.tokAt (⟨1, [115, 101, 99, 114, 101, 116], n, a⟩ :: l) 0 1).kind := fun q => by
    unfold Sy.tokAt
    cases ((⟨1, [115, 101, 99, 114, 101, 116], n, a⟩ :: l)[1]?) <;> exact ⟨rfl, rfl⟩
  have hI : Sy.item (⟨1, [115, 101, 99, 114, 101, 116], n, a⟩ :: l) long ⟨0, -1⟩ = Sy.declare (⟨1, [115, 101, 99, 114, 101, 116], n, a⟩ :: l) long true ⟨1, -1⟩ := by
    unfold Sy.item
    simp only [tok0, step0]
    rfl
  rw [hI]
  by_cases hr : 0 ≤ Sy.regN (Sy.tokAt (⟨1, [115, 101, 99, 114, 101, 116], n, a⟩ :: l) 0 1).text
  · have hk := ok1.reg1 hr
    refine Eq.trans (max_l (stuck (ts := (⟨1, [115, 101, 99, 114, 101, 116], n, a⟩ :: l)) (i := begin_ forms[6]) (p := 77) (r := [32, 78]) (by decide) (by simp [take, isNm, hk, hr])) (fun m hm => fitG_le len1 hm)) ?_
    rw [← ended_run (ts := (⟨1, [115, 101, 99, 114, 101, 116], n, a⟩ :: l)) _ _ ⟨1, -1⟩ (by decide) len1]
    refine congrArg _ ?_
    show run _ _ forms[4].rest _ = _
    simp only [forms, List.getElem_cons_succ, List.getElem_cons_zero, begin_, run, List.foldl_cons, List.foldl_nil, r32, D]
    unfold Sy.declare Sy.reg
    simp only [(et long).1, (et long).2, hk, hr, and_self, if_true]
    rfl
  · refine Eq.trans (max_r (stuck (ts := (⟨1, [115, 101, 99, 114, 101, 116], n, a⟩ :: l)) (i := begin_ forms[4]) (p := 68) (r := []) (by decide) (by simp [take, hr])) (fun m hm => fitG_le len1 hm)) ?_
    rw [← ended_run (ts := (⟨1, [115, 101, 99, 114, 101, 116], n, a⟩ :: l)) _ _ ⟨1, -1⟩ (by decide) len1]
    refine congrArg _ ?_
    show run _ _ forms[6].rest _ = _
    simp only [forms, List.getElem_cons_succ, List.getElem_cons_zero, begin_, run, List.foldl_cons, List.foldl_nil, r32, M, N]
    unfold Sy.declare Sy.name
    simp only [(et long).1, (et long).2, hr, and_false, if_false]
    rfl
theorem app_false (hx : ∀ f ∈ forms, f.word ≠ [] → f.word ≠ t.text) (ho : Sy.opN t.text = 0) {g : Fm} (hg : g ∈ forms) (h7 : isNm t = false ∨ g.rest.head? ≠ some 77) : app t g = false := by
  unfold app
  by_cases hw : g.word = []
  · rw [if_pos hw]
    rcases h7 with h7 | h7
    · split
      · exact h7
      · simp [ho]
    · rw [if_neg h7]; simp [ho]
  · rw [if_neg hw]
    have := hx g hg hw
    simpa [eq_comm] using this
theorem same_label {k : Int} {tx : List Int} (n : Int) (a : Nat) (G : ∀ x ∈ (⟨k, tx, n, a⟩ : Tk) :: l, Lx.Good x) (hk : k = 1) (hw : Sy.isWord tx = false) : told (⟨k, tx, n, a⟩ :: l) long (best (⟨k, tx, n, a⟩ :: l) forms 0) = ended (⟨k, tx, n, a⟩ :: l) long (Sy.item (⟨k, tx, n, a⟩ :: l) long ⟨0, -1⟩) := by
  have hok : Okt ⟨k, tx, n, a⟩ := .inl (G _ (by simp))
  have hne : tx ≠ [] := by
    rcases hok with (⟨_, _, c, r, e, _⟩ | ⟨_, _, c, r, e, _⟩ | ⟨_, _, c, e, _⟩) | ⟨h1, _⟩
    · rw [show tx = c :: r from e]; simp
    · rw [show tx = c :: r from e]; simp
    · rw [show tx = [c] from e]; simp
    · rw [show k = 0 from h1] at hk; cases hk
  have hw' := hw
  rw [isWord_eq hne] at hw'
  simp only [Bool.or_eq_false_iff, decide_eq_false_iff_not] at hw'
  obtain ⟨h1, h2⟩ := hw'
  unfold isWordL at h1
  simp only [Bool.or_eq_false_iff, decide_eq_false_iff_not] at h1
  have ho : Sy.opN tx = 0 := by have := (Sy.opN_range tx).1; omega
  have hx : ∀ f ∈ forms, f.word ≠ [] → f.word ≠ tx := fun f hf _ e => by
    have := List.any_eq_false.1 h1.1 f hf
    simp [e] at this
  rw [only 7 (f := forms[7]) rfl (List.all_eq_true.2 fun g hg => by
      have h7 : ∀ g ∈ forms.take 7, g.rest.head? ≠ some 77 := by decide
      rw [app_false (t := ⟨k, tx, n, a⟩) hx ho (List.mem_of_mem_take hg) (.inr (h7 g hg))]; rfl) (List.all_eq_true.2 fun g hg => by
      have h7 : ∀ g ∈ forms.drop 8, g.rest.head? ≠ some 77 := by decide
      rw [app_false (t := ⟨k, tx, n, a⟩) hx ho (List.mem_of_mem_drop hg) (.inr (h7 g hg))]; rfl)]
  rw [show fit (⟨k, tx, n, a⟩ :: l) forms[7] = fitG (⟨k, tx, n, a⟩ :: l) (begin_ forms[7]) forms[7].rest 0 from rfl, ← ended_run (ts := ⟨k, tx, n, a⟩ :: l) _ _ ⟨0, -1⟩ (by decide) (Nat.zero_le _)]
  refine congrArg _ ?_
  have M := fun i s => (name_rd (long := long) G i s).symm
  have S1 := fun i s => (sign_rd (long := long) G i s (p := 58) (by decide)).symm
  show run _ _ forms[7].rest _ = _
  simp only [forms, List.getElem_cons_succ, List.getElem_cons_zero, begin_, run, List.foldl_cons, List.foldl_nil, M, S1]
  have hword : ∀ x, Sy.isWord x = true → tx ≠ x := fun x h e => by rw [← e, hw] at h; cases h
  unfold Sy.item Sy.name
  simp only [tok0, step0, hk, hw, show Sy.regN tx < 0 by omega, and_self, if_true, if_neg (hword _ (show Sy.isWord [119, 105, 100, 116, 104] = true by decide)), if_neg (hword _ (show Sy.isWord [119, 105, 110, 100, 111, 119] = true by decide)), if_neg (hword _ (show Sy.isWord [102, 117, 101, 108] = true by decide)),
    if_neg (hword _ (show Sy.isWord [112, 117, 98, 108, 105, 99] = true by decide)), if_neg (hword _ (show Sy.isWord [115, 101, 99, 114, 101, 116] = true by decide)), Bool.false_eq_true, if_false]
  rfl
theorem same_other {k : Int} {tx : List Int} (n : Int) (a : Nat) (G : ∀ x ∈ (⟨k, tx, n, a⟩ : Tk) :: l, Lx.Good x) (hk : ¬ (k = 1 ∧ Sy.regN tx < 0)) : told (⟨k, tx, n, a⟩ :: l) long (best (⟨k, tx, n, a⟩ :: l) forms 0) = ended (⟨k, tx, n, a⟩ :: l) long (Sy.item (⟨k, tx, n, a⟩ :: l) long ⟨0, -1⟩) := by
  have hok : Okt ⟨k, tx, n, a⟩ := .inl (G _ (by simp))
  have ho : Sy.opN tx = 0 := by
    have := (Sy.opN_range tx).1
    by_cases h : 0 < Sy.opN tx
    · have := hok.op1 h
      exact absurd ⟨this.1, this.2.1⟩ hk
    · omega
  have hx : ∀ f ∈ forms, f.word ≠ [] → f.word ≠ tx := fun f hf hne e => by
    have key : ∀ f ∈ forms, f.word ≠ [] → (∃ c r, f.word = c :: r ∧ 97 ≤ c) ∧ Sy.regN f.word < 0 := by
      intro f hf hn
      simp only [forms, List.mem_cons, List.not_mem_nil, or_false] at hf
      rcases hf with rfl | rfl | rfl | rfl | rfl | rfl | rfl | rfl | rfl | rfl | rfl | rfl | rfl | rfl | rfl | rfl | rfl | rfl | rfl | rfl
      all_goals first | exact absurd rfl hn | exact ⟨⟨_, _, rfl, by decide⟩, by decide⟩
    obtain ⟨⟨c, r, e1, hc⟩, h2⟩ := key f hf hne
    rw [e] at e1 h2
    exact hk ⟨hok.lower1 e1 hc, h2⟩
  have hn : isNm ⟨k, tx, n, a⟩ = false := by
    unfold isNm
    by_cases h1 : k = 1
    · have : 0 ≤ Sy.regN tx := by
        by_cases h : Sy.regN tx < 0
        · exact absurd ⟨h1, h⟩ hk
        · omega
      simp [this]
    · simp [h1]
  rw [none_ (List.all_eq_true.2 fun g hg => by rw [app_false (t := ⟨k, tx, n, a⟩) hx ho hg (.inl hn)]; rfl)]
  unfold Sy.item
  simp only [tok0, step0]
  rw [if_neg hk]
  have e1 : Sy.fail a ⟨1, -1⟩ = ⟨1, (a : Int)⟩ := by unfold Sy.fail; rw [if_pos (by show (-1 : Int) < 0; decide)]
  have e2 : fin (⟨k, tx, n, a⟩ :: l) long ⟨1, (a : Int)⟩ = ⟨1, (a : Int)⟩ := by unfold fin; rw [if_neg (by simp only; omega)]
  rw [e1]
  unfold ended
  rw [e2, if_pos (by simp only; omega)]
  rfl
theorem same_best (h : ∀ x ∈ t :: l, Lx.Good x) : told (t :: l) long (best (t :: l) forms 0) = ended (t :: l) long (Sy.item (t :: l) long ⟨0, -1⟩) := by
  obtain ⟨k, tx, n, a⟩ := t
  by_cases hk : k = 1 ∧ Sy.regN tx < 0
  · obtain ⟨hk, hr⟩ := hk
    by_cases x_width : tx = [119, 105, 100, 116, 104]
    · subst hk x_width; exact same_width n a h
    by_cases x_window : tx = [119, 105, 110, 100, 111, 119]
    · subst hk x_window; exact same_window n a h
    by_cases x_fuel : tx = [102, 117, 101, 108]
    · subst hk x_fuel; exact same_fuel n a h
    by_cases x_mov : tx = [109, 111, 118]
    · subst hk x_mov; exact same_mov n a h
    by_cases x_load : tx = [108, 111, 97, 100]
    · subst hk x_load; exact same_load n a h
    by_cases x_store : tx = [115, 116, 111, 114, 101]
    · subst hk x_store; exact same_store n a h
    by_cases x_cmov : tx = [99, 109, 111, 118]
    · subst hk x_cmov; exact same_cmov n a h
    by_cases x_br : tx = [98, 114]
    · subst hk x_br; exact same_br n a h
    by_cases x_jmp : tx = [106, 109, 112]
    · subst hk x_jmp; exact same_jmp n a h
    by_cases x_call : tx = [99, 97, 108, 108]
    · subst hk x_call; exact same_call n a h
    by_cases x_ind : tx = [105, 110, 100]
    · subst hk x_ind; exact same_ind n a h
    by_cases x_ret : tx = [114, 101, 116]
    · subst hk x_ret; exact same_ret n a h
    by_cases x_fence : tx = [102, 101, 110, 99, 101]
    · subst hk x_fence; exact same_fence n a h
    by_cases x_halt : tx = [104, 97, 108, 116]
    · subst hk x_halt; exact same_halt n a h
    by_cases x_public : tx = [112, 117, 98, 108, 105, 99]
    · subst hk x_public; exact same_public n a h
    by_cases x_secret : tx = [115, 101, 99, 114, 101, 116]
    · subst hk x_secret; exact same_secret n a h
    by_cases hw : Sy.isWord tx = true
    · have hm : 0 < Sy.opN tx := by
        unfold Sy.isWord at hw
        simp only [Bool.or_eq_true, decide_eq_true_eq] at hw
        rcases hw with (hw | hw) | hw
        · exfalso
          rw [List.contains_iff_mem] at hw
          simp only [Sy.words, List.mem_cons, List.not_mem_nil, or_false] at hw
          rcases hw with hw | hw | hw | hw | hw | hw | hw | hw | hw | hw | hw | hw | hw | hw | hw | hw <;> contradiction
        · exact hw
        · omega
      have hm := opN_mem hm
      simp only [Sy.ops, List.mem_cons, List.not_mem_nil, or_false] at hm
      subst hk
      rcases hm with rfl | rfl | rfl | rfl | rfl | rfl | rfl | rfl | rfl | rfl
      · exact same_add n a h
      · exact same_sub n a h
      · exact same_and n a h
      · exact same_or n a h
      · exact same_xor n a h
      · exact same_shl n a h
      · exact same_shr n a h
      · exact same_mul n a h
      · exact same_lt n a h
      · exact same_eq n a h
    · exact same_label n a h hk (by simpa using hw)
  · exact same_other n a h hk
end
/-- the landed way of reading is the document's -/
theorem parse_same {ts : List Tk} (G : ∀ x ∈ ts, Lx.Good x) (long : Nat) : parseT ts long = Sy.parseT ts long := by
  cases ts with
  | nil => rfl
  | cons t l =>
    have h := same_best (long := long) G
    unfold parseT Sy.parseT
    rw [if_neg (by simp), if_neg (by simp)]
    exact h
end Sn
end
end Go.Proofs.YtmghklokbmdenaaDoor
