/- The first form that fits whole is what Sy.parse says; the place where the best one stops is where Sy.parse stops. -/
import Derived.Test.YtcpbbkpfickfiaaDoorSnMath
set_option linter.unusedVariables false
set_option linter.unusedSimpArgs false
namespace Go.Proofs.YtcpbbkpfickfiaaDoor
namespace Sn
open Lx (Tk)
open Sy (In It Vl St)
section
variable (ts : List Tk) (long : Nat)
/-- a piece of a form, read as the reader does -/
def rd (x : It × St) (p : Int) : It × St :=
  if p = 32 then x else ((take x.1 p (Sy.tokAt ts long x.2.k)).1, if (take x.1 p (Sy.tokAt ts long x.2.k)).2 = true then Sy.step ts x.2 else Sy.fail (Sy.tokAt ts long x.2.k).at_ (Sy.step ts x.2))
def run (l : List Int) (x : It × St) : It × St := l.foldl (rd ts long) x
def fin (s : St) : St := if s.bad < 0 ∧ s.k < ts.length then Sy.fail (Sy.tokAt ts long s.k).at_ s else s
end
section
variable {ts : List Tk} {long : Nat}
theorem step_bad' (s : St) : (Sy.step ts s).bad = s.bad := by unfold Sy.step; split <;> rfl
theorem fail_keep {s : St} (h : 0 ≤ s.bad) (p : Nat) : Sy.fail p s = s := by unfold Sy.fail; rw [if_neg (by omega)]
theorem fail_new {s : St} (h : s.bad < 0) (p : Nat) : (Sy.fail p s).bad = p := by unfold Sy.fail; rw [if_pos h]
theorem rd_bad {x : It × St} (h : 0 ≤ x.2.bad) (p : Int) : (rd ts long x p).2.bad = x.2.bad := by
  unfold rd
  split
  · rfl
  · dsimp only
    split
    · exact step_bad' _
    · rw [fail_keep (by rw [step_bad']; exact h), step_bad']
theorem run_bad : ∀ (l : List Int) (x : It × St), 0 ≤ x.2.bad → (run ts long l x).2.bad = x.2.bad
  | [], x, h => rfl
  | p :: l, x, h => by
    have h1 := rd_bad (ts := ts) (long := long) h p
    show (run ts long l (rd ts long x p)).2.bad = _
    rw [run_bad l _ (by rw [h1]; exact h), h1]
theorem tok_none {k : Nat} (h : ts[k]? = none) (i : It) (p : Int) (hp : p ≠ 32) : (take i p (Sy.tokAt ts long k)).2 = false := by
  have e : Sy.tokAt ts long k = ⟨0, [], 0, long⟩ := by unfold Sy.tokAt; rw [h]; rfl
  rw [e]
  unfold take
  repeat' split
  all_goals first | rfl | simp [isNm, vok]
theorem fitG_run : ∀ (l : List Int) (i : It) (s : St), s.bad < 0 → s.k ≤ ts.length →
    match fitG ts i l s.k with
    | .ok j => run ts long l (i, s) = (j, ⟨ts.length, s.bad⟩)
    | .error m => s.k ≤ m ∧ m ≤ ts.length ∧ (fin ts long (run ts long l (i, s)).2).bad = (Sy.tokAt ts long m).at_
  | [], i, s, hb, hk => by
    unfold fitG
    by_cases h : s.k < ts.length
    · rw [if_pos h]
      refine ⟨Nat.le_refl _, hk, ?_⟩
      show (fin ts long s).bad = _
      unfold fin
      rw [if_pos ⟨hb, h⟩]
      exact fail_new hb _
    · rw [if_neg h]
      obtain ⟨k, b⟩ := s
      have : k = ts.length := by simp only at h hk; omega
      subst this
      rfl
  | p :: l, i, s, hb, hk => by
    by_cases hp : p = 32
    · have e1 : fitG ts i (p :: l) s.k = fitG ts i l s.k := by rw [fitG, if_pos hp]
      have e2 : run ts long (p :: l) (i, s) = run ts long l (i, s) := by show run ts long l (rd ts long (i, s) p) = _; rw [rd, if_pos hp]
      rw [e1, e2]
      exact fitG_run l i s hb hk
    · cases e : ts[s.k]? with
      | none =>
        have e1 : fitG ts i (p :: l) s.k = .error s.k := by rw [fitG, if_neg hp, e]
        rw [e1]
        have hlen : ts.length ≤ s.k := by rw [List.getElem?_eq_none_iff] at e; exact e
        refine ⟨Nat.le_refl _, hk, ?_⟩
        have e2 : rd ts long (i, s) p = ((take i p (Sy.tokAt ts long s.k)).1, Sy.fail (Sy.tokAt ts long s.k).at_ (Sy.step ts s)) := by rw [rd, if_neg hp, if_neg (by rw [tok_none e i p hp]; decide)]
        have h3 : (Sy.fail (Sy.tokAt ts long s.k).at_ (Sy.step ts s)).bad = (Sy.tokAt ts long s.k).at_ := fail_new (by rw [step_bad']; exact hb) _
        have h4 : (run ts long (p :: l) (i, s)).2.bad = (Sy.tokAt ts long s.k).at_ := by
          show (run ts long l (rd ts long (i, s) p)).2.bad = _
          rw [e2, run_bad _ _ (by rw [h3]; exact Int.natCast_nonneg _), h3]
        unfold fin
        rw [if_neg (by rw [h4]; have := Int.natCast_nonneg (Sy.tokAt ts long s.k).at_; omega), h4]
      | some t =>
        have et : Sy.tokAt ts long s.k = t := by unfold Sy.tokAt; rw [e]; rfl
        have hlt : s.k < ts.length := (List.getElem?_eq_some_iff.1 e).1
        by_cases hf : (take i p t).2 = true
        · have e1 : fitG ts i (p :: l) s.k = fitG ts (take i p t).1 l (s.k + 1) := by rw [fitG, if_neg hp, e]; simp only [hf, if_true]
          have es : Sy.step ts s = ⟨s.k + 1, s.bad⟩ := by unfold Sy.step; rw [if_pos hlt]
          have e2 : run ts long (p :: l) (i, s) = run ts long l ((take i p t).1, ⟨s.k + 1, s.bad⟩) := by
            show run ts long l (rd ts long (i, s) p) = _
            rw [rd, if_neg hp, et]
            simp only [hf, if_true, es]
          rw [e1, e2]
          have := fitG_run l (take i p t).1 ⟨s.k + 1, s.bad⟩ hb (by simp only; omega)
          cases hq : fitG ts (take i p t).1 l (s.k + 1) with
          | ok j => rw [hq] at this; exact this
          | error m =>
            rw [hq] at this
            obtain ⟨h1, h2, h3⟩ := this
            exact ⟨by simp only at h1; omega, h2, h3⟩
        · have e1 : fitG ts i (p :: l) s.k = .error s.k := by rw [fitG, if_neg hp, e]; simp only [hf]; rfl
          rw [e1]
          refine ⟨Nat.le_refl _, hk, ?_⟩
          have e2 : rd ts long (i, s) p = ((take i p t).1, Sy.fail t.at_ (Sy.step ts s)) := by rw [rd, if_neg hp, et]; simp only [hf]; rfl
          have h3 : (Sy.fail t.at_ (Sy.step ts s)).bad = t.at_ := fail_new (by rw [step_bad']; exact hb) _
          have h4 : (run ts long (p :: l) (i, s)).2.bad = t.at_ := by
            show (run ts long l (rd ts long (i, s) p)).2.bad = _
            rw [e2, run_bad _ _ (by rw [h3]; exact Int.natCast_nonneg _), h3]
          rw [et]
          unfold fin
          rw [if_neg (by rw [h4]; have := Int.natCast_nonneg t.at_; omega), h4]
/-- how the reader ends -/
def ended (ts : List Tk) (long : Nat) (x : It × St) : Except Nat It := if 0 ≤ (fin ts long x.2).bad then .error (fin ts long x.2).bad.toNat else .ok x.1
def told (ts : List Tk) (long : Nat) : Except Nat It → Except Nat It
  | .ok i => .ok i
  | .error m => .error (Sy.tokAt ts long m).at_
theorem ended_run (l : List Int) (i : It) (s : St) (hb : s.bad < 0) (hk : s.k ≤ ts.length) : ended ts long (run ts long l (i, s)) = told ts long (fitG ts i l s.k) := by
  have h := fitG_run (ts := ts) (long := long) l i s hb hk
  revert h
  cases fitG ts i l s.k with
  | ok j =>
    intro h
    simp only at h
    have e : fin ts long ⟨ts.length, s.bad⟩ = ⟨ts.length, s.bad⟩ := by unfold fin; rw [if_neg (by simp only; omega)]
    unfold ended
    rw [h, e, if_neg (by simp only; omega)]
    rfl
  | error m =>
    rintro ⟨_, _, h⟩
    unfold ended
    rw [h, if_pos (Int.natCast_nonneg _)]
    rfl
/-- pieces, one by one -/
theorem num_rd (i : It) (s : St) : (({ i with n := (Sy.num ts long s).1 } : It), (Sy.num ts long s).2) = rd ts long (i, s) 78 := by
  unfold rd Sy.num
  simp only [take, if_neg (show ¬ (78 : Int) = 32 by decide), if_true, decide_eq_true_eq]
theorem name_rd (G : ∀ t ∈ ts, Lx.Good t) (i : It) (s : St) : (({ i with name := (Sy.name ts long s).1 } : It), (Sy.name ts long s).2) = rd ts long (i, s) 77 := by
  have h := isNm_iff (okt_tok G long s.k)
  unfold rd Sy.name
  simp only [take, if_neg (show ¬ (77 : Int) = 32 by decide), if_neg (show ¬ (77 : Int) = 78 by decide), if_true, h]
theorem goes_rd (G : ∀ t ∈ ts, Lx.Good t) (i : It) (s : St) : (({ i with ins := { i.ins with name := (Sy.name ts long s).1 } } : It), (Sy.name ts long s).2) = rd ts long (i, s) 76 := by
  have h := isNm_iff (okt_tok G long s.k)
  unfold rd Sy.name
  simp only [take, if_neg (show ¬ (76 : Int) = 32 by decide), if_neg (show ¬ (76 : Int) = 78 by decide), if_neg (show ¬ (76 : Int) = 77 by decide), if_true, h]
theorem reg_rd (G : ∀ t ∈ ts, Lx.Good t) (i : It) (s : St) : (({ i with ins := { i.ins with d := (Sy.reg ts long s).1 } } : It), (Sy.reg ts long s).2) = rd ts long (i, s) 68 := by
  have h := (okt_tok G long s.k).reg1
  unfold rd Sy.reg
  simp only [take, if_neg (show ¬ (68 : Int) = 32 by decide), if_neg (show ¬ (68 : Int) = 78 by decide), if_neg (show ¬ (68 : Int) = 77 by decide), if_neg (show ¬ (68 : Int) = 76 by decide), if_neg (show ¬ (68 : Int) = 79 by decide), if_true, decide_eq_true_eq, rv]
  by_cases hr : 0 ≤ Sy.regN (Sy.tokAt ts long s.k).text
  · simp only [hr, h hr, and_self, if_true]
  · simp only [hr, and_false, if_false]
theorem vl_eq (G : ∀ t ∈ ts, Lx.Good t) (s : St) : Sy.vl ts long s = (vlv (Sy.tokAt ts long s.k), if vok (Sy.tokAt ts long s.k) = true then Sy.step ts s else Sy.fail (Sy.tokAt ts long s.k).at_ (Sy.step ts s)) := by
  have h := (okt_tok G long s.k).reg1
  unfold Sy.vl vlv vok
  by_cases h2 : (Sy.tokAt ts long s.k).kind = 2
  · simp [h2]
  · by_cases hr : 0 ≤ Sy.regN (Sy.tokAt ts long s.k).text
    · simp [hr, h hr]
    · simp [hr, h2]
theorem a_rd (G : ∀ t ∈ ts, Lx.Good t) (i : It) (s : St) : (({ i with ins := { i.ins with a := (Sy.vl ts long s).1 } } : It), (Sy.vl ts long s).2) = rd ts long (i, s) 65 := by
  rw [vl_eq G]; rfl
theorem b_rd (G : ∀ t ∈ ts, Lx.Good t) (i : It) (s : St) : (({ i with ins := { i.ins with b := (Sy.vl ts long s).1 } } : It), (Sy.vl ts long s).2) = rd ts long (i, s) 66 := by
  rw [vl_eq G]; rfl
theorem sign_rd (G : ∀ t ∈ ts, Lx.Good t) (i : It) (s : St) {p : Int} (hp : p = 44 ∨ p = 58 ∨ p = 91 ∨ p = 93 ∨ p = 43) : (i, Sy.sign ts long p s) = rd ts long (i, s) p := by
  have h := (okt_tok G long s.k).sign1 hp
  have e : ∀ t, take i p t = (i, decide (t.text = [p])) := fun t => by unfold take; rcases hp with rfl | rfl | rfl | rfl | rfl <;> rfl
  have h32 : p ≠ 32 := by omega
  unfold rd Sy.sign
  simp only [e, if_neg h32, decide_eq_true_eq]
  by_cases ht : (Sy.tokAt ts long s.k).text = [p]
  · simp only [ht, h ht, and_self, if_true]
  · simp only [ht, and_false, if_false]
theorem op_rd (G : ∀ t ∈ ts, Lx.Good t) (i : It) (s : St) : (({ i with ins := { i.ins with op := Sy.opN (Sy.tokAt ts long s.k).text } } : It), if (Sy.tokAt ts long s.k).kind = 1 ∧ Sy.opN (Sy.tokAt ts long s.k).text ≠ 0 then Sy.step ts s else Sy.fail (Sy.tokAt ts long s.k).at_ (Sy.step ts s)) = rd ts long (i, s) 79 := by
  have h := (okt_tok G long s.k).op1
  have h0 := (Sy.opN_range (Sy.tokAt ts long s.k).text).1
  unfold rd
  simp only [take, if_neg (show ¬ (79 : Int) = 32 by decide), if_neg (show ¬ (79 : Int) = 78 by decide), if_neg (show ¬ (79 : Int) = 77 by decide), if_neg (show ¬ (79 : Int) = 76 by decide), if_true, decide_eq_true_eq]
  by_cases ho : 0 < Sy.opN (Sy.tokAt ts long s.k).text
  · rw [if_pos ⟨(h ho).1, by omega⟩, if_pos ho]
  · rw [if_neg (fun hh => ho (by have := hh.2; omega)), if_neg ho]
end
end Sn
end Go.Proofs.YtcpbbkpfickfiaaDoor
