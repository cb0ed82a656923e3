/- Plain facts of signs that stand in a line: where each ends, what stands between. -/
import Derived.Test.YtcpbbkpfickfiaaDoorLxTok
set_option linter.unusedVariables false
set_option linter.unusedSimpArgs false
namespace Go.Proofs.YtcpbbkpfickfiaaDoor
namespace Lx
/-- where the j-th sign may stand: behind the one ahead of it -/
def en : Nat → List Tk → Nat → Nat
  | a, _, 0 => a
  | a, [], _ + 1 => a
  | _, t :: ts, j + 1 => en (t.at_ + t.text.length) ts j
def tot : List Tk → Nat
  | [] => 0
  | t :: ts => t.text.length + tot ts
theorem Laid.tot_le : ∀ {ts : List Tk} {a : Nat} {r : List Int}, Laid a r ts → tot ts ≤ r.length
  | [], _, _, _ => Nat.zero_le _
  | t :: ts, a, r, h => by
    obtain ⟨b, rest, e, _, _, _, h4⟩ := h
    have := h4.tot_le
    rw [e]
    simp only [List.length_append, tot]
    omega
theorem Laid.len_le : ∀ {ts : List Tk} {a : Nat} {r : List Int}, Laid a r ts → ts.length ≤ r.length
  | [], _, _, _ => by simp
  | t :: ts, a, r, h => by
    obtain ⟨b, rest, e, _, _, hg, h4⟩ := h
    have := h4.len_le
    have := hg.pos
    rw [e]
    simp only [List.length_append, List.length_cons]
    omega
theorem spaced_len (f : Nat → Nat) (hf : ∀ i, f i ≤ 3) : ∀ (ts : List Tk) (i : Nat), (spaced f i ts).length ≤ 4 * ts.length + tot ts
  | [], i => by simp [spaced]
  | t :: ts, i => by
    have h1 := spaced_len f hf ts (i + 1)
    have h2 := hf i
    simp only [spaced, List.length_append, List.length_replicate, List.length_cons, tot]
    omega
theorem drop_mid {rs b t rest : List Int} {a : Nat} (h : rs.drop a = b ++ (t ++ rest)) : rs.drop (a + b.length) = t ++ rest ∧ rs.drop (a + b.length + t.length) = rest := by
  have h1 : rs.drop (a + b.length) = t ++ rest := by rw [← List.drop_drop, h, List.drop_left]
  exact ⟨h1, by rw [← List.drop_drop, h1, List.drop_left]⟩
theorem drop_getD {rs u q : List Int} {a : Nat} (h : rs.drop a = u ++ q) {k : Nat} (hk : k < u.length) : a + k < rs.length ∧ rs.getD (a + k) 0 = u.getD k 0 := by
  have e : rs[a + k]? = u[k]? := by rw [← List.getElem?_drop, h, List.getElem?_append_left hk]
  have hl := congrArg List.length h
  rw [List.length_drop, List.length_append] at hl
  exact ⟨by omega, by simp only [List.getD, e]⟩
/-- what stands where -/
theorem Laid.nth {rs : List Int} : ∀ {ts : List Tk} {a : Nat} {j : Nat} {t : Tk}, Laid a (rs.drop a) ts → a ≤ rs.length → ts[j]? = some t →
    en a ts j ≤ t.at_ ∧ en a ts (j + 1) = t.at_ + t.text.length ∧ t.at_ + t.text.length ≤ rs.length ∧ (∀ p, en a ts j ≤ p → p < t.at_ → blank (rs.getD p 0) = true) ∧ (∀ k, k < t.text.length → rs.getD (t.at_ + k) 0 = t.text.getD k 0)
  | [], _, _, _, _, _, h => by simp at h
  | u :: ts, a, 0, t, h, ha, ht => by
    obtain ⟨b, rest, e, hb, hat, _, _⟩ := h
    simp at ht
    subst ht
    obtain ⟨h1, h2⟩ := drop_mid e
    have hl := congrArg List.length e
    rw [List.length_drop, List.length_append, List.length_append] at hl
    refine ⟨by rw [hat]; show a ≤ _; omega, by cases ts <;> rfl, by omega, fun p hp1 hp2 => ?_, fun k hk => ?_⟩
    · have hp1 : a ≤ p := hp1
      have := drop_getD e (k := p - a) (by omega)
      rw [show a + (p - a) = p by omega] at this
      rw [this.2]
      exact hb _ (getD_mem' (by omega))
    · rw [hat]
      exact (drop_getD h1 hk).2
  | u :: ts, a, j + 1, t, h, ha, ht => by
    obtain ⟨b, rest, e, hb, hat, _, h4⟩ := h
    obtain ⟨h1, h2⟩ := drop_mid e
    have hl := congrArg List.length e
    rw [List.length_drop, List.length_append, List.length_append] at hl
    rw [← h2, ← hat] at h4
    have h5 := Laid.nth h4 (by omega) (show ts[j]? = some t by simpa using ht)
    exact h5
where getD_mem' {l : List Int} {j : Nat} (h : j < l.length) : l.getD j 0 ∈ l := by simp [List.getD, h]
/-- what stands behind the last -/
theorem Laid.rest {rs : List Int} : ∀ {ts : List Tk} {a : Nat}, Laid a (rs.drop a) ts → a ≤ rs.length →
    ∃ L, en a ts ts.length ≤ L ∧ L ≤ rs.length ∧ (∀ p, en a ts ts.length ≤ p → p < L → blank (rs.getD p 0) = true) ∧ (L = rs.length ∨ L < rs.length ∧ rs.getD L 0 = 59)
  | [], a, h, ha => by
    obtain ⟨b, rest, e, hb, hr⟩ := h
    have hl := congrArg List.length e
    rw [List.length_drop, List.length_append] at hl
    refine ⟨a + b.length, by show a ≤ _; omega, by omega, fun p hp1 hp2 => ?_, ?_⟩
    · have hp1 : a ≤ p := hp1
      have := drop_getD e (k := p - a) (by omega)
      rw [show a + (p - a) = p by omega] at this
      rw [this.2]
      exact hb _ (by simp [List.getD, show p - a < b.length by omega])
    · rcases hr with rfl | ⟨q, rfl⟩
      · left; simp at hl; omega
      · right
        have e2 : rs.drop (a + b.length) = [59] ++ q := by rw [← List.drop_drop, e, List.drop_left]; rfl
        have := drop_getD e2 (k := 0) (by simp)
        rw [Nat.add_zero] at this
        exact ⟨this.1, by rw [this.2]; rfl⟩
  | u :: ts, a, h, ha => by
    obtain ⟨b, rest, e, hb, hat, _, h4⟩ := h
    obtain ⟨h1, h2⟩ := drop_mid e
    have hl := congrArg List.length e
    rw [List.length_drop, List.length_append, List.length_append] at hl
    rw [← h2, ← hat] at h4
    have h5 := Laid.rest h4 (by omega)
    exact h5
theorem SameTs.nth : ∀ {ts us : List Tk}, SameTs ts us → us.length = ts.length ∧ ∀ (j : Nat) (t : Tk), ts[j]? = some t → ∃ u, us[j]? = some u ∧ u.kind = t.kind ∧ u.text = t.text ∧ u.n = t.n
  | [], [], _ => ⟨rfl, fun j t h => by simp at h⟩
  | t :: ts, u :: us, h => by
    obtain ⟨h1, h2, h3, h4⟩ := h
    obtain ⟨k1, k2⟩ := h4.nth
    refine ⟨by simp [k1], fun j v hv => ?_⟩
    cases j with
    | zero => simp at hv; subst hv; exact ⟨u, rfl, h1, h2, h3⟩
    | succ j => exact k2 j v (by simpa using hv)
  | [], _ :: _, h => h.elim
  | _ :: _, [], h => h.elim
theorem laid_ok {s : ByteArray} {ts : List Tk} (h : lxA 0 (runes s) = .ok ts) : Laid 0 ((runes s).drop 0) ts := by
  rw [List.drop_zero]
  exact laid_of _ 0 _ ts (Nat.le_refl _) h
end Lx
end Go.Proofs.YtcpbbkpfickfiaaDoor
