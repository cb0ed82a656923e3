/- Blocks only read from a point on; plain facts of states and places: what a place holds; which states look alike. -/
import Derived.Test.YtdbnfdcjibgikaaA7o
import Derived.Test.YtdbnfdcjibgikaaRx26
set_option linter.unusedVariables false
set_option linter.unusedSimpArgs false
namespace Go.Proofs.Ytdbnfdcjibgikaa.Rx
open Go.RowKit
/-- behind a part: the named blocks are only read from here on -/
def vcY (ids : List Nat) (J : Sm) (r : List (Nat × Nat)) (J' : Sm) : Prop :=
  match leS r ⟨J.st.env, frzIds J.st.heap ids, J.st.next⟩ J' with
  | some ps => allP ps
  | none => False
theorem Ok.fzIds {P : Program} {nt : Nat} {c : Code} {I : St} {J J' : Sm} {r : List (Nat × Nat)} {x : X} {ids : List Nat} (hv : Vc (vcY ids J r J')) (h : Ok P nt c I x J.st) : Ok P nt c I x J'.st := by
  replace hv := hv.out
  unfold vcY at hv
  split at hv
  · rename_i ps hps
    intro cx a hs Q hQ
    refine h cx a hs Q fun cx0 a0 hs0 he0 => ?_
    obtain ⟨cx1, e1, hc1, hs1, e2, e3, e4, e5⟩ := frzIds_ok ids hs0.c
    have hz : SRep cx1 ⟨J.st.env, frzIds J.st.heap ids, J.st.next⟩ a0 nt := by
      refine ⟨by rw [e1, hs0.H], hc1, fun k => (hs0.env k).stab hs0.c hs1, fun i hi => ?_, hs0.sz, hs0.df⟩
      have : (cx1.H i).isSome = true := by rw [e1, hs0.H]; exact hi
      have := e5 i this
      rw [hs0.H] at this
      exact hs0.lt i this
    obtain ⟨cx2, hs2, he2, hw2⟩ := hz.le hps fun p hp => allP_mem hv p hp
    rw [← e2, ← hw2]
    exact hQ cx2 a0 hs2 ((he0.trans hs1.ext).trans he2)
  · cases hv
end Go.Proofs.Ytdbnfdcjibgikaa.Rx
namespace Go.Proofs.Ytdbnfdcjibgikaa.Px
open Go.RowKit Go.Proofs.Ytdbnfdcjibgikaa.Rx
/-- what register k holds -/
def S7.r (s : S7) (k : Nat) : Int := if k = 0 then s.r0 else if k = 1 then s.r1 else if k = 2 then s.r2 else s.r3
/-- what a place holds -/
def at7 (s : S7) (p : Pl) : Int := if p.reg = true then s.r p.n else s.m.getD p.n 0
/-- the same place -/
def same7 (p q : Pl) : Prop := p.reg = q.reg ∧ p.n = q.n
instance (p q : Pl) : Decidable (same7 p q) := inferInstanceAs (Decidable (_ ∧ _))
theorem at7_put {s : S7} {N : Nat} (hN : s.m.length = N) {p q : Pl} (hp : plOk N p) (hq : plOk N q) (v : Int) : at7 (put7 s p v) q = if same7 p q then v else at7 s q := by
  obtain ⟨b, n, sc⟩ := p
  obtain ⟨b', n', sc'⟩ := q
  cases b with
  | true =>
    have hn := hp.1 rfl
    simp only at hn
    cases b' with
    | true =>
      have hn' := hq.1 rfl
      simp only at hn'
      match n, hn, n', hn' with
      | 0, _, 0, _ => rfl
      | 0, _, 1, _ => rfl
      | 0, _, 2, _ => rfl
      | 0, _, 3, _ => rfl
      | 1, _, 0, _ => rfl
      | 1, _, 1, _ => rfl
      | 1, _, 2, _ => rfl
      | 1, _, 3, _ => rfl
      | 2, _, 0, _ => rfl
      | 2, _, 1, _ => rfl
      | 2, _, 2, _ => rfl
      | 2, _, 3, _ => rfl
      | 3, _, 0, _ => rfl
      | 3, _, 1, _ => rfl
      | 3, _, 2, _ => rfl
      | 3, _, 3, _ => rfl
    | false =>
      rw [if_neg (by simp [same7])]
      match n, hn with
      | 0, _ => rfl
      | 1, _ => rfl
      | 2, _ => rfl
      | 3, _ => rfl
  | false =>
    have hn := hp.2 rfl
    simp only at hn
    cases b' with
    | true => rw [if_neg (by simp [same7])]; rfl
    | false =>
      show (s.m.set n v).getD n' 0 = if same7 ⟨false, n, sc⟩ ⟨false, n', sc'⟩ then v else s.m.getD n' 0
      by_cases h : n = n'
      · subst h
        rw [if_pos ⟨rfl, rfl⟩]
        simp [List.getD, hN, hn]
      · rw [if_neg (by simp [same7, h])]
        simp [List.getD, List.getElem?_set, h]
theorem r_put {s : S7} {p : Pl} {v : Int} {k : Nat} (hk : k < 4) (hp : p.reg = true → p.n < 4 ∧ p.n ≠ k) : (put7 s p v).r k = s.r k := by
  obtain ⟨b, n, sc⟩ := p
  cases b with
  | true =>
    obtain ⟨h1, h2⟩ := hp rfl
    simp only at h1 h2
    match n, h1, k, hk with
    | 0, _, 0, _ => exact absurd rfl h2
    | 0, _, 1, _ => rfl
    | 0, _, 2, _ => rfl
    | 0, _, 3, _ => rfl
    | 1, _, 0, _ => rfl
    | 1, _, 1, _ => exact absurd rfl h2
    | 1, _, 2, _ => rfl
    | 1, _, 3, _ => rfl
    | 2, _, 0, _ => rfl
    | 2, _, 1, _ => rfl
    | 2, _, 2, _ => exact absurd rfl h2
    | 2, _, 3, _ => rfl
    | 3, _, 0, _ => rfl
    | 3, _, 1, _ => rfl
    | 3, _, 2, _ => rfl
    | 3, _, 3, _ => exact absurd rfl h2
  | false => rfl
/-- no place comes twice -/
def Apart7 (pl : List Pl) : Prop := ∀ i j, i < pl.length → j < pl.length → same7 (pl.getD i default) (pl.getD j default) → i = j
theorem at7_putK {W : Int} {pl : List Pl} {l : List Int} {s : S7} {N : Nat} (hN : s.m.length = N) (ho : ∀ p ∈ pl, plOk N p) (ha : Apart7 pl) : ∀ k, k ≤ pl.length → ∀ i, i < pl.length → at7 (putK W pl l s k) (pl.getD i default) = if i < k then Wd.maskV W (l.getD i 0) else at7 s (pl.getD i default) := by
  intro k
  induction k with
  | zero => intro _ i _; rw [if_neg (by omega)]; rfl
  | succ k ih =>
    intro hk i hi
    have h := ih (by omega) i hi
    show at7 (put7 _ _ _) _ = _
    rw [at7_put (N := N) (by rw [putK_len, hN]) (ho _ (getD_mem (by omega))) (ho _ (getD_mem hi))]
    by_cases e : same7 (pl.getD k default) (pl.getD i default)
    · have := ha k i (by omega) hi e
      subst this
      rw [if_pos e, if_pos (by omega)]
    · rw [if_neg e, h]
      have hne : i ≠ k := fun h => e (by rw [h]; exact ⟨rfl, rfl⟩)
      by_cases h2 : i < k
      · rw [if_pos h2, if_pos (by omega)]
      · rw [if_neg h2, if_neg (by omega)]
theorem at7_pubK {pl : List Pl} {s : S7} {N : Nat} (hN : s.m.length = N) (ho : ∀ p ∈ pl, plOk N p) (ha : Apart7 pl) : ∀ k, k ≤ pl.length → ∀ i, i < pl.length → at7 (pubK pl s k) (pl.getD i default) = if i < k ∧ (pl.getD i default).sec = true then 0 else at7 s (pl.getD i default) := by
  intro k
  induction k with
  | zero => intro _ i _; rw [if_neg (by omega)]; rfl
  | succ k ih =>
    intro hk i hi
    have h := ih (by omega) i hi
    rw [pubK]
    split
    · rename_i hsec
      rw [at7_put (N := N) (by rw [pubK_len, hN]) (ho _ (getD_mem (by omega))) (ho _ (getD_mem hi))]
      by_cases e : same7 (pl.getD k default) (pl.getD i default)
      · have := ha k i (by omega) hi e
        subst this
        rw [if_pos e, if_pos ⟨by omega, hsec⟩]
      · rw [if_neg e, h]
        have hne : i ≠ k := fun h => e (by rw [h]; exact ⟨rfl, rfl⟩)
        by_cases h2 : i < k ∧ (pl.getD i default).sec = true
        · rw [if_pos h2, if_pos ⟨by omega, h2.2⟩]
        · rw [if_neg h2, if_neg (fun h3 => h2 ⟨by omega, h3.2⟩)]
    · rename_i hsec
      rw [h]
      by_cases h2 : i < k ∧ (pl.getD i default).sec = true
      · rw [if_pos h2, if_pos ⟨by omega, h2.2⟩]
      · rw [if_neg h2, if_neg (fun h3 => h2 ⟨by
          rcases Nat.lt_or_ge i k with h4 | h4
          · exact h4
          · have : i = k := by omega
            subst this
            exact absurd h3.2 hsec, h3.2⟩)]
/-- a register that is no place stays as it was -/
theorem r_putK {W : Int} {pl : List Pl} {l : List Int} {s : S7} {N : Nat} (ho : ∀ p ∈ pl, plOk N p) {r : Nat} (hr : r < 4) (hn : ∀ p ∈ pl, p.reg = true → p.n ≠ r) : ∀ k, k ≤ pl.length → (putK W pl l s k).r r = s.r r := by
  intro k
  induction k with
  | zero => intro _; rfl
  | succ k ih =>
    intro hk
    show (put7 _ _ _).r r = _
    have hm := getD_mem (pl := pl) (k := k) (by omega)
    rw [r_put hr (fun h => ⟨(ho _ hm).1 h, hn _ hm h⟩)]
    exact ih (by omega)
theorem r_pubK {pl : List Pl} {s : S7} {N : Nat} (ho : ∀ p ∈ pl, plOk N p) {r : Nat} (hr : r < 4) (hn : ∀ p ∈ pl, p.reg = true → p.n ≠ r) : ∀ k, k ≤ pl.length → (pubK pl s k).r r = s.r r := by
  intro k
  induction k with
  | zero => intro _; rfl
  | succ k ih =>
    intro hk
    rw [pubK]
    have hm := getD_mem (pl := pl) (k := k) (by omega)
    split
    · rw [r_put hr (fun h => ⟨(ho _ hm).1 h, hn _ hm h⟩)]
      exact ih (by omega)
    · exact ih (by omega)
/-- two states are the same: by registers and cells -/
theorem sameB_iff (s s' : S7) (hl : s.m.length = s'.m.length) : sameB s.r0 s.r1 s.r2 s.r3 s.m [] 0 s'.r0 s'.r1 s'.r2 s'.r3 s'.m [] 0 = true ↔ (∀ r, r < 4 → s.r r = s'.r r) ∧ ∀ i, i < s.m.length → s.m.getD i 0 = s'.m.getD i 0 := by
  have h1 : regE s.r0 s.r1 s.r2 s.r3 s'.r0 s'.r1 s'.r2 s'.r3 = true ↔ s.r0 = s'.r0 ∧ s.r1 = s'.r1 ∧ s.r2 = s'.r2 ∧ s.r3 = s'.r3 := by
    unfold regE
    constructor
    · intro h
      by_cases e0 : s.r0 = s'.r0 <;> by_cases e1 : s.r1 = s'.r1 <;> by_cases e2 : s.r2 = s'.r2 <;> by_cases e3 : s.r3 = s'.r3 <;> simp [e0, e1, e2, e3] at h ⊢
    · rintro ⟨e0, e1, e2, e3⟩
      simp [e0, e1, e2, e3]
  have h2 : s.m = s'.m ↔ ∀ i, i < s.m.length → s.m.getD i 0 = s'.m.getD i 0 := by
    constructor
    · intro h i _; rw [h]
    · intro h
      apply List.ext_getElem hl
      intro i hi hi'
      have := h i hi
      simpa [List.getD, hi, hi'] using this
  unfold sameB
  simp only [Bool.and_eq_true, h1, eqI, decide_eq_true_eq, beq_self_eq_true, and_true, h2]
  constructor
  · rintro ⟨⟨e0, e1, e2, e3⟩, h⟩
    refine ⟨fun r hr => ?_, h⟩
    match r, hr with
    | 0, _ => exact e0
    | 1, _ => exact e1
    | 2, _ => exact e2
    | 3, _ => exact e3
  · rintro ⟨h, h'⟩
    exact ⟨⟨h 0 (by omega), h 1 (by omega), h 2 (by omega), h 3 (by omega)⟩, h'⟩
/-- every cell is a place, and every told register -/
def All7 (N : Nat) (pl : List Pl) (told : Nat → Prop) : Prop := (∀ n, n < N → ∃ i, i < pl.length ∧ (pl.getD i default).reg = false ∧ (pl.getD i default).n = n) ∧ (∀ r, r < 4 → told r → ∃ i, i < pl.length ∧ (pl.getD i default).reg = true ∧ (pl.getD i default).n = r) ∧ ∀ p ∈ pl, p.reg = true → told p.n
/-- two states look alike just if they hold the same in all that is public -/
theorem low_iff {pl : List Pl} {told : Nat → Prop} {N : Nat} {s s' : S7} (hs : s.m.length = N) (hs' : s'.m.length = N) (ho : ∀ p ∈ pl, plOk N p) (ha : Apart7 pl) (hall : All7 N pl told) [∀ r, Decidable (told r)]
    (hu : ∀ r, r < 4 → ¬ told r → s.r r = s'.r r) :
    sameB (pubK pl s pl.length).r0 (pubK pl s pl.length).r1 (pubK pl s pl.length).r2 (pubK pl s pl.length).r3 (pubK pl s pl.length).m [] 0 (pubK pl s' pl.length).r0 (pubK pl s' pl.length).r1 (pubK pl s' pl.length).r2 (pubK pl s' pl.length).r3 (pubK pl s' pl.length).m [] 0 = true ↔
    ∀ i, i < pl.length → (pl.getD i default).sec = false → at7 s (pl.getD i default) = at7 s' (pl.getD i default) := by
  rw [sameB_iff _ _ (by rw [pubK_len, pubK_len, hs, hs'])]
  have e : ∀ i, i < pl.length → (at7 (pubK pl s pl.length) (pl.getD i default) = at7 (pubK pl s' pl.length) (pl.getD i default) ↔ ((pl.getD i default).sec = false → at7 s (pl.getD i default) = at7 s' (pl.getD i default))) := fun i hi => by
    rw [at7_pubK hs ho ha _ (Nat.le_refl _) i hi, at7_pubK hs' ho ha _ (Nat.le_refl _) i hi]
    cases hsec : (pl.getD i default).sec with
    | true => simp [hi]
    | false => simp
  constructor
  · rintro ⟨h1, h2⟩ i hi
    refine (e i hi).1 ?_
    have hp := ho _ (getD_mem hi)
    unfold at7
    split
    · rename_i hr
      exact h1 _ (hp.1 hr)
    · rename_i hr
      exact h2 _ (by rw [pubK_len, hs]; exact hp.2 (by simpa using hr))
  · intro h
    refine ⟨fun r hr => ?_, fun n hn => ?_⟩
    · by_cases ht : told r
      · obtain ⟨i, hi, h1, h2⟩ := hall.2.1 r hr ht
        have := (e i hi).2 (h i hi)
        unfold at7 at this
        rw [if_pos h1, if_pos h1, h2] at this
        exact this
      · have hn : ∀ p ∈ pl, p.reg = true → p.n ≠ r := fun p hp hpr e => ht (e ▸ hall.2.2 p hp hpr)
        rw [r_pubK ho hr hn _ (Nat.le_refl _), r_pubK ho hr hn _ (Nat.le_refl _)]
        exact hu r hr ht
    · rw [pubK_len, hs] at hn
      obtain ⟨i, hi, h1, h2⟩ := hall.1 n hn
      have := (e i hi).2 (h i hi)
      unfold at7 at this
      rw [if_neg (by rw [h1]; simp), if_neg (by rw [h1]; simp), h2] at this
      exact this
end Go.Proofs.Ytdbnfdcjibgikaa.Px
namespace Go.Proofs.Ytdbnfdcjibgikaa.Px
open Go.RowKit Go.Proofs.Ytdbnfdcjibgikaa.Rx
theorem memL_get : ∀ (l : List Mm) (at_ i : Nat), i < sumN l → ((memL at_ l).getD i default).reg = false ∧ ((memL at_ l).getD i default).n = at_ + i
  | [], at_, i, h => by simp [sumN] at h
  | m :: l, at_, i, h => by
    simp only [memL, List.getD_eq_getElem?_getD]
    by_cases hi : i < m.n
    · rw [List.getElem?_append_left (by rw [celL_length]; exact hi)]
      simp [celL, hi]
    · rw [List.getElem?_append_right (by rw [celL_length]; omega), celL_length]
      have := memL_get l (at_ + m.n) (i - m.n) (by simp only [sumN] at h; omega)
      rw [List.getD_eq_getElem?_getD] at this
      exact ⟨this.1, by rw [this.2]; omega⟩
theorem regL_get (r : Nat → Int) : ∀ (k i : Nat), i < (regL r k).length → ((regL r k).getD i default).reg = true ∧ ((regL r k).getD i default).n < k ∧ r ((regL r k).getD i default).n ≠ 0 ∧ ∀ j, j < i → ((regL r k).getD j default).n < ((regL r k).getD i default).n
  | 0, i, h => by simp [regL] at h
  | k + 1, i, h => by
    by_cases hz : r k = 0
    · rw [regL_zero hz] at h ⊢
      obtain ⟨h1, h2, h3, h4⟩ := regL_get r k i h
      exact ⟨h1, by omega, h3, h4⟩
    · rw [regL_pos hz] at h ⊢
      simp only [List.getD_eq_getElem?_getD]
      by_cases hi : i < (regL r k).length
      · obtain ⟨h1, h2, h3, h4⟩ := regL_get r k i hi
        simp only [List.getD_eq_getElem?_getD] at h1 h2 h3 h4
        rw [List.getElem?_append_left hi]
        refine ⟨h1, by omega, h3, fun j hj => ?_⟩
        rw [List.getElem?_append_left (by omega)]
        exact h4 j hj
      · have e : i = (regL r k).length := by simp only [List.length_append, List.length_singleton] at h; omega
        subst e
        rw [List.getElem?_append_right (Nat.le_refl _), Nat.sub_self]
        refine ⟨rfl, Nat.lt_succ_self k, hz, fun j hj => ?_⟩
        rw [List.getElem?_append_left hj]
        obtain ⟨_, h2, _, _⟩ := regL_get r k j hj
        rw [List.getD_eq_getElem?_getD] at h2
        exact h2
theorem regL_len_s (r : Nat → Int) (k : Nat) : (regL r (k + 1)).length = (regL r k).length + (if r k = 0 then 0 else 1) := by
  simp only [regL, List.length_append]
  split <;> simp
theorem regL_at (r : Nat → Int) (k n : Nat) (hk : k < n) (h : ¬ r k = 0) : (regL r n).getD (regL r k).length default = ⟨true, k, r k == 2⟩ ∧ (regL r k).length < (regL r n).length := by
  induction n with
  | zero => omega
  | succ n ih =>
    by_cases e : k = n
    · subst e
      rw [regL_pos h]
      simp [List.getD]
    · obtain ⟨h1, h2⟩ := ih (by omega)
      refine ⟨?_, by rw [regL_len_s]; omega⟩
      show (regL r n ++ _).getD _ _ = _
      rw [← h1]
      simp only [List.getD_eq_getElem?_getD]
      rw [List.getElem?_append_left h2]
theorem places_get (r : Nat → Int) (ms : List Mm) (i : Nat) (hi : i < (places r ms).length) :
    (i < (regL r 4).length ∧ (places r ms).getD i default = (regL r 4).getD i default) ∨ ((regL r 4).length ≤ i ∧ i - (regL r 4).length < sumN ms ∧ (places r ms).getD i default = (memL 0 ms).getD (i - (regL r 4).length) default) := by
  unfold places at *
  rw [List.length_append, memL_length] at hi
  simp only [List.getD_eq_getElem?_getD]
  by_cases h : i < (regL r 4).length
  · exact .inl ⟨h, by rw [List.getElem?_append_left h]⟩
  · exact .inr ⟨by omega, by omega, by rw [List.getElem?_append_right (by omega)]⟩
theorem places_apart (r : Nat → Int) (ms : List Mm) : Apart7 (places r ms) := by
  intro i j hi hj ⟨e1, e2⟩
  rcases places_get r ms i hi with ⟨a1, a2⟩ | ⟨a1, a2, a3⟩ <;> rcases places_get r ms j hj with ⟨b1, b2⟩ | ⟨b1, b2, b3⟩
  · rw [a2, b2] at e2
    obtain ⟨_, _, _, h4⟩ := regL_get r 4 i a1
    obtain ⟨_, _, _, k4⟩ := regL_get r 4 j b1
    rcases Nat.lt_trichotomy i j with h | h | h
    · have := k4 i h; omega
    · exact h
    · have := h4 j h; omega
  · rw [a2, b3] at e1
    have := (regL_get r 4 i a1).1
    have h2 := (memL_get ms 0 _ b2).1
    rw [this, h2] at e1; cases e1
  · rw [a3, b2] at e1
    have := (regL_get r 4 j b1).1
    have h2 := (memL_get ms 0 _ a2).1
    rw [this, h2] at e1; cases e1
  · rw [a3, b3] at e2
    have h1 := (memL_get ms 0 _ a2).2
    have h2 := (memL_get ms 0 _ b2).2
    omega
theorem places_all (r : Nat → Int) (ms : List Mm) : All7 (sumN ms) (places r ms) (fun k => r k ≠ 0) := by
  refine ⟨fun n hn => ?_, fun k hk ht => ?_, fun p hp hreg => ?_⟩
  · have hl : (regL r 4).length + n < (places r ms).length := by unfold places; rw [List.length_append, memL_length]; omega
    refine ⟨(regL r 4).length + n, hl, ?_⟩
    rcases places_get r ms _ hl with ⟨a1, _⟩ | ⟨a1, a2, a3⟩
    · omega
    · rw [a3]
      have := memL_get ms 0 _ a2
      exact ⟨this.1, by rw [this.2]; omega⟩
  · obtain ⟨h1, h2⟩ := regL_at r k 4 hk ht
    have hl : (regL r k).length < (places r ms).length := by unfold places; rw [List.length_append]; omega
    refine ⟨(regL r k).length, hl, ?_⟩
    rcases places_get r ms _ hl with ⟨_, a2⟩ | ⟨a1, _, _⟩
    · rw [a2, h1]; exact ⟨rfl, rfl⟩
    · omega
  · obtain ⟨i, hi, rfl⟩ := List.getElem_of_mem hp
    have e : (places r ms)[i] = (places r ms).getD i default := by simp [List.getD, hi]
    rw [e] at hreg ⊢
    rcases places_get r ms i hi with ⟨a1, a2⟩ | ⟨a1, a2, a3⟩
    · rw [a2]; exact (regL_get r 4 i a1).2.2.1
    · rw [a3, (memL_get ms 0 _ a2).1] at hreg; cases hreg
end Go.Proofs.Ytdbnfdcjibgikaa.Px
