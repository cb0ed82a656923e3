/- Plain facts of keys in the order of their coming, and of their places by rank. -/
import Derived.Test.YtlmchkajlecmeaaCdMath
set_option linter.unusedVariables false
set_option linter.unusedSimpArgs false
namespace Go.Proofs.Ytlmchkajlecmeaa
namespace Os
open Cd
/-- how many keys are below one -/
def rk (L : List (List Int)) (k : List Int) : Nat := L.countP (fun x => lessB x k)
/-- the place of a key in the order of coming -/
def idx (L : List (List Int)) (k : List Int) : Option Nat := L.findIdx? (fun x => x == k)
/-- the keys behind an Add -/
def put (most : Nat) (L : List (List Int)) (k : List Int) : List (List Int) := if (idx L k).isSome then L else if most ≤ L.length then L else L ++ [k]
/-- what Add answers -/
def ans (most : Nat) (L : List (List Int)) (k : List Int) : Int × Bool × Bool := match idx L k with
  | some i => (i, false, true)
  | none => if most ≤ L.length then (0, false, false) else (L.length, true, true)
def keyAt (L : List (List Int)) (i : Nat) : List Int := L.getD i []
/-- the places stand by rank -/
structure Ok (L : List (List Int)) (p : List Nat) : Prop where
  perm : List.Perm p (List.range L.length)
  sorted : p.Pairwise (fun i j => lessB (keyAt L i) (keyAt L j) = true)
theorem Ok.nil : Ok [] [] := ⟨List.Perm.refl _, List.Pairwise.nil⟩
theorem Ok.len {L : List (List Int)} {p : List Nat} (h : Ok L p) : p.length = L.length := by simpa using h.perm.length_eq
theorem Ok.lt {L : List (List Int)} {p : List Nat} (h : Ok L p) {i : Nat} (hi : i ∈ p) : i < L.length := by
  have := (h.perm.mem_iff (a := i)).1 hi
  simpa using this
theorem Ok.at_lt {L : List (List Int)} {p : List Nat} (h : Ok L p) {i : Nat} (hi : i < p.length) : p.getD i 0 < L.length := by
  have : p.getD i 0 ∈ p := by simp [List.getD, hi]
  exact h.lt this
theorem map_keyAt (L : List (List Int)) : (List.range L.length).map (keyAt L) = L := by
  apply List.ext_getElem
  · simp
  · intro i h1 h2
    simp [keyAt, List.getD, h2]
/-- ranks may be counted over the places -/
theorem Ok.rk_eq {L : List (List Int)} {p : List Nat} (h : Ok L p) (k : List Int) : rk L k = p.countP (fun i => lessB (keyAt L i) k) := by
  unfold rk
  rw [h.perm.countP_eq]
  conv => lhs; rw [← map_keyAt L]
  rw [List.countP_map]
  rfl
/-- who stands ahead is lower -/
theorem Ok.lower {L : List (List Int)} {p : List Nat} (h : Ok L p) {i j : Nat} (hij : i < j) (hj : j < p.length) : lessB (keyAt L (p.getD i 0)) (keyAt L (p.getD j 0)) = true := by
  have := List.pairwise_iff_getElem.1 h.sorted i j (by omega) hj hij
  simpa [List.getD, hj, show i < p.length by omega] using this
theorem countP_split {α : Type} (P : α → Bool) (d : α) : ∀ (p : List α) (n : Nat), n ≤ p.length → (∀ i, i < n → P (p.getD i d) = true) → (∀ i, n ≤ i → i < p.length → P (p.getD i d) = false) → p.countP P = n
  | [], n, hn, _, _ => by simp at hn; simp [hn]
  | x :: p, 0, _, _, h2 => by
    have h0 := h2 0 (by omega) (by simp)
    have ih := countP_split P d p 0 (by omega) (fun i hi => by omega) (fun i _ hi => by have := h2 (i + 1) (by omega) (by simp; omega); simpa using this)
    rw [List.countP_cons, ih]
    simp at h0
    simp [h0]
  | x :: p, n + 1, hn, h1, h2 => by
    have h0 := h1 0 (by omega)
    have ih := countP_split P d p n (by simpa using hn) (fun i hi => by have := h1 (i + 1) (by omega); simpa using this) (fun i hi hl => by have := h2 (i + 1) (by omega) (by simp; omega); simpa using this)
    rw [List.countP_cons, ih]
    simp at h0
    simp [h0]
/-- a search that has parted the places into lower ones and others has found the rank -/
theorem Ok.rank_of {L : List (List Int)} {p : List Nat} (h : Ok L p) {k : List Int} {n : Nat} (hn : n ≤ p.length) (h1 : ∀ i, i < n → lessB (keyAt L (p.getD i 0)) k = true) (h2 : ∀ i, n ≤ i → i < p.length → lessB (keyAt L (p.getD i 0)) k = false) : rk L k = n := by
  rw [h.rk_eq]
  exact countP_split (fun i => lessB (keyAt L i) k) 0 p n hn h1 h2
theorem Ok.low_step {L : List (List Int)} {p : List Nat} (h : Ok L p) {k : List Int} {m : Nat} (hm : m < p.length) (hl : lessB (keyAt L (p.getD m 0)) k = true) : ∀ i, i < m + 1 → lessB (keyAt L (p.getD i 0)) k = true := by
  intro i hi
  rcases Nat.lt_or_ge i m with h1 | h1
  · exact less_trans (h.lower h1 hm) hl
  · obtain rfl : i = m := by omega
    exact hl
theorem Ok.high_step {L : List (List Int)} {p : List Nat} (h : Ok L p) {k : List Int} {m : Nat} (hl : lessB (keyAt L (p.getD m 0)) k = false) : ∀ i, m ≤ i → i < p.length → lessB (keyAt L (p.getD i 0)) k = false := by
  intro i hi hp
  rcases Nat.lt_or_ge m i with h1 | h1
  · cases hx : lessB (keyAt L (p.getD i 0)) k
    · rfl
    · have := less_trans (h.lower h1 hp) hx
      rw [hl] at this; cases this
  · obtain rfl : i = m := by omega
    exact hl
theorem idx_some {L : List (List Int)} {k : List Int} {i : Nat} (h : idx L k = some i) : i < L.length ∧ keyAt L i = k := by
  obtain ⟨h1, h2, _⟩ := List.findIdx?_eq_some_iff_getElem.1 h
  exact ⟨h1, by simpa [keyAt, List.getD, h1] using h2⟩
theorem idx_none {L : List (List Int)} {k : List Int} : idx L k = none ↔ k ∉ L := by
  unfold idx
  rw [List.findIdx?_eq_none_iff]
  constructor
  · intro h hk
    have := h k hk
    simp at this
  · intro h x hx
    simp
    rintro rfl
    exact h hx
theorem Ok.key_inj {L : List (List Int)} {p : List Nat} (h : Ok L p) {i j : Nat} (hi : i < L.length) (hj : j < L.length) (he : keyAt L i = keyAt L j) : i = j := by
  have m1 : i ∈ p := (h.perm.mem_iff).2 (by simpa using hi)
  have m2 : j ∈ p := (h.perm.mem_iff).2 (by simpa using hj)
  obtain ⟨a, ha, e1⟩ := List.getElem_of_mem m1
  obtain ⟨b, hb, e2⟩ := List.getElem_of_mem m2
  rcases Nat.lt_trichotomy a b with hab | hab | hab
  · have := h.lower hab hb
    simp [List.getD, ha, hb, e1, e2] at this
    rw [he, less_self] at this; cases this
  · subst hab
    exact e1.symm.trans e2
  · have := h.lower hab ha
    simp [List.getD, ha, hb, e1, e2] at this
    rw [he, less_self] at this; cases this
theorem Ok.idx_of {L : List (List Int)} {p : List Nat} (h : Ok L p) {k : List Int} {i : Nat} (hi : i < L.length) (he : keyAt L i = k) : idx L k = some i := by
  cases hx : idx L k with
  | none =>
    exfalso
    refine idx_none.1 hx ?_
    rw [← he]
    simp [keyAt, List.getD, hi]
  | some j =>
    obtain ⟨h1, h2⟩ := idx_some hx
    rw [h.key_inj h1 hi (h2.trans he.symm)]
/-- what stands at a key's rank is the key, or the key is not there -/
theorem Ok.at_rank {L : List (List Int)} {p : List Nat} (h : Ok L p) {k : List Int} {i : Nat} (hi : idx L k = some i) : rk L k < p.length ∧ p.getD (rk L k) 0 = i := by
  obtain ⟨h1, h2⟩ := idx_some hi
  have m1 : i ∈ p := (h.perm.mem_iff).2 (by simpa using h1)
  obtain ⟨a, ha, e1⟩ := List.getElem_of_mem m1
  have ea : p.getD a 0 = i := by simp [List.getD, ha, e1]
  have : rk L k = a := by
    refine h.rank_of (by omega) (fun j hj => ?_) (fun j hj hl => ?_)
    · have := h.lower hj ha
      rw [ea, h2] at this; exact this
    · rcases Nat.lt_or_ge a j with h3 | h3
      · have := h.lower h3 hl
        rw [ea, h2] at this
        exact less_asym this
      · obtain rfl : j = a := by omega
        rw [ea, h2]; exact less_self _
  rw [this]
  exact ⟨ha, ea⟩
theorem Ok.parts {L : List (List Int)} {p : List Nat} (h : Ok L p) (k : List Int) : ∀ (d m : Nat), p.length - m = d → m ≤ p.length → (∀ i, i < m → lessB (keyAt L (p.getD i 0)) k = true) →
    ∃ n, n ≤ p.length ∧ (∀ i, i < n → lessB (keyAt L (p.getD i 0)) k = true) ∧ (∀ i, n ≤ i → i < p.length → lessB (keyAt L (p.getD i 0)) k = false)
  | 0, m, hd, hm, h1 => ⟨m, hm, h1, fun i hi hl => by omega⟩
  | d + 1, m, hd, hm, h1 => by
    cases hp : lessB (keyAt L (p.getD m 0)) k
    · exact ⟨m, hm, h1, h.high_step hp⟩
    · exact Ok.parts h k d (m + 1) (by omega) (by omega) (h.low_step (by omega) hp)
theorem Ok.split {L : List (List Int)} {p : List Nat} (h : Ok L p) (k : List Int) :
    rk L k ≤ p.length ∧ (∀ i, i < rk L k → lessB (keyAt L (p.getD i 0)) k = true) ∧ (∀ i, rk L k ≤ i → i < p.length → lessB (keyAt L (p.getD i 0)) k = false) := by
  obtain ⟨n, hn, h1, h2⟩ := Ok.parts h k p.length 0 rfl (by omega) (fun i hi => by omega)
  rw [h.rank_of hn h1 h2]
  exact ⟨hn, h1, h2⟩
theorem keyAt_old {L : List (List Int)} {k : List Int} {i : Nat} (h : i < L.length) : keyAt (L ++ [k]) i = keyAt L i := by
  simp [keyAt, List.getD, List.getElem?_append_left h]
theorem keyAt_new {L : List (List Int)} {k : List Int} : keyAt (L ++ [k]) L.length = k := by simp [keyAt, List.getD]
theorem isB_keyAt {L : List (List Int)} (h : ∀ x ∈ L, isB x) (i : Nat) : isB (keyAt L i) := by
  rcases Nat.lt_or_ge i L.length with h1 | h1
  · have : keyAt L i ∈ L := by simp [keyAt, List.getD, h1]
    exact h _ this
  · have : keyAt L i = [] := by simp [keyAt, List.getD, h1]
    rw [this]; intro x hx; simp at hx
/-- a new key's place goes in at its rank -/
theorem Ok.insert {L : List (List Int)} {p : List Nat} (h : Ok L p) {k : List Int} (hk : k ∉ L) (hB : ∀ x ∈ L, isB x) (hBk : isB k) : Ok (L ++ [k]) (p.take (rk L k) ++ L.length :: p.drop (rk L k)) := by
  obtain ⟨hr, hlo, hhi⟩ := h.split k
  refine ⟨?_, ?_⟩
  · rw [List.length_append, List.length_singleton, List.range_succ]
    have h1 : List.Perm (p.take (rk L k) ++ L.length :: p.drop (rk L k)) (L.length :: (p.take (rk L k) ++ p.drop (rk L k))) := List.perm_middle
    rw [List.take_append_drop] at h1
    exact h1.trans ((List.Perm.cons _ h.perm).trans (List.perm_append_comm (l₁ := [L.length]) (l₂ := List.range L.length)))
  · have hold : ∀ i ∈ p, keyAt (L ++ [k]) i = keyAt L i := fun i hi => keyAt_old (h.lt hi)
    have hp : p.Pairwise (fun i j => lessB (keyAt (L ++ [k]) i) (keyAt (L ++ [k]) j) = true) := by
      refine h.sorted.imp_of_mem ?_
      intro a b ha hb hab
      rw [hold a ha, hold b hb]; exact hab
    have hlow : ∀ a ∈ p.take (rk L k), lessB (keyAt (L ++ [k]) a) k = true := by
      intro a ha
      obtain ⟨i, hi, e⟩ := List.getElem_of_mem ha
      rw [hold a (List.mem_of_mem_take ha)]
      rw [List.length_take] at hi
      have := hlo i (by omega)
      simpa [List.getD, show i < p.length by omega, ← e] using this
    have hhigh : ∀ a ∈ p.drop (rk L k), lessB k (keyAt (L ++ [k]) a) = true := by
      intro a ha
      obtain ⟨i, hi, e⟩ := List.getElem_of_mem ha
      have hm := List.mem_of_mem_drop ha
      rw [hold a hm]
      rw [List.length_drop] at hi
      have h1 := hhi (rk L k + i) (by omega) (by omega)
      have e2 : p.getD (rk L k + i) 0 = a := by
        rw [List.getElem_drop] at e
        simp [List.getD, show rk L k + i < p.length by omega, e]
      rw [e2] at h1
      have hne : keyAt L a ≠ k := by
        intro he
        apply hk
        rw [← he]
        simp [keyAt, List.getD, h.lt hm]
      rcases less_tri (isB_keyAt hB a) hBk hne with h2 | h2
      · rw [h1] at h2; cases h2
      · exact h2
    rw [List.pairwise_append]
    refine ⟨hp.sublist (List.take_sublist _ _), ?_, ?_⟩
    · rw [List.pairwise_cons]
      exact ⟨fun a ha => by rw [keyAt_new]; exact hhigh a ha, hp.sublist (List.drop_sublist _ _)⟩
    · intro a ha b hb
      rcases List.mem_cons.1 hb with rfl | hb
      · rw [keyAt_new]; exact hlow a ha
      · rw [← List.take_append_drop (rk L k) p, List.pairwise_append] at hp
        exact hp.2.2 a ha b hb
end Os
end Go.Proofs.Ytlmchkajlecmeaa
