/- Plain facts of keys in the order of their coming without ranks; of runs of places, each in the order of its keys, and of merging two. -/
import Derived.Test.YtlmchkajlecmeaaOsMath
set_option linter.unusedVariables false
set_option linter.unusedSimpArgs false
namespace Go.Proofs.Ytlmchkajlecmeaa
namespace Os
open Cd
theorem idx_of_nodup {L : List (List Int)} {k : List Int} {i : Nat} (hL : L.Nodup) (hi : i < L.length) (he : keyAt L i = k) : idx L k = some i := by
  cases hx : idx L k with
  | none =>
    exfalso
    refine idx_none.1 hx ?_
    rw [← he]
    simp [keyAt, List.getD, hi]
  | some j =>
    obtain ⟨h1, h2⟩ := idx_some hx
    have h3 : L[j] = L[i] := by
      have e1 : keyAt L i = L[i] := by simp [keyAt, List.getD, hi]
      have e2 : keyAt L j = L[j] := by simp [keyAt, List.getD, h1]
      rw [← e1, ← e2, h2, he]
    have hp := List.pairwise_iff_getElem.1 hL
    rcases Nat.lt_trichotomy j i with h | h | h
    · exact absurd h3 (hp j i h1 hi h)
    · rw [h]
    · exact absurd h3.symm (hp i j hi h1 h)
theorem idx_lt {L : List (List Int)} {k : List Int} {i : Nat} (h : idx L k = some i) : i < L.length := (idx_some h).1
theorem idx_snoc_other {L : List (List Int)} {k j : List Int} (h : j ≠ k) : idx (L ++ [k]) j = idx L j := by
  unfold idx
  rw [List.findIdx?_append]
  have : List.findIdx? (fun x => x == j) [k] = none := by
    rw [List.findIdx?_eq_none_iff]
    intro x hx
    simp at hx
    subst hx
    simpa using fun e => h e.symm
  rw [this]
  cases List.findIdx? (fun x => x == j) L <;> simp
theorem idx_snoc_new {L : List (List Int)} {k : List Int} (h : idx L k = none) : idx (L ++ [k]) k = some L.length := by
  unfold idx at *
  rw [List.findIdx?_append, h]
  simp [List.findIdx?_cons]
theorem put_old {most : Nat} {L : List (List Int)} {k : List Int} {i : Nat} (h : idx L k = some i) : put most L k = L := by unfold put; rw [h]; rfl
theorem put_full {most : Nat} {L : List (List Int)} {k : List Int} (h : idx L k = none) (hm : most ≤ L.length) : put most L k = L := by unfold put; rw [h]; simp [hm]
theorem put_new {most : Nat} {L : List (List Int)} {k : List Int} (h : idx L k = none) (hm : L.length < most) : put most L k = L ++ [k] := by unfold put; rw [h]; simp [Nat.not_le.2 hm]
theorem ans_old {most : Nat} {L : List (List Int)} {k : List Int} {i : Nat} (h : idx L k = some i) : ans most L k = ((i : Int), false, true) := by unfold ans; rw [h]
theorem ans_full {most : Nat} {L : List (List Int)} {k : List Int} (h : idx L k = none) (hm : most ≤ L.length) : ans most L k = (0, false, false) := by unfold ans; rw [h]; simp [hm]
theorem ans_new {most : Nat} {L : List (List Int)} {k : List Int} (h : idx L k = none) (hm : L.length < most) : ans most L k = ((L.length : Int), true, true) := by unfold ans; rw [h]; simp [Nat.not_le.2 hm]
theorem nodup_snoc {L : List (List Int)} {k : List Int} (hL : L.Nodup) (h : idx L k = none) : (L ++ [k]).Nodup := by
  rw [List.nodup_append]
  refine ⟨hL, by simp, fun a ha b hb => ?_⟩
  simp at hb
  subst hb
  rintro rfl
  exact idx_none.1 h ha
/-- a run of places in the order of its keys -/
def Srt (L : List (List Int)) (r : List Nat) : Prop := r.Pairwise (fun i j => lessB (keyAt L j) (keyAt L i) = false)
structure Runs (L : List (List Int)) (m : Nat) (R : List (List Nat)) : Prop where
  le : m ≤ L.length
  perm : R.flatten.Perm (List.range m)
  sorted : ∀ r ∈ R, Srt L r
  len : R.length ≤ m
theorem Runs.nil (L : List (List Int)) : Runs L 0 [] := ⟨by omega, by simp, fun r hr => by simp at hr, by simp⟩
theorem Runs.lt {L : List (List Int)} {m : Nat} {R : List (List Nat)} (h : Runs L m R) {r : List Nat} (hr : r ∈ R) {i : Nat} (hi : i ∈ r) : i < m := by
  have : i ∈ R.flatten := List.mem_flatten.2 ⟨r, hr, hi⟩
  have := (h.perm.mem_iff).1 this
  simpa using this
theorem Srt.snoc_key {L : List (List Int)} {r : List Nat} (h : Srt L r) (hlt : ∀ i ∈ r, i < L.length) (k : List Int) : Srt (L ++ [k]) r := by
  refine List.Pairwise.imp_of_mem (fun {a b} ha hb hab => ?_) h
  rw [keyAt_old (hlt a ha), keyAt_old (hlt b hb)]
  exact hab
theorem Runs.snoc_key {L : List (List Int)} {m : Nat} {R : List (List Nat)} (h : Runs L m R) (k : List Int) : Runs (L ++ [k]) m R :=
  ⟨by have := h.le; simp; omega, h.perm, fun r hr => (h.sorted r hr).snoc_key (fun i hi => Nat.lt_of_lt_of_le (h.lt hr hi) h.le) k, h.len⟩
theorem le_trans' {a b c : List Int} (ha : isB a) (hb : isB b) (h1 : lessB b a = false) (h2 : lessB c b = false) : lessB c a = false := by
  cases h : lessB c a
  · rfl
  · by_cases e : a = b
    · subst e; rw [h] at h2; exact h2
    · rcases less_tri ha hb e with h3 | h3
      · rw [less_trans h h3] at h2; exact h2
      · rw [h3] at h1; cases h1
def mrg (L : List (List Int)) : List Nat → List Nat → List Nat
  | [], b => b
  | x :: a, [] => x :: a
  | x :: a, y :: b => if lessB (keyAt L x) (keyAt L y) = true then x :: mrg L a (y :: b) else y :: mrg L (x :: a) b
termination_by a b => a.length + b.length
theorem mrg_nil (L : List (List Int)) (b : List Nat) : mrg L [] b = b := by rw [mrg]
theorem mrg_nil' (L : List (List Int)) (a : List Nat) : mrg L a [] = a := by cases a <;> rw [mrg]
theorem mrg_lt {L : List (List Int)} {x y : Nat} {a b : List Nat} (h : lessB (keyAt L x) (keyAt L y) = true) : mrg L (x :: a) (y :: b) = x :: mrg L a (y :: b) := by rw [mrg, if_pos h]
theorem mrg_ge {L : List (List Int)} {x y : Nat} {a b : List Nat} (h : lessB (keyAt L x) (keyAt L y) = false) : mrg L (x :: a) (y :: b) = y :: mrg L (x :: a) b := by rw [mrg, if_neg (by simp [h])]
theorem mrg_perm (L : List (List Int)) : ∀ (n : Nat) (a b : List Nat), a.length + b.length = n → (mrg L a b).Perm (a ++ b)
  | n, [], b, _ => by rw [mrg_nil]; exact List.Perm.refl _
  | n, x :: a, [], _ => by rw [mrg_nil']; simp
  | n, x :: a, y :: b, hn => by
    cases h : lessB (keyAt L x) (keyAt L y)
    · rw [mrg_ge h]
      have ih := mrg_perm L (n - 1) (x :: a) b (by simp at hn ⊢; omega)
      exact (List.Perm.cons y ih).trans (List.perm_middle (l₁ := x :: a)).symm
    · rw [mrg_lt h]
      exact List.Perm.cons x (mrg_perm L (n - 1) a (y :: b) (by simp at hn ⊢; omega))
termination_by n a b => a.length + b.length
theorem mrg_sorted {L : List (List Int)} (hB : ∀ x ∈ L, isB x) : ∀ (n : Nat) (a b : List Nat), a.length + b.length = n → Srt L a → Srt L b → Srt L (mrg L a b)
  | n, [], b, _, _, hb => by rw [mrg_nil]; exact hb
  | n, x :: a, [], _, ha, _ => by rw [mrg_nil']; exact ha
  | n, x :: a, y :: b, hn, ha, hb => by
    obtain ⟨ha1, ha2⟩ := List.pairwise_cons.1 ha
    obtain ⟨hb1, hb2⟩ := List.pairwise_cons.1 hb
    cases h : lessB (keyAt L x) (keyAt L y)
    · rw [mrg_ge h]
      have ih := mrg_sorted hB (n - 1) (x :: a) b (by simp at hn ⊢; omega) ha hb2
      refine List.pairwise_cons.2 ⟨fun z hz => ?_, ih⟩
      have hz := ((mrg_perm L _ (x :: a) b rfl).mem_iff).1 hz
      rcases List.mem_append.1 hz with hz | hz
      · rcases List.mem_cons.1 hz with rfl | hz
        · exact h
        · exact le_trans' (isB_keyAt hB _) (isB_keyAt hB _) h (ha1 z hz)
      · exact hb1 z hz
    · rw [mrg_lt h]
      have ih := mrg_sorted hB (n - 1) a (y :: b) (by simp at hn ⊢; omega) ha2 hb
      refine List.pairwise_cons.2 ⟨fun z hz => ?_, ih⟩
      have hz := ((mrg_perm L _ a (y :: b) rfl).mem_iff).1 hz
      rcases List.mem_append.1 hz with hz | hz
      · exact ha1 z hz
      · rcases List.mem_cons.1 hz with rfl | hz
        · exact less_asym h
        · exact le_trans' (isB_keyAt hB _) (isB_keyAt hB _) (less_asym h) (hb1 z hz)
termination_by n a b => a.length + b.length
theorem mrg_len (L : List (List Int)) (a b : List Nat) : (mrg L a b).length = a.length + b.length := by rw [(mrg_perm L _ a b rfl).length_eq]; simp
/-- how many of a run's keys are below one -/
def cut (L : List (List Int)) (k : List Int) (r : List Nat) : Nat := r.countP (fun i => lessB (keyAt L i) k)
theorem rk_range (L : List (List Int)) (k : List Int) : rk L k = (List.range L.length).countP (fun i => lessB (keyAt L i) k) := by
  unfold rk
  conv => lhs; rw [← map_keyAt L]
  rw [List.countP_map]
  rfl
theorem Runs.rk_eq {L : List (List Int)} {R : List (List Nat)} (h : Runs L L.length R) (k : List Int) : rk L k = (R.map (cut L k)).sum := by
  rw [rk_range, ← h.perm.countP_eq, List.countP_flatten]
  rfl
theorem rk_le (L : List (List Int)) (k : List Int) : rk L k ≤ L.length := List.countP_le_length
theorem cut_le (L : List (List Int)) (k : List Int) (r : List Nat) : cut L k r ≤ r.length := List.countP_le_length
/-- what a place in a run is at -/
def pk (L : List (List Int)) (r : List Nat) (i : Nat) : List Int := keyAt L (r.getD i 0)
theorem Srt.mono {L : List (List Int)} {r : List Nat} (h : Srt L r) (hB : ∀ x ∈ L, isB x) {k : List Int} (hk : isB k) {i j : Nat} (hij : i ≤ j) (hj : j < r.length) (hp : lessB (pk L r i) k = false) : lessB (pk L r j) k = false := by
  rcases Nat.lt_or_ge i j with h1 | h1
  · have := List.pairwise_iff_getElem.1 h i j (by omega) hj h1
    have e : lessB (pk L r j) (pk L r i) = false := by simpa [pk, List.getD, hj, show i < r.length by omega] using this
    exact le_trans' hk (isB_keyAt hB _) hp e
  · obtain rfl : i = j := by omega
    exact hp
theorem cut_of {L : List (List Int)} {r : List Nat} {k : List Int} {n : Nat} (hn : n ≤ r.length) (h1 : ∀ i, i < n → lessB (pk L r i) k = true) (h2 : ∀ i, n ≤ i → i < r.length → lessB (pk L r i) k = false) : cut L k r = n :=
  countP_split (fun i => lessB (keyAt L i) k) 0 r n hn h1 h2
end Os
end Go.Proofs.Ytlmchkajlecmeaa
