/- Plain facts of what a line means: where it is wrong lies within it; what it names is no longer than it. -/
import Derived.Test.YtmghklokbmdenaaDoorMgSn
set_option linter.unusedVariables false
set_option linter.unusedSimpArgs false
namespace Go.Proofs.YtmghklokbmdenaaDoor
namespace Sn
open Lx (Tk)
open Sy (In It Vl St)
theorem take_short {B : Nat} {i : It} {t : Tk} (p : Int) (h1 : i.name.length ≤ B) (h2 : i.ins.name.length ≤ B) (ht : t.text.length ≤ B) : (take i p t).1.name.length ≤ B ∧ (take i p t).1.ins.name.length ≤ B := by
  unfold take
  repeat' split
  all_goals exact ⟨by assumption, by assumption⟩
theorem fitG_short {B : Nat} {ts : List Tk} (hts : ∀ t ∈ ts, t.text.length ≤ B) : ∀ (l : List Int) (i : It) (k : Nat) (j : It), i.name.length ≤ B → i.ins.name.length ≤ B → fitG ts i l k = .ok j → j.name.length ≤ B ∧ j.ins.name.length ≤ B
  | [], i, k, j, h1, h2, h => by
    unfold fitG at h
    split at h
    · cases h
    · injection h with h; subst h; exact ⟨h1, h2⟩
  | p :: l, i, k, j, h1, h2, h => by
    unfold fitG at h
    split at h
    · exact fitG_short hts l i k j h1 h2 h
    · split at h
      · cases h
      · rename_i t ht
        split at h
        · have := take_short p h1 h2 (hts t (List.mem_of_getElem? ht))
          exact fitG_short hts l _ _ j this.1 this.2 h
        · cases h
theorem fit_short {B : Nat} {ts : List Tk} (hts : ∀ t ∈ ts, t.text.length ≤ B) {f : Fm} {j : It} (h : fit ts f = .ok j) : j.name.length ≤ B ∧ j.ins.name.length ≤ B := by
  unfold fit at h
  split at h
  · exact fitG_short hts _ (begin_ f) _ j (Nat.zero_le _) (Nat.zero_le _) h
  · split at h
    · exact fitG_short hts _ (begin_ f) _ j (Nat.zero_le _) (Nat.zero_le _) h
    · cases h
theorem best_short {B : Nat} {ts : List Tk} (hts : ∀ t ∈ ts, t.text.length ≤ B) : ∀ (L : List Fm) (m : Nat) (j : It), best ts L m = .ok j → j.name.length ≤ B ∧ j.ins.name.length ≤ B
  | [], m, j, h => by cases h
  | f :: L, m, j, h => by
    unfold best at h
    split at h
    · rename_i i hi
      injection h with h
      subst h
      exact fit_short hts hi
    · exact best_short hts L _ j h
theorem tok_in {r : List Int} {ts : List Tk} (L : Lx.Laid 0 (r.drop 0) ts) {k : Nat} {t : Tk} (h : ts[k]? = some t) : t.at_ + t.text.length ≤ r.length := (L.nth (Nat.zero_le _) h).2.2.1
theorem parse_short {r : List Int} {j : It} (h : Sy.parse r = .ok j) : j.name.length ≤ r.length ∧ j.ins.name.length ≤ r.length := by
  unfold Sy.parse at h
  cases hl : Lx.lxA 0 r with
  | error a => rw [hl] at h; cases h
  | ok ts =>
    rw [hl] at h
    have L := Lx.laid_of _ 0 r ts (Nat.le_refl _) hl
    have L0 : Lx.Laid 0 (r.drop 0) ts := by rw [List.drop_zero]; exact L
    simp only at h
    rw [← parse_same L.good] at h
    have hts : ∀ t ∈ ts, t.text.length ≤ r.length := fun t ht => by
      obtain ⟨k, hk, e⟩ := List.getElem_of_mem ht
      have := tok_in L0 (k := k) (t := t) (by rw [List.getElem?_eq_getElem hk, e])
      omega
    unfold parseT at h
    split at h
    · injection h with h; subst h; exact ⟨Nat.zero_le _, Nat.zero_le _⟩
    · split at h
      · rename_i i hb
        injection h with h
        subst h
        exact best_short hts _ _ _ hb
      · cases h
theorem parseT_le {r : List Int} {ts : List Tk} {m : Nat} (hl : Lx.lxA 0 r = .ok ts) (h : Sy.parseT ts r.length = .error m) : m ≤ r.length := by
  have L := Lx.laid_of _ 0 r ts (Nat.le_refl _) hl
  have L0 : Lx.Laid 0 (r.drop 0) ts := by rw [List.drop_zero]; exact L
  rw [← parse_same L.good] at h
  unfold parseT at h
  split at h
  · cases h
  · split at h
    · cases h
    · rename_i k hb
      injection h with h
      unfold Sy.tokAt at h
      cases e : ts[k]? with
      | none => rw [e] at h; simp at h; omega
      | some t => rw [e] at h; have := tok_in L0 e; simp at h; omega
end Sn
end Go.Proofs.YtmghklokbmdenaaDoor
