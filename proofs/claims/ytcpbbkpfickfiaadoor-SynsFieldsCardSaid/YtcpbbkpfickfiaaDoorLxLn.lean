/- Plain facts of a line read sign by sign. -/
import Derived.Test.YtcpbbkpfickfiaaDoorLxFirst
import Derived.Test.YtcpbbkpfickfiaaDoorLxLnG
set_option linter.unusedVariables false
set_option linter.unusedSimpArgs false
namespace Go.Proofs.YtcpbbkpfickfiaaDoor
open Go.RowKit
open Lx in
theorem fst_step {c : Int} {r : List Int} {t : Tk} (h : fstOf c r = some t) : ∃ q, c :: r = t.text ++ q ∧ 0 < t.text.length ∧ (∀ x ∈ t.text, 0 ≤ x ∧ x < 128) ∧ (t.kind = 3 → word c = false) ∧ (t.kind ≠ 3 → word c = true) ∧ ∀ a, lxA a (c :: r) = cons ⟨t.kind, t.text, t.n, a⟩ (nx t.kind (a + t.text.length) q) := by
  unfold fstOf at h
  split at h
  · rename_i h1
    injection h with h
    subst h
    obtain ⟨q, hq⟩ := List.takeWhile_prefix word (l := c :: r)
    have hdr : (c :: r).drop ((c :: r).takeWhile word).length = q := by
      have := List.drop_left (l₁ := (c :: r).takeWhile word) (l₂ := q)
      rwa [hq] at this
    refine ⟨q, hq.symm, name_pos h1, fun x hx => word_lt (takeWhile_all x hx), fun h => by simp at h, fun _ => by simp [word, h1], fun a => ?_⟩
    rw [lxA_name h1, hdr, nx_other (by show (1 : Int) ≠ 2; decide)]
  · rename_i h1
    split at h
    · rename_i h2
      injection h with h
      subst h
      have hpre : digs (c :: r) <+: c :: r := by
        rw [digs_cons]
        split
        · exact ⟨r, rfl⟩
        · exact (List.takeWhile_prefix _).trans (List.take_prefix _ _)
      obtain ⟨q, hq⟩ := hpre
      have hdr : (c :: r).drop (digs (c :: r)).length = q := by
        have := List.drop_left (l₁ := digs (c :: r)) (l₂ := q)
        rwa [hq] at this
      refine ⟨q, hq.symm, digs_pos h2, fun x hx => dig_lt (digs_dig h2 x hx), fun h => by simp at h, fun _ => by simp [word, h2], fun a => ?_⟩
      cases hs : stops q
      · rw [lxA_nums h2 (by rw [hdr]; exact hs)]
        show _ = cons _ (nx 2 _ q)
        rw [nx_cut hs]
        rfl
      · rw [lxA_num h2 (by rw [hdr]; exact hs), hdr, nx_stop hs]
    · rename_i h2
      split at h
      · rename_i h3
        injection h with h
        subst h
        refine ⟨r, rfl, by simp, fun x hx => by simp at hx; subst hx; exact sgn_lt h3, fun _ => by simp [word]; exact ⟨by simpa using h1, by simpa using h2⟩, fun h => absurd rfl h, fun a => ?_⟩
        rw [lxA_sign h3, nx_other (by show (3 : Int) ≠ 2; decide)]
        rfl
      · cases h
open Lx in
theorem fst_none {c : Int} {r : List Int} (h : fstOf c r = none) (h59 : c ≠ 59) (hb : Lx.blank c = false) : word c = false ∧ ∀ a, lxA a (c :: r) = .error a := by
  unfold fstOf at h
  split at h
  · cases h
  · rename_i h1
    split at h
    · cases h
    · rename_i h2
      split at h
      · cases h
      · rename_i h3
        have h1 : lower c = false := by simpa using h1
        have h2 : dig c = false := by simpa using h2
        exact ⟨by simp [word, h1, h2], fun a => lxA_bad h59 hb h1 h2 (by simpa using h3)⟩
end Go.Proofs.YtcpbbkpfickfiaaDoor
