/- Plain facts of a line read sign by sign; what a call that reads a line answers. -/
import Derived.Test.YtfjeehhglacppaaDoorLxFirst
set_option linter.unusedVariables false
set_option linter.unusedSimpArgs false
namespace Go.Proofs.YtfjeehhglacppaaDoor
open Go.RowKit
namespace Lx
def glue : List Tk → Except Nat (List Tk) → Except Nat (List Tk)
  | ts, .ok l => .ok (ts ++ l)
  | _, .error e => .error e
theorem glue_nil (R : Except Nat (List Tk)) : glue [] R = R := by cases R <;> rfl
theorem glue_cons (ts : List Tk) (t : Tk) (R : Except Nat (List Tk)) : glue ts (cons t R) = glue (ts ++ [t]) R := by cases R <;> simp [glue, cons]
/-- what comes behind a sign of that kind -/
def nx (k : Int) (a : Nat) (r : List Int) : Except Nat (List Tk) := if k = 2 ∧ stops r = false then .error a else lxA a r
theorem nx_stop {k : Int} {a : Nat} {r : List Int} (h : stops r = true) : nx k a r = lxA a r := by
  unfold nx
  rw [if_neg (by simp [h])]
theorem nx_other {k : Int} {a : Nat} {r : List Int} (h : k ≠ 2) : nx k a r = lxA a r := by
  unfold nx
  rw [if_neg (by simp [h])]
theorem nx_cut {a : Nat} {r : List Int} (h : stops r = false) : nx 2 a r = .error a := by
  unfold nx
  rw [if_pos ⟨rfl, h⟩]
end Lx
open Lx in
theorem fst_step {c : Int} {r : List Int} {t : Tk} (h : fstOf c r = some t) : ∃ q, c :: r = t.text ++ q ∧ 0 < t.text.length ∧ (∀ x ∈ t.text, 0 ≤ x ∧ x < 128) ∧ (t.kind = 3 → word c = false) ∧ (t.kind ≠ 3 → word c = true) ∧ ∀ a, lxA a (c :: r) = cons ⟨t.kind, t.text, t.n, a⟩ (nx t.kind (a + t.text.length) q) := by
  unfold fstOf at h
  split at h
  · rename_i h1
    injection h with h
    subst h
    obtain ⟨q, hq⟩ := List.takeWhile_prefix word (l := c :: r)
    have hdr : (c :: r).drop ((c :: r).takeWhile word).length = q := by
      have := List.drop_left (l₁ := (c :: r).takeWhile word) (l₂ := q)
      rwa [hq] at this
    refine ⟨q, hq.symm, name_pos h1, fun x hx => word_lt (takeWhile_all x hx), fun h => by simp at h, fun _ => by simp [word, h1], fun a => ?_⟩
    rw [lxA_name h1, hdr, nx_other (by show (1 : Int) ≠ 2; decide)]
  · rename_i h1
    split at h
    · rename_i h2
      injection h with h
      subst h
      have hpre : digs (c :: r) <+: c :: r := by
        rw [digs_cons]
        split
        · exact ⟨r, rfl⟩
        · exact (List.takeWhile_prefix _).trans (List.take_prefix _ _)
      obtain ⟨q, hq⟩ := hpre
      have hdr : (c :: r).drop (digs (c :: r)).length = q := by
        have := List.drop_left (l₁ := digs (c :: r)) (l₂ := q)
        rwa [hq] at this
      refine ⟨q, hq.symm, digs_pos h2, fun x hx => dig_lt (digs_dig h2 x hx), fun h => by simp at h, fun _ => by simp [word, h2], fun a => ?_⟩
      cases hs : stops q
      · rw [lxA_nums h2 (by rw [hdr]; exact hs)]
        show _ = cons _ (nx 2 _ q)
        rw [nx_cut hs]
        rfl
      · rw [lxA_num h2 (by rw [hdr]; exact hs), hdr, nx_stop hs]
    · rename_i h2
      split at h
      · rename_i h3
        injection h with h
        subst h
        refine ⟨r, rfl, by simp, fun x hx => by simp at hx; subst hx; exact sgn_lt h3, fun _ => by simp [word]; exact ⟨by simpa using h1, by simpa using h2⟩, fun h => absurd rfl h, fun a => ?_⟩
        rw [lxA_sign h3, nx_other (by show (3 : Int) ≠ 2; decide)]
        rfl
      · cases h
open Lx in
theorem fst_none {c : Int} {r : List Int} (h : fstOf c r = none) (h59 : c ≠ 59) (hb : Lx.blank c = false) : word c = false ∧ ∀ a, lxA a (c :: r) = .error a := by
  unfold fstOf at h
  split at h
  · cases h
  · rename_i h1
    split at h
    · cases h
    · rename_i h2
      split at h
      · cases h
      · rename_i h3
        have h1 : lower c = false := by simpa using h1
        have h2 : dig c = false := by simpa using h2
        exact ⟨by simp [word, h1, h2], fun a => lxA_bad h59 hb h1 h2 (by simpa using h3)⟩
/-- what a call that reads a line answers -/
def LineR (R : Except Nat (List Lx.Tk)) (w : World) (e : Ending) (w' : World) : Prop := match R with
  | .ok ts => ∃ v, e = .returned (.tuple #[v, .int .i64 0, .bool true]) ∧ w'.ownsRow w.heap.size 31 4 v ts.length (flat ts) ∧ Below w.heap.size w w'
  | .error a => e = .returned (.tuple #[.slice none 0 0, .int .i64 (a : Int), .bool false]) ∧ Below w.heap.size w w'
theorem own_keepb {w w' : World} {B n m : Nat} {e : TypeId} {v : Value} {xs : List Value} (h : w.ownsRow B e m v n xs) (hk : ∀ k, B ≤ k → w'.heap[k]? = w.heap[k]?) : w'.ownsRow B e m v n xs := by
  refine ⟨h.1, ?_⟩
  rcases h.2 with h2 | ⟨g, cap, cur, hv, hg, hh, r⟩
  · exact .inl h2
  · exact .inr ⟨g, cap, cur, hv, hg, (hk g hg).trans hh, r⟩
theorem own_belowT {w w' : World} {B n m : Nat} {e : TypeId} {v : Value} {xs : List Value} (h : w.ownsRow B e m v n xs) (hb : Below w.heap.size w w') : w'.ownsRow B e m v n xs := by
  refine ⟨h.1, ?_⟩
  rcases h.2 with h2 | ⟨g, cap, cur, hv, hg, hh, r⟩
  · exact .inl h2
  · have hlt : g < w.heap.size := (Array.getElem?_eq_some_iff.1 hh).1
    exact .inr ⟨g, cap, cur, hv, hg, (hb.block g hlt).trans hh, r⟩
theorem own_lower {w : World} {B B' n m : Nat} {e : TypeId} {v : Value} {xs : List Value} (h : w.ownsRow B e m v n xs) (hB : B' ≤ B) : w.ownsRow B' e m v n xs := by
  refine ⟨h.1, ?_⟩
  rcases h.2 with h2 | ⟨g, cap, cur, hv, hg, r⟩
  · exact .inl h2
  · exact .inr ⟨g, cap, cur, hv, by omega, r⟩
theorem infoTk : (Tryd.prog.info? 31).map (fun i => (i.zero, i.size, i.bytes)) = some (some (.agg #[.int .i64 0, .string ⟨#[]⟩, .int .i64 0, .int .i64 0]), 4, 40) := by kernel_rfl
theorem wrap_nn (a b : Nat) (ha : a ≤ 1000000) (hb : b ≤ 1000000) : Value.int .i64 (IntKind.i64.wrap ((a : Int) + (b : Int))) = .int .i64 ((a + b : Nat) : Int) := by
  have : IntKind.i64.wrap ((a : Int) + (b : Int)) = ((a + b : Nat) : Int) := by rw [IntKind.wrap_i64]; omega
  rw [this]
end Go.Proofs.YtfjeehhglacppaaDoor
