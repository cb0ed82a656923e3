/- Signs read in memory. -/
import Derived.Test.YtcpbbkpfickfiaaDoorLxLnG
set_option linter.unusedVariables false
set_option linter.unusedSimpArgs false
namespace Go.Proofs.YtcpbbkpfickfiaaDoor
open Go.RowKit
/-- block g reads as those signs -/
def TR (w : World) (g : Nat) (ts : List Lx.Tk) : Prop := ∀ j t, ts[j]? = some t → g < w.heap.size ∧ w.cell? ⟨g, j * 4, none⟩ = some (.int .i64 t.kind) ∧ w.cell? ⟨g, j * 4 + 1, none⟩ = some (.string (strOfNums t.text)) ∧
  w.cell? ⟨g, j * 4 + 2, none⟩ = some (.int .i64 t.n) ∧ w.cell? ⟨g, j * 4 + 3, none⟩ = some (.int .i64 (t.at_ : Int))
theorem TR.below {w w' : World} {g : Nat} {ts : List Lx.Tk} (h : TR w g ts) (hb : Below w.heap.size w w') : TR w' g ts := fun j t ht => by
  obtain ⟨h0, h1, h2, h3, h4⟩ := h j t ht
  exact ⟨Nat.lt_of_lt_of_le h0 hb.size, (hb.cell h0).trans h1, (hb.cell h0).trans h2, (hb.cell h0).trans h3, (hb.cell h0).trans h4⟩
theorem own_TR {w : World} {B n : Nat} {v : Value} {ts : List Lx.Tk} (h : w.ownsRow B 58 4 v n (flat ts)) : ∃ g A cap, v = .slice A ts.length cap ∧ (0 < ts.length → A = some ⟨g, 0, none⟩) ∧ ts.length ≤ cap ∧ TR w g ts := by
  have hl : n = ts.length := by
    have := h.1
    rw [flat_len] at this
    omega
  subst hl
  have h' := h
  rcases h.2 with ⟨rfl, hn⟩ | ⟨g, cap, cur, rfl, hb, hg, hnc, hm, hs, ht⟩
  · have h0 : ts = [] := List.eq_nil_of_length_eq_zero hn
    subst h0
    exact ⟨0, none, 0, rfl, fun h => by simp at h, by simp, fun j t ht => by simp at ht⟩
  · have hlt := (Array.getElem?_eq_some_iff.1 hg).1
    refine ⟨g, _, cap, rfl, fun _ => rfl, hnc, fun j t htj => ⟨hlt, ?_⟩⟩
    have hj : j < ts.length := (List.getElem?_eq_some_iff.1 htj).1
    have hc : ∀ k, k < 4 → w.cell? ⟨g, j * 4 + k, none⟩ = (tokC t)[k]? := fun k hk => by
      rw [h'.cellAt (j * 4 + k) (by omega), flat_at ts j t k htj hk]
    exact ⟨hc 0 (by omega), hc 1 (by omega), hc 2 (by omega), hc 3 (by omega)⟩
/-- a line is read -/
theorem LineR.okT {ts : List Lx.Tk} {w w' : World} {e : Ending} (h : LineR (.ok ts) w e w') : ∃ g A cap, e = .returned (.tuple #[.slice A ts.length cap, .int .i64 0, .bool true]) ∧ (0 < ts.length → A = some ⟨g, 0, none⟩) ∧ ts.length ≤ cap ∧ TR w' g ts ∧ Below w.heap.size w w' := by
  obtain ⟨v, rfl, hown, hb⟩ := h
  obtain ⟨g, A, cap, rfl, h1, h2, h3⟩ := own_TR hown
  exact ⟨g, A, cap, rfl, h1, h2, h3, hb⟩
theorem LineR.errT {a : Nat} {w w' : World} {e : Ending} (h : LineR (.error a) w e w') : e = .returned (.tuple #[.slice none 0 0, .int .i64 (a : Int), .bool false]) ∧ Below w.heap.size w w' := h
end Go.Proofs.YtcpbbkpfickfiaaDoor
