/- The document's set beside the program's: what a call on it leaves of both. -/
import Derived.Test.YtlmchkajlecmeaaOsLaw
import Derived.Test.YtlmchkajlecmeaaOsRAdd
set_option linter.unusedVariables false
set_option linter.unusedSimpArgs false
namespace Go.Proofs.Ytlmchkajlecmeaa
open Go.RowKit
section
variable {W w : World} {Z : Nat → Prop} {g most : Nat} {L : List (List Int)} {P Q : SetP} {A : Option Addr} {n c : Nat} {key : List Int}
theorem Two.rfind (h : Two W Z w P (rs g most L)) (hn : n = key.length) (hk : Rd w w.heap.size A (key.map (Value.int .u8))) (hB : Cd.isB key) (hs : n ≤ 1000000) :
    Calls Try.prog 16 #[.pointer (some ⟨g, 0, none⟩), .slice A n c] w (RetB (fnd L key) w) := by
  obtain ⟨Sa, Sb, _, ⟨p, vL, vB, h2⟩, _⟩ := h.sets
  exact rfind_any g most L p vL vB Sb A n c key w h2 hn hk hB hs
theorem Two.rrank (h : Two W Z w P (rs g most L)) (hn : n = key.length) (hk : Rd w w.heap.size A (key.map (Value.int .u8))) (hB : Cd.isB key) (hs : n ≤ 1000000) :
    Calls Try.prog 17 #[.pointer (some ⟨g, 0, none⟩), .slice A n c] w (RetB (.int .i64 (Os.rk L key : Nat)) w) := by
  obtain ⟨Sa, Sb, _, h2, _⟩ := h.sets
  exact rrank_any g most L Sb A n c key w h2 hn hk hB hs
theorem Two.radd (h : Two W Z w (rs g most L) Q) (hQ : Stable Q) (hn : n = key.length) (hk : Rd w w.heap.size A (key.map (Value.int .u8))) (hB : Cd.isB key) (hs : n ≤ 1000000) (hm : most ≤ 1000000) (hA : 0 < key.length → Apart Z A) :
    Calls Try.prog 18 #[.pointer (some ⟨g, 0, none⟩), .slice A n c] w (StepPost W Z w (rs g most (Os.put most L key)) Q (ansV most L key)) :=
  h.step hQ (rs_low _ _ _) (fun S hS hI => radd_any g most L S A n c key w hS hn hk hB hs hm (fun ad hp e hS => hA hp ad e (hI _ hS)))
/-- the row of keys in the document's set -/
theorem Two.rcell (h : Two W Z w P (rs g most L)) : ∃ (AL : Option Addr) (cL : Nat), w.cell? ⟨g, 1, none⟩ = some (.slice AL L.length cL) ∧ L.length ≤ cL ∧ ∀ i, i < L.length → ∃ ad, AL = some ad ∧ w.cell? (ad.add i) = some (.string (strOfNums (Os.keyAt L i))) := by
  obtain ⟨Sa, Sb, _, ⟨p, vL, vB, h2⟩, _⟩ := h.sets
  obtain ⟨AL, cL, e1, h1, _, _, hr⟩ := own_slice h2.rowL
  refine ⟨AL, cL, by rw [← e1]; exact h2.cell 1, h1, fun i hi => ?_⟩
  obtain ⟨ad, e, _, hc⟩ := hr (by simp; omega)
  refine ⟨ad, e, hc i _ ?_⟩
  simp [Os.keyAt, List.getD, hi, strV]
/-- the document's set, the row of its keys told -/
def rsx (g most : Nat) (L : List (List Int)) (AL : Option Addr) (cL : Nat) : SetP := fun w S => ∃ p vB, SetIs w 45 9 3 g most L p (.slice AL L.length cL) vB S
theorem rsx_st (g most : Nat) (L : List (List Int)) (AL : Option Addr) (cL : Nat) : Stable (rsx g most L AL cL) := fun _ _ _ _ h hf hd => by
  obtain ⟨p, vB, h⟩ := h
  exact ⟨p, vB, h.fr hf hd⟩
theorem Two.fix (h : Two W Z w P (rs g most L)) : ∃ AL cL, L.length ≤ cL ∧ Two W Z w P (rsx g most L AL cL) := by
  obtain ⟨Sa, Sb, h1, ⟨p, vL, vB, h2⟩, h3⟩ := h.sets
  obtain ⟨AL, cL, e1, hc, _, _, hr⟩ := own_slice h2.rowL
  exact ⟨AL, cL, hc, ⟨⟨Sa, Sb, h1, ⟨p, vB, by rw [e1] at h2; exact h2⟩, h3⟩, h.zone, h.below⟩⟩
theorem Two.unfix {AL : Option Addr} {cL : Nat} (h : Two W Z w P (rsx g most L AL cL)) : Two W Z w P (rs g most L) := by
  obtain ⟨Sa, Sb, h1, ⟨p, vB, h2⟩, h3⟩ := h.sets
  exact ⟨⟨Sa, Sb, h1, ⟨p, _, vB, h2⟩, h3⟩, h.zone, h.below⟩
theorem Two.xcell {AL : Option Addr} {cL : Nat} (h : Two W Z w P (rsx g most L AL cL)) : w.cell? ⟨g, 1, none⟩ = some (.slice AL L.length cL) ∧ ∀ i, i < L.length → ∃ ad, AL = some ad ∧ w.cell? (ad.add i) = some (.string (strOfNums (Os.keyAt L i))) := by
  obtain ⟨Sa, Sb, h1, ⟨p, vB, h2⟩, h3⟩ := h.sets
  obtain ⟨A', c', e1, hc, _, _, hr⟩ := own_slice h2.rowL
  simp only [Value.slice.injEq, true_and] at e1
  obtain ⟨rfl, rfl⟩ := e1
  refine ⟨h2.cell 1, fun i hi => ?_⟩
  obtain ⟨ad, e, _, hc⟩ := hr (by simp; omega)
  refine ⟨ad, e, hc i _ ?_⟩
  simp [Os.keyAt, List.getD, hi, strV]
/-- a new one beside the program's -/
theorem Two.rnew (h : Two W Z w P noSet) (hP : Stable P) (m : Int) : Calls Try.prog 15 #[.int .i64 m] w fun e w' => ∃ g, e = .returned (.pointer (some ⟨g, 0, none⟩)) ∧ Two W (Ivl W.heap.size w'.heap.size) w' P (rs g (mostOf m) []) := by
  obtain ⟨Sa, Sb, h1, _, _, h4, _⟩ := h.sets
  have hb := h.below
  refine (rnew_any m w).mono ?_
  rintro e w' ⟨rfl, rfl⟩
  have hset := SetIs.new w 45 9 3 (mostOf m)
  refine ⟨_, rfl, ⟨⟨Sa, fun k => k = w.heap.size, hP _ _ _ _ h1 (Fr.of_below (S := fun _ => False) (upA (up0 w) _)) (fun _ _ h => h), ⟨_, _, _, hset⟩, fun k hk e => ?_, fun k hk => ?_, fun k hk => ?_⟩, fun _ hk => hk, upA' hb.size _ |> fun x => hb.trans x⟩⟩
  · have := (h.zone k (h4 k hk)).2; omega
  · have := h.zone k (h4 k hk)
    exact ⟨this.1, by simp; have := this.2; omega⟩
  · subst hk
    exact ⟨hb.size, by simp⟩
end
end Go.Proofs.Ytlmchkajlecmeaa
