/- Two sets side by side in a call's own memory, and what a call on one leaves of both. -/
import Derived.Test.YtlmchkajlecmeaaOsC9
set_option linter.unusedVariables false
set_option linter.unusedSimpArgs false
namespace Go.Proofs.Ytlmchkajlecmeaa
open Go.RowKit
abbrev SetP := World → (Nat → Prop) → Prop
def Stable (P : SetP) : Prop := ∀ (w w' : World) (S T : Nat → Prop), P w S → Fr T w w' → (∀ k, S k → ¬ T k) → P w' S
def cs (g most : Nat) (L : List (List Int)) : SetP := fun w S => CSet w g most L S
def rs (g most : Nat) (L : List (List Int)) : SetP := fun w S => RSet w g most L S
def noSet : SetP := fun _ _ => True
theorem cs_st (g most : Nat) (L : List (List Int)) : Stable (cs g most L) := fun _ _ _ _ h hf hd => CSet.fr h hf hd
theorem rs_st (g most : Nat) (L : List (List Int)) : Stable (rs g most L) := fun _ _ _ _ h hf hd => RSet.fr h hf hd
theorem no_st : Stable noSet := fun _ _ _ _ _ _ _ => trivial
def Low (P : SetP) : Prop := ∀ (w : World) (S : Nat → Prop), P w S → ∀ k, S k → k < w.heap.size
theorem cs_low (g most : Nat) (L : List (List Int)) : Low (cs g most L) := fun w S h => by
  obtain ⟨b, rk, R, vK, vR, KS, RS, h⟩ := h
  exact h.lt
theorem rs_low (g most : Nat) (L : List (List Int)) : Low (rs g most L) := fun w S h => by
  obtain ⟨p, vL, vB, h⟩ := h
  exact h.lt
/-- blocks from a on, below b -/
def Ivl (a b k : Nat) : Prop := a ≤ k ∧ k < b
/-- two sets, in blocks of the call's own, all of Z -/
structure Two (W : World) (Z : Nat → Prop) (w : World) (P Q : SetP) : Prop where
  sets : ∃ Sa Sb, P w Sa ∧ Q w Sb ∧ (∀ k, Sa k → ¬ Sb k) ∧ (∀ k, Sa k → Z k) ∧ (∀ k, Sb k → Z k)
  zone : ∀ k, Z k → Ivl W.heap.size w.heap.size k
  below : Below W.heap.size W w
/-- a slice that lies in no block of Z -/
def Apart (Z : Nat → Prop) (A : Option Addr) : Prop := ∀ ad, A = some ad → ¬ Z ad.block
section
variable {W w w' : World} {Z Z' : Nat → Prop} {P Q P' : SetP}
theorem Two.up (h : Two W Z w P Q) (hP : Stable P) (hQ : Stable Q) (hb : Below w.heap.size w w') : Two W Z w' P Q := by
  obtain ⟨Sa, Sb, h1, h2, h3, h4, h5⟩ := h.sets
  have hf : Fr (fun _ => False) w w' := Fr.of_below hb
  exact ⟨⟨Sa, Sb, hP _ _ _ _ h1 hf (fun _ _ hk => hk), hQ _ _ _ _ h2 hf (fun _ _ hk => hk), h3, h4, h5⟩, fun k hk => ⟨(h.zone k hk).1, Nat.lt_of_lt_of_le (h.zone k hk).2 hb.size⟩, h.below.trans (hb.mono h.below.size)⟩
/-- what else is written leaves the sets as they are -/
theorem Two.frame (h : Two W Z w P Q) (hP : Stable P) (hQ : Stable Q) {T : Nat → Prop} (hf : Fr T w w') (hT : ∀ k, T k → ¬ Z k ∧ W.heap.size ≤ k) : Two W Z w' P Q := by
  obtain ⟨Sa, Sb, h1, h2, h3, h4, h5⟩ := h.sets
  exact ⟨⟨Sa, Sb, hP _ _ _ _ h1 hf (fun k hk ht => (hT k ht).1 (h4 k hk)), hQ _ _ _ _ h2 hf (fun k hk ht => (hT k ht).1 (h5 k hk)), h3, h4, h5⟩, fun k hk => ⟨(h.zone k hk).1, Nat.lt_of_lt_of_le (h.zone k hk).2 hf.size⟩,
    h.below.trans (hf.below (fun k hk => (hT k hk).2) h.below.size)⟩
theorem Two.wider (h : Two W Z w P Q) (hZ : ∀ k, Z k → Z' k) (hz : ∀ k, Z' k → Ivl W.heap.size w.heap.size k) : Two W Z' w P Q := by
  obtain ⟨Sa, Sb, h1, h2, h3, h4, h5⟩ := h.sets
  exact ⟨⟨Sa, Sb, h1, h2, h3, fun k hk => hZ k (h4 k hk), fun k hk => hZ k (h5 k hk)⟩, hz, h.below⟩
/-- all that the call has made, for the zone -/
theorem Two.wide (h : Two W Z w P Q) : Two W (Ivl W.heap.size w.heap.size) w P Q := h.wider h.zone (fun _ hk => hk)
theorem Two.swap (h : Two W Z w P Q) : Two W Z w Q P := by
  obtain ⟨Sa, Sb, h1, h2, h3, h4, h5⟩ := h.sets
  exact ⟨⟨Sb, Sa, h2, h1, fun k hb ha => h3 k ha hb, h5, h4⟩, h.zone, h.below⟩
theorem Two.fresh (h : Two W Z w P Q) {g : Nat} (hg : w.heap.size ≤ g) : Apart Z (some ⟨g, 0, none⟩) := fun ad e hk => by
  injection e with e
  subst e
  have := (h.zone _ hk).2
  simp at this
  omega
theorem Two.old (h : Two W Z w P Q) {A : Option Addr} (hA : ∀ ad, A = some ad → ad.block < W.heap.size) : Apart Z A := fun ad e hk => by
  have := (h.zone _ hk).1
  have := hA ad e
  omega
/-- what a call on the first set leaves -/
def StepPost (W : World) (Z : Nat → Prop) (w : World) (P' Q : SetP) (v : Value) (e : Ending) (w' : World) : Prop := e = .returned v ∧ Two W (fun k => Z k ∨ Ivl w.heap.size w'.heap.size k) w' P' Q ∧ Fr Z w w'
theorem Two.step {Pr : Program} {f : FuncId} {args : Array Value} {v : Value} (h : Two W Z w P Q) (hQ : Stable Q) (hl : Low P') (hc : ∀ S, P w S → (∀ k, S k → Z k) → Calls Pr f args w (SetPost P' S v w)) : Calls Pr f args w (StepPost W Z w P' Q v) := by
  obtain ⟨Sa, Sb, h1, h2, h3, h4, h5⟩ := h.sets
  refine (hc Sa h1 h4).mono ?_
  rintro e w' ⟨rfl, S', q1, q2, q3⟩
  have hsz' := q2.size
  have hbW := h.below.size
  refine ⟨rfl, ⟨⟨S', Sb, q1, hQ _ _ _ _ h2 q2 (fun k hb ha => h3 k ha hb), fun k hk hb => ?_, fun k hk => ?_, fun k hk => .inl (h5 k hk)⟩, fun k hk => ?_, ?_⟩, q2.wider (fun k _ hk => h4 k hk)⟩
  · rcases q3 k hk with h6 | h6
    · exact h3 k h6 hb
    · have := (h.zone k (h5 k hb)).2; omega
  · rcases q3 k hk with h6 | h6
    · exact .inl (h4 k h6)
    · exact .inr ⟨h6, hl _ _ q1 k hk⟩
  · rcases hk with hk | hk
    · exact ⟨(h.zone k hk).1, Nat.lt_of_lt_of_le (h.zone k hk).2 hsz'⟩
    · exact ⟨by have := hk.1; omega, hk.2⟩
  · exact h.below.trans (q2.below (fun k hk => (h.zone k (h4 k hk)).1) h.below.size)
end
section
variable {W w : World} {Z : Nat → Prop} {g most : Nat} {L : List (List Int)} {Q : SetP} {A : Option Addr} {n c : Nat} {key : List Int}
theorem Two.add (h : Two W Z w (cs g most L) Q) (hQ : Stable Q) (hn : n = key.length) (hk : Rd w w.heap.size A (key.map (Value.int .u8))) (hB : Cd.isB key) (hs : n ≤ 140737488351232) (hA : Apart Z A) :
    Calls Try.prog 9 #[.pointer (some ⟨g, 0, none⟩), .slice A n c] w (StepPost W Z w (cs g most (Os.put most L key)) Q (ansV most L key)) :=
  h.step hQ (cs_low _ _ _) (fun S hS hI => cadd_any g most L S A n c key w hS hn hk hB hs (fun ad _ e hS => hA ad e (hI _ hS)))
theorem Two.rank (h : Two W Z w (cs g most L) Q) (hQ : Stable Q) (hn : n = key.length) (hk : Rd w w.heap.size A (key.map (Value.int .u8))) (hB : Cd.isB key) (hs : n ≤ 140737488351232) (hA : Apart Z A) :
    Calls Try.prog 14 #[.pointer (some ⟨g, 0, none⟩), .slice A n c] w (StepPost W Z w (cs g most L) Q (.int .i64 (Os.rk L key : Nat))) :=
  h.step hQ (cs_low _ _ _) (fun S hS hI => crank_any g most L S A n c key w hS hn hk hB hs (fun ad _ e hS => hA ad e (hI _ hS)))
theorem Two.has (h : Two W Z w (cs g most L) Q) (hn : n = key.length) (hk : Rd w w.heap.size A (key.map (Value.int .u8))) (hB : Cd.isB key) (hs : n ≤ 140737488351232) :
    Calls Try.prog 12 #[.pointer (some ⟨g, 0, none⟩), .slice A n c] w (RetQ (.bool (Os.idx L key).isSome) w) := by
  obtain ⟨Sa, Sb, h1, _⟩ := h.sets
  exact chas_any g most L Sa A n c key w h1 hn hk hB hs
theorem Two.len (h : Two W Z w (cs g most L) Q) : Calls Try.prog 10 #[.pointer (some ⟨g, 0, none⟩)] w (Ret (.int .i64 (L.length : Int)) w) := by
  obtain ⟨Sa, Sb, h1, _⟩ := h.sets
  exact clen_any g most L Sa w h1
theorem Two.at_ (h : Two W Z w (cs g most L) Q) (i : Int) : Calls Try.prog 11 #[.pointer (some ⟨g, 0, none⟩), .int .i64 i] w (AtPost L i w) := by
  obtain ⟨Sa, Sb, h1, _⟩ := h.sets
  exact cat_any g most L Sa i w h1
theorem Two.addR (h : Two W Z w (cs g most L) Q) (hQ : Stable Q) (hn : n = key.length) (hk : Rd w w.heap.size A (key.map (Value.int .u8))) (hB : Cd.isB key) (hs : n ≤ 140737488351232) (hA : 0 < key.length → Apart Z A) :
    Calls Try.prog 9 #[.pointer (some ⟨g, 0, none⟩), .slice A n c] w (StepPost W Z w (cs g most (Os.put most L key)) Q (ansV most L key)) :=
  h.step hQ (cs_low _ _ _) (fun S hS hI => cadd_any g most L S A n c key w hS hn hk hB hs (fun ad hp e hS => hA hp ad e (hI _ hS)))
theorem Two.rankR (h : Two W Z w (cs g most L) Q) (hQ : Stable Q) (hn : n = key.length) (hk : Rd w w.heap.size A (key.map (Value.int .u8))) (hB : Cd.isB key) (hs : n ≤ 140737488351232) (hA : 0 < key.length → Apart Z A) :
    Calls Try.prog 14 #[.pointer (some ⟨g, 0, none⟩), .slice A n c] w (StepPost W Z w (cs g most L) Q (.int .i64 (Os.rk L key : Nat))) :=
  h.step hQ (cs_low _ _ _) (fun S hS hI => crank_any g most L S A n c key w hS hn hk hB hs (fun ad hp e hS => hA hp ad e (hI _ hS)))
/-- a row that came in lies apart -/
theorem Two.came {P Q : SetP} (h : Two W Z w P Q) (hk : Rd W W.heap.size A (key.map (Value.int .u8))) : 0 < key.length → Apart Z A := fun hp ad e hz => by
  obtain ⟨ad', e', hb, _⟩ := hk (by simpa using hp)
  rw [e] at e'
  cases e'
  have := (h.zone _ hz).1
  omega
/-- what New leaves -/
def NewPost (W : World) (most : Nat) (Q : SetP) (e : Ending) (w' : World) : Prop := ∃ g, e = .returned (.pointer (some ⟨g, 0, none⟩)) ∧ Two W (Ivl W.heap.size w'.heap.size) w' (cs g most []) Q
theorem new_one (m : Int) (W w : World) (hb : Below W.heap.size W w) : Calls Try.prog 7 #[.int .i64 m] w (NewPost W (mostOf m) noSet) := by
  refine (cnew_any m w).mono ?_
  rintro e w' ⟨g, rfl, ⟨S, hS, hS2⟩, hb2⟩
  refine ⟨g, rfl, ⟨⟨S, fun _ => False, hS, trivial, fun _ _ h => h, fun k hk => ⟨by have := hS2 k hk; have := hb.size; omega, cs_low _ _ _ _ _ hS k hk⟩, fun _ h => h.elim⟩, fun _ hk => hk, hb.trans (hb2.mono hb.size)⟩⟩
/-- a set made beside one that is there: it comes first -/
theorem Two.new (h : Two W Z w noSet Q) (hQ : Stable Q) (m : Int) : Calls Try.prog 7 #[.int .i64 m] w (NewPost W (mostOf m) Q) := by
  obtain ⟨Sa, Sb, _, h2, _, _, h5⟩ := h.sets
  have hb := h.below
  refine (cnew_any m w).mono ?_
  rintro e w' ⟨g, rfl, ⟨S, hS, hS2⟩, hb2⟩
  have hz := hb2.size
  refine ⟨g, rfl, ⟨⟨S, Sb, hS, hQ _ _ _ _ h2 (Fr.of_below (S := fun _ => False) hb2) (fun _ _ h => h), fun k hk hk2 => ?_, fun k hk => ⟨by have := hS2 k hk; have := hb.size; omega, cs_low _ _ _ _ _ hS k hk⟩, fun k hk => ?_⟩, fun _ hk => hk, hb.trans (hb2.mono hb.size)⟩⟩
  · have := hS2 k hk
    have := (h.zone k (h5 k hk2)).2
    omega
  · have := h.zone k (h5 k hk)
    exact ⟨this.1, by have := this.2; omega⟩
end
end Go.Proofs.Ytlmchkajlecmeaa
