/- The contract of the program's own Add. -/
import Derived.Test.YtlmchkajlecmeaaOsC2
import Derived.Test.YtlmchkajlecmeaaHeldS
import Derived.Deep.AppendLies
set_option linter.unusedVariables false
set_option linter.unusedSimpArgs false
namespace Go.Proofs.Ytlmchkajlecmeaa
open Go.RowKit
theorem own_ne_map {w : World} {e : TypeId} {v : Value} {n b : Nat} {xs : List Value} {es : Array MapEntry} {ck : Nat} (h : w.ownsRow 0 e 1 v n xs) (hb : w.heap[b]? = some (.map es ck)) : v.ownBlock ≠ some b := fun e1 => by
  rcases h.2 with ⟨rfl, _⟩ | ⟨g, cap, cur, rfl, _, hh, _⟩
  · simp [Value.ownBlock] at e1
  · simp [Value.ownBlock] at e1
    subst e1
    rw [hh] at hb; cases hb
theorem own_ne_cells {w : World} {e t : TypeId} {v : Value} {n b : Nat} {xs : List Value} {cs : Array Value} {fr : Nat × Nat} (h : w.ownsRow 0 e 1 v n xs) (hb : w.heap[b]? = some (.cells cs t fr)) (hne : e ≠ t) : v.ownBlock ≠ some b := fun e1 => by
  rcases h.2 with ⟨rfl, _⟩ | ⟨g, cap, cur, rfl, _, hh, _⟩
  · simp [Value.ownBlock] at e1
  · simp [Value.ownBlock] at e1
    subst e1
    rw [hh] at hb
    injection hb with hb
    injection hb with _ h2 _
    exact hne h2
theorem own_ne_own {w : World} {e t : TypeId} {v v' : Value} {n n' k : Nat} {xs xs' : List Value} (h : w.ownsRow 0 e 1 v n xs) (h' : w.ownsRow 0 t 1 v' n' xs') (hne : e ≠ t) (hk : v'.ownBlock = some k) : v.ownBlock ≠ some k := by
  rcases h'.2 with ⟨rfl, _⟩ | ⟨g, cap, cur, rfl, _, hh, _⟩
  · simp [Value.ownBlock] at hk
  · simp [Value.ownBlock] at hk
    subst hk
    exact own_ne_cells h hh hne
theorem Fr.setCell {w : World} {p : Addr} (u : Value) : Fr (fun k => k = p.block) w (w.setCell p u) := ⟨rfl, rfl, rfl, by simp, fun k _ hn => Below.heap_setCell _ _ _ _ hn⟩
theorem Fr.wider {S S' : Nat → Prop} {w w' : World} (h : Fr S w w') (hs : ∀ k, k < w.heap.size → S k → S' k) : Fr S' w w' := ⟨h.os, h.tape, h.output, h.size, fun k hk hn => h.block k hk (fun hS => hn (hs k hk hS))⟩
section
variable {w w' : World} {g b most rk m : Nat} {L : List (List Int)} {R : List (List Nat)} {vK vR : Value} {KS RS : List Value} {S T : Nat → Prop}
theorem CsIs.ne (h : CsIs w g b most rk m L R vK vR KS RS S) : g ≠ b ∧ vK.ownBlock ≠ some b ∧ vR.ownBlock ≠ some b ∧ vK.ownBlock ≠ some g ∧ vR.ownBlock ≠ some g ∧ (∀ k, vK.ownBlock = some k → vR.ownBlock ≠ some k) := by
  obtain ⟨D, ⟨es, ck, hb, _⟩, _⟩ := h.map
  refine ⟨fun e => ?_, own_ne_map h.rowK hb, own_ne_map h.rowR hb, own_ne_cells h.rowK h.head (by decide), own_ne_cells h.rowR h.head (by decide), fun k hk => own_ne_own h.rowR h.rowK (by decide) hk⟩
  have := h.head
  rw [e, hb] at this; cases this
/-- the set behind Add: the key's slice appended to the keys, its place stored in the map -/
theorem CsIs.added (h : CsIs w g b most rk m L R vK vR KS RS S) {key : List Int} (hB : Cd.isB key) (hl : key.length ≤ 140737488351232) (hn : Os.idx L key = none) (hlt : L.length < most) {A1 : Option Addr} {c1 gk cap : Nat} {w3 w5 : World} {D : DataW Unit}
    (hc1 : key.length ≤ c1) (hm1 : c1 ≤ maxLen) (hr1 : Rd w3 w3.heap.size A1 (key.map (Value.int .u8))) (hb1 : ∀ ad, 0 < key.length → A1 = some ad → w.heap.size ≤ ad.block ∧ ad.block ≠ gk)
    (hown : w3.ownsRow 0 25 1 (.slice (some ⟨gk, 0, none⟩) (L.length + 1) cap) (L.length + 1) (KS ++ [.slice A1 key.length c1])) (hf3 : Fr (fun k => vK.ownBlock = some k) w w3) (hloc : vK.ownBlock = some gk ∨ w.heap.size ≤ gk)
    (hf5 : Fr (fun k => k = b) (w3.setCell ⟨g, 1, none⟩ (.slice (some ⟨gk, 0, none⟩) (L.length + 1) cap)) w5) (hmap : w5.ownsMap Try.prog 9 (plainElem Try.prog 3) b (L.length + 1) D) (hD : MapOk D (L ++ [key])) :
    CsIs w5 g b most rk m (L ++ [key]) R (.slice (some ⟨gk, 0, none⟩) (L.length + 1) cap) vR (KS ++ [.slice A1 key.length c1]) RS (fun k => S k ∨ (w.heap.size ≤ k ∧ k < w5.heap.size)) ∧ Fr S w w5 := by
  obtain ⟨n1, n2, n3, n4, n5, n6⟩ := h.ne
  have hgw := h.glt
  have hbw := h.lt b (h.foot b (.inr (.inl rfl)))
  have hs3 := hf3.size
  have hs5 := hf5.size
  have hgk : gk < w3.heap.size := (hown.lt gk rfl).2
  simp only [World.size_setCell] at hs5
  have hgk1 : gk ≠ g := fun e => by subst e; rcases hloc with h1 | h1; exact n4 h1; omega
  have hgk2 : gk ≠ b := fun e => by subst e; rcases hloc with h1 | h1; exact n2 h1; omega
  have hRlt := fun k hk => h.lt k (h.foot k (.inr (.inr (.inr hk))))
  have hgk3 : vR.ownBlock ≠ some gk := fun e => by
    rcases hloc with h1 | h1
    · exact n6 gk h1 e
    · have := hRlt gk e; omega
  have hf4 : Fr (fun k => k = g ∨ vK.ownBlock = some k) w (w3.setCell ⟨g, 1, none⟩ (.slice (some ⟨gk, 0, none⟩) (L.length + 1) cap)) := (hf3.wider (S' := fun k => k = g ∨ vK.ownBlock = some k) (fun k _ hk => .inr hk)).trans (Fr.setCell _) (fun x hx => .inl (.inl hx))
  have hfa : Fr (fun k => k = g ∨ k = b ∨ vK.ownBlock = some k) w w5 := (hf4.wider (S' := fun k => k = g ∨ k = b ∨ vK.ownBlock = some k) (fun k _ hk => hk.elim .inl (fun h => .inr (.inr h)))).trans hf5 (fun x hx => .inl (.inr (.inl hx)))
  have hg3 : w3.heap[g]? = some (.cells #[.int .i64 most, vK, .map (some b), .int .i64 rk, vR] 50 (0, 0)) := (hf3.block g hgw (fun e => n4 e)).trans h.head
  have hg4 := heap_setCell_same w3 g 1 _ _ (.slice (some ⟨gk, 0, none⟩) (L.length + 1) cap) hg3
  have hWr : ∀ k, S k → ¬ Wr g b vK vR k → ¬ (k = g ∨ k = b ∨ vK.ownBlock = some k) := fun k _ hw hk => hw (by rcases hk with hk | hk | hk; exact .inl hk; exact .inr (.inl hk); exact .inr (.inr (.inl hk)))
  have hS5 : ∀ k, S k → k < w5.heap.size := fun k hk => by have := h.lt k hk; omega
  refine ⟨⟨?_, ?_, ?_, ⟨D, by simpa using hmap, hD⟩, ?_, ?_, ?_, ?_, h.runs.snoc_key key, Os.nodup_snoc h.nodup hn, ?_, ?_, h.most, ?_⟩, ?_⟩
  · rw [hf5.block g (by simp; omega) n1, hg4]
    simp
  · have h1 : (w3.setCell ⟨g, 1, none⟩ (.slice (some ⟨gk, 0, none⟩) (L.length + 1) cap)).ownsRow 0 25 1 (.slice (some ⟨gk, 0, none⟩) (L.length + 1) cap) (L.length + 1) (KS ++ [.slice A1 key.length c1]) :=
      own_fr hown (Fr.setCell _) (fun k hk => by simp [Value.ownBlock] at hk; subst hk; exact hgk1)
    have h2 := own_fr h1 hf5 (fun k hk => by simp [Value.ownBlock] at hk; subst hk; exact hgk2)
    simpa using h2
  · have hk1 := h.keys.fr hfa hWr
    have hk2 : Segs w5 (fun k => S k ∨ (w.heap.size ≤ k ∧ k < w5.heap.size)) (Wr g b (.slice (some ⟨gk, 0, none⟩) (L.length + 1) cap) vR) .u8 L KS :=
      ⟨hk1.1, fun i z hz => by
        obtain ⟨A, c, e1, e2, e3, e4, e5⟩ := hk1.2 i z hz
        refine ⟨A, c, e1, e2, e3, e4, fun ad hn e => ?_⟩
        obtain ⟨f1, f2⟩ := e5 ad hn e
        refine ⟨.inl f1, fun hw => ?_⟩
        rcases hw with hw | hw | hw | hw
        · exact f2 (.inl hw)
        · exact f2 (.inr (.inl hw))
        · simp [Value.ownBlock] at hw
          rcases hloc with h1 | h1
          · exact f2 (.inr (.inr (.inl (by rw [h1, hw]))))
          · have := h.lt _ f1; omega
        · exact f2 (.inr (.inr (.inr hw)))⟩
    have hr5 : Rd w5 w5.heap.size A1 (key.map (Value.int .u8)) := by
      refine (hr1.fr0 (Fr.setCell (p := ⟨g, 1, none⟩) _) (fun ad hn e => ?_)).fr0 hf5 (fun ad hn e => ?_)
      · have := (hb1 ad (by simpa using hn) e).1
        simp; omega
      · have := (hb1 ad (by simpa using hn) e).1
        omega
    refine hk2.snoc hc1 hm1 hr5 (fun ad hn e => ?_)
    obtain ⟨f1, f2⟩ := hb1 ad hn e
    obtain ⟨ad', e', hlt', _⟩ := hr1 (by simpa using hn)
    rw [e] at e'
    cases e'
    refine ⟨.inr ⟨f1, by omega⟩, fun hw => ?_⟩
    rcases hw with hw | hw | hw | hw
    · omega
    · omega
    · simp [Value.ownBlock] at hw
      exact f2 hw.symm
    · have := hRlt _ hw; omega
  · exact own_fr (own_fr h.rowR hf4 (fun k hk => by
      rintro (e | e)
      · subst e; exact n5 hk
      · exact n6 k e hk)) hf5 (fun k hk e => by subst e; exact n3 hk)
  · have hk1 := h.segs.fr hfa hWr
    exact ⟨hk1.1, fun i z hz => by
        obtain ⟨A, c, e1, e2, e3, e4, e5⟩ := hk1.2 i z hz
        refine ⟨A, c, e1, e2, e3, e4, fun ad hn e => ?_⟩
        obtain ⟨f1, f2⟩ := e5 ad hn e
        refine ⟨.inl f1, fun hw => ?_⟩
        rcases hw with hw | hw | hw | hw
        · exact f2 (.inl hw)
        · exact f2 (.inr (.inl hw))
        · simp [Value.ownBlock] at hw
          rcases hloc with h1 | h1
          · exact f2 (.inr (.inr (.inl (by rw [h1, hw]))))
          · have := h.lt _ f1; omega
        · exact f2 (.inr (.inr (.inr hw)))⟩
  · intro k hk
    rcases hk with hk | hk | hk | hk
    · exact .inl (h.foot k (.inl hk))
    · exact .inl (h.foot k (.inr (.inl hk)))
    · simp [Value.ownBlock] at hk
      subst hk
      rcases hloc with h1 | h1
      · exact .inl (h.foot _ (.inr (.inr (.inl h1))))
      · exact .inr ⟨h1, by omega⟩
    · exact .inl (h.foot k (.inr (.inr (.inr hk))))
  · rintro k (hk | hk)
    · exact hS5 k hk
    · exact hk.2
  · intro x hx
    rcases List.mem_append.1 hx with hx | hx
    · exact h.bytes x hx
    · simp at hx; subst hx; exact ⟨hB, hl⟩
  · have := h.most; simp; omega
  · have := h.rkle; simp; omega
  · refine hfa.wider (fun k _ hk => ?_)
    rcases hk with hk | hk | hk
    · exact h.foot k (.inl hk)
    · exact h.foot k (.inr (.inl hk))
    · exact h.foot k (.inr (.inr (.inl hk)))
end
end Go.Proofs.Ytlmchkajlecmeaa
