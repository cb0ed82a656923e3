/- The contract of the program's own addRun. -/
import Derived.Test.YtlmchkajlecmeaaOsC5
set_option linter.unusedVariables false
set_option linter.unusedSimpArgs false
namespace Go.Proofs.Ytlmchkajlecmeaa
open Go.RowKit
theorem own_take {w : World} {B : Nat} {e : TypeId} {A : Option Addr} {N c k : Nat} {xs : List Value} (h : w.ownsRow B e 1 (.slice A N c) N xs) (hk : k ≤ N) : w.ownsRow B e 1 (.slice A k c) k (xs.take k) := by
  have hl := own_len h
  rcases h.2 with ⟨e1, e2⟩ | ⟨g, cap, cur, e1, h1, h2, h3, h4, h5, h6⟩
  · subst e2
    simp only [Value.slice.injEq] at e1
    obtain ⟨rfl, _, rfl⟩ := e1
    obtain rfl : k = 0 := by omega
    exact World.ownsRow_nil _ _ _ _ |> fun h => by simpa using h
  · simp only [Value.slice.injEq, true_and] at e1
    obtain ⟨rfl, rfl⟩ := e1
    refine ⟨by simp; omega, .inr ⟨g, c, cur, rfl, h1, h2, by omega, h4, h5, ?_⟩⟩
    rw [← h6, List.take_take]
    congr 1
    omega
theorem infoSI : (Try.prog.info? 38).map (fun i => (i.zero, i.size, i.bytes)) = some (some (.slice none 0 0), 1, 24) := by kernel_rfl
section
variable {w w' : World} {g b most rk m : Nat} {L : List (List Int)} {R : List (List Nat)} {vK vR : Value} {KS RS : List Value} {S T : Nat → Prop}
/-- the set behind addRun: the runs cut, one put behind them -/
theorem CsIs.ran (h : CsIs w g b most rk m L R vK vR KS RS S) {n m' : Nat} {run : List Nat} {A1 : Option Addr} {c1 gr cap : Nat} {w3 : World} (hn : n ≤ R.length)
    (hc1 : run.length ≤ c1) (hm1 : c1 ≤ maxLen) (hr1 : Rd w3 w3.heap.size A1 ((intsOf run).map (Value.int .i64))) (hb1 : ∀ ad, 0 < run.length → A1 = some ad → ¬ Wr g b vK vR ad.block ∧ ad.block ≠ gr)
    (hown : w3.ownsRow 0 38 1 (.slice (some ⟨gr, 0, none⟩) (n + 1) cap) (n + 1) (RS.take n ++ [.slice A1 run.length c1])) (hf3 : Fr (fun k => vR.ownBlock = some k) w w3) (hloc : vR.ownBlock = some gr ∨ w.heap.size ≤ gr)
    (hruns : Os.Runs L m' (R.take n ++ [run])) :
    CsIs (w3.setCell ⟨g, 4, none⟩ (.slice (some ⟨gr, 0, none⟩) (n + 1) cap)) g b most rk m' L (R.take n ++ [run]) vK (.slice (some ⟨gr, 0, none⟩) (n + 1) cap) KS (RS.take n ++ [.slice A1 run.length c1])
      (fun k => S k ∨ ((∃ ad, 0 < run.length ∧ A1 = some ad ∧ k = ad.block) ∨ w.heap.size ≤ k) ∧ k < w3.heap.size) ∧ Fr S w (w3.setCell ⟨g, 4, none⟩ (.slice (some ⟨gr, 0, none⟩) (n + 1) cap)) := by
  obtain ⟨n1, n2, n3, n4, n5, n6⟩ := h.ne
  obtain ⟨D, hmD, hMD⟩ := h.map
  have hgw := h.glt
  have hs3 := hf3.size
  have hgk : gr < w3.heap.size := (hown.lt gr rfl).2
  have hgk1 : gr ≠ g := fun e => by subst e; rcases hloc with h1 | h1; exact n5 h1; omega
  have hbw := h.lt b (h.foot b (.inr (.inl rfl)))
  have hgk2 : gr ≠ b := fun e => by subst e; rcases hloc with h1 | h1; exact n3 h1; omega
  have hKlt := fun k hk => h.lt k (h.foot k (.inr (.inr (.inl hk))))
  have hgk3 : vK.ownBlock ≠ some gr := fun e => by
    rcases hloc with h1 | h1
    · exact n6 gr e h1
    · have := hKlt gr e; omega
  have hf4 : Fr (fun k => k = g ∨ vR.ownBlock = some k) w (w3.setCell ⟨g, 4, none⟩ (.slice (some ⟨gr, 0, none⟩) (n + 1) cap)) := (hf3.wider (S' := fun k => k = g ∨ vR.ownBlock = some k) (fun k _ hk => .inr hk)).trans (Fr.setCell _) (fun x hx => .inl (.inl hx))
  have hg3 : w3.heap[g]? = some (.cells #[.int .i64 most, vK, .map (some b), .int .i64 rk, vR] 50 (0, 0)) := (hf3.block g hgw (fun e => n5 e)).trans h.head
  have hg4 := heap_setCell_same w3 g 4 _ _ (.slice (some ⟨gr, 0, none⟩) (n + 1) cap) hg3
  have hWr : ∀ k, S k → ¬ Wr g b vK vR k → ¬ (k = g ∨ vR.ownBlock = some k) := fun k _ hw hk => hw (by rcases hk with hk | hk; exact .inl hk; exact .inr (.inr (.inr hk)))
  have hnew : ∀ k, S k → ¬ Wr g b vK vR k → ¬ Wr g b vK (.slice (some ⟨gr, 0, none⟩) (n + 1) cap) k := fun k hk hw hw' => by
    rcases hw' with hw' | hw' | hw' | hw'
    · exact hw (.inl hw')
    · exact hw (.inr (.inl hw'))
    · exact hw (.inr (.inr (.inl hw')))
    · simp [Value.ownBlock] at hw'
      rcases hloc with h1 | h1
      · exact hw (.inr (.inr (.inr (by rw [h1, hw']))))
      · have := h.lt _ hk; omega
  have hS5 : ∀ k, S k → k < w3.heap.size := fun k hk => by have := h.lt k hk; omega
  refine ⟨⟨by rw [hg4]; simp, ?_, ?_, ⟨D, ?_, hMD⟩, ?_, ?_, ?_, ?_, hruns, h.nodup, h.bytes, h.few, h.most, h.rkle⟩, ?_⟩
  · exact own_fr h.rowK hf4 (fun k hk => by
      rintro (e | e)
      · subst e; exact n4 hk
      · exact n6 k hk e)
  · refine (h.keys.fr hf4 hWr).wider (fun k _ hk hw => ⟨.inl hk, hnew k hk hw⟩)
  · exact map_fr hmD hf4 (by rintro (e | e); exact n1 e.symm; exact n3 e)
  · have h1 := own_fr hown (Fr.setCell (p := ⟨g, 4, none⟩) (.slice (some ⟨gr, 0, none⟩) (n + 1) cap)) (fun k hk => by simp [Value.ownBlock] at hk; subst hk; exact hgk1)
    have e : (R.take n ++ [run]).length = n + 1 := by simp; omega
    rw [e]; exact h1
  · have hk1 : Segs _ _ _ _ _ _ := ((h.segs.fr hf4 hWr).take n).wider (S' := fun k => S k ∨ ((∃ ad, 0 < run.length ∧ A1 = some ad ∧ k = ad.block) ∨ w.heap.size ≤ k) ∧ k < w3.heap.size) (fun k _ hk hw => ⟨.inl hk, hnew k hk hw⟩)
    have e : List.map intsOf (R.take n ++ [run]) = (R.map intsOf).take n ++ [intsOf run] := by rw [List.map_append, List.map_take]; rfl
    rw [e]
    have hr5 : Rd (w3.setCell ⟨g, 4, none⟩ (.slice (some ⟨gr, 0, none⟩) (n + 1) cap)) (w3.setCell ⟨g, 4, none⟩ (.slice (some ⟨gr, 0, none⟩) (n + 1) cap)).heap.size A1 ((intsOf run).map (Value.int .i64)) := hr1.fr0 (Fr.setCell _) (fun ad hn e e2 => (hb1 ad (by simpa [intsOf] using hn) e).1 (.inl e2))
    have := hk1.snoc (A := A1) (c := c1) (z := intsOf run) (by rw [intsOf_len]; exact hc1) hm1 hr5 (fun ad hn e => by
      rw [intsOf_len] at hn
      obtain ⟨f1, f2⟩ := hb1 ad hn e
      obtain ⟨ad', e', hlt', _⟩ := hr1 (by simpa [intsOf] using hn)
      rw [e] at e'
      cases e'
      refine ⟨.inr ⟨.inl ⟨ad, hn, e, rfl⟩, hlt'⟩, fun hw' => ?_⟩
      rcases hw' with hw' | hw' | hw' | hw'
      · exact f1 (.inl hw')
      · exact f1 (.inr (.inl hw'))
      · exact f1 (.inr (.inr (.inl hw')))
      · simp [Value.ownBlock] at hw'
        exact f2 hw'.symm)
    rw [intsOf_len] at this
    exact this
  · intro k hk
    rcases hk with hk | hk | hk | hk
    · exact .inl (h.foot k (.inl hk))
    · exact .inl (h.foot k (.inr (.inl hk)))
    · exact .inl (h.foot k (.inr (.inr (.inl hk))))
    · simp [Value.ownBlock] at hk
      subst hk
      rcases hloc with h1 | h1
      · exact .inl (h.foot _ (.inr (.inr (.inr h1))))
      · exact .inr ⟨.inr h1, hgk⟩
  · rintro k (hk | hk)
    · simpa using hS5 k hk
    · simpa using hk.2
  · refine hf4.wider (fun k _ hk => ?_)
    rcases hk with hk | hk
    · exact h.foot k (.inl hk)
    · exact h.foot k (.inr (.inr (.inr hk)))
end
end Go.Proofs.Ytlmchkajlecmeaa
