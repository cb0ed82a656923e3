/- The walk of LexrTells: it answers true, whatever it is given. -/
import Derived.Test.YtfjeehhglacppaaDoorLxSame
import Derived.Test.YtfjeehhglacppaaDoorLxText
import Derived.Test.YtfjeehhglacppaaDoorMem2
import Derived.Deep.RegionHeld3
set_option linter.unusedVariables false
set_option linter.unusedSimpArgs false
namespace Go.Proofs.YtfjeehhglacppaaDoor
open Go.RowKit
namespace Lx
theorem Laid.len : ∀ {l : List Tk} {a : Nat} {r : List Int}, Laid a r l → l.length ≤ r.length
  | [], _, _, _ => by simp
  | t :: l, a, r, h => by
    obtain ⟨b, rest, e, _, _, hg, h4⟩ := h
    have := h4.len
    have := hg.pos
    rw [e]
    simp only [List.length_append, List.length_cons]
    omega
theorem ok_len {s : ByteArray} {ts : List Tk} (h : lxA 0 (runes s) = .ok ts) : ts.length ≤ s.size := Nat.le_trans (laid_of _ 0 _ ts (Nat.le_refl _) h).len (runes_len s)
end Lx
theorem three_str (w : World) (t : TypeId) (s0 s1 s2 : ByteArray) (h0 : s0.size ≤ 1000000) (h1 : s1.size ≤ 1000000) (h2 : s2.size ≤ 1000000) (k : Nat) (hk : k < 3) : ∃ s, (w.alloc (.cells #[.string s0, .string s1, .string s2] t)).cell? ⟨w.heap.size, k, none⟩ = some (.string s) ∧ s.size ≤ 1000000 := by
  have hh := heap_alloc_new w (.cells #[.string s0, .string s1, .string s2] t)
  rcases (by omega : k = 0 ∨ k = 1 ∨ k = 2) with rfl | rfl | rfl
  · exact ⟨s0, by rw [cell_of_row _ _ _ _ _ _ hh]; rfl, h0⟩
  · exact ⟨s1, by rw [cell_of_row _ _ _ _ _ _ hh]; rfl, h1⟩
  · exact ⟨s2, by rw [cell_of_row _ _ _ _ _ _ hh]; rfl, h2⟩
set_option maxRecDepth 100000 in
set_option maxHeartbeats 16000000 in
theorem walk_LexrTells (A0 : Option Addr) (c0 : Nat) (z0 : List Int) (A1 : Option Addr) (c1 : Nat) (z1 : List Int) (w : World)
    (h0 : Rd w w.heap.size A0 (z0.map (Value.int .u8))) (h1 : Rd w w.heap.size A1 (z1.map (Value.int .i64))) :
    Calls Tryd.prog 6 #[.slice A0 z0.length c0, .slice A1 z1.length c1] w (RetB (.bool true) w) := by
  by_cases hz : 300 < z0.length
  · have hz' : (300 : Int) < (z0.length : Int) := by omega
    go_enter Tryd.func6, Tryd.ntmps6
    go_wp2_with (go_at_call 9; refine (awake4 _).mono ?_; rintro e w2 ⟨rfl, hb2⟩)
    go_ret
    exact ⟨rfl, hb2⟩
  · have hz' : ¬ (300 : Int) < (z0.length : Int) := by omega
    have hcv : ∀ w', Below w.heap.size w w' → (convert 37 9 (.slice A0 z0.length c0)).run Tryd.prog w' = .ok (.string (strOfNums z0)) w' := fun w' hb =>
      conv_any (h0.below hb (Nat.le_refl _)) rfl 37 5 9 Tryd.underlying37 Tryd.underlying5 Tryd.underlying9
    have htx := fun w' (hb : Below w.heap.size w w') => text_any A1 z1.length c1 z1 w' rfl (h1.belowT hb)
    have hss : (strOfNums z0).size ≤ 300 := by rw [strOfNums_size]; omega
    have hb0 : Below w.heap.size w w.drew := (up0 w).drew
    have hcv0 := hcv _ hb0
    have HCV := Lib.hid hcv; have HTX := Lib.hid htx
    clear hcv htx h0 h1
    generalize strOfNums z0 = s0 at *
    go_enter Tryd.func6, Tryd.ntmps6
    go_wp2_with fail
    refine wp_region_noPanic ?_
    refine wp_region_held_drew (S := fun w' => Below w.heap.size w w' ∧ (convert 37 9 (.slice A0 z0.length c0)).run Tryd.prog w' = .ok (.string s0) w') (by kernel_rfl) ?_ (fun hHeld => ?_)
    · exact ⟨hb0, hcv0⟩
    refine wpAnyH_take (i := 0) (oi := _) (v := ?_) rfl (by kernel_rfl) (by kernel_rfl) (by kernel_rfl) (fun _ _ _ h => h) (Or.inl ⟨by kernel_rfl, ?_⟩) (by assumption) ?_
    rotate_left
    · (intro w hSw; (try dsimp only at hSw); go_simp; try (with_reducible rfl))
    (try simp only [List.getElem_toArray, List.getElem_cons_succ, List.getElem_cons_zero, Act.put, List.setIfInBounds_toArray, List.set_cons_zero, List.set_cons_succ])
    refine wpAnyH_take (i := 1) (oi := _) (v := ?_) rfl (by kernel_rfl) (by kernel_rfl) (by kernel_rfl) (fun _ _ _ h => h) (Or.inl ⟨by kernel_rfl, ?_⟩) (by assumption) ?_
    rotate_left
    · (intro w hSw; (try dsimp only at hSw); go_simp; try (with_reducible rfl))
    (try simp only [List.getElem_toArray, List.getElem_cons_succ, List.getElem_cons_zero, Act.put, List.setIfInBounds_toArray, List.set_cons_zero, List.set_cons_succ])
    refine wpAnyH_take (i := 2) (oi := _) (v := ?_) rfl (by kernel_rfl) (by kernel_rfl) (by kernel_rfl) (fun _ _ _ h => h) (Or.inl ⟨by kernel_rfl, ?_⟩) (by assumption) ?_
    rotate_left
    · (intro w hSw; (try dsimp only at hSw); go_simp; try (with_reducible rfl))
    (try simp only [List.getElem_toArray, List.getElem_cons_succ, List.getElem_cons_zero, Act.put, List.setIfInBounds_toArray, List.set_cons_zero, List.set_cons_succ])
    refine wpAnyH_take (i := 4) (oi := _) (v := ?_) rfl (by kernel_rfl) (by kernel_rfl) (by kernel_rfl) (fun _ _ _ h => h) (Or.inl ⟨by kernel_rfl, ?_⟩) (by assumption) ?_
    rotate_left
    · (intro w hSw; (try dsimp only at hSw); go_simp; try (with_reducible rfl))
    (try simp only [List.getElem_toArray, List.getElem_cons_succ, List.getElem_cons_zero, Act.put, List.setIfInBounds_toArray, List.set_cons_zero, List.set_cons_succ])
    refine wpAnyH_take (i := 6) (oi := _) (v := ?_) rfl (by kernel_rfl) (by kernel_rfl) (by kernel_rfl) (fun _ _ _ h => h) (Or.inl ⟨by kernel_rfl, ?_⟩) (by assumption) ?_
    rotate_left
    · (intro w hSw; (try dsimp only at hSw); go_simp; try (with_reducible rfl))
    (try simp only [List.getElem_toArray, List.getElem_cons_succ, List.getElem_cons_zero, Act.put, List.setIfInBounds_toArray, List.set_cons_zero, List.set_cons_succ])
    refine wpAnyH_take (i := 7) (oi := _) (v := ?_) rfl (by kernel_rfl) (by kernel_rfl) (by kernel_rfl) (fun _ _ _ h => h) (Or.inl ⟨by kernel_rfl, ?_⟩) (by assumption) ?_
    rotate_left
    · (intro w hSw; (try dsimp only at hSw); go_simp; try (with_reducible rfl))
    (try simp only [List.getElem_toArray, List.getElem_cons_succ, List.getElem_cons_zero, Act.put, List.setIfInBounds_toArray, List.set_cons_zero, List.set_cons_succ])
    refine wpAnyH_take (i := 11) (oi := _) (v := ?_) rfl (by kernel_rfl) (by kernel_rfl) (by kernel_rfl) (fun _ _ _ h => h) (Or.inl ⟨by kernel_rfl, ?_⟩) (by assumption) ?_
    rotate_left
    · (intro w hSw; (try dsimp only at hSw); go_simp; try (with_reducible rfl))
    (try simp only [List.getElem_toArray, List.getElem_cons_succ, List.getElem_cons_zero, Act.put, List.setIfInBounds_toArray, List.set_cons_zero, List.set_cons_succ])
    refine wpAnyH_ready (rs := [3]) (by kernel_rfl) (by simp) ?_
    refine AllReadyH.cons (o := _) rfl (fun K hK => ?_) AllReadyH.nil
    go_simp
    go_at_call 10
    refine (HTX.out _ hHeld.1).mono ?_
    rintro e w3 ⟨s1, rfl, hs1, hb3⟩
    have hb3' := upT hHeld.1 hb3
    first | refine hK.out _ _ ?_ (fun hHeld => ?_) | (go_wp2_with fail; refine hK.out _ _ ?_ (fun hHeld => ?_))
    · exact ⟨hb3', HCV.out _ hb3'⟩
    clear hK K
    (try simp only [List.getElem_toArray, List.getElem_cons_succ, List.getElem_cons_zero, Act.put, List.setIfInBounds_toArray, List.set_cons_zero, List.set_cons_succ])
    refine wpAnyH_ready (rs := [5]) (by kernel_rfl) (by simp) ?_
    refine AllReadyH.cons (o := _) rfl (fun K hK => ?_) AllReadyH.nil
    go_simp
    go_at_call 10
    refine (HTX.out _ hb3').mono ?_
    rintro e w4 ⟨s2, rfl, hs2, hb4⟩
    have hb4' := upT hb3' hb4
    first | refine hK.out _ _ ?_ (fun hHeld => ?_) | (go_wp2_with fail; refine hK.out _ _ ?_ (fun hHeld => ?_))
    · exact ⟨hb4', HCV.out _ hb4'⟩
    clear hK K
    (try simp only [List.getElem_toArray, List.getElem_cons_succ, List.getElem_cons_zero, Act.put, List.setIfInBounds_toArray, List.set_cons_zero, List.set_cons_succ])
    have hsum : ¬ 9223372036854775807 < s2.size + s0.size := by omega
    refine wpAnyH_take (i := 8) (oi := _) (v := ?_) rfl (by kernel_rfl) (by kernel_rfl) (by kernel_rfl) (fun _ _ _ h => h) (Or.inl ⟨by kernel_rfl, ?_⟩) (by assumption) ?_
    rotate_left
    · (intro w hSw; (try dsimp only at hSw); go_simp; try (with_reducible rfl))
    (try simp only [List.getElem_toArray, List.getElem_cons_succ, List.getElem_cons_zero, Act.put, List.setIfInBounds_toArray, List.set_cons_zero, List.set_cons_succ])
    refine wpAnyH_ready (rs := [9]) (by kernel_rfl) (by simp) ?_
    refine AllReadyH.cons (o := _) rfl (fun K hK => ?_) AllReadyH.nil
    go_simp
    first | refine hK.out _ _ ?_ (fun hHeld => ?_) | (go_wp2_with fail; refine hK.out _ _ ?_ (fun hHeld => ?_))
    · exact ⟨upA hb4' _, HCV.out _ (upA hb4' _)⟩
    clear hK K
    (try simp only [List.getElem_toArray, List.getElem_cons_succ, List.getElem_cons_zero, Act.put, List.setIfInBounds_toArray, List.set_cons_zero, List.set_cons_succ])
    refine wpAnyH_take (i := 10) (oi := _) (v := ?_) rfl (by kernel_rfl) (by kernel_rfl) (by kernel_rfl) (fun _ _ _ h => h) (Or.inl ⟨by kernel_rfl, ?_⟩) (by assumption) ?_
    rotate_left
    · (intro w hSw; (try dsimp only at hSw); go_simp; try (with_reducible rfl))
    (try simp only [List.getElem_toArray, List.getElem_cons_succ, List.getElem_cons_zero, Act.put, List.setIfInBounds_toArray, List.set_cons_zero, List.set_cons_succ])
    refine wpAnyH_done (by kernel_rfl) ?_ _
    refine NoPanic.normal ?_
    (try go_simp)
    have hss2 : (s2 ++ s0).size ≤ 1000000 := by rw [ByteArray.size_append]; omega
    have h3 := three_str w4 9 s0 s1 (s2 ++ s0) (by omega) (by omega) hss2
    have hbW := upA hb4' (.cells #[.string s0, .string s1, .string (s2 ++ s0)] 9)
    have hgW : w4.heap.size < (w4.alloc (.cells #[.string s0, .string s1, .string (s2 ++ s0)] 9)).heap.size := by simp
    clear hHeld
    generalize w4.heap.size = gW at *
    generalize w4.alloc (.cells #[.string s0, .string s1, .string (s2 ++ s0)] 9) = W at *
    go_wp2_with fail
    go_loopw [28] (fun i wr => ∃ k : Nat, k ≤ 3 ∧ i = .int .i64 (k : Int) ∧ Below W.heap.size W wr) (fun i _ => 3 - (intOf i).toNat)
    case atStart => exact ⟨0, by omega, rfl, up0 _⟩
    case round =>
      obtain ⟨k, hk, rfl, hbr⟩ := hrel
      by_cases hlt : k < 3
      · have k1 : (k : Int) < 3 := by omega
        have k0 : (0 : Int) ≤ (k : Int) := by omega
        obtain ⟨s, hcell0, hs⟩ := h3 k hlt
        have hcellr := keep_cell hbr hcell0
        obtain ⟨wo, rfl⟩ : ∃ wo : World, wo = wr := ⟨_, rfl⟩
        go_wp2_with fail
        refine (line_any s _ hs).mono ?_
        intro e w5 h5
        cases hR : Lx.lxA 0 (Lx.runes s) with
        | ok ts =>
          have htl := Lx.ok_len hR
          rw [hR] at h5
          obtain ⟨g1, A1', cap1, rfl, hA1, hc1, hT1, hb5⟩ := h5.okT
          clear h5
          go_wp2_with fail
          refine (rline_any s _ hs).mono ?_
          intro e w6 h6
          rw [hR] at h6
          obtain ⟨g2, A2', cap2, rfl, hA2, hc2, hT2, hb6⟩ := h6.okT
          clear h6
          go_wp2_with (go_at_call 12; refine (same_any g1 g2 _ _ _ _ ts _ hA1 hA2 (hT1.below hb6) hT2 (by omega)).mono ?_; rintro e w7 ⟨rfl, q, rfl⟩)
          go_round
          case measure => simp [intOf]; omega
          case rel => exact ⟨k + 1, by omega, by go_num, upD (upT (upT hbr hb5) hb6) q⟩
        | error a =>
          rw [hR] at h5
          obtain ⟨rfl, hb5⟩ := h5.errT
          clear h5
          go_wp2_with fail
          refine (rline_any s _ hs).mono ?_
          intro e w6 h6
          rw [hR] at h6
          obtain ⟨rfl, hb6⟩ := h6.errT
          clear h6
          go_wp2_with (go_at_call 12; refine (same_any 0 0 none none 0 0 [] _ (fun h => by simp at h) (fun h => by simp at h) (fun j t ht => by simp at ht) (fun j t ht => by simp at ht) (by simp)).mono ?_; rintro e w7 ⟨rfl, q, rfl⟩)
          go_round
          case measure => simp [intOf]; omega
          case rel => exact ⟨k + 1, by omega, by go_num, upD (upT (upT hbr hb5) hb6) q⟩
      · have k1 : ¬ (k : Int) < 3 := by omega
        go_wp2_with (go_at_call 9; refine (awake4 _).mono ?_; rintro e w2 ⟨rfl, hb2⟩)
        go_ret
        exact ⟨rfl, upT (upT hbW hbr) hb2⟩
end Go.Proofs.YtfjeehhglacppaaDoor
