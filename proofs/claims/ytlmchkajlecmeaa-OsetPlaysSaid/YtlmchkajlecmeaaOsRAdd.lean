/- The contracts of auguryref1's Rank and Add. -/
import Derived.Test.YtlmchkajlecmeaaOsFind
import Derived.Test.YtlmchkajlecmeaaOsC9
set_option linter.unusedVariables false
set_option linter.unusedSimpArgs false
namespace Go.Proofs.Ytlmchkajlecmeaa
open Go.RowKit
theorem rrank_any (g most : Nat) (L : List (List Int)) (S : Nat → Prop) (A : Option Addr) (n c : Nat) (key : List Int) (w : World)
    (hS : RSet w g most L S) (hn : n = key.length) (hk : Rd w w.heap.size A (key.map (Value.int .u8))) (hB : Cd.isB key) (hs : n ≤ 1000000) :
    Calls Try.prog 17 #[.pointer (some ⟨g, 0, none⟩), .slice A n c] w (RetB (.int .i64 (Os.rk L key : Nat)) w) := by
  subst hn
  obtain ⟨p, vL, vB, h⟩ := hS
  have hp := rplace_any g most L p vL vB S A _ c key w h rfl hk hB hs
  generalize Os.rk L key = r at *
  have HP := Lib.hid hp
  clear hp h hk hB
  go_enter Try.func17, Try.ntmps17
  go_wp2_with fail
  refine HP.out.mono ?_
  rintro e w1 ⟨rfl, hb1⟩
  go_wp2_with fail
  go_ret
  exact ⟨rfl, hb1⟩
theorem wrap_small {j : Int} (h0 : 0 ≤ j) (h1 : j ≤ 2000000) : IntKind.i64.wrap j = j := by rw [IntKind.wrap_i64]; omega
theorem shift_set {p : List Nat} {i : Nat} (hi : i < p.length) (z : Nat) : (p.take (i + 1) ++ z :: p.drop (i + 1)).set (i + 1) (p.getD i 0) = p.take i ++ p.getD i 0 :: p.drop i := by
  have e1 : p.take (i + 1) = p.take i ++ [p.getD i 0] := by rw [List.take_add_one]; simp [List.getD, hi]
  have e2 : p.drop i = p.getD i 0 :: p.drop (i + 1) := by rw [List.drop_eq_getElem_cons hi]; simp [List.getD, hi]
  have hl : (p.take (i + 1)).length = i + 1 := by rw [List.length_take]; omega
  rw [List.set_append_right _ _ (by omega), hl, Nat.sub_self, List.set_cons_zero, e2, e1]
  simp
theorem shift_at {p : List Nat} {i : Nat} (hi : i < p.length) (z : Nat) : (p.take (i + 1) ++ z :: p.drop (i + 1)).getD i 0 = p.getD i 0 := by
  have hl : (p.take (i + 1)).length = i + 1 := by rw [List.length_take]; omega
  simp [List.getD, List.getElem?_append_left (show i < (p.take (i + 1)).length by omega), List.getElem?_take]
theorem last_set {p : List Nat} {i : Nat} (hi : i ≤ p.length) (z n : Nat) : (p.take i ++ z :: p.drop i).set i n = p.take i ++ n :: p.drop i := by
  have hl : (p.take i).length = i := by rw [List.length_take]; omega
  rw [List.set_append_right _ _ (by omega), hl, Nat.sub_self, List.set_cons_zero]
def intV (i : Nat) : Value := .int .i64 (i : Int)
theorem own_cellN {w : World} {B g n cap j : Nat} {t : TypeId} {xs : List Nat} (h : w.ownsRow B t 1 (.slice (some ⟨g, 0, none⟩) n cap) n (xs.map intV)) (hj : j < xs.length) : w.cell? ⟨g, j, none⟩ = some (.int .i64 ((xs.getD j 0 : Nat) : Int)) := by
  have hn := own_len h
  rw [List.length_map] at hn
  rw [h.cellAt j (by omega)]
  simp [hj, intV]
theorem own_setN {w : World} {B g n cap j x : Nat} {t : TypeId} {xs : List Nat} (h : w.ownsRow B t 1 (.slice (some ⟨g, 0, none⟩) n cap) n (xs.map intV)) : (w.setCell ⟨g, j, none⟩ (.int .i64 (x : Int))).ownsRow B t 1 (.slice (some ⟨g, 0, none⟩) n cap) n ((xs.set j x).map intV) := by
  have := (h.stored j (.int .i64 (x : Int))).1
  rw [List.map_set]
  exact this
theorem infoStr : (Try.prog.info? 9).map (fun i => (i.zero, i.size, i.bytes)) = some (some (.string .empty), 1, 16) := by kernel_rfl
set_option maxRecDepth 100000 in
set_option maxHeartbeats 8000000 in
theorem radd_any (g most : Nat) (L : List (List Int)) (S : Nat → Prop) (A : Option Addr) (n c : Nat) (key : List Int) (w : World)
    (hS : RSet w g most L S) (hn : n = key.length) (hk : Rd w w.heap.size A (key.map (Value.int .u8))) (hB : Cd.isB key) (hs : n ≤ 1000000) (hmost : most ≤ 1000000) (hA : ∀ ad, 0 < key.length → A = some ad → ¬ S ad.block) :
    Calls Try.prog 18 #[.pointer (some ⟨g, 0, none⟩), .slice A n c] w (SetPost (fun w' S' => RSet w' g most (Os.put most L key) S') S (ansV most L key) w) := by
  subst hn
  obtain ⟨p, vL, vB, h⟩ := hS
  have hfew := h.few
  have hgw := h.lt g h.foot.1
  have hfind := rfind_any g most L p vL vB S A _ c key w h rfl hk hB hs
  obtain ⟨AL, cL, AB, cB, eL, eB, hcL, hcB⟩ := h.slices
  have H := Lib.hid h; have HF := Lib.hid hfind; have HK := Lib.hid hk; have HB := Lib.hid hB; have HA := Lib.hid hA
  clear h hfind hk hB hA
  cases hi : Os.idx L key with
  | some i =>
    have hput := Os.put_old (most := most) hi
    have hans : ansV most L key = .tuple #[.int .i64 (i : Int), .bool false, .bool true] := by unfold ansV; rw [Os.ans_old hi]
    have hfv : fnd L key = .tuple #[.int .i64 (i : Int), .bool true] := by unfold fnd; rw [hi]; rfl
    rw [hput, hans]
    rw [hfv] at HF
    clear hput hans hfv hi
    go_enter Try.func18, Try.ntmps18
    go_wp2_with (go_at_call 16; refine HF.out.mono ?_; rintro e w1 ⟨rfl, hb1⟩)
    go_ret3
    exact ⟨rfl, S, ⟨p, vL, vB, H.out.up hb1⟩, Fr.of_below hb1, fun k hk => .inl hk⟩
  | none =>
    have hfv : fnd L key = .tuple #[.int .i64 0, .bool false] := by unfold fnd; rw [hi]; rfl
    rw [hfv] at HF
    clear hfv
    by_cases hm : most ≤ L.length
    · have hput := Os.put_full hi hm
      have hans : ansV most L key = .tuple #[.int .i64 0, .bool false, .bool false] := by unfold ansV; rw [Os.ans_full hi hm]
      rw [hput, hans]
      clear hput hans hi
      go_enter Try.func18, Try.ntmps18
      go_wp2_with (go_at_call 16; refine HF.out.mono ?_; rintro e w1 ⟨rfl, hb1⟩)
      have h1 := H.out.up hb1
      have c0 : w1.cell? ⟨g, 0, none⟩ = some (.int .i64 most) := h1.cell 0
      have c1 : w1.cell? ⟨g, 1, none⟩ = some (.slice AL L.length cL) := by rw [← eL]; exact h1.cell 1
      clear h1
      refine wp_region_noPanic ?_
      refine wp_region_held_drew (S := fun w' => w'.cell? ⟨g, 0, none⟩ = some (.int .i64 most) ∧ w'.cell? ⟨g, 1, none⟩ = some (.slice AL L.length cL)) (by kernel_rfl) ?_ (fun hHeld => ?_)
      · exact ⟨c0, c1⟩
      refine wpAnyH_take (i := 0) (oi := _) (v := ?_) rfl (by kernel_rfl) (by kernel_rfl) (by kernel_rfl) (fun _ _ _ h => h) (Or.inl ⟨by kernel_rfl, ?_⟩) (by assumption) ?_
      rotate_left
      · (intro w hSw; (try dsimp only at hSw); go_simp; try (with_reducible rfl))
      (try simp only [List.getElem_toArray, List.getElem_cons_succ, List.getElem_cons_zero, Act.put, List.setIfInBounds_toArray, List.set_cons_zero, List.set_cons_succ])
      refine wpAnyH_take (i := 1) (oi := _) (v := ?_) rfl (by kernel_rfl) (by kernel_rfl) (by kernel_rfl) (fun _ _ _ h => h) (Or.inl ⟨by kernel_rfl, ?_⟩) (by assumption) ?_
      rotate_left
      · (intro w hSw; (try dsimp only at hSw); go_simp; try (with_reducible rfl))
      (try simp only [List.getElem_toArray, List.getElem_cons_succ, List.getElem_cons_zero, Act.put, List.setIfInBounds_toArray, List.set_cons_zero, List.set_cons_succ])
      refine wpAnyH_take (i := 2) (oi := _) (v := ?_) rfl (by kernel_rfl) (by kernel_rfl) (by kernel_rfl) (fun _ _ _ h => h) (Or.inl ⟨by kernel_rfl, ?_⟩) (by assumption) ?_
      rotate_left
      · (intro w hSw; (try dsimp only at hSw); go_simp; try (with_reducible rfl))
      (try simp only [List.getElem_toArray, List.getElem_cons_succ, List.getElem_cons_zero, Act.put, List.setIfInBounds_toArray, List.set_cons_zero, List.set_cons_succ])
      refine wpAnyH_take (i := 3) (oi := _) (v := ?_) rfl (by kernel_rfl) (by kernel_rfl) (by kernel_rfl) (fun _ _ _ h => h) (Or.inl ⟨by kernel_rfl, ?_⟩) (by assumption) ?_
      rotate_left
      · (intro w hSw; (try dsimp only at hSw); go_simp; try (with_reducible rfl))
      (try simp only [List.getElem_toArray, List.getElem_cons_succ, List.getElem_cons_zero, Act.put, List.setIfInBounds_toArray, List.set_cons_zero, List.set_cons_succ])
      refine wpAnyH_take (i := 4) (oi := _) (v := ?_) rfl (by kernel_rfl) (by kernel_rfl) (by kernel_rfl) (fun _ _ _ h => h) (Or.inl ⟨by kernel_rfl, ?_⟩) (by assumption) ?_
      rotate_left
      · (intro w hSw; (try dsimp only at hSw); go_simp; try (with_reducible rfl))
      (try simp only [List.getElem_toArray, List.getElem_cons_succ, List.getElem_cons_zero, Act.put, List.setIfInBounds_toArray, List.set_cons_zero, List.set_cons_succ])
      refine wpAnyH_take (i := 5) (oi := _) (v := ?_) rfl (by kernel_rfl) (by kernel_rfl) (by kernel_rfl) (fun _ _ _ h => h) (Or.inl ⟨by kernel_rfl, ?_⟩) (by assumption) ?_
      rotate_left
      · (intro w hSw; (try dsimp only at hSw); go_simp; try (with_reducible rfl))
      (try simp only [List.getElem_toArray, List.getElem_cons_succ, List.getElem_cons_zero, Act.put, List.setIfInBounds_toArray, List.set_cons_zero, List.set_cons_succ])
      refine wpAnyH_take (i := 6) (oi := _) (v := ?_) rfl (by kernel_rfl) (by kernel_rfl) (by kernel_rfl) (fun _ _ _ h => h) (Or.inl ⟨by kernel_rfl, ?_⟩) (by assumption) ?_
      rotate_left
      · (intro w hSw; (try dsimp only at hSw); go_simp; try (with_reducible rfl))
      (try simp only [List.getElem_toArray, List.getElem_cons_succ, List.getElem_cons_zero, Act.put, List.setIfInBounds_toArray, List.set_cons_zero, List.set_cons_succ])
      refine wpAnyH_take (i := 7) (oi := _) (v := ?_) rfl (by kernel_rfl) (by kernel_rfl) (by kernel_rfl) (fun _ _ _ h => h) (Or.inl ⟨by kernel_rfl, ?_⟩) (by assumption) ?_
      rotate_left
      · (intro w hSw; (try dsimp only at hSw); go_simp; try (with_reducible rfl))
      (try simp only [List.getElem_toArray, List.getElem_cons_succ, List.getElem_cons_zero, Act.put, List.setIfInBounds_toArray, List.set_cons_zero, List.set_cons_succ])
      refine wpAnyH_take (i := 8) (oi := _) (v := ?_) rfl (by kernel_rfl) (by kernel_rfl) (by kernel_rfl) (fun _ _ _ h => h) (Or.inl ⟨by kernel_rfl, ?_⟩) (by assumption) ?_
      rotate_left
      · (intro w hSw; (try dsimp only at hSw); go_simp; try (with_reducible rfl))
      (try simp only [List.getElem_toArray, List.getElem_cons_succ, List.getElem_cons_zero, Act.put, List.setIfInBounds_toArray, List.set_cons_zero, List.set_cons_succ])
      refine wpAnyH_take (i := 9) (oi := _) (v := ?_) rfl (by kernel_rfl) (by kernel_rfl) (by kernel_rfl) (fun _ _ _ h => h) (Or.inl ⟨by kernel_rfl, ?_⟩) (by assumption) ?_
      rotate_left
      · (intro w hSw; (try dsimp only at hSw); go_simp; try (with_reducible rfl))
      (try simp only [List.getElem_toArray, List.getElem_cons_succ, List.getElem_cons_zero, Act.put, List.setIfInBounds_toArray, List.set_cons_zero, List.set_cons_succ])
      refine wpAnyH_done (by kernel_rfl) ?_ _
      refine NoPanic.normal ?_
      (try go_simp)
      go_wp2_with fail
      all_goals first | (exfalso; omega) | skip
      go_ret3
      exact ⟨rfl, S, ⟨p, vL, vB, H.out.up (upD hb1 1)⟩, Fr.of_below (upD hb1 1), fun k hk => .inl hk⟩
    · have hm' : L.length < most := by omega
      have hput := Os.put_new hi hm'
      have hans : ansV most L key = .tuple #[.int .i64 (L.length : Int), .bool true, .bool true] := by unfold ansV; rw [Os.ans_new hi hm']
      rw [hput, hans]
      clear hput hans
      have HI := Lib.hid hi
      clear hi
      obtain ⟨i0, hi0, hz0, hs0, hb0⟩ := info_parts infoI
      obtain ⟨i9, hi9, hz9, hs9, hb9⟩ := info_parts infoStr
      go_enter Try.func18, Try.ntmps18
      go_wp2_with (go_at_call 16; refine HF.out.mono ?_; rintro e w1 ⟨rfl, hb1⟩)
      have h1 := H.out.up hb1
      have c0 : w1.cell? ⟨g, 0, none⟩ = some (.int .i64 most) := h1.cell 0
      have c1 : w1.cell? ⟨g, 1, none⟩ = some (.slice AL L.length cL) := by rw [← eL]; exact h1.cell 1
      clear h1
      refine wp_region_noPanic ?_
      refine wp_region_held_drew (S := fun w' => w'.cell? ⟨g, 0, none⟩ = some (.int .i64 most) ∧ w'.cell? ⟨g, 1, none⟩ = some (.slice AL L.length cL)) (by kernel_rfl) ?_ (fun hHeld => ?_)
      · exact ⟨c0, c1⟩
      refine wpAnyH_take (i := 0) (oi := _) (v := ?_) rfl (by kernel_rfl) (by kernel_rfl) (by kernel_rfl) (fun _ _ _ h => h) (Or.inl ⟨by kernel_rfl, ?_⟩) (by assumption) ?_
      rotate_left
      · (intro w hSw; (try dsimp only at hSw); go_simp; try (with_reducible rfl))
      (try simp only [List.getElem_toArray, List.getElem_cons_succ, List.getElem_cons_zero, Act.put, List.setIfInBounds_toArray, List.set_cons_zero, List.set_cons_succ])
      refine wpAnyH_take (i := 1) (oi := _) (v := ?_) rfl (by kernel_rfl) (by kernel_rfl) (by kernel_rfl) (fun _ _ _ h => h) (Or.inl ⟨by kernel_rfl, ?_⟩) (by assumption) ?_
      rotate_left
      · (intro w hSw; (try dsimp only at hSw); go_simp; try (with_reducible rfl))
      (try simp only [List.getElem_toArray, List.getElem_cons_succ, List.getElem_cons_zero, Act.put, List.setIfInBounds_toArray, List.set_cons_zero, List.set_cons_succ])
      refine wpAnyH_take (i := 2) (oi := _) (v := ?_) rfl (by kernel_rfl) (by kernel_rfl) (by kernel_rfl) (fun _ _ _ h => h) (Or.inl ⟨by kernel_rfl, ?_⟩) (by assumption) ?_
      rotate_left
      · (intro w hSw; (try dsimp only at hSw); go_simp; try (with_reducible rfl))
      (try simp only [List.getElem_toArray, List.getElem_cons_succ, List.getElem_cons_zero, Act.put, List.setIfInBounds_toArray, List.set_cons_zero, List.set_cons_succ])
      refine wpAnyH_take (i := 3) (oi := _) (v := ?_) rfl (by kernel_rfl) (by kernel_rfl) (by kernel_rfl) (fun _ _ _ h => h) (Or.inl ⟨by kernel_rfl, ?_⟩) (by assumption) ?_
      rotate_left
      · (intro w hSw; (try dsimp only at hSw); go_simp; try (with_reducible rfl))
      (try simp only [List.getElem_toArray, List.getElem_cons_succ, List.getElem_cons_zero, Act.put, List.setIfInBounds_toArray, List.set_cons_zero, List.set_cons_succ])
      refine wpAnyH_take (i := 4) (oi := _) (v := ?_) rfl (by kernel_rfl) (by kernel_rfl) (by kernel_rfl) (fun _ _ _ h => h) (Or.inl ⟨by kernel_rfl, ?_⟩) (by assumption) ?_
      rotate_left
      · (intro w hSw; (try dsimp only at hSw); go_simp; try (with_reducible rfl))
      (try simp only [List.getElem_toArray, List.getElem_cons_succ, List.getElem_cons_zero, Act.put, List.setIfInBounds_toArray, List.set_cons_zero, List.set_cons_succ])
      refine wpAnyH_take (i := 5) (oi := _) (v := ?_) rfl (by kernel_rfl) (by kernel_rfl) (by kernel_rfl) (fun _ _ _ h => h) (Or.inl ⟨by kernel_rfl, ?_⟩) (by assumption) ?_
      rotate_left
      · (intro w hSw; (try dsimp only at hSw); go_simp; try (with_reducible rfl))
      (try simp only [List.getElem_toArray, List.getElem_cons_succ, List.getElem_cons_zero, Act.put, List.setIfInBounds_toArray, List.set_cons_zero, List.set_cons_succ])
      refine wpAnyH_take (i := 6) (oi := _) (v := ?_) rfl (by kernel_rfl) (by kernel_rfl) (by kernel_rfl) (fun _ _ _ h => h) (Or.inl ⟨by kernel_rfl, ?_⟩) (by assumption) ?_
      rotate_left
      · (intro w hSw; (try dsimp only at hSw); go_simp; try (with_reducible rfl))
      (try simp only [List.getElem_toArray, List.getElem_cons_succ, List.getElem_cons_zero, Act.put, List.setIfInBounds_toArray, List.set_cons_zero, List.set_cons_succ])
      refine wpAnyH_take (i := 7) (oi := _) (v := ?_) rfl (by kernel_rfl) (by kernel_rfl) (by kernel_rfl) (fun _ _ _ h => h) (Or.inl ⟨by kernel_rfl, ?_⟩) (by assumption) ?_
      rotate_left
      · (intro w hSw; (try dsimp only at hSw); go_simp; try (with_reducible rfl))
      (try simp only [List.getElem_toArray, List.getElem_cons_succ, List.getElem_cons_zero, Act.put, List.setIfInBounds_toArray, List.set_cons_zero, List.set_cons_succ])
      refine wpAnyH_take (i := 8) (oi := _) (v := ?_) rfl (by kernel_rfl) (by kernel_rfl) (by kernel_rfl) (fun _ _ _ h => h) (Or.inl ⟨by kernel_rfl, ?_⟩) (by assumption) ?_
      rotate_left
      · (intro w hSw; (try dsimp only at hSw); go_simp; try (with_reducible rfl))
      (try simp only [List.getElem_toArray, List.getElem_cons_succ, List.getElem_cons_zero, Act.put, List.setIfInBounds_toArray, List.set_cons_zero, List.set_cons_succ])
      refine wpAnyH_take (i := 9) (oi := _) (v := ?_) rfl (by kernel_rfl) (by kernel_rfl) (by kernel_rfl) (fun _ _ _ h => h) (Or.inl ⟨by kernel_rfl, ?_⟩) (by assumption) ?_
      rotate_left
      · (intro w hSw; (try dsimp only at hSw); go_simp; try (with_reducible rfl))
      (try simp only [List.getElem_toArray, List.getElem_cons_succ, List.getElem_cons_zero, Act.put, List.setIfInBounds_toArray, List.set_cons_zero, List.set_cons_succ])
      refine wpAnyH_done (by kernel_rfl) ?_ _
      refine NoPanic.normal ?_
      (try go_simp)
      go_wp2_with fail
      all_goals first | (exfalso; omega) | skip
      have hplace := rplace_any g most L p vL vB S A _ c key w1.drew (H.out.up (upD hb1 1)) rfl ((HK.out.belowT hb1).drewT 1) HB.out hs
      refine hplace.mono ?_
      rintro e w2 ⟨rfl, hb2⟩
      have hrk := (H.out.ok.split key).1
      have hbb : Below w.heap.size w w2 := upT (upD hb1 1) hb2
      have h2 := H.out.up hbb
      have d2 : w2.cell? ⟨g, 2, none⟩ = some (.slice AB L.length cB) := by rw [← eB]; exact h2.cell 2
      have hownB : (w2.alloc (.cells #[.int .i64 0] 3)).ownsRow 0 3 1 (.slice AB L.length cB) L.length (p.map intV) := by
        have h3 := h2.rowB
        rw [eB, h2.ok.len] at h3
        exact h3.alloc _
      have hnB : (Value.slice AB L.length cB).ownBlock ≠ some g := by rw [← eB]; exact own_ne_cells h2.rowB h2.head (by decide)
      have hhd := h2.head
      have H2 := Lib.hid h2; have HB2 := Lib.hid hbb
      clear h2 hplace
      have hpl := H.out.ok.len
      generalize hkk : Os.rk L key = k at *
      have HKK := Lib.hid hkk; have HHD := Lib.hid hhd
      clear hkk hhd
      go_wp2_with (at_builtin; refine wpList_append_lies _ rfl (.tmp 36) (.tmp 37) 38 rfl 0 3 i0 _ 1 8 Try.underlying38 hi0 hz0 hs0 hb0 rfl (by omega) _ _ _ (by rfl) hownB ⟨w2.heap.size, 0, none⟩ 1 1 [.int .i64 0] rfl (by simp) (cell_one_new _ _ _) (by intro u hu; simp at hu; rw [hu]; rfl) (by omega) (by simp only [maxLen]; omega) (by omega) (by omega) (w2.heap.size + 1) (by simp) ?_; intro gB capB w3 hown3 hgr3 hat3 hlt3
                   have hF3 : Fr (fun q => (Value.slice AB L.length cB).ownBlock = some q) w2 w3 := (Fr.of_below (S := fun q => (Value.slice AB L.length cB).ownBlock = some q) (upA (up0 w2) _)).trans (Fr.of_grown hgr3) (fun x hx => .inl hx)
                   have hd3 := (hF3.block g (Nat.lt_of_lt_of_le hgw HB2.out.size) hnB).trans HHD.out
                   have e2 : w3.cell? ⟨g, 2, none⟩ = some vB := by rw [cell_of_row _ g 2 _ _ _ hd3]; rfl
                   have f2 : w3.frozen? ⟨g, 2, none⟩ = false := frozen_of_row _ _ _ _ _ hd3
                   have hd4 := heap_setCell_same w3 g 2 _ _ (.slice (some ⟨gB, 0, none⟩) (L.length + 1) capB) hd3
                   have e24 : (w3.setCell ⟨g, 2, none⟩ (.slice (some ⟨gB, 0, none⟩) (L.length + 1) capB)).cell? ⟨g, 2, none⟩ = some (.slice (some ⟨gB, 0, none⟩) (L.length + 1) capB) := by rw [cell_of_row _ g 2 _ _ _ hd4]; rfl
                   have HD4 := Lib.hid hd4; have HO3 := Lib.hid hown3; have HF3 := Lib.hid hF3; have HD3 := Lib.hid hd3
                   clear hd4 hown3 hgr3 hF3 hd3)
      have hgB1 : gB ≠ g := fun e => by
        rcases hat3 with h | h
        · exact hnB (by rw [h, e])
        · have := HB2.out.size; omega
      generalize hW4 : w3.setCell ⟨g, 2, none⟩ (.slice (some ⟨gB, 0, none⟩) (L.length + 1) capB) = W4 at *
      have HW4 := Lib.hid hW4
      clear hW4
      have hown4 : W4.ownsRow 0 3 1 (.slice (some ⟨gB, 0, none⟩) (L.length + 1) capB) (L.length + 1) ((p ++ [0]).map intV) := by
        rw [← HW4.out]
        have h5 := own_fr HO3.out (Fr.setCell (p := ⟨g, 2, none⟩) (.slice (some ⟨gB, 0, none⟩) (L.length + 1) capB)) (fun q hq e => by simp [Value.ownBlock] at hq; exact hgB1 (hq.trans e))
        simpa [intV] using h5
      go_loopw [10] (fun vi wr => ∃ (i z : Nat), k ≤ i ∧ i ≤ L.length ∧ vi = .int .i64 i ∧ wr.ownsRow 0 3 1 (.slice (some ⟨gB, 0, none⟩) (L.length + 1) capB) (L.length + 1) ((p.take i ++ z :: p.drop i).map intV) ∧ Fr (fun q => q = gB) W4 wr) (fun vi _ => (intOf vi).toNat)
      case atStart => exact ⟨L.length, 0, by omega, by omega, rfl, by rw [List.take_of_length_le (by omega), List.drop_of_length_le (by omega)]; exact hown4, Fr.refl _ _⟩
      case round =>
        obtain ⟨i, z, hki, hil, rfl, hown, hF5⟩ := hrel
        obtain ⟨wo, rfl⟩ : ∃ wo : World, wo = wr := ⟨_, rfl⟩
        have d5 : wo.cell? ⟨g, 2, none⟩ = some (.slice (some ⟨gB, 0, none⟩) (L.length + 1) capB) := hF5.cell e24 (fun h => hgB1 h.symm)
        have hlen5 : (p.take i ++ z :: p.drop i).length = L.length + 1 := by simp; omega
        by_cases hlt : k < i
        · obtain ⟨j, rfl⟩ : ∃ j, i = j + 1 := ⟨i - 1, by omega⟩
          have hcj := own_cellN hown (j := j) (by omega)
          rw [shift_at (by omega) z] at hcj
          have hcj1 := own_cellN hown (j := j + 1) (by omega)
          have hfj1 := hown.frozenAt (j + 1)
          have hst := own_setN hown (j := j + 1) (x := p.getD j 0)
          rw [shift_set (by omega) z] at hst
          have HST := Lib.hid hst; have HF5 := Lib.hid hF5
          clear hst hF5 hown
          generalize (p.take (j + 1) ++ z :: p.drop (j + 1)).getD (j + 1) 0 = old at *
          generalize hpj : p.getD j 0 = pj at *
          have HPJ := Lib.hid hpj
          clear hpj
          have j0 : (0 : Int) ≤ (j : Int) := by omega
          have j1 : (j : Int) < (L.length : Int) + 1 := by omega
          have j2 : (j : Int) + 1 < (L.length : Int) + 1 := by omega
          have j3 : (k : Int) < (j : Int) + 1 := by omega
          have jw : IntKind.i64.wrap (j : Int) = (j : Int) := wrap_small j0 (by omega)
          have j4 : (0 : Int) ≤ (j : Int) + 1 := by omega
          go_wp2_with fail
          refine wp_region_noPanic ?_
          refine wp_region_till 14 (fun w' => w'.cell? ⟨g, 2, none⟩ = some (.slice (some ⟨gB, 0, none⟩) (L.length + 1) capB) ∧ w'.cell? ⟨gB, j, none⟩ = some (.int .i64 (pj : Int))) (by kernel_rfl) ?_ (fun hHeld => ?_)
          · exact ⟨d5, hcj⟩
          refine wpTill_take (i := 0) (oi := _) (v := ?_) rfl (by kernel_rfl) (by kernel_rfl) (by kernel_rfl) (fun _ _ _ h => h) (by kernel_rfl) (by kernel_rfl) (Or.inl ⟨by kernel_rfl, ?_⟩) (by assumption) ?_
          rotate_left
          · (intro w hSw; (try dsimp only at hSw); go_simp; (try with_reducible rfl))
          (try simp only [List.getElem_toArray, List.getElem_cons_succ, List.getElem_cons_zero, Act.put, List.setIfInBounds_toArray, List.set_cons_zero, List.set_cons_succ])
          refine wpTill_take (i := 1) (oi := _) (v := ?_) rfl (by kernel_rfl) (by kernel_rfl) (by kernel_rfl) (fun _ _ _ h => h) (by kernel_rfl) (by kernel_rfl) (Or.inl ⟨by kernel_rfl, ?_⟩) (by assumption) ?_
          rotate_left
          · (intro w hSw; (try dsimp only at hSw); go_simp; (try with_reducible rfl))
          (try simp only [List.getElem_toArray, List.getElem_cons_succ, List.getElem_cons_zero, Act.put, List.setIfInBounds_toArray, List.set_cons_zero, List.set_cons_succ])
          refine wpTill_take (i := 2) (oi := _) (v := ?_) rfl (by kernel_rfl) (by kernel_rfl) (by kernel_rfl) (fun _ _ _ h => h) (by kernel_rfl) (by kernel_rfl) (Or.inl ⟨by kernel_rfl, ?_⟩) (by assumption) ?_
          rotate_left
          · (intro w hSw; (try dsimp only at hSw); go_simp; (try with_reducible rfl))
          (try simp only [List.getElem_toArray, List.getElem_cons_succ, List.getElem_cons_zero, Act.put, List.setIfInBounds_toArray, List.set_cons_zero, List.set_cons_succ])
          refine wpTill_take (i := 3) (oi := _) (v := ?_) rfl (by kernel_rfl) (by kernel_rfl) (by kernel_rfl) (fun _ _ _ h => h) (by kernel_rfl) (by kernel_rfl) (Or.inl ⟨by kernel_rfl, ?_⟩) (by assumption) ?_
          rotate_left
          · (intro w hSw; (try dsimp only at hSw); go_simp; (try with_reducible rfl))
          (try simp only [List.getElem_toArray, List.getElem_cons_succ, List.getElem_cons_zero, Act.put, List.setIfInBounds_toArray, List.set_cons_zero, List.set_cons_succ])
          refine wpTill_take (i := 4) (oi := _) (v := ?_) rfl (by kernel_rfl) (by kernel_rfl) (by kernel_rfl) (fun _ _ _ h => h) (by kernel_rfl) (by kernel_rfl) (Or.inl ⟨by kernel_rfl, ?_⟩) (by assumption) ?_
          rotate_left
          · (intro w hSw; (try dsimp only at hSw); go_simp; (try with_reducible rfl))
          (try simp only [List.getElem_toArray, List.getElem_cons_succ, List.getElem_cons_zero, Act.put, List.setIfInBounds_toArray, List.set_cons_zero, List.set_cons_succ])
          refine wpTill_take (i := 5) (oi := _) (v := ?_) rfl (by kernel_rfl) (by kernel_rfl) (by kernel_rfl) (fun _ _ _ h => h) (by kernel_rfl) (by kernel_rfl) (Or.inl ⟨by kernel_rfl, ?_⟩) (by assumption) ?_
          rotate_left
          · (intro w hSw; (try dsimp only at hSw); go_simp; (try with_reducible rfl))
          (try simp only [List.getElem_toArray, List.getElem_cons_succ, List.getElem_cons_zero, Act.put, List.setIfInBounds_toArray, List.set_cons_zero, List.set_cons_succ])
          refine wpTill_take (i := 6) (oi := _) (v := ?_) rfl (by kernel_rfl) (by kernel_rfl) (by kernel_rfl) (fun _ _ _ h => h) (by kernel_rfl) (by kernel_rfl) (Or.inl ⟨by kernel_rfl, ?_⟩) (by assumption) ?_
          rotate_left
          · (intro w hSw; (try dsimp only at hSw); go_simp; (try with_reducible rfl))
          (try simp only [List.getElem_toArray, List.getElem_cons_succ, List.getElem_cons_zero, Act.put, List.setIfInBounds_toArray, List.set_cons_zero, List.set_cons_succ])
          refine wpTill_take (i := 7) (oi := _) (v := ?_) rfl (by kernel_rfl) (by kernel_rfl) (by kernel_rfl) (fun _ _ _ h => h) (by kernel_rfl) (by kernel_rfl) (Or.inl ⟨by kernel_rfl, ?_⟩) (by assumption) ?_
          rotate_left
          · (intro w hSw; (try dsimp only at hSw); go_simp; (try with_reducible rfl))
          (try simp only [List.getElem_toArray, List.getElem_cons_succ, List.getElem_cons_zero, Act.put, List.setIfInBounds_toArray, List.set_cons_zero, List.set_cons_succ])
          refine wpTill_take (i := 8) (oi := _) (v := ?_) rfl (by kernel_rfl) (by kernel_rfl) (by kernel_rfl) (fun _ _ _ h => h) (by kernel_rfl) (by kernel_rfl) (Or.inl ⟨by kernel_rfl, ?_⟩) (by assumption) ?_
          rotate_left
          · (intro w hSw; (try dsimp only at hSw); go_simp; (try with_reducible rfl))
          (try simp only [List.getElem_toArray, List.getElem_cons_succ, List.getElem_cons_zero, Act.put, List.setIfInBounds_toArray, List.set_cons_zero, List.set_cons_succ])
          refine wpTill_take (i := 9) (oi := _) (v := ?_) rfl (by kernel_rfl) (by kernel_rfl) (by kernel_rfl) (fun _ _ _ h => h) (by kernel_rfl) (by kernel_rfl) (Or.inl ⟨by kernel_rfl, ?_⟩) (by assumption) ?_
          rotate_left
          · (intro w hSw; (try dsimp only at hSw); go_simp; (try with_reducible rfl))
          (try simp only [List.getElem_toArray, List.getElem_cons_succ, List.getElem_cons_zero, Act.put, List.setIfInBounds_toArray, List.set_cons_zero, List.set_cons_succ])
          refine wpTill_take (i := 10) (oi := _) (v := ?_) rfl (by kernel_rfl) (by kernel_rfl) (by kernel_rfl) (fun _ _ _ h => h) (by kernel_rfl) (by kernel_rfl) (Or.inl ⟨by kernel_rfl, ?_⟩) (by assumption) ?_
          rotate_left
          · (intro w hSw; (try dsimp only at hSw); go_simp; (try with_reducible rfl))
          (try simp only [List.getElem_toArray, List.getElem_cons_succ, List.getElem_cons_zero, Act.put, List.setIfInBounds_toArray, List.set_cons_zero, List.set_cons_succ])
          refine wpTill_take (i := 11) (oi := _) (v := ?_) rfl (by kernel_rfl) (by kernel_rfl) (by kernel_rfl) (fun _ _ _ h => h) (by kernel_rfl) (by kernel_rfl) (Or.inl ⟨by kernel_rfl, ?_⟩) (by assumption) ?_
          rotate_left
          · (intro w hSw; (try dsimp only at hSw); go_simp; (try with_reducible rfl))
          (try simp only [List.getElem_toArray, List.getElem_cons_succ, List.getElem_cons_zero, Act.put, List.setIfInBounds_toArray, List.set_cons_zero, List.set_cons_succ])
          refine wpTill_take (i := 12) (oi := _) (v := ?_) rfl (by kernel_rfl) (by kernel_rfl) (by kernel_rfl) (fun _ _ _ h => h) (by kernel_rfl) (by kernel_rfl) (Or.inl ⟨by kernel_rfl, ?_⟩) (by assumption) ?_
          rotate_left
          · (intro w hSw; (try dsimp only at hSw); go_simp; (try with_reducible rfl))
          (try simp only [List.getElem_toArray, List.getElem_cons_succ, List.getElem_cons_zero, Act.put, List.setIfInBounds_toArray, List.set_cons_zero, List.set_cons_succ])
          refine wpTill_one (i := 13) (o := _) (by kernel_rfl) rfl (fun K hK => ?_)
          go_simp
          first | refine hK.out _ _ (fun _ => ?_) (fun hHeld => ?_) | (go_wp2_with fail; refine hK.out _ _ (fun _ => ?_) (fun hHeld => ?_))
          · exact ⟨d5, hcj⟩
          replace hHeld := hHeld (by kernel_rfl)
          clear hK K
          (try simp only [List.getElem_toArray, List.getElem_cons_succ, List.getElem_cons_zero, Act.put, List.setIfInBounds_toArray, List.set_cons_zero, List.set_cons_succ])
          refine wpTill_one (i := 14) (o := _) (by kernel_rfl) rfl (fun K hK => ?_)
          go_simp
          refine hK.out _ _ (fun h => absurd h (by simp)) (fun hHeld => ?_)
          clear hK K
          (try simp only [List.getElem_toArray, List.getElem_cons_succ, List.getElem_cons_zero, Act.put, List.setIfInBounds_toArray, List.set_cons_zero, List.set_cons_succ])
          refine wpTill_done (by kernel_rfl) ?_ _
          refine NoPanic.normal ?_
          (try go_simp)
          go_wp2_with fail
          go_round
          case measure => simp [intOf]
          case rel => exact ⟨j, pj, by omega, by omega, by go_num, by rw [← HPJ.out] at HST ⊢; exact HST.out, (HF5.out.trans (Fr.setCell (p := ⟨gB, j + 1, none⟩) _) (fun x hx => .inl hx)).up (upD (up0 _) 1)⟩
        · have hki' : i = k := by omega
          subst hki'
          have hck := own_cellN hown (j := i) (by omega)
          have hfk := hown.frozenAt i
          have hst := own_setN hown (j := i) (x := L.length)
          rw [last_set (by omega) z] at hst
          -- what the blocks are
          have hvL : vL.ownBlock ≠ some g := own_ne_cells H.out.rowL H.out.head (by decide)
          have hvLB : ∀ q, vB.ownBlock = some q → vL.ownBlock ≠ some q := fun q hq => own_ne_own H.out.rowL H.out.rowB (by decide) hq
          have hLlt : ∀ q, vL.ownBlock = some q → q < w.heap.size := fun q hq => (H.out.rowL.lt q hq).2
          have hat3' : vB.ownBlock = some gB ∨ w.heap.size < gB := by
            rcases hat3 with h | h
            · left; rw [eB]; exact h
            · right; have := HB2.out.size; omega
          have hvLg : vL.ownBlock ≠ some gB := fun e => by
            rcases hat3' with h | h
            · exact hvLB gB h e
            · have := hLlt gB e; omega
          have hFB : Fr (fun q => vB.ownBlock = some q) w2 w3 := by rw [eB]; exact HF3.out
          have hF6 : Fr (fun q => q = g ∨ q = gB ∨ vB.ownBlock = some q) w (wo.setCell ⟨gB, i, none⟩ (.int .i64 (L.length : Int))) := by
            have a1 : Fr (fun q => q = g ∨ q = gB ∨ vB.ownBlock = some q) w w3 := (Fr.of_below HB2.out).trans (hFB.wider (S' := fun q => q = g ∨ q = gB ∨ vB.ownBlock = some q) (fun q _ hq => .inr (.inr hq))) (fun x hx => .inl hx)
            have a2 := a1.trans (Fr.setCell (p := ⟨g, 2, none⟩) (.slice (some ⟨gB, 0, none⟩) (L.length + 1) capB)) (fun x hx => .inl (.inl hx))
            rw [HW4.out] at a2
            exact (a2.trans hF5 (fun x hx => .inl (.inr (.inl hx)))).trans (Fr.setCell _) (fun x hx => .inl (.inr (.inl hx)))
          have hd6 : (wo.setCell ⟨gB, i, none⟩ (.int .i64 (L.length : Int))).heap[g]? = some (.cells #[.int .i64 most, vL, .slice (some ⟨gB, 0, none⟩) (L.length + 1) capB] 45 (0, 0)) := by
            have a1 := HD4.out
            have hW4s : g < W4.heap.size := by rw [← HW4.out]; simp; exact (Array.getElem?_eq_some_iff.1 HD3.out).1
            rw [heap_setCell_other _ _ _ _ (show g ≠ (⟨gB, i, none⟩ : Addr).block from fun e => hgB1 e.symm), hF5.block g hW4s (fun e => hgB1 e.symm), a1]
            simp
          have hrL : (wo.setCell ⟨gB, i, none⟩ (.int .i64 (L.length : Int))).ownsRow 0 9 1 (.slice AL L.length cL) L.length (L.map strV) := by
            have := own_fr H.out.rowL hF6 (fun q hq e => by
              rcases e with e | e | e
              · exact hvL (by rw [hq, e])
              · exact hvLg (by rw [hq, e])
              · exact hvLB q e hq)
            rw [eL] at this
            exact this
          have hk6 : Rd (wo.setCell ⟨gB, i, none⟩ (.int .i64 (L.length : Int))) (wo.setCell ⟨gB, i, none⟩ (.int .i64 (L.length : Int))).heap.size A (key.map (Value.int .u8)) := HK.out.fr0 hF6 (fun ad hn e e2 => by
            have h8 := HA.out ad (by simpa using hn) e
            rcases e2 with e2 | e2 | e2
            · exact h8 (by rw [e2]; exact H.out.foot.1)
            · rcases hat3' with h | h
              · exact h8 (H.out.foot.2.2 _ (by rw [e2]; exact h))
              · obtain ⟨ad', e', hb, _⟩ := HK.out hn
                rw [e] at e'
                cases e'
                omega
            · exact h8 (H.out.foot.2.2 _ e2))
          have d1 : wo.cell? ⟨g, 1, none⟩ = some (.slice AL L.length cL) := by
            have a1 : (wo.setCell ⟨gB, i, none⟩ (.int .i64 (L.length : Int))).cell? ⟨g, 1, none⟩ = some (.slice AL L.length cL) := by rw [cell_of_row _ g 1 _ _ _ hd6, ← eL]; rfl
            rwa [World.cell?_setCell_other _ _ _ _ (fun e => hgB1 (congrArg Addr.block e))] at a1
          have hconv := conv_any (P := Try.prog) (c := c) hk6.drew1.drew1 rfl 25 5 9 Try.underlying25 Try.underlying5 Try.underlying9
          have d16 : (wo.setCell ⟨gB, i, none⟩ (.int .i64 (L.length : Int))).cell? ⟨g, 1, none⟩ = some (.slice AL L.length cL) := by rw [cell_of_row _ g 1 _ _ _ hd6, ← eL]; rfl
          have hg6 : g < (wo.setCell ⟨gB, i, none⟩ (.int .i64 (L.length : Int))).heap.size := (Array.getElem?_eq_some_iff.1 hd6).1
          have i0' : (0 : Int) ≤ (i : Int) := by omega
          have i1' : (i : Int) < (L.length : Int) + 1 := by omega
          have HST := Lib.hid hst; have HD6 := Lib.hid hd6; have HF6 := Lib.hid hF6; have HRL := Lib.hid hrL; have HK6 := Lib.hid hk6; have HCV := Lib.hid hconv
          clear hst hd6 hF6 hrL hk6 hF5 hown hFB hconv
          generalize (p.take i ++ z :: p.drop i).getD i 0 = old at *
          go_wp2_with fail
          refine wp_region_noPanic ?_
          refine wp_region_till 11 (fun w' => w'.cell? ⟨g, 2, none⟩ = some (.slice (some ⟨gB, 0, none⟩) (L.length + 1) capB) ∧ w'.cell? ⟨g, 1, none⟩ = some (.slice AL L.length cL)) (by kernel_rfl) ?_ (fun hHeld => ?_)
          · exact ⟨d5, d1⟩
          refine wpTill_take (i := 0) (oi := _) (v := ?_) rfl (by kernel_rfl) (by kernel_rfl) (by kernel_rfl) (fun _ _ _ h => h) (by kernel_rfl) (by kernel_rfl) (Or.inl ⟨by kernel_rfl, ?_⟩) (by assumption) ?_
          rotate_left
          · (intro w hSw; (try dsimp only at hSw); go_simp; (try with_reducible rfl))
          (try simp only [List.getElem_toArray, List.getElem_cons_succ, List.getElem_cons_zero, Act.put, List.setIfInBounds_toArray, List.set_cons_zero, List.set_cons_succ])
          refine wpTill_take (i := 1) (oi := _) (v := ?_) rfl (by kernel_rfl) (by kernel_rfl) (by kernel_rfl) (fun _ _ _ h => h) (by kernel_rfl) (by kernel_rfl) (Or.inl ⟨by kernel_rfl, ?_⟩) (by assumption) ?_
          rotate_left
          · (intro w hSw; (try dsimp only at hSw); go_simp; (try with_reducible rfl))
          (try simp only [List.getElem_toArray, List.getElem_cons_succ, List.getElem_cons_zero, Act.put, List.setIfInBounds_toArray, List.set_cons_zero, List.set_cons_succ])
          refine wpTill_take (i := 2) (oi := _) (v := ?_) rfl (by kernel_rfl) (by kernel_rfl) (by kernel_rfl) (fun _ _ _ h => h) (by kernel_rfl) (by kernel_rfl) (Or.inl ⟨by kernel_rfl, ?_⟩) (by assumption) ?_
          rotate_left
          · (intro w hSw; (try dsimp only at hSw); go_simp; (try with_reducible rfl))
          (try simp only [List.getElem_toArray, List.getElem_cons_succ, List.getElem_cons_zero, Act.put, List.setIfInBounds_toArray, List.set_cons_zero, List.set_cons_succ])
          refine wpTill_take (i := 3) (oi := _) (v := ?_) rfl (by kernel_rfl) (by kernel_rfl) (by kernel_rfl) (fun _ _ _ h => h) (by kernel_rfl) (by kernel_rfl) (Or.inl ⟨by kernel_rfl, ?_⟩) (by assumption) ?_
          rotate_left
          · (intro w hSw; (try dsimp only at hSw); go_simp; (try with_reducible rfl))
          (try simp only [List.getElem_toArray, List.getElem_cons_succ, List.getElem_cons_zero, Act.put, List.setIfInBounds_toArray, List.set_cons_zero, List.set_cons_succ])
          refine wpTill_take (i := 4) (oi := _) (v := ?_) rfl (by kernel_rfl) (by kernel_rfl) (by kernel_rfl) (fun _ _ _ h => h) (by kernel_rfl) (by kernel_rfl) (Or.inl ⟨by kernel_rfl, ?_⟩) (by assumption) ?_
          rotate_left
          · (intro w hSw; (try dsimp only at hSw); go_simp; (try with_reducible rfl))
          (try simp only [List.getElem_toArray, List.getElem_cons_succ, List.getElem_cons_zero, Act.put, List.setIfInBounds_toArray, List.set_cons_zero, List.set_cons_succ])
          refine wpTill_take (i := 5) (oi := _) (v := ?_) rfl (by kernel_rfl) (by kernel_rfl) (by kernel_rfl) (fun _ _ _ h => h) (by kernel_rfl) (by kernel_rfl) (Or.inl ⟨by kernel_rfl, ?_⟩) (by assumption) ?_
          rotate_left
          · (intro w hSw; (try dsimp only at hSw); go_simp; (try with_reducible rfl))
          (try simp only [List.getElem_toArray, List.getElem_cons_succ, List.getElem_cons_zero, Act.put, List.setIfInBounds_toArray, List.set_cons_zero, List.set_cons_succ])
          refine wpTill_take (i := 6) (oi := _) (v := ?_) rfl (by kernel_rfl) (by kernel_rfl) (by kernel_rfl) (fun _ _ _ h => h) (by kernel_rfl) (by kernel_rfl) (Or.inl ⟨by kernel_rfl, ?_⟩) (by assumption) ?_
          rotate_left
          · (intro w hSw; (try dsimp only at hSw); go_simp; (try with_reducible rfl))
          (try simp only [List.getElem_toArray, List.getElem_cons_succ, List.getElem_cons_zero, Act.put, List.setIfInBounds_toArray, List.set_cons_zero, List.set_cons_succ])
          refine wpTill_take (i := 7) (oi := _) (v := ?_) rfl (by kernel_rfl) (by kernel_rfl) (by kernel_rfl) (fun _ _ _ h => h) (by kernel_rfl) (by kernel_rfl) (Or.inl ⟨by kernel_rfl, ?_⟩) (by assumption) ?_
          rotate_left
          · (intro w hSw; (try dsimp only at hSw); go_simp; (try with_reducible rfl))
          (try simp only [List.getElem_toArray, List.getElem_cons_succ, List.getElem_cons_zero, Act.put, List.setIfInBounds_toArray, List.set_cons_zero, List.set_cons_succ])
          refine wpTill_take (i := 8) (oi := _) (v := ?_) rfl (by kernel_rfl) (by kernel_rfl) (by kernel_rfl) (fun _ _ _ h => h) (by kernel_rfl) (by kernel_rfl) (Or.inl ⟨by kernel_rfl, ?_⟩) (by assumption) ?_
          rotate_left
          · (intro w hSw; (try dsimp only at hSw); go_simp; (try with_reducible rfl))
          (try simp only [List.getElem_toArray, List.getElem_cons_succ, List.getElem_cons_zero, Act.put, List.setIfInBounds_toArray, List.set_cons_zero, List.set_cons_succ])
          refine wpTill_take (i := 9) (oi := _) (v := ?_) rfl (by kernel_rfl) (by kernel_rfl) (by kernel_rfl) (fun _ _ _ h => h) (by kernel_rfl) (by kernel_rfl) (Or.inl ⟨by kernel_rfl, ?_⟩) (by assumption) ?_
          rotate_left
          · (intro w hSw; (try dsimp only at hSw); go_simp; (try with_reducible rfl))
          (try simp only [List.getElem_toArray, List.getElem_cons_succ, List.getElem_cons_zero, Act.put, List.setIfInBounds_toArray, List.set_cons_zero, List.set_cons_succ])
          refine wpTill_one (i := 10) (o := _) (by kernel_rfl) rfl (fun K hK => ?_)
          go_simp
          first | refine hK.out _ _ (fun _ => ?_) (fun hHeld => ?_) | (go_wp2_with fail; refine hK.out _ _ (fun _ => ?_) (fun hHeld => ?_))
          · exact ⟨d5, d1⟩
          replace hHeld := hHeld (by kernel_rfl)
          clear hK K
          (try simp only [List.getElem_toArray, List.getElem_cons_succ, List.getElem_cons_zero, Act.put, List.setIfInBounds_toArray, List.set_cons_zero, List.set_cons_succ])
          refine wpTill_one (i := 11) (o := _) (by kernel_rfl) rfl (fun K hK => ?_)
          go_simp
          refine hK.out _ _ (fun h => absurd h (by simp)) (fun hHeld => ?_)
          clear hK K
          (try simp only [List.getElem_toArray, List.getElem_cons_succ, List.getElem_cons_zero, Act.put, List.setIfInBounds_toArray, List.set_cons_zero, List.set_cons_succ])
          refine wpTill_done (by kernel_rfl) ?_ _
          refine NoPanic.normal ?_
          (try go_simp)
          generalize hW6 : wo.setCell ⟨gB, i, none⟩ (.int .i64 (L.length : Int)) = W6 at *
          have hcv := HCV.out
          go_wp2_with fail
          have hownL : (W6.drew.drew.alloc (.cells #[.string (strOfNums key)] 9)).ownsRow 0 9 1 (.slice AL L.length cL) L.length (L.map strV) := (HRL.out : W6.drew.drew.ownsRow 0 9 1 (.slice AL L.length cL) L.length (L.map strV)).alloc _
          have hnL : (Value.slice AL L.length cL).ownBlock ≠ some g := by rw [← eL]; exact hvL
          refine wp_region_noPanic ?_
          refine wp_region_till 11 (fun w' => w'.cell? ⟨g, 1, none⟩ = some (.slice AL L.length cL)) (by kernel_rfl) ?_ (fun hHeld => ?_)
          · exact d16
          refine wpTill_take (i := 0) (oi := _) (v := ?_) rfl (by kernel_rfl) (by kernel_rfl) (by kernel_rfl) (fun _ _ _ h => h) (by kernel_rfl) (by kernel_rfl) (Or.inl ⟨by kernel_rfl, ?_⟩) (by assumption) ?_
          rotate_left
          · (intro w hSw; (try dsimp only at hSw); go_simp; (try with_reducible rfl))
          (try simp only [List.getElem_toArray, List.getElem_cons_succ, List.getElem_cons_zero, Act.put, List.setIfInBounds_toArray, List.set_cons_zero, List.set_cons_succ])
          refine wpTill_take (i := 1) (oi := _) (v := ?_) rfl (by kernel_rfl) (by kernel_rfl) (by kernel_rfl) (fun _ _ _ h => h) (by kernel_rfl) (by kernel_rfl) (Or.inl ⟨by kernel_rfl, ?_⟩) (by assumption) ?_
          rotate_left
          · (intro w hSw; (try dsimp only at hSw); go_simp; (try with_reducible rfl))
          (try simp only [List.getElem_toArray, List.getElem_cons_succ, List.getElem_cons_zero, Act.put, List.setIfInBounds_toArray, List.set_cons_zero, List.set_cons_succ])
          refine wpTill_take (i := 2) (oi := _) (v := ?_) rfl (by kernel_rfl) (by kernel_rfl) (by kernel_rfl) (fun _ _ _ h => h) (by kernel_rfl) (by kernel_rfl) (Or.inl ⟨by kernel_rfl, ?_⟩) (by assumption) ?_
          rotate_left
          · (intro w hSw; (try dsimp only at hSw); go_simp; (try with_reducible rfl))
          (try simp only [List.getElem_toArray, List.getElem_cons_succ, List.getElem_cons_zero, Act.put, List.setIfInBounds_toArray, List.set_cons_zero, List.set_cons_succ])
          refine wpTill_take (i := 3) (oi := _) (v := ?_) rfl (by kernel_rfl) (by kernel_rfl) (by kernel_rfl) (fun _ _ _ h => h) (by kernel_rfl) (by kernel_rfl) (Or.inl ⟨by kernel_rfl, ?_⟩) (by assumption) ?_
          rotate_left
          · (intro w hSw; (try dsimp only at hSw); go_simp; (try with_reducible rfl))
          (try simp only [List.getElem_toArray, List.getElem_cons_succ, List.getElem_cons_zero, Act.put, List.setIfInBounds_toArray, List.set_cons_zero, List.set_cons_succ])
          refine wpTill_take (i := 4) (oi := _) (v := ?_) rfl (by kernel_rfl) (by kernel_rfl) (by kernel_rfl) (fun _ _ _ h => h) (by kernel_rfl) (by kernel_rfl) (Or.inl ⟨by kernel_rfl, ?_⟩) (by assumption) ?_
          rotate_left
          · (intro w hSw; (try dsimp only at hSw); go_simp; (try with_reducible rfl))
          (try simp only [List.getElem_toArray, List.getElem_cons_succ, List.getElem_cons_zero, Act.put, List.setIfInBounds_toArray, List.set_cons_zero, List.set_cons_succ])
          refine wpTill_take (i := 5) (oi := _) (v := ?_) rfl (by kernel_rfl) (by kernel_rfl) (by kernel_rfl) (fun _ _ _ h => h) (by kernel_rfl) (by kernel_rfl) (Or.inl ⟨by kernel_rfl, ?_⟩) (by assumption) ?_
          rotate_left
          · (intro w hSw; (try dsimp only at hSw); go_simp; (try with_reducible rfl))
          (try simp only [List.getElem_toArray, List.getElem_cons_succ, List.getElem_cons_zero, Act.put, List.setIfInBounds_toArray, List.set_cons_zero, List.set_cons_succ])
          refine wpTill_one (i := 6) (o := _) (by kernel_rfl) rfl (fun K hK => ?_)
          go_simp
          first | refine hK.out _ _ (fun _ => ?_) (fun hHeld => ?_) | (go_wp2_with fail; refine hK.out _ _ (fun _ => ?_) (fun hHeld => ?_))
          · exact d16
          replace hHeld := hHeld (by kernel_rfl)
          clear hK K
          (try simp only [List.getElem_toArray, List.getElem_cons_succ, List.getElem_cons_zero, Act.put, List.setIfInBounds_toArray, List.set_cons_zero, List.set_cons_succ])
          refine wpTill_one (i := 7) (o := _) (by kernel_rfl) rfl (fun K hK => ?_)
          go_simp
          first | refine hK.out _ _ (fun _ => ?_) (fun hHeld => ?_) | (go_wp2_with fail; refine hK.out _ _ (fun _ => ?_) (fun hHeld => ?_))
          · exact (World.cell?_alloc_lt _ _ _ hg6).trans d16
          replace hHeld := hHeld (by kernel_rfl)
          clear hK K
          (try simp only [List.getElem_toArray, List.getElem_cons_succ, List.getElem_cons_zero, Act.put, List.setIfInBounds_toArray, List.set_cons_zero, List.set_cons_succ])
          refine wpTill_one (i := 8) (o := _) (by kernel_rfl) rfl (fun K hK => ?_)
          refine step_append_lies _ rfl (.tmp 81) (.tmp 84) 43 rfl 0 9 i9 _ 1 16 Try.underlying43 hi9 hz9 hs9 hb9 rfl (by omega) _ L.length (L.map strV) (by rfl) hownL ⟨W6.heap.size, 0, none⟩ 1 1 [.string (strOfNums key)] rfl (by simp) (cell_one_new _ _ _) (by intro u hu; simp at hu; rw [hu]; rfl) (by omega) (by simp only [maxLen]; omega) (by omega) (by omega) (W6.heap.size + 1) (by simp) ?_
          intro gL capL w7 hown7 hgr7 hat7 hlt7
          first | refine hK.out _ _ (fun _ => ?_) (fun hHeld => ?_) | (go_wp2_with fail; refine hK.out _ _ (fun _ => ?_) (fun hHeld => ?_))
          · exact (hgr7.cell_far ⟨g, 1, none⟩ (by simp; omega) (fun e => hnL e.symm)).trans ((World.cell?_alloc_lt _ _ _ hg6).trans d16)
          replace hHeld := hHeld (by kernel_rfl)
          clear hK K
          (try simp only [List.getElem_toArray, List.getElem_cons_succ, List.getElem_cons_zero, Act.put, List.setIfInBounds_toArray, List.set_cons_zero, List.set_cons_succ])
          refine wpTill_one (i := 9) (o := _) (by kernel_rfl) rfl (fun K hK => ?_)
          go_simp
          first | refine hK.out _ _ (fun _ => ?_) (fun hHeld => ?_) | (go_wp2_with fail; refine hK.out _ _ (fun _ => ?_) (fun hHeld => ?_))
          · exact (hgr7.cell_far ⟨g, 1, none⟩ (by simp; omega) (fun e => hnL e.symm)).trans ((World.cell?_alloc_lt _ _ _ hg6).trans d16)
          replace hHeld := hHeld (by kernel_rfl)
          clear hK K
          (try simp only [List.getElem_toArray, List.getElem_cons_succ, List.getElem_cons_zero, Act.put, List.setIfInBounds_toArray, List.set_cons_zero, List.set_cons_succ])
          refine wpTill_one (i := 10) (o := _) (by kernel_rfl) rfl (fun K hK => ?_)
          go_simp
          first | refine hK.out _ _ (fun _ => ?_) (fun hHeld => ?_) | (go_wp2_with fail; refine hK.out _ _ (fun _ => ?_) (fun hHeld => ?_))
          · exact (hgr7.cell_far ⟨g, 1, none⟩ (by simp; omega) (fun e => hnL e.symm)).trans ((World.cell?_alloc_lt _ _ _ hg6).trans d16)
          replace hHeld := hHeld (by kernel_rfl)
          clear hK K
          (try simp only [List.getElem_toArray, List.getElem_cons_succ, List.getElem_cons_zero, Act.put, List.setIfInBounds_toArray, List.set_cons_zero, List.set_cons_succ])
          have hF7 : Fr (fun q => vL.ownBlock = some q) W6 w7 := by
            rw [eL]
            exact (Fr.of_below (S := fun q => (Value.slice AL L.length cL).ownBlock = some q) (w := W6) (upA (upD (up0 W6) 2) _)).trans (Fr.of_grown hgr7) (fun x hx => .inl hx)
          have hd7 := (hF7.block g hg6 (fun e => hvL e)).trans HD6.out
          have c17 : w7.cell? ⟨g, 1, none⟩ = some vL := by rw [cell_of_row _ g 1 _ _ _ hd7]; rfl
          have f17 : w7.frozen? ⟨g, 1, none⟩ = false := frozen_of_row _ _ _ _ _ hd7
          have hd8 := heap_setCell_same w7 g 1 _ _ (.slice (some ⟨gL, 0, none⟩) (L.length + 1) capL) hd7
          have c18 : (w7.setCell ⟨g, 1, none⟩ (.slice (some ⟨gL, 0, none⟩) (L.length + 1) capL)).cell? ⟨g, 1, none⟩ = some (.slice (some ⟨gL, 0, none⟩) (L.length + 1) capL) := by rw [cell_of_row _ g 1 _ _ _ hd8]; rfl
          have HO7 := Lib.hid hown7; have HF7 := Lib.hid hF7; have HD8 := Lib.hid hd8
          clear hd7 hd8 hown7 hF7 hgr7
          refine wpTill_one (i := 11) (o := _) (by kernel_rfl) rfl (fun K hK => ?_)
          go_simp
          refine hK.out _ _ (fun h => absurd h (by simp)) (fun hHeld => ?_)
          clear hK K
          (try simp only [List.getElem_toArray, List.getElem_cons_succ, List.getElem_cons_zero, Act.put, List.setIfInBounds_toArray, List.set_cons_zero, List.set_cons_succ])
          refine wpTill_done (by kernel_rfl) ?_ _
          refine NoPanic.normal ?_
          (try go_simp)
          generalize hW8 : w7.setCell ⟨g, 1, none⟩ (.slice (some ⟨gL, 0, none⟩) (L.length + 1) capL) = W8 at *
          go_wp2_with fail
          go_ret3
          have hlocL : vL.ownBlock = some gL ∨ w.heap.size < gL := by
            rcases hat7 with h | h
            · left; rw [eL]; exact h
            · right; have := HF6.out.size; omega
          have hgL : gL ≠ g := fun e => by
            rcases hlocL with h | h
            · exact hvL (by rw [h, e])
            · omega
          have hvBg : vB.ownBlock ≠ some g := by rw [eB]; exact hnB
          have hBL : gB ≠ gL := fun e => by
            have hlt6 : gB < W6.heap.size := (HST.out.lt gB rfl).2
            rcases hlocL with h | h
            · exact hvLg (by rw [h, e])
            · rcases hat7 with h2 | h2
              · have := hLlt gL (by rw [eL]; exact h2); omega
              · omega
          have hrow8 : W8.ownsRow 0 9 1 (.slice (some ⟨gL, 0, none⟩) (L.length + 1) capL) (L.length + 1) ((L ++ [key]).map strV) := by
            rw [← hW8]
            have := own_fr HO7.out (Fr.setCell (p := ⟨g, 1, none⟩) (.slice (some ⟨gL, 0, none⟩) (L.length + 1) capL)) (fun q hq e => by simp [Value.ownBlock] at hq; exact hgL (hq.trans e))
            simpa [strV] using this
          have hrowB8 : W8.ownsRow 0 3 1 (.slice (some ⟨gB, 0, none⟩) (L.length + 1) capB) (L.length + 1) ((p.take i ++ L.length :: p.drop i).map intV) := by
            rw [← hW8]
            exact own_fr (own_fr HST.out HF7.out (fun q hq e => by simp [Value.ownBlock] at hq; subst hq; exact hvLg e)) (Fr.setCell (p := ⟨g, 1, none⟩) _) (fun q hq e => by simp [Value.ownBlock] at hq; exact hgB1 (hq.trans e))
          have hfin : Fr S w W8 := by
            rw [← hW8]
            have a1 := (HF6.out.wider (S' := fun q => q = g ∨ q = gB ∨ vB.ownBlock = some q ∨ vL.ownBlock = some q) (fun q _ hq => by rcases hq with h | h | h; exact .inl h; exact .inr (.inl h); exact .inr (.inr (.inl h)))).trans HF7.out (fun x hx => .inl (.inr (.inr (.inr hx))))
            have a2 := a1.trans (Fr.setCell (p := ⟨g, 1, none⟩) (.slice (some ⟨gL, 0, none⟩) (L.length + 1) capL)) (fun x hx => .inl (.inl hx))
            refine a2.wider (fun q hq hs => ?_)
            rcases hs with h | h | h | h
            · rw [h]; exact H.out.foot.1
            · rcases hat3' with h2 | h2
              · exact H.out.foot.2.2 _ (by rw [h]; exact h2)
              · omega
            · exact H.out.foot.2.2 _ h
            · exact H.out.foot.2.1 _ h
          have hsz8 : W8.heap.size = w7.heap.size := by rw [← hW8]; simp
          have hok := H.out.ok.insert (k := key) (Os.idx_none.1 HI.out) (fun x hx => (H.out.bytes x hx).1) HB.out
          rw [HKK.out] at hok
          refine ⟨rfl, fun q => S q ∨ (w.heap.size ≤ q ∧ q < W8.heap.size), ⟨p.take i ++ L.length :: p.drop i, .slice (some ⟨gL, 0, none⟩) (L.length + 1) capL, .slice (some ⟨gB, 0, none⟩) (L.length + 1) capB, ⟨by rw [HD8.out]; simp, ?_, ?_, ⟨.inl H.out.foot.1, fun q hq => ?_, fun q hq => ?_⟩, fun q hq => ?_, hok, fun x hx => ?_, by simp; omega⟩⟩, hfin, fun q hq => hq.imp id (fun h => h.1)⟩
          · rw [List.length_append]; exact hrow8
          · have e : (p.take i ++ L.length :: p.drop i).length = L.length + 1 := by simp; omega
            rw [e]; exact hrowB8
          · simp [Value.ownBlock] at hq
            subst hq
            rcases hlocL with h | h
            · exact .inl (H.out.foot.2.1 _ h)
            · exact .inr ⟨by omega, by omega⟩
          · simp [Value.ownBlock] at hq
            subst hq
            rcases hat3' with h | h
            · exact .inl (H.out.foot.2.2 _ h)
            · exact .inr ⟨by omega, (hrowB8.lt _ rfl).2⟩
          · rcases hq with h | h
            · exact Nat.lt_of_lt_of_le (H.out.lt q h) hfin.size
            · exact h.2
          · rcases List.mem_append.1 hx with h | h
            · exact H.out.bytes x h
            · simp at h; subst h; exact ⟨HB.out, hs⟩
end Go.Proofs.Ytlmchkajlecmeaa
