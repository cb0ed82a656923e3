/- The walk of CodeNone: it answers true, whatever it is given. -/
import Derived.Test.YtndobndaikhalaaAwake2
import Derived.Test.YtndobndaikhalaaWdMath
import Derived.Deep.RegionHeld3
import Derived.StillTailTactics
import Derived.Laws.IdiomStrings
set_option linter.unusedVariables false
set_option linter.unusedSimpArgs false
namespace Go.Proofs.Ytndobndaikhalaa
open Go.RowKit
/-- the rows' bytes, and whether they are a row of numbers -/
def noL : List (List Int × Bool) := [([], true), ([0], true), ([254], true), ([255], false), ([255, 0, 0, 0, 0, 0, 0, 0], false), ([255, 0, 0, 0, 0, 0, 0, 0, 0], false), ([255, 0, 0, 0, 0, 0, 0, 0, 253], false), ([255, 0, 0, 0, 0, 0, 0, 0, 254], true), ([255, 255, 255, 255, 255, 255, 255, 255, 255], false), ([255, 255, 255, 255, 255, 255, 255, 255, 254], true), ([255, 127, 255, 255, 255, 255, 255, 255, 255, 5], true), ([5, 255, 128, 0, 0, 0, 0, 0, 0, 0], true), ([5, 255, 128], false)]
def noB (q : Nat) : List Int := (noL.getD q ([], true)).1
def noK (q : Nat) : Bool := (noL.getD q ([], true)).2
def noR (q : Nat) : Option (List Int) := ([some [], some [-1], some [253], none, none, none, none, some [254], none, some [-2], some [9223372036854775807, 4], some [4, -9223372036854775808], none] : List (Option (List Int))).getD q none
def noT (q : Nat) : Bool := decide (∀ x ∈ noB q, 0 ≤ x ∧ x < 256) && decide ((noB q).length ≤ 10) && decide (Cd.getL (noB q) = noR q) && (match noR q with
  | some l => noK q && decide (Cd.putL l = noB q) && decide (∀ x ∈ l, -9223372036854775808 ≤ x ∧ x < 9223372036854775808) && decide (l.length ≤ 10)
  | none => !noK q)
theorem no_facts (q : Nat) (h : q < 13) : noT q = true := by
  rcases (by omega : q = 0 ∨ q = 1 ∨ q = 2 ∨ q = 3 ∨ q = 4 ∨ q = 5 ∨ q = 6 ∨ q = 7 ∨ q = 8 ∨ q = 9 ∨ q = 10 ∨ q = 11 ∨ q = 12) with rfl | rfl | rfl | rfl | rfl | rfl | rfl | rfl | rfl | rfl | rfl | rfl | rfl
  all_goals decide +kernel
theorem no_yes (q : Nat) (h : q < 13) : Cd.isB (noB q) ∧ (noB q).length ≤ 10 ∧ ((noK q = false ∧ Cd.getL (noB q) = none) ∨ (∃ l, noK q = true ∧ Cd.getL (noB q) = some l ∧ Cd.putL l = noB q ∧ Cd.isI l ∧ l.length ≤ 10)) := by
  have h := no_facts q h
  unfold noT at h
  simp only [Bool.and_eq_true, decide_eq_true_eq] at h
  obtain ⟨⟨⟨h1, h2⟩, h3⟩, h4⟩ := h
  refine ⟨h1, h2, ?_⟩
  rw [h3]
  cases hr : noR q with
  | none => rw [hr] at h4; exact .inl ⟨by simpa using h4, rfl⟩
  | some l =>
    rw [hr] at h4
    simp only [Bool.and_eq_true, decide_eq_true_eq] at h4
    exact .inr ⟨l, h4.1.1.1, rfl, h4.1.1.2, h4.1.2, h4.2⟩
abbrev noRow : Array Value := #[.string ⟨#[]⟩, .bool true, .string ⟨#[0]⟩, .bool true, .string ⟨#[254]⟩, .bool true, .string ⟨#[255]⟩, .bool false, .string ⟨#[255, 0, 0, 0, 0, 0, 0, 0]⟩, .bool false, .string ⟨#[255, 0, 0, 0, 0, 0, 0, 0, 0]⟩, .bool false, .string ⟨#[255, 0, 0, 0, 0, 0, 0, 0, 253]⟩, .bool false, .string ⟨#[255, 0, 0, 0, 0, 0, 0, 0, 254]⟩, .bool true, .string ⟨#[255, 255, 255, 255, 255, 255, 255, 255, 255]⟩, .bool false, .string ⟨#[255, 255, 255, 255, 255, 255, 255, 255, 254]⟩, .bool true, .string ⟨#[255, 127, 255, 255, 255, 255, 255, 255, 255, 5]⟩, .bool true, .string ⟨#[5, 255, 128, 0, 0, 0, 0, 0, 0, 0]⟩, .bool true, .string ⟨#[5, 255, 128]⟩, .bool false]
theorem no_get (q : Nat) (h : q < 13) : noRow[q * 2]? = some (.string (strOfNums (noB q))) ∧ noRow[q * 2 + 1]? = some (.bool (noK q)) := by
  rcases (by omega : q = 0 ∨ q = 1 ∨ q = 2 ∨ q = 3 ∨ q = 4 ∨ q = 5 ∨ q = 6 ∨ q = 7 ∨ q = 8 ∨ q = 9 ∨ q = 10 ∨ q = 11 ∨ q = 12) with rfl | rfl | rfl | rfl | rfl | rfl | rfl | rfl | rfl | rfl | rfl | rfl | rfl
  all_goals exact ⟨rfl, rfl⟩
theorem no_cell (w : World) (q : Nat) (h : q < 13) : (w.alloc (.cells noRow 30)).cell? ⟨w.heap.size, q * 2, none⟩ = some (.string (strOfNums (noB q))) ∧ (w.alloc (.cells noRow 30)).cell? ⟨w.heap.size, q * 2 + 1, none⟩ = some (.bool (noK q)) := by
  have g := no_get q h
  have h1 : (w.alloc (.cells noRow 30)).heap[w.heap.size]? = some (.cells noRow 30) := by
    show (w.heap.push _)[w.heap.size]? = _
    simp
  constructor
  · rw [cell_of_row _ _ _ _ _ _ h1]; exact g.1
  · rw [cell_of_row _ _ _ _ _ _ h1]; exact g.2
set_option maxRecDepth 100000 in
set_option maxHeartbeats 20000000 in
theorem walk_CodeNone (c0 : Int) (w : World) : Calls Try.prog 4 #[.int .i64 c0] w (RetB (.bool true) w) := by
  obtain ⟨q, hq, m255⟩ : ∃ q : Nat, q < 13 ∧ (bits .and .i64 c0 255) % 13 = q := ⟨(c0 % 256 % 13).toNat, by omega, by have := Wd.bits_mask c0 8 (by omega); rw [show (255 : Int) = 2 ^ 8 - 1 from rfl, this]; omega⟩
  have b0 : 0 ≤ bits .and .i64 c0 255 := by have := Wd.bits_mask c0 8 (by omega); rw [show (255 : Int) = 2 ^ 8 - 1 from rfl, this]; omega
  obtain ⟨d0, d1⟩ := no_cell w q hq
  obtain ⟨f1, f2, f3⟩ := no_yes q hq
  generalize noB q = bs at *
  generalize noK q = ok at *
  have F1 := Lib.hid f1
  have F3 := Lib.hid f3
  clear f1 f3
  go_enter Try.func4, Try.ntmps4
  go_wp2_with fail
  obtain ⟨A1, c1, w1, hrun, hc1, hm1, hr1, hb1⟩ := str_bytes (P := Try.prog) ((w.alloc (.cells noRow 30)).alloc (.cells #[.string (strOfNums bs), .bool ok] 30)) bs F1.out (by omega) 9 24 5 Try.underlying9 Try.underlying24 Try.underlying5
  rw [hrun]
  simp only [Result.andThen]
  rw [Oper.upon_value]
  clear hrun
  have e0 : w1.cell? ⟨w.heap.size + 1, 0, none⟩ = some (.string (strOfNums bs)) := by
    rw [hb1.cell (p := ⟨w.heap.size + 1, 0, none⟩) (by simp), World.cell?_alloc_at _ _ _ _ (by simp)]; rfl
  have e1 : w1.cell? ⟨w.heap.size + 1, 1, none⟩ = some (.bool ok) := by
    rw [hb1.cell (p := ⟨w.heap.size + 1, 1, none⟩) (by simp), World.cell?_alloc_at _ _ _ _ (by simp)]; rfl
  have hbb : Below w.heap.size w w1 := upT (upA (upA (up0 w) _) _) hb1
  have hs1 : w.heap.size + 1 < w1.heap.size := by have := hb1.size; simp at this; omega
  clear d0 d1 hb1 b0 m255
  rcases F3.out with ⟨rfl, hg⟩ | ⟨l, rfl, hg, hp, hI, hll⟩
  · have HG := Lib.hid hg
    clear hg F3
    go_wp2_with (go_at_call 10; refine (Get_any A1 _ c1 bs _ rfl hc1 hm1 hr1 F1.out (by omega)).mono ?_; intro e w2 h2; obtain ⟨rfl, hb2⟩ := h2.none_ HG.out; clear h2)
    have g1 : w2.drew.cell? ⟨w.heap.size + 1, 1, none⟩ = some (.bool false) := (hb2.cell (p := ⟨w.heap.size + 1, 1, none⟩) hs1).trans e1
    have hb3 : Below w.heap.size w w2.drew := (upT hbb hb2).drew
    clear e0 e1 hb2 hbb
    refine wp_region_still_tail 25 (by kernel_rfl) (by kernel_rfl) ?_
    simp only [List.take_succ_cons, List.take_zero, List.drop_succ_cons, List.drop_zero]
    change wpStill _ _ w2.drew _ _ _
    repeat ((with_reducible refine wpStill_step (fun K hK => ?_)); go_simp; (with_reducible refine hK _ ?_); clear hK K)
    refine wpStill_nil ?_
    change wpList _ _ _ _ _ w2.drew
    go_wp2_with (go_at_call 8; refine (awake2 _).mono ?_; rintro e w' ⟨rfl, hbw⟩)
    go_ret
    exact RetB.b rfl rfl (upT hb3 hbw)
  · have HG := Lib.hid hg
    have HP := Lib.hid hp
    clear hg hp F3
    go_wp2_with (go_at_call 10; refine (Get_any A1 _ c1 bs _ rfl hc1 hm1 hr1 F1.out (by omega)).mono ?_; intro e w2 h2; obtain ⟨A2, c2, rfl, hc2, hm2, hr2, hb2⟩ := h2.sl HG.out; clear h2)
    have g0 : w2.cell? ⟨w.heap.size + 1, 0, none⟩ = some (.string (strOfNums bs)) := (hb2.cell (p := ⟨w.heap.size + 1, 0, none⟩) (by show w.heap.size + 1 < _; omega)).trans e0
    have g1 : w2.cell? ⟨w.heap.size + 1, 1, none⟩ = some (.bool true) := (hb2.cell (p := ⟨w.heap.size + 1, 1, none⟩) (by show w.heap.size + 1 < _; omega)).trans e1
    have hb3 : Below w.heap.size w w2 := upT hbb hb2
    have hs2 : w.heap.size + 1 < w2.heap.size := by have := hb2.size; omega
    clear e0 e1 hb2 hbb
    have hz4 : w.heap.size + 1 < w2.drew.heap.size := hs2
    refine wp_region_noPanic ?_
    refine wp_region_held_drew (S := fun w' => w'.cell? ⟨w.heap.size + 1, 0, none⟩ = some (.string (strOfNums bs)) ∧ w'.cell? ⟨w.heap.size + 1, 1, none⟩ = some (.bool true)) (by kernel_rfl) ?_ (fun hHeld => ?_)
    · exact ⟨g0, g1⟩
    refine wpAnyH_take (i := 0) (oi := _) (v := ?_) rfl (by kernel_rfl) (by kernel_rfl) (by kernel_rfl) (fun _ _ _ h => h) (Or.inl ⟨by kernel_rfl, ?_⟩) (by assumption) ?_
    rotate_left
    · (intro w hSw; (try dsimp only at hSw); go_simp; try (with_reducible rfl))
    (try simp only [Act.put, List.setIfInBounds_toArray, List.set_cons_zero, List.set_cons_succ])
    refine wpAnyH_take (i := 1) (oi := _) (v := ?_) rfl (by kernel_rfl) (by kernel_rfl) (by kernel_rfl) (fun _ _ _ h => h) (Or.inl ⟨by kernel_rfl, ?_⟩) (by assumption) ?_
    rotate_left
    · (intro w hSw; (try dsimp only at hSw); go_simp; try (with_reducible rfl))
    (try simp only [Act.put, List.setIfInBounds_toArray, List.set_cons_zero, List.set_cons_succ])
    refine wpAnyH_take (i := 2) (oi := _) (v := ?_) rfl (by kernel_rfl) (by kernel_rfl) (by kernel_rfl) (fun _ _ _ h => h) (Or.inl ⟨by kernel_rfl, ?_⟩) (by assumption) ?_
    rotate_left
    · (intro w hSw; (try dsimp only at hSw); go_simp; try (with_reducible rfl))
    (try simp only [Act.put, List.setIfInBounds_toArray, List.set_cons_zero, List.set_cons_succ])
    refine wpAnyH_take (i := 3) (oi := _) (v := ?_) rfl (by kernel_rfl) (by kernel_rfl) (by kernel_rfl) (fun _ _ _ h => h) (Or.inl ⟨by kernel_rfl, ?_⟩) (by assumption) ?_
    rotate_left
    · (intro w hSw; (try dsimp only at hSw); go_simp; try (with_reducible rfl))
    (try simp only [Act.put, List.setIfInBounds_toArray, List.set_cons_zero, List.set_cons_succ])
    refine wpAnyH_take (i := 4) (oi := _) (v := ?_) rfl (by kernel_rfl) (by kernel_rfl) (by kernel_rfl) (fun _ _ _ h => h) (Or.inl ⟨by kernel_rfl, ?_⟩) (by assumption) ?_
    rotate_left
    · (intro w hSw; (try dsimp only at hSw); go_simp; try (with_reducible rfl))
    (try simp only [Act.put, List.setIfInBounds_toArray, List.set_cons_zero, List.set_cons_succ])
    refine wpAnyH_take (i := 5) (oi := _) (v := ?_) rfl (by kernel_rfl) (by kernel_rfl) (by kernel_rfl) (fun _ _ _ h => h) (Or.inl ⟨by kernel_rfl, ?_⟩) (by assumption) ?_
    rotate_left
    · (intro w hSw; (try dsimp only at hSw); go_simp; try (with_reducible rfl))
    (try simp only [Act.put, List.setIfInBounds_toArray, List.set_cons_zero, List.set_cons_succ])
    refine wpAnyH_take (i := 6) (oi := _) (v := ?_) rfl (by kernel_rfl) (by kernel_rfl) (by kernel_rfl) (fun _ _ _ h => h) (Or.inl ⟨by kernel_rfl, ?_⟩) (by assumption) ?_
    rotate_left
    · (intro w hSw; (try dsimp only at hSw); go_simp; try (with_reducible rfl))
    (try simp only [Act.put, List.setIfInBounds_toArray, List.set_cons_zero, List.set_cons_succ])
    refine wpAnyH_ready (rs := [7]) (by kernel_rfl) (by simp) ?_
    refine AllReadyH.cons (o := _) rfl (fun K hK => ?_) AllReadyH.nil
    go_simp
    refine hK.out _ _ (by assumption) (fun hHeld => ?_)
    clear hK K
    (try simp only [Act.put, List.setIfInBounds_toArray, List.set_cons_zero, List.set_cons_succ])
    refine wpAnyH_ready (rs := [8]) (by kernel_rfl) (by simp) ?_
    refine AllReadyH.cons (o := _) rfl (fun K hK => ?_) AllReadyH.nil
    go_simp
    refine hK.out _ _ (by assumption) (fun hHeld => ?_)
    clear hK K
    (try simp only [Act.put, List.setIfInBounds_toArray, List.set_cons_zero, List.set_cons_succ])
    refine wpAnyH_ready (rs := [9]) (by kernel_rfl) (by simp) ?_
    refine AllReadyH.cons (o := _) rfl (fun K hK => ?_) AllReadyH.nil
    go_simp
    refine hK.out _ _ (by assumption) (fun hHeld => ?_)
    clear hK K
    (try simp only [Act.put, List.setIfInBounds_toArray, List.set_cons_zero, List.set_cons_succ])
    refine wpAnyH_take (i := 10) (oi := _) (v := ?_) rfl (by kernel_rfl) (by kernel_rfl) (by kernel_rfl) (fun _ _ _ h => h) (Or.inl ⟨by kernel_rfl, ?_⟩) (by assumption) ?_
    rotate_left
    · (intro w hSw; (try dsimp only at hSw); go_simp; try (with_reducible rfl))
    (try simp only [Act.put, List.setIfInBounds_toArray, List.set_cons_zero, List.set_cons_succ])
    refine wpAnyH_take (i := 11) (oi := _) (v := ?_) rfl (by kernel_rfl) (by kernel_rfl) (by kernel_rfl) (fun _ _ _ h => h) (Or.inl ⟨by kernel_rfl, ?_⟩) (by assumption) ?_
    rotate_left
    · (intro w hSw; (try dsimp only at hSw); go_simp; try (with_reducible rfl))
    (try simp only [Act.put, List.setIfInBounds_toArray, List.set_cons_zero, List.set_cons_succ])
    refine wpAnyH_take (i := 12) (oi := _) (v := ?_) rfl (by kernel_rfl) (by kernel_rfl) (by kernel_rfl) (fun _ _ _ h => h) (Or.inl ⟨by kernel_rfl, ?_⟩) (by assumption) ?_
    rotate_left
    · (intro w hSw; (try dsimp only at hSw); go_simp; try (with_reducible rfl))
    (try simp only [Act.put, List.setIfInBounds_toArray, List.set_cons_zero, List.set_cons_succ])
    refine wpAnyH_take (i := 13) (oi := _) (v := ?_) rfl (by kernel_rfl) (by kernel_rfl) (by kernel_rfl) (fun _ _ _ h => h) (Or.inl ⟨by kernel_rfl, ?_⟩) (by assumption) ?_
    rotate_left
    · (intro w hSw; (try dsimp only at hSw); go_simp; try (with_reducible rfl))
    (try simp only [Act.put, List.setIfInBounds_toArray, List.set_cons_zero, List.set_cons_succ])
    refine wpAnyH_take (i := 14) (oi := _) (v := ?_) rfl (by kernel_rfl) (by kernel_rfl) (by kernel_rfl) (fun _ _ _ h => h) (Or.inl ⟨by kernel_rfl, ?_⟩) (by assumption) ?_
    rotate_left
    · (intro w hSw; (try dsimp only at hSw); go_simp; try (with_reducible rfl))
    (try simp only [Act.put, List.setIfInBounds_toArray, List.set_cons_zero, List.set_cons_succ])
    refine wpAnyH_take (i := 15) (oi := _) (v := ?_) rfl (by kernel_rfl) (by kernel_rfl) (by kernel_rfl) (fun _ _ _ h => h) (Or.inl ⟨by kernel_rfl, ?_⟩) (by assumption) ?_
    rotate_left
    · (intro w hSw; (try dsimp only at hSw); go_simp; try (with_reducible rfl))
    (try simp only [Act.put, List.setIfInBounds_toArray, List.set_cons_zero, List.set_cons_succ])
    refine wpAnyH_take (i := 16) (oi := _) (v := ?_) rfl (by kernel_rfl) (by kernel_rfl) (by kernel_rfl) (fun _ _ _ h => h) (Or.inl ⟨by kernel_rfl, ?_⟩) (by assumption) ?_
    rotate_left
    · (intro w hSw; (try dsimp only at hSw); go_simp; try (with_reducible rfl))
    (try simp only [Act.put, List.setIfInBounds_toArray, List.set_cons_zero, List.set_cons_succ])
    refine wpAnyH_take (i := 19) (oi := _) (v := ?_) rfl (by kernel_rfl) (by kernel_rfl) (by kernel_rfl) (fun _ _ _ h => h) (Or.inl ⟨by kernel_rfl, ?_⟩) (by assumption) ?_
    rotate_left
    · (intro w hSw; (try dsimp only at hSw); go_simp; try (with_reducible rfl))
    (try simp only [Act.put, List.setIfInBounds_toArray, List.set_cons_zero, List.set_cons_succ])
    refine wpAnyH_take (i := 20) (oi := _) (v := ?_) rfl (by kernel_rfl) (by kernel_rfl) (by kernel_rfl) (fun _ _ _ h => h) (Or.inl ⟨by kernel_rfl, ?_⟩) (by assumption) ?_
    rotate_left
    · (intro w hSw; (try dsimp only at hSw); go_simp; try (with_reducible rfl))
    (try simp only [Act.put, List.setIfInBounds_toArray, List.set_cons_zero, List.set_cons_succ])
    refine wpAnyH_ready (rs := [17]) (by kernel_rfl) (by simp) ?_
    refine AllReadyH.cons (o := _) rfl (fun K hK => ?_) AllReadyH.nil
    go_simp
    go_at_call 9
    refine (Put_any A2 _ c2 l _ rfl hr2.drew1 hI (by omega)).mono ?_
    intro e w4 h4
    obtain ⟨A4, c4, rfl, hc4, hm4, hr4, hb4⟩ := h4.sl
    clear h4
    have g2 := (hb4.cell (p := ⟨w.heap.size + 1, 0, none⟩) hz4).trans g0
    have g3 := (hb4.cell (p := ⟨w.heap.size + 1, 1, none⟩) hz4).trans g1
    first | refine hK.out _ _ ?_ (fun hHeld => ?_) | (go_wp2_with fail; refine hK.out _ _ ?_ (fun hHeld => ?_))
    · exact ⟨g2, g3⟩
    clear hK K
    (try simp only [Act.put, List.setIfInBounds_toArray, List.set_cons_zero, List.set_cons_succ])
    have k4 : (convert 24 9 (.slice A4 (Cd.putL l).length c4)).run Try.prog w4 = .ok (.string (strOfNums bs)) w4 := by rw [← HP.out]; exact conv_any hr4 rfl 24 5 9 Try.underlying24 Try.underlying5 Try.underlying9
    refine wpAnyH_ready (rs := [18]) (by kernel_rfl) (by simp) ?_
    refine AllReadyH.cons (o := _) rfl (fun K hK => ?_) AllReadyH.nil
    go_simp
    first | refine hK.out _ _ ?_ (fun hHeld => ?_) | (go_wp2_with fail; refine hK.out _ _ ?_ (fun hHeld => ?_))
    · exact ⟨g2, g3⟩
    clear hK K
    (try simp only [Act.put, List.setIfInBounds_toArray, List.set_cons_zero, List.set_cons_succ])
    refine wpAnyH_take (i := 21) (oi := _) (v := ?_) rfl (by kernel_rfl) (by kernel_rfl) (by kernel_rfl) (fun _ _ _ h => h) (Or.inl ⟨by kernel_rfl, ?_⟩) (by assumption) ?_
    rotate_left
    · (intro w hSw; (try dsimp only at hSw); go_simp; try (with_reducible rfl))
    (try simp only [Act.put, List.setIfInBounds_toArray, List.set_cons_zero, List.set_cons_succ])
    refine wpAnyH_take (i := 22) (oi := _) (v := ?_) rfl (by kernel_rfl) (by kernel_rfl) (by kernel_rfl) (fun _ _ _ h => h) (Or.inl ⟨by kernel_rfl, ?_⟩) (by assumption) ?_
    rotate_left
    · (intro w hSw; (try dsimp only at hSw); go_simp; try (with_reducible rfl))
    (try simp only [Act.put, List.setIfInBounds_toArray, List.set_cons_zero, List.set_cons_succ])
    refine wpAnyH_take (i := 23) (oi := _) (v := ?_) rfl (by kernel_rfl) (by kernel_rfl) (by kernel_rfl) (fun _ _ _ h => h) (Or.inl ⟨by kernel_rfl, ?_⟩) (by assumption) ?_
    rotate_left
    · (intro w hSw; (try dsimp only at hSw); go_simp; try (with_reducible rfl))
    (try simp only [Act.put, List.setIfInBounds_toArray, List.set_cons_zero, List.set_cons_succ])
    refine wpAnyH_take (i := 24) (oi := _) (v := ?_) rfl (by kernel_rfl) (by kernel_rfl) (by kernel_rfl) (fun _ _ _ h => h) (Or.inl ⟨by kernel_rfl, ?_⟩) (by assumption) ?_
    rotate_left
    · (intro w hSw; (try dsimp only at hSw); go_simp; try (with_reducible rfl))
    (try simp only [Act.put, List.setIfInBounds_toArray, List.set_cons_zero, List.set_cons_succ])
    have hz5 : w.heap.size + 1 < w4.heap.size := Nat.lt_of_lt_of_le hz4 hb4.size
    refine wpAnyH_ready (rs := [25]) (by kernel_rfl) (by simp) ?_
    refine AllReadyH.cons (o := _) rfl (fun K hK => ?_) AllReadyH.nil
    go_simp
    go_at_call 8
    refine (awake2 _).mono ?_
    rintro e w5 ⟨rfl, hbw⟩
    first | refine hK.out _ _ ?_ (fun hHeld => ?_) | (go_wp2_with fail; refine hK.out _ _ ?_ (fun hHeld => ?_))
    · exact ⟨(hbw.cell (p := ⟨w.heap.size + 1, 0, none⟩) hz5).trans g2, (hbw.cell (p := ⟨w.heap.size + 1, 1, none⟩) hz5).trans g3⟩
    clear hK K
    (try simp only [Act.put, List.setIfInBounds_toArray, List.set_cons_zero, List.set_cons_succ])
    refine wpAnyH_take (i := 26) (oi := _) (v := ?_) rfl (by kernel_rfl) (by kernel_rfl) (by kernel_rfl) (fun _ _ _ h => h) (Or.inl ⟨by kernel_rfl, ?_⟩) (by assumption) ?_
    rotate_left
    · (intro w hSw; (try dsimp only at hSw); go_simp; try (with_reducible rfl))
    (try simp only [Act.put, List.setIfInBounds_toArray, List.set_cons_zero, List.set_cons_succ])
    refine wpAnyH_take (i := 27) (oi := _) (v := ?_) rfl (by kernel_rfl) (by kernel_rfl) (by kernel_rfl) (fun _ _ _ h => h) (Or.inl ⟨by kernel_rfl, ?_⟩) (by assumption) ?_
    rotate_left
    · (intro w hSw; (try dsimp only at hSw); go_simp; try (with_reducible rfl))
    (try simp only [Act.put, List.setIfInBounds_toArray, List.set_cons_zero, List.set_cons_succ])
    refine wpAnyH_done (by kernel_rfl) ?_ _
    refine NoPanic.normal ?_
    (try go_simp)
    go_wp2_with fail
    go_ret
    exact RetB.b rfl rfl (upT (upT hb3.drew hb4) hbw)
end Go.Proofs.Ytndobndaikhalaa
