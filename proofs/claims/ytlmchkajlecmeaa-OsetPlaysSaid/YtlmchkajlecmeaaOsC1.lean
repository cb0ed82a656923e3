/- Contracts of the program's own New, Len, Has. -/
import Derived.Test.YtlmchkajlecmeaaOsC
import Derived.Deep.RegionHeld3
set_option linter.unusedVariables false
set_option linter.unusedSimpArgs false
namespace Go.Proofs.Ytlmchkajlecmeaa
open Go.RowKit
theorem cset_new (w : World) (most : Nat) (h : most ≤ 1000000) : CSet ((w.alloc (.map #[] 0)).alloc (.cells #[.int .i64 most, .slice none 0 0, .map (some w.heap.size), .int .i64 (0 : Nat), .slice none 0 0] 50)) (w.heap.size + 1) most [] (fun k => k = w.heap.size ∨ k = w.heap.size + 1) := by
  refine ⟨w.heap.size, 0, [], .slice none 0 0, .slice none 0 0, [], [], ?_, World.ownsRow_nil _ _ _ _, Segs.nil, ⟨_, ((World.ownsMap_made w _ _ _).alloc _), MapOk.nil⟩, World.ownsRow_nil _ _ _ _, Segs.nil, ?_, ?_, Os.Runs.nil _, by simp, by simp, by simp, h, by simp⟩
  · have := heap_alloc_new (w.alloc (.map #[] 0)) (.cells #[.int .i64 most, .slice none 0 0, .map (some w.heap.size), .int .i64 (0 : Nat), .slice none 0 0] 50)
    simpa using this
  · intro k hk
    simp [Wr, Value.ownBlock] at hk
    rcases hk with hk | hk
    · exact .inr hk
    · exact .inl hk
  · intro k hk
    simp
    rcases hk with hk | hk <;> omega
theorem cnew_any (m : Int) (w : World) : Calls Try.prog 7 #[.int .i64 m] w fun e w' => ∃ g, e = .returned (.pointer (some ⟨g, 0, none⟩)) ∧ (∃ S, CSet w' g (mostOf m) [] S ∧ ∀ k, S k → w.heap.size ≤ k) ∧ Below w.heap.size w w' := by
  have hm9 : mostOf m ≤ 1000000 := by unfold mostOf; omega
  have hset := cset_new w (mostOf m) hm9
  have hmm := @run_makeMap Try.prog
  have key : (m < 0 ∧ ((mostOf m : Nat) : Int) = 0) ∨ (1000000 < m ∧ ((mostOf m : Nat) : Int) = 1000000) ∨ (0 ≤ m ∧ m ≤ 1000000 ∧ ((mostOf m : Nat) : Int) = m) := by unfold mostOf; omega
  have HS := Lib.hid hset
  clear hset
  rcases key with ⟨h1, h2⟩ | ⟨h1, h2⟩ | ⟨h0, h1, h2⟩
  all_goals
    have H2 := Lib.hid h2
    clear h2
    go_enter Try.func7, Try.ntmps7
    go_wp2
    all_goals first | (exfalso; omega) | skip
    all_goals
      go_ret
      refine ⟨_, rfl, ⟨fun k => k = w.heap.size ∨ k = w.heap.size + 1, ?_, fun k hk => by rcases hk with hk | hk <;> omega⟩, upA (upA (up0 w) _) _⟩
      have h := HS.out
      rw [H2.out] at h
      exact h
set_option maxHeartbeats 600000 in
theorem clen_any (g most : Nat) (L : List (List Int)) (S : Nat → Prop) (w : World) (hS : CSet w g most L S) : Calls Try.prog 10 #[.pointer (some ⟨g, 0, none⟩)] w (Ret (.int .i64 (L.length : Int)) w) := by
  obtain ⟨b, rk, R, vK, vR, KS, RS, h⟩ := hS
  obtain ⟨A, c, rfl, hc, hm, hr⟩ := h.sliceK
  have c1 : w.cell? ⟨g, 1, none⟩ = some (.slice A L.length c) := h.cell 1
  clear h hr
  go_enter Try.func10, Try.ntmps10
  go_wp2
  go_ret
  exact Ret.i rfl rfl
set_option maxHeartbeats 2000000 in
theorem chas_any (g most : Nat) (L : List (List Int)) (S : Nat → Prop) (A : Option Addr) (n c : Nat) (key : List Int) (w : World)
    (hS : CSet w g most L S) (hn : n = key.length) (hk : Rd w w.heap.size A (key.map (Value.int .u8))) (hB : Cd.isB key) (hs : n ≤ 140737488351232) :
    Calls Try.prog 12 #[.pointer (some ⟨g, 0, none⟩), .slice A n c] w (RetQ (.bool (Os.idx L key).isSome) w) := by
  subst hn
  obtain ⟨b, rk, R, vK, vR, KS, RS, h⟩ := hS
  have c2 : w.cell? ⟨g, 2, none⟩ = some (.map (some b)) := h.cell 2
  have hlook := (h.fr (T := fun _ => False) (Fr.of_below (upD (up0 w) 1)) (fun k _ hk => hk)).look hB hs
  have hconv := conv_any (P := Try.prog) (c := c) hk.drew1 rfl 25 5 9 Try.underlying25 Try.underlying5 Try.underlying9
  clear h hk hB
  generalize strOfNums key = sk at *
  generalize Os.idx L key = ix at *
  go_enter Try.func12, Try.ntmps12
  go_wp2_with fail
  refine wp_region_noPanic ?_
  refine wp_region_held_drew (S := fun w' => w'.cell? ⟨g, 2, none⟩ = some (.map (some b)) ∧ (convert 25 9 (.slice A key.length c)).run Try.prog w' = .ok (.string sk) w' ∧ (Instr.lookup 47 (.map (some b)) (.string sk) true).run Try.prog w' = .ok (.tuple #[.int .i64 ((ix.getD 0 : Nat) : Int), .bool ix.isSome]) w') (by kernel_rfl) ?_ (fun hHeld => ?_)
  · exact ⟨c2, hconv, hlook⟩
  refine wpAnyH_take (i := 0) (oi := _) (v := ?_) rfl (by kernel_rfl) (by kernel_rfl) (by kernel_rfl) (fun _ _ _ h => h) (Or.inl ⟨by kernel_rfl, ?_⟩) (by assumption) ?_
  rotate_left
  · (intro w hSw; (try dsimp only at hSw); go_simp; try (with_reducible rfl))
  (try simp only [List.getElem_toArray, List.getElem_cons_succ, List.getElem_cons_zero, Act.put, List.setIfInBounds_toArray, List.set_cons_zero, List.set_cons_succ])
  refine wpAnyH_take (i := 1) (oi := _) (v := ?_) rfl (by kernel_rfl) (by kernel_rfl) (by kernel_rfl) (fun _ _ _ h => h) (Or.inl ⟨by kernel_rfl, ?_⟩) (by assumption) ?_
  rotate_left
  · (intro w hSw; (try dsimp only at hSw); go_simp; try (with_reducible rfl))
  (try simp only [List.getElem_toArray, List.getElem_cons_succ, List.getElem_cons_zero, Act.put, List.setIfInBounds_toArray, List.set_cons_zero, List.set_cons_succ])
  refine wpAnyH_take (i := 2) (oi := _) (v := ?_) rfl (by kernel_rfl) (by kernel_rfl) (by kernel_rfl) (fun _ _ _ h => h) (Or.inl ⟨by kernel_rfl, ?_⟩) (by assumption) ?_
  rotate_left
  · (intro w hSw; (try dsimp only at hSw); go_simp; try (with_reducible rfl))
  (try simp only [List.getElem_toArray, List.getElem_cons_succ, List.getElem_cons_zero, Act.put, List.setIfInBounds_toArray, List.set_cons_zero, List.set_cons_succ])
  refine wpAnyH_take (i := 3) (oi := _) (v := ?_) rfl (by kernel_rfl) (by kernel_rfl) (by kernel_rfl) (fun _ _ _ h => h) (Or.inl ⟨by kernel_rfl, ?_⟩) (by assumption) ?_
  rotate_left
  · (intro w hSw; (try dsimp only at hSw); go_simp; try (with_reducible rfl))
  (try simp only [List.getElem_toArray, List.getElem_cons_succ, List.getElem_cons_zero, Act.put, List.setIfInBounds_toArray, List.set_cons_zero, List.set_cons_succ])
  refine wpAnyH_take (i := 4) (oi := _) (v := ?_) rfl (by kernel_rfl) (by kernel_rfl) (by kernel_rfl) (fun _ _ _ h => h) (Or.inl ⟨by kernel_rfl, ?_⟩) (by assumption) ?_
  rotate_left
  · (intro w hSw; (try dsimp only at hSw); go_simp; try (with_reducible rfl))
  (try simp only [List.getElem_toArray, List.getElem_cons_succ, List.getElem_cons_zero, Act.put, List.setIfInBounds_toArray, List.set_cons_zero, List.set_cons_succ])
  refine wpAnyH_take (i := 5) (oi := _) (v := ?_) rfl (by kernel_rfl) (by kernel_rfl) (by kernel_rfl) (fun _ _ _ h => h) (Or.inl ⟨by kernel_rfl, ?_⟩) (by assumption) ?_
  rotate_left
  · (intro w hSw; (try dsimp only at hSw); go_simp; try (with_reducible rfl))
  (try simp only [List.getElem_toArray, List.getElem_cons_succ, List.getElem_cons_zero, Act.put, List.setIfInBounds_toArray, List.set_cons_zero, List.set_cons_succ])
  refine wpAnyH_take (i := 6) (oi := _) (v := ?_) rfl (by kernel_rfl) (by kernel_rfl) (by kernel_rfl) (fun _ _ _ h => h) (Or.inl ⟨by kernel_rfl, ?_⟩) (by assumption) ?_
  rotate_left
  · (intro w hSw; (try dsimp only at hSw); go_simp; try (with_reducible rfl))
  (try simp only [List.getElem_toArray, List.getElem_cons_succ, List.getElem_cons_zero, Act.put, List.setIfInBounds_toArray, List.set_cons_zero, List.set_cons_succ])
  refine wpAnyH_take (i := 7) (oi := _) (v := ?_) rfl (by kernel_rfl) (by kernel_rfl) (by kernel_rfl) (fun _ _ _ h => h) (Or.inl ⟨by kernel_rfl, ?_⟩) (by assumption) ?_
  rotate_left
  · (intro w hSw; (try dsimp only at hSw); go_simp; try (with_reducible rfl))
  (try simp only [List.getElem_toArray, List.getElem_cons_succ, List.getElem_cons_zero, Act.put, List.setIfInBounds_toArray, List.set_cons_zero, List.set_cons_succ])
  refine wpAnyH_take (i := 8) (oi := _) (v := ?_) rfl (by kernel_rfl) (by kernel_rfl) (by kernel_rfl) (fun _ _ _ h => h) (Or.inl ⟨by kernel_rfl, ?_⟩) (by assumption) ?_
  rotate_left
  · (intro w hSw; (try dsimp only at hSw); go_simp; try (with_reducible rfl))
  (try simp only [List.getElem_toArray, List.getElem_cons_succ, List.getElem_cons_zero, Act.put, List.setIfInBounds_toArray, List.set_cons_zero, List.set_cons_succ])
  refine wpAnyH_take (i := 9) (oi := _) (v := ?_) rfl (by kernel_rfl) (by kernel_rfl) (by kernel_rfl) (fun _ _ _ h => h) (Or.inl ⟨by kernel_rfl, ?_⟩) (by assumption) ?_
  rotate_left
  · (intro w hSw; (try dsimp only at hSw); go_simp; try (with_reducible rfl))
  (try simp only [List.getElem_toArray, List.getElem_cons_succ, List.getElem_cons_zero, Act.put, List.setIfInBounds_toArray, List.set_cons_zero, List.set_cons_succ])
  refine wpAnyH_take (i := 10) (oi := _) (v := ?_) rfl (by kernel_rfl) (by kernel_rfl) (by kernel_rfl) (fun _ _ _ h => h) (Or.inl ⟨by kernel_rfl, ?_⟩) (by assumption) ?_
  rotate_left
  · (intro w hSw; (try dsimp only at hSw); go_simp; try (with_reducible rfl))
  (try simp only [List.getElem_toArray, List.getElem_cons_succ, List.getElem_cons_zero, Act.put, List.setIfInBounds_toArray, List.set_cons_zero, List.set_cons_succ])
  refine wpAnyH_take (i := 11) (oi := _) (v := ?_) rfl (by kernel_rfl) (by kernel_rfl) (by kernel_rfl) (fun _ _ _ h => h) (Or.inl ⟨by kernel_rfl, ?_⟩) (by assumption) ?_
  rotate_left
  · (intro w hSw; (try dsimp only at hSw); go_simp; try (with_reducible rfl))
  (try simp only [List.getElem_toArray, List.getElem_cons_succ, List.getElem_cons_zero, Act.put, List.setIfInBounds_toArray, List.set_cons_zero, List.set_cons_succ])
  refine wpAnyH_done (by kernel_rfl) ?_ _
  refine NoPanic.normal ?_
  (try go_simp)
  go_wp2
  go_ret
  exact RetQ.b (q := 1) rfl rfl rfl
end Go.Proofs.Ytlmchkajlecmeaa
