/- The contracts of the closure that Rank hands over, and of sort.Search over it. -/
import Derived.Test.YtlmchkajlecmeaaOsC7
set_option linter.unusedVariables false
set_option linter.unusedSimpArgs false
namespace Go.Proofs.Ytlmchkajlecmeaa
open Go.RowKit
theorem drewN_add (w : World) (q q' : Nat) : (w.drewN q).drewN q' = w.drewN (q + q') := by simp [World.drewN, Nat.add_assoc]
set_option maxRecDepth 100000 in
set_option maxHeartbeats 2000000 in
theorem search_any (c1 c2 c3 : Value) (p : Nat → Bool) (n : Nat) (w : World) (hn : n ≤ 1000000) (hmono : ∀ i j, i ≤ j → j < n → p i = true → p j = true)
    (hf : ∀ i q, i < n → Calls Try.prog 22 #[.int .i64 (i : Int), c1, c2, c3] (w.drewN q) (RetQ (.bool (p i)) (w.drewN q))) :
    Calls Try.prog 21 #[.int .i64 n, .func (.func 22) #[] #[c1, c2, c3]] w fun e w' => ∃ k : Nat, k ≤ n ∧ (∀ i, i < k → p i = false) ∧ (∀ i, k ≤ i → i < n → p i = true) ∧ e = .returned (.int .i64 k) ∧ ∃ q, w' = w.drewN q := by
  have HM := Lib.hid hmono; have HF := Lib.hid hf
  clear hmono hf
  go_enter Try.func21, Try.ntmps21
  go_wp2_with fail
  go_loopw [5, 6] (fun a b wr => ∃ lo hi q : Nat, a = .int .i64 lo ∧ b = .int .i64 hi ∧ lo ≤ hi ∧ hi ≤ n ∧ (∀ i, i < lo → p i = false) ∧ (∀ i, hi ≤ i → i < n → p i = true) ∧ wr = w.drewN q) (fun a b _ => (intOf b - intOf a).toNat)
  case atStart => exact ⟨0, n, 0, rfl, rfl, by omega, by omega, fun i hi => by omega, fun i hi hl => by omega, rfl⟩
  case round =>
    obtain ⟨lo, hi, q, rfl, rfl, hlh, hhn, hlo, hhi, rfl⟩ := hrel
    have HLO := Lib.hid hlo; have HHI := Lib.hid hhi
    clear hlo hhi
    by_cases hlt : lo < hi
    · obtain ⟨m, hm⟩ : ∃ m : Nat, m = (lo + hi) / 2 := ⟨_, rfl⟩
      have hm1 : lo ≤ m := by omega
      have hm2 : m < hi := by omega
      have hmz : ((lo : Int) + (hi : Int)) / 2 = (m : Int) := by omega
      clear hm
      have hcall := HF.out m q (by omega)
      have HC := Lib.hid hcall
      clear hcall
      cases hp : p m
      case false =>
        have HP := Lib.hid hp
        rw [hp] at HC
        clear hp
        go_wp2_with (go_at_call 22; refine HC.out.mono ?_; rintro e w' ⟨rfl, q', rfl⟩)
        go_round
        case measure => simp [intOf]; omega
        case rel =>
          refine ⟨m + 1, hi, q + q', by go_num, rfl, by omega, by omega, fun i h1 => ?_, HHI.out, rfl⟩
          cases h2 : p i
          · rfl
          · have := HM.out i m (by omega) (by omega) h2
            rw [HP.out] at this; cases this
      case true =>
        have HP := Lib.hid hp
        rw [hp] at HC
        clear hp
        go_wp2_with (go_at_call 22; refine HC.out.mono ?_; rintro e w' ⟨rfl, q', rfl⟩)
        go_round
        case measure => simp [intOf]; omega
        case rel =>
          exact ⟨lo, m, q + q', rfl, by go_num, by omega, by omega, HLO.out, fun i h1 h2 => HM.out m i h1 h2 HP.out, rfl⟩
    · have hee : lo = hi := by omega
      subst hee
      go_wp2
      go_ret
      exact ⟨lo, hhn, HLO.out, HHI.out, rfl, q, rfl⟩
set_option maxRecDepth 100000 in
set_option maxHeartbeats 2000000 in
theorem closure_any (Bs Br Bk g b most rk m : Nat) (L : List (List Int)) (R : List (List Nat)) (vK vR : Value) (KS RS : List Value) (S : Nat → Prop) (A Ak : Option Addr) (c n ck i : Nat) (run : List Nat) (key : List Int) (w : World)
    (h : CsIs w g b most rk m L R vK vR KS RS S) (cs : w.cell? ⟨Bs, 0, none⟩ = some (.pointer (some ⟨g, 0, none⟩))) (cr : w.cell? ⟨Br, 0, none⟩ = some (.slice A run.length c)) (ckc : w.cell? ⟨Bk, 0, none⟩ = some (.slice Ak n ck))
    (hr : Rd w w.heap.size A ((intsOf run).map (Value.int .i64))) (hk : Rd w w.heap.size Ak (key.map (Value.int .u8))) (hn : n = key.length) (hi : i < run.length) (hlt : ∀ x ∈ run, x < L.length) (hm : run.length ≤ 1000000) :
    Calls Try.prog 22 #[.int .i64 (i : Int), .pointer (some ⟨Bs, 0, none⟩), .pointer (some ⟨Br, 0, none⟩), .pointer (some ⟨Bk, 0, none⟩)] w (RetQ (.bool (!Cd.lessB (Os.pk L run i) key)) w) := by
  subst hn
  have hf := h.few
  obtain ⟨aA, rfl, hbA, hcA⟩ := hr.run_at hi
  have hx : run.getD i 0 < L.length := hlt _ (by simp [List.getD, hi])
  obtain ⟨aK, cK, A1, c1, eK, hcK, hcx, hrx, hlx, hmx, hBx, hsx⟩ := h.keyAt hx
  have k1 : w.cell? ⟨g, 1, none⟩ = some (.slice (some aK) L.length cK) := by rw [← eK]; exact h.cell 1
  have i0 : (0 : Int) ≤ (i : Int) := by omega
  have i1 : (i : Int) < (run.length : Int) := by omega
  unfold Os.pk
  clear h hr hlt
  generalize run.getD i 0 = x at *
  generalize Os.keyAt L x = kx at *
  have x0 : (0 : Int) ≤ (x : Int) := by omega
  have x1 : (x : Int) < (L.length : Int) := by omega
  generalize run.length = nr at *
  generalize L.length = nL at *
  go_enter Try.func22, Try.ntmps22
  go_wp2_with fail
  refine wp_region_noPanic ?_
  refine wp_region_held_drew (S := fun w' => w'.cell? ⟨Bs, 0, none⟩ = some (.pointer (some ⟨g, 0, none⟩)) ∧ w'.cell? ⟨Br, 0, none⟩ = some (.slice (some aA) nr c) ∧ w'.cell? ⟨Bk, 0, none⟩ = some (.slice Ak key.length ck) ∧ w'.cell? ⟨g, 1, none⟩ = some (.slice (some aK) nL cK) ∧ w'.cell? (aA.add i) = some (.int .i64 (x : Int)) ∧ w'.cell? (aK.add x) = some (.slice A1 kx.length c1)) (by kernel_rfl) ?_ (fun hHeld => ?_)
  · exact ⟨cs, cr, ckc, k1, hcA, hcx⟩
  refine wpAnyH_take (i := 0) (oi := _) (v := ?_) rfl (by kernel_rfl) (by kernel_rfl) (by kernel_rfl) (fun _ _ _ h => h) (Or.inl ⟨by kernel_rfl, ?_⟩) (by assumption) ?_
  rotate_left
  · (intro w hSw; (try dsimp only at hSw); go_simp; try (with_reducible rfl))
  (try simp only [List.getElem_toArray, List.getElem_cons_succ, List.getElem_cons_zero, Act.put, List.setIfInBounds_toArray, List.set_cons_zero, List.set_cons_succ])
  refine wpAnyH_take (i := 1) (oi := _) (v := ?_) rfl (by kernel_rfl) (by kernel_rfl) (by kernel_rfl) (fun _ _ _ h => h) (Or.inl ⟨by kernel_rfl, ?_⟩) (by assumption) ?_
  rotate_left
  · (intro w hSw; (try dsimp only at hSw); go_simp; try (with_reducible rfl))
  (try simp only [List.getElem_toArray, List.getElem_cons_succ, List.getElem_cons_zero, Act.put, List.setIfInBounds_toArray, List.set_cons_zero, List.set_cons_succ])
  refine wpAnyH_take (i := 2) (oi := _) (v := ?_) rfl (by kernel_rfl) (by kernel_rfl) (by kernel_rfl) (fun _ _ _ h => h) (Or.inl ⟨by kernel_rfl, ?_⟩) (by assumption) ?_
  rotate_left
  · (intro w hSw; (try dsimp only at hSw); go_simp; try (with_reducible rfl))
  (try simp only [List.getElem_toArray, List.getElem_cons_succ, List.getElem_cons_zero, Act.put, List.setIfInBounds_toArray, List.set_cons_zero, List.set_cons_succ])
  refine wpAnyH_take (i := 3) (oi := _) (v := ?_) rfl (by kernel_rfl) (by kernel_rfl) (by kernel_rfl) (fun _ _ _ h => h) (Or.inl ⟨by kernel_rfl, ?_⟩) (by assumption) ?_
  rotate_left
  · (intro w hSw; (try dsimp only at hSw); go_simp; try (with_reducible rfl))
  (try simp only [List.getElem_toArray, List.getElem_cons_succ, List.getElem_cons_zero, Act.put, List.setIfInBounds_toArray, List.set_cons_zero, List.set_cons_succ])
  refine wpAnyH_take (i := 4) (oi := _) (v := ?_) rfl (by kernel_rfl) (by kernel_rfl) (by kernel_rfl) (fun _ _ _ h => h) (Or.inl ⟨by kernel_rfl, ?_⟩) (by assumption) ?_
  rotate_left
  · (intro w hSw; (try dsimp only at hSw); go_simp; try (with_reducible rfl))
  (try simp only [List.getElem_toArray, List.getElem_cons_succ, List.getElem_cons_zero, Act.put, List.setIfInBounds_toArray, List.set_cons_zero, List.set_cons_succ])
  refine wpAnyH_take (i := 5) (oi := _) (v := ?_) rfl (by kernel_rfl) (by kernel_rfl) (by kernel_rfl) (fun _ _ _ h => h) (Or.inl ⟨by kernel_rfl, ?_⟩) (by assumption) ?_
  rotate_left
  · (intro w hSw; (try dsimp only at hSw); go_simp; try (with_reducible rfl))
  (try simp only [List.getElem_toArray, List.getElem_cons_succ, List.getElem_cons_zero, Act.put, List.setIfInBounds_toArray, List.set_cons_zero, List.set_cons_succ])
  refine wpAnyH_take (i := 6) (oi := _) (v := ?_) rfl (by kernel_rfl) (by kernel_rfl) (by kernel_rfl) (fun _ _ _ h => h) (Or.inl ⟨by kernel_rfl, ?_⟩) (by assumption) ?_
  rotate_left
  · (intro w hSw; (try dsimp only at hSw); go_simp; try (with_reducible rfl))
  (try simp only [List.getElem_toArray, List.getElem_cons_succ, List.getElem_cons_zero, Act.put, List.setIfInBounds_toArray, List.set_cons_zero, List.set_cons_succ])
  refine wpAnyH_take (i := 7) (oi := _) (v := ?_) rfl (by kernel_rfl) (by kernel_rfl) (by kernel_rfl) (fun _ _ _ h => h) (Or.inl ⟨by kernel_rfl, ?_⟩) (by assumption) ?_
  rotate_left
  · (intro w hSw; (try dsimp only at hSw); go_simp; try (with_reducible rfl))
  (try simp only [List.getElem_toArray, List.getElem_cons_succ, List.getElem_cons_zero, Act.put, List.setIfInBounds_toArray, List.set_cons_zero, List.set_cons_succ])
  refine wpAnyH_take (i := 8) (oi := _) (v := ?_) rfl (by kernel_rfl) (by kernel_rfl) (by kernel_rfl) (fun _ _ _ h => h) (Or.inl ⟨by kernel_rfl, ?_⟩) (by assumption) ?_
  rotate_left
  · (intro w hSw; (try dsimp only at hSw); go_simp; try (with_reducible rfl))
  (try simp only [List.getElem_toArray, List.getElem_cons_succ, List.getElem_cons_zero, Act.put, List.setIfInBounds_toArray, List.set_cons_zero, List.set_cons_succ])
  refine wpAnyH_take (i := 9) (oi := _) (v := ?_) rfl (by kernel_rfl) (by kernel_rfl) (by kernel_rfl) (fun _ _ _ h => h) (Or.inl ⟨by kernel_rfl, ?_⟩) (by assumption) ?_
  rotate_left
  · (intro w hSw; (try dsimp only at hSw); go_simp; try (with_reducible rfl))
  (try simp only [List.getElem_toArray, List.getElem_cons_succ, List.getElem_cons_zero, Act.put, List.setIfInBounds_toArray, List.set_cons_zero, List.set_cons_succ])
  refine wpAnyH_take (i := 10) (oi := _) (v := ?_) rfl (by kernel_rfl) (by kernel_rfl) (by kernel_rfl) (fun _ _ _ h => h) (Or.inl ⟨by kernel_rfl, ?_⟩) (by assumption) ?_
  rotate_left
  · (intro w hSw; (try dsimp only at hSw); go_simp; try (with_reducible rfl))
  (try simp only [List.getElem_toArray, List.getElem_cons_succ, List.getElem_cons_zero, Act.put, List.setIfInBounds_toArray, List.set_cons_zero, List.set_cons_succ])
  refine wpAnyH_ready (rs := [11]) (by kernel_rfl) (by simp) ?_
  refine AllReadyH.cons (o := _) rfl (fun K hK => ?_) AllReadyH.nil
  go_simp
  go_at_call 23
  refine (less_any A1 Ak w.heap.size _ _ c1 ck kx key w.drew rfl rfl hrx.drew1 hk.drew1).mono ?_
  rintro e w' ⟨rfl, rfl⟩
  first | refine hK.out _ _ ?_ (fun hHeld => ?_) | (go_wp2_with fail; refine hK.out _ _ ?_ (fun hHeld => ?_))
  · exact ⟨cs, cr, ckc, k1, hcA, hcx⟩
  clear hK K
  (try simp only [List.getElem_toArray, List.getElem_cons_succ, List.getElem_cons_zero, Act.put, List.setIfInBounds_toArray, List.set_cons_zero, List.set_cons_succ])
  refine wpAnyH_take (i := 12) (oi := _) (v := ?_) rfl (by kernel_rfl) (by kernel_rfl) (by kernel_rfl) (fun _ _ _ h => h) (Or.inl ⟨by kernel_rfl, ?_⟩) (by assumption) ?_
  rotate_left
  · (intro w hSw; (try dsimp only at hSw); go_simp; try (with_reducible rfl))
  (try simp only [List.getElem_toArray, List.getElem_cons_succ, List.getElem_cons_zero, Act.put, List.setIfInBounds_toArray, List.set_cons_zero, List.set_cons_succ])
  refine wpAnyH_take (i := 13) (oi := _) (v := ?_) rfl (by kernel_rfl) (by kernel_rfl) (by kernel_rfl) (fun _ _ _ h => h) (Or.inl ⟨by kernel_rfl, ?_⟩) (by assumption) ?_
  rotate_left
  · (intro w hSw; (try dsimp only at hSw); go_simp; try (with_reducible rfl))
  (try simp only [List.getElem_toArray, List.getElem_cons_succ, List.getElem_cons_zero, Act.put, List.setIfInBounds_toArray, List.set_cons_zero, List.set_cons_succ])
  refine wpAnyH_done (by kernel_rfl) ?_ _
  refine NoPanic.normal ?_
  (try go_simp)
  go_wp2_with fail
  go_ret
  exact RetQ.b (q := 1) rfl rfl rfl
end Go.Proofs.Ytlmchkajlecmeaa
