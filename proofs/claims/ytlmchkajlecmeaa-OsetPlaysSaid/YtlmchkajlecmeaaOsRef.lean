/- Contracts of auguryref1's set of keys. -/
import Derived.Test.YtlmchkajlecmeaaOsMem
import Derived.Test.YtlmchkajlecmeaaRefLess
import Derived.Deep.RegionHeld3
import Derived.Deep.QuietTactic
import Derived.BigQuiet
set_option linter.unusedVariables false
set_option linter.unusedSimpArgs false
namespace Go.Proofs.Ytlmchkajlecmeaa
open Go.RowKit
set_option maxRecDepth 100000 in
set_option maxHeartbeats 600000 in
theorem rplace_any (g most : Nat) (L : List (List Int)) (p : List Nat) (vL vB : Value) (S : Nat → Prop) (A : Option Addr) (n c : Nat) (key : List Int) (w : World)
    (hS : SetIs w 45 9 3 g most L p vL vB S) (hn : n = key.length) (hk : Rd w w.heap.size A (key.map (Value.int .u8))) (hB : Cd.isB key) (hs : n ≤ 1000000) :
    Calls Try.prog 24 #[.pointer (some ⟨g, 0, none⟩), .slice A n c] w (RetB (.int .i64 (Os.rk L key)) w) := by
  subst hn
  obtain ⟨AL, cL, AB, cB, rfl, rfl, hcL, hcB⟩ := hS.slices
  have hg : g < w.heap.size := hS.lt g hS.foot.1
  have hf := hS.few
  have hc2 : w.cell? ⟨g, 2, none⟩ = some (.slice AB L.length cB) := hS.cell 2
  have hlen := hS.ok.len
  have HLEN := Lib.hid hlen
  clear hlen
  go_enter Try.func24, Try.ntmps24
  go_wp2
  go_quiet (fail)
  go_wp2
  go_loopw [5, 6] (fun a b wr => ∃ lo hi : Nat, a = .int .i64 lo ∧ b = .int .i64 hi ∧ lo ≤ hi ∧ hi ≤ L.length ∧ (∀ i, i < lo → Cd.lessB (Os.keyAt L (p.getD i 0)) key = true) ∧ (∀ i, hi ≤ i → i < L.length → Cd.lessB (Os.keyAt L (p.getD i 0)) key = false) ∧ Below w.heap.size w wr) (fun a b _ => (intOf b - intOf a).toNat)
  case atStart => exact ⟨0, L.length, rfl, rfl, by omega, by omega, fun i hi => by omega, fun i hi hl => by omega, upD (up0 w) _⟩
  case round =>
    obtain ⟨lo, hi, rfl, rfl, hlh, hhl, hlo, hhi, hbw⟩ := hrel
    have HLO := Lib.hid hlo; have HHI := Lib.hid hhi
    clear hlo hhi
    by_cases hlt : lo < hi
    · obtain ⟨m, hm⟩ : ∃ m : Nat, m = (lo + hi) / 2 := ⟨_, rfl⟩
      have hm1 : lo ≤ m := by omega
      have hm2 : m < hi := by omega
      have hmz : ((lo : Int) + (hi : Int)) / 2 = (m : Int) := by omega
      clear hm
      obtain ⟨wo, rfl⟩ : ∃ wo : World, wo = wr := ⟨_, rfl⟩
      have hSo := hS.up hbw
      obtain ⟨aB, aL, cB', cL', eB, eL, hcB1, hq, hcL1⟩ := hSo.at_ (i := m) (by omega)
      simp only [Value.slice.injEq, true_and] at eB eL
      obtain ⟨rfl, rfl⟩ := eB
      obtain ⟨rfl, rfl⟩ := eL
      have hB9 : ∀ x ∈ Os.keyAt L (p.getD m 0), 0 ≤ x ∧ x < 256 := Os.isB_keyAt (fun x hx => (hS.bytes x hx).1) _
      have hl9 : (Os.keyAt L (p.getD m 0)).length ≤ 1000000 := by
        have : Os.keyAt L (p.getD m 0) ∈ L := by simp [Os.keyAt, List.getD, show p[m]?.getD 0 < L.length from hq]
        exact (hS.bytes _ this).2
      have g1 : wo.cell? ⟨g, 1, none⟩ = some (.slice (some aL) L.length cL) := hSo.cell 1
      have g2 : wo.cell? ⟨g, 2, none⟩ = some (.slice (some aB) L.length cB) := hSo.cell 2
      have hgo := hSo.lt g hS.foot.1
      have hbB := World.block_lt_of_cell? wo _ hcB1
      have hbL := World.block_lt_of_cell? wo _ hcL1
      have hko := hk.belowT hbw
      generalize hx : Os.keyAt L (p.getD m 0) = x at *
      generalize hqe : p.getD m 0 = q at *
      have HX := Lib.hid hx; have HQ := Lib.hid hqe
      clear hx hqe hc2 hSo
      have q0 : (0 : Int) ≤ (q : Int) := by omega
      have q1 : (q : Int) < (L.length : Int) := by omega
      have m0 : (0 : Int) ≤ (m : Int) := by omega
      have m1 : (m : Int) < (L.length : Int) := by omega
      cases hl : Cd.lessB x key
      all_goals
        go_wp2_with fail
        refine wp_region_noPanic ?_
        refine wp_region_held_drew (S := fun w' => w'.cell? ⟨g, 1, none⟩ = some (.slice (some aL) L.length cL) ∧ w'.cell? ⟨g, 2, none⟩ = some (.slice (some aB) L.length cB) ∧ w'.cell? (aB.add m) = some (.int .i64 (q : Int)) ∧ w'.cell? (aL.add q) = some (.string (strOfNums x))) (by kernel_rfl) ?_ (fun hHeld => ?_)
        · exact ⟨g1, g2, hcB1, hcL1⟩
        refine wpAnyH_take (i := 0) (oi := _) (v := ?_) rfl (by kernel_rfl) (by kernel_rfl) (by kernel_rfl) (fun _ _ _ h => h) (Or.inl ⟨by kernel_rfl, ?_⟩) (by assumption) ?_
        rotate_left
        · (intro w hSw; (try dsimp only at hSw); go_simp; try (with_reducible rfl))
        (try simp only [List.getElem_toArray, List.getElem_cons_succ, List.getElem_cons_zero, Act.put, List.setIfInBounds_toArray, List.set_cons_zero, List.set_cons_succ])
        refine wpAnyH_take (i := 1) (oi := _) (v := ?_) rfl (by kernel_rfl) (by kernel_rfl) (by kernel_rfl) (fun _ _ _ h => h) (Or.inl ⟨by kernel_rfl, ?_⟩) (by assumption) ?_
        rotate_left
        · (intro w hSw; (try dsimp only at hSw); go_simp; try (with_reducible rfl))
        (try simp only [List.getElem_toArray, List.getElem_cons_succ, List.getElem_cons_zero, Act.put, List.setIfInBounds_toArray, List.set_cons_zero, List.set_cons_succ])
        refine wpAnyH_take (i := 2) (oi := _) (v := ?_) rfl (by kernel_rfl) (by kernel_rfl) (by kernel_rfl) (fun _ _ _ h => h) (Or.inl ⟨by kernel_rfl, ?_⟩) (by assumption) ?_
        rotate_left
        · (intro w hSw; (try dsimp only at hSw); go_simp; try (with_reducible rfl))
        (try simp only [List.getElem_toArray, List.getElem_cons_succ, List.getElem_cons_zero, Act.put, List.setIfInBounds_toArray, List.set_cons_zero, List.set_cons_succ])
        refine wpAnyH_take (i := 3) (oi := _) (v := ?_) rfl (by kernel_rfl) (by kernel_rfl) (by kernel_rfl) (fun _ _ _ h => h) (Or.inl ⟨by kernel_rfl, ?_⟩) (by assumption) ?_
        rotate_left
        · (intro w hSw; (try dsimp only at hSw); go_simp; try (with_reducible rfl))
        (try simp only [List.getElem_toArray, List.getElem_cons_succ, List.getElem_cons_zero, Act.put, List.setIfInBounds_toArray, List.set_cons_zero, List.set_cons_succ])
        refine wpAnyH_take (i := 4) (oi := _) (v := ?_) rfl (by kernel_rfl) (by kernel_rfl) (by kernel_rfl) (fun _ _ _ h => h) (Or.inl ⟨by kernel_rfl, ?_⟩) (by assumption) ?_
        rotate_left
        · (intro w hSw; (try dsimp only at hSw); go_simp; try (with_reducible rfl))
        (try simp only [List.getElem_toArray, List.getElem_cons_succ, List.getElem_cons_zero, Act.put, List.setIfInBounds_toArray, List.set_cons_zero, List.set_cons_succ])
        refine wpAnyH_take (i := 5) (oi := _) (v := ?_) rfl (by kernel_rfl) (by kernel_rfl) (by kernel_rfl) (fun _ _ _ h => h) (Or.inl ⟨by kernel_rfl, ?_⟩) (by assumption) ?_
        rotate_left
        · (intro w hSw; (try dsimp only at hSw); go_simp; try (with_reducible rfl))
        (try simp only [List.getElem_toArray, List.getElem_cons_succ, List.getElem_cons_zero, Act.put, List.setIfInBounds_toArray, List.set_cons_zero, List.set_cons_succ])
        refine wpAnyH_take (i := 6) (oi := _) (v := ?_) rfl (by kernel_rfl) (by kernel_rfl) (by kernel_rfl) (fun _ _ _ h => h) (Or.inl ⟨by kernel_rfl, ?_⟩) (by assumption) ?_
        rotate_left
        · (intro w hSw; (try dsimp only at hSw); go_simp; try (with_reducible rfl))
        (try simp only [List.getElem_toArray, List.getElem_cons_succ, List.getElem_cons_zero, Act.put, List.setIfInBounds_toArray, List.set_cons_zero, List.set_cons_succ])
        refine wpAnyH_take (i := 7) (oi := _) (v := ?_) rfl (by kernel_rfl) (by kernel_rfl) (by kernel_rfl) (fun _ _ _ h => h) (Or.inl ⟨by kernel_rfl, ?_⟩) (by assumption) ?_
        rotate_left
        · (intro w hSw; (try dsimp only at hSw); go_simp; try (with_reducible rfl))
        (try simp only [List.getElem_toArray, List.getElem_cons_succ, List.getElem_cons_zero, Act.put, List.setIfInBounds_toArray, List.set_cons_zero, List.set_cons_succ])
        refine wpAnyH_take (i := 8) (oi := _) (v := ?_) rfl (by kernel_rfl) (by kernel_rfl) (by kernel_rfl) (fun _ _ _ h => h) (Or.inl ⟨by kernel_rfl, ?_⟩) (by assumption) ?_
        rotate_left
        · (intro w hSw; (try dsimp only at hSw); go_simp; try (with_reducible rfl))
        (try simp only [List.getElem_toArray, List.getElem_cons_succ, List.getElem_cons_zero, Act.put, List.setIfInBounds_toArray, List.set_cons_zero, List.set_cons_succ])
        refine wpAnyH_take (i := 9) (oi := _) (v := ?_) rfl (by kernel_rfl) (by kernel_rfl) (by kernel_rfl) (fun _ _ _ h => h) (Or.inl ⟨by kernel_rfl, ?_⟩) (by assumption) ?_
        rotate_left
        · (intro w hSw; (try dsimp only at hSw); go_simp; try (with_reducible rfl))
        (try simp only [List.getElem_toArray, List.getElem_cons_succ, List.getElem_cons_zero, Act.put, List.setIfInBounds_toArray, List.set_cons_zero, List.set_cons_succ])
        refine wpAnyH_take (i := 10) (oi := _) (v := ?_) rfl (by kernel_rfl) (by kernel_rfl) (by kernel_rfl) (fun _ _ _ h => h) (Or.inl ⟨by kernel_rfl, ?_⟩) (by assumption) ?_
        rotate_left
        · (intro w hSw; (try dsimp only at hSw); go_simp; try (with_reducible rfl))
        (try simp only [List.getElem_toArray, List.getElem_cons_succ, List.getElem_cons_zero, Act.put, List.setIfInBounds_toArray, List.set_cons_zero, List.set_cons_succ])
        refine wpAnyH_take (i := 11) (oi := _) (v := ?_) rfl (by kernel_rfl) (by kernel_rfl) (by kernel_rfl) (fun _ _ _ h => h) (Or.inl ⟨by kernel_rfl, ?_⟩) (by assumption) ?_
        rotate_left
        · (intro w hSw; (try dsimp only at hSw); go_simp; try (with_reducible rfl))
        (try simp only [List.getElem_toArray, List.getElem_cons_succ, List.getElem_cons_zero, Act.put, List.setIfInBounds_toArray, List.set_cons_zero, List.set_cons_succ])
        refine wpAnyH_take (i := 12) (oi := _) (v := ?_) rfl (by kernel_rfl) (by kernel_rfl) (by kernel_rfl) (fun _ _ _ h => h) (Or.inl ⟨by kernel_rfl, ?_⟩) (by assumption) ?_
        rotate_left
        · (intro w hSw; (try dsimp only at hSw); go_simp; try (with_reducible rfl))
        (try simp only [List.getElem_toArray, List.getElem_cons_succ, List.getElem_cons_zero, Act.put, List.setIfInBounds_toArray, List.set_cons_zero, List.set_cons_succ])
        refine wpAnyH_take (i := 14) (oi := _) (v := ?_) rfl (by kernel_rfl) (by kernel_rfl) (by kernel_rfl) (fun _ _ _ h => h) (Or.inl ⟨by kernel_rfl, ?_⟩) (by assumption) ?_
        rotate_left
        · (intro w hSw; (try dsimp only at hSw); go_simp; try (with_reducible rfl))
        (try simp only [List.getElem_toArray, List.getElem_cons_succ, List.getElem_cons_zero, Act.put, List.setIfInBounds_toArray, List.set_cons_zero, List.set_cons_succ])
        obtain ⟨A9, c9, w9, hrun9, hc9, hm9, hr9, hb9⟩ := str_bytes (P := Try.prog) wo.drew x hB9 (by omega) 9 25 5 Try.underlying9 Try.underlying25 Try.underlying5
        have S9 := And.intro ((hb9.cell (p := ⟨g, 1, none⟩) hgo).trans g1) (And.intro ((hb9.cell (p := ⟨g, 2, none⟩) hgo).trans g2) (And.intro ((hb9.cell (p := aB.add m) hbB).trans hcB1) ((hb9.cell (p := aL.add q) hbL).trans hcL1)))
        refine wpAnyH_ready (rs := [13]) (by kernel_rfl) (by simp) ?_
        refine AllReadyH.cons (o := _) rfl (fun K hK => ?_) AllReadyH.nil
        go_simp
        first | refine hK.out _ _ ?_ (fun hHeld => ?_) | (go_wp2_with fail; refine hK.out _ _ ?_ (fun hHeld => ?_))
        · exact S9
        clear hK K
        (try simp only [List.getElem_toArray, List.getElem_cons_succ, List.getElem_cons_zero, Act.put, List.setIfInBounds_toArray, List.set_cons_zero, List.set_cons_succ])
        refine wpAnyH_ready (rs := [15]) (by kernel_rfl) (by simp) ?_
        refine AllReadyH.cons (o := _) rfl (fun K hK => ?_) AllReadyH.nil
        go_simp
        go_at_call 13
        refine (rless_any A9 A w9.heap.size _ _ c9 c x key _ rfl rfl hr9 (hko.drew1.belowT hb9)).mono ?_
        rintro e w' ⟨rfl, rfl⟩
        first | refine hK.out _ _ ?_ (fun hHeld => ?_) | (go_wp2_with fail; refine hK.out _ _ ?_ (fun hHeld => ?_))
        · exact S9
        clear hK K
        (try simp only [List.getElem_toArray, List.getElem_cons_succ, List.getElem_cons_zero, Act.put, List.setIfInBounds_toArray, List.set_cons_zero, List.set_cons_succ])
        refine wpAnyH_done (by kernel_rfl) ?_ _
        refine NoPanic.normal ?_
        (try go_simp)
        have hl2 : Cd.lessB (Os.keyAt L (p.getD m 0)) key = Cd.lessB x key := by rw [HQ.out, HX.out]
        rw [hl] at hl2
        have HL2 := Lib.hid hl2
        clear hl2 hl
        go_wp2
        go_round
        case measure => simp [intOf]; omega
        case rel =>
          first
            | exact ⟨lo, m, rfl, rfl, by omega, by omega, HLO.out, fun i h1 h2 => hS.ok.high_step HL2.out i h1 (by rw [HLEN.out]; exact h2), upT (upD hbw 1) hb9⟩
            | exact ⟨m + 1, hi, by go_num, rfl, by omega, by omega, hS.ok.low_step (by rw [HLEN.out]; omega) HL2.out, HHI.out, upT (upD hbw 1) hb9⟩
    · have hee : lo = hi := by omega
      subst hee
      go_wp2
      go_ret
      have hr := hS.ok.rank_of (k := key) (n := lo) (by rw [HLEN.out]; omega) HLO.out (fun i h1 h2 => HHI.out i h1 (by rw [← HLEN.out]; exact h2))
      exact ⟨by rw [hr]; rfl, hbw⟩
end Go.Proofs.Ytlmchkajlecmeaa
