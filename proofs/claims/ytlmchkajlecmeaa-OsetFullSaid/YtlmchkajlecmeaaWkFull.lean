/- The walk of OsetFull: it answers true, whatever it is given. -/
import Derived.Test.YtlmchkajlecmeaaAwake3
import Derived.Test.YtlmchkajlecmeaaWdMath
set_option linter.unusedVariables false
set_option linter.unusedSimpArgs false
namespace Go.Proofs.Ytlmchkajlecmeaa
open Go.RowKit
/-- the keys behind k rounds -/
def upto (m : Nat) : List (List Int) := (List.range m).map fun (i : Nat) => [(i : Int)]
theorem upto_len (m : Nat) : (upto m).length = m := by simp [upto]
theorem upto_succ (m : Nat) : upto (m + 1) = upto m ++ [[(m : Int)]] := by simp [upto, List.range_succ]
theorem upto_mem {m j : Nat} : [(j : Int)] ∈ upto m ↔ j < m := by
  unfold upto
  rw [List.mem_map]
  constructor
  · rintro ⟨a, h1, h2⟩
    have h3 : (a : Int) = (j : Int) := by simpa using h2
    have h4 := List.mem_range.1 h1
    omega
  · intro h
    exact ⟨j, List.mem_range.2 h, rfl⟩
theorem upto_some {m j : Nat} (h : j < m) : Os.idx (upto m) [(j : Int)] = some j := by
  refine Os.idx_of_nodup ?_ (by rw [upto_len]; exact h) ?_
  · unfold upto
    refine List.pairwise_map.2 (List.nodup_range.imp (fun {a b} hab e => hab ?_))
    have h3 : (a : Int) = (b : Int) := by simpa using e
    omega
  · simp [Os.keyAt, List.getD, upto, h]
theorem upto_none {m j : Nat} (h : m ≤ j) : Os.idx (upto m) [(j : Int)] = none := Os.idx_none.2 (fun hm => by have := upto_mem.1 hm; omega)
/-- the set behind k rounds, of M places -/
def full (M k : Nat) : List (List Int) := upto (min M k)
theorem full_add {M k : Nat} : (k < M → Os.ans M (full M k) [(k : Int)] = ((k : Int), true, true)) ∧ (M ≤ k → Os.ans M (full M k) [(k : Int)] = (0, false, false)) ∧ Os.put M (full M k) [(k : Int)] = full M (k + 1) := by
  refine ⟨fun h => ?_, fun h => ?_, ?_⟩
  · have e : min M k = k := by omega
    unfold full; rw [e, Os.ans_new (upto_none (Nat.le_refl k)) (by rw [upto_len]; exact h), upto_len]
  · have e : min M k = M := by omega
    unfold full; rw [e, Os.ans_full (upto_none h) (by rw [upto_len]; omega)]
  · rcases Nat.lt_or_ge k M with h | h
    · have e : min M k = k := by omega
      have e2 : min M (k + 1) = k + 1 := by omega
      unfold full; rw [e, e2, Os.put_new (upto_none (Nat.le_refl k)) (by rw [upto_len]; exact h), upto_succ]
    · have e : min M k = M := by omega
      have e2 : min M (k + 1) = M := by omega
      unfold full; rw [e, e2, Os.put_full (upto_none h) (by rw [upto_len]; omega)]
theorem full_half {M k : Nat} : (k / 2 < M → Os.ans M (full M (k + 1)) [((k / 2 : Nat) : Int)] = (((k / 2 : Nat) : Int), false, true)) ∧ (M ≤ k / 2 → Os.ans M (full M (k + 1)) [((k / 2 : Nat) : Int)] = (0, false, false)) ∧ Os.put M (full M (k + 1)) [((k / 2 : Nat) : Int)] = full M (k + 1) := by
  refine ⟨fun h => ?_, fun h => ?_, ?_⟩
  · unfold full; rw [Os.ans_old (upto_some (by omega))]
  · have e : min M (k + 1) = M := by omega
    unfold full; rw [e, Os.ans_full (upto_none h) (by rw [upto_len]; omega)]
  · rcases Nat.lt_or_ge (k / 2) M with h | h
    · unfold full; rw [Os.put_old (upto_some (by omega))]
    · have e : min M (k + 1) = M := by omega
      unfold full; rw [e, Os.put_full (upto_none h) (by rw [upto_len]; omega)]
set_option maxRecDepth 100000 in
set_option maxHeartbeats 4000000 in
theorem walk_OsetFull (a0 a1 : Int) (w : World) : Calls Try.prog 4 #[.int .i64 a0, .int .i64 a1] w (RetB (.bool true) w) := by
  obtain ⟨M, hM, hM2⟩ : ∃ M : Nat, bits .and .i64 a0 31 = M ∧ M ≤ 31 := by
    have h1 := Wd.bits_mask a0 5 (by omega)
    have h2 := Int.emod_nonneg a0 (b := 32) (by omega)
    have h3 := Int.emod_lt_of_pos a0 (b := 32) (by omega)
    exact ⟨(a0 % 32).toNat, by rw [show (31 : Int) = 2 ^ 5 - 1 from rfl, h1]; omega, by omega⟩
  obtain ⟨N, hN, hN2⟩ : ∃ N : Nat, bits .and .i64 a1 63 = N ∧ N ≤ 63 := by
    have h1 := Wd.bits_mask a1 6 (by omega)
    have h2 := Int.emod_nonneg a1 (b := 64) (by omega)
    have h3 := Int.emod_lt_of_pos a1 (b := 64) (by omega)
    exact ⟨(a1 % 64).toNat, by rw [show (63 : Int) = 2 ^ 6 - 1 from rfl, h1]; omega, by omega⟩
  have hmo : mostOf (M : Int) = M := by unfold mostOf; omega
  go_enter Try.func4, Try.ntmps4
  go_wp2_with fail
  refine (new_one (M : Int) w w (up0 w)).mono ?_
  rintro e w1 ⟨g, rfl, h1⟩
  rw [hmo] at h1
  go_wp2_with fail
  go_loopw [6] (fun i wr => ∃ k : Nat, k ≤ N ∧ i = .int .i64 k ∧ Two w (Ivl w.heap.size wr.heap.size) wr (cs g M (full M k)) noSet) (fun i _ => N - (intOf i).toNat)
  case atStart => exact ⟨0, by omega, rfl, by rw [show full M 0 = [] by simp [full, upto]]; exact h1⟩
  case round =>
    obtain ⟨k, hk, rfl, h2⟩ := hrel
    obtain ⟨wo, rfl⟩ : ∃ wo : World, wo = wr := ⟨_, rfl⟩
    obtain ⟨f1, f2, f3⟩ := full_add (M := M) (k := k)
    obtain ⟨f4, f5, f6⟩ := full_half (M := M) (k := k)
    have H2 := Lib.hid h2; have F3 := Lib.hid f3; have F6 := Lib.hid f6
    clear h2 f3 f6
    by_cases hlt : k < N
    · have hlt' : (k : Int) < (N : Int) := by omega
      have k0 : (0 : Int) ≤ (k : Int) := by omega
      have k2' : (k : Int) / 2 = ((k / 2 : Nat) : Int) := by omega
      have k2 : (k : Int).tdiv 2 = ((k / 2 : Nat) : Int) := by rw [Int.tdiv_eq_ediv_of_nonneg k0]; exact k2'
      have hh : k / 2 ≤ 63 := by omega
      have hd := by have := Nat.div_le_self k 2; exact this
      generalize hkk : k / 2 = kk at *
      have kk0 : (0 : Int) ≤ (kk : Int) := by omega
      clear hd
      have B1 : Cd.isB [(k : Int)] := bB _ (by omega)
      have B2 : Cd.isB [(kk : Int)] := bB _ (by omega)
      rcases (by omega : k < M ∧ kk < M ∨ M ≤ k ∧ kk < M ∨ M ≤ k ∧ M ≤ kk) with ⟨c1, c2⟩ | ⟨c1, c2⟩ | ⟨c1, c2⟩
      all_goals
        first | have g1 := f1 c1 | have g1 := f2 c1
        first | have g2 := f4 c2 | have g2 := f5 c2
        have A1 := Lib.hid (show ansV M (full M k) [(k : Int)] = _ from by unfold ansV; rw [g1])
        have A2 := Lib.hid (show ansV M (full M (k + 1)) [(kk : Int)] = _ from by unfold ansV; rw [g2])
        have d1 : (k : Int) < (M : Int) ∨ (M : Int) ≤ (k : Int) := by omega
        have d2 : (kk : Int) < (M : Int) ∨ (M : Int) ≤ (kk : Int) := by omega
        clear g1 g2 f1 f2 f4 f5 hkk
        go_wp2_with fail
        refine ((two_alloc H2.out (cs_st _ _ _) no_st _).add no_st (key := [(k : Int)]) rfl (Rd.litG _ #[.int .u8 (k : Int)] _ _ _ (by simp)) B1 (by simp) (H2.out.fresh (Nat.le_refl _))).mono ?_
        rintro e w2 ⟨rfl, h3, _⟩
        rw [A1.out]
        rw [F3.out] at h3
        go_wp2_with fail
        refine ((two_alloc h3 (cs_st _ _ _) no_st _).add no_st (key := [(kk : Int)]) rfl (Rd.litG _ #[.int .u8 (kk : Int)] _ _ _ (by simp)) B2 (by simp) (h3.fresh (Nat.le_refl _))).mono ?_
        rintro e w3 ⟨rfl, h4, _⟩
        rw [A2.out]
        rw [F6.out] at h4
        go_wp2_with fail
        go_round
        case measure => simp [intOf]; omega
        case rel => exact ⟨k + 1, by omega, by go_num, h4.wide⟩
    · have hke : k = N := by omega
      subst hke
      have hl : (full M k).length = min M k := by unfold full; rw [upto_len]
      have hl2 : ((min M k : Nat) : Int) = min (M : Int) (k : Int) := by omega
      go_wp2_with fail
      refine H2.out.len.mono ?_
      rintro e w2 ⟨rfl, rfl⟩
      rw [hl]
      rcases (by omega : (M : Int) ≤ (k : Int) ∨ (k : Int) < (M : Int)) with hc | hc
      · have hmn : ((min M k : Nat) : Int) = (M : Int) := by omega
        rw [hmn]
        clear hl hl2 hmn
        go_wp2_with (go_at_call 8; refine (awake3 _).mono ?_; rintro e w9 ⟨rfl, hb9⟩)
        go_ret
        exact RetB.b rfl rfl (H2.out.below.trans (hb9.mono H2.out.below.size))
      · have hmn : ((min M k : Nat) : Int) = (k : Int) := by omega
        rw [hmn]
        clear hl hl2 hmn
        go_wp2_with (go_at_call 8; refine (awake3 _).mono ?_; rintro e w9 ⟨rfl, hb9⟩)
        go_ret
        exact RetB.b rfl rfl (H2.out.below.trans (hb9.mono H2.out.below.size))
end Go.Proofs.Ytlmchkajlecmeaa
