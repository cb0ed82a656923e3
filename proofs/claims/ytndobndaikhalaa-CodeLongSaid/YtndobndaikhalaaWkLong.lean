/- The walk of CodeLong: it answers true, whatever it is given. -/
import Derived.Test.YtndobndaikhalaaAwake2
import Derived.Test.YtndobndaikhalaaWdMath
import Derived.Deep.RegionHeld3
import Derived.StillTailTactics
set_option linter.unusedVariables false
set_option linter.unusedSimpArgs false
namespace Go.Proofs.Ytndobndaikhalaa
open Go.RowKit
theorem strOfNums_append (a b : List Int) : strOfNums (a ++ b) = strOfNums a ++ strOfNums b := by
  apply ByteArray.ext
  simp [strOfNums]
set_option maxRecDepth 100000 in
set_option maxHeartbeats 8000000 in
theorem walk_CodeLong (A : Option Addr) (c : Nat) (l : List Int) (at0 : Int) (w : World) (hc : l.length ≤ c) (hm : c ≤ 140737488351232) (hx : Rd w w.heap.size A (l.map (Value.int .i64))) (hI : Cd.isI l) :
    Calls Try.prog 3 #[.slice A l.length c, .int .i64 at0] w (RetB (.bool true) w) := by
  by_cases hs : l.length ≤ 100
  · obtain ⟨q, hq, mq⟩ : ∃ q : Nat, q ≤ l.length ∧ (bits .and .i64 at0 255) % ((l.length : Int) + 1) = q := by
      have h0 : 0 ≤ bits .and .i64 at0 255 := by have := Wd.bits_mask at0 8 (by omega); rw [show (255 : Int) = 2 ^ 8 - 1 from rfl, this]; omega
      have h1 := Int.emod_nonneg (bits .and .i64 at0 255) (b := (l.length : Int) + 1) (by omega)
      have h2 := Int.emod_lt_of_pos (bits .and .i64 at0 255) (b := (l.length : Int) + 1) (by omega)
      exact ⟨((bits .and .i64 at0 255) % ((l.length : Int) + 1)).toNat, by omega, by omega⟩
    have b0 : 0 ≤ bits .and .i64 at0 255 := by have := Wd.bits_mask at0 8 (by omega); rw [show (255 : Int) = 2 ^ 8 - 1 from rfl, this]; omega
    go_enter Try.func3, Try.ntmps3
    go_wp2_with fail
    go_loop [5, 19] (fun v i => ∃ k : Nat, k ≤ l.length ∧ i = .int .i64 k ∧ v = .int .i64 (Cd.cnt (l.take k))) (fun _ i => l.length - (intOf i).toNat)
    case atStart => exact ⟨0, by omega, rfl, rfl⟩
    case round =>
      obtain ⟨k, hk, rfl, rfl⟩ := hrel
      have hcb : 0 ≤ Cd.cnt (l.take k) ∧ Cd.cnt (l.take k) ≤ 900 := by
        rw [Cd.cnt_eq]
        have := Cd.putL_len_le (l.take k)
        rw [List.length_take] at this
        omega
      obtain ⟨hcb1, hcb2⟩ := hcb
      by_cases hlt : k < l.length
      · obtain ⟨ad, rfl, hb, hcell⟩ := hx.at_ (k := k) hlt
        have hst := take_snoc l k hlt
        obtain ⟨z1, z2⟩ := isI_at hI hlt
        have hcs := Cd.cnt_snoc (l.take k) (l.getD k 0)
        rw [← hst] at hcs
        generalize l.getD k 0 = m at hcell z1 z2 hcs
        have HCS := Lib.hid hcs
        clear hst hcs
        by_cases hm1 : m < -1
        · go_wp2_with fail
          go_round
          case rel => exact ⟨k + 1, by omega, by go_num, by rw [HCS.out, if_pos (.inl hm1)]; go_num⟩
          case measure => simp [intOf]; omega
        · by_cases hm2 : 253 < m
          · go_wp2_with fail
            go_round
            case rel => exact ⟨k + 1, by omega, by go_num, by rw [HCS.out, if_pos (.inr hm2)]; go_num⟩
            case measure => simp [intOf]; omega
          · go_wp2_with fail
            go_round
            case rel => exact ⟨k + 1, by omega, by go_num, by rw [HCS.out, if_neg (by omega)]⟩
            case measure => simp [intOf]; omega
      · have : k = l.length := by omega
        subst this
        rw [List.take_of_length_le (Nat.le_refl _)] at *
        go_wp2_with fail
        have hn1 : q = (l.take q).length := by rw [List.length_take]; omega
        have hn2 : l.length - q = (l.drop q).length := by rw [List.length_drop]
        have ht : Rd w w.heap.size A ((l.take q).map (Value.int .i64)) := by rw [List.map_take]; exact hx.take q
        have hd : Rd w w.heap.size (if c = q then A else A.map (·.add q)) ((l.drop q).map (Value.int .i64)) := by rw [List.map_drop]; exact hx.drop (n := l.length) (by simp) hq hc
        obtain ⟨A5, hA5⟩ : ∃ A5, (if c = q then A else A.map (·.add q)) = A5 := ⟨_, rfl⟩
        rw [hA5] at hd
        have hI1 : Cd.isI (l.take q) := fun x hx => hI x (List.mem_of_mem_take hx)
        have hI2 : Cd.isI (l.drop q) := fun x hx => hI x (List.mem_of_mem_drop hx)
        have hcat : Cd.putL l = Cd.putL (l.take q) ++ Cd.putL (l.drop q) := by rw [← Cd.putL_append, List.take_append_drop]
        have hcnt := Cd.cnt_eq l
        have hget := Cd.get_put hI2
        have HN1 := Lib.hid hn1; have HN2 := Lib.hid hn2; have HC := Lib.hid hcat; have HCNT := Lib.hid hcnt; have HGET := Lib.hid hget
        clear hn1 hn2 hcat hcnt hget
        have q0 : (0 : Int) ≤ (q : Int) := by omega
        have q1 : (q : Int) ≤ (l.length : Int) := by omega
        have q2 : (q : Int) ≤ (c : Int) := by omega
        refine wp_region_noPanic ?_
        refine wp_region_held_drew (S := fun _ => True) (by kernel_rfl) ?_ (fun hHeld => ?_)
        · trivial
        refine wpAnyH_take (i := 0) (oi := _) (v := ?_) rfl (by kernel_rfl) (by kernel_rfl) (by kernel_rfl) (fun _ _ _ h => h) (Or.inl ⟨by kernel_rfl, ?_⟩) (by assumption) ?_
        rotate_left
        · (intro w hSw; (try dsimp only at hSw); go_simp; try (with_reducible rfl))
        (try simp only [Act.put, List.setIfInBounds_toArray, List.set_cons_zero, List.set_cons_succ])
        refine wpAnyH_take (i := 2) (oi := _) (v := ?_) rfl (by kernel_rfl) (by kernel_rfl) (by kernel_rfl) (fun _ _ _ h => h) (Or.inl ⟨by kernel_rfl, ?_⟩) (by assumption) ?_
        rotate_left
        · (intro w hSw; (try dsimp only at hSw); go_simp; try (with_reducible rfl))
        (try simp only [Act.put, List.setIfInBounds_toArray, List.set_cons_zero, List.set_cons_succ])
        refine wpAnyH_take (i := 3) (oi := _) (v := ?_) rfl (by kernel_rfl) (by kernel_rfl) (by kernel_rfl) (fun _ _ _ h => h) (Or.inl ⟨by kernel_rfl, ?_⟩) (by assumption) ?_
        rotate_left
        · (intro w hSw; (try dsimp only at hSw); go_simp; try (with_reducible rfl))
        (try simp only [Act.put, List.setIfInBounds_toArray, List.set_cons_zero, List.set_cons_succ])
        refine wpAnyH_take (i := 4) (oi := _) (v := ?_) rfl (by kernel_rfl) (by kernel_rfl) (by kernel_rfl) (fun _ _ _ h => h) (Or.inl ⟨by kernel_rfl, ?_⟩) (by assumption) ?_
        rotate_left
        · (intro w hSw; (try dsimp only at hSw); go_simp; try (with_reducible rfl))
        (try simp only [Act.put, List.setIfInBounds_toArray, List.set_cons_zero, List.set_cons_succ])
        refine wpAnyH_take (i := 6) (oi := _) (v := ?_) rfl (by kernel_rfl) (by kernel_rfl) (by kernel_rfl) (fun _ _ _ h => h) (Or.inl ⟨by kernel_rfl, ?_⟩) (by assumption) ?_
        rotate_left
        · (intro w hSw; (try dsimp only at hSw); go_simp; try (with_reducible rfl))
        (try simp only [Act.put, List.setIfInBounds_toArray, List.set_cons_zero, List.set_cons_succ])
        refine wpAnyH_take (i := 7) (oi := _) (v := ?_) rfl (by kernel_rfl) (by kernel_rfl) (by kernel_rfl) (fun _ _ _ h => h) (Or.inl ⟨by kernel_rfl, ?_⟩) (by assumption) ?_
        rotate_left
        · (intro w hSw; (try dsimp only at hSw); go_simp; try (with_reducible rfl))
        (try simp only [Act.put, List.setIfInBounds_toArray, List.set_cons_zero, List.set_cons_succ])
        refine wpAnyH_take (i := 8) (oi := _) (v := ?_) rfl (by kernel_rfl) (by kernel_rfl) (by kernel_rfl) (fun _ _ _ h => h) (Or.inl ⟨by kernel_rfl, ?_⟩) (by assumption) ?_
        rotate_left
        · (intro w hSw; (try dsimp only at hSw); go_simp; try (with_reducible rfl))
        (try simp only [Act.put, List.setIfInBounds_toArray, List.set_cons_zero, List.set_cons_succ])
        refine wpAnyH_ready (rs := [1]) (by kernel_rfl) (by simp) ?_
        refine AllReadyH.cons (o := _) rfl (fun K hK => ?_) AllReadyH.nil
        go_simp
        go_at_call 9
        refine (Put_any A _ c l _ rfl hx.drew1 hI (by omega)).mono ?_
        intro e w1 h4
        obtain ⟨A1, c1, rfl, hc1, hm1, hr1, hb1⟩ := h4.sl
        clear h4
        first | refine hK.out _ _ ?_ (fun hHeld => ?_) | (go_wp2_with fail; refine hK.out _ _ ?_ (fun hHeld => ?_))
        · trivial
        clear hK K
        (try simp only [Act.put, List.setIfInBounds_toArray, List.set_cons_zero, List.set_cons_succ])
        refine wpAnyH_ready (rs := [5]) (by kernel_rfl) (by simp) ?_
        refine AllReadyH.cons (o := _) rfl (fun K hK => ?_) AllReadyH.nil
        go_simp
        go_at_call 9
        refine (Put_any A _ c (l.take q) _ HN1.out (ht.drew1.belowT hb1) hI1 (by omega)).mono ?_
        intro e w2 h4
        obtain ⟨A2, c2, rfl, hc2, hm2, hr2, hb2⟩ := h4.sl
        clear h4
        first | refine hK.out _ _ ?_ (fun hHeld => ?_) | (go_wp2_with fail; refine hK.out _ _ ?_ (fun hHeld => ?_))
        · trivial
        clear hK K
        (try simp only [Act.put, List.setIfInBounds_toArray, List.set_cons_zero, List.set_cons_succ])
        refine wpAnyH_ready (rs := [9]) (by kernel_rfl) (by simp) ?_
        refine AllReadyH.cons (o := _) rfl (fun K hK => ?_) AllReadyH.nil
        go_simp
        go_at_call 9
        refine (Put_any _ _ _ (l.drop q) _ HN2.out ((hd.drew1.belowT hb1).belowT hb2) hI2 (by omega)).mono ?_
        intro e w3 h4
        obtain ⟨A3, c3, rfl, hc3, hm3, hr3, hb3⟩ := h4.sl
        clear h4
        first | refine hK.out _ _ ?_ (fun hHeld => ?_) | (go_wp2_with fail; refine hK.out _ _ ?_ (fun hHeld => ?_))
        · trivial
        clear hK K
        (try simp only [Act.put, List.setIfInBounds_toArray, List.set_cons_zero, List.set_cons_succ])
        refine wpAnyH_take (i := 10) (oi := _) (v := ?_) rfl (by kernel_rfl) (by kernel_rfl) (by kernel_rfl) (fun _ _ _ h => h) (Or.inl ⟨by kernel_rfl, ?_⟩) (by assumption) ?_
        rotate_left
        · (intro w hSw; (try dsimp only at hSw); go_simp; try (with_reducible rfl))
        (try simp only [Act.put, List.setIfInBounds_toArray, List.set_cons_zero, List.set_cons_succ])
        refine wpAnyH_take (i := 11) (oi := _) (v := ?_) rfl (by kernel_rfl) (by kernel_rfl) (by kernel_rfl) (fun _ _ _ h => h) (Or.inl ⟨by kernel_rfl, ?_⟩) (by assumption) ?_
        rotate_left
        · (intro w hSw; (try dsimp only at hSw); go_simp; try (with_reducible rfl))
        (try simp only [Act.put, List.setIfInBounds_toArray, List.set_cons_zero, List.set_cons_succ])
        refine wpAnyH_take (i := 12) (oi := _) (v := ?_) rfl (by kernel_rfl) (by kernel_rfl) (by kernel_rfl) (fun _ _ _ h => h) (Or.inl ⟨by kernel_rfl, ?_⟩) (by assumption) ?_
        rotate_left
        · (intro w hSw; (try dsimp only at hSw); go_simp; try (with_reducible rfl))
        (try simp only [Act.put, List.setIfInBounds_toArray, List.set_cons_zero, List.set_cons_succ])
        refine wpAnyH_done (by kernel_rfl) ?_ _
        refine NoPanic.normal ?_
        (try go_simp)
        have hB3 := Cd.putL_isB (l.drop q)
        have hlen3 : (Cd.putL (l.drop q)).length ≤ 1000000 := by have := Cd.putL_len_le (l.drop q); rw [List.length_drop] at this; omega
        have hceq : (((Cd.putL l).length : Int) == Cd.cnt l) = true := by rw [HCNT.out]; simp
        have HB3 := Lib.hid hB3
        clear hB3
        go_wp2_with fail
        refine (Get_any A3 _ c3 (Cd.putL (l.drop q)) _ rfl hc3 hm3 hr3 HB3.out hlen3).mono ?_
        intro e w4 h2
        obtain ⟨A4, c4, rfl, hc4, hm4, hr4, hb4⟩ := h2.sl HGET.out
        clear h2
        have k1 := conv_any (P := Try.prog) (c := c1) (((hr1.belowT hb2).belowT hb3).belowT hb4) rfl 24 5 9 Try.underlying24 Try.underlying5 Try.underlying9
        have k2 := conv_any (P := Try.prog) (c := c2) ((hr2.belowT hb3).belowT hb4) rfl 24 5 9 Try.underlying24 Try.underlying5 Try.underlying9
        have k3 := conv_any (P := Try.prog) (c := c3) (hr3.belowT hb4) rfl 24 5 9 Try.underlying24 Try.underlying5 Try.underlying9
        have hd4 := (((hd.drew1.belowT hb1).belowT hb2).belowT hb3).belowT hb4
        have hb5 : Below w.heap.size w w4 := upT (upT (upT (upT (up0 w).drew hb1) hb2) hb3) hb4
        clear hr1 hr2 hr3 hb1 hb2 hb3 hb4
        have hszz : (strOfNums (Cd.putL (l.take q))).size + (strOfNums (Cd.putL (l.drop q))).size ≤ 9223372036854775807 := by
          rw [strOfNums_size, strOfNums_size]
          have h1 := Cd.putL_len_le (l.take q); have h2 := Cd.putL_len_le (l.drop q)
          rw [List.length_take] at h1; rw [List.length_drop] at h2
          omega
        have heqs : ((strOfNums (Cd.putL l)).toList == (strOfNums (Cd.putL (l.take q)) ++ strOfNums (Cd.putL (l.drop q))).toList) = true := by
          rw [← strOfNums_append, ← HC.out]; simp
        have hsame : (l.drop q == l.drop q) = true := by simp
        go_wp2_with (first
          | (go_at_call 11; refine (same_any A4 A5 w4.heap.size c4 _ _ _ (l.drop q) (l.drop q) _ HN2.out HN2.out hr4 hd4 (by omega) (by omega)).mono ?_; rintro e w5 ⟨rfl, q5, rfl⟩)
          | (go_at_call 8; refine (awake2 _).mono ?_; rintro e w6 ⟨rfl, hbw⟩))
        go_ret
        exact RetB.b rfl rfl (upT (upD hb5 _) hbw)
  · generalize l.length = n at *
    go_enter Try.func3, Try.ntmps3
    go_wp2_with (go_at_call 8; refine (awake2 _).mono ?_; rintro e w' ⟨rfl, hbw⟩)
    go_ret
    exact RetB.b rfl rfl hbw
end Go.Proofs.Ytndobndaikhalaa
