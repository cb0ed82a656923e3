/- Contract of the reference's Put. -/
import Derived.Test.YtdbnfdcjibgikaaCode
set_option linter.unusedVariables false
set_option linter.unusedSimpArgs false
namespace Go.Proofs.Ytdbnfdcjibgikaa
open Go.RowKit
theorem byteAt_p (m : Int) (k : Nat) (h0 : 0 ≤ m) (h1 : m < 9223372036854775808) : m / 2 ^ (8 * (7 - k)) % 256 = Cd.byteAt m k := by
  rw [← byteAt_w, IntKind.wrap_u64, Int.emod_eq_of_lt h0 (by omega)]
set_option maxHeartbeats 2000000 in
theorem rPut_any (A : Option Addr) (n c : Nat) (l : List Int) (w : World) (hn : n = l.length) (hx : Rd w w.heap.size A (l.map (Value.int .i64))) (hl : Cd.isI l) (hs : n ≤ 1000000) :
    Calls Try.prog 20 #[.slice A n c] w (RetOwn w.heap.size 5 ((Cd.putL l).map (Value.int .u8)) w) := by
  subst hn
  obtain ⟨i0, hi0, hz0, hs0, hb0⟩ := info_parts infoB
  go_enter Try.func20, Try.ntmps20
  go_wp2
  go_loopw [3, 4] (fun v i wr => ∃ k : Nat, k ≤ l.length ∧ i = .int .i64 k ∧ wr.ownsRow w.heap.size 5 1 v ((Cd.putL (l.take k)).map (Value.int .u8)).length ((Cd.putL (l.take k)).map (Value.int .u8)) ∧ Below w.heap.size w wr) (fun _ i _ => l.length - (intOf i).toNat)
  case atStart => exact ⟨0, by omega, rfl, by simpa [Cd.putL] using World.ownsRow_nil _ _ _ _, Below.refl _ _⟩
  case round =>
    obtain ⟨k, hk, rfl, hown2, hb2⟩ := hrel
    have hs2 := hb2.size
    by_cases hlt : k < l.length
    · have hx2 := hx.below hb2 (by omega)
      obtain ⟨ad, rfl, hb, hc⟩ := hx2.at_ (k := k) hlt
      obtain ⟨z1, z2⟩ := isI_at hl hlt
      have hlen : ((Cd.putL (l.take k)).map (Value.int .u8)).length ≤ 9000000 := by
        rw [List.length_map]
        have := Cd.putL_len_le (l.take k)
        rw [List.length_take] at this
        omega
      have hst := take_snoc l k hlt
      generalize l.getD k 0 = m at hc z1 z2 hst
      have hst2 : (Cd.putL (l.take (k + 1))).map (Value.int .u8) = (Cd.putL (l.take k)).map (Value.int .u8) ++ (Cd.putN m).map (Value.int .u8) := by rw [hst, Cd.putL_snoc, List.map_append]
      have HST := Lib.hid hst2
      clear hst hst2
      generalize hX : (Cd.putL (l.take k)).map (Value.int .u8) = X at hown2 hlen HST
      clear hX
      cases hnr : Cd.nrB m
      · have hp : (Cd.putN m).map (Value.int .u8) = [Value.int .u8 255] ++ (Cd.eight m).map (Value.int .u8) := by simp [Cd.putN, hnr]
        have HP := Lib.hid hp
        have hm := Cd.nrB_not.1 hnr
        clear hp hnr
        by_cases hm1 : -1 ≤ m
        all_goals
          first | (have hm2 : 253 < m := by omega) | (have hm2 : m < -1 := by omega)
          clear hm
          obtain ⟨wo, rfl⟩ : ∃ wo : World, wo = wr := ⟨_, rfl⟩
          go_wp2_with (at_builtin; refine wp_app1 _ rfl (.tmp 29) (.tmp 30) _ rfl w.heap.size 5 i0 _ 1 Try.underlying48 hi0 hz0 hs0 hb0 rfl _ _ _ rfl hown2 (.int .u8 255) rfl rfl (by omega) (by omega) hs2 ?_; intro v1 w1 hown1 hb1)
          go_loopw [3, 6] (fun v i w4 => ∃ j : Nat, j ≤ 8 ∧ i = .int .i64 (7 - j) ∧ w4.ownsRow w.heap.size 5 1 v (X.length + 1 + j) ((X ++ [Value.int .u8 255]) ++ ((Cd.eight m).take j).map (Value.int .u8)) ∧ Below w.heap.size wo w4) (fun _ i _ => (intOf i + 1).toNat)
          case atStart => exact ⟨0, by omega, rfl, by simpa using hown1, hb1⟩
          case round =>
            obtain ⟨j, hj, rfl, hown5, hb5⟩ := hrel
            have hs5 := hb5.size
            by_cases hjt : j < 8
            · go_wp2_with (at_builtin; refine wp_app1 _ rfl (.tmp 36) (.tmp 44) _ rfl w.heap.size 5 i0 _ 1 Try.underlying48 hi0 hz0 hs0 hb0 rfl _ _ _ rfl hown5 _ rfl rfl (by omega) (by omega) (by omega) ?_; intro v6 w6 hown6 hb6)
              go_round
              case rel =>
                refine ⟨j + 1, by omega, by go_num, ?_, hb5.trans hb6⟩
                rw [eight_snoc m j hjt, List.map_append, List.map_cons, List.map_nil, ← List.append_assoc]
                first | rw [byteAt_w] at hown6 | rw [byteAt_p m j (by omega) (by omega)] at hown6
                exact hown6
              case measure => simp [intOf]; omega
            · have : j = 8 := by omega
              subst this
              go_wp2
              go_round
              case rel =>
                refine ⟨k + 1, by omega, by go_num, ?_, hb2.trans hb5⟩
                rw [HST.out, HP.out]
                rw [List.take_of_length_le (by rw [Cd.eight_len]; omega), List.append_assoc] at hown5
                have := own_len hown5
                rw [this]; exact hown5
              case measure => simp [intOf]; omega
      · have hm := Cd.nrB_iff.1 hnr
        obtain ⟨hm1, hm2⟩ := hm
        have hp : (Cd.putN m).map (Value.int .u8) = [Value.int .u8 (m + 1)] := by simp [Cd.putN, hnr]
        have HP := Lib.hid hp
        clear hp hnr
        go_wp2_with (at_builtin; refine wp_app1 _ rfl (.tmp 23) (.tmp 27) _ rfl w.heap.size 5 i0 _ 1 Try.underlying48 hi0 hz0 hs0 hb0 rfl _ _ _ rfl hown2 (.int .u8 (m + 1)) rfl rfl (by omega) (by omega) hs2 ?_; intro v1 w1 hown1 hb1)
        go_round
        case rel => exact ⟨k + 1, by omega, by go_num, by rw [HST.out, HP.out]; simpa using hown1, hb2.trans hb1⟩
        case measure => simp [intOf]; omega
    · go_wp2
      go_ret
      have hk : k = l.length := by omega
      subst hk
      rw [List.take_of_length_le (by omega)] at hown2
      exact ⟨_, rfl, hown2, hb2⟩
end Go.Proofs.Ytdbnfdcjibgikaa
