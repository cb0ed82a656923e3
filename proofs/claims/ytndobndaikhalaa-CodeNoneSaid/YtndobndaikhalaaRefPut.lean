/- Contracts of auguryref1.Put and auguryref1.Get: they answer as package code's do. -/
import Derived.Test.YtndobndaikhalaaRefCd
set_option linter.unusedVariables false
set_option linter.unusedSimpArgs false
namespace Go.Proofs.Ytndobndaikhalaa
open Go.RowKit
theorem byteAt_p (m : Int) (k : Nat) (h0 : 0 ≤ m) (h1 : m < 9223372036854775808) : m / 2 ^ (8 * (7 - k)) % 256 = Cd.byteAt m k := by
  rw [← byteAt_w, IntKind.wrap_u64, Int.emod_eq_of_lt h0 (by omega)]
set_option maxHeartbeats 2000000 in
theorem rPut_any (A : Option Addr) (n c : Nat) (l : List Int) (w : World) (hn : n = l.length) (hx : Rd w w.heap.size A (l.map (Value.int .i64))) (hl : Cd.isI l) (hs : n ≤ 1000000) :
    Calls Try.prog 15 #[.slice A n c] w (RetOwn w.heap.size 5 ((Cd.putL l).map (Value.int .u8)) w) := by
  subst hn
  obtain ⟨i0, hi0, hz0, hs0, hb0⟩ := info_parts infoB
  go_enter Try.func15, Try.ntmps15
  go_wp2
  go_loopw [3, 4] (fun v i wr => ∃ k : Nat, k ≤ l.length ∧ i = .int .i64 k ∧ wr.ownsRow w.heap.size 5 1 v ((Cd.putL (l.take k)).map (Value.int .u8)).length ((Cd.putL (l.take k)).map (Value.int .u8)) ∧ Below w.heap.size w wr) (fun _ i _ => l.length - (intOf i).toNat)
  case atStart => exact ⟨0, by omega, rfl, by simpa [Cd.putL] using World.ownsRow_nil _ _ _ _, Below.refl _ _⟩
  case round =>
    obtain ⟨k, hk, rfl, hown2, hb2⟩ := hrel
    have hs2 := hb2.size
    by_cases hlt : k < l.length
    · have hx2 := hx.below hb2 (by omega)
      obtain ⟨ad, rfl, hb, hc⟩ := hx2.at_ (k := k) hlt
      obtain ⟨z1, z2⟩ := isI_at hl hlt
      have hlen : ((Cd.putL (l.take k)).map (Value.int .u8)).length ≤ 9000000 := by
        rw [List.length_map]
        have := Cd.putL_len_le (l.take k)
        rw [List.length_take] at this
        omega
      have hst := take_snoc l k hlt
      generalize l.getD k 0 = m at hc z1 z2 hst
      have hst2 : (Cd.putL (l.take (k + 1))).map (Value.int .u8) = (Cd.putL (l.take k)).map (Value.int .u8) ++ (Cd.putN m).map (Value.int .u8) := by rw [hst, Cd.putL_snoc, List.map_append]
      have HST := Lib.hid hst2
      clear hst hst2
      generalize hX : (Cd.putL (l.take k)).map (Value.int .u8) = X at hown2 hlen HST
      clear hX
      cases hnr : Cd.nrB m
      · have hp : (Cd.putN m).map (Value.int .u8) = [Value.int .u8 255] ++ (Cd.eight m).map (Value.int .u8) := by simp [Cd.putN, hnr]
        have HP := Lib.hid hp
        have hm := Cd.nrB_not.1 hnr
        clear hp hnr
        by_cases hm1 : -1 ≤ m
        all_goals
          first | (have hm2 : 253 < m := by omega) | (have hm2 : m < -1 := by omega)
          clear hm
          obtain ⟨wo, rfl⟩ : ∃ wo : World, wo = wr := ⟨_, rfl⟩
          go_wp2_with (at_builtin; refine wp_app1 _ rfl (.tmp 29) (.tmp 30) _ rfl w.heap.size 5 i0 _ 1 Try.underlying24 hi0 hz0 hs0 hb0 rfl _ _ _ rfl hown2 (.int .u8 255) rfl rfl (by omega) (by omega) hs2 ?_; intro v1 w1 hown1 hb1)
          go_loopw [3, 6] (fun v i w4 => ∃ j : Nat, j ≤ 8 ∧ i = .int .i64 (7 - j) ∧ w4.ownsRow w.heap.size 5 1 v (X.length + 1 + j) ((X ++ [Value.int .u8 255]) ++ ((Cd.eight m).take j).map (Value.int .u8)) ∧ Below w.heap.size wo w4) (fun _ i _ => (intOf i + 1).toNat)
          case atStart => exact ⟨0, by omega, rfl, by simpa using hown1, hb1⟩
          case round =>
            obtain ⟨j, hj, rfl, hown5, hb5⟩ := hrel
            have hs5 := hb5.size
            by_cases hjt : j < 8
            · go_wp2_with (at_builtin; refine wp_app1 _ rfl (.tmp 36) (.tmp 44) _ rfl w.heap.size 5 i0 _ 1 Try.underlying24 hi0 hz0 hs0 hb0 rfl _ _ _ rfl hown5 _ rfl rfl (by omega) (by omega) (by omega) ?_; intro v6 w6 hown6 hb6)
              go_round
              case rel =>
                refine ⟨j + 1, by omega, by go_num, ?_, hb5.trans hb6⟩
                rw [eight_snoc m j hjt, List.map_append, List.map_cons, List.map_nil, ← List.append_assoc]
                first | rw [byteAt_w] at hown6 | rw [byteAt_p m j (by omega) (by omega)] at hown6
                exact hown6
              case measure => simp [intOf]; omega
            · have : j = 8 := by omega
              subst this
              go_wp2
              go_round
              case rel =>
                refine ⟨k + 1, by omega, by go_num, ?_, hb2.trans hb5⟩
                rw [HST.out, HP.out]
                rw [List.take_of_length_le (by rw [Cd.eight_len]; omega), List.append_assoc] at hown5
                have := own_len hown5
                rw [this]; exact hown5
              case measure => simp [intOf]; omega
      · have hm := Cd.nrB_iff.1 hnr
        obtain ⟨hm1, hm2⟩ := hm
        have hp : (Cd.putN m).map (Value.int .u8) = [Value.int .u8 (m + 1)] := by simp [Cd.putN, hnr]
        have HP := Lib.hid hp
        clear hp hnr
        go_wp2_with (at_builtin; refine wp_app1 _ rfl (.tmp 23) (.tmp 27) _ rfl w.heap.size 5 i0 _ 1 Try.underlying24 hi0 hz0 hs0 hb0 rfl _ _ _ rfl hown2 (.int .u8 (m + 1)) rfl rfl (by omega) (by omega) hs2 ?_; intro v1 w1 hown1 hb1)
        go_round
        case rel => exact ⟨k + 1, by omega, by go_num, by rw [HST.out, HP.out]; simpa using hown1, hb2.trans hb1⟩
        case measure => simp [intOf]; omega
    · go_wp2
      go_ret
      have hk : k = l.length := by omega
      subst hk
      rw [List.take_of_length_le (by omega)] at hown2
      exact ⟨_, rfl, hown2, hb2⟩

theorem toI_bd {u : Int} (h0 : 0 ≤ u) (h1 : u < 18446744073709551616) : -9223372036854775808 ≤ Cd.toI u ∧ Cd.toI u < 9223372036854775808 := by unfold Cd.toI; split <;> omega
theorem drop_cons (l : List Int) (k : Nat) (h : k < l.length) : l.drop k = l.getD k 0 :: l.drop (k + 1) := by
  rw [List.drop_eq_getElem_cons h]
  simp [List.getD, h]
set_option maxHeartbeats 4000000 in
theorem rGet_any (A : Option Addr) (n c : Nat) (b : List Int) (w : World) (hn : n = b.length) (hx : Rd w w.heap.size A (b.map (Value.int .u8))) (hB : Cd.isB b) (hs : n ≤ 1000000) :
    Calls Try.prog 13 #[.slice A n c] w (GetPost b w) := by
  subst hn
  obtain ⟨i0, hi0, hz0, hs0, hb0⟩ := info_parts infoI
  go_enter Try.func13, Try.ntmps13
  go_wp2
  go_loopw [4, 5] (fun v i wr => ∃ (k : Nat) (acc : List Int), i = .int .i64 k ∧ k ≤ b.length ∧ acc.length ≤ k ∧
      wr.ownsRow w.heap.size 3 1 v acc.length (acc.map (Value.int .i64)) ∧ Below w.heap.size w wr ∧ Cd.getL b = (Cd.getL (b.drop k)).map (acc ++ ·)) (fun _ i _ => b.length - (intOf i).toNat)
  case atStart => exact ⟨0, [], rfl, by omega, by simp, by simpa using World.ownsRow_nil _ _ _ _, Below.refl _ _, by simp⟩
  case round =>
    obtain ⟨k, acc, rfl, hk, hacc, hown, hbw, hg⟩ := hrel
    have HG := Lib.hid hg
    clear hg
    have hbs := hbw.size
    by_cases hlt : k < b.length
    · have hxr := hx.below hbw (Nat.le_refl _)
      obtain ⟨ad, rfl, hb, hc⟩ := hxr.at_ (k := k) hlt
      obtain ⟨x0, x1⟩ := isB_at hB hlt
      have hd := drop_cons b k hlt
      have hne : b.drop k ≠ [] := by rw [hd]; simp
      generalize b.getD k 0 = x at hc x0 x1 hd
      have HD := Lib.hid hd
      have HNE := Lib.hid hne
      clear hd hne
      by_cases hx5 : x = 255
      · subst hx5
        by_cases hr : (b.drop (k + 1)).length < 8
        · have hf : Cd.fst1 (b.drop k) = none := by rw [HD.out]; simp only [Cd.fst1, if_true, hr]
          have HF := Lib.hid hf
          have hr2 : b.length < k + 9 := by rw [List.length_drop] at hr; omega
          clear hf hr
          go_wp2
          go_ret2
          refine GetPost.no ?_ rfl rfl hbw
          rw [HG.out, Cd.getL_none HNE.out HF.out]; rfl
        · have hr2 : k + 9 ≤ b.length := by rw [List.length_drop] at hr; omega
          have hr8 : 8 ≤ (b.drop (k + 1)).length := by omega
          have hf : Cd.fst1 (b.drop k) = if Cd.nrB (Cd.toI (Cd.numOf ((b.drop (k + 1)).take 8))) = true then none else some (Cd.toI (Cd.numOf ((b.drop (k + 1)).take 8)), 9) := by
            rw [HD.out]; simp only [Cd.fst1, if_true, hr, if_false]
          have HF := Lib.hid hf
          clear hf hr
          have hBr : Cd.isB (b.drop (k + 1)) := isB_drop hB _
          have hcs : ∀ j, j < 8 → wr.cell? (ad.add (k + (j + 1))) = some (.int .u8 ((b.drop (k + 1)).getD j 0)) := by
            intro j hj
            obtain ⟨ad', e, _, h⟩ := hxr.at_ (k := k + (j + 1)) (by omega)
            injection e with e
            subst e
            rw [h]
            simp [List.getD, List.getElem?_drop, Nat.add_assoc, Nat.add_comm 1 j]
          have HCS := Lib.hid hcs
          clear hcs
          obtain ⟨wo, rfl⟩ : ∃ wo : World, wo = wr := ⟨_, rfl⟩
          generalize hrr : b.drop (k + 1) = r at HF hBr HCS HD hr8
          clear hrr
          go_wp2
          go_loop [6, 7] (fun u i => ∃ j : Nat, j ≤ 8 ∧ i = .int .i64 (j + 1) ∧ u = .int .u64 (Cd.numOf ((r.take 8).take j))) (fun _ i => 9 - (intOf i).toNat)
          case atStart => exact ⟨0, by omega, rfl, rfl⟩
          case round =>
            obtain ⟨j, hj, rfl, rfl⟩ := hrel
            by_cases hjt : j < 8
            · have hck := HCS.out j hjt
              obtain ⟨b1, b2⟩ := num_bd hBr j hjt
              obtain ⟨y1, y2⟩ := isB_at hBr (k := j) (by omega)
              have hor := num_or hBr j hjt hr8
              generalize r.getD j 0 = y at hck y1 y2 hor
              have HOR := Lib.hid hor
              clear hor
              go_wp2
              go_round
              case rel => exact ⟨j + 1, by omega, by go_num, int_eq HOR.out⟩
              case measure => simp [intOf]; omega
            · have : j = 8 := by omega
              subst this
              obtain ⟨b1, b2⟩ := num_bd8 hBr hr8
              have hI := toI_conv b1 b2
              rw [List.take_of_length_le (l := r.take 8) (by simp; omega)]
              generalize Cd.numOf (r.take 8) = u at *
              have q1 := toI_bd b1 b2
              generalize hq : Cd.toI u = q at *
              clear hq
              cases hnr : Cd.nrB q
              · have hm := Cd.nrB_not.1 hnr
                rw [hnr] at HF
                clear hnr
                have HF2 : Hid (Cd.fst1 (b.drop k) = some (q, 9)) := Lib.hid (by have := HF.out; simpa using this)
                clear HF
                by_cases hm1 : -1 ≤ q
                all_goals
                  first | (have hm2 : 253 < q := by omega) | (have hm2 : q < -1 := by omega)
                  clear hm
                  go_wp2_with (at_builtin; refine wp_app1 _ rfl (.tmp 55) (.tmp 58) _ rfl w.heap.size 3 i0 _ 8 Try.underlying22 hi0 hz0 hs0 hb0 rfl _ _ _ rfl hown (.int .i64 q) rfl rfl (by omega) (by omega) hbs ?_; intro v3 w3 hown3 hb3)
                  go_round
                  case rel => exact ⟨k + 9, acc ++ [q], by go_num, by omega, by simp; omega, by simpa using hown3, hbw.trans hb3, by have := Cd.getL_acc HG.out HF2.out; rwa [List.drop_drop] at this⟩
                  case measure => simp [intOf]; omega
              · obtain ⟨hm1, hm2⟩ := Cd.nrB_iff.1 hnr
                rw [hnr] at HF
                clear hnr
                have HF2 : Hid (Cd.fst1 (b.drop k) = none) := Lib.hid (by have := HF.out; simpa using this)
                clear HF
                go_wp2
                go_ret2
                refine GetPost.no ?_ rfl rfl hbw
                rw [HG.out, Cd.getL_none HNE.out HF2.out]; rfl
      · have hf : Cd.fst1 (b.drop k) = some (x - 1, 1) := by rw [HD.out]; simp only [Cd.fst1, if_neg hx5]
        have HF := Lib.hid hf
        have hx6 : (x != 255) = true := by simpa using hx5
        clear hf hx5
        go_wp2_with (at_builtin; refine wp_app1 _ rfl (.tmp 17) (.tmp 24) _ rfl w.heap.size 3 i0 _ 8 Try.underlying22 hi0 hz0 hs0 hb0 rfl _ _ _ rfl hown (.int .i64 (x - 1)) rfl rfl (by omega) (by omega) hbs ?_; intro v3 w3 hown3 hb3)
        go_round
        case rel => exact ⟨k + 1, acc ++ [x - 1], by go_num, by omega, by simp; omega, by simpa using hown3, hbw.trans hb3, by have := Cd.getL_acc HG.out HF.out; rwa [List.drop_drop] at this⟩
        case measure => simp [intOf]; omega
    · go_wp2
      go_ret2
      refine GetPost.yes (l := acc) ?_ rfl hown hbw
      rw [HG.out, List.drop_eq_nil_of_le (by omega)]; simp [Cd.getL_nil]
end Go.Proofs.Ytndobndaikhalaa
