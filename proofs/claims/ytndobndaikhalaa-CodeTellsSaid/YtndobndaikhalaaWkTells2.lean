/- The walk of CodeTells: it answers true, whatever it is given. -/
import Derived.Test.YtndobndaikhalaaAwake2
import Derived.Test.YtndobndaikhalaaWdMath
set_option linter.unusedVariables false
set_option linter.unusedSimpArgs false
namespace Go.Proofs.Ytndobndaikhalaa
open Go.RowKit
def getM (b : List Int) : List Int := (Cd.getL b).getD []
def getK (b : List Int) : Bool := (Cd.getL b).isSome
theorem getM_len (b : List Int) : (getM b).length ≤ b.length := by
  unfold getM
  cases h : Cd.getL b with
  | none => simp
  | some l => have := Cd.getL_len h; simpa using this
theorem GetPost.both {b : List Int} {w w' : World} {e : Ending} (h : GetPost b w e w') :
    ∃ A c, e = .returned (.tuple #[.slice A (getM b).length c, .bool (getK b)]) ∧ Rd w' w'.heap.size A ((getM b).map (Value.int .i64)) ∧ Below w.heap.size w w' := by
  unfold getM getK
  cases hl : Cd.getL b with
  | none =>
    obtain ⟨rfl, h4⟩ := h.none_ hl
    exact ⟨none, 0, rfl, Rd.nil, h4⟩
  | some l =>
    obtain ⟨A, c, rfl, _, _, h3, h4⟩ := h.sl hl
    exact ⟨A, c, rfl, h3, h4⟩
theorem xor_u8 (a b : Int) : 0 ≤ bits .xor .u8 a b ∧ bits .xor .u8 a b < 256 := by
  show 0 ≤ IntKind.u8.wrap _ ∧ IntKind.u8.wrap _ < 256
  rw [IntKind.wrap_u8]
  omega
theorem isB_set {l : List Int} (h : Cd.isB l) {x : Int} (h0 : 0 ≤ x ∧ x < 256) (j : Nat) : Cd.isB (l.set j x) := fun y hy => by
  rcases List.mem_or_eq_of_mem_set hy with h1 | h1
  · exact h y h1
  · rw [h1]; exact h0
set_option maxRecDepth 100000 in
set_option maxHeartbeats 8000000 in
theorem tells_body (A0 A1 A2 : Option Addr) (c0 c1 c2 : Nat) (l b0 cs : List Int) (at0 by0 : Int) (w : World) (hc0 : l.length ≤ c0) (hc1 : b0.length ≤ c1) (hm1 : c1 ≤ 140737488351232)
    (hl : Rd w w.heap.size A0 (l.map (Value.int .i64))) (hb : Rd w w.heap.size A1 (b0.map (Value.int .u8))) (hcr : Rd w w.heap.size A2 (cs.map (Value.int .u8)))
    (hI : Cd.isI l) (hB0 : Cd.isB b0) (hBc : Cd.isB cs) (hy0 : 0 ≤ by0) (hy1 : by0 < 256) (s0 : l.length ≤ 100) (s1 : b0.length ≤ 500) (s2 : cs.length ≤ 500) :
    Calls Try.prog 6 #[.slice A0 l.length c0, .slice A1 b0.length c1, .slice A2 cs.length c2, .int .i64 at0, .int .u8 by0] w (RetB (.bool true) w) := by
  have hBp := Cd.putL_isB l
  have HBp := Lib.hid hBp
  clear hBp
  have hlp : (Cd.putL l).length ≤ 900 := by have := Cd.putL_len_le l; omega
  go_enter Try.func6, Try.ntmps6
  go_wp2_with fail
  go_loopw [1, 11] (fun v i wr => ∃ (k : Nat) (A : Option Addr) (c : Nat) (bs : List Int), k ≤ 3 ∧ i = .int .i64 k ∧ v = .slice A bs.length c ∧ bs.length ≤ c ∧ c ≤ 9223372036854775807 ∧ bs.length ≤ 900 ∧ Cd.isB bs ∧ Rd wr wr.heap.size A (bs.map (Value.int .u8)) ∧ Below w.heap.size w wr) (fun _ i _ => 3 - (intOf i).toNat)
  case atStart => exact ⟨0, A1, c1, b0, by omega, rfl, rfl, hc1, by omega, by omega, hB0, hb, up0 w⟩
  case round =>
    obtain ⟨k, A, c, bs, hk, rfl, rfl, hbc, hbm, hbl, hB, hr, hbw⟩ := hrel
    have HB := Lib.hid hB
    clear hB
    by_cases hlt : k < 3
    · obtain ⟨wo, rfl⟩ : ∃ wo : World, wo = wr := ⟨_, rfl⟩
      have hl1 := hl.belowT hbw
      have hc1' := hcr.belowT hbw
      have hml := getM_len bs
      generalize hM : getM bs = m at hml
      generalize hK : getK bs = ok
      have HM := Lib.hid hM; have HK := Lib.hid hK
      clear hM hK
      go_wp2_with fail
      refine (Get_any A _ c bs _ rfl hbc (by simp only [maxLen]; omega) hr HB.out (by omega)).mono ?_
      intro e w1 h1
      obtain ⟨Ax, cx, rfl, hrx, hb1⟩ := h1.both
      clear h1
      rw [HM.out] at hrx
      rw [HM.out, HK.out]
      go_wp2_with fail
      refine (rGet_any A _ c bs _ rfl (hr.belowT hb1) HB.out (by omega)).mono ?_
      intro e w2 h2
      obtain ⟨Ay, cy, rfl, hry, hb2⟩ := h2.both
      clear h2
      rw [HM.out] at hry
      rw [HM.out, HK.out]
      have hl2 := (hl1.belowT hb1).belowT hb2
      go_wp2_with fail
      refine (Put_any A0 _ c0 l _ rfl hl2 hI (by omega)).mono ?_
      intro e w3 h3
      obtain ⟨Ap, cp, rfl, hcp, hmp, hrp, hb3⟩ := h3.sl
      clear h3
      go_wp2_with fail
      refine (rPut_any A0 _ c0 l _ rfl (hl2.belowT hb3) hI (by omega)).mono ?_
      intro e w4 h4
      obtain ⟨Aq, cq, rfl, hcq, hmq, hrq, hb4⟩ := h4.sl
      clear h4
      have hrp4 := hrp.belowT hb4
      have hrx4 := ((hrx.belowT hb2).belowT hb3).belowT hb4
      have hry4 := (hry.belowT hb3).belowT hb4
      have hr4 := (((hr.belowT hb1).belowT hb2).belowT hb3).belowT hb4
      have hc4 := (((hc1'.belowT hb1).belowT hb2).belowT hb3).belowT hb4
      have hl4 := (hl2.belowT hb3).belowT hb4
      have hbw4 : Below w.heap.size w w4 := upT (upT (upT (upT hbw hb1) hb2) hb3) hb4
      have e1 : (Cd.putL l == Cd.putL l) = true := by simp
      have e2 : (m == m) = true := by simp
      clear hl hb hcr hl1 hc1' hr hrx hry hrp hl2 hb1 hb2 hb3 hb4 hbw
      go_wp2_with (first
        | (go_at_call 14; refine (rsame_any Ap Aq w4.heap.size cp cq _ _ (Cd.putL l) (Cd.putL l) _ rfl rfl hrp4 hrq HBp.out HBp.out).mono ?_; rintro e w' ⟨rfl, rfl⟩)
        | (go_at_call 11; refine (same_any Ax Ay w4.heap.size cx cy _ _ m m _ rfl rfl hrx4 hry4 (by omega) (by omega)).mono ?_; rintro e w' ⟨rfl, q5, rfl⟩)
        | (go_at_call 12; (first | (with_reducible refine (less_any A A2 w4.heap.size _ _ c c2 bs cs _ rfl rfl (hr4.drewT q5) (hc4.drewT q5)).mono ?_) | (with_reducible refine (less_any A2 A w4.heap.size _ _ c2 c cs bs _ rfl rfl (hc4.drewT q5) (hr4.drewT q5)).mono ?_)); rintro e w' ⟨rfl, rfl⟩)
        | (go_at_call 16; (first | (with_reducible refine (rless_any A A2 w4.heap.size _ _ c c2 bs cs _ rfl rfl (hr4.drewT q5) (hc4.drewT q5)).mono ?_) | (with_reducible refine (rless_any A2 A w4.heap.size _ _ c2 c cs bs _ rfl rfl (hc4.drewT q5) (hr4.drewT q5)).mono ?_)); rintro e w' ⟨rfl, rfl⟩))
      refine (rPut_any A0 _ c0 l _ rfl (hl4.drewT q5) hI (by omega)).mono ?_
      rintro e w5 ⟨v5, rfl, hown5, hb5⟩
      have hbw5 : Below w.heap.size w w5 := upT (upD hbw4 q5) hb5
      rw [List.length_map] at hown5
      clear hrp4 hrx4 hry4 hr4 hc4 hrq
      generalize hN : (Cd.putL l).length = N at *
      by_cases hj : k = 1 ∧ 0 < N
      · obtain ⟨hk1, hN0⟩ := hj
        obtain ⟨g, cap, rfl, hg1, hg2⟩ := hown5.form hN0
        obtain ⟨j, hj, mj⟩ : ∃ j : Nat, j < N ∧ (bits .and .i64 at0 65535) % (N : Int) = j := by
          have h0 : 0 ≤ bits .and .i64 at0 65535 := by have := Wd.bits_mask at0 16 (by omega); rw [show (65535 : Int) = 2 ^ 16 - 1 from rfl, this]; omega
          have h1 := Int.emod_nonneg (bits .and .i64 at0 65535) (b := (N : Int)) (by omega)
          have h2 := Int.emod_lt_of_pos (bits .and .i64 at0 65535) (b := (N : Int)) (by omega)
          exact ⟨((bits .and .i64 at0 65535) % (N : Int)).toNat, by omega, by omega⟩
        have b0 : 0 ≤ bits .and .i64 at0 65535 := by have := Wd.bits_mask at0 16 (by omega); rw [show (65535 : Int) = 2 ^ 16 - 1 from rfl, this]; omega
        obtain ⟨x, hxv⟩ : ∃ x, (Cd.putL l).getD j 0 = x := ⟨_, rfl⟩
        have hcell : w5.cell? ⟨g, j, none⟩ = some (.int .u8 x) := by
          rw [hown5.cellAt j (by omega), List.getElem?_map]
          have : j < (Cd.putL l).length := by omega
          simp [this, ← hxv]
        have hfr := hown5.frozenAt j
        have hst := (hown5.stored j (.int .u8 (bits .xor .u8 x by0))).1
        have hgw := (hown5.stored j (.int .u8 (bits .xor .u8 x by0))).2
        have hbw6 : Below w.heap.size w (w5.setCell ⟨g, j, none⟩ (.int .u8 (bits .xor .u8 x by0))) := hbw5.setCell (by have := hbw4.size; show w.heap.size ≤ g; have h9 : w4.heap.size ≤ g := hg1; omega) _
        have hset : ((Cd.putL l).map (Value.int .u8)).set j (.int .u8 (bits .xor .u8 x by0)) = ((Cd.putL l).set j (bits .xor .u8 x by0)).map (Value.int .u8) := by rw [List.map_set]
        rw [hset] at hst
        have HST := Lib.hid hst; have HN := Lib.hid hN; have HO := Lib.hid hown5
        clear hst hN hset hown5 hxv hgw hb5
        go_wp2_with fail
        go_round
        case rel =>
          obtain ⟨A6, c6, h60, h61, h62, h63, h64⟩ := own_slice HST.out
          obtain ⟨rfl, h65, rfl⟩ : A6 = some ⟨g, 0, none⟩ ∧ True ∧ c6 = cap := by simp only [Value.slice.injEq] at h60; exact ⟨h60.1.symm, trivial, h60.2.2.symm⟩
          have hNv := HN.out
          exact ⟨2, some ⟨g, 0, none⟩, c6, (Cd.putL l).set j (bits .xor .u8 x by0), by omega, rfl, by rw [List.length_set, hNv], by rw [List.length_set, hNv]; omega, by simp only [maxLen] at h62; omega, by rw [List.length_set, hNv]; omega, isB_set HBp.out (xor_u8 x by0) j, h64, hbw6⟩
        case measure => simp [intOf]; omega
      · obtain ⟨A5, c5, rfl, h51, h52, h53, h54⟩ := own_slice hown5
        have hN2 := hN
        have HN := Lib.hid hN
        clear hN hown5 h53
        by_cases hk1 : k = 1
        · have hN0 : N = 0 := by omega
          clear hj
          go_wp2_with fail
          go_round
          case rel => exact ⟨k + 1, A5, c5, Cd.putL l, by omega, by go_num, by rw [HN.out, hN0], by omega, by simp only [maxLen] at h52; omega, by omega, HBp.out, h54, hbw5⟩
          case measure => simp [intOf]; omega
        · clear hj
          go_wp2_with fail
          go_round
          case rel => exact ⟨k + 1, A5, c5, Cd.putL l, by omega, by go_num, by rw [HN.out], by omega, by simp only [maxLen] at h52; omega, by omega, HBp.out, h54, hbw5⟩
          case measure => simp [intOf]; omega
    · go_wp2_with (go_at_call 8; refine (awake2 _).mono ?_; rintro e w6 ⟨rfl, hbw6⟩)
      go_ret
      exact RetB.b rfl rfl (upT hbw hbw6)

theorem walk_CodeTells (A0 A1 A2 : Option Addr) (c0 c1 c2 : Nat) (l b0 cs : List Int) (at0 by0 : Int) (w : World) (hc0 : l.length ≤ c0) (hm0 : c0 ≤ 140737488351232) (hc1 : b0.length ≤ c1) (hm1 : c1 ≤ 140737488351232) (hc2 : cs.length ≤ c2) (hm2 : c2 ≤ 140737488351232)
    (hl : Rd w w.heap.size A0 (l.map (Value.int .i64))) (hb : Rd w w.heap.size A1 (b0.map (Value.int .u8))) (hcr : Rd w w.heap.size A2 (cs.map (Value.int .u8)))
    (hI : Cd.isI l) (hB0 : Cd.isB b0) (hBc : Cd.isB cs) (hy0 : 0 ≤ by0 ∧ by0 ≤ 255) :
    Calls Try.prog 6 #[.slice A0 l.length c0, .slice A1 b0.length c1, .slice A2 cs.length c2, .int .i64 at0, .int .u8 by0] w (RetB (.bool true) w) := by
  by_cases s : l.length ≤ 100 ∧ b0.length ≤ 500 ∧ cs.length ≤ 500
  · exact tells_body A0 A1 A2 c0 c1 c2 l b0 cs at0 by0 w hc0 hc1 hm1 hl hb hcr hI hB0 hBc hy0.1 (by omega) s.1 s.2.1 s.2.2
  · clear hl hb hcr hI hB0 hBc
    generalize l.length = n at *
    generalize b0.length = n' at *
    generalize cs.length = n'' at *
    by_cases s1 : 100 < n
    all_goals by_cases s2 : 500 < n'
    all_goals by_cases s3 : 500 < n''
    all_goals first | (exfalso; omega) | skip
    all_goals
      clear s
      go_enter Try.func6, Try.ntmps6
      go_wp2_with (go_at_call 8; refine (awake2 _).mono ?_; rintro e w' ⟨rfl, hbw⟩)
      go_ret
      exact RetB.b rfl rfl hbw
end Go.Proofs.Ytndobndaikhalaa
