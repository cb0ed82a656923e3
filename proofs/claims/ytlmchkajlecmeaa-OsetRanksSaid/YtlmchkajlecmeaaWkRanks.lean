/- The walk of OsetRanks: it answers true, whatever it is given. -/
import Derived.Test.YtlmchkajlecmeaaAwake3
import Derived.Test.YtlmchkajlecmeaaOsLaw
set_option linter.unusedVariables false
set_option linter.unusedSimpArgs false
namespace Go.Proofs.Ytlmchkajlecmeaa
open Go.RowKit
theorem u8_next (x : Int) (h0 : 0 ≤ x) (h1 : x < 256) : ∃ y : Int, IntKind.u8.wrap (x + 1) = y ∧ 0 ≤ y ∧ y < 256 ∧ y ≠ x := by
  refine ⟨_, rfl, ?_⟩
  have : IntKind.u8.wrap (x + 1) = (x + 1) % 256 := rfl
  rw [this]
  omega
set_option maxRecDepth 100000 in
set_option maxHeartbeats 8000000 in
theorem walk_OsetRanks (A : Option Addr) (c : Nat) (l : List (List Int)) (w : World) (hlc : l.length ≤ c) (hcm : c ≤ maxLen) (hK : Kys w w.heap.size A l) :
    Calls Try.prog 3 #[.slice A l.length c] w (RetB (.bool true) w) := by
  obtain ⟨i0, hi0, hz0, hs0, hb0⟩ := info_parts infoB
  have hmm := @run_makeMap Try.prog
  have hmo : mostOf 100 = 100 := by decide
  simp only [maxLen] at hcm
  have HK := Lib.hid hK
  clear hK
  generalize hln : l.length = ln at *
  have HLN := Lib.hid hln
  clear hln
  go_enter Try.func3, Try.ntmps3
  go_wp2_with fail
  refine (new_one 100 w w (up0 w)).mono ?_
  rintro e w1 ⟨g, rfl, h1⟩
  rw [hmo] at h1
  go_wp2_with fail
  go_loopw [4] (fun i wr => ∃ k : Nat, k ≤ ln ∧ k ≤ 40 ∧ i = .int .i64 k ∧ Two w (Ivl w.heap.size wr.heap.size) wr (cs g 100 (keysOf 100 (l.take k))) noSet) (fun i _ => ln - (intOf i).toNat)
  case atStart => exact ⟨0, by omega, by omega, rfl, h1⟩
  case round =>
    obtain ⟨k, hk, hk4, rfl, h2⟩ := hrel
    obtain ⟨wo, rfl⟩ : ∃ wo : World, wo = wr := ⟨_, rfl⟩
    have H2 := Lib.hid h2
    clear h2 h1
    by_cases hin : k < ln ∧ k < 40
    · obtain ⟨hlt, hlt4⟩ := hin
      obtain ⟨aL, Ax, cx, rfl, hbL, hcx, hxc, hcm', hrx, hBx, _⟩ := HK.out.at_ (i := k) (by rw [HLN.out]; exact hlt)
      have hcell : wo.cell? (aL.add k) = some (.slice Ax (l.getD k []).length cx) := (H2.out.below.cell (by rw [adr_block]; exact hbL)).trans hcx
      have hrx' := hrx.below H2.out.below (Nat.le_refl _)
      have hkt := keysOf_take (most := 100) (l := l) (i := k) (by rw [HLN.out]; exact hlt)
      have k0 : (0 : Int) ≤ (k : Int) := by omega
      have k1 : (k : Int) < (ln : Int) := by omega
      have k2 : (k : Int) < 40 := by omega
      clear hrx hcx
      generalize l.getD k [] = x at *
      have hrxo := hrx'.more H2.out.below.size
      by_cases hx : x.length ≤ 100
      · have HRX := Lib.hid hrxo; have HKT := Lib.hid hkt; have HB := Lib.hid hBx
        clear hrx' hrxo hkt hBx
        have hlit := own_lit1 wo 5 _ rfl
        have hcell2 : (wo.alloc (.cells #[] 5)).cell? (aL.add k) = some (.slice Ax x.length cx) := (World.cell?_alloc_lt _ _ _ (World.block_lt_of_cell? wo _ hcell)).trans hcell
        have hx' : ¬ (100 : Int) < (x.length : Int) := by omega
        by_cases hx0 : x = []
        · subst hx0
          go_wp2_with (at_builtin; refine wp_appR _ rfl (.tmp 36) (.tmp 40) _ rfl wo.heap.size 5 i0 _ 1 Try.underlying25 hi0 hz0 hs0 hb0 rfl _ 0 [] (by rfl) hlit (wo.alloc (.cells #[] 5)).heap.size Ax 0 cx [] rfl (by simp) Rd.nil (by simp) (by omega) (by omega) (by simp) ?_; intro v1 w2 hown1 hb1)
          obtain ⟨A1, c1, rfl, hc1, hm1, _, hr1⟩ := own_slice hown1
          have hbw2 : Below wo.heap.size wo w2 := (upA (up0 wo) _).trans hb1
          have h3 := (H2.out.up (cs_st _ _ _) no_st hbw2)
          have hap : Apart (Ivl w.heap.size wo.heap.size) A1 := fun ad e hk => by
            subst e
            have h5 := (hown1.lt ad.block rfl).1
            have := hk.2
            omega
          clear hown1 hlit hb1
          go_wp2_with fail
          refine (h3.add no_st (key := []) rfl Rd.nil HB.out (by simp) hap).mono ?_
          rintro e w3 ⟨rfl, h4, hF3⟩
          rw [← HKT.out] at h4
          go_wp2_with fail
          go_round
          case measure => simp [intOf]; omega
          case rel => exact ⟨k + 1, by omega, by omega, by go_num, h4.wide⟩
        · have hpos : 0 < x.length := List.length_pos_iff.2 hx0
          have hpos' : (0 : Int) < (x.length : Int) := by omega
          generalize hxl : x.length = nx at *
          have HXL := Lib.hid hxl
          clear hxl
          go_wp2_with (at_builtin; refine wp_appR _ rfl (.tmp 36) (.tmp 40) _ rfl wo.heap.size 5 i0 _ 1 Try.underlying25 hi0 hz0 hs0 hb0 rfl _ 0 [] (by rfl) hlit (wo.alloc (.cells #[] 5)).heap.size Ax nx cx (x.map (Value.int .u8)) rfl (by simpa using HXL.out.symm) (HRX.out.allocT _) (ints_one _ _) (by omega) (by omega) (by simp) ?_; intro v1 w2 hown1 hb1)
          replace hown1 := own_zero hown1
          have hlen1 := own_len hown1
          obtain ⟨g1, cap1, rfl, hg1, hg2⟩ := hown1.form hpos
          have hrd1 : Rd w2 w2.heap.size (some ⟨g1, 0, none⟩) (x.map (Value.int .u8)) := by
            obtain ⟨A', c', e', _, _, _, hr'⟩ := own_slice hown1
            simp only [Value.slice.injEq] at e'
            rw [e'.1]
            exact hr'
          have hbw2 : Below wo.heap.size wo w2 := (upA (up0 wo) _).trans hb1
          have h3 := (H2.out.up (cs_st _ _ _) no_st hbw2)
          have hap : Apart (Ivl w.heap.size wo.heap.size) (some ⟨g1, 0, none⟩) := H2.out.fresh hg1
          have HO := Lib.hid hown1
          clear hown1 hlit hb1
          go_wp2_with fail
          refine (h3.add no_st HXL.out.symm hrd1 HB.out (by omega) hap).mono ?_
          rintro e w3 ⟨rfl, h4, hF3⟩
          rw [← HKT.out] at h4
          have hown3 : w3.ownsRow wo.heap.size 5 1 (.slice (some ⟨g1, 0, none⟩) nx cap1) nx (x.map (Value.int .u8)) := own_fr HO.out hF3 (fun k hk => hap _ (by simp [Value.ownBlock] at hk; rw [hk]))
          have hc0 := row_cell hown3 (j := 0) (by rw [HXL.out]; exact hpos)
          have hf0 := hown3.frozenAt 0
          have hx0' := HB.out (x.getD 0 0) (by simp [List.getD, show 0 < x.length by rw [HXL.out]; exact hpos])
          have HO3 := Lib.hid hown3
          clear hown3 HO hF3 hrd1 h3
          generalize x.getD 0 0 = x0 at *
          obtain ⟨y, hy, hy0, hy1, hyn⟩ := u8_next x0 hx0'.1 hx0'.2
          go_wp2_with fail
          go_round
          case measure => simp [intOf]; omega
          case rel =>
            refine ⟨k + 1, by omega, by omega, by go_num, ?_⟩
            have := h4.frame (cs_st _ _ _) no_st (Fr.setCell (p := ⟨g1, 0, none⟩) (.int .u8 y)) (fun q hq => by
              simp only at hq
              subst hq
              refine ⟨fun hz => ?_, ?_⟩
              · rcases hz with hz | hz
                · have := hz.2; omega
                · have := hz.1; omega
              · have := H2.out.below.size; omega)
            exact this.wide
      · have hx' : (100 : Int) < (x.length : Int) := by omega
        generalize x.length = nx at *
        go_wp2_with (go_at_call 8; refine (awake3 _).mono ?_; rintro e w9 ⟨rfl, hb9⟩)
        go_ret
        exact RetB.b rfl rfl (H2.out.below.trans (hb9.mono H2.out.below.size))
    · have hkn : ln ≤ k ∨ (k < ln ∧ 40 ≤ k) := by omega
      have hL : (keysOf 100 (l.take k)).length ≤ 40 := by
        have h1 := keysOf_len 100 (l.take k)
        have h2 : (l.take k).length ≤ k := by rw [List.length_take]; omega
        omega
      obtain ⟨hby, hnd, _, _⟩ := H2.out.keys
      generalize keysOf 100 (l.take k) = L at *
      have HBY := Lib.hid hby; have HND := Lib.hid hnd
      clear hby hnd hin
      have hsW := H2.out.below.size
      obtain ⟨bm, hbm⟩ : ∃ bm, bm = wo.heap.size := ⟨_, rfl⟩
      have hbmW : w.heap.size ≤ bm := by omega
      rcases hkn with hkn | ⟨hkn1, hkn⟩
      all_goals
        first
          | have hge : ¬ (k : Int) < (ln : Int) := by omega
          | (have hge1 : (k : Int) < (ln : Int) := by omega
             have hge2 : ¬ (k : Int) < 40 := by omega)
        go_wp2_with fail
        go_loopw [7] (fun vi wr => ∃ (i m : Nat) (Z : Nat → Prop) (D : DataW Unit), i ≤ L.length ∧ vi = .int .i64 i ∧ Two w Z wr (cs g 100 L) noSet ∧ ¬ Z bm ∧ wr.ownsMap Try.prog 3 (plainElem Try.prog 3) bm m D ∧ m ≤ i ∧ SeenOk D L i) (fun vi _ => L.length - (intOf vi).toNat)
        case atStart => exact ⟨0, 0, Ivl w.heap.size wo.heap.size, .map [], by omega, rfl, two_alloc H2.out (cs_st _ _ _) no_st _, fun h => by have := h.2; omega, by rw [hbm]; exact World.ownsMap_made _ _ _ _, by omega, SeenOk.nil L⟩
        case round =>
          obtain ⟨i, m, Z, D, hi, rfl, h3, hZ, hmp, hmi, hsn⟩ := hrel
          obtain ⟨u0, rfl⟩ : ∃ u0 : World, u0 = wr := ⟨_, rfl⟩
          have H3 := Lib.hid h3; have HMP := Lib.hid hmp; have HSN := Lib.hid hsn
          clear h3 hmp hsn
          by_cases hlt : i < L.length
          · have hBx := (HBY.out _ (mem_keyAt hlt))
            have hix := Os.idx_of_nodup HND.out hlt rfl
            have i0' : (0 : Int) ≤ (i : Int) := by omega
            have i1' : (i : Int) < (L.length : Int) := by omega
            go_wp2_with fail
            refine H3.out.len.mono ?_
            rintro e w' ⟨rfl, rfl⟩
            go_wp2_with fail
            refine (H3.out.at_ i).mono ?_
            intro e u1 hp
            obtain ⟨A1, c1, rfl, q1, q2, q3, q4, q5⟩ := hp.some hlt
            clear hp
            have HQ3 := Lib.hid q3; have HQ4 := Lib.hid q4
            clear q3 q4
            go_wp2_with fail
            refine ((H3.out.up (cs_st _ _ _) no_st q5).has (key := Os.keyAt L i) rfl HQ4.out hBx.1 hBx.2).mono ?_
            rintro e w' ⟨rfl, q, rfl⟩
            rw [hix]
            have HIX := Lib.hid hix
            clear hix
            generalize hkx : Os.keyAt L i = x at *
            have HKX := Lib.hid hkx
            clear hkx
            go_wp2_with fail
            go_loopw [10, 11] (fun vn vj wr => ∃ j : Nat, j ≤ L.length ∧ vj = .int .i64 j ∧ vn = .int .i64 ((L.take j).countP (fun y => Cd.lessB y x) : Nat) ∧ Below u1.heap.size (u1.drewN q) wr) (fun _ vj _ => L.length - (intOf vj).toNat)
            case atStart => exact ⟨0, by omega, rfl, by simp, Below.refl _ _⟩
            case round =>
              obtain ⟨j, hj, rfl, rfl, hbj⟩ := hrel
              obtain ⟨u2, rfl⟩ : ∃ u2 : World, u2 = wr := ⟨_, rfl⟩
              have hbj2 : Below u0.heap.size u0 u2 := upT (upD q5 q) hbj
              have h5 := H3.out.up (cs_st _ _ _) no_st hbj2
              have HQj := Lib.hid ((HQ4.out.drewT q).belowT hbj)
              have H5 := Lib.hid h5
              clear h5
              have hcl : (L.take j).countP (fun y => Cd.lessB y x) ≤ 40 := by
                have h1 := List.countP_le_length (p := fun y => Cd.lessB y x) (l := L.take j)
                have h2 : (L.take j).length ≤ j := by rw [List.length_take]; omega
                omega
              by_cases hjl : j < L.length
              · have hct : (L.take (j + 1)).countP (fun y => Cd.lessB y x) = (L.take j).countP (fun y => Cd.lessB y x) + (if Cd.lessB (Os.keyAt L j) x = true then 1 else 0) := by
                  rw [List.take_add_one, List.countP_append]
                  simp [List.countP_cons, Os.keyAt, List.getD, hjl]
                have HCT := Lib.hid hct
                clear hct
                have j1 : (j : Int) < (L.length : Int) := by omega
                generalize (L.take j).countP (fun y => Cd.lessB y x) = nn at *
                go_wp2_with fail
                refine H5.out.len.mono ?_
                rintro e w' ⟨rfl, rfl⟩
                go_wp2_with fail
                refine (H5.out.at_ j).mono ?_
                intro e u3 hp
                obtain ⟨A2, c2, rfl, p1, p2, p3, p4, p5⟩ := hp.some hjl
                have hrl := rless_any A2 A1 u3.heap.size _ _ c2 c1 (Os.keyAt L j) x u3 rfl rfl p4 (HQj.out.belowT p5)
                have HRL := Lib.hid hrl
                clear hp p3 p4 hrl
                cases hl : Cd.lessB (Os.keyAt L j) x
                all_goals
                  rw [hl] at HRL HCT
                  clear hl
                  go_wp2_with fail
                  refine HRL.out.mono ?_
                  rintro e w' ⟨rfl, rfl⟩
                  go_wp2_with fail
                  go_round
                  case measure => simp [intOf]; omega
                  case rel => exact ⟨j + 1, by omega, by go_num, by rw [HCT.out]; first | rfl | simp, hbj.trans (p5.mono hbj.size)⟩
              · have hje : j = L.length := by omega
                have hnn : (L.take j).countP (fun y => Cd.lessB y x) = Os.rk L x := by rw [hje, List.take_length]; rfl
                have HNN := Lib.hid hnn
                clear hnn
                generalize (L.take j).countP (fun y => Cd.lessB y x) = nn at *
                have j1 : ¬ (j : Int) < (L.length : Int) := by omega
                go_wp2_with fail
                refine H5.out.len.mono ?_
                rintro e w' ⟨rfl, rfl⟩
                go_wp2_with fail
                have hap : Apart Z A1 := fun ad e hk => by
                  subst e
                  have h6 := (HQ3.out.lt ad.block rfl).1
                  have := (H3.out.zone _ hk).2
                  omega
                refine (H5.out.rank no_st (key := x) rfl HQj.out hBx.1 hBx.2 hap).mono ?_
                rintro e u4 ⟨rfl, h4, hF4⟩
                have hm4 := map_fr (map_fr HMP.out (Fr.of_below (S := fun _ => False) hbj2) (fun h => h)) hF4 hZ
                have hsb := seenB_new (fun z hz => (HBY.out z hz).1) HND.out hlt
                rw [HKX.out, ← HNN.out] at hsb
                have hlook := seen_look hm4 HSN.out (n := nn) (by omega)
                rw [hsb] at hlook
                simp only [Bool.false_eq_true, if_false] at hlook
                obtain ⟨u5, D', hput, hm5, hs5, hF5⟩ := seen_put hm4 HSN.out (by rw [HKX.out, ← HNN.out]; omega) (by omega)
                rw [HKX.out, ← HNN.out] at hput
                rw [← HNN.out]
                rw [hbm] at hlook hput
                have hbl := HMP.out.lt
                have hsz2 := hbj2.size
                have hZ2 : ¬ (Z bm ∨ Ivl u2.heap.size u4.heap.size bm) := fun h => by
                  rcases h with h | h
                  · exact hZ h
                  · have := h.1; omega
                have h55 := h4.frame (cs_st _ _ _) no_st hF5 (fun p hp => by rw [show p = bm from hp]; exact ⟨hZ2, hbmW⟩)
                have HM5 := Lib.hid hm5; have HS5 := Lib.hid hs5; have H55 := Lib.hid h55; have HF4 := Lib.hid hF4; have HF5 := Lib.hid hF5
                clear hm5 hs5 h55 hF5 hm4 h4
                by_cases hx0 : x = []
                · subst hx0
                  go_wp2_with fail
                  go_round
                  case measure => simp [intOf]; omega
                  case rel => exact ⟨i + 1, m + 1, _, D', by omega, by go_num, H55.out, hZ2, HM5.out, by omega, HS5.out⟩
                · have hpos : 0 < x.length := List.length_pos_iff.2 hx0
                  have hpos' : (0 : Int) < (x.length : Int) := by omega
                  obtain ⟨ga, capa, ea, hg1, hg2⟩ := HQ3.out.form hpos
                  simp only [Value.slice.injEq, true_and] at ea
                  obtain ⟨rfl, rfl⟩ := ea
                  have hga : ¬ Z ga := fun hk => by have := (H3.out.zone _ hk).2; omega
                  have hgab : ga ≠ bm := by omega
                  have hga2 : ga < u2.heap.size := Nat.lt_of_lt_of_le hg2 hbj.size
                  have ho2 := own_below (w := u1.drewN q) (w' := u2) HQ3.out hbj (Nat.le_refl _)
                  have ho4 := own_fr ho2 HF4.out (fun k hk => by simp [Value.ownBlock] at hk; subst hk; exact hga)
                  have ho5 := own_fr ho4 HF5.out (fun k hk => by simp [Value.ownBlock] at hk; subst hk; exact hgab)
                  have hc0 := row_cell ho5 (j := 0) hpos
                  have hf0 := ho5.frozenAt 0
                  have hx0' := hBx.1 (x.getD 0 0) (by simp [List.getD, hpos])
                  have hget : x.getD 0 0 = x[0] := by simp [List.getD, hpos]
                  have hset := fun y : Int => set_read ho5 (j := 0) y
                  have HSET := Lib.hid hset; have HGET := Lib.hid hget; have HO5 := Lib.hid ho5
                  clear ho2 ho4 ho5 hset hget
                  generalize x.getD 0 0 = x0 at *
                  obtain ⟨y, hy, hy0, hy1, hyn⟩ := u8_next x0 hx0'.1 hx0'.2
                  have h66 := H55.out.frame (cs_st _ _ _) no_st (Fr.setCell (p := ⟨ga, 0, none⟩) (.int .u8 y)) (fun p hp => by
                    rw [show p = ga from hp]
                    refine ⟨fun hz => ?_, by have := H3.out.below.size; omega⟩
                    rcases hz with hz | hz
                    · exact hga hz
                    · have := hz.1; omega)
                  have hm6 := map_fr HM5.out (Fr.setCell (p := ⟨ga, 0, none⟩) (.int .u8 y)) (fun h => hgab h.symm)
                  have hr6 := HSET.out y
                  have hne : ((strOfNums x).toList == (strOfNums (x.set 0 y)).toList) = false := by
                    rw [str_beq hBx.1 (fun z hz => by
                      rcases List.mem_or_eq_of_mem_set hz with h | h
                      · exact hBx.1 z h
                      · rw [h]; exact ⟨hy0, hy1⟩)]
                    rw [beq_eq_false_iff_ne]
                    intro e
                    have h1 : x[0]? = (x.set 0 y)[0]? := by rw [← e]
                    rw [List.getElem?_set_self hpos, List.getElem?_eq_getElem hpos] at h1
                    injection h1 with h1
                    exact hyn (by rw [HGET.out, h1])
                  have hxs : (x.set 0 y).length = x.length := List.length_set
                  have HNE := Lib.hid hne; have H66 := Lib.hid h66; have HM6 := Lib.hid hm6; have HR6 := Lib.hid hr6
                  clear hne h66 hm6 hr6
                  go_wp2_with fail
                  refine (H66.out.at_ i).mono ?_
                  intro e u7 hp
                  obtain ⟨A8, c8, rfl, p1, p2, p3, p4, p5⟩ := hp.some hlt
                  rw [HKX.out] at *
                  have k1 := conv_any (P := Try.prog) (c := c8) p4 rfl 25 5 9 Try.underlying25 Try.underlying5 Try.underlying9
                  have k2 := conv_any (P := Try.prog) (c := c1) (HR6.out.belowT p5) hxs.symm 25 5 9 Try.underlying25 Try.underlying5 Try.underlying9
                  have hne := HNE.out
                  clear hp p3 p4
                  go_wp2_with fail
                  go_round
                  case measure => simp [intOf]; omega
                  case rel => exact ⟨i + 1, m + 1, _, D', by omega, by go_num, H66.out.up (cs_st _ _ _) no_st p5, hZ2, map_fr HM6.out (Fr.of_below (S := fun _ => False) p5) (fun h => h), by omega, HS5.out⟩
          · have hie : ¬ (i : Int) < (L.length : Int) := by omega
            go_wp2_with fail
            refine H3.out.len.mono ?_
            rintro e w' ⟨rfl, rfl⟩
            go_wp2_with (go_at_call 8; refine (awake3 _).mono ?_; rintro e w9 ⟨rfl, hb9⟩)
            go_ret
            exact RetB.b rfl rfl (H3.out.below.trans (hb9.mono H3.out.below.size))
end Go.Proofs.Ytlmchkajlecmeaa
