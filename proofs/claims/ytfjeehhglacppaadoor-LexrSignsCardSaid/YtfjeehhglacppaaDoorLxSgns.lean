/- The walk of LexrSigns: it answers true, whatever it is given. -/
import Derived.Test.YtfjeehhglacppaaDoorLxLaw
import Derived.Test.YtfjeehhglacppaaDoorLxText
import Derived.Test.YtfjeehhglacppaaDoorLxLaid
import Derived.Test.YtfjeehhglacppaaDoorLxSigns
import Derived.Test.YtfjeehhglacppaaDoorLxNum
set_option linter.unusedVariables false
set_option linter.unusedSimpArgs false
namespace Go.Proofs.YtfjeehhglacppaaDoor
open Go.RowKit
namespace Lx
/-- a text of ASCII, rune by rune -/
theorem asc_next {u : List Int} (hu : ∀ x ∈ u, 0 ≤ x ∧ x < 128) {p : Nat} (hp : p < u.length) : p < (strOfNums u).size ∧ (((Utf8.decode (strOfNums u) p).1 : Nat) : Int) = u.getD p 0 ∧ (Utf8.decode (strOfNums u) p).2 = 1 := by
  have hs : p < (strOfNums u).size := by rw [strOfNums_size]; exact hp
  have h1 := byte_get hs
  rw [strOfNums_data, List.getElem?_map, List.getElem?_eq_getElem hp] at h1
  simp only [Option.map_some, Option.some.injEq] at h1
  have hx := hu u[p] (List.getElem_mem hp)
  have hb : (((strOfNums u)[p]'hs).toNat : Int) = u[p] := by
    rw [← h1]
    simp
    omega
  have hd := decode_ascii (strOfNums u) p hs (by omega)
  rw [hd]
  exact ⟨hs, by rw [hb]; simp [List.getD, hp], rfl⟩
end Lx
theorem blank_or {c : Int} (h : Lx.blank c = true) : c = 32 ∨ c = 9 := by simpa [Lx.blank] using h
theorem good_ascii' {t : Lx.Tk} (h : Lx.Good t) : ∀ x ∈ t.text, 0 ≤ x ∧ x < 128 := by
  rcases h with ⟨_, _, c, r, e, _, h2⟩ | ⟨_, _, c, r, e, h1, h2⟩ | ⟨_, _, c, e, h1⟩
  · exact fun x hx => Lx.word_lt (h2 x hx)
  · intro x hx
    rw [← h2, e] at hx
    exact Lx.dig_lt (digs_dig h1 x hx)
  · intro x hx
    rw [e] at hx
    simp at hx
    subst hx
    exact Lx.sgn_lt h1
/-- a number's digits, from the first on -/
theorem good_num {t : Lx.Tk} (h : Lx.Good t) (hk : t.kind = 2) : t.n = Lx.val t.text ∧ t.text.length ≤ 5 ∧ ∀ x ∈ t.text, Lx.dig x = true := by
  rcases h with ⟨h1, _⟩ | ⟨_, h2, c, r, e, h3, h4⟩ | ⟨h1, _⟩
  · rw [hk] at h1; cases h1
  · refine ⟨h2, by rw [← h4]; exact digs_five _, fun x hx => ?_⟩
    rw [← h4, e] at hx
    exact digs_dig h3 x hx
  · rw [hk] at h1; cases h1
theorem val_next {u : List Int} {p : Nat} (hp : p < u.length) : Lx.val (u.take (p + 1)) = 10 * Lx.val (u.take p) + (u.getD p 0 - 48) := by
  rw [List.take_add_one]
  have : u[p]?.toList = [u.getD p 0] := by simp [List.getD, hp]
  rw [this, Lx.val_snoc]
theorem val_small {u : List Int} (hu : ∀ x ∈ u, Lx.dig x = true) (h5 : u.length ≤ 5) (p : Nat) : 0 ≤ Lx.val (u.take p) ∧ Lx.val (u.take p) < 100000 := by
  have h1 := val_bd (u.take p) (fun x hx => hu x (List.mem_of_mem_take hx))
  have h2 : (10 : Int) ^ (u.take p).length ≤ 100000 := by
    have h1 : (u.take p).length ≤ 5 := by rw [List.length_take]; omega
    generalize (u.take p).length = m at *
    rcases (by omega : m = 0 ∨ m = 1 ∨ m = 2 ∨ m = 3 ∨ m = 4 ∨ m = 5) with rfl | rfl | rfl | rfl | rfl | rfl <;> decide
  omega
set_option maxRecDepth 100000 in
set_option maxHeartbeats 16000000 in
theorem walk_LexrSigns (A0 : Option Addr) (c0 : Nat) (z0 : List Int) (w : World) (h0 : Rd w w.heap.size A0 (z0.map (Value.int .i64))) :
    Calls Tryd.prog 5 #[.slice A0 z0.length c0] w (RetB (.bool true) w) := by
  obtain ⟨i0, hi0, hz0, hs0, hb0⟩ := info_parts infoR
  have hnx := @Lib.run_next_any_at Tryd.prog
  have hne := @Lib.run_next_end_at Tryd.prog
  have HNX := Lib.hid hnx; have HNE := Lib.hid hne
  clear hnx hne
  go_enter Tryd.func5, Tryd.ntmps5
  go_wp2_with fail
  refine (text_any A0 z0.length c0 z0 w rfl h0).mono ?_
  rintro e w1 ⟨s, rfl, hs, hb1⟩
  go_wp2_with fail
  refine (line_any s _ (by omega)).mono ?_
  intro e w2 h2
  cases hR : Lx.lxA 0 (Lx.runes s) with
  | error a =>
    rw [hR] at h2
    obtain ⟨rfl, hb2⟩ := h2.errT
    clear h2
    go_wp2_with (go_at_call 9; refine (awake4 _).mono ?_; rintro e w3 ⟨rfl, hb3⟩)
    go_ret
    exact ⟨rfl, upT (upT hb1 hb2) hb3⟩
  | ok ts =>
    have hlaid := Lx.laid_ok hR
    have htl := hlaid.len_le
    have hrl := Lx.runes_len s
    rw [List.drop_zero] at htl
    have hgood := hlaid.good
    rw [hR] at h2
    obtain ⟨g, A, cap, rfl, hA, hcap, hT, hb2⟩ := h2.okT
    clear h2 hR
    have hb := upT hb1 hb2
    have HLAID := Lib.hid hlaid; have HGOOD := Lib.hid hgood; have HT := Lib.hid hT; have HB := Lib.hid hb
    clear hlaid hgood hT h0 hb1 hb2 hb
    go_wp2_with fail
    go_loopw [7] (fun v wr => ∃ (p : Nat) (done : List Int), wr.heap[w2.heap.size]? = some (.stringIter s p) ∧ wr.ownsRow (w2.heap.size + 1) 21 1 v done.length (done.map (Value.int .i32)) ∧ done ++ Lx.runesAt s p = Lx.runes s ∧ Below w2.heap.size w2 wr) (fun _ wr => s.size - wr.iterPos w2.heap.size)
    case atStart => exact ⟨0, [], World.iter_heap w2 s 0, World.ownsRow_nil _ _ _ _, Lx.runesAt_zero s, upA (up0 w2) _⟩
    case round =>
      obtain ⟨p, done, hit, hown, heq, hbw⟩ := hrel
      obtain ⟨wo, rfl⟩ : ∃ wo : World, wo = wr := ⟨_, rfl⟩
      have hlt := (Array.getElem?_eq_some_iff.1 hit).1
      have hpos : wo.iterPos w2.heap.size = p := by simp [World.iterPos, hit]
      by_cases hp : p < s.size
      · have hst := Lx.runesAt_step hp
        have hds := Lx.decode_step s p hp
        have hlen : done.length + 1 ≤ 1000000 := by
          have := congrArg List.length heq
          rw [hst] at this
          simp at this
          omega
        have hrun := HNX.out wo w2.heap.size s p
        have hit2 := Lib.iterAt_heap wo w2.heap.size s p (p + (Utf8.decode s p).2) hit
        have hown2 := own_iterAt (s := s) (p := p + (Utf8.decode s p).2) hown (Nat.lt_succ_self _)
        have hb2 := Lib.below_iterAt hbw (Nat.le_refl _) s (p + (Utf8.decode s p).2)
        have hsz := Lib.iterAt_size wo w2.heap.size s (p + (Utf8.decode s p).2)
        have hrun' : ∀ ty, (Instr.next (.pointer (some ⟨w2.heap.size, 0, none⟩)) true ty).run Tryd.prog wo = .ok (.tuple #[.bool true, .int .i64 p, .int .i32 ((Utf8.decode s p).1 : Int)]) (wo.iterAt w2.heap.size s (p + (Utf8.decode s p).2)) := fun ty => hrun ty hit hp
        clear hrun
        generalize wo.iterAt w2.heap.size s (p + (Utf8.decode s p).2) = w3 at *
        generalize hp2 : p + (Utf8.decode s p).2 = p2 at *
        generalize (Utf8.decode s p).1 = rn at *
        have hsz1 : w2.heap.size + 1 ≤ w3.heap.size := by omega
        have HH := Lib.hid hit2; have HE := Lib.hid heq; have HST := Lib.hid hst; have HB2 := Lib.hid hb2
        clear hit2 heq hst hb2 hown hit hsz
        go_wp2_with (at_builtin; refine wp_app1 _ rfl (.tmp 31) (.tmp 33) _ rfl (w2.heap.size + 1) 21 i0 _ 4 Tryd.underlying35 hi0 hz0 hs0 hb0 rfl _ _ _ (by rfl) hown2 (.int .i32 (rn : Int)) rfl rfl (by omega) (by omega) (by omega) ?_; intro v2 w4 hown3 hb3)
        go_round
        case measure =>
          have e1 : w4.iterPos w2.heap.size = p2 := by
            have := hb3.block w2.heap.size (by omega)
            rw [HH.out] at this
            simp [World.iterPos, this]
          rw [e1, hpos]
          omega
        case rel =>
          refine ⟨p2, done ++ [(rn : Int)], (hb3.block w2.heap.size (by omega)).trans HH.out, by simpa using hown3, by rw [← HE.out, HST.out]; simp, HB2.out.trans (hb3.mono (Nat.le_succ _))⟩
      · have hend := Lx.runesAt_end hp
        rw [hend, List.append_nil] at heq
        have hrun : ∀ ty, (Instr.next (.pointer (some ⟨w2.heap.size, 0, none⟩)) true ty).run Tryd.prog wo = .ok (.tuple #[.bool false]) wo := fun ty => HNE.out wo w2.heap.size s p ty hit hp
        subst heq
        obtain ⟨Ar, cr, hvr, hncr, hcm, hnr, hrd⟩ := own_slice hown
        subst hvr
        have hbW := upT HB.out hbw
        have hTW := HT.out.below hbw
        have HRD := Lib.hid hrd; have HTW := Lib.hid hTW
        clear hown hit hrd hTW hlt hpos hnr
        generalize Lx.runes s = rs at *
        go_wp2_with fail
        clear hrun hbw HT HB
        go_loopw [10, 37] (fun v10 v37 wr => ∃ j : Nat, v37 = .int .i64 (j : Int) ∧ j ≤ ts.length ∧ v10 = .int .i64 (Lx.en 0 ts j : Int) ∧ Below wo.heap.size wo wr) (fun _ v37 _ => ts.length - (intOf v37).toNat)
        case atStart => exact ⟨0, rfl, by omega, by cases ts <;> rfl, up0 _⟩
        case round =>
          obtain ⟨j, rfl, hj, rfl, hbr⟩ := hrel
          obtain ⟨wa, rfl⟩ : ∃ wa : World, wa = wr := ⟨_, rfl⟩
          have HBR := Lib.hid hbr
          have hszw : wo.heap.size ≤ wa.heap.size := hbr.size
          have hrl6 : rs.length ≤ 140 := by omega
          by_cases hjl : j < ts.length
          · have j1 : (j : Int) < (ts.length : Int) := by omega
            have j0 : (0 : Int) ≤ (j : Int) := by omega
            obtain rfl := hA (by omega)
            obtain ⟨t, ht⟩ : ∃ t, ts[j]? = some t := ⟨ts[j], by simp [hjl]⟩
            obtain ⟨hgw, a1, a2, a3, a4⟩ := (HTW.out.below hbr) j t ht
            obtain ⟨n1, n2, n3, n4, n5⟩ := Lx.Laid.nth HLAID.out (Nat.zero_le _) ht
            have hgt := HGOOD.out t (List.mem_of_getElem? ht)
            have hpos := hgt.pos
            have hasc := good_ascii' hgt
            have hnum := good_num hgt
            have hrdr := HRD.out.below hbr (Nat.le_refl _)
            obtain ⟨ad, rfl, hadb, _⟩ := hrdr.i32_at (i := t.at_) (by omega)
            have hcr : ∀ p, p < rs.length → wa.cell? (ad.add p) = some (.int .i32 (rs.getD p 0)) := fun p hp => by
              obtain ⟨ad', e', _, hc⟩ := hrdr.i32_at hp
              cases e'
              exact hc
            have HCR := Lib.hid hcr; have HN2 := Lib.hid n2; have HN4 := Lib.hid n4; have HN5 := Lib.hid n5; have HASC := Lib.hid hasc; have HNUM := Lib.hid hnum
            have hj6 : j + 1 ≤ 1000 := by omega
            clear hcr n2 n4 n5 hasc hnum hrdr hgt ht hA
            generalize Lx.en 0 ts j = ej at *
            generalize hpl : t.at_ = pl at *
            generalize hu : t.text = u at *
            generalize hkd : t.kind = kd at *
            generalize hnn : t.n = tn at *
            have hsT : (strOfNums u).size = u.length := strOfNums_size _
            have hhu : 0 < u.length := hpos
            clear hpl hu hkd hnn
            go_wp2_with fail
            go_loop [10] (fun v10 => ∃ p : Nat, v10 = .int .i64 (p : Int) ∧ ej ≤ p ∧ p ≤ pl) (fun v10 => pl - (intOf v10).toNat)
            case atStart => exact ⟨ej, rfl, Nat.le_refl _, n1⟩
            case round =>
              obtain ⟨p, rfl, hp1, hp2⟩ := hrel
              by_cases hpp : p < pl
              · have p1 : (p : Int) < (pl : Int) := by omega
                have p2 : (p : Int) < (rs.length : Int) := by omega
                have p0 : (0 : Int) ≤ (p : Int) := by omega
                have hc := HCR.out p (by omega)
                have hbl := blank_or (HN4.out p hp1 hpp)
                generalize rs.getD p 0 = c at *
                rcases hbl with rfl | rfl
                all_goals
                  go_wp2_with fail
                  refine ⟨⟨p + 1, by go_num, by omega, by omega⟩, by simp [intOf]; omega⟩
              · have hpe : p = pl := by omega
                subst hpe
                have p1 : ¬ (p : Int) < (p : Int) := by omega
                go_wp2_with fail
                go_loopw [10, 12] (fun v10 v12 wr2 => ∃ (i : Nat) (nn : Int), wr2.heap[wa.heap.size]? = some (.stringIter (strOfNums u) i) ∧ v10 = .int .i64 ((p + i : Nat) : Int) ∧ v12 = .int .i64 nn ∧ (kd = 2 → nn = Lx.val (u.take i)) ∧ i ≤ u.length ∧ Below wa.heap.size wa wr2) (fun _ _ wr2 => u.length - wr2.iterPos wa.heap.size)
                case atStart => exact ⟨0, 0, World.iter_heap wa _ 0, rfl, rfl, fun _ => rfl, by omega, upA (up0 wa) _⟩
                case round =>
                  obtain ⟨i, nn, hit, rfl, rfl, hval, hi, hbi⟩ := hrel
                  obtain ⟨wr3, rfl⟩ : ∃ wr3 : World, wr3 = wr := ⟨_, rfl⟩
                  have hlt3 := (Array.getElem?_eq_some_iff.1 hit).1
                  have hpos3 : wr3.iterPos wa.heap.size = i := by simp [World.iterPos, hit]
                  by_cases hil : i < u.length
                  · obtain ⟨q1, q2, q3⟩ := Lx.asc_next HASC.out hil
                    have hrun := HNX.out wr3 wa.heap.size (strOfNums u) i
                    rw [q2, q3] at hrun
                    have hit2 := Lib.iterAt_heap wr3 wa.heap.size (strOfNums u) i (i + 1) hit
                    have hb3 := Lib.below_iterAt hbi (Nat.le_refl _) (strOfNums u) (i + 1)
                    have hsz3 := Lib.iterAt_size wr3 wa.heap.size (strOfNums u) (i + 1)
                    have hrun' : ∀ ty, (Instr.next (.pointer (some ⟨wa.heap.size, 0, none⟩)) true ty).run Tryd.prog wr3 = .ok (.tuple #[.bool true, .int .i64 i, .int .i32 (u.getD i 0)]) (wr3.iterAt wa.heap.size (strOfNums u) (i + 1)) := fun ty => hrun ty hit q1
                    clear hrun hit hbi
                    generalize wr3.iterAt wa.heap.size (strOfNums u) (i + 1) = w4 at *
                    have hc5 := HN5.out i hil
                    have hck := HCR.out (p + i) (by omega)
                    rw [hc5] at hck
                    have hck4 := (hb3.cell (p := ad.add (p + i)) (by rw [adr_block]; omega)).trans hck
                    have hcb := HASC.out (u.getD i 0) (Lx.getD_mem hil)
                    have hvn := val_next hil
                    have hvs : kd = 2 → 0 ≤ Lx.val (u.take i) ∧ Lx.val (u.take i) < 100000 := fun hk => val_small (HNUM.out hk).2.2 (HNUM.out hk).2.1 i
                    generalize u.getD i 0 = c at *
                    have k1 : ¬ (rs.length : Int) ≤ ((p + i : Nat) : Int) := by omega
                    have k0 : (0 : Int) ≤ ((p + i : Nat) : Int) := by omega
                    have k2 : ((p + i : Nat) : Int) < (rs.length : Int) := by omega
                    have hpk : p + i + 1 ≤ 1000 := by omega
                    generalize hk : p + i = k at *
                    have HK := Lib.hid hk; have HI := Lib.hid hit2; have HB3 := Lib.hid hb3; have HVAL := Lib.hid hval; have HVN := Lib.hid hvn; have HVS := Lib.hid hvs
                    clear hk hit2 hb3 hval hvn hvs hck hc5
                    go_wp2_with fail
                    go_round
                    case measure =>
                      have e1 : w4.iterPos wa.heap.size = i + 1 := by simp [World.iterPos, HI.out]
                      rw [e1, hpos3]
                      omega
                    case rel =>
                      refine ⟨i + 1, _, HI.out, by have := HK.out; go_num, rfl, fun hk2 => ?_, by omega, HB3.out⟩
                      have hv1 := HVAL.out hk2
                      have hv2 := HVS.out hk2
                      rw [HVN.out, ← hv1]
                      rw [← hv1] at hv2
                      unfold wrap64
                      omega
                  · have hie : i = u.length := by omega
                    subst hie
                    rw [List.take_length] at hval
                    have hrun : ∀ ty, (Instr.next (.pointer (some ⟨wa.heap.size, 0, none⟩)) true ty).run Tryd.prog wr3 = .ok (.tuple #[.bool false]) wr3 := fun ty => HNE.out wr3 wa.heap.size (strOfNums u) u.length ty hit (by rw [hsT]; omega)
                    have b1 : wr3.cell? ⟨g, j * 4, none⟩ = some (.int .i64 kd) := (hbi.cell (by exact hgw)).trans a1
                    have b3 : wr3.cell? ⟨g, j * 4 + 2, none⟩ = some (.int .i64 tn) := (hbi.cell (by exact hgw)).trans a3
                    have HBI := Lib.hid hbi
                    clear hit hbi
                    by_cases hk2 : kd = 2
                    · subst hk2
                      have hnt : nn = tn := by rw [hval rfl, (HNUM.out rfl).1]
                      subst hnt
                      clear hval
                      go_wp2_with fail
                      go_round
                      case measure => simp [intOf]; omega
                      case rel => exact ⟨j + 1, by go_num, by omega, by rw [HN2.out], HBR.out.trans (HBI.out.mono hszw)⟩
                    · have hk2' : (kd == 2) = false := by simpa using hk2
                      clear hval
                      go_wp2_with fail
                      go_round
                      case measure => simp [intOf]; omega
                      case rel => exact ⟨j + 1, by go_num, by omega, by rw [HN2.out], HBR.out.trans (HBI.out.mono hszw)⟩
          · have j1 : ¬ (j : Int) < (ts.length : Int) := by omega
            have hje : j = ts.length := by omega
            subst hje
            obtain ⟨L, l1, l2, l3, l4⟩ := Lx.Laid.rest HLAID.out (Nat.zero_le _)
            have hrdr := HRD.out.below hbr (Nat.le_refl _)
            have HRR := Lib.hid hrdr; have HL3 := Lib.hid l3; have HL4 := Lib.hid l4
            clear hrdr l3 l4
            generalize Lx.en 0 ts ts.length = ej at *
            go_wp2_with fail
            go_loop [10] (fun v10 => ∃ p : Nat, v10 = .int .i64 (p : Int) ∧ ej ≤ p ∧ p ≤ L) (fun v10 => L - (intOf v10).toNat)
            case atStart => exact ⟨ej, rfl, Nat.le_refl _, l1⟩
            case round =>
              obtain ⟨p, rfl, hp1, hp2⟩ := hrel
              have p0 : (0 : Int) ≤ (p : Int) := by omega
              by_cases hpp : p < L
              · have p2 : (p : Int) < (rs.length : Int) := by omega
                obtain ⟨ad, rfl, _, hc⟩ := HRR.out.i32_at (i := p) (by omega)
                have hbl := blank_or (HL3.out p hp1 hpp)
                generalize rs.getD p 0 = c at *
                rcases hbl with rfl | rfl
                all_goals
                  go_wp2_with fail
                  refine ⟨⟨p + 1, by go_num, by omega, by omega⟩, by simp [intOf]; omega⟩
              · have hpe : p = L := by omega
                subst hpe
                rcases HL4.out with h5 | ⟨h5, h6⟩
                · have p2 : ¬ (p : Int) < (rs.length : Int) := by omega
                  go_wp2_with (go_at_call 9; refine (awake4 _).mono ?_; rintro e w4 ⟨rfl, hb4⟩)
                  go_ret
                  exact ⟨rfl, upT (upT hbW HBR.out) hb4⟩
                · have p2 : (p : Int) < (rs.length : Int) := by omega
                  obtain ⟨ad, rfl, _, hc⟩ := HRR.out.i32_at (i := p) h5
                  rw [h6] at hc
                  go_wp2_with (go_at_call 9; refine (awake4 _).mono ?_; rintro e w4 ⟨rfl, hb4⟩)
                  go_ret
                  exact ⟨rfl, upT (upT hbW HBR.out) hb4⟩
end Go.Proofs.YtfjeehhglacppaaDoor
