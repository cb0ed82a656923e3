/- The contract of auguryref4's Line. -/
import Derived.Test.YtcpbbkpfickfiaaDoorLxLnG
import Derived.Test.YtcpbbkpfickfiaaDoorLxNum
set_option linter.unusedVariables false
set_option linter.unusedSimpArgs false
namespace Go.Proofs.YtcpbbkpfickfiaaDoor
open Go.RowKit
theorem encode_ascii (n : Int) (h : 0 ≤ n ∧ n < 128) : Utf8.encode n = ⟨#[UInt8.ofNat n.toNat]⟩ := by
  obtain ⟨k, rfl⟩ : ∃ k : Nat, n = k := ⟨n.toNat, by omega⟩
  have hv : Utf8.valid (k : Int) = true := by unfold Utf8.valid; simp; omega
  unfold Utf8.encode
  simp only [hv, if_true]
  rw [if_pos (by simp; omega)]
theorem runesBytes_ascii (zs : List Int) (hz : ∀ x ∈ zs, 0 ≤ x ∧ x < 128) : runesBytes zs = strOfNums zs := by
  have key : ∀ (zs : List Int), (∀ x ∈ zs, 0 ≤ x ∧ x < 128) → ∀ s : ByteArray, (zs.foldl (fun r n => r ++ Utf8.encode n) s).data.toList = s.data.toList ++ zs.map (fun n => UInt8.ofNat n.toNat) := by
    intro zs
    induction zs with
    | nil => intro _ s; simp
    | cons x zs ih =>
      intro h s
      rw [List.foldl_cons, ih (fun y hy => h y (by simp [hy])), encode_ascii x (h x (by simp)), ByteArray.data_append, Array.toList_append]
      simp
  apply ByteArray.ext
  apply Array.toList_inj.1
  unfold runesBytes
  rw [key zs hz, strOfNums_data]
  rfl
theorem conv_runes {w : World} {B : Nat} {ad : Addr} {zs : List Int} (h : Rd w B (some ad) (zs.map (Value.int .i32))) (hz : ∀ x ∈ zs, 0 ≤ x ∧ x < 128) (L cap : Nat) (hL : L = zs.length) :
    (convert 64 9 (.slice (some ad) L cap)).run Tryd.prog w = .ok (.string (strOfNums zs)) w := by
  subst hL
  rw [run_convert_runes w _ _ 21 ad zs.length cap zs (Nat.le_refl _) Tryd.underlying64 Tryd.underlying21 Tryd.underlying9 (fun j hj => ?_), List.take_length, runesBytes_ascii zs hz]
  obtain ⟨ad', e, _, hc⟩ := h.at_ hj
  cases e
  exact hc
/-- part of a row of runes that is read -/
theorem Rd.part {w : World} {B : Nat} {ad : Addr} {r u q : List Int} (h : Rd w B (some ad) (r.map (Value.int .i32))) (i : Nat) (hq : r.drop i = u ++ q) : Rd w B (some (ad.add i)) (u.map (Value.int .i32)) := by
  intro hl
  rw [List.length_map] at hl
  have hlen := congrArg List.length hq
  rw [List.length_drop, List.length_append] at hlen
  obtain ⟨ad', e, hb, hc⟩ := h (by simp; omega)
  cases e
  refine ⟨_, rfl, by rw [adr_block]; exact hb, fun j v hv => ?_⟩
  rw [adr_add]
  apply hc
  have hj : j < u.length := by have := (List.getElem?_eq_some_iff.1 hv).1; simpa using this
  have h1 : r[i + j]? = u[j]? := by rw [← List.getElem?_drop, hq, List.getElem?_append_left hj]
  rw [List.getElem?_map, h1, ← List.getElem?_map]
  exact hv
theorem tw_in {p : Int → Bool} {l : List Int} {j : Nat} (hj : j < (l.takeWhile p).length) : j < l.length ∧ p (l.getD j 0) = true := by
  obtain ⟨z, hz⟩ := List.takeWhile_prefix p (l := l)
  have hjl : j < l.length := Nat.lt_of_lt_of_le hj (List.takeWhile_prefix p).length_le
  refine ⟨hjl, ?_⟩
  have e : l[j]? = (l.takeWhile p)[j]? := by
    conv => lhs; rw [← hz]
    rw [List.getElem?_append_left hj]
  have e2 : l.getD j 0 = (l.takeWhile p).getD j 0 := by simp only [List.getD, e]
  rw [e2]
  exact Lx.takeWhile_all _ (Lx.getD_mem hj)
theorem tw_out {p : Int → Bool} : ∀ {l : List Int} {j : Nat}, (l.takeWhile p).length = j → l.length ≤ j ∨ (j < l.length ∧ p (l.getD j 0) = false)
  | [], j, _ => .inl (by simp)
  | x :: l, j, h => by
    cases hx : p x
    · rw [List.takeWhile_cons, hx] at h
      simp only [Bool.false_eq_true, if_false, List.length_nil] at h
      subst h
      exact .inr ⟨by simp, by simpa using hx⟩
    · rw [List.takeWhile_cons, hx] at h
      simp only [if_true, List.length_cons] at h
      subst h
      rcases tw_out (p := p) (l := l) rfl with h1 | ⟨h1, h2⟩
      · left; simp only [List.length_cons]; omega
      · right
        exact ⟨by simp only [List.length_cons]; omega, by simpa [List.getD] using h2⟩
set_option maxRecDepth 100000 in
set_option maxHeartbeats 16000000 in
theorem rline_any (s : ByteArray) (w : World) (hs : s.size ≤ 1000000) :
    Calls Tryd.prog 23 #[.string s] w (LineR (Lx.lxA 0 (Lx.runes s)) w) := by
  obtain ⟨i0, hi0, hz0, hs0, hb0⟩ := info_parts infoTk
  have hrl := Lx.runes_len s
  have hstart : Lx.glue [] (Lx.lxA 0 ((Lx.runes s).drop 0)) = Lx.lxA 0 (Lx.runes s) := by rw [Lx.glue_nil, List.drop_zero]
  generalize hR : Lx.lxA 0 (Lx.runes s) = R at *
  clear hR
  have HSTART := Lib.hid hstart
  clear hstart
  have hsg := fun W => rsigns_any s W hs
  generalize Lx.runes s = r at *
  go_enter Tryd.func23, Tryd.ntmps23
  go_wp2_with fail
  refine (hsg _).mono ?_
  intro e1 w1 h1
  obtain ⟨vr, rfl, hownr, hb1⟩ := h1
  obtain ⟨A, cr, rfl, hncr, hcm, hnr, hrd⟩ := own_slice hownr
  simp only [List.length_map] at hnr hncr
  simp only [List.length_map]
  have hr6 : r.length ≤ 1000000 := by omega
  clear hownr hnr hsg
  have HRD := Lib.hid hrd; have HB1 := Lib.hid hb1
  have hw1 : w.heap.size ≤ w1.heap.size := hb1.size
  clear hrd hb1 hrl
  go_wp2_with fail
  go_loopw [6, 7] (fun v6 v7 wr => ∃ (i : Nat) (ts : List Lx.Tk), v7 = .int .i64 (i : Int) ∧ i ≤ r.length ∧ ts.length ≤ i ∧ Lx.glue ts (Lx.lxA i (r.drop i)) = R ∧ wr.ownsRow w1.heap.size 58 4 v6 ts.length (flat ts) ∧ Below w1.heap.size w1 wr) (fun _ v7 _ => r.length - (intOf v7).toNat)
  case atStart => exact ⟨0, [], rfl, by omega, by simp, HSTART.out, World.ownsRow_nil _ _ _ _, up0 _⟩
  case round =>
    obtain ⟨i, ts, rfl, hin, hti, hg, hown, hbw⟩ := hrel
    have hbwr : Below w.heap.size w wr := upT HB1.out hbw
    have hszr : w1.heap.size ≤ wr.heap.size := hbw.size
    by_cases hi : i < r.length
    · obtain ⟨aA, rfl, hbA, hcA⟩ := HRD.out.i32_at hi
      have hcA' : wr.cell? (aA.add i) = some (.int .i32 (r.getD i 0)) := (hbw.cell (by rw [adr_block]; exact hbA)).trans hcA
      have hrc := List.drop_eq_getElem_cons hi
      have hgd : r.getD i 0 = r[i] := by simp [List.getD, hi]
      rw [← hgd] at hrc
      have hrdw : Rd wr w1.heap.size (some aA) (r.map (Value.int .i32)) := HRD.out.below hbw (Nat.le_refl _)
      have HRW := Lib.hid hrdw
      clear hrdw hgd hcA
      obtain ⟨c, hc⟩ : ∃ c, r.getD i 0 = c := ⟨_, rfl⟩
      rw [hc] at hcA' hrc
      have HC := Lib.hid hc; have HRC := Lib.hid hrc
      rw [hrc] at hg
      clear hc hrc
      have i1 : (i : Int) < (r.length : Int) := by omega
      have i0' : (0 : Int) ≤ (i : Int) := by omega
      by_cases h59 : c = 59
      · subst h59
        have hres : R = .ok ts := by rw [Lx.lxA_semi] at hg; rw [← hg]; simp [Lx.glue]
        have HRES := Lib.hid hres
        have HO := Lib.hid hown
        clear hres hg hown
        go_wp2_with fail
        go_ret3
        rw [HRES.out]
        exact ⟨_, rfl, own_lower HO.out hw1, hbwr⟩
      · have k59 : (c == 59) = false := by simpa using h59
        cases hbl : Lx.blank c
        case true =>
          have hg2 := hg
          rw [Lx.lxA_blank hbl] at hg2
          have HG := Lib.hid hg2; have HO := Lib.hid hown
          clear hg hg2 hown
          have hbb : c = 32 ∨ c = 9 := by simpa [Lx.blank] using hbl
          rcases hbb with rfl | rfl
          all_goals
            go_wp2_with fail
            go_round
            case measure => simp [intOf]; omega
            case rel => exact ⟨i + 1, ts, by go_num, by omega, by omega, HG.out, HO.out, hbw⟩
        case false =>
          have hb32 : ¬ c = 32 := fun e => by rw [e] at hbl; cases hbl
          have hb9 : ¬ c = 9 := fun e => by rw [e] at hbl; cases hbl
          have k32 : (c == 32) = false := by simpa using hb32
          have k9 : (c == 9) = false := by simpa using hb9
          have HG := Lib.hid hg; have HO := Lib.hid hown
          clear hg hown
          cases hlo : Lx.lower c
          case true =>
            have hg2 := HG.out
            rw [Lx.lxA_name hlo, Lx.glue_cons] at hg2
            obtain ⟨q, hq⟩ := List.takeWhile_prefix Lx.word (l := c :: r.drop (i + 1))
            have hdr : (c :: r.drop (i + 1)).drop ((c :: r.drop (i + 1)).takeWhile Lx.word).length = q := by
              have := List.drop_left (l₁ := (c :: r.drop (i + 1)).takeWhile Lx.word) (l₂ := q)
              rwa [hq] at this
            have hrest : r.drop (i + ((c :: r.drop (i + 1)).takeWhile Lx.word).length) = q := by
              rw [← List.drop_drop, HRC.out, hdr]
            rw [hdr, ← hrest] at hg2
            have hk : i + ((c :: r.drop (i + 1)).takeWhile Lx.word).length ≤ r.length := by
              have h1 := congrArg List.length hq
              rw [List.length_append] at h1
              have h2 : (c :: r.drop (i + 1)).length = r.length - i := by rw [← HRC.out, List.length_drop]
              omega
            have hpos := Lx.name_pos (r := r.drop (i + 1)) hlo
            have hcv : (convert 64 9 (.slice (some (aA.add i)) (i + ((c :: r.drop (i + 1)).takeWhile Lx.word).length - i) (cr - i))).run Tryd.prog wr = .ok (.string (strOfNums ((c :: r.drop (i + 1)).takeWhile Lx.word))) wr :=
              conv_runes (HRW.out.part i (u := (c :: r.drop (i + 1)).takeWhile Lx.word) (q := q) (by rw [HRC.out, hq])) (fun x hx => Lx.word_lt (Lx.takeWhile_all x hx)) _ _ (by omega)
            have hgd : ∀ j, (c :: r.drop (i + 1)).getD j 0 = r.getD (i + j) 0 := fun j => by rw [← HRC.out]; simp [List.getD, List.getElem?_drop]
            have hqlen : (c :: r.drop (i + 1)).length = r.length - i := by rw [← HRC.out, List.length_drop]
            have htin : ∀ j, j < ((c :: r.drop (i + 1)).takeWhile Lx.word).length → i + j < r.length ∧ Lx.word (r.getD (i + j) 0) = true := fun j hj => by
              obtain ⟨h1, h2⟩ := tw_in hj
              rw [hgd] at h2
              exact ⟨by omega, h2⟩
            have htout : r.length ≤ i + ((c :: r.drop (i + 1)).takeWhile Lx.word).length ∨ (i + ((c :: r.drop (i + 1)).takeWhile Lx.word).length < r.length ∧ Lx.word (r.getD (i + ((c :: r.drop (i + 1)).takeWhile Lx.word).length) 0) = false) := by
              rcases tw_out (p := Lx.word) (l := c :: r.drop (i + 1)) rfl with h1 | ⟨h1, h2⟩
              · left; omega
              · right; rw [hgd] at h2; exact ⟨by omega, h2⟩
            generalize (c :: r.drop (i + 1)).takeWhile Lx.word = tx at *
            have HG2 := Lib.hid hg2; have HTI := Lib.hid htin; have HTO := Lib.hid htout
            clear hg2 htin htout hgd hqlen hrest hdr hq
            go_wp2_with (go_at_call 33; refine (rletter_any _ _).mono ?_; rintro e w' ⟨rfl, rfl⟩; rw [hlo])
            go_loop [9] (fun v9 => ∃ j : Nat, j ≤ tx.length ∧ v9 = .int .i64 ((i + j : Nat) : Int)) (fun v9 => r.length - (intOf v9).toNat)
            case atStart => exact ⟨0, by omega, rfl⟩
            case round =>
              obtain ⟨j, hj, rfl⟩ := hrel
              by_cases hjl : j < tx.length
              · obtain ⟨hkr, hwx⟩ := HTI.out j hjl
                obtain ⟨ad', e', _, hcj⟩ := HRW.out.i32_at hkr
                cases e'
                generalize r.getD (i + j) 0 = x at *
                generalize hkj : i + j = k at *
                have HKJ := Lib.hid hkj
                have kr : (k : Int) < (r.length : Int) := by omega
                have k0 : (0 : Int) ≤ (k : Int) := by omega
                have k6 : k ≤ 1000000 := by omega
                clear hkj
                cases hlx : Lx.lower x
                · have hdx : Lx.dig x = true := by unfold Lx.word at hwx; rw [hlx] at hwx; simpa using hwx
                  go_wp2_with (first
                    | (go_at_call 33; refine (rletter_any _ _).mono ?_; rintro e w' ⟨rfl, rfl⟩; rw [hlx])
                    | (go_at_call 34; refine (rdigit_any _ _).mono ?_; rintro e w' ⟨rfl, rfl⟩; rw [hdx]))
                  go_round
                  case measure => simp [intOf]; omega
                  case rel => exact ⟨j + 1, by omega, by have := HKJ.out; go_num⟩
                · go_wp2_with (go_at_call 33; refine (rletter_any _ _).mono ?_; rintro e w' ⟨rfl, rfl⟩; rw [hlx])
                  go_round
                  case measure => simp [intOf]; omega
                  case rel => exact ⟨j + 1, by omega, by have := HKJ.out; go_num⟩
              · have hje : j = tx.length := by omega
                subst hje
                have htout := HTO.out
                have hki : i < i + tx.length := by omega
                rcases htout with h1 | ⟨h1, h2⟩
                · generalize i + tx.length = k at *
                  have ik : (i : Int) ≤ (k : Int) := by omega
                  have kr : (k : Int) ≤ (r.length : Int) := by omega
                  have kc : (k : Int) ≤ (cr : Int) := by omega
                  have kn : ¬ (k : Int) < (r.length : Int) := by omega
                  go_wp2_with (at_builtin; refine wp_appT _ rfl (.tmp 64) (.tmp 72) _ rfl w1.heap.size 58 i0 _ 40 Tryd.underlying49 hi0 hz0 hs0 hb0 rfl _ _ _ rfl HO.out _ ⟨1, tx, 0, i⟩ rfl _ (by simp) rfl (by omega) (by omega) (by omega) ?_; intro v4 w4 hown4 hb4 hsz4 hk4)
                  go_round
                  case measure => simp [intOf]; omega
                  case rel =>
                    refine ⟨k, _, rfl, by omega, ?_, HG2.out, ?_, hbw.trans hb4⟩
                    · rw [List.length_append, List.length_singleton]; omega
                    · rw [flat_app, flat_one, List.length_append]; exact hown4
                · obtain ⟨ad', e', _, hcj⟩ := HRW.out.i32_at h1
                  cases e'
                  generalize r.getD (i + tx.length) 0 = x at *
                  generalize i + tx.length = k at *
                  have ik : (i : Int) ≤ (k : Int) := by omega
                  have kr : (k : Int) < (r.length : Int) := by omega
                  have kc : (k : Int) ≤ (cr : Int) := by omega
                  have k0 : (0 : Int) ≤ (k : Int) := by omega
                  have hlx : Lx.lower x = false := by unfold Lx.word at h2; rw [Bool.or_eq_false_iff] at h2; exact h2.1
                  have hdx : Lx.dig x = false := by unfold Lx.word at h2; rw [Bool.or_eq_false_iff] at h2; exact h2.2
                  go_wp2_with (first
                    | (go_at_call 33; refine (rletter_any _ _).mono ?_; rintro e w' ⟨rfl, rfl⟩; rw [hlx])
                    | (go_at_call 34; refine (rdigit_any _ _).mono ?_; rintro e w' ⟨rfl, rfl⟩; rw [hdx])
                    | (at_builtin; refine wp_appT _ rfl (.tmp 64) (.tmp 72) _ rfl w1.heap.size 58 i0 _ 40 Tryd.underlying49 hi0 hz0 hs0 hb0 rfl _ _ _ rfl HO.out _ ⟨1, tx, 0, i⟩ rfl _ (by simp) rfl (by omega) (by omega) (by omega) ?_; intro v4 w4 hown4 hb4 hsz4 hk4))
                  go_round
                  case measure => simp [intOf]; omega
                  case rel =>
                    refine ⟨k, _, rfl, by omega, ?_, HG2.out, ?_, hbw.trans hb4⟩
                    · rw [List.length_append, List.length_singleton]; omega
                    · rw [flat_app, flat_one, List.length_append]; exact hown4
          case false =>
            cases hdi : Lx.dig c
            case true =>
              have hnum := fun W (hW : Rd W W.heap.size (some aA) (r.map (Value.int .i32))) => rnum_any (some aA) r.length cr i r W rfl hW hr6 hi (by rw [HC.out]; exact hdi)
              unfold numV at hnum
              have hg2 := HG.out
              have hpre : Lx.digs (c :: r.drop (i + 1)) <+: c :: r.drop (i + 1) := by
                rw [Lx.digs_cons]
                split
                · exact ⟨_, rfl⟩
                · exact (List.takeWhile_prefix _).trans (List.take_prefix _ _)
              obtain ⟨q, hq⟩ := hpre
              have hdr : (c :: r.drop (i + 1)).drop (Lx.digs (c :: r.drop (i + 1))).length = q := by
                have := List.drop_left (l₁ := Lx.digs (c :: r.drop (i + 1))) (l₂ := q)
                rwa [hq] at this
              have hrest : r.drop (i + (Lx.digs (c :: r.drop (i + 1))).length) = q := by
                rw [← List.drop_drop, HRC.out, hdr]
              have hk : i + (Lx.digs (c :: r.drop (i + 1))).length ≤ r.length := by
                have h1 := congrArg List.length hq
                rw [List.length_append] at h1
                have h2 : (c :: r.drop (i + 1)).length = r.length - i := by rw [← HRC.out, List.length_drop]
                omega
              have hpos := Lx.digs_pos (r := r.drop (i + 1)) hdi
              have hall : ∀ x ∈ Lx.digs (c :: r.drop (i + 1)), 0 ≤ x ∧ x < 128 := fun x hx => Lx.dig_lt (digs_dig hdi x hx)
              rw [HRC.out, hdr] at hnum
              cases hst : Lx.stops q
              case false =>
                rw [Lx.lxA_nums hdi (by rw [hdr]; exact hst)] at hg2
                have hres : R = .error (i + (Lx.digs (c :: r.drop (i + 1))).length) := by rw [← hg2]; rfl
                rw [hst] at hnum
                simp only [Bool.false_eq_true, if_false] at hnum
                generalize i + (Lx.digs (c :: r.drop (i + 1))).length = k at *
                have HRES := Lib.hid hres; have HN := Lib.hid hnum
                clear hres hg2 hnum hq hdr hrest hpos hall
                go_wp2_with (first
                  | (go_at_call 33; refine (rletter_any _ _).mono ?_; rintro e w' ⟨rfl, rfl⟩; rw [hlo])
                  | (go_at_call 34; refine (rdigit_any _ _).mono ?_; rintro e w' ⟨rfl, rfl⟩; rw [hdi])
                  | (go_at_call 35; refine (HN.out _ (HRW.out.more hbw.size)).mono ?_; rintro e w' ⟨rfl, rfl⟩))
                go_ret3
                rw [HRES.out]
                exact ⟨rfl, hbwr⟩
              case true =>
                rw [Lx.lxA_num hdi (by rw [hdr]; exact hst), Lx.glue_cons, hdr, ← hrest] at hg2
                rw [hst] at hnum
                simp only [if_true] at hnum
                have hcv : (convert 64 9 (.slice (some (aA.add i)) (i + (Lx.digs (c :: r.drop (i + 1))).length - i) (cr - i))).run Tryd.prog wr = .ok (.string (strOfNums (Lx.digs (c :: r.drop (i + 1))))) wr :=
                  conv_runes (HRW.out.part i (u := Lx.digs (c :: r.drop (i + 1))) (q := q) (by rw [HRC.out, hq])) hall _ _ (by omega)
                generalize Lx.digs (c :: r.drop (i + 1)) = tx at *
                generalize hN : Lx.val tx = N at *
                have hki : i < i + tx.length := by omega
                generalize i + tx.length = k at *
                have HG2 := Lib.hid hg2; have HN := Lib.hid hnum
                have ik : (i : Int) ≤ (k : Int) := by omega
                have kr : (k : Int) ≤ (r.length : Int) := by omega
                have kc : (k : Int) ≤ (cr : Int) := by omega
                clear hg2 hnum hq hdr hrest hpos hall
                go_wp2_with (first
                  | (go_at_call 33; refine (rletter_any _ _).mono ?_; rintro e w' ⟨rfl, rfl⟩; rw [hlo])
                  | (go_at_call 34; refine (rdigit_any _ _).mono ?_; rintro e w' ⟨rfl, rfl⟩; rw [hdi])
                  | (go_at_call 35; refine (HN.out _ (HRW.out.more hbw.size)).mono ?_; rintro e w' ⟨rfl, rfl⟩)
                  | (at_builtin; refine wp_appT _ rfl (.tmp 88) (.tmp 97) _ rfl w1.heap.size 58 i0 _ 40 Tryd.underlying49 hi0 hz0 hs0 hb0 rfl _ _ _ rfl HO.out _ ⟨2, tx, N, i⟩ rfl _ (by simp) rfl (by omega) (by omega) (by omega) ?_; intro v4 w4 hown4 hb4 hsz4 hk4))
                go_round
                case measure => simp [intOf]; omega
                case rel =>
                  refine ⟨k, _, rfl, by omega, ?_, HG2.out, ?_, hbw.trans hb4⟩
                  · rw [List.length_append, List.length_singleton]; omega
                  · rw [flat_app, flat_one, List.length_append]; exact hown4
            case false =>
              cases hsg : Lx.sgn c
              case true =>
                have hg2 := HG.out
                rw [Lx.lxA_sign hsg, Lx.glue_cons] at hg2
                have HG2 := Lib.hid hg2
                have hc128 := Lx.sgn_lt hsg
                have hcv : (convert 64 9 (.slice (some (aA.add i)) 1 (cr - i))).run Tryd.prog wr = .ok (.string (strOfNums [c])) wr :=
                  conv_runes (HRW.out.part i (u := [c]) (q := r.drop (i + 1)) HRC.out) (fun x hx => by simp at hx; subst hx; exact hc128) 1 _ rfl
                have hs5 : c = 44 ∨ c = 58 ∨ c = 91 ∨ c = 93 ∨ c = 43 := by simpa [Lx.sgn] using hsg
                clear hg2
                rcases hs5 with rfl | rfl | rfl | rfl | rfl
                all_goals
                  go_wp2_with (first
                    | (go_at_call 33; refine (rletter_any _ _).mono ?_; rintro e w' ⟨rfl, rfl⟩; rw [hlo])
                    | (go_at_call 34; refine (rdigit_any _ _).mono ?_; rintro e w' ⟨rfl, rfl⟩; rw [hdi])
                    | (at_builtin; refine wp_appT _ rfl (.tmp 119) (.tmp 128) _ rfl w1.heap.size 58 i0 _ 40 Tryd.underlying49 hi0 hz0 hs0 hb0 rfl _ _ _ rfl HO.out _ ⟨3, [_], 0, i⟩ rfl _ (by simp) rfl (by omega) (by omega) (by omega) ?_; intro v4 w4 hown4 hb4 hsz4 hk4))
                  go_round
                  case measure => simp [intOf]; omega
                  case rel =>
                    refine ⟨i + 1, _, by go_num, by omega, ?_, HG2.out, ?_, hbw.trans hb4⟩
                    · rw [List.length_append, List.length_singleton]; omega
                    · rw [flat_app, flat_one, List.length_append]; exact hown4
              case false =>
                have hres : R = .error i := by rw [← HG.out, Lx.lxA_bad h59 hbl hlo hdi hsg]; rfl
                have HRES := Lib.hid hres
                have hs5 : ¬ c = 44 ∧ ¬ c = 58 ∧ ¬ c = 91 ∧ ¬ c = 93 ∧ ¬ c = 43 := by simpa [Lx.sgn, not_or] using hsg
                obtain ⟨q1, q2, q3, q4, q5⟩ := hs5
                have k1 : (c == 44) = false := by simpa using q1
                have k2 : (c == 58) = false := by simpa using q2
                have k3 : (c == 91) = false := by simpa using q3
                have k4 : (c == 93) = false := by simpa using q4
                have k5 : (c == 43) = false := by simpa using q5
                clear hres
                go_wp2_with (first
                  | (go_at_call 33; refine (rletter_any _ _).mono ?_; rintro e w' ⟨rfl, rfl⟩; rw [hlo])
                  | (go_at_call 34; refine (rdigit_any _ _).mono ?_; rintro e w' ⟨rfl, rfl⟩; rw [hdi]))
                go_ret3
                rw [HRES.out]
                exact ⟨rfl, hbwr⟩
    · have hdr : r.drop i = [] := List.drop_of_length_le (by omega)
      rw [hdr, Lx.lxA_nil] at hg
      have hres : R = .ok ts := by rw [← hg]; simp [Lx.glue]
      have HRES := Lib.hid hres; have HO := Lib.hid hown
      have i1 : ¬ (i : Int) < (r.length : Int) := by omega
      clear hres hg hown hdr
      go_wp2_with fail
      go_ret3
      rw [HRES.out]
      exact ⟨_, rfl, own_lower HO.out hw1, hbwr⟩
end Go.Proofs.YtcpbbkpfickfiaaDoor
