/- The walk of LexrBlanks: it answers true, whatever it is given. -/
import Derived.Test.YtfjeehhglacppaaDoorLxLaw
import Derived.Test.YtfjeehhglacppaaDoorLxText
import Derived.Test.YtfjeehhglacppaaDoorLxLaid
import Derived.Test.YtfjeehhglacppaaDoorWdMath
import Derived.Deep.QuietTactic
import Derived.BigQuiet
import Derived.StillTailTactics
set_option linter.unusedVariables false
set_option linter.unusedSimpArgs false
namespace Go.Proofs.YtfjeehhglacppaaDoor
open Go.RowKit
theorem strOf_app (a b : List Int) : strOfNums a ++ strOfNums b = strOfNums (a ++ b) := by
  apply ByteArray.ext
  apply Array.toList_inj.1
  rw [ByteArray.data_append, Array.toList_append, strOfNums_data, strOfNums_data, strOfNums_data, List.map_append]
/-- how many blanks more the i-th sign has ahead -/
def blF (m : Int) (i : Nat) : Nat := (bits .and .i64 (m / 2 ^ (i % 32)) 3).toNat
theorem blF_le (m : Int) (i : Nat) : blF m i ≤ 3 ∧ ((blF m i : Nat) : Int) = bits .and .i64 (m / 2 ^ (i % 32)) 3 := by
  have := Wd.bits_mask (m / 2 ^ (i % 32)) 2 (by omega)
  rw [show (2 : Int) ^ 2 - 1 = 3 from rfl] at this
  unfold blF
  rw [this]
  omega
theorem tail_runes (f : Nat → Nat) (ts : List Lx.Tk) (h : ∀ x ∈ Lx.spaced f 0 ts, 0 ≤ x ∧ x < 128) : ∃ z, Lx.runes (strOfNums (Lx.spaced f 0 ts) ++ ⟨#[9, 59, 32, 255, 32, 48, 49]⟩) = Lx.spaced f 0 ts ++ 9 :: 59 :: z := by
  rw [Lx.runesF_app _ _ h]
  exact ⟨[32, 65533, 32, 48, 49], by rw [show Lx.runes ⟨#[9, 59, 32, 255, 32, 48, 49]⟩ = [9, 59, 32, 65533, 32, 48, 49] by kernel_rfl]⟩
theorem wrap_w1 (a b : Nat) (h : a + b ≤ 1000000) : Value.int .i64 (IntKind.i64.wrap (IntKind.i64.wrap ((a : Int) + (b : Int)) - 1)) = .int .i64 ((a : Int) + (b : Int) - 1) := by
  have h1 : IntKind.i64.wrap ((a : Int) + (b : Int)) = (a : Int) + (b : Int) := by rw [IntKind.wrap_i64]; omega
  have h2 : IntKind.i64.wrap ((a : Int) + (b : Int) - 1) = (a : Int) + (b : Int) - 1 := by rw [IntKind.wrap_i64]; omega
  rw [h1, h2]
theorem good_ascii {t : Lx.Tk} (h : Lx.Good t) : ∀ x ∈ t.text, 0 ≤ x ∧ x < 128 := by
  rcases h with ⟨_, _, c, r, e, _, h2⟩ | ⟨_, _, c, r, e, h1, h2⟩ | ⟨_, _, c, e, h1⟩
  · exact fun x hx => Lx.word_lt (h2 x hx)
  · intro x hx
    rw [← h2, e] at hx
    exact Lx.dig_lt (digs_dig h1 x hx)
  · intro x hx
    rw [e] at hx
    simp at hx
    subst hx
    exact Lx.sgn_lt h1
theorem spaced_ascii (f : Nat → Nat) : ∀ (ts : List Lx.Tk) (i : Nat), (∀ t ∈ ts, Lx.Good t) → ∀ x ∈ Lx.spaced f i ts, 0 ≤ x ∧ x < 128
  | [], i, _, x, hx => by simp [Lx.spaced] at hx
  | t :: ts, i, h, x, hx => by
    simp only [Lx.spaced, List.mem_append] at hx
    rcases hx with hx | hx | hx
    · have := List.eq_of_mem_replicate hx; omega
    · exact good_ascii (h t (by simp)) x hx
    · exact spaced_ascii f ts (i + 1) (fun u hu => h u (by simp [hu])) x hx
set_option maxRecDepth 100000 in
set_option maxHeartbeats 16000000 in
theorem walk_LexrBlanks (A0 : Option Addr) (c0 : Nat) (z0 : List Int) (a1 : Int) (w : World) (h0 : Rd w w.heap.size A0 (z0.map (Value.int .i64))) :
    Calls Tryd.prog 7 #[.slice A0 z0.length c0, .int .i64 a1] w (RetB (.bool true) w) := by
  go_enter Tryd.func7, Tryd.ntmps7
  go_wp2_with fail
  refine (text_any A0 z0.length c0 z0 w rfl h0).mono ?_
  rintro e w1 ⟨s, rfl, hs, hb1⟩
  go_wp2_with fail
  refine (line_any s _ (by omega)).mono ?_
  intro e w2 h2
  cases hR : Lx.lxA 0 (Lx.runes s) with
  | error a =>
    rw [hR] at h2
    obtain ⟨rfl, hb2⟩ := h2.errT
    clear h2
    go_wp2_with (go_at_call 9; refine (awake4 _).mono ?_; rintro e w3 ⟨rfl, hb3⟩)
    go_ret
    exact ⟨rfl, upT (upT hb1 hb2) hb3⟩
  | ok ts =>
    have hlaid := Lx.laid_ok hR
    have htl := hlaid.len_le
    have htt := hlaid.tot_le
    have hrl := Lx.runes_len s
    rw [List.drop_zero] at htl htt
    have hgood := hlaid.good
    rw [hR] at h2
    obtain ⟨g, A, cap, rfl, hA, hcap, hT, hb2⟩ := h2.okT
    clear h2 hR
    have hb := upT hb1 hb2
    have hsp := Lx.spaced_len (blF a1) (fun i => (blF_le a1 i).1) ts 0
    have hsp2 : (Lx.spaced (blF a1) 0 ts).length ≤ 1000 := by omega
    have HLAID := Lib.hid hlaid; have HGOOD := Lib.hid hgood; have HT := Lib.hid hT
    clear hlaid hgood hT h0 hb1 hb2 hsp htt
    go_wp2_with fail
    go_loop [9, 35] (fun v9 v35 => ∃ (j : Nat) (acc : List Int), v35 = .int .i64 (j : Int) ∧ v9 = .string (strOfNums acc) ∧ j ≤ ts.length ∧ acc ++ Lx.spaced (blF a1) j (ts.drop j) = Lx.spaced (blF a1) 0 ts) (fun _ v35 => ts.length - (intOf v35).toNat)
    case atStart => exact ⟨0, [], rfl, rfl, by omega, by simp⟩
    case round =>
      obtain ⟨j, acc, rfl, rfl, hj, hacc⟩ := hrel
      by_cases hjl : j < ts.length
      · have j1 : (j : Int) < (ts.length : Int) := by omega
        have j0 : (0 : Int) ≤ (j : Int) := by omega
        have m31 : bits .and .i64 (j : Int) 31 = (j : Int) % 32 := by have := Wd.bits_mask (j : Int) 5 (by omega); rw [show (31 : Int) = 2 ^ 5 - 1 from rfl, this]; rfl
        obtain ⟨f1, f2⟩ := blF_le a1 j
        have f3 := f2.symm
        obtain rfl := hA (by omega)
        obtain ⟨t, ht⟩ : ∃ t, ts[j]? = some t := ⟨ts[j], by simp [hjl]⟩
        obtain ⟨_, _, x1, _, _⟩ := HT.out j t ht
        have hdrop : ts.drop j = t :: ts.drop (j + 1) := by
          rw [List.drop_eq_getElem_cons hjl]
          congr 1
          rw [List.getElem?_eq_getElem hjl] at ht
          injection ht
        rw [hdrop] at hacc
        have hal : acc.length + (blF a1 j + 1) + t.text.length ≤ 1000 := by
          have h1 := congrArg List.length hacc
          simp only [Lx.spaced, List.length_append, List.length_replicate] at h1
          omega
        have hsT : (strOfNums t.text).size = t.text.length := strOfNums_size _
        generalize hF : blF a1 j = F at *
        have HACC := Lib.hid hacc; have HF := Lib.hid hF
        clear hacc f2 ht hdrop hF
        generalize hTX : t.text = tx at *
        have HTX := Lib.hid hTX
        clear hTX
        go_wp2_with fail
        go_loop [9, 11] (fun v9 v11 => ∃ k : Nat, k ≤ F + 1 ∧ v11 = .int .i64 (k : Int) ∧ v9 = .string (strOfNums (acc ++ List.replicate k 32))) (fun _ v11 => F + 1 - (intOf v11).toNat)
        case atStart => exact ⟨0, by omega, rfl, by simp⟩
        case round =>
          obtain ⟨k, hk, rfl, rfl⟩ := hrel
          have hsA : (strOfNums (acc ++ List.replicate k 32)).size = acc.length + k := by rw [strOfNums_size, List.length_append, List.length_replicate]
          have hn1 : ¬ 9223372036854775807 < acc.length + k + 1 := by omega
          by_cases hkF : k ≤ F
          · have k1 : (k : Int) ≤ (F : Int) := by omega
            go_wp2_with fail
            refine ⟨⟨k + 1, by omega, by go_num, ?_⟩, by simp [intOf]; omega⟩
            · rw [show (⟨#[32]⟩ : ByteArray) = strOfNums [32] from rfl, strOf_app, List.append_assoc, ← List.replicate_succ']
          · have hkk : k = F + 1 := by omega
            subst hkk
            have k1 : ¬ ((F + 1 : Nat) : Int) ≤ (F : Int) := by omega
            have hn2 : ¬ 9223372036854775807 < (strOfNums (acc ++ List.replicate (F + 1) 32)).size + tx.length := by omega
            go_wp2_with fail
            refine ⟨⟨j + 1, acc ++ (List.replicate (F + 1) 32 ++ tx), by go_num, by rw [strOf_app, List.append_assoc], by omega, ?_⟩, by simp [intOf]; omega⟩
            rw [← HACC.out, ← HF.out, ← HTX.out]
            simp [Lx.spaced, List.append_assoc]
      · have j1 : ¬ (j : Int) < (ts.length : Int) := by omega
        have hje : j = ts.length := by omega
        rw [hje, List.drop_length] at hacc
        have hacc2 : acc = Lx.spaced (blF a1) 0 ts := by rw [← hacc]; simp [Lx.spaced]
        obtain ⟨z, hz⟩ := tail_runes (blF a1) ts (spaced_ascii _ ts 0 HGOOD.out)
        obtain ⟨us, hus, hsame⟩ := Lx.lxA_spaced (blF a1) z ts 0 0 HGOOD.out
        rw [← hz, ← hacc2] at hus
        have hsz2 : (strOfNums acc ++ ⟨#[9, 59, 32, 255, 32, 48, 49]⟩).size ≤ 1000000 := by
          have e7 : (⟨#[9, 59, 32, 255, 32, 48, 49]⟩ : ByteArray).size = 7 := rfl
          rw [ByteArray.size_append, strOfNums_size, e7, hacc2]
          omega
        have hssz : (strOfNums acc).size ≤ 1000 := by rw [strOfNums_size, hacc2]; omega
        obtain ⟨hul, hnth⟩ := hsame.nth
        have HNTH := Lib.hid hnth
        clear hacc hacc2 hz hsame hnth
        go_wp2_with fail
        refine (line_any _ _ hsz2).mono ?_
        intro e w3 h3
        rw [hus] at h3
        obtain ⟨g2, B2, cap2, rfl, hB2, hcap2, hT2, hb3⟩ := h3.okT
        have HT3 := Lib.hid (HT.out.below hb3); have HT2 := Lib.hid hT2
        clear h3 hus hT2
        rw [hul] at *
        go_wp2_with fail
        go_loopw [15, 76] (fun v15 v76 wr => ∃ j : Nat, v76 = .int .i64 (j : Int) ∧ j ≤ ts.length ∧ v15 = .int .i64 ((Lx.en 0 ts j : Int) - 1) ∧ Below w3.heap.size w3 wr) (fun _ v76 _ => ts.length - (intOf v76).toNat)
        case atStart => exact ⟨0, rfl, by omega, by cases ts <;> rfl, up0 _⟩
        case round =>
          obtain ⟨j, rfl, hj, rfl, hbr⟩ := hrel
          have hbR := upT (upT hb hb3) hbr
          by_cases hjl : j < ts.length
          · have j1 : (j : Int) < (ts.length : Int) := by omega
            have j0 : (0 : Int) ≤ (j : Int) := by omega
            obtain rfl := hA (by omega)
            obtain rfl := hB2 (by omega)
            obtain ⟨t, ht⟩ : ∃ t, ts[j]? = some t := ⟨ts[j], by simp [hjl]⟩
            obtain ⟨u, hu, hu1, hu2, hu3⟩ := HNTH.out j t ht
            obtain ⟨_, a1', a2', a3', a4'⟩ := (HT3.out.below hbr) j t ht
            obtain ⟨_, b1', b2', b3', _⟩ := (HT2.out.below hbr) j u hu
            rw [hu1] at b1'; rw [hu2] at b2'; rw [hu3] at b3'
            obtain ⟨n1, n2, n3, _, _⟩ := Lx.Laid.nth HLAID.out (Nat.zero_le _) ht
            have hgt := HGOOD.out t (List.mem_of_getElem? ht)
            have hpos := hgt.pos
            have hkind : t.kind = 2 ∨ (t.kind ≠ 2 ∧ t.n = 0) := by
              rcases hgt with ⟨h1, h2, _⟩ | ⟨h1, _⟩ | ⟨h1, h2, _⟩
              · right; exact ⟨by rw [h1]; decide, h2⟩
              · left; exact h1
              · right; exact ⟨by rw [h1]; decide, h2⟩
            have hsT : (strOfNums t.text).size = t.text.length := strOfNums_size _
            have hat6 : t.at_ + t.text.length ≤ 1000000 := by omega
            have hnx : (Lx.en 0 ts (j + 1) : Int) - 1 = (t.at_ : Int) + (t.text.length : Int) - 1 := by omega
            have HNX := Lib.hid hnx
            clear hu hu1 hu2 hu3 ht hgt hnx n3 n2 hA hB2
            generalize Lx.en 0 ts j = ej at *
            generalize strOfNums t.text = tx at *
            generalize t.text.length = tl at *
            generalize t.at_ = pl at *
            generalize t.kind = kd at *
            generalize t.n = nn at *
            have l1 : ¬ (pl : Int) ≤ (ej : Int) - 1 := by omega
            have l2 : ¬ (tl : Int) = 0 := by omega
            have l3 : ((tl : Int) == 0) = false := by simpa using l2
            have HBR := Lib.hid hbr; have HBRR := Lib.hid hbR
            have hj6 : j + 1 ≤ 1000000 := by omega
            clear hbr hbR hb hb3 htl hrl hsp2 hssz hsz2
            have c1 : wr.drew.cell? ⟨g, j * 4, none⟩ = some (.int .i64 kd) := a1'
            have c2 : wr.drew.cell? ⟨g, j * 4 + 1, none⟩ = some (.string tx) := a2'
            have c3 : wr.drew.cell? ⟨g, j * 4 + 2, none⟩ = some (.int .i64 nn) := a3'
            have c4 : wr.drew.cell? ⟨g, j * 4 + 3, none⟩ = some (.int .i64 (pl : Int)) := a4'
            have d1 : wr.drew.cell? ⟨g2, j * 4, none⟩ = some (.int .i64 kd) := b1'
            have d2 : wr.drew.cell? ⟨g2, j * 4 + 1, none⟩ = some (.string tx) := b2'
            have d3 : wr.drew.cell? ⟨g2, j * 4 + 2, none⟩ = some (.int .i64 nn) := b3'
            clear a1' a2' a3' a4' b1' b2' b3'
            rcases hkind with rfl | ⟨hk2, rfl⟩
            · skip
              go_wp2_with fail
              refine wp_region_still_tail 70 (by kernel_rfl) (by kernel_rfl) ?_
              simp only [List.take_succ_cons, List.take_zero, List.drop_succ_cons, List.drop_zero]
              change wpStill _ _ wr.drew _ _ _
              repeat ((with_reducible refine wpStill_step (fun K hK => ?_)); go_simp; (with_reducible refine hK _ ?_); clear hK K)
              refine wpStill_nil ?_
              change wpList _ _ _ _ _ wr.drew
              go_wp2_with fail
              refine wp_region_still_tail 13 (by kernel_rfl) (by kernel_rfl) ?_
              simp only [List.take_succ_cons, List.take_zero, List.drop_succ_cons, List.drop_zero]
              change wpStill _ _ wr.drew.drew _ _ _
              repeat ((with_reducible refine wpStill_step (fun K hK => ?_)); go_simp; (with_reducible refine hK _ ?_); clear hK K)
              refine wpStill_nil ?_
              change wpList _ _ _ _ _ wr.drew.drew
              go_wp2_with fail
              go_round
              case measure => simp [intOf]; omega
              case rel => exact ⟨j + 1, by go_num, by omega, by rw [HNX.out]; exact wrap_w1 pl tl hat6, HBR.out.drew.drew⟩
            · have hk2' : (kd == 2) = false := by simpa using hk2
              go_wp2_with fail
              refine wp_region_still_tail 70 (by kernel_rfl) (by kernel_rfl) ?_
              simp only [List.take_succ_cons, List.take_zero, List.drop_succ_cons, List.drop_zero]
              change wpStill _ _ wr.drew _ _ _
              repeat ((with_reducible refine wpStill_step (fun K hK => ?_)); go_simp; (with_reducible refine hK _ ?_); clear hK K)
              refine wpStill_nil ?_
              change wpList _ _ _ _ _ wr.drew
              go_wp2_with fail
              refine wp_region_still_tail 13 (by kernel_rfl) (by kernel_rfl) ?_
              simp only [List.take_succ_cons, List.take_zero, List.drop_succ_cons, List.drop_zero]
              change wpStill _ _ wr.drew.drew _ _ _
              repeat ((with_reducible refine wpStill_step (fun K hK => ?_)); go_simp; (with_reducible refine hK _ ?_); clear hK K)
              refine wpStill_nil ?_
              change wpList _ _ _ _ _ wr.drew.drew
              go_wp2_with fail
              go_round
              case measure => simp [intOf]; omega
              case rel => exact ⟨j + 1, by go_num, by omega, by rw [HNX.out]; exact wrap_w1 pl tl hat6, HBR.out.drew.drew⟩
          · have j1 : ¬ (j : Int) < (ts.length : Int) := by omega
            go_wp2_with (go_at_call 9; refine (awake4 _).mono ?_; rintro e w4 ⟨rfl, hb4⟩)
            go_ret
            exact ⟨rfl, upT hbR hb4⟩
end Go.Proofs.YtfjeehhglacppaaDoor
