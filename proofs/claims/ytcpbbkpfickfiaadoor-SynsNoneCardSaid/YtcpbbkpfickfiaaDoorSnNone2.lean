/- The walk of SynsNone: it answers true, whatever it is given. -/
import Derived.Test.YtcpbbkpfickfiaaDoorSnNone
import Derived.Great.BuildSlice
set_option linter.unusedVariables false
set_option linter.unusedSimpArgs false
namespace Go.Proofs.YtcpbbkpfickfiaaDoor
open Go.RowKit
theorem empty_parse : Sy.parse (Lx.runes ⟨#[]⟩) = .ok Sy.t0 := by kernel_rfl
theorem some_ok {i : Sy.It} (h : (Sy.print i).isSome = true) : Sy.Ok i ∧ Sy.print i = some (Sy.text i) := by
  by_cases ho : Sy.Ok i
  · exact ⟨ho, Sy.print_ok ho⟩
  · rw [Sy.print_none ho] at h; cases h
theorem none_no {i : Sy.It} (h : (Sy.print i).isSome = false) : Sy.print i = none := by
  cases hp : Sy.print i with
  | none => rfl
  | some t => rw [hp] at h; cases h
theorem text_parse {i : Sy.It} (h : Sy.Ok i) : Sy.parse (Lx.runes (strOfNums (Sy.text i))) = .ok i := by
  have ha := ok_asc h
  rw [runes_str _ (text_lt i ha.1 ha.2)]
  exact Sy.say h
theorem text_len {i : Sy.It} (h : Sy.Ok i) (h64 : It64 i) (hs : Short i) : (strOfNums (Sy.text i)).size ≤ 1000000 := by
  rw [strOfNums_size, ← Sn.line_ok h]
  exact lineL_len i h64 hs
set_option maxRecDepth 100000 in
set_option maxHeartbeats 20000000 in
theorem walk_SynsNone (c0 : Int) (w : World) (T : Sn.Tab w) : Calls Tryd.prog 5 #[.int .i64 c0] w (RetB (.bool true) w) := by
  obtain ⟨q, hq, m255⟩ : ∃ q : Nat, q < 30 ∧ (bits .and .i64 c0 255) % 30 = q := ⟨(c0 % 256 % 30).toNat, by omega, by have := Wd.bits_mask c0 8 (by omega); rw [show (255 : Int) = 2 ^ 8 - 1 from rfl, this]; omega⟩
  have b0 : 0 ≤ bits .and .i64 c0 255 := by have := Wd.bits_mask c0 8 (by omega); rw [show (255 : Int) = 2 ^ 8 - 1 from rfl, this]; omega
  obtain ⟨i, ok, h0, h1, h2, h3, h4, h5, h6, h7, h8, h9, h10, h11, h12, h13, h64, hs, ha, hR⟩ := sn_get q hq
  have d0 : ∀ W : World, (W.alloc (.cells snRow 42)).cell? ⟨W.heap.size, q * 14, none⟩ = some (.int .i64 i.kind) := fun W => sn_cell q 0 _ h0 W
  have d1 := sn_cell q 1 _ h1
  have d2 := sn_cell q 2 _ h2
  have d3 := sn_cell q 3 _ h3
  have d4 := sn_cell q 4 _ h4
  have d5 := sn_cell q 5 _ h5
  have d6 := sn_cell q 6 _ h6
  have d7 := sn_cell q 7 _ h7
  have d8 := sn_cell q 8 _ h8
  have d9 := sn_cell q 9 _ h9
  have d10 := sn_cell q 10 _ h10
  have d11 := sn_cell q 11 _ h11
  have d12 := sn_cell q 12 _ h12
  have d13 := sn_cell q 13 _ h13
  clear h0 h1 h2 h3 h4 h5 h6 h7 h8 h9 h10 h11 h12 h13
  have HR := Lib.hid hR; have HT := Lib.hid T; have H64 := Lib.hid h64; have HS := Lib.hid hs; have HA := Lib.hid ha
  clear hR T h64 hs ha
  have hal := fun W TT => awake5 W TT
  have HB := up0 w
  obtain ⟨ie, zz, hie, hz, hsz⟩ : ∃ ie zz, Tryd.prog.info? 42 = some ie ∧ ie.zero = some zz ∧ ie.size = 14 := by
    have h1 : (Tryd.prog.info? 42).map (fun x => (x.zero, x.size)) = some (some (.agg #[.int .i64 0, .int .i64 0, .bool false, .string ⟨#[]⟩, .int .i64 0, .int .i64 0, .int .i64 0, .bool false, .int .i64 0, .bool false, .int .i64 0, .string ⟨#[]⟩, .int .i64 0, .bool false]), 14) := by kernel_rfl
    cases hq2 : Tryd.prog.info? 42 with
    | none => rw [hq2] at h1; cases h1
    | some ie =>
      rw [hq2] at h1
      simp only [Option.map_some, Option.some.injEq, Prod.mk.injEq] at h1
      exact ⟨ie, _, rfl, h1.1, h1.2⟩
  have HIE := Lib.hid hie; have HZ := Lib.hid hz; have HSZ := Lib.hid hsz
  clear hie hz hsz
  go_enter Tryd.func5, Tryd.ntmps5
  go_wp2_with (first
    | (go_at_call 12; refine (clo_any _ _ _ _ _ _ _ _ _ _).mono ?_; rintro e wc ⟨rfl, hbc⟩; replace HB := upT HB hbc; clear hbc)
    | (show wpList _ _ _ (⟨_, .buildSlice _ _ _, _, _, _, _⟩ :: _) _ _; refine wpList_buildSlice rfl 43 42 30 _ rfl snRow ie zz Tryd.underlying43 HIE.out HZ.out (by rw [HSZ.out]; decide) (by rw [HSZ.out]; decide) (by rw [HSZ.out]; kernel_rfl) ?_; have k0 := d0 wc; have k1 := d1 wc; have k2 := d2 wc; have k3 := d3 wc; have k4 := d4 wc; have k5 := d5 wc; have k6 := d6 wc; have k7 := d7 wc; have k8 := d8 wc; have k9 := d9 wc; have k10 := d10 wc; have k11 := d11 wc; have k12 := d12 wc; have k13 := d13 wc; have hbb := upA HB (.cells snRow 42); clear d0 d1 d2 d3 d4 d5 d6 d7 d8 d9 d10 d11 d12 d13; generalize wc.alloc (.cells snRow 42) = WB at *)
    | (go_at_call 11; fail))
  clear k0 k1 k2 k3 k4 k5 k6 k7 k8 k9 k10 k11 k12 k13
  have s0 : (strOfNums ([] : List Int)).toList = [] := by rw [Lib.strOfNums_toList]; rfl
  have s1 : (⟨#[]⟩ : ByteArray).toList = [] := s0
  have hE := fun W => eql_it i i W HA.out.a HA.out.a HA.out.b HA.out.b
  simp only [decide_true] at hE
  cases ok with
  | true =>
    obtain ⟨hO, hp⟩ := some_ok HR.out
    have HO := Lib.hid hO
    refine (print_ok_ i _ hp H64.out HS.out HA.out _ (HT.out.below (upA hbb _))).mono ?_
    clear hp hO HR
    rintro e w2 ⟨rfl, hb2⟩
    have row2 := (hb2.block WB.heap.size (by simp)).trans (heap_alloc_new WB _)
    have hd2 := upT (upA hbb _) hb2
    have ht := text_parse HO.out
    have hl := text_len HO.out H64.out HS.out
    have HP := Lib.hid (fun W TT => parse_ok_ _ i ht hl W TT)
    clear ht hl hbb
    generalize Sy.text i = tx at *
    go_wp2_with (first
      | (go_at_call 8; refine (HP.out _ (HT.out.below hd2)).mono ?_; rintro e w3 ⟨rfl, hb3⟩; have row3 := (hb3.block WB.heap.size (Array.getElem?_eq_some_iff.1 row2).1).trans row2; have hd3 := upT hd2 hb3)
      | (refine wp_storeNew rfl _ _ rfl i rfl rfl ?_; intro W3 hI3 hc3 hz3; have rowx := (hc3.block WB.heap.size (Array.getElem?_eq_some_iff.1 row3).1).trans row3; have hd4 := upT hd3 hc3; have cj := fun k => cell_of_row _ _ k _ _ _ hI3; have cx := fun k => cell_of_row _ _ k _ _ _ rowx)
      | (go_at_call 9; refine (hal _ (HT.out.below hd4)).mono ?_; rintro e w5 ⟨rfl, hb5⟩))
    go_ret
    exact ⟨rfl, upT hd4 hb5⟩
  | false =>
    have hp := none_no HR.out
    refine (print_no_ i hp H64.out HS.out HA.out _ (HT.out.below (upA hbb _))).mono ?_
    clear hp HR
    rintro e w2 ⟨rfl, hb2⟩
    have row2 := (hb2.block WB.heap.size (by simp)).trans (heap_alloc_new WB _)
    have hd2 := upT (upA hbb _) hb2
    clear hbb
    go_wp2_with (first
      | (go_at_call 8; refine (parse_ok_ ⟨#[]⟩ Sy.t0 empty_parse (by decide) _ (HT.out.below hd2)).mono ?_; rintro e w3 ⟨rfl, hb3⟩; have row3 := (hb3.block WB.heap.size (Array.getElem?_eq_some_iff.1 row2).1).trans row2; have hd3 := upT hd2 hb3)
      | (refine wp_storeNew rfl _ _ rfl Sy.t0 rfl rfl ?_; intro W3 hI3 hc3 hz3; have rowx := (hc3.block WB.heap.size (Array.getElem?_eq_some_iff.1 row3).1).trans row3; have hd4 := upT hd3 hc3; have cj := fun k => cell_of_row _ _ k _ _ _ hI3; have cx := fun k => cell_of_row _ _ k _ _ _ rowx)
      | (go_at_call 9; refine (hal _ (HT.out.below hd4)).mono ?_; rintro e w5 ⟨rfl, hb5⟩))
    go_ret
    exact ⟨rfl, upT hd4 hb5⟩
end Go.Proofs.YtcpbbkpfickfiaaDoor
