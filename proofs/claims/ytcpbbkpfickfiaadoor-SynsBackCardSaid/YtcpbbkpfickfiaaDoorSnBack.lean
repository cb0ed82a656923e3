/- The walk of SynsBack: it answers true, whatever it is given. -/
import Derived.Test.YtcpbbkpfickfiaaDoorSnTop
import Derived.Test.YtcpbbkpfickfiaaDoorSnFacts
import Derived.Test.YtcpbbkpfickfiaaDoorSnLn2
import Derived.Test.YtcpbbkpfickfiaaDoorLxText
set_option linter.unusedVariables false
set_option linter.unusedSimpArgs false
namespace Go.Proofs.YtcpbbkpfickfiaaDoor
open Go.RowKit
namespace Lx
theorem cons_err {t : Tk} {x : Except Nat (List Tk)} {m : Nat} (h : cons t x = .error m) : x = .error m := by
  cases x with
  | ok l => cases h
  | error e => exact h
theorem lxF_le : ∀ (f a : Nat) (r : List Int) (m : Nat), lxF f a r = .error m → m ≤ a + r.length
  | 0, a, r, m, h => by cases h
  | f + 1, a, [], m, h => by cases h
  | f + 1, a, c :: r, m, h => by
    unfold lxF at h
    have hl := digs_le (c :: r)
    split at h
    · cases h
    split at h
    · have := lxF_le f _ _ m h; simp; omega
    split at h
    · have h1 := lxF_le f _ _ m (cons_err h)
      have h2 := (List.takeWhile_sublist word (l := c :: r)).length_le
      simp only [List.length_drop] at h1
      omega
    split at h
    · split at h
      · have h1 := lxF_le f _ _ m (cons_err h)
        simp only [List.length_drop] at h1
        omega
      · injection h with h; omega
    split at h
    · have := lxF_le f _ _ m (cons_err h); simp; omega
    · injection h with h; omega
end Lx
theorem parse_le {r : List Int} {m : Nat} (h : Sy.parse r = .error m) : m ≤ r.length := by
  have h' := h
  unfold Sy.parse at h'
  cases hl : Lx.lxA 0 r with
  | error a =>
    rw [hl] at h'
    injection h' with h'
    have := Lx.lxF_le r.length 0 r a hl
    omega
  | ok ts =>
    rw [hl] at h'
    exact Sn.parseT_le hl h'
theorem textP {i : Sy.It} (h : Sy.Ok i) : Sy.parse (Lx.runes (strOfNums (Sy.text i))) = .ok i := by
  have ha := ok_asc h
  rw [runes_str _ (text_lt i ha.1 ha.2)]
  exact Sy.say h
theorem textL {i : Sy.It} (h : Sy.Ok i) (h64 : It64 i) (hs : Short i) : (strOfNums (Sy.text i)).size ≤ 1000000 := by
  rw [strOfNums_size, ← Sn.line_ok h]
  exact lineL_len i h64 hs
theorem parse_Short {s : ByteArray} {i : Sy.It} (hs : s.size ≤ 50000) (h : Sy.parse (Lx.runes s) = .ok i) : Short i := by
  have h1 := Sn.parse_short h
  have h2 := Lx.runes_len s
  exact ⟨by omega, by omega⟩
set_option maxRecDepth 100000 in
set_option maxHeartbeats 20000000 in
theorem walk_SynsBack (A0 : Option Addr) (c0 : Nat) (z0 : List Int) (A1 : Option Addr) (c1 : Nat) (z1 : List Int) (w : World) (T : Sn.Tab w) (hr0 : Rd w w.heap.size A0 (z0.map (Value.int .i64))) (hr1 : Rd w w.heap.size A1 (z1.map (Value.int .i64))) :
    Calls Tryd.prog 7 #[.slice A0 z0.length c0, .slice A1 z1.length c1] w (RetB (.bool true) w) := by
  have HT := Lib.hid T; have H0 := Lib.hid hr0; have H1 := Lib.hid hr1
  clear T hr0 hr1
  have hal := fun W TT => awake5 W TT
  go_enter Tryd.func7, Tryd.ntmps7
  go_wp2_with (first
    | (go_at_call 14; refine (line5_any A0 _ c0 z0 w rfl H0.out).mono ?_; rintro e w1 ⟨s1, rfl, hs1, hb1⟩)
    | (go_at_call 13; refine (text_any A1 _ c1 z1 w1 rfl (H1.out.belowT hb1)).mono ?_; rintro e w2 ⟨s2, rfl, hs2, hb2⟩))
  have hRow := heap_alloc_new w2 (.cells #[.string s1, .string s2] 9)
  have hbR := upA (upT hb1 hb2) (.cells #[.string s1, .string s2] 9)
  have hlt : w2.heap.size < (w2.alloc (.cells #[.string s1, .string s2] 9)).heap.size := by simp
  have hget : ∀ k : Nat, k < 2 → ∃ s : ByteArray, (#[Value.string s1, Value.string s2] : Array Value)[k]? = some (.string s) ∧ s.size ≤ 140 := fun k hk => by
    rcases (by omega : k = 0 ∨ k = 1) with rfl | rfl
    · exact ⟨s1, rfl, by omega⟩
    · exact ⟨s2, rfl, by omega⟩
  have HGET := Lib.hid hget
  clear hb1 hb2 hget
  generalize w2.alloc (.cells #[.string s1, .string s2] 9) = WR at *
  generalize (#[Value.string s1, Value.string s2] : Array Value) = RR at *
  go_loopw [23] (fun v wx => ∃ k : Nat, v = .int .i64 (k : Int) ∧ k ≤ 2 ∧ Below w.heap.size w wx ∧ Below WR.heap.size WR wx) (fun v _ => 2 - (intOf v).toNat)
  case atStart => exact ⟨0, rfl, by omega, hbR, up0 WR⟩
  case round =>
    obtain ⟨k, rfl, hk, hbw, hbx⟩ := hrel
    by_cases hkl : k < 2
    · obtain ⟨s, hsg, hsz⟩ := HGET.out k hkl
      have i1 : (k : Int) < 2 := by omega
      have i0 : (0 : Int) ≤ (k : Int) := by omega
      have hc : wr.cell? ⟨w2.heap.size, k, none⟩ = some (.string s) := by
        rw [cell_of_row _ _ _ _ _ _ ((hbx.block w2.heap.size hlt).trans hRow)]
        exact hsg
      have HBW := Lib.hid hbw; have HBX := Lib.hid hbx
      clear hbw hbx hsg
      cases hp : Sy.parse (Lx.runes s) with
      | error m =>
        have hm := parse_le hp
        have hrl := Lx.runes_len s
        have m0 : (0 : Int) ≤ (m : Int) := by omega
        have m1 : (m : Int) ≤ (s.size : Int) := by omega
        have t0 : (strOfNums ([] : List Int)).toList = [] := by rw [Lib.strOfNums_toList]; rfl
        have t1 : (strOfNums Sy.t0.name).toList = [] := t0
        have t2 : (strOfNums Sy.t0.ins.name).toList = [] := t0
        have HPA := Lib.hid (fun W TT => parse_err_ s m hp (by omega) W TT)
        clear hp hm hrl
        go_wp2_with (first
          | (go_at_call 8; refine (HPA.out _ (HT.out.below HBW.out)).mono ?_; rintro e w3 ⟨rfl, hb3⟩; have d3 := upT HBW.out hb3; have x3 := upT HBX.out hb3)
          | (refine wp_storeNew rfl _ _ rfl Sy.t0 rfl rfl ?_; intro W3 hI3 hc3 hz3; have d4 := upT d3 hc3; have x4 := upT x3 hc3; have cj := fun k => cell_of_row _ _ k _ _ _ hI3))
        go_roundw
        case rel => exact ⟨k + 1, by go_num, by omega, d4, x4⟩
        case measure => simp [intOf]; omega
      | ok i =>
        have hO := Sy.parse_ok hp
        have h64 := ok_64 hO
        have hS := parse_Short (by omega) hp
        have hA := ok_Asc hO
        have hpr := Sy.print_ok hO
        have HPA := Lib.hid (fun W TT => parse_ok_ s i hp (by omega) W TT)
        have HPR := Lib.hid (fun W TT => print_ok_ i _ hpr h64 hS hA W TT)
        have HPB := Lib.hid (fun W TT => parse_ok_ _ i (textP hO) (textL hO h64 hS) W TT)
        have hneq := fun W => neq_it i i W hA.a hA.a hA.b hA.b
        simp only [decide_true, Bool.not_true] at hneq
        clear hp hpr hO h64 hS hA
        generalize Sy.text i = tx at *
        go_wp2_with fail
        refine (HPA.out _ (HT.out.below HBW.out)).mono ?_
        rintro e w3 ⟨rfl, hb3⟩
        have d3 := upT HBW.out hb3
        have x3 := upT HBX.out hb3
        go_wp2_with (first
          | (refine wp_storeNew rfl _ _ rfl i rfl rfl ?_; intro W3 hI3 hc3 hz3; have d4 := upT d3 hc3; have x4 := upT x3 hc3)
          | (refine wp_loadIt rfl _ rfl w3.heap.size rfl i _ _ hI3 ?_))
        refine (HPR.out _ (HT.out.below d4)).mono ?_
        rintro e w5 ⟨rfl, hb5⟩
        have d5 := upT d4 hb5
        have x5 := upT x4 hb5
        have r5 := (hb5.block w3.heap.size (Array.getElem?_eq_some_iff.1 hI3).1).trans hI3
        go_wp2_with fail
        refine (HPB.out _ (HT.out.below d5)).mono ?_
        rintro e w6 ⟨rfl, hb6⟩
        have d6 := upT d5 hb6
        have x6 := upT x5 hb6
        have r6 := (hb6.block w3.heap.size (Array.getElem?_eq_some_iff.1 r5).1).trans r5
        go_wp2_with (first
          | (refine wp_storeNew rfl _ _ rfl i rfl rfl ?_; intro W7 hI7 hc7 hz7; have d7 := upT d6 hc7; have x7 := upT x6 hc7; have r7 := (hc7.block w3.heap.size (Array.getElem?_eq_some_iff.1 r6).1).trans r6)
          | (refine wp_loadIt rfl _ rfl w6.heap.size rfl i _ _ hI7 ?_))
        refine (HPR.out _ (HT.out.below d7)).mono ?_
        rintro e w8 ⟨rfl, hb8⟩
        have d8 := upT d7 hb8
        have x8 := upT x7 hb8
        have r8 := (hb8.block w3.heap.size (Array.getElem?_eq_some_iff.1 r7).1).trans r7
        have q8 := (hb8.block w6.heap.size (Array.getElem?_eq_some_iff.1 hI7).1).trans hI7
        have cj := fun k => cell_of_row _ _ k _ _ _ r8
        have cq := fun k => cell_of_row _ _ k _ _ _ q8
        clear hb3 hI3 hc3 hz3 hb5 hb6 hI7 hc7 hz7 hb8 r5 r6 r7 r8 q8 d3 d4 d5 d6 d7 x3 x4 x5 x6 x7 HPA HPR HPB hc
        go_wp2_with fail
        go_roundw
        case rel => exact ⟨k + 1, by go_num, by omega, d8, x8⟩
        case measure => simp [intOf]; omega
    · have i1 : ¬ (k : Int) < 2 := by omega
      go_wp2_with (go_at_call 9; refine (hal _ (HT.out.below hbw)).mono ?_; rintro e w9 ⟨rfl, hb9⟩)
      go_ret
      exact ⟨rfl, upT hbw hb9⟩
end Go.Proofs.YtcpbbkpfickfiaaDoor
