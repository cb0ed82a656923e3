/- The walk of ProgLabels: it answers true, whatever it is given. -/
import Derived.Test.YtmghklokbmdenaaDoorPgLabF
import Derived.BigQuiet
set_option linter.unusedVariables false
set_option linter.unusedSimpArgs false
namespace Go.Proofs.YtmghklokbmdenaaDoor
open Go.RowKit
set_option maxRecDepth 100000 in
set_option maxHeartbeats 32000000 in
theorem walk_ProgLabels (c0 c1 c2 : Int) (w : World) (T : Sn.Tab w) : Calls Tryd.prog 4 #[.int .i64 c0, .int .i64 c1, .int .i64 c2] w (RetB (.bool true) w) := by
  have m15 : bits .and .i64 c0 15 = c0 % 16 := Wd.bits_mask c0 4 (by omega)
  have m1 : bits .and .i64 c1 255 = c1 % 256 := Wd.bits_mask c1 8 (by omega)
  have m2 : bits .and .i64 c2 255 = c2 % 256 := Wd.bits_mask c2 8 (by omega)
  obtain ⟨n, hn, en⟩ : ∃ n : Nat, (1 ≤ n ∧ n ≤ 16) ∧ bits .and .i64 c0 15 = ((n - 1 : Nat) : Int) := ⟨(c0 % 16).toNat + 1, by omega, by rw [m15]; omega⟩
  obtain ⟨a, ha, ea⟩ : ∃ a : Nat, a ≤ n ∧ (bits .and .i64 c1 255) % ((n : Int) + 1) = (a : Int) := ⟨((c1 % 256) % ((n : Int) + 1)).toNat, by
    have := Int.emod_lt_of_pos (c1 % 256) (show 0 < (n : Int) + 1 by omega)
    have := Int.emod_nonneg (c1 % 256) (show (n : Int) + 1 ≠ 0 by omega)
    omega, by
    have := Int.emod_nonneg (c1 % 256) (show (n : Int) + 1 ≠ 0 by omega)
    rw [m1]; omega⟩
  obtain ⟨who, hw, ew⟩ : ∃ k : Nat, k < n ∧ (bits .and .i64 c2 255) % (n : Int) = (k : Int) := ⟨((c2 % 256) % (n : Int)).toNat, by
    have := Int.emod_lt_of_pos (c2 % 256) (show 0 < (n : Int) by omega)
    have := Int.emod_nonneg (c2 % 256) (show (n : Int) ≠ 0 by omega)
    omega, by
    have := Int.emod_nonneg (c2 % 256) (show (n : Int) ≠ 0 by omega)
    rw [m2]; omega⟩
  have b1 : 0 ≤ bits .and .i64 c1 255 := by omega
  have b2 : 0 ≤ bits .and .i64 c2 255 := by omega
  have t1 : (bits .and .i64 c1 255).tmod ((n : Int) + 1) = (a : Int) := by rw [Int.tmod_eq_emod_of_nonneg b1]; exact ea
  have t2 : (bits .and .i64 c2 255).tmod (n : Int) = (who : Int) := by rw [Int.tmod_eq_emod_of_nonneg b2]; exact ew
  have en1 : bits .and .i64 c0 15 + 1 = (n : Int) := by omega
  have wn : IntKind.i64.wrap ((n : Int) + 1) = (n : Int) + 1 := by rw [IntKind.wrap_i64]; omega
  have nz : ¬ (n : Int) = 0 := by omega
  have nz1 : ¬ (n : Int) + 1 = 0 := by omega
  clear en m15 m1 m2
  go_enter Tryd.func4, Tryd.ntmps4
  go_wp2_with fail
  go_quiet (fail)
  go_wp2_with fail
  go_loop [7, 8] (fun v7 v8 => ∃ (i : Nat) (s : ByteArray), v8 = .int .i64 (i : Int) ∧ v7 = .string s ∧ i ≤ n + 1 ∧ s.data.toList = plS n a who i ∧ s.size ≤ 8 + 12 * i) (fun _ v8 => n + 1 - (intOf v8).toNat)
  case atStart => exact ⟨0, ⟨#[119, 105, 100, 116, 104, 32, 49, 10]⟩, rfl, rfl, by omega, rfl, by decide⟩
  case round =>
    obtain ⟨i, s, rfl, rfl, hi, hs, hz⟩ := hrel
    by_cases hle : i ≤ n
    · have i1 : (i : Int) ≤ (n : Int) := by omega
      have hstep : ∀ t : ByteArray, (s ++ t).data.toList = plS n a who i ++ t.data.toList := fun t => by rw [ByteArray.data_append, Array.toList_append, hs]
      by_cases ha1 : i = a
      · subst ha1
        by_cases hw1 : i = who
        · subst hw1
          go_wp2_with fail
          refine ⟨⟨i + 1, _, by go_num, rfl, by omega, ?_, ?_⟩, by simp [intOf]; omega⟩
          · rw [ByteArray.data_append, Array.toList_append, hstep, plS, plR, if_pos rfl, if_pos rfl, List.append_assoc]
          · simp only [ByteArray.size_append]; have e1 : (⟨#[120, 58, 10, 121, 58, 10]⟩ : ByteArray).size = 6 := rfl; have e2 : (⟨#[106, 109, 112, 32, 121, 10]⟩ : ByteArray).size = 6 := rfl; omega
        · have w1 : ¬ (i : Int) = (who : Int) := by omega
          by_cases hl : i < n
          · have l1 : (i : Int) < (n : Int) := by omega
            go_wp2_with fail
            refine ⟨⟨i + 1, _, by go_num, rfl, by omega, ?_, ?_⟩, by simp [intOf]; omega⟩
            · rw [ByteArray.data_append, Array.toList_append, hstep, plS, plR, if_pos rfl, if_neg hw1, if_pos hl, List.append_assoc]
            · simp only [ByteArray.size_append]; have e1 : (⟨#[120, 58, 10, 121, 58, 10]⟩ : ByteArray).size = 6 := rfl; have e2 : (⟨#[102, 101, 110, 99, 101, 10]⟩ : ByteArray).size = 6 := rfl; omega
          · have l1 : ¬ (i : Int) < (n : Int) := by omega
            go_wp2_with fail
            refine ⟨⟨i + 1, _, by go_num, rfl, by omega, ?_, ?_⟩, by simp [intOf]; omega⟩
            · rw [hstep, plS, plR, if_pos rfl, if_neg hw1, if_neg hl, List.append_nil]
            · simp only [ByteArray.size_append]; have e1 : (⟨#[120, 58, 10, 121, 58, 10]⟩ : ByteArray).size = 6 := rfl; omega
      · have a1 : ¬ (i : Int) = (a : Int) := by omega
        by_cases hw1 : i = who
        · subst hw1
          go_wp2_with fail
          refine ⟨⟨i + 1, _, by go_num, rfl, by omega, ?_, ?_⟩, by simp [intOf]; omega⟩
          · rw [hstep, plS, plR, if_neg ha1, if_pos rfl, List.nil_append]
          · simp only [ByteArray.size_append]; have e2 : (⟨#[106, 109, 112, 32, 121, 10]⟩ : ByteArray).size = 6 := rfl; omega
        · have w1 : ¬ (i : Int) = (who : Int) := by omega
          by_cases hl : i < n
          · have l1 : (i : Int) < (n : Int) := by omega
            go_wp2_with fail
            refine ⟨⟨i + 1, _, by go_num, rfl, by omega, ?_, ?_⟩, by simp [intOf]; omega⟩
            · rw [hstep, plS, plR, if_neg ha1, if_neg hw1, if_pos hl, List.nil_append]
            · simp only [ByteArray.size_append]; have e2 : (⟨#[102, 101, 110, 99, 101, 10]⟩ : ByteArray).size = 6 := rfl; omega
          · have l1 : ¬ (i : Int) < (n : Int) := by omega
            go_wp2_with fail
            refine ⟨⟨i + 1, _, by go_num, rfl, by omega, ?_, ?_⟩, by simp [intOf]; omega⟩
            · rw [hs, plS, plR, if_neg ha1, if_neg hw1, if_neg hl, List.nil_append, List.append_nil]
            · omega
    · obtain rfl : i = n + 1 := by omega
      have i1 : ¬ ((n + 1 : Nat) : Int) ≤ (n : Int) := by omega
      obtain rfl := ba_of hs
      obtain ⟨q, hq, hfit, hlen, hlab, ⟨x, hx, hxt, hxn⟩, hpr, hpar2, hsz2⟩ := pl_facts hn ha hw
      have hsz1 : (plS n a who (n + 1)).length ≤ 1000000 := by have := plS_len n a who (n + 1); omega
      have hp1 := fun W (h : Below w.heap.size w W) => parse_prog (plS n a who (n + 1)) hsz1 W (T.below h)
      have hp2 := fun W (h : Below w.heap.size w W) => parse_prog (Pg.bytes (Pg.text q)) hsz2 W (T.below h)
      have hprt := fun vM vL vI W (h : Below w.heap.size w W) (hi : PrIn W q vM vL vI) => pprint_any q vM vL vI W (T.below h) hi hfit
      have hal := fun W (h : Below w.heap.size w W) => awake6 W (T.below h)
      rw [hq] at hp1
      rw [hpar2] at hp2
      rw [hpr] at hprt
      have HP1 := Lib.hid hp1; have HP2 := Lib.hid hp2; have HPR := Lib.hid hprt; have HAL := Lib.hid hal
      clear hp1 hp2 hprt hal T hz hq hpr hpar2 hsz1 hsz2 hfit
      go_wp2_with fail
      refine (HP1.out _ (upD (up0 w) _)).mono ?_
      rintro e w1 ⟨hb1', qM, qL, qI, rfl, hrows⟩
      have hb1 : Below w.heap.size w w1 := upT (upD (up0 w) _) hb1'
      clear hb1'
      have hin1 := hrows.inp
      obtain ⟨AM, cM, rfl, _⟩ := id hin1.rM
      obtain ⟨AL, cL, rfl, hcL, _, hAL⟩ := id hin1.rL
      obtain ⟨AI, cI, rfl, hcI, _, hAI⟩ := id hin1.rI
      obtain ⟨gL, oL, rfl, hgL, hcellL⟩ := hAL (by rw [hlab]; exact Nat.zero_lt_succ _)
      obtain ⟨gI, oI, rfl, hgI, hcellI⟩ := hAI (by omega)
      have hln : q.labels.length = 2 := by rw [hlab]; rfl
      have l0 : w1.cell? ⟨gL, oL, none⟩ = some (.string ⟨#[120]⟩) := by
        have h := hcellL 0 ⟨[120], (a : Int)⟩ (by rw [hlab]; rfl) 0 (by decide)
        exact h
      have l1 : w1.cell? ⟨gL, oL + 1, none⟩ = some (.int .i64 (a : Int)) := by
        have h := hcellL 0 ⟨[120], (a : Int)⟩ (by rw [hlab]; rfl) 1 (by decide)
        rw [Nat.zero_mul, Nat.add_zero] at h
        exact h
      have l3 : w1.cell? ⟨gL, oL + 2 + 1, none⟩ = some (.int .i64 (a : Int)) := by
        have h := hcellL 1 ⟨[121], (a : Int)⟩ (by rw [hlab]; rfl) 1 (by decide)
        rw [Nat.one_mul] at h
        exact h
      have i7 : w1.cell? ⟨gI, oI + who * 9 + 7, none⟩ = some (.string ⟨#[]⟩) := by
        have h := hcellI who x hx 7 (by decide)
        rw [h]
        show some (Value.string (strOfNums x.name)) = _
        rw [hxn]
        rfl
      have i8 : w1.cell? ⟨gI, oI + who * 9 + 8, none⟩ = some (.int .i64 (a : Int)) := by
        have h := hcellI who x hx 8 (by decide)
        rw [h]
        show some (Value.int .i64 x.target) = _
        rw [hxt]
      rw [hln, hlen] at hin1 ⊢
      have HIN := Lib.hid hin1; have HB1 := Lib.hid hb1
      have HC := Lib.hid (And.intro l0 (And.intro l1 (And.intro l3 (And.intro i7 i8))))
      have HXF := Lib.hid (And.intro hx (And.intro hxt (And.intro hlen hln)))
      have hbx1 : ∀ W, Below (w1.alloc (.cells (PrA q (.slice AM q.mems.length cM) (.slice (some ⟨gL, oL, none⟩) 2 cL) (.slice (some ⟨gI, oI, none⟩) n cI)) 29)).heap.size (w1.alloc (.cells (PrA q (.slice AM q.mems.length cM) (.slice (some ⟨gL, oL, none⟩) 2 cL) (.slice (some ⟨gI, oI, none⟩) n cI)) 29)) W → W.heap[w1.heap.size]? = some (.cells (PrA q (.slice AM q.mems.length cM) (.slice (some ⟨gL, oL, none⟩) 2 cL) (.slice (some ⟨gI, oI, none⟩) n cI)) 29 (0, 0)) := fun W hb => (hb.block w1.heap.size (by simp)).trans (heap_alloc_new w1 _)
      have HBX := Lib.hid hbx1
      clear hrows hin1 hb1 hcellL hcellI hAL hAI l0 l1 l3 i7 i8 hx hxt hxn hlab hlen hln hbx1
      go_wp2_with fail
      refine (HPR.out _ _ _ _ (upA HB1.out _) (HIN.out.up (upA (up0 w1) _))).mono ?_
      rintro e w2 ⟨rfl, hb2⟩
      have HB2 := Lib.hid hb2
      clear hb2
      go_wp2_with fail
      refine (HP2.out _ (upT (upA HB1.out _) HB2.out)).mono ?_
      rintro e w3 ⟨hb3, rM, rL, rI, rfl, hrows3⟩
      have hin3 := hrows3.inp
      obtain ⟨BM, dM, rfl, _⟩ := id hin3.rM
      obtain ⟨BL, dL, rfl, _⟩ := id hin3.rL
      obtain ⟨BI, dI, rfl, hdI, _, hBI⟩ := id hin3.rI
      obtain ⟨hx, hxt, hlen, hln⟩ := HXF.out
      obtain ⟨gJ, oJ, rfl, hgJ, hcellJ⟩ := hBI (by omega)
      have j8 : w3.cell? ⟨gJ, oJ + who * 9 + 8, none⟩ = some (.int .i64 (a : Int)) := by
        have h := hcellJ who x hx 8 (by decide)
        rw [h]
        show some (Value.int .i64 x.target) = _
        rw [hxt]
      have hbw := upT HB2.out hb3
      have hbx3 := HBX.out w3 hbw
      have hlt3 : w1.heap.size < w3.heap.size := (Array.getElem?_eq_some_iff.1 hbx3).1
      have hb13 : Below w1.heap.size w1 w3 := upT (upA (up0 w1) _) hbw
      obtain ⟨c0', c1', c2', c3', c4'⟩ := HC.out
      have z8 : ∀ o, (w3.alloc o).cell? ⟨w1.heap.size, 8, none⟩ = some (.slice (some ⟨gL, oL, none⟩) 2 cL) := fun o => (World.cell?_alloc_lt _ _ _ hlt3).trans ((cell_of_row _ _ 8 _ _ _ hbx3).trans rfl)
      have z9 : ∀ o, (w3.alloc o).cell? ⟨w1.heap.size, 9, none⟩ = some (.slice (some ⟨gI, oI, none⟩) n cI) := fun o => (World.cell?_alloc_lt _ _ _ hlt3).trans ((cell_of_row _ _ 9 _ _ _ hbx3).trans rfl)
      have ltL : gL < w3.heap.size := Nat.lt_of_lt_of_le hgL hb13.size
      have ltI : gI < w3.heap.size := Nat.lt_of_lt_of_le hgI hb13.size
      have k0 : ∀ o, (w3.alloc o).cell? ⟨gL, oL, none⟩ = some (.string ⟨#[120]⟩) := fun o => (World.cell?_alloc_lt _ _ _ ltL).trans ((hb13.cell hgL).trans c0')
      have k1 : ∀ o, (w3.alloc o).cell? ⟨gL, oL + 1, none⟩ = some (.int .i64 (a : Int)) := fun o => (World.cell?_alloc_lt _ _ _ ltL).trans ((hb13.cell hgL).trans c1')
      have k3 : ∀ o, (w3.alloc o).cell? ⟨gL, oL + 2 + 1, none⟩ = some (.int .i64 (a : Int)) := fun o => (World.cell?_alloc_lt _ _ _ ltL).trans ((hb13.cell hgL).trans c2')
      have k7 : ∀ o, (w3.alloc o).cell? ⟨gI, oI + who * 9 + 7, none⟩ = some (.string ⟨#[]⟩) := fun o => (World.cell?_alloc_lt _ _ _ ltI).trans ((hb13.cell hgI).trans c3')
      have k8 : ∀ o, (w3.alloc o).cell? ⟨gI, oI + who * 9 + 8, none⟩ = some (.int .i64 (a : Int)) := fun o => (World.cell?_alloc_lt _ _ _ ltI).trans ((hb13.cell hgI).trans c4')
      have m8 : ∀ o, (w3.alloc o).cell? ⟨gJ, oJ + who * 9 + 8, none⟩ = some (.int .i64 (a : Int)) := fun o => (World.cell?_alloc_lt _ _ _ hgJ).trans j8
      rw [hlen]
      rw [hlen] at hdI
      have who1 : (who : Int) < (n : Int) := by omega
      have who0 : 0 ≤ (who : Int) := by omega
      have HN3 := Lib.hid (upT HB1.out hb13)
      clear hrows3 hin3 hcellJ hBI hx hxt hlen hln hbw hbx3 hb13 c0' c1' c2' c3' c4' j8 ltL ltI hlt3 hgL hgI hgJ hb3
      go_wp2_with (go_at_call 7; refine (HAL.out _ (upA HN3.out _)).mono ?_; rintro e w5 ⟨rfl, hb5⟩)
      go_ret
      exact ⟨rfl, upT (upA HN3.out _) hb5⟩
end Go.Proofs.YtmghklokbmdenaaDoor
