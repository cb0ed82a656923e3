/- The reader's region, where it may stand. -/
import Derived.Test.YtmghklokbmdenaaDoorPgReg
set_option linter.unusedVariables false
set_option linter.unusedSimpArgs false
namespace Go.Proofs.YtmghklokbmdenaaDoor
open Go.RowKit
set_option maxRecDepth 100000 in
set_option maxHeartbeats 8000000 in
theorem region_ok (g : Nat) (r : Pg.Rs) (S : Nat → Prop) (i : Sy.It) (w : World) (hS : RSet w g r S) (hlt : ∀ k, S k → k < w.heap.size) (ho : Sy.okName i.name) (hN : Sy.okN i.n) (hl : i.name.length ≤ 1000000) (hcnt : r.p.mems.length + r.p.labels.length ≤ 2000000)
    (hc : r.begun = false ∧ 1 ≤ i.n ∧ Pg.cells r.p.mems + i.n ≤ 16 ∧ Pg.cells r.p.mems + i.n ≤ Pg.size r.p.w ∧ Pg.known r.p i.name = false) :
    Calls Tryd.prog 27 #[.pointer (some ⟨g, 0, none⟩), ItV i] w (RdP g { r with p := { r.p with mems := r.p.mems ++ [⟨i.name, i.secret, i.n⟩] } } S (.bool true) w) := by
  have hinv := Pg.add_reg_ok (r := r) (i := i) (by obtain ⟨b, vM, vL, vI, vA, h⟩ := hS; exact h.inv) ho hN hc
  have ht := okName_isB ho
  obtain ⟨b, vM, vL, vI, vA, h⟩ := hS
  obtain ⟨D, hm, hD⟩ := h.mid
  have hm1 := hm.up (upA (up0 w) (.cells (ItC i) 55))
  have hbox : (w.alloc (.cells (ItC i) 55)).heap[w.heap.size]? = some (.cells (ItC i) 55 (0, 0)) := heap_alloc_new w _
  have hgw := h.glt
  have hsz := size_bd r.p.w
  have hcl0 := h.inv.cells0
  have hcl1 := h.inv.cells.1
  have c0 : w.cell? ⟨g, 0, none⟩ = some (.int .i64 r.p.w) := hm.cell 0
  have hF : Fr S w (w.alloc (.cells (ItC i) 55)) := hm1.fr
  have HF := Lib.hid hF
  clear hF
  obtain ⟨sz, hsz1⟩ : ∃ z, z = Pg.size r.p.w := ⟨_, rfl⟩
  obtain ⟨cl, hcl2⟩ : ∃ z, z = Pg.cells r.p.mems := ⟨_, rfl⟩
  obtain ⟨m, hmin⟩ : ∃ z : Int, min 16 sz = z := ⟨_, rfl⟩
  have hmb : 0 ≤ m ∧ m ≤ 16 ∧ (m ≤ sz ∧ (m = sz ∨ m = 16)) := by omega
  have hsub : IntKind.i64.wrap (m - cl) = m - cl := IntWalk.i64_in _ (by omega)
  have hSZ := fun w => wsize_any r.p.w w
  rw [← hsz1] at hSZ
  have HSZ := Lib.hid hSZ
  clear hSZ
  obtain ⟨gM, AA, cM, eM, _, _, _, _⟩ := own_RowR memC_len (by decide) h.rows.rM
  obtain ⟨hb, h1, h2, h3, hk⟩ := hc
  rw [hb] at hinv
  have d1 : decide (i.n < 1) = false := by simp; omega
  have d2 : decide (m - cl < i.n) = false := by simp; omega
  have c12W : (w.alloc (.cells (ItC i) 55)).cell? ⟨g, 12, none⟩ = some (.bool r.begun) := hm1.cell 12
  have c10W : (w.alloc (.cells (ItC i) 55)).cell? ⟨g, 10, none⟩ = some (.int .i64 cl) := by rw [hcl2]; exact hm1.cell 10
  rw [hb] at c12W
  have hhas : Maps.has D (klit i.name) = false := by rw [(hD _ ht).1, hk]
  have hD' := hD.mem hm.map.isMap ht hk i.secret i.n
  have hadd : IntKind.i64.wrap (cl + i.n) = cl + i.n := IntWalk.i64_in _ (by omega)
  have hfewM : r.p.mems.length ≤ 2000000 := by omega
  have HH := Lib.hid hhas; have HM := Lib.hid hm1; have HD := Lib.hid hD'; have HI := Lib.hid hinv; have HLT := Lib.hid hlt; have HCL := Lib.hid hcl2; have HB := Lib.hid hb; have HEM := Lib.hid eM
  have hzz : (w.alloc (.cells (ItC i) 55)).heap.size = w.heap.size + 1 := by simp
  obtain ⟨i0, hi0, hz0, hs0, hb0⟩ := info_parts infoMm
  have HZ := Lib.hid hzz
  clear hm hm1 hD h hcl2 hsz1 hhas hk ht hD' hinv hlt eM hzz ho
  go_enter Tryd.func27, Tryd.ntmps27
  go_wp2_with (go_at_call 45; refine (HSZ.out _).mono ?_; rintro e w4 ⟨rfl, rfl⟩)
  generalize w.alloc (.cells (ItC i) 55) = W1 at *
  have hm1 := HM.out
  have hname := name_any g b _ D i.name (-1) W1.drew (hm1.cell 11) hm1.map hl (by unfold I64; omega) hcnt
  have HN := Lib.hid hname
  have hgW1 := hm1.glt
  have hBW1 : w.heap.size < W1.heap.size := by have := HZ.out; omega
  have hne1 := hm1.ne.1
  have hneB : w.heap.size ≠ b := by have := hm1.old.2; omega
  clear hname hm1
  refine wp_region_noPanic ?_
  refine wp_region_held_drew (S := fun w' => w'.cell? ⟨g, 12, none⟩ = some (.bool false) ∧ w'.cell? ⟨g, 10, none⟩ = some (.int .i64 cl) ∧ w'.cell? ⟨w.heap.size, 1, none⟩ = some (.int .i64 i.n) ∧ w'.cell? ⟨w.heap.size, 3, none⟩ = some (.string (strOfNums i.name))) (by kernel_rfl) ?_ (fun hHeld => ?_)
  · exact ⟨c12W, c10W, row_cells hbox 1 rfl, row_cells hbox 3 rfl⟩
  refine wpAnyH_take (i := 0) (oi := _) (v := ?_) rfl (by kernel_rfl) (by kernel_rfl) (by kernel_rfl) (fun _ _ _ h => h) (Or.inl ⟨by kernel_rfl, ?_⟩) (by assumption) ?_
  rotate_left
  · (intro w hSw; (try dsimp only at hSw); go_simp; try (with_reducible rfl))
  (try simp only [List.getElem_toArray, List.getElem_cons_succ, List.getElem_cons_zero, Act.put, List.setIfInBounds_toArray, List.set_cons_zero, List.set_cons_succ])
  refine wpAnyH_take (i := 1) (oi := _) (v := ?_) rfl (by kernel_rfl) (by kernel_rfl) (by kernel_rfl) (fun _ _ _ h => h) (Or.inl ⟨by kernel_rfl, ?_⟩) (by assumption) ?_
  rotate_left
  · (intro w hSw; (try dsimp only at hSw); go_simp; try (with_reducible rfl))
  (try simp only [List.getElem_toArray, List.getElem_cons_succ, List.getElem_cons_zero, Act.put, List.setIfInBounds_toArray, List.set_cons_zero, List.set_cons_succ])
  refine wpAnyH_take (i := 2) (oi := _) (v := ?_) rfl (by kernel_rfl) (by kernel_rfl) (by kernel_rfl) (fun _ _ _ h => h) (Or.inl ⟨by kernel_rfl, ?_⟩) (by assumption) ?_
  rotate_left
  · (intro w hSw; (try dsimp only at hSw); go_simp; try (with_reducible rfl))
  (try simp only [List.getElem_toArray, List.getElem_cons_succ, List.getElem_cons_zero, Act.put, List.setIfInBounds_toArray, List.set_cons_zero, List.set_cons_succ])
  refine wpAnyH_take (i := 3) (oi := _) (v := ?_) rfl (by kernel_rfl) (by kernel_rfl) (by kernel_rfl) (fun _ _ _ h => h) (Or.inl ⟨by kernel_rfl, ?_⟩) (by assumption) ?_
  rotate_left
  · (intro w hSw; (try dsimp only at hSw); go_simp; try (with_reducible rfl))
  (try simp only [List.getElem_toArray, List.getElem_cons_succ, List.getElem_cons_zero, Act.put, List.setIfInBounds_toArray, List.set_cons_zero, List.set_cons_succ])
  refine wpAnyH_take (i := 4) (oi := _) (v := ?_) rfl (by kernel_rfl) (by kernel_rfl) (by kernel_rfl) (fun _ _ _ h => h) (Or.inl ⟨by kernel_rfl, ?_⟩) (by assumption) ?_
  rotate_left
  · (intro w hSw; (try dsimp only at hSw); go_simp; try (with_reducible rfl))
  (try simp only [List.getElem_toArray, List.getElem_cons_succ, List.getElem_cons_zero, Act.put, List.setIfInBounds_toArray, List.set_cons_zero, List.set_cons_succ])
  refine wpAnyH_take (i := 5) (oi := _) (v := ?_) rfl (by kernel_rfl) (by kernel_rfl) (by kernel_rfl) (fun _ _ _ h => h) (Or.inl ⟨by kernel_rfl, ?_⟩) (by assumption) ?_
  rotate_left
  · (intro w hSw; (try dsimp only at hSw); go_simp; try (with_reducible rfl))
  (try simp only [List.getElem_toArray, List.getElem_cons_succ, List.getElem_cons_zero, Act.put, List.setIfInBounds_toArray, List.set_cons_zero, List.set_cons_succ])
  refine wpAnyH_take (i := 6) (oi := _) (v := ?_) rfl (by kernel_rfl) (by kernel_rfl) (by kernel_rfl) (fun _ _ _ h => h) (Or.inl ⟨by kernel_rfl, ?_⟩) (by assumption) ?_
  rotate_left
  · (intro w hSw; (try dsimp only at hSw); go_simp; try (with_reducible rfl))
  (try simp only [List.getElem_toArray, List.getElem_cons_succ, List.getElem_cons_zero, Act.put, List.setIfInBounds_toArray, List.set_cons_zero, List.set_cons_succ])
  refine wpAnyH_take (i := 7) (oi := _) (v := ?_) rfl (by kernel_rfl) (by kernel_rfl) (by kernel_rfl) (fun _ _ _ h => h) (Or.inl ⟨by kernel_rfl, ?_⟩) (by assumption) ?_
  rotate_left
  · (intro w hSw; (try dsimp only at hSw); go_simp; try (with_reducible rfl))
  (try simp only [List.getElem_toArray, List.getElem_cons_succ, List.getElem_cons_zero, Act.put, List.setIfInBounds_toArray, List.set_cons_zero, List.set_cons_succ])
  refine wpAnyH_take (i := 8) (oi := _) (v := ?_) rfl (by kernel_rfl) (by kernel_rfl) (by kernel_rfl) (fun _ _ _ h => h) (Or.inl ⟨by kernel_rfl, ?_⟩) (by assumption) ?_
  rotate_left
  · (intro w hSw; (try dsimp only at hSw); go_simp; try (with_reducible rfl))
  (try simp only [List.getElem_toArray, List.getElem_cons_succ, List.getElem_cons_zero, Act.put, List.setIfInBounds_toArray, List.set_cons_zero, List.set_cons_succ])
  refine wpAnyH_take (i := 9) (oi := _) (v := ?_) rfl (by kernel_rfl) (by kernel_rfl) (by kernel_rfl) (fun _ _ _ h => h) (Or.inl ⟨by kernel_rfl, ?_⟩) (by assumption) ?_
  rotate_left
  · (intro w hSw; (try dsimp only at hSw); go_simp; try (with_reducible rfl))
  (try simp only [List.getElem_toArray, List.getElem_cons_succ, List.getElem_cons_zero, Act.put, List.setIfInBounds_toArray, List.set_cons_zero, List.set_cons_succ])
  refine wpAnyH_take (i := 10) (oi := _) (v := ?_) rfl (by kernel_rfl) (by kernel_rfl) (by kernel_rfl) (fun _ _ _ h => h) (Or.inl ⟨by kernel_rfl, ?_⟩) (by assumption) ?_
  rotate_left
  · (intro w hSw; (try dsimp only at hSw); go_simp; try (with_reducible rfl))
  (try simp only [List.getElem_toArray, List.getElem_cons_succ, List.getElem_cons_zero, Act.put, List.setIfInBounds_toArray, List.set_cons_zero, List.set_cons_succ])
  refine wpAnyH_take (i := 11) (oi := _) (v := ?_) rfl (by kernel_rfl) (by kernel_rfl) (by kernel_rfl) (fun _ _ _ h => h) (Or.inl ⟨by kernel_rfl, ?_⟩) (by assumption) ?_
  rotate_left
  · (intro w hSw; (try dsimp only at hSw); go_simp; try (with_reducible rfl))
  (try simp only [List.getElem_toArray, List.getElem_cons_succ, List.getElem_cons_zero, Act.put, List.setIfInBounds_toArray, List.set_cons_zero, List.set_cons_succ])
  refine wpAnyH_take (i := 12) (oi := _) (v := ?_) rfl (by kernel_rfl) (by kernel_rfl) (by kernel_rfl) (fun _ _ _ h => h) (Or.inl ⟨by kernel_rfl, ?_⟩) (by assumption) ?_
  rotate_left
  · (intro w hSw; (try dsimp only at hSw); go_simp; try (with_reducible rfl))
  (try simp only [List.getElem_toArray, List.getElem_cons_succ, List.getElem_cons_zero, Act.put, List.setIfInBounds_toArray, List.set_cons_zero, List.set_cons_succ])
  refine wpAnyH_take (i := 13) (oi := _) (v := ?_) rfl (by kernel_rfl) (by kernel_rfl) (by kernel_rfl) (fun _ _ _ h => h) (Or.inl ⟨by kernel_rfl, ?_⟩) (by assumption) ?_
  rotate_left
  · (intro w hSw; (try dsimp only at hSw); go_simp; try (with_reducible rfl))
  (try simp only [List.getElem_toArray, List.getElem_cons_succ, List.getElem_cons_zero, Act.put, List.setIfInBounds_toArray, List.set_cons_zero, List.set_cons_succ])
  refine wpAnyH_take (i := 14) (oi := _) (v := ?_) rfl (by kernel_rfl) (by kernel_rfl) (by kernel_rfl) (fun _ _ _ h => h) (Or.inl ⟨by kernel_rfl, ?_⟩) (by assumption) ?_
  rotate_left
  · (intro w hSw; (try dsimp only at hSw); go_simp; try (with_reducible rfl))
  (try simp only [List.getElem_toArray, List.getElem_cons_succ, List.getElem_cons_zero, Act.put, List.setIfInBounds_toArray, List.set_cons_zero, List.set_cons_succ])
  refine wpAnyH_take (i := 15) (oi := _) (v := ?_) rfl (by kernel_rfl) (by kernel_rfl) (by kernel_rfl) (fun _ _ _ h => h) (Or.inl ⟨by kernel_rfl, ?_⟩) (by assumption) ?_
  rotate_left
  · (intro w hSw; (try dsimp only at hSw); go_simp; try (with_reducible rfl))
  (try simp only [List.getElem_toArray, List.getElem_cons_succ, List.getElem_cons_zero, Act.put, List.setIfInBounds_toArray, List.set_cons_zero, List.set_cons_succ])
  refine wpAnyH_take (i := 16) (oi := _) (v := ?_) rfl (by kernel_rfl) (by kernel_rfl) (by kernel_rfl) (fun _ _ _ h => h) (Or.inl ⟨by kernel_rfl, ?_⟩) (by assumption) ?_
  rotate_left
  · (intro w hSw; (try dsimp only at hSw); go_simp; try (with_reducible rfl))
  (try simp only [List.getElem_toArray, List.getElem_cons_succ, List.getElem_cons_zero, Act.put, List.setIfInBounds_toArray, List.set_cons_zero, List.set_cons_succ])
  refine wpAnyH_take (i := 17) (oi := _) (v := ?_) rfl (by kernel_rfl) (by kernel_rfl) (by kernel_rfl) (fun _ _ _ h => h) (Or.inl ⟨by kernel_rfl, ?_⟩) (by assumption) ?_
  rotate_left
  · (intro w hSw; (try dsimp only at hSw); go_simp; try (with_reducible rfl))
  (try simp only [List.getElem_toArray, List.getElem_cons_succ, List.getElem_cons_zero, Act.put, List.setIfInBounds_toArray, List.set_cons_zero, List.set_cons_succ])
  refine wpAnyH_take (i := 18) (oi := _) (v := ?_) rfl (by kernel_rfl) (by kernel_rfl) (by kernel_rfl) (fun _ _ _ h => h) (Or.inl ⟨by kernel_rfl, ?_⟩) (by assumption) ?_
  rotate_left
  · (intro w hSw; (try dsimp only at hSw); go_simp; try (with_reducible rfl))
  (try simp only [List.getElem_toArray, List.getElem_cons_succ, List.getElem_cons_zero, Act.put, List.setIfInBounds_toArray, List.set_cons_zero, List.set_cons_succ])
  refine wpAnyH_take (i := 19) (oi := _) (v := ?_) rfl (by kernel_rfl) (by kernel_rfl) (by kernel_rfl) (fun _ _ _ h => h) (Or.inl ⟨by kernel_rfl, ?_⟩) (by assumption) ?_
  rotate_left
  · (intro w hSw; (try dsimp only at hSw); go_simp; try (with_reducible rfl))
  (try simp only [List.getElem_toArray, List.getElem_cons_succ, List.getElem_cons_zero, Act.put, List.setIfInBounds_toArray, List.set_cons_zero, List.set_cons_succ])
  refine wpAnyH_take (i := 20) (oi := _) (v := ?_) rfl (by kernel_rfl) (by kernel_rfl) (by kernel_rfl) (fun _ _ _ h => h) (Or.inl ⟨by kernel_rfl, ?_⟩) (by assumption) ?_
  rotate_left
  · (intro w hSw; (try dsimp only at hSw); go_simp; try (with_reducible rfl))
  (try simp only [List.getElem_toArray, List.getElem_cons_succ, List.getElem_cons_zero, Act.put, List.setIfInBounds_toArray, List.set_cons_zero, List.set_cons_succ])
  refine wpAnyH_take (i := 21) (oi := _) (v := ?_) rfl (by kernel_rfl) (by kernel_rfl) (by kernel_rfl) (fun _ _ _ h => h) (Or.inl ⟨by kernel_rfl, ?_⟩) (by assumption) ?_
  rotate_left
  · (intro w hSw; (try dsimp only at hSw); go_simp; try (with_reducible rfl))
  (try simp only [List.getElem_toArray, List.getElem_cons_succ, List.getElem_cons_zero, Act.put, List.setIfInBounds_toArray, List.set_cons_zero, List.set_cons_succ])
  refine wpAnyH_take (i := 22) (oi := _) (v := ?_) rfl (by kernel_rfl) (by kernel_rfl) (by kernel_rfl) (fun _ _ _ h => h) (Or.inl ⟨by kernel_rfl, ?_⟩) (by assumption) ?_
  rotate_left
  · (intro w hSw; (try dsimp only at hSw); go_simp; try (with_reducible rfl))
  (try simp only [List.getElem_toArray, List.getElem_cons_succ, List.getElem_cons_zero, Act.put, List.setIfInBounds_toArray, List.set_cons_zero, List.set_cons_succ])
  refine wpAnyH_take (i := 23) (oi := _) (v := ?_) rfl (by kernel_rfl) (by kernel_rfl) (by kernel_rfl) (fun _ _ _ h => h) (Or.inl ⟨by kernel_rfl, ?_⟩) (by assumption) ?_
  rotate_left
  · (intro w hSw; (try dsimp only at hSw); go_simp; try (with_reducible rfl))
  (try simp only [List.getElem_toArray, List.getElem_cons_succ, List.getElem_cons_zero, Act.put, List.setIfInBounds_toArray, List.set_cons_zero, List.set_cons_succ])
  refine wpAnyH_ready (rs := [24]) (by kernel_rfl) (by simp) ?_
  refine AllReadyH.cons (o := _) rfl (fun K hK => ?_) AllReadyH.nil
  go_simp
  go_at_call 46
  refine HN.out.mono ?_
  intro e w4 hp4
  obtain ⟨rfl, hmp, hfr⟩ := hp4.new HH.out
  clear hp4
  first | refine hK.out _ _ ?_ (fun hHeld => ?_) | (go_wp2_with fail; refine hK.out _ _ ?_ (fun hHeld => ?_))
  · exact ⟨hfr.cell (p := ⟨g, 12, none⟩) c12W hne1, hfr.cell (p := ⟨g, 10, none⟩) c10W hne1, hfr.cell (p := ⟨w.heap.size, 1, none⟩) (row_cells hbox 1 rfl) hneB, hfr.cell (p := ⟨w.heap.size, 3, none⟩) (row_cells hbox 3 rfl) hneB⟩
  clear hK K
  (try simp only [List.getElem_toArray, List.getElem_cons_succ, List.getElem_cons_zero, Act.put, List.setIfInBounds_toArray, List.set_cons_zero, List.set_cons_succ])
  refine wpAnyH_take (i := 25) (oi := _) (v := ?_) rfl (by kernel_rfl) (by kernel_rfl) (by kernel_rfl) (fun _ _ _ h => h) (Or.inl ⟨by kernel_rfl, ?_⟩) (by assumption) ?_
  rotate_left
  · (intro w hSw; (try dsimp only at hSw); go_simp; try (with_reducible rfl))
  (try simp only [List.getElem_toArray, List.getElem_cons_succ, List.getElem_cons_zero, Act.put, List.setIfInBounds_toArray, List.set_cons_zero, List.set_cons_succ])
  refine wpAnyH_take (i := 26) (oi := _) (v := ?_) rfl (by kernel_rfl) (by kernel_rfl) (by kernel_rfl) (fun _ _ _ h => h) (Or.inl ⟨by kernel_rfl, ?_⟩) (by assumption) ?_
  rotate_left
  · (intro w hSw; (try dsimp only at hSw); go_simp; try (with_reducible rfl))
  (try simp only [List.getElem_toArray, List.getElem_cons_succ, List.getElem_cons_zero, Act.put, List.setIfInBounds_toArray, List.set_cons_zero, List.set_cons_succ])
  refine wpAnyH_done (by kernel_rfl) ?_ _
  refine NoPanic.normal ?_
  (try go_simp)
  have hm2 := (HM.out.up (upD (up0 _) 1)).name hfr hmp
  have hbox4 : w4.heap[w.heap.size]? = some (.cells (ItC i) 55 (0, 0)) := (hfr.block _ hBW1 hneB).trans hbox
  have hB4 : w.heap.size < w4.heap.size := Nat.lt_of_lt_of_le hBW1 hfr.size
  have c10W4 : w4.cell? ⟨g, 10, none⟩ = some (.int .i64 cl) := by rw [HCL.out]; exact hm2.cell 10
  have f10W4 := hm2.frz 10
  have hd4 := hm2.head
  have hg4 := hm2.glt
  have HM2 := Lib.hid hm2; have HBX := Lib.hid hbox4
  clear hmp hfr HM hbox HN c12W c10W hm2
  go_wp2_with fail
  refine wp_region_noPanic ?_
  refine wp_region_till 9 (fun w' => w'.cell? ⟨g, 10, none⟩ = some (.int .i64 cl) ∧ w'.cell? ⟨w.heap.size, 1, none⟩ = some (.int .i64 i.n)) (by kernel_rfl) ?_ (fun hHeld => ?_)
  · exact ⟨c10W4, row_cells hbox4 1 rfl⟩
  refine wpTill_take (i := 0) (oi := _) (v := ?_) rfl (by kernel_rfl) (by kernel_rfl) (by kernel_rfl) (fun _ _ _ h => h) (by kernel_rfl) (by kernel_rfl) (Or.inl ⟨by kernel_rfl, ?_⟩) (by assumption) ?_
  rotate_left
  · (intro w hSw; (try dsimp only at hSw); go_simp; (try with_reducible rfl))
  (try simp only [List.getElem_toArray, List.getElem_cons_succ, List.getElem_cons_zero, Act.put, List.setIfInBounds_toArray, List.set_cons_zero, List.set_cons_succ])
  refine wpTill_take (i := 1) (oi := _) (v := ?_) rfl (by kernel_rfl) (by kernel_rfl) (by kernel_rfl) (fun _ _ _ h => h) (by kernel_rfl) (by kernel_rfl) (Or.inl ⟨by kernel_rfl, ?_⟩) (by assumption) ?_
  rotate_left
  · (intro w hSw; (try dsimp only at hSw); go_simp; (try with_reducible rfl))
  (try simp only [List.getElem_toArray, List.getElem_cons_succ, List.getElem_cons_zero, Act.put, List.setIfInBounds_toArray, List.set_cons_zero, List.set_cons_succ])
  refine wpTill_take (i := 2) (oi := _) (v := ?_) rfl (by kernel_rfl) (by kernel_rfl) (by kernel_rfl) (fun _ _ _ h => h) (by kernel_rfl) (by kernel_rfl) (Or.inl ⟨by kernel_rfl, ?_⟩) (by assumption) ?_
  rotate_left
  · (intro w hSw; (try dsimp only at hSw); go_simp; (try with_reducible rfl))
  (try simp only [List.getElem_toArray, List.getElem_cons_succ, List.getElem_cons_zero, Act.put, List.setIfInBounds_toArray, List.set_cons_zero, List.set_cons_succ])
  refine wpTill_take (i := 3) (oi := _) (v := ?_) rfl (by kernel_rfl) (by kernel_rfl) (by kernel_rfl) (fun _ _ _ h => h) (by kernel_rfl) (by kernel_rfl) (Or.inl ⟨by kernel_rfl, ?_⟩) (by assumption) ?_
  rotate_left
  · (intro w hSw; (try dsimp only at hSw); go_simp; (try with_reducible rfl))
  (try simp only [List.getElem_toArray, List.getElem_cons_succ, List.getElem_cons_zero, Act.put, List.setIfInBounds_toArray, List.set_cons_zero, List.set_cons_succ])
  refine wpTill_take (i := 4) (oi := _) (v := ?_) rfl (by kernel_rfl) (by kernel_rfl) (by kernel_rfl) (fun _ _ _ h => h) (by kernel_rfl) (by kernel_rfl) (Or.inl ⟨by kernel_rfl, ?_⟩) (by assumption) ?_
  rotate_left
  · (intro w hSw; (try dsimp only at hSw); go_simp; (try with_reducible rfl))
  (try simp only [List.getElem_toArray, List.getElem_cons_succ, List.getElem_cons_zero, Act.put, List.setIfInBounds_toArray, List.set_cons_zero, List.set_cons_succ])
  refine wpTill_take (i := 5) (oi := _) (v := ?_) rfl (by kernel_rfl) (by kernel_rfl) (by kernel_rfl) (fun _ _ _ h => h) (by kernel_rfl) (by kernel_rfl) (Or.inl ⟨by kernel_rfl, ?_⟩) (by assumption) ?_
  rotate_left
  · (intro w hSw; (try dsimp only at hSw); go_simp; (try with_reducible rfl))
  (try simp only [List.getElem_toArray, List.getElem_cons_succ, List.getElem_cons_zero, Act.put, List.setIfInBounds_toArray, List.set_cons_zero, List.set_cons_succ])
  refine wpTill_take (i := 6) (oi := _) (v := ?_) rfl (by kernel_rfl) (by kernel_rfl) (by kernel_rfl) (fun _ _ _ h => h) (by kernel_rfl) (by kernel_rfl) (Or.inl ⟨by kernel_rfl, ?_⟩) (by assumption) ?_
  rotate_left
  · (intro w hSw; (try dsimp only at hSw); go_simp; (try with_reducible rfl))
  (try simp only [List.getElem_toArray, List.getElem_cons_succ, List.getElem_cons_zero, Act.put, List.setIfInBounds_toArray, List.set_cons_zero, List.set_cons_succ])
  refine wpTill_one (i := 7) (o := _) (by kernel_rfl) rfl (fun K hK => ?_)
  go_simp
  first | refine hK.out _ _ (fun _ => ?_) (fun hHeld => ?_) | (go_wp2_with fail; refine hK.out _ _ (fun _ => ?_) (fun hHeld => ?_))
  · exact ⟨c10W4, row_cells hbox4 1 rfl⟩
  replace hHeld := hHeld (by kernel_rfl)
  clear hK K
  (try simp only [List.getElem_toArray, List.getElem_cons_succ, List.getElem_cons_zero, Act.put, List.setIfInBounds_toArray, List.set_cons_zero, List.set_cons_succ])
  refine wpTill_one (i := 8) (o := _) (by kernel_rfl) rfl (fun K hK => ?_)
  go_simp
  first | refine hK.out _ _ (fun _ => ?_) (fun hHeld => ?_) | (go_wp2_with fail; refine hK.out _ _ (fun _ => ?_) (fun hHeld => ?_))
  · exact ⟨c10W4, row_cells hbox4 1 rfl⟩
  replace hHeld := hHeld (by kernel_rfl)
  clear hK K
  (try simp only [List.getElem_toArray, List.getElem_cons_succ, List.getElem_cons_zero, Act.put, List.setIfInBounds_toArray, List.set_cons_zero, List.set_cons_succ])
  refine wpTill_one (i := 9) (o := _) (by kernel_rfl) rfl (fun K hK => ?_)
  go_simp
  refine hK.out _ _ (fun h => absurd h (by simp)) (fun hHeld => ?_)
  clear hK K
  (try simp only [List.getElem_toArray, List.getElem_cons_succ, List.getElem_cons_zero, Act.put, List.setIfInBounds_toArray, List.set_cons_zero, List.set_cons_succ])
  refine wpTill_done (by kernel_rfl) ?_ _
  refine NoPanic.normal ?_
  (try go_simp)
  have hhx := heap_setCell_same w4 g 10 _ _ (.int .i64 (cl + i.n)) HM2.out.head
  have hmx := HM2.out.put (p' := r.p) (bg' := r.begun) (n' := cl + i.n) rfl rfl rfl (Fr.setCell (p := ⟨g, 10, none⟩) (.int .i64 (cl + i.n))) (by rw [hhx]; rfl)
  have hm3 := hmx.up (w' := (w4.setCell ⟨g, 10, none⟩ (.int .i64 (cl + i.n))).drew) (upD (up0 _) 1)
  have hbox5 : (w4.setCell ⟨g, 10, none⟩ (.int .i64 (cl + i.n))).drew.heap[w.heap.size]? = some (.cells (ItC i) 55 (0, 0)) := by
    show (w4.setCell ⟨g, 10, none⟩ (.int .i64 (cl + i.n))).heap[w.heap.size]? = _
    rw [Below.heap_setCell _ _ _ _ (by show w.heap.size ≠ g; omega)]; exact HBX.out
  clear hmx hhx
  generalize (w4.setCell ⟨g, 10, none⟩ (.int .i64 (cl + i.n))).drew = W5 at *
  clear hbox4 c10W4 f10W4 hd4 HBX HM2
  have eM := HEM.out
  have hMlt : ∀ k, vM.ownBlock = some k → k ≠ w.heap.size := fun k hk e => by have h1 := hm3.rows.rM; exact ownm_ne_cells h1 hbox5 (by decide) (by rw [hk, e])
  subst eM
  have hHead := hm3.head
  have hgW := hm3.glt
  have c7W : W5.cell? ⟨g, 7, none⟩ = some (.slice AA r.p.mems.length cM) := hm3.cell 7
  have hNg : ¬ (Value.slice AA r.p.mems.length cM).ownBlock = some g := hm3.ne.2.1.1
  have hNbB : ¬ (Value.slice AA r.p.mems.length cM).ownBlock = some w.heap.size := fun e => hMlt _ e rfl
  have hRow := hm3.rows.rM
  have HM3 := Lib.hid hm3
  clear hm3
  go_wp2_with fail
  have hCk : ∀ W' : World, Fr (fun k => ((.slice AA r.p.mems.length cM) : Value).ownBlock = some k) W5 W' → (fun w' => w'.cell? ⟨g, 7, none⟩ = some (.slice AA r.p.mems.length cM) ∧ w'.cell? ⟨w.heap.size, 1, none⟩ = some (.int .i64 i.n) ∧ w'.cell? ⟨w.heap.size, 2, none⟩ = some (.bool i.secret) ∧ w'.cell? ⟨w.heap.size, 3, none⟩ = some (.string (strOfNums i.name))) W' := fun W' hf => ⟨hf.cell (p := ⟨g, 7, none⟩) c7W hNg, hf.cell (p := ⟨w.heap.size, 1, none⟩) (row_cells hbox5 1 rfl) hNbB, hf.cell (p := ⟨w.heap.size, 2, none⟩) (row_cells hbox5 2 rfl) hNbB, hf.cell (p := ⟨w.heap.size, 3, none⟩) (row_cells hbox5 3 rfl) hNbB⟩
  refine wp_region_noPanic ?_
  refine wp_region_till 18 (fun w' => w'.cell? ⟨g, 7, none⟩ = some (.slice AA r.p.mems.length cM) ∧ w'.cell? ⟨w.heap.size, 1, none⟩ = some (.int .i64 i.n) ∧ w'.cell? ⟨w.heap.size, 2, none⟩ = some (.bool i.secret) ∧ w'.cell? ⟨w.heap.size, 3, none⟩ = some (.string (strOfNums i.name))) (by kernel_rfl) ?_ (fun hHeld => ?_)
  · exact hCk _ (Fr.of_below (upD (up0 _) 1))
  refine wpTill_take (i := 0) (oi := _) (v := ?_) rfl (by kernel_rfl) (by kernel_rfl) (by kernel_rfl) (fun _ _ _ h => h) (by kernel_rfl) (by kernel_rfl) (Or.inl ⟨by kernel_rfl, ?_⟩) (by assumption) ?_
  rotate_left
  · (intro w hSw; (try dsimp only at hSw); go_simp; (try with_reducible rfl))
  (try simp only [List.getElem_toArray, List.getElem_cons_succ, List.getElem_cons_zero, Act.put, List.setIfInBounds_toArray, List.set_cons_zero, List.set_cons_succ])
  refine wpTill_take (i := 1) (oi := _) (v := ?_) rfl (by kernel_rfl) (by kernel_rfl) (by kernel_rfl) (fun _ _ _ h => h) (by kernel_rfl) (by kernel_rfl) (Or.inl ⟨by kernel_rfl, ?_⟩) (by assumption) ?_
  rotate_left
  · (intro w hSw; (try dsimp only at hSw); go_simp; (try with_reducible rfl))
  (try simp only [List.getElem_toArray, List.getElem_cons_succ, List.getElem_cons_zero, Act.put, List.setIfInBounds_toArray, List.set_cons_zero, List.set_cons_succ])
  refine wpTill_take (i := 2) (oi := _) (v := ?_) rfl (by kernel_rfl) (by kernel_rfl) (by kernel_rfl) (fun _ _ _ h => h) (by kernel_rfl) (by kernel_rfl) (Or.inl ⟨by kernel_rfl, ?_⟩) (by assumption) ?_
  rotate_left
  · (intro w hSw; (try dsimp only at hSw); go_simp; (try with_reducible rfl))
  (try simp only [List.getElem_toArray, List.getElem_cons_succ, List.getElem_cons_zero, Act.put, List.setIfInBounds_toArray, List.set_cons_zero, List.set_cons_succ])
  refine wpTill_take (i := 3) (oi := _) (v := ?_) rfl (by kernel_rfl) (by kernel_rfl) (by kernel_rfl) (fun _ _ _ h => h) (by kernel_rfl) (by kernel_rfl) (Or.inl ⟨by kernel_rfl, ?_⟩) (by assumption) ?_
  rotate_left
  · (intro w hSw; (try dsimp only at hSw); go_simp; (try with_reducible rfl))
  (try simp only [List.getElem_toArray, List.getElem_cons_succ, List.getElem_cons_zero, Act.put, List.setIfInBounds_toArray, List.set_cons_zero, List.set_cons_succ])
  refine wpTill_take (i := 4) (oi := _) (v := ?_) rfl (by kernel_rfl) (by kernel_rfl) (by kernel_rfl) (fun _ _ _ h => h) (by kernel_rfl) (by kernel_rfl) (Or.inl ⟨by kernel_rfl, ?_⟩) (by assumption) ?_
  rotate_left
  · (intro w hSw; (try dsimp only at hSw); go_simp; (try with_reducible rfl))
  (try simp only [List.getElem_toArray, List.getElem_cons_succ, List.getElem_cons_zero, Act.put, List.setIfInBounds_toArray, List.set_cons_zero, List.set_cons_succ])
  refine wpTill_take (i := 5) (oi := _) (v := ?_) rfl (by kernel_rfl) (by kernel_rfl) (by kernel_rfl) (fun _ _ _ h => h) (by kernel_rfl) (by kernel_rfl) (Or.inl ⟨by kernel_rfl, ?_⟩) (by assumption) ?_
  rotate_left
  · (intro w hSw; (try dsimp only at hSw); go_simp; (try with_reducible rfl))
  (try simp only [List.getElem_toArray, List.getElem_cons_succ, List.getElem_cons_zero, Act.put, List.setIfInBounds_toArray, List.set_cons_zero, List.set_cons_succ])
  refine wpTill_take (i := 6) (oi := _) (v := ?_) rfl (by kernel_rfl) (by kernel_rfl) (by kernel_rfl) (fun _ _ _ h => h) (by kernel_rfl) (by kernel_rfl) (Or.inl ⟨by kernel_rfl, ?_⟩) (by assumption) ?_
  rotate_left
  · (intro w hSw; (try dsimp only at hSw); go_simp; (try with_reducible rfl))
  (try simp only [List.getElem_toArray, List.getElem_cons_succ, List.getElem_cons_zero, Act.put, List.setIfInBounds_toArray, List.set_cons_zero, List.set_cons_succ])
  refine wpTill_take (i := 7) (oi := _) (v := ?_) rfl (by kernel_rfl) (by kernel_rfl) (by kernel_rfl) (fun _ _ _ h => h) (by kernel_rfl) (by kernel_rfl) (Or.inl ⟨by kernel_rfl, ?_⟩) (by assumption) ?_
  rotate_left
  · (intro w hSw; (try dsimp only at hSw); go_simp; (try with_reducible rfl))
  (try simp only [List.getElem_toArray, List.getElem_cons_succ, List.getElem_cons_zero, Act.put, List.setIfInBounds_toArray, List.set_cons_zero, List.set_cons_succ])
  refine wpTill_take (i := 8) (oi := _) (v := ?_) rfl (by kernel_rfl) (by kernel_rfl) (by kernel_rfl) (fun _ _ _ h => h) (by kernel_rfl) (by kernel_rfl) (Or.inl ⟨by kernel_rfl, ?_⟩) (by assumption) ?_
  rotate_left
  · (intro w hSw; (try dsimp only at hSw); go_simp; (try with_reducible rfl))
  (try simp only [List.getElem_toArray, List.getElem_cons_succ, List.getElem_cons_zero, Act.put, List.setIfInBounds_toArray, List.set_cons_zero, List.set_cons_succ])
  refine wpTill_take (i := 9) (oi := _) (v := ?_) rfl (by kernel_rfl) (by kernel_rfl) (by kernel_rfl) (fun _ _ _ h => h) (by kernel_rfl) (by kernel_rfl) (Or.inl ⟨by kernel_rfl, ?_⟩) (by assumption) ?_
  rotate_left
  · (intro w hSw; (try dsimp only at hSw); go_simp; (try with_reducible rfl))
  (try simp only [List.getElem_toArray, List.getElem_cons_succ, List.getElem_cons_zero, Act.put, List.setIfInBounds_toArray, List.set_cons_zero, List.set_cons_succ])
  refine wpTill_take (i := 10) (oi := _) (v := ?_) rfl (by kernel_rfl) (by kernel_rfl) (by kernel_rfl) (fun _ _ _ h => h) (by kernel_rfl) (by kernel_rfl) (Or.inl ⟨by kernel_rfl, ?_⟩) (by assumption) ?_
  rotate_left
  · (intro w hSw; (try dsimp only at hSw); go_simp; (try with_reducible rfl))
  (try simp only [List.getElem_toArray, List.getElem_cons_succ, List.getElem_cons_zero, Act.put, List.setIfInBounds_toArray, List.set_cons_zero, List.set_cons_succ])
  refine wpTill_take (i := 11) (oi := _) (v := ?_) rfl (by kernel_rfl) (by kernel_rfl) (by kernel_rfl) (fun _ _ _ h => h) (by kernel_rfl) (by kernel_rfl) (Or.inl ⟨by kernel_rfl, ?_⟩) (by assumption) ?_
  rotate_left
  · (intro w hSw; (try dsimp only at hSw); go_simp; (try with_reducible rfl))
  (try simp only [List.getElem_toArray, List.getElem_cons_succ, List.getElem_cons_zero, Act.put, List.setIfInBounds_toArray, List.set_cons_zero, List.set_cons_succ])
  refine wpTill_take (i := 12) (oi := _) (v := ?_) rfl (by kernel_rfl) (by kernel_rfl) (by kernel_rfl) (fun _ _ _ h => h) (by kernel_rfl) (by kernel_rfl) (Or.inl ⟨by kernel_rfl, ?_⟩) (by assumption) ?_
  rotate_left
  · (intro w hSw; (try dsimp only at hSw); go_simp; (try with_reducible rfl))
  (try simp only [List.getElem_toArray, List.getElem_cons_succ, List.getElem_cons_zero, Act.put, List.setIfInBounds_toArray, List.set_cons_zero, List.set_cons_succ])
  refine wpTill_one (i := 13) (o := _) (by kernel_rfl) rfl (fun K hK => ?_)
  go_simp
  first | refine hK.out _ _ (fun _ => ?_) (fun hHeld => ?_) | (go_wp2_with fail; refine hK.out _ _ (fun _ => ?_) (fun hHeld => ?_))
  · exact hCk _ (Fr.of_below (upD (upA (up0 _) _) 1))
  replace hHeld := hHeld (by kernel_rfl)
  clear hK K
  (try simp only [List.getElem_toArray, List.getElem_cons_succ, List.getElem_cons_zero, Act.put, List.setIfInBounds_toArray, List.set_cons_zero, List.set_cons_succ])
  refine wpTill_one (i := 14) (o := _) (by kernel_rfl) rfl (fun K hK => ?_)
  refine step_append_lies _ rfl (.tmp 54) (.tmp 62) 25 rfl 0 45 i0 _ 3 32 Tryd.underlying25 hi0 hz0 hs0 hb0 rfl (by omega) _ r.p.mems.length (flt memC r.p.mems) rfl (hRow.alloc _) ⟨W5.heap.size, 0, none⟩ 1 1 (memC ⟨i.name, i.secret, i.n⟩) rfl (by rw [memC_len]) (fun j u hu => new_cells _ _ _ _ (rfl) j u hu) (memC_one _) (by omega) (by simp only [maxLen]; omega) (by omega) (by omega) (W5.heap.size + 1) (by simp) ?_
  intro gk cap w5 hown5 hgr5 hat5 hlt5
  first | refine hK.out _ _ (fun _ => ?_) (fun hHeld => ?_) | (go_wp2_with fail; refine hK.out _ _ (fun _ => ?_) (fun hHeld => ?_))
  · exact hCk _ ((Fr.of_below (S := fun k => ((.slice AA r.p.mems.length cM) : Value).ownBlock = some k) (upD (upA (up0 _) _) 1)).trans (Fr.of_grown hgr5) (fun x hx => .inl hx))
  replace hHeld := hHeld (by kernel_rfl)
  clear hK K
  (try simp only [List.getElem_toArray, List.getElem_cons_succ, List.getElem_cons_zero, Act.put, List.setIfInBounds_toArray, List.set_cons_zero, List.set_cons_succ])
  refine wpTill_one (i := 15) (o := _) (by kernel_rfl) rfl (fun K hK => ?_)
  go_simp
  first | refine hK.out _ _ (fun _ => ?_) (fun hHeld => ?_) | (go_wp2_with fail; refine hK.out _ _ (fun _ => ?_) (fun hHeld => ?_))
  · exact hCk _ ((Fr.of_below (S := fun k => ((.slice AA r.p.mems.length cM) : Value).ownBlock = some k) (upD (upA (up0 _) _) 1)).trans (Fr.of_grown hgr5) (fun x hx => .inl hx))
  replace hHeld := hHeld (by kernel_rfl)
  clear hK K
  (try simp only [List.getElem_toArray, List.getElem_cons_succ, List.getElem_cons_zero, Act.put, List.setIfInBounds_toArray, List.set_cons_zero, List.set_cons_succ])
  refine wpTill_one (i := 16) (o := _) (by kernel_rfl) rfl (fun K hK => ?_)
  go_simp
  first | refine hK.out _ _ (fun _ => ?_) (fun hHeld => ?_) | (go_wp2_with fail; refine hK.out _ _ (fun _ => ?_) (fun hHeld => ?_))
  · exact hCk _ ((Fr.of_below (S := fun k => ((.slice AA r.p.mems.length cM) : Value).ownBlock = some k) (upD (upA (up0 _) _) 1)).trans (Fr.of_grown hgr5) (fun x hx => .inl hx))
  replace hHeld := hHeld (by kernel_rfl)
  clear hK K
  (try simp only [List.getElem_toArray, List.getElem_cons_succ, List.getElem_cons_zero, Act.put, List.setIfInBounds_toArray, List.set_cons_zero, List.set_cons_succ])
  refine wpTill_one (i := 17) (o := _) (by kernel_rfl) rfl (fun K hK => ?_)
  go_simp
  first | refine hK.out _ _ (fun _ => ?_) (fun hHeld => ?_) | (go_wp2_with fail; refine hK.out _ _ (fun _ => ?_) (fun hHeld => ?_))
  · exact hCk _ ((Fr.of_below (S := fun k => ((.slice AA r.p.mems.length cM) : Value).ownBlock = some k) (upD (upA (up0 _) _) 1)).trans (Fr.of_grown hgr5) (fun x hx => .inl hx))
  replace hHeld := hHeld (by kernel_rfl)
  clear hK K
  (try simp only [List.getElem_toArray, List.getElem_cons_succ, List.getElem_cons_zero, Act.put, List.setIfInBounds_toArray, List.set_cons_zero, List.set_cons_succ])
  have hF5 : Fr (fun k => ((.slice AA r.p.mems.length cM) : Value).ownBlock = some k) W5 w5 := (Fr.of_below (S := fun k => ((.slice AA r.p.mems.length cM) : Value).ownBlock = some k) (upD (upA (up0 _) _) 1)).trans (Fr.of_grown hgr5) (fun x hx => .inl hx)
  have hd5 := (hF5.block g hgW hNg).trans hHead
  have c5 : w5.cell? ⟨g, 7, none⟩ = some (.slice AA r.p.mems.length cM) := hF5.cell (p := ⟨g, 7, none⟩) c7W hNg
  have fr5 : w5.frozen? ⟨g, 7, none⟩ = false := frozen_of_row _ _ _ _ _ hd5
  refine wpTill_one (i := 18) (o := _) (by kernel_rfl) rfl (fun K hK => ?_)
  go_simp
  refine hK.out _ _ (fun h => absurd h (by simp)) (fun hHeld => ?_)
  clear hK K
  (try simp only [List.getElem_toArray, List.getElem_cons_succ, List.getElem_cons_zero, Act.put, List.setIfInBounds_toArray, List.set_cons_zero, List.set_cons_succ])
  refine wpTill_done (by kernel_rfl) ?_ _
  refine NoPanic.normal ?_
  (try go_simp)
  have hm4 := HM3.out.appM (a := ⟨i.name, i.secret, i.n⟩) (upD (upA (up0 _) _) 1) hown5 hgr5 (hat5.imp id (fun e => by rw [e]; simp))
  clear hHead hRow
  go_wp2_with fail
  go_ret
  exact hm4.fin ⟨{ r.p with mems := r.p.mems ++ [⟨i.name, i.secret, i.n⟩] }, false, r.at_⟩ rfl rfl (by rw [HCL.out]; exact (cells_app1 r.p.mems ⟨i.name, i.secret, i.n⟩).symm) HB.out (by simp; omega) HD.out HI.out HLT.out
end Go.Proofs.YtmghklokbmdenaaDoor
