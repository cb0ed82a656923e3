/- The reader's add at a register, a region, a label, an instruction; at any item. -/
import Derived.Test.YtmghklokbmdenaaDoorPgAdd1
set_option linter.unusedVariables false
set_option linter.unusedSimpArgs false
namespace Go.Proofs.YtmghklokbmdenaaDoor
open Go.RowKit
set_option maxRecDepth 100000 in
set_option maxHeartbeats 8000000 in
theorem add_reg0 (g : Nat) (r : Pg.Rs) (S : Nat → Prop) (i : Sy.It) (ln : Nat) (w : World) (hS : RSet w g r S) (hlt : ∀ k, S k → k < w.heap.size) (ho : Sy.Ok i) (hk : i.kind = 4) (hd : i.ins.d = 0) :
    Calls Tryd.prog 14 #[.pointer (some ⟨g, 0, none⟩), ItV i, .int .i64 (ln : Int)] w (AddP g (Pg.add r i ln) S w) := by
  obtain ⟨b, vM, vL, vI, vA, h⟩ := hS
  obtain ⟨D, hm, hD⟩ := h.mid
  have hinv := h.inv
  have hm1 := hm.up (upA (up0 w) (.cells (ItC i) 55))
  have hbox : (w.alloc (.cells (ItC i) 55)).heap[w.heap.size]? = some (.cells (ItC i) 55 (0, 0)) := heap_alloc_new w _
  have hgw := h.glt
  have hBW : w.heap.size ≠ g := by omega
  obtain ⟨q0, q1, q2, q3, hr4⟩ := list4 hinv.r4
  have hadd : Pg.add r i ln = if r.begun = false ∧ r.p.regs.getD 0 0 = 0 then some ⟨{ r.p with regs := r.p.regs.set 0 (if i.secret then 2 else 1) }, r.begun, r.at_⟩ else none := by unfold Pg.add; simp only [hk, hd]; rfl
  obtain ⟨kd, n, sec, nm, ⟨ik, iop, id, ia, ib, inm, itg⟩⟩ := i
  simp only at hk hadd hd
  subst hk hd
  obtain ⟨lv, hlv⟩ : ∃ z : Int, (if sec = true then 2 else 1) = z := ⟨_, rfl⟩
  have hlv2 : lv = 1 ∨ lv = 2 := by cases sec <;> simp at hlv <;> omega
  rw [show (if sec = true then (2 : Int) else 1) = lv from hlv] at hadd
  have hfin := fun (e : Ending) (w' : World) (ht : TellP g 3 r.begun (r.p.regs.getD 0 0) lv 2 (w.alloc (.cells (ItC ⟨4, n, sec, nm, ⟨ik, iop, 0, ia, ib, inm, itg⟩⟩) 55)).drew e w') => tellP_add (x := r.p.regs.getD 0 0) { r.p with regs := r.p.regs.set 0 lv } (hm1.up (upD (up0 _) 1)) hD hlt rfl rfl rfl (by simp [HeadC, hr4]) (Pg.add r ⟨4, n, sec, nm, ⟨ik, iop, 0, ia, ib, inm, itg⟩⟩ ln)
    (fun hc => by have e1 := hadd; rw [if_pos ⟨hc.1, hc.2.1⟩] at e1; exact ⟨e1, Pg.add_inv hinv ho e1⟩) (fun hc => by rw [hadd, if_neg (fun h => hc ⟨h.1, h.2, by omega, by omega⟩)]) ht
  have hlev := fun w => level_any sec w
  rw [hlv] at hlev
  have htell := tell_any g 3 (w.alloc (.cells (ItC ⟨4, n, sec, nm, ⟨ik, iop, 0, ia, ib, inm, itg⟩⟩) 55)).drew r.begun (r.p.regs.getD 0 0) lv 2 (hm1.cell 12) (hm1.cell 3) (hm1.frz 3)
  have HFIN := Lib.hid hfin; have HT := Lib.hid htell; have HL := Lib.hid hlev
  clear hfin htell hm hm1 h hD hadd hinv ho hlt hlev hr4 hlv hlv2
  go_enter Tryd.func14, Tryd.ntmps14
  go_wp2_with fail
  generalize w.alloc (.cells (ItC ⟨4, n, sec, nm, ⟨ik, iop, 0, ia, ib, inm, itg⟩⟩) 55) = W1 at *
  refine wp_region_noPanic ?_
  refine wp_region_held_drew (S := fun w' => w'.cell? ⟨w.heap.size, 6, none⟩ = some (.int .i64 0) ∧ w'.cell? ⟨w.heap.size, 2, none⟩ = some (.bool sec)) (by kernel_rfl) ?_ (fun hHeld => ?_)
  · exact ⟨row_cells hbox 6 rfl, row_cells hbox 2 rfl⟩
  refine wpAnyH_take (i := 0) (oi := _) (v := ?_) rfl (by kernel_rfl) (by kernel_rfl) (by kernel_rfl) (fun _ _ _ h => h) (Or.inl ⟨by kernel_rfl, ?_⟩) (by assumption) ?_
  rotate_left
  · (intro w hSw; (try dsimp only at hSw); go_simp; try (with_reducible rfl))
  (try simp only [List.getElem_toArray, List.getElem_cons_succ, List.getElem_cons_zero, Act.put, List.setIfInBounds_toArray, List.set_cons_zero, List.set_cons_succ])
  refine wpAnyH_take (i := 1) (oi := _) (v := ?_) rfl (by kernel_rfl) (by kernel_rfl) (by kernel_rfl) (fun _ _ _ h => h) (Or.inl ⟨by kernel_rfl, ?_⟩) (by assumption) ?_
  rotate_left
  · (intro w hSw; (try dsimp only at hSw); go_simp; try (with_reducible rfl))
  (try simp only [List.getElem_toArray, List.getElem_cons_succ, List.getElem_cons_zero, Act.put, List.setIfInBounds_toArray, List.set_cons_zero, List.set_cons_succ])
  refine wpAnyH_take (i := 2) (oi := _) (v := ?_) rfl (by kernel_rfl) (by kernel_rfl) (by kernel_rfl) (fun _ _ _ h => h) (Or.inl ⟨by kernel_rfl, ?_⟩) (by assumption) ?_
  rotate_left
  · (intro w hSw; (try dsimp only at hSw); go_simp; try (with_reducible rfl))
  (try simp only [List.getElem_toArray, List.getElem_cons_succ, List.getElem_cons_zero, Act.put, List.setIfInBounds_toArray, List.set_cons_zero, List.set_cons_succ])
  refine wpAnyH_take (i := 3) (oi := _) (v := ?_) rfl (by kernel_rfl) (by kernel_rfl) (by kernel_rfl) (fun _ _ _ h => h) (Or.inl ⟨by kernel_rfl, ?_⟩) (by assumption) ?_
  rotate_left
  · (intro w hSw; (try dsimp only at hSw); go_simp; try (with_reducible rfl))
  (try simp only [List.getElem_toArray, List.getElem_cons_succ, List.getElem_cons_zero, Act.put, List.setIfInBounds_toArray, List.set_cons_zero, List.set_cons_succ])
  refine wpAnyH_take (i := 4) (oi := _) (v := ?_) rfl (by kernel_rfl) (by kernel_rfl) (by kernel_rfl) (fun _ _ _ h => h) (Or.inl ⟨by kernel_rfl, ?_⟩) (by assumption) ?_
  rotate_left
  · (intro w hSw; (try dsimp only at hSw); go_simp; try (with_reducible rfl))
  (try simp only [List.getElem_toArray, List.getElem_cons_succ, List.getElem_cons_zero, Act.put, List.setIfInBounds_toArray, List.set_cons_zero, List.set_cons_succ])
  refine wpAnyH_take (i := 5) (oi := _) (v := ?_) rfl (by kernel_rfl) (by kernel_rfl) (by kernel_rfl) (fun _ _ _ h => h) (Or.inl ⟨by kernel_rfl, ?_⟩) (by assumption) ?_
  rotate_left
  · (intro w hSw; (try dsimp only at hSw); go_simp; try (with_reducible rfl))
  (try simp only [List.getElem_toArray, List.getElem_cons_succ, List.getElem_cons_zero, Act.put, List.setIfInBounds_toArray, List.set_cons_zero, List.set_cons_succ])
  refine wpAnyH_take (i := 6) (oi := _) (v := ?_) rfl (by kernel_rfl) (by kernel_rfl) (by kernel_rfl) (fun _ _ _ h => h) (Or.inl ⟨by kernel_rfl, ?_⟩) (by assumption) ?_
  rotate_left
  · (intro w hSw; (try dsimp only at hSw); go_simp; try (with_reducible rfl))
  (try simp only [List.getElem_toArray, List.getElem_cons_succ, List.getElem_cons_zero, Act.put, List.setIfInBounds_toArray, List.set_cons_zero, List.set_cons_succ])
  refine wpAnyH_take (i := 7) (oi := _) (v := ?_) rfl (by kernel_rfl) (by kernel_rfl) (by kernel_rfl) (fun _ _ _ h => h) (Or.inl ⟨by kernel_rfl, ?_⟩) (by assumption) ?_
  rotate_left
  · (intro w hSw; (try dsimp only at hSw); go_simp; try (with_reducible rfl))
  (try simp only [List.getElem_toArray, List.getElem_cons_succ, List.getElem_cons_zero, Act.put, List.setIfInBounds_toArray, List.set_cons_zero, List.set_cons_succ])
  refine wpAnyH_take (i := 8) (oi := _) (v := ?_) rfl (by kernel_rfl) (by kernel_rfl) (by kernel_rfl) (fun _ _ _ h => h) (Or.inl ⟨by kernel_rfl, ?_⟩) (by assumption) ?_
  rotate_left
  · (intro w hSw; (try dsimp only at hSw); go_simp; try (with_reducible rfl))
  (try simp only [List.getElem_toArray, List.getElem_cons_succ, List.getElem_cons_zero, Act.put, List.setIfInBounds_toArray, List.set_cons_zero, List.set_cons_succ])
  refine wpAnyH_take (i := 9) (oi := _) (v := ?_) rfl (by kernel_rfl) (by kernel_rfl) (by kernel_rfl) (fun _ _ _ h => h) (Or.inl ⟨by kernel_rfl, ?_⟩) (by assumption) ?_
  rotate_left
  · (intro w hSw; (try dsimp only at hSw); go_simp; try (with_reducible rfl))
  (try simp only [List.getElem_toArray, List.getElem_cons_succ, List.getElem_cons_zero, Act.put, List.setIfInBounds_toArray, List.set_cons_zero, List.set_cons_succ])
  refine wpAnyH_take (i := 10) (oi := _) (v := ?_) rfl (by kernel_rfl) (by kernel_rfl) (by kernel_rfl) (fun _ _ _ h => h) (Or.inl ⟨by kernel_rfl, ?_⟩) (by assumption) ?_
  rotate_left
  · (intro w hSw; (try dsimp only at hSw); go_simp; try (with_reducible rfl))
  (try simp only [List.getElem_toArray, List.getElem_cons_succ, List.getElem_cons_zero, Act.put, List.setIfInBounds_toArray, List.set_cons_zero, List.set_cons_succ])
  refine wpAnyH_ready (rs := [11]) (by kernel_rfl) (by simp) ?_
  refine AllReadyH.cons (o := _) rfl (fun K hK => ?_) AllReadyH.nil
  go_simp
  go_at_call 26
  refine (HL.out _).mono ?_
  rintro e w4 ⟨rfl, rfl⟩
  first | refine hK.out _ _ ?_ (fun hHeld => ?_) | (go_wp2_with fail; refine hK.out _ _ ?_ (fun hHeld => ?_))
  · exact ⟨row_cells hbox 6 rfl, row_cells hbox 2 rfl⟩
  clear hK K
  (try simp only [List.getElem_toArray, List.getElem_cons_succ, List.getElem_cons_zero, Act.put, List.setIfInBounds_toArray, List.set_cons_zero, List.set_cons_succ])
  refine wpAnyH_ready (rs := [12]) (by kernel_rfl) (by simp) ?_
  refine AllReadyH.cons (o := _) rfl (fun K hK => ?_) AllReadyH.nil
  go_simp
  go_at_call 25
  refine HT.out.mono ?_
  intro e w4 hp4
  obtain ⟨bv, rfl, hfr, ht⟩ := hp4.sl
  clear hp4
  have HTT := Lib.hid ht
  clear ht
  first | refine hK.out _ _ ?_ (fun hHeld => ?_) | (go_wp2_with fail; refine hK.out _ _ ?_ (fun hHeld => ?_))
  · exact ⟨hfr.cell (p := ⟨w.heap.size, 6, none⟩) (row_cells hbox 6 rfl) hBW, hfr.cell (p := ⟨w.heap.size, 2, none⟩) (row_cells hbox 2 rfl) hBW⟩
  clear hK K
  (try simp only [List.getElem_toArray, List.getElem_cons_succ, List.getElem_cons_zero, Act.put, List.setIfInBounds_toArray, List.set_cons_zero, List.set_cons_succ])
  refine wpAnyH_take (i := 13) (oi := _) (v := ?_) rfl (by kernel_rfl) (by kernel_rfl) (by kernel_rfl) (fun _ _ _ h => h) (Or.inl ⟨by kernel_rfl, ?_⟩) (by assumption) ?_
  rotate_left
  · (intro w hSw; (try dsimp only at hSw); go_simp; try (with_reducible rfl))
  (try simp only [List.getElem_toArray, List.getElem_cons_succ, List.getElem_cons_zero, Act.put, List.setIfInBounds_toArray, List.set_cons_zero, List.set_cons_succ])
  refine wpAnyH_done (by kernel_rfl) ?_ _
  refine NoPanic.normal ?_
  (try go_simp)
  go_wp2_with fail
  go_ret
  exact HFIN.out _ _ HTT.out
set_option maxRecDepth 100000 in
set_option maxHeartbeats 8000000 in
theorem add_reg1 (g : Nat) (r : Pg.Rs) (S : Nat → Prop) (i : Sy.It) (ln : Nat) (w : World) (hS : RSet w g r S) (hlt : ∀ k, S k → k < w.heap.size) (ho : Sy.Ok i) (hk : i.kind = 4) (hd : i.ins.d = 1) :
    Calls Tryd.prog 14 #[.pointer (some ⟨g, 0, none⟩), ItV i, .int .i64 (ln : Int)] w (AddP g (Pg.add r i ln) S w) := by
  obtain ⟨b, vM, vL, vI, vA, h⟩ := hS
  obtain ⟨D, hm, hD⟩ := h.mid
  have hinv := h.inv
  have hm1 := hm.up (upA (up0 w) (.cells (ItC i) 55))
  have hbox : (w.alloc (.cells (ItC i) 55)).heap[w.heap.size]? = some (.cells (ItC i) 55 (0, 0)) := heap_alloc_new w _
  have hgw := h.glt
  have hBW : w.heap.size ≠ g := by omega
  obtain ⟨q0, q1, q2, q3, hr4⟩ := list4 hinv.r4
  have hadd : Pg.add r i ln = if r.begun = false ∧ r.p.regs.getD 1 0 = 0 then some ⟨{ r.p with regs := r.p.regs.set 1 (if i.secret then 2 else 1) }, r.begun, r.at_⟩ else none := by unfold Pg.add; simp only [hk, hd]; rfl
  obtain ⟨kd, n, sec, nm, ⟨ik, iop, id, ia, ib, inm, itg⟩⟩ := i
  simp only at hk hadd hd
  subst hk hd
  obtain ⟨lv, hlv⟩ : ∃ z : Int, (if sec = true then 2 else 1) = z := ⟨_, rfl⟩
  have hlv2 : lv = 1 ∨ lv = 2 := by cases sec <;> simp at hlv <;> omega
  rw [show (if sec = true then (2 : Int) else 1) = lv from hlv] at hadd
  have hfin := fun (e : Ending) (w' : World) (ht : TellP g 4 r.begun (r.p.regs.getD 1 0) lv 2 (w.alloc (.cells (ItC ⟨4, n, sec, nm, ⟨ik, iop, 1, ia, ib, inm, itg⟩⟩) 55)).drew e w') => tellP_add (x := r.p.regs.getD 1 0) { r.p with regs := r.p.regs.set 1 lv } (hm1.up (upD (up0 _) 1)) hD hlt rfl rfl rfl (by simp [HeadC, hr4]) (Pg.add r ⟨4, n, sec, nm, ⟨ik, iop, 1, ia, ib, inm, itg⟩⟩ ln)
    (fun hc => by have e1 := hadd; rw [if_pos ⟨hc.1, hc.2.1⟩] at e1; exact ⟨e1, Pg.add_inv hinv ho e1⟩) (fun hc => by rw [hadd, if_neg (fun h => hc ⟨h.1, h.2, by omega, by omega⟩)]) ht
  have hlev := fun w => level_any sec w
  rw [hlv] at hlev
  have htell := tell_any g 4 (w.alloc (.cells (ItC ⟨4, n, sec, nm, ⟨ik, iop, 1, ia, ib, inm, itg⟩⟩) 55)).drew r.begun (r.p.regs.getD 1 0) lv 2 (hm1.cell 12) (hm1.cell 4) (hm1.frz 4)
  have HFIN := Lib.hid hfin; have HT := Lib.hid htell; have HL := Lib.hid hlev
  clear hfin htell hm hm1 h hD hadd hinv ho hlt hlev hr4 hlv hlv2
  go_enter Tryd.func14, Tryd.ntmps14
  go_wp2_with fail
  generalize w.alloc (.cells (ItC ⟨4, n, sec, nm, ⟨ik, iop, 1, ia, ib, inm, itg⟩⟩) 55) = W1 at *
  refine wp_region_noPanic ?_
  refine wp_region_held_drew (S := fun w' => w'.cell? ⟨w.heap.size, 6, none⟩ = some (.int .i64 1) ∧ w'.cell? ⟨w.heap.size, 2, none⟩ = some (.bool sec)) (by kernel_rfl) ?_ (fun hHeld => ?_)
  · exact ⟨row_cells hbox 6 rfl, row_cells hbox 2 rfl⟩
  refine wpAnyH_take (i := 0) (oi := _) (v := ?_) rfl (by kernel_rfl) (by kernel_rfl) (by kernel_rfl) (fun _ _ _ h => h) (Or.inl ⟨by kernel_rfl, ?_⟩) (by assumption) ?_
  rotate_left
  · (intro w hSw; (try dsimp only at hSw); go_simp; try (with_reducible rfl))
  (try simp only [List.getElem_toArray, List.getElem_cons_succ, List.getElem_cons_zero, Act.put, List.setIfInBounds_toArray, List.set_cons_zero, List.set_cons_succ])
  refine wpAnyH_take (i := 1) (oi := _) (v := ?_) rfl (by kernel_rfl) (by kernel_rfl) (by kernel_rfl) (fun _ _ _ h => h) (Or.inl ⟨by kernel_rfl, ?_⟩) (by assumption) ?_
  rotate_left
  · (intro w hSw; (try dsimp only at hSw); go_simp; try (with_reducible rfl))
  (try simp only [List.getElem_toArray, List.getElem_cons_succ, List.getElem_cons_zero, Act.put, List.setIfInBounds_toArray, List.set_cons_zero, List.set_cons_succ])
  refine wpAnyH_take (i := 2) (oi := _) (v := ?_) rfl (by kernel_rfl) (by kernel_rfl) (by kernel_rfl) (fun _ _ _ h => h) (Or.inl ⟨by kernel_rfl, ?_⟩) (by assumption) ?_
  rotate_left
  · (intro w hSw; (try dsimp only at hSw); go_simp; try (with_reducible rfl))
  (try simp only [List.getElem_toArray, List.getElem_cons_succ, List.getElem_cons_zero, Act.put, List.setIfInBounds_toArray, List.set_cons_zero, List.set_cons_succ])
  refine wpAnyH_take (i := 3) (oi := _) (v := ?_) rfl (by kernel_rfl) (by kernel_rfl) (by kernel_rfl) (fun _ _ _ h => h) (Or.inl ⟨by kernel_rfl, ?_⟩) (by assumption) ?_
  rotate_left
  · (intro w hSw; (try dsimp only at hSw); go_simp; try (with_reducible rfl))
  (try simp only [List.getElem_toArray, List.getElem_cons_succ, List.getElem_cons_zero, Act.put, List.setIfInBounds_toArray, List.set_cons_zero, List.set_cons_succ])
  refine wpAnyH_take (i := 4) (oi := _) (v := ?_) rfl (by kernel_rfl) (by kernel_rfl) (by kernel_rfl) (fun _ _ _ h => h) (Or.inl ⟨by kernel_rfl, ?_⟩) (by assumption) ?_
  rotate_left
  · (intro w hSw; (try dsimp only at hSw); go_simp; try (with_reducible rfl))
  (try simp only [List.getElem_toArray, List.getElem_cons_succ, List.getElem_cons_zero, Act.put, List.setIfInBounds_toArray, List.set_cons_zero, List.set_cons_succ])
  refine wpAnyH_take (i := 5) (oi := _) (v := ?_) rfl (by kernel_rfl) (by kernel_rfl) (by kernel_rfl) (fun _ _ _ h => h) (Or.inl ⟨by kernel_rfl, ?_⟩) (by assumption) ?_
  rotate_left
  · (intro w hSw; (try dsimp only at hSw); go_simp; try (with_reducible rfl))
  (try simp only [List.getElem_toArray, List.getElem_cons_succ, List.getElem_cons_zero, Act.put, List.setIfInBounds_toArray, List.set_cons_zero, List.set_cons_succ])
  refine wpAnyH_take (i := 6) (oi := _) (v := ?_) rfl (by kernel_rfl) (by kernel_rfl) (by kernel_rfl) (fun _ _ _ h => h) (Or.inl ⟨by kernel_rfl, ?_⟩) (by assumption) ?_
  rotate_left
  · (intro w hSw; (try dsimp only at hSw); go_simp; try (with_reducible rfl))
  (try simp only [List.getElem_toArray, List.getElem_cons_succ, List.getElem_cons_zero, Act.put, List.setIfInBounds_toArray, List.set_cons_zero, List.set_cons_succ])
  refine wpAnyH_take (i := 7) (oi := _) (v := ?_) rfl (by kernel_rfl) (by kernel_rfl) (by kernel_rfl) (fun _ _ _ h => h) (Or.inl ⟨by kernel_rfl, ?_⟩) (by assumption) ?_
  rotate_left
  · (intro w hSw; (try dsimp only at hSw); go_simp; try (with_reducible rfl))
  (try simp only [List.getElem_toArray, List.getElem_cons_succ, List.getElem_cons_zero, Act.put, List.setIfInBounds_toArray, List.set_cons_zero, List.set_cons_succ])
  refine wpAnyH_take (i := 8) (oi := _) (v := ?_) rfl (by kernel_rfl) (by kernel_rfl) (by kernel_rfl) (fun _ _ _ h => h) (Or.inl ⟨by kernel_rfl, ?_⟩) (by assumption) ?_
  rotate_left
  · (intro w hSw; (try dsimp only at hSw); go_simp; try (with_reducible rfl))
  (try simp only [List.getElem_toArray, List.getElem_cons_succ, List.getElem_cons_zero, Act.put, List.setIfInBounds_toArray, List.set_cons_zero, List.set_cons_succ])
  refine wpAnyH_take (i := 9) (oi := _) (v := ?_) rfl (by kernel_rfl) (by kernel_rfl) (by kernel_rfl) (fun _ _ _ h => h) (Or.inl ⟨by kernel_rfl, ?_⟩) (by assumption) ?_
  rotate_left
  · (intro w hSw; (try dsimp only at hSw); go_simp; try (with_reducible rfl))
  (try simp only [List.getElem_toArray, List.getElem_cons_succ, List.getElem_cons_zero, Act.put, List.setIfInBounds_toArray, List.set_cons_zero, List.set_cons_succ])
  refine wpAnyH_take (i := 10) (oi := _) (v := ?_) rfl (by kernel_rfl) (by kernel_rfl) (by kernel_rfl) (fun _ _ _ h => h) (Or.inl ⟨by kernel_rfl, ?_⟩) (by assumption) ?_
  rotate_left
  · (intro w hSw; (try dsimp only at hSw); go_simp; try (with_reducible rfl))
  (try simp only [List.getElem_toArray, List.getElem_cons_succ, List.getElem_cons_zero, Act.put, List.setIfInBounds_toArray, List.set_cons_zero, List.set_cons_succ])
  refine wpAnyH_ready (rs := [11]) (by kernel_rfl) (by simp) ?_
  refine AllReadyH.cons (o := _) rfl (fun K hK => ?_) AllReadyH.nil
  go_simp
  go_at_call 26
  refine (HL.out _).mono ?_
  rintro e w4 ⟨rfl, rfl⟩
  first | refine hK.out _ _ ?_ (fun hHeld => ?_) | (go_wp2_with fail; refine hK.out _ _ ?_ (fun hHeld => ?_))
  · exact ⟨row_cells hbox 6 rfl, row_cells hbox 2 rfl⟩
  clear hK K
  (try simp only [List.getElem_toArray, List.getElem_cons_succ, List.getElem_cons_zero, Act.put, List.setIfInBounds_toArray, List.set_cons_zero, List.set_cons_succ])
  refine wpAnyH_ready (rs := [12]) (by kernel_rfl) (by simp) ?_
  refine AllReadyH.cons (o := _) rfl (fun K hK => ?_) AllReadyH.nil
  go_simp
  go_at_call 25
  refine HT.out.mono ?_
  intro e w4 hp4
  obtain ⟨bv, rfl, hfr, ht⟩ := hp4.sl
  clear hp4
  have HTT := Lib.hid ht
  clear ht
  first | refine hK.out _ _ ?_ (fun hHeld => ?_) | (go_wp2_with fail; refine hK.out _ _ ?_ (fun hHeld => ?_))
  · exact ⟨hfr.cell (p := ⟨w.heap.size, 6, none⟩) (row_cells hbox 6 rfl) hBW, hfr.cell (p := ⟨w.heap.size, 2, none⟩) (row_cells hbox 2 rfl) hBW⟩
  clear hK K
  (try simp only [List.getElem_toArray, List.getElem_cons_succ, List.getElem_cons_zero, Act.put, List.setIfInBounds_toArray, List.set_cons_zero, List.set_cons_succ])
  refine wpAnyH_take (i := 13) (oi := _) (v := ?_) rfl (by kernel_rfl) (by kernel_rfl) (by kernel_rfl) (fun _ _ _ h => h) (Or.inl ⟨by kernel_rfl, ?_⟩) (by assumption) ?_
  rotate_left
  · (intro w hSw; (try dsimp only at hSw); go_simp; try (with_reducible rfl))
  (try simp only [List.getElem_toArray, List.getElem_cons_succ, List.getElem_cons_zero, Act.put, List.setIfInBounds_toArray, List.set_cons_zero, List.set_cons_succ])
  refine wpAnyH_done (by kernel_rfl) ?_ _
  refine NoPanic.normal ?_
  (try go_simp)
  go_wp2_with fail
  go_ret
  exact HFIN.out _ _ HTT.out
set_option maxRecDepth 100000 in
set_option maxHeartbeats 8000000 in
theorem add_reg2 (g : Nat) (r : Pg.Rs) (S : Nat → Prop) (i : Sy.It) (ln : Nat) (w : World) (hS : RSet w g r S) (hlt : ∀ k, S k → k < w.heap.size) (ho : Sy.Ok i) (hk : i.kind = 4) (hd : i.ins.d = 2) :
    Calls Tryd.prog 14 #[.pointer (some ⟨g, 0, none⟩), ItV i, .int .i64 (ln : Int)] w (AddP g (Pg.add r i ln) S w) := by
  obtain ⟨b, vM, vL, vI, vA, h⟩ := hS
  obtain ⟨D, hm, hD⟩ := h.mid
  have hinv := h.inv
  have hm1 := hm.up (upA (up0 w) (.cells (ItC i) 55))
  have hbox : (w.alloc (.cells (ItC i) 55)).heap[w.heap.size]? = some (.cells (ItC i) 55 (0, 0)) := heap_alloc_new w _
  have hgw := h.glt
  have hBW : w.heap.size ≠ g := by omega
  obtain ⟨q0, q1, q2, q3, hr4⟩ := list4 hinv.r4
  have hadd : Pg.add r i ln = if r.begun = false ∧ r.p.regs.getD 2 0 = 0 then some ⟨{ r.p with regs := r.p.regs.set 2 (if i.secret then 2 else 1) }, r.begun, r.at_⟩ else none := by unfold Pg.add; simp only [hk, hd]; rfl
  obtain ⟨kd, n, sec, nm, ⟨ik, iop, id, ia, ib, inm, itg⟩⟩ := i
  simp only at hk hadd hd
  subst hk hd
  obtain ⟨lv, hlv⟩ : ∃ z : Int, (if sec = true then 2 else 1) = z := ⟨_, rfl⟩
  have hlv2 : lv = 1 ∨ lv = 2 := by cases sec <;> simp at hlv <;> omega
  rw [show (if sec = true then (2 : Int) else 1) = lv from hlv] at hadd
  have hfin := fun (e : Ending) (w' : World) (ht : TellP g 5 r.begun (r.p.regs.getD 2 0) lv 2 (w.alloc (.cells (ItC ⟨4, n, sec, nm, ⟨ik, iop, 2, ia, ib, inm, itg⟩⟩) 55)).drew e w') => tellP_add (x := r.p.regs.getD 2 0) { r.p with regs := r.p.regs.set 2 lv } (hm1.up (upD (up0 _) 1)) hD hlt rfl rfl rfl (by simp [HeadC, hr4]) (Pg.add r ⟨4, n, sec, nm, ⟨ik, iop, 2, ia, ib, inm, itg⟩⟩ ln)
    (fun hc => by have e1 := hadd; rw [if_pos ⟨hc.1, hc.2.1⟩] at e1; exact ⟨e1, Pg.add_inv hinv ho e1⟩) (fun hc => by rw [hadd, if_neg (fun h => hc ⟨h.1, h.2, by omega, by omega⟩)]) ht
  have hlev := fun w => level_any sec w
  rw [hlv] at hlev
  have htell := tell_any g 5 (w.alloc (.cells (ItC ⟨4, n, sec, nm, ⟨ik, iop, 2, ia, ib, inm, itg⟩⟩) 55)).drew r.begun (r.p.regs.getD 2 0) lv 2 (hm1.cell 12) (hm1.cell 5) (hm1.frz 5)
  have HFIN := Lib.hid hfin; have HT := Lib.hid htell; have HL := Lib.hid hlev
  clear hfin htell hm hm1 h hD hadd hinv ho hlt hlev hr4 hlv hlv2
  go_enter Tryd.func14, Tryd.ntmps14
  go_wp2_with fail
  generalize w.alloc (.cells (ItC ⟨4, n, sec, nm, ⟨ik, iop, 2, ia, ib, inm, itg⟩⟩) 55) = W1 at *
  refine wp_region_noPanic ?_
  refine wp_region_held_drew (S := fun w' => w'.cell? ⟨w.heap.size, 6, none⟩ = some (.int .i64 2) ∧ w'.cell? ⟨w.heap.size, 2, none⟩ = some (.bool sec)) (by kernel_rfl) ?_ (fun hHeld => ?_)
  · exact ⟨row_cells hbox 6 rfl, row_cells hbox 2 rfl⟩
  refine wpAnyH_take (i := 0) (oi := _) (v := ?_) rfl (by kernel_rfl) (by kernel_rfl) (by kernel_rfl) (fun _ _ _ h => h) (Or.inl ⟨by kernel_rfl, ?_⟩) (by assumption) ?_
  rotate_left
  · (intro w hSw; (try dsimp only at hSw); go_simp; try (with_reducible rfl))
  (try simp only [List.getElem_toArray, List.getElem_cons_succ, List.getElem_cons_zero, Act.put, List.setIfInBounds_toArray, List.set_cons_zero, List.set_cons_succ])
  refine wpAnyH_take (i := 1) (oi := _) (v := ?_) rfl (by kernel_rfl) (by kernel_rfl) (by kernel_rfl) (fun _ _ _ h => h) (Or.inl ⟨by kernel_rfl, ?_⟩) (by assumption) ?_
  rotate_left
  · (intro w hSw; (try dsimp only at hSw); go_simp; try (with_reducible rfl))
  (try simp only [List.getElem_toArray, List.getElem_cons_succ, List.getElem_cons_zero, Act.put, List.setIfInBounds_toArray, List.set_cons_zero, List.set_cons_succ])
  refine wpAnyH_take (i := 2) (oi := _) (v := ?_) rfl (by kernel_rfl) (by kernel_rfl) (by kernel_rfl) (fun _ _ _ h => h) (Or.inl ⟨by kernel_rfl, ?_⟩) (by assumption) ?_
  rotate_left
  · (intro w hSw; (try dsimp only at hSw); go_simp; try (with_reducible rfl))
  (try simp only [List.getElem_toArray, List.getElem_cons_succ, List.getElem_cons_zero, Act.put, List.setIfInBounds_toArray, List.set_cons_zero, List.set_cons_succ])
  refine wpAnyH_take (i := 3) (oi := _) (v := ?_) rfl (by kernel_rfl) (by kernel_rfl) (by kernel_rfl) (fun _ _ _ h => h) (Or.inl ⟨by kernel_rfl, ?_⟩) (by assumption) ?_
  rotate_left
  · (intro w hSw; (try dsimp only at hSw); go_simp; try (with_reducible rfl))
  (try simp only [List.getElem_toArray, List.getElem_cons_succ, List.getElem_cons_zero, Act.put, List.setIfInBounds_toArray, List.set_cons_zero, List.set_cons_succ])
  refine wpAnyH_take (i := 4) (oi := _) (v := ?_) rfl (by kernel_rfl) (by kernel_rfl) (by kernel_rfl) (fun _ _ _ h => h) (Or.inl ⟨by kernel_rfl, ?_⟩) (by assumption) ?_
  rotate_left
  · (intro w hSw; (try dsimp only at hSw); go_simp; try (with_reducible rfl))
  (try simp only [List.getElem_toArray, List.getElem_cons_succ, List.getElem_cons_zero, Act.put, List.setIfInBounds_toArray, List.set_cons_zero, List.set_cons_succ])
  refine wpAnyH_take (i := 5) (oi := _) (v := ?_) rfl (by kernel_rfl) (by kernel_rfl) (by kernel_rfl) (fun _ _ _ h => h) (Or.inl ⟨by kernel_rfl, ?_⟩) (by assumption) ?_
  rotate_left
  · (intro w hSw; (try dsimp only at hSw); go_simp; try (with_reducible rfl))
  (try simp only [List.getElem_toArray, List.getElem_cons_succ, List.getElem_cons_zero, Act.put, List.setIfInBounds_toArray, List.set_cons_zero, List.set_cons_succ])
  refine wpAnyH_take (i := 6) (oi := _) (v := ?_) rfl (by kernel_rfl) (by kernel_rfl) (by kernel_rfl) (fun _ _ _ h => h) (Or.inl ⟨by kernel_rfl, ?_⟩) (by assumption) ?_
  rotate_left
  · (intro w hSw; (try dsimp only at hSw); go_simp; try (with_reducible rfl))
  (try simp only [List.getElem_toArray, List.getElem_cons_succ, List.getElem_cons_zero, Act.put, List.setIfInBounds_toArray, List.set_cons_zero, List.set_cons_succ])
  refine wpAnyH_take (i := 7) (oi := _) (v := ?_) rfl (by kernel_rfl) (by kernel_rfl) (by kernel_rfl) (fun _ _ _ h => h) (Or.inl ⟨by kernel_rfl, ?_⟩) (by assumption) ?_
  rotate_left
  · (intro w hSw; (try dsimp only at hSw); go_simp; try (with_reducible rfl))
  (try simp only [List.getElem_toArray, List.getElem_cons_succ, List.getElem_cons_zero, Act.put, List.setIfInBounds_toArray, List.set_cons_zero, List.set_cons_succ])
  refine wpAnyH_take (i := 8) (oi := _) (v := ?_) rfl (by kernel_rfl) (by kernel_rfl) (by kernel_rfl) (fun _ _ _ h => h) (Or.inl ⟨by kernel_rfl, ?_⟩) (by assumption) ?_
  rotate_left
  · (intro w hSw; (try dsimp only at hSw); go_simp; try (with_reducible rfl))
  (try simp only [List.getElem_toArray, List.getElem_cons_succ, List.getElem_cons_zero, Act.put, List.setIfInBounds_toArray, List.set_cons_zero, List.set_cons_succ])
  refine wpAnyH_take (i := 9) (oi := _) (v := ?_) rfl (by kernel_rfl) (by kernel_rfl) (by kernel_rfl) (fun _ _ _ h => h) (Or.inl ⟨by kernel_rfl, ?_⟩) (by assumption) ?_
  rotate_left
  · (intro w hSw; (try dsimp only at hSw); go_simp; try (with_reducible rfl))
  (try simp only [List.getElem_toArray, List.getElem_cons_succ, List.getElem_cons_zero, Act.put, List.setIfInBounds_toArray, List.set_cons_zero, List.set_cons_succ])
  refine wpAnyH_take (i := 10) (oi := _) (v := ?_) rfl (by kernel_rfl) (by kernel_rfl) (by kernel_rfl) (fun _ _ _ h => h) (Or.inl ⟨by kernel_rfl, ?_⟩) (by assumption) ?_
  rotate_left
  · (intro w hSw; (try dsimp only at hSw); go_simp; try (with_reducible rfl))
  (try simp only [List.getElem_toArray, List.getElem_cons_succ, List.getElem_cons_zero, Act.put, List.setIfInBounds_toArray, List.set_cons_zero, List.set_cons_succ])
  refine wpAnyH_ready (rs := [11]) (by kernel_rfl) (by simp) ?_
  refine AllReadyH.cons (o := _) rfl (fun K hK => ?_) AllReadyH.nil
  go_simp
  go_at_call 26
  refine (HL.out _).mono ?_
  rintro e w4 ⟨rfl, rfl⟩
  first | refine hK.out _ _ ?_ (fun hHeld => ?_) | (go_wp2_with fail; refine hK.out _ _ ?_ (fun hHeld => ?_))
  · exact ⟨row_cells hbox 6 rfl, row_cells hbox 2 rfl⟩
  clear hK K
  (try simp only [List.getElem_toArray, List.getElem_cons_succ, List.getElem_cons_zero, Act.put, List.setIfInBounds_toArray, List.set_cons_zero, List.set_cons_succ])
  refine wpAnyH_ready (rs := [12]) (by kernel_rfl) (by simp) ?_
  refine AllReadyH.cons (o := _) rfl (fun K hK => ?_) AllReadyH.nil
  go_simp
  go_at_call 25
  refine HT.out.mono ?_
  intro e w4 hp4
  obtain ⟨bv, rfl, hfr, ht⟩ := hp4.sl
  clear hp4
  have HTT := Lib.hid ht
  clear ht
  first | refine hK.out _ _ ?_ (fun hHeld => ?_) | (go_wp2_with fail; refine hK.out _ _ ?_ (fun hHeld => ?_))
  · exact ⟨hfr.cell (p := ⟨w.heap.size, 6, none⟩) (row_cells hbox 6 rfl) hBW, hfr.cell (p := ⟨w.heap.size, 2, none⟩) (row_cells hbox 2 rfl) hBW⟩
  clear hK K
  (try simp only [List.getElem_toArray, List.getElem_cons_succ, List.getElem_cons_zero, Act.put, List.setIfInBounds_toArray, List.set_cons_zero, List.set_cons_succ])
  refine wpAnyH_take (i := 13) (oi := _) (v := ?_) rfl (by kernel_rfl) (by kernel_rfl) (by kernel_rfl) (fun _ _ _ h => h) (Or.inl ⟨by kernel_rfl, ?_⟩) (by assumption) ?_
  rotate_left
  · (intro w hSw; (try dsimp only at hSw); go_simp; try (with_reducible rfl))
  (try simp only [List.getElem_toArray, List.getElem_cons_succ, List.getElem_cons_zero, Act.put, List.setIfInBounds_toArray, List.set_cons_zero, List.set_cons_succ])
  refine wpAnyH_done (by kernel_rfl) ?_ _
  refine NoPanic.normal ?_
  (try go_simp)
  go_wp2_with fail
  go_ret
  exact HFIN.out _ _ HTT.out
set_option maxRecDepth 100000 in
set_option maxHeartbeats 8000000 in
theorem add_reg3 (g : Nat) (r : Pg.Rs) (S : Nat → Prop) (i : Sy.It) (ln : Nat) (w : World) (hS : RSet w g r S) (hlt : ∀ k, S k → k < w.heap.size) (ho : Sy.Ok i) (hk : i.kind = 4) (hd : i.ins.d = 3) :
    Calls Tryd.prog 14 #[.pointer (some ⟨g, 0, none⟩), ItV i, .int .i64 (ln : Int)] w (AddP g (Pg.add r i ln) S w) := by
  obtain ⟨b, vM, vL, vI, vA, h⟩ := hS
  obtain ⟨D, hm, hD⟩ := h.mid
  have hinv := h.inv
  have hm1 := hm.up (upA (up0 w) (.cells (ItC i) 55))
  have hbox : (w.alloc (.cells (ItC i) 55)).heap[w.heap.size]? = some (.cells (ItC i) 55 (0, 0)) := heap_alloc_new w _
  have hgw := h.glt
  have hBW : w.heap.size ≠ g := by omega
  obtain ⟨q0, q1, q2, q3, hr4⟩ := list4 hinv.r4
  have hadd : Pg.add r i ln = if r.begun = false ∧ r.p.regs.getD 3 0 = 0 then some ⟨{ r.p with regs := r.p.regs.set 3 (if i.secret then 2 else 1) }, r.begun, r.at_⟩ else none := by unfold Pg.add; simp only [hk, hd]; rfl
  obtain ⟨kd, n, sec, nm, ⟨ik, iop, id, ia, ib, inm, itg⟩⟩ := i
  simp only at hk hadd hd
  subst hk hd
  obtain ⟨lv, hlv⟩ : ∃ z : Int, (if sec = true then 2 else 1) = z := ⟨_, rfl⟩
  have hlv2 : lv = 1 ∨ lv = 2 := by cases sec <;> simp at hlv <;> omega
  rw [show (if sec = true then (2 : Int) else 1) = lv from hlv] at hadd
  have hfin := fun (e : Ending) (w' : World) (ht : TellP g 6 r.begun (r.p.regs.getD 3 0) lv 2 (w.alloc (.cells (ItC ⟨4, n, sec, nm, ⟨ik, iop, 3, ia, ib, inm, itg⟩⟩) 55)).drew e w') => tellP_add (x := r.p.regs.getD 3 0) { r.p with regs := r.p.regs.set 3 lv } (hm1.up (upD (up0 _) 1)) hD hlt rfl rfl rfl (by simp [HeadC, hr4]) (Pg.add r ⟨4, n, sec, nm, ⟨ik, iop, 3, ia, ib, inm, itg⟩⟩ ln)
    (fun hc => by have e1 := hadd; rw [if_pos ⟨hc.1, hc.2.1⟩] at e1; exact ⟨e1, Pg.add_inv hinv ho e1⟩) (fun hc => by rw [hadd, if_neg (fun h => hc ⟨h.1, h.2, by omega, by omega⟩)]) ht
  have hlev := fun w => level_any sec w
  rw [hlv] at hlev
  have htell := tell_any g 6 (w.alloc (.cells (ItC ⟨4, n, sec, nm, ⟨ik, iop, 3, ia, ib, inm, itg⟩⟩) 55)).drew r.begun (r.p.regs.getD 3 0) lv 2 (hm1.cell 12) (hm1.cell 6) (hm1.frz 6)
  have HFIN := Lib.hid hfin; have HT := Lib.hid htell; have HL := Lib.hid hlev
  clear hfin htell hm hm1 h hD hadd hinv ho hlt hlev hr4 hlv hlv2
  go_enter Tryd.func14, Tryd.ntmps14
  go_wp2_with fail
  generalize w.alloc (.cells (ItC ⟨4, n, sec, nm, ⟨ik, iop, 3, ia, ib, inm, itg⟩⟩) 55) = W1 at *
  refine wp_region_noPanic ?_
  refine wp_region_held_drew (S := fun w' => w'.cell? ⟨w.heap.size, 6, none⟩ = some (.int .i64 3) ∧ w'.cell? ⟨w.heap.size, 2, none⟩ = some (.bool sec)) (by kernel_rfl) ?_ (fun hHeld => ?_)
  · exact ⟨row_cells hbox 6 rfl, row_cells hbox 2 rfl⟩
  refine wpAnyH_take (i := 0) (oi := _) (v := ?_) rfl (by kernel_rfl) (by kernel_rfl) (by kernel_rfl) (fun _ _ _ h => h) (Or.inl ⟨by kernel_rfl, ?_⟩) (by assumption) ?_
  rotate_left
  · (intro w hSw; (try dsimp only at hSw); go_simp; try (with_reducible rfl))
  (try simp only [List.getElem_toArray, List.getElem_cons_succ, List.getElem_cons_zero, Act.put, List.setIfInBounds_toArray, List.set_cons_zero, List.set_cons_succ])
  refine wpAnyH_take (i := 1) (oi := _) (v := ?_) rfl (by kernel_rfl) (by kernel_rfl) (by kernel_rfl) (fun _ _ _ h => h) (Or.inl ⟨by kernel_rfl, ?_⟩) (by assumption) ?_
  rotate_left
  · (intro w hSw; (try dsimp only at hSw); go_simp; try (with_reducible rfl))
  (try simp only [List.getElem_toArray, List.getElem_cons_succ, List.getElem_cons_zero, Act.put, List.setIfInBounds_toArray, List.set_cons_zero, List.set_cons_succ])
  refine wpAnyH_take (i := 2) (oi := _) (v := ?_) rfl (by kernel_rfl) (by kernel_rfl) (by kernel_rfl) (fun _ _ _ h => h) (Or.inl ⟨by kernel_rfl, ?_⟩) (by assumption) ?_
  rotate_left
  · (intro w hSw; (try dsimp only at hSw); go_simp; try (with_reducible rfl))
  (try simp only [List.getElem_toArray, List.getElem_cons_succ, List.getElem_cons_zero, Act.put, List.setIfInBounds_toArray, List.set_cons_zero, List.set_cons_succ])
  refine wpAnyH_take (i := 3) (oi := _) (v := ?_) rfl (by kernel_rfl) (by kernel_rfl) (by kernel_rfl) (fun _ _ _ h => h) (Or.inl ⟨by kernel_rfl, ?_⟩) (by assumption) ?_
  rotate_left
  · (intro w hSw; (try dsimp only at hSw); go_simp; try (with_reducible rfl))
  (try simp only [List.getElem_toArray, List.getElem_cons_succ, List.getElem_cons_zero, Act.put, List.setIfInBounds_toArray, List.set_cons_zero, List.set_cons_succ])
  refine wpAnyH_take (i := 4) (oi := _) (v := ?_) rfl (by kernel_rfl) (by kernel_rfl) (by kernel_rfl) (fun _ _ _ h => h) (Or.inl ⟨by kernel_rfl, ?_⟩) (by assumption) ?_
  rotate_left
  · (intro w hSw; (try dsimp only at hSw); go_simp; try (with_reducible rfl))
  (try simp only [List.getElem_toArray, List.getElem_cons_succ, List.getElem_cons_zero, Act.put, List.setIfInBounds_toArray, List.set_cons_zero, List.set_cons_succ])
  refine wpAnyH_take (i := 5) (oi := _) (v := ?_) rfl (by kernel_rfl) (by kernel_rfl) (by kernel_rfl) (fun _ _ _ h => h) (Or.inl ⟨by kernel_rfl, ?_⟩) (by assumption) ?_
  rotate_left
  · (intro w hSw; (try dsimp only at hSw); go_simp; try (with_reducible rfl))
  (try simp only [List.getElem_toArray, List.getElem_cons_succ, List.getElem_cons_zero, Act.put, List.setIfInBounds_toArray, List.set_cons_zero, List.set_cons_succ])
  refine wpAnyH_take (i := 6) (oi := _) (v := ?_) rfl (by kernel_rfl) (by kernel_rfl) (by kernel_rfl) (fun _ _ _ h => h) (Or.inl ⟨by kernel_rfl, ?_⟩) (by assumption) ?_
  rotate_left
  · (intro w hSw; (try dsimp only at hSw); go_simp; try (with_reducible rfl))
  (try simp only [List.getElem_toArray, List.getElem_cons_succ, List.getElem_cons_zero, Act.put, List.setIfInBounds_toArray, List.set_cons_zero, List.set_cons_succ])
  refine wpAnyH_take (i := 7) (oi := _) (v := ?_) rfl (by kernel_rfl) (by kernel_rfl) (by kernel_rfl) (fun _ _ _ h => h) (Or.inl ⟨by kernel_rfl, ?_⟩) (by assumption) ?_
  rotate_left
  · (intro w hSw; (try dsimp only at hSw); go_simp; try (with_reducible rfl))
  (try simp only [List.getElem_toArray, List.getElem_cons_succ, List.getElem_cons_zero, Act.put, List.setIfInBounds_toArray, List.set_cons_zero, List.set_cons_succ])
  refine wpAnyH_take (i := 8) (oi := _) (v := ?_) rfl (by kernel_rfl) (by kernel_rfl) (by kernel_rfl) (fun _ _ _ h => h) (Or.inl ⟨by kernel_rfl, ?_⟩) (by assumption) ?_
  rotate_left
  · (intro w hSw; (try dsimp only at hSw); go_simp; try (with_reducible rfl))
  (try simp only [List.getElem_toArray, List.getElem_cons_succ, List.getElem_cons_zero, Act.put, List.setIfInBounds_toArray, List.set_cons_zero, List.set_cons_succ])
  refine wpAnyH_take (i := 9) (oi := _) (v := ?_) rfl (by kernel_rfl) (by kernel_rfl) (by kernel_rfl) (fun _ _ _ h => h) (Or.inl ⟨by kernel_rfl, ?_⟩) (by assumption) ?_
  rotate_left
  · (intro w hSw; (try dsimp only at hSw); go_simp; try (with_reducible rfl))
  (try simp only [List.getElem_toArray, List.getElem_cons_succ, List.getElem_cons_zero, Act.put, List.setIfInBounds_toArray, List.set_cons_zero, List.set_cons_succ])
  refine wpAnyH_take (i := 10) (oi := _) (v := ?_) rfl (by kernel_rfl) (by kernel_rfl) (by kernel_rfl) (fun _ _ _ h => h) (Or.inl ⟨by kernel_rfl, ?_⟩) (by assumption) ?_
  rotate_left
  · (intro w hSw; (try dsimp only at hSw); go_simp; try (with_reducible rfl))
  (try simp only [List.getElem_toArray, List.getElem_cons_succ, List.getElem_cons_zero, Act.put, List.setIfInBounds_toArray, List.set_cons_zero, List.set_cons_succ])
  refine wpAnyH_ready (rs := [11]) (by kernel_rfl) (by simp) ?_
  refine AllReadyH.cons (o := _) rfl (fun K hK => ?_) AllReadyH.nil
  go_simp
  go_at_call 26
  refine (HL.out _).mono ?_
  rintro e w4 ⟨rfl, rfl⟩
  first | refine hK.out _ _ ?_ (fun hHeld => ?_) | (go_wp2_with fail; refine hK.out _ _ ?_ (fun hHeld => ?_))
  · exact ⟨row_cells hbox 6 rfl, row_cells hbox 2 rfl⟩
  clear hK K
  (try simp only [List.getElem_toArray, List.getElem_cons_succ, List.getElem_cons_zero, Act.put, List.setIfInBounds_toArray, List.set_cons_zero, List.set_cons_succ])
  refine wpAnyH_ready (rs := [12]) (by kernel_rfl) (by simp) ?_
  refine AllReadyH.cons (o := _) rfl (fun K hK => ?_) AllReadyH.nil
  go_simp
  go_at_call 25
  refine HT.out.mono ?_
  intro e w4 hp4
  obtain ⟨bv, rfl, hfr, ht⟩ := hp4.sl
  clear hp4
  have HTT := Lib.hid ht
  clear ht
  first | refine hK.out _ _ ?_ (fun hHeld => ?_) | (go_wp2_with fail; refine hK.out _ _ ?_ (fun hHeld => ?_))
  · exact ⟨hfr.cell (p := ⟨w.heap.size, 6, none⟩) (row_cells hbox 6 rfl) hBW, hfr.cell (p := ⟨w.heap.size, 2, none⟩) (row_cells hbox 2 rfl) hBW⟩
  clear hK K
  (try simp only [List.getElem_toArray, List.getElem_cons_succ, List.getElem_cons_zero, Act.put, List.setIfInBounds_toArray, List.set_cons_zero, List.set_cons_succ])
  refine wpAnyH_take (i := 13) (oi := _) (v := ?_) rfl (by kernel_rfl) (by kernel_rfl) (by kernel_rfl) (fun _ _ _ h => h) (Or.inl ⟨by kernel_rfl, ?_⟩) (by assumption) ?_
  rotate_left
  · (intro w hSw; (try dsimp only at hSw); go_simp; try (with_reducible rfl))
  (try simp only [List.getElem_toArray, List.getElem_cons_succ, List.getElem_cons_zero, Act.put, List.setIfInBounds_toArray, List.set_cons_zero, List.set_cons_succ])
  refine wpAnyH_done (by kernel_rfl) ?_ _
  refine NoPanic.normal ?_
  (try go_simp)
  go_wp2_with fail
  go_ret
  exact HFIN.out _ _ HTT.out
theorem AddP.bool {g : Nat} {o : Option Pg.Rs} {S : Nat → Prop} {w : World} {e : Ending} {w' : World} (h : AddP g o S w e w') : ∃ bv, e = .returned (.bool bv) := by
  cases o with
  | none => exact ⟨_, h.1⟩
  | some r => exact ⟨_, h.1⟩
theorem AddP.from {g : Nat} {o : Option Pg.Rs} {S : Nat → Prop} {w w1 : World} {e : Ending} {w' : World} (hb : Below w.heap.size w w1) (h : AddP g o S w1 e w') : AddP g o S w e w' := by
  have hf : Fr S w w1 := Fr.of_below hb
  cases o with
  | none => exact ⟨h.1, hf.trans h.2 (fun x hx => .inl hx)⟩
  | some r =>
    obtain ⟨h1, S', h2, h3, h4⟩ := h
    exact ⟨h1, S', h2, hf.trans h3 (fun x hx => .inl hx), fun k hk => (h4 k hk).imp id (fun x => Nat.le_trans hb.size x)⟩
set_option maxRecDepth 100000 in
set_option maxHeartbeats 8000000 in
theorem add_k5 (g : Nat) (r : Pg.Rs) (S : Nat → Prop) (i : Sy.It) (ln : Nat) (w : World) (hS : RSet w g r S) (hlt : ∀ k, S k → k < w.heap.size) (ho : Sy.Ok i) (hk : i.kind = 5) (hl : i.name.length ≤ 1000000) (hcnt : r.p.mems.length + r.p.labels.length ≤ 2000000) (hln : ln ≤ 1000000) :
    Calls Tryd.prog 14 #[.pointer (some ⟨g, 0, none⟩), ItV i, .int .i64 (ln : Int)] w (AddP g (Pg.add r i ln) S w) := by
  have hS1 : RSet (w.alloc (.cells (ItC i) 55)) g r S := hS.up (upA (up0 w) _)
  have hlt1 : ∀ k, S k → k < (w.alloc (.cells (ItC i) 55)).heap.size := fun k hk => by have := hlt k hk; simp; omega
  have hinv : Pg.Inv r := by obtain ⟨b, vM, vL, vI, vA, h⟩ := hS; exact h.inv
  have hcall : Calls Tryd.prog 27 #[.pointer (some ⟨g, 0, none⟩), ItV i] (w.alloc (.cells (ItC i) 55)) (AddP g (Pg.add r i ln) S w) := by
    have hN : Sy.okN i.n ∧ Sy.okName i.name := by
      cases ho with
      | none => simp [Sy.t0] at hk
      | num a b c => simp at hk; omega
      | reg a => simp at hk
      | mem a b => exact ⟨b, a⟩
      | label a => simp at hk
      | ins a => simp at hk
    have hadd : Pg.add r i ln = if r.begun = false ∧ 1 ≤ i.n ∧ Pg.cells r.p.mems + i.n ≤ 16 ∧ Pg.cells r.p.mems + i.n ≤ Pg.size r.p.w ∧ Pg.known r.p i.name = false then some { r with p := { r.p with mems := r.p.mems ++ [⟨i.name, i.secret, i.n⟩] } } else none := by unfold Pg.add; simp only [hk]; rfl
    refine Calls.mono (R := AddP g (Pg.add r i ln) S (w.alloc (.cells (ItC i) 55))) ?_ (fun e w' h => h.from (upA (up0 w) _))
    rw [hadd]
    by_cases hb : r.begun = false
    · by_cases h1 : 1 ≤ i.n
      · by_cases h2 : Pg.cells r.p.mems + i.n ≤ 16 ∧ Pg.cells r.p.mems + i.n ≤ Pg.size r.p.w
        · by_cases h3 : Pg.known r.p i.name = false
          · rw [if_pos ⟨hb, h1, h2.1, h2.2, h3⟩]
            exact region_ok g r S i _ hS1 hlt1 hN.2 hN.1 hl hcnt ⟨hb, h1, h2.1, h2.2, h3⟩
          · rw [if_neg (fun h => h3 h.2.2.2.2)]
            exact region_told g r S i _ hS1 hN.1 hb h1 h2 (by simpa using h3) (okName_isB hN.2) hl hcnt
        · rw [if_neg (fun h => h2 ⟨h.2.2.1, h.2.2.2.1⟩)]
          exact region_large g r S i _ hS1 hN.1 hb h1 (by omega)
      · rw [if_neg (fun h => h1 h.2.1)]
        exact region_none g r S i _ hS1 hN.1 hb (by omega)
    · rw [if_neg (fun h => hb h.1)]
      exact region_late g r S i _ hS1 hN.1 (by simpa using hb)
  have HC := Lib.hid hcall
  clear hcall hS1 hlt1 hinv hS hlt ho
  obtain ⟨kd, n, sec, nm, ⟨ik, iop, id, ia, ib, inm, itg⟩⟩ := i
  simp only at hk
  subst hk
  (try simp only at HC)
  go_enter Tryd.func14, Tryd.ntmps14
  go_wp2_with (go_at_call 27; refine HC.out.mono ?_; intro e w4 hp4; obtain ⟨bv, rfl⟩ := hp4.bool; have HP := Lib.hid hp4; clear hp4)
  go_ret
  exact HP.out
set_option maxRecDepth 100000 in
set_option maxHeartbeats 8000000 in
theorem add_k6 (g : Nat) (r : Pg.Rs) (S : Nat → Prop) (i : Sy.It) (ln : Nat) (w : World) (hS : RSet w g r S) (hlt : ∀ k, S k → k < w.heap.size) (ho : Sy.Ok i) (hk : i.kind = 6) (hl : i.name.length ≤ 1000000) (hcnt : r.p.mems.length + r.p.labels.length ≤ 2000000) (hln : ln ≤ 1000000) :
    Calls Tryd.prog 14 #[.pointer (some ⟨g, 0, none⟩), ItV i, .int .i64 (ln : Int)] w (AddP g (Pg.add r i ln) S w) := by
  have hS1 : RSet (w.alloc (.cells (ItC i) 55)) g r S := hS.up (upA (up0 w) _)
  have hlt1 : ∀ k, S k → k < (w.alloc (.cells (ItC i) 55)).heap.size := fun k hk => by have := hlt k hk; simp; omega
  have hinv : Pg.Inv r := by obtain ⟨b, vM, vL, vI, vA, h⟩ := hS; exact h.inv
  have hcall : Calls Tryd.prog 28 #[.pointer (some ⟨g, 0, none⟩), .string (strOfNums i.name)] (w.alloc (.cells (ItC i) 55)) (AddP g (Pg.add r i ln) S w) := by
    have hN : Sy.okName i.name := by
      cases ho with
      | none => simp [Sy.t0] at hk
      | num a b c => simp at hk; omega
      | reg a => simp at hk
      | mem a b => simp at hk
      | label a => exact a
      | ins a => simp at hk
    have hadd : Pg.add r i ln = if Pg.known r.p i.name = false then some { r with p := { r.p with labels := r.p.labels ++ [⟨i.name, (r.p.ins.length : Int)⟩] }, begun := true } else none := by unfold Pg.add; simp only [hk]; rfl
    refine Calls.mono (R := AddP g (Pg.add r i ln) S (w.alloc (.cells (ItC i) 55))) ?_ (fun e w' h => h.from (upA (up0 w) _))
    rw [hadd]
    by_cases h3 : Pg.known r.p i.name = false
    · rw [if_pos h3]
      exact label_ok g r S i.name _ hS1 hlt1 hN hl hcnt h3
    · rw [if_neg h3]
      exact label_told g r S i.name _ hS1 (okName_isB hN) hl hcnt (by simpa using h3)
  have HC := Lib.hid hcall
  clear hcall hS1 hlt1 hinv hS hlt ho
  obtain ⟨kd, n, sec, nm, ⟨ik, iop, id, ia, ib, inm, itg⟩⟩ := i
  simp only at hk
  subst hk
  (try simp only at HC)
  go_enter Tryd.func14, Tryd.ntmps14
  go_wp2_with (go_at_call 28; refine HC.out.mono ?_; intro e w4 hp4; obtain ⟨bv, rfl⟩ := hp4.bool; have HP := Lib.hid hp4; clear hp4)
  go_ret
  exact HP.out
set_option maxRecDepth 100000 in
set_option maxHeartbeats 8000000 in
theorem add_k7 (g : Nat) (r : Pg.Rs) (S : Nat → Prop) (i : Sy.It) (ln : Nat) (w : World) (hS : RSet w g r S) (hlt : ∀ k, S k → k < w.heap.size) (ho : Sy.Ok i) (hk : i.kind = 7) (hl : i.name.length ≤ 1000000) (hcnt : r.p.mems.length + r.p.labels.length ≤ 2000000) (hln : ln ≤ 1000000) :
    Calls Tryd.prog 14 #[.pointer (some ⟨g, 0, none⟩), ItV i, .int .i64 (ln : Int)] w (AddP g (Pg.add r i ln) S w) := by
  have hS1 : RSet (w.alloc (.cells (ItC i) 55)) g r S := hS.up (upA (up0 w) _)
  have hlt1 : ∀ k, S k → k < (w.alloc (.cells (ItC i) 55)).heap.size := fun k hk => by have := hlt k hk; simp; omega
  have hinv : Pg.Inv r := by obtain ⟨b, vM, vL, vI, vA, h⟩ := hS; exact h.inv
  have hcall : Calls Tryd.prog 29 #[.pointer (some ⟨g, 0, none⟩), IV i.ins, .int .i64 (ln : Int)] (w.alloc (.cells (ItC i) 55)) (AddP g (Pg.add r i ln) S w) := by
    have hN : Sy.OkI i.ins := by
      cases ho with
      | none => simp [Sy.t0] at hk
      | num a b c => simp at hk; omega
      | reg a => simp at hk
      | mem a b => simp at hk
      | label a => simp at hk
      | ins a => exact a
    have hadd : Pg.add r i ln = if r.p.ins.length < 32 then some { p := { r.p with ins := r.p.ins ++ [i.ins] }, begun := true, at_ := r.at_ ++ [ln] } else none := by unfold Pg.add; simp only [hk]; rfl
    refine Calls.mono (R := AddP g (Pg.add r i ln) S (w.alloc (.cells (ItC i) 55))) ?_ (fun e w' h => h.from (upA (up0 w) _))
    rw [hadd]
    have hfew := hinv.few
    by_cases h3 : r.p.ins.length < 32
    · rw [if_pos h3]
      exact instr_ok g r S i.ins ln _ hS1 hlt1 h3 hN hln
    · rw [if_neg h3]
      exact instr_full g r S i.ins ln _ hS1 (by omega)
  have HC := Lib.hid hcall
  clear hcall hS1 hlt1 hinv hS hlt ho
  obtain ⟨kd, n, sec, nm, ⟨ik, iop, id, ia, ib, inm, itg⟩⟩ := i
  simp only at hk
  subst hk
  (try simp only at HC)
  go_enter Tryd.func14, Tryd.ntmps14
  go_wp2_with (go_at_call 29; refine HC.out.mono ?_; intro e w4 hp4; obtain ⟨bv, rfl⟩ := hp4.bool; have HP := Lib.hid hp4; clear hp4)
  go_ret
  exact HP.out
set_option maxRecDepth 100000 in
set_option maxHeartbeats 8000000 in
theorem add_k0 (g : Nat) (r : Pg.Rs) (S : Nat → Prop) (ln : Nat) (w : World) (hS : RSet w g r S) (hlt : ∀ k, S k → k < w.heap.size) :
    Calls Tryd.prog 14 #[.pointer (some ⟨g, 0, none⟩), ItV Sy.t0, .int .i64 (ln : Int)] w (AddP g (Pg.add r Sy.t0 ln) S w) := by
  have hadd : Pg.add r Sy.t0 ln = some r := rfl
  rw [hadd]
  have hS1 : RSet (w.alloc (.cells (ItC ⟨0, 0, false, [], ⟨0, 0, 0, ⟨false, 0⟩, ⟨false, 0⟩, [], 0⟩⟩) 55)) g r S := hS.up (upA (up0 w) _)
  have HS := Lib.hid hS1
  clear hS hS1 hadd
  show Calls Tryd.prog 14 #[.pointer (some ⟨g, 0, none⟩), ItV ⟨0, 0, false, [], ⟨0, 0, 0, ⟨false, 0⟩, ⟨false, 0⟩, [], 0⟩⟩, .int .i64 (ln : Int)] w _
  go_enter Tryd.func14, Tryd.ntmps14
  go_wp2_with fail
  go_ret
  exact ⟨rfl, S, HS.out, Fr.of_below (upA (up0 w) _), fun k hk => .inl hk⟩
/-- **add, at any item that a line tells** -/
theorem add_any (g : Nat) (r : Pg.Rs) (S : Nat → Prop) (i : Sy.It) (ln : Nat) (w : World) (hS : RSet w g r S) (hlt : ∀ k, S k → k < w.heap.size) (ho : Sy.Ok i) (hl : i.name.length ≤ 1000000) (hcnt : r.p.mems.length + r.p.labels.length ≤ 2000000) (hln : ln ≤ 1000000) :
    Calls Tryd.prog 14 #[.pointer (some ⟨g, 0, none⟩), ItV i, .int .i64 (ln : Int)] w (AddP g (Pg.add r i ln) S w) := by
  have ho' := ho
  cases ho with
  | none => exact add_k0 g r S ln w hS hlt
  | num a b c =>
    rename_i k n
    rcases (by omega : k = 1 ∨ k = 2 ∨ k = 3) with rfl | rfl | rfl
    · exact add_w g r S _ ln w hS hlt ho' rfl
    · exact add_win g r S _ ln w hS hlt ho' rfl
    · exact add_fuel g r S _ ln w hS hlt ho' rfl
  | reg a =>
    rename_i s d
    obtain ⟨a0, a1⟩ := a
    rcases (by omega : d = 0 ∨ d = 1 ∨ d = 2 ∨ d = 3) with rfl | rfl | rfl | rfl
    · exact add_reg0 g r S _ ln w hS hlt ho' rfl rfl
    · exact add_reg1 g r S _ ln w hS hlt ho' rfl rfl
    · exact add_reg2 g r S _ ln w hS hlt ho' rfl rfl
    · exact add_reg3 g r S _ ln w hS hlt ho' rfl rfl
  | mem a b => exact add_k5 g r S _ ln w hS hlt ho' rfl hl hcnt hln
  | label a => exact add_k6 g r S _ ln w hS hlt ho' rfl hl hcnt hln
  | ins a => exact add_k7 g r S _ ln w hS hlt ho' rfl hl hcnt hln
end Go.Proofs.YtmghklokbmdenaaDoor
