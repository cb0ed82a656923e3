/- The reader's add. -/
import Derived.Test.YtmghklokbmdenaaDoorPgReg2
set_option linter.unusedVariables false
set_option linter.unusedSimpArgs false
namespace Go.Proofs.YtmghklokbmdenaaDoor
open Go.RowKit
theorem TellP.sl {g j : Nat} {bg : Bool} {x n most : Int} {w : World} {e : Ending} {w' : World} (h : TellP g j bg x n most w e w') : ∃ bv, e = .returned (.bool bv) ∧ Fr (fun k => k = g) w w' ∧ TellP g j bg x n most w (.returned (.bool bv)) w' := by
  have h' := h
  unfold TellP at h
  split at h
  · obtain ⟨rfl, rfl⟩ := h
    exact ⟨true, rfl, Fr.setCell (p := ⟨g, j, none⟩) _, h'⟩
  · obtain ⟨rfl, rfl⟩ := h
    exact ⟨false, rfl, Fr.refl _ _, h'⟩
theorem AddP.drew {g : Nat} {o : Option Pg.Rs} {S : Nat → Prop} {w : World} {e : Ending} {w' : World} (h : AddP g o S w e w') : AddP g o S w e w'.drew := by
  cases o with
  | none => exact ⟨h.1, h.2.to_drew 1⟩
  | some r =>
    obtain ⟨h1, S', h2, h3, h4⟩ := h
    exact ⟨h1, S', h2.up (upD (up0 _) 1), h3.to_drew 1, h4⟩
theorem tellP_add {w0 W : World} {g b j : Nat} {S : Nat → Prop} {r : Pg.Rs} {D : DataW Unit} {vM vL vI vA : Value} {x n most : Int} {e : Ending} {w' : World} (p' : Pg.Pr)
    (h : RMid w0 W g b S r.p r.at_ (Pg.cells r.p.mems) r.begun (r.p.mems.length + r.p.labels.length) D vM vL vI vA) (hD : NmOk D r.p) (hS : ∀ k, S k → k < w0.heap.size)
    (hm : p'.mems = r.p.mems) (hl : p'.labels = r.p.labels) (hi : p'.ins = r.p.ins)
    (hc : (HeadC r.p vM vL vI (Pg.cells r.p.mems) b r.begun vA).setIfInBounds j (.int .i64 n) = HeadC p' vM vL vI (Pg.cells r.p.mems) b r.begun vA)
    (o : Option Pg.Rs) (h1 : (r.begun = false ∧ x = 0 ∧ 1 ≤ n ∧ n ≤ most) → o = some ⟨p', r.begun, r.at_⟩ ∧ Pg.Inv ⟨p', r.begun, r.at_⟩) (h0 : ¬ (r.begun = false ∧ x = 0 ∧ 1 ≤ n ∧ n ≤ most) → o = none)
    (ht : TellP g j r.begun x n most W e w') : AddP g o S w0 e w' := by
  unfold TellP at ht
  split at ht
  · rename_i hcond
    obtain ⟨rfl, rfl⟩ := ht
    obtain ⟨ho, hI⟩ := h1 hcond
    rw [ho]
    have h2 := h.put (p' := p') (n' := Pg.cells r.p.mems) (bg' := r.begun) hm hl hi (Fr.setCell (p := ⟨g, j, none⟩) (.int .i64 n)) (by rw [heap_setCell_same _ g j _ _ _ h.head, hc])
    exact h2.fin ⟨p', r.begun, r.at_⟩ rfl rfl (by rw [hm]) rfl (by rw [hm, hl]) (hD.same hm hl) hI hS
  · rename_i hcond
    obtain ⟨rfl, rfl⟩ := ht
    rw [h0 hcond]
    exact ⟨rfl, h.fr⟩
theorem list4 {α : Type} : ∀ {l : List α}, l.length = 4 → ∃ a b c d, l = [a, b, c, d]
  | [a, b, c, d], _ => ⟨a, b, c, d, rfl⟩
set_option maxRecDepth 100000 in
set_option maxHeartbeats 8000000 in
theorem add_w (g : Nat) (r : Pg.Rs) (S : Nat → Prop) (i : Sy.It) (ln : Nat) (w : World) (hS : RSet w g r S) (hlt : ∀ k, S k → k < w.heap.size) (ho : Sy.Ok i) (hk : i.kind = 1) :
    Calls Tryd.prog 14 #[.pointer (some ⟨g, 0, none⟩), ItV i, .int .i64 (ln : Int)] w (AddP g (Pg.add r i ln) S w) := by
  obtain ⟨b, vM, vL, vI, vA, h⟩ := hS
  obtain ⟨D, hm, hD⟩ := h.mid
  have hinv := h.inv
  have hm1 := hm.up (upA (up0 w) (.cells (ItC i) 55))
  have hbox : (w.alloc (.cells (ItC i) 55)).heap[w.heap.size]? = some (.cells (ItC i) 55 (0, 0)) := heap_alloc_new w _
  have hgw := h.glt
  have hBW : w.heap.size ≠ g := by omega
  have hadd : Pg.add r i ln = if r.begun = false ∧ r.p.w = 0 ∧ 1 ≤ i.n ∧ i.n ≤ 16 then some ⟨{ r.p with w := i.n }, r.begun, r.at_⟩ else none := by unfold Pg.add; simp only [hk]; rfl
  obtain ⟨kd, n, sec, nm, ins⟩ := i
  simp only at hk hadd
  subst hk
  have hfin := fun (e : Ending) (w' : World) (ht : TellP g 0 r.begun r.p.w n 16 (w.alloc (.cells (ItC ⟨1, n, sec, nm, ins⟩) 55)).drew e w') => tellP_add (x := r.p.w) { r.p with w := n } (hm1.up (upD (up0 _) 1)) hD hlt rfl rfl rfl rfl (Pg.add r ⟨1, n, sec, nm, ins⟩ ln)
    (fun hc => by have e1 := hadd; rw [if_pos hc] at e1; exact ⟨e1, Pg.add_inv hinv ho e1⟩) (fun hc => by rw [hadd, if_neg hc]) ht
  have htell := tell_any g 0 (w.alloc (.cells (ItC ⟨1, n, sec, nm, ins⟩) 55)).drew r.begun r.p.w n 16 (hm1.cell 12) (hm1.cell 0) (hm1.frz 0)
  have HFIN := Lib.hid hfin; have HT := Lib.hid htell
  clear hfin htell hm hm1 h hD hadd hinv ho hlt
  go_enter Tryd.func14, Tryd.ntmps14
  go_wp2_with fail
  generalize w.alloc (.cells (ItC ⟨1, n, sec, nm, ins⟩) 55) = W1 at *
  refine wp_region_noPanic ?_
  refine wp_region_held_drew (S := fun w' => w'.cell? ⟨w.heap.size, 1, none⟩ = some (.int .i64 n)) (by kernel_rfl) ?_ (fun hHeld => ?_)
  · exact row_cells hbox 1 rfl
  refine wpAnyH_take (i := 0) (oi := _) (v := ?_) rfl (by kernel_rfl) (by kernel_rfl) (by kernel_rfl) (fun _ _ _ h => h) (Or.inl ⟨by kernel_rfl, ?_⟩) (by assumption) ?_
  rotate_left
  · (intro w hSw; (try dsimp only at hSw); go_simp; try (with_reducible rfl))
  (try simp only [List.getElem_toArray, List.getElem_cons_succ, List.getElem_cons_zero, Act.put, List.setIfInBounds_toArray, List.set_cons_zero, List.set_cons_succ])
  refine wpAnyH_take (i := 1) (oi := _) (v := ?_) rfl (by kernel_rfl) (by kernel_rfl) (by kernel_rfl) (fun _ _ _ h => h) (Or.inl ⟨by kernel_rfl, ?_⟩) (by assumption) ?_
  rotate_left
  · (intro w hSw; (try dsimp only at hSw); go_simp; try (with_reducible rfl))
  (try simp only [List.getElem_toArray, List.getElem_cons_succ, List.getElem_cons_zero, Act.put, List.setIfInBounds_toArray, List.set_cons_zero, List.set_cons_succ])
  refine wpAnyH_take (i := 2) (oi := _) (v := ?_) rfl (by kernel_rfl) (by kernel_rfl) (by kernel_rfl) (fun _ _ _ h => h) (Or.inl ⟨by kernel_rfl, ?_⟩) (by assumption) ?_
  rotate_left
  · (intro w hSw; (try dsimp only at hSw); go_simp; try (with_reducible rfl))
  (try simp only [List.getElem_toArray, List.getElem_cons_succ, List.getElem_cons_zero, Act.put, List.setIfInBounds_toArray, List.set_cons_zero, List.set_cons_succ])
  refine wpAnyH_take (i := 3) (oi := _) (v := ?_) rfl (by kernel_rfl) (by kernel_rfl) (by kernel_rfl) (fun _ _ _ h => h) (Or.inl ⟨by kernel_rfl, ?_⟩) (by assumption) ?_
  rotate_left
  · (intro w hSw; (try dsimp only at hSw); go_simp; try (with_reducible rfl))
  (try simp only [List.getElem_toArray, List.getElem_cons_succ, List.getElem_cons_zero, Act.put, List.setIfInBounds_toArray, List.set_cons_zero, List.set_cons_succ])
  refine wpAnyH_take (i := 4) (oi := _) (v := ?_) rfl (by kernel_rfl) (by kernel_rfl) (by kernel_rfl) (fun _ _ _ h => h) (Or.inl ⟨by kernel_rfl, ?_⟩) (by assumption) ?_
  rotate_left
  · (intro w hSw; (try dsimp only at hSw); go_simp; try (with_reducible rfl))
  (try simp only [List.getElem_toArray, List.getElem_cons_succ, List.getElem_cons_zero, Act.put, List.setIfInBounds_toArray, List.set_cons_zero, List.set_cons_succ])
  refine wpAnyH_take (i := 5) (oi := _) (v := ?_) rfl (by kernel_rfl) (by kernel_rfl) (by kernel_rfl) (fun _ _ _ h => h) (Or.inl ⟨by kernel_rfl, ?_⟩) (by assumption) ?_
  rotate_left
  · (intro w hSw; (try dsimp only at hSw); go_simp; try (with_reducible rfl))
  (try simp only [List.getElem_toArray, List.getElem_cons_succ, List.getElem_cons_zero, Act.put, List.setIfInBounds_toArray, List.set_cons_zero, List.set_cons_succ])
  refine wpAnyH_take (i := 6) (oi := _) (v := ?_) rfl (by kernel_rfl) (by kernel_rfl) (by kernel_rfl) (fun _ _ _ h => h) (Or.inl ⟨by kernel_rfl, ?_⟩) (by assumption) ?_
  rotate_left
  · (intro w hSw; (try dsimp only at hSw); go_simp; try (with_reducible rfl))
  (try simp only [List.getElem_toArray, List.getElem_cons_succ, List.getElem_cons_zero, Act.put, List.setIfInBounds_toArray, List.set_cons_zero, List.set_cons_succ])
  refine wpAnyH_ready (rs := [7]) (by kernel_rfl) (by simp) ?_
  refine AllReadyH.cons (o := _) rfl (fun K hK => ?_) AllReadyH.nil
  go_simp
  go_at_call 25
  refine HT.out.mono ?_
  intro e w4 hp4
  obtain ⟨bv, rfl, hfr, ht⟩ := hp4.sl
  clear hp4
  have HTT := Lib.hid ht
  clear ht
  first | refine hK.out _ _ ?_ (fun hHeld => ?_) | (go_wp2_with fail; refine hK.out _ _ ?_ (fun hHeld => ?_))
  · exact hfr.cell (p := ⟨w.heap.size, 1, none⟩) (row_cells hbox 1 rfl) hBW
  clear hK K
  (try simp only [List.getElem_toArray, List.getElem_cons_succ, List.getElem_cons_zero, Act.put, List.setIfInBounds_toArray, List.set_cons_zero, List.set_cons_succ])
  refine wpAnyH_take (i := 8) (oi := _) (v := ?_) rfl (by kernel_rfl) (by kernel_rfl) (by kernel_rfl) (fun _ _ _ h => h) (Or.inl ⟨by kernel_rfl, ?_⟩) (by assumption) ?_
  rotate_left
  · (intro w hSw; (try dsimp only at hSw); go_simp; try (with_reducible rfl))
  (try simp only [List.getElem_toArray, List.getElem_cons_succ, List.getElem_cons_zero, Act.put, List.setIfInBounds_toArray, List.set_cons_zero, List.set_cons_succ])
  refine wpAnyH_done (by kernel_rfl) ?_ _
  refine NoPanic.normal ?_
  (try go_simp)
  go_wp2_with fail
  go_ret
  exact HFIN.out _ _ HTT.out
set_option maxRecDepth 100000 in
set_option maxHeartbeats 8000000 in
theorem add_win (g : Nat) (r : Pg.Rs) (S : Nat → Prop) (i : Sy.It) (ln : Nat) (w : World) (hS : RSet w g r S) (hlt : ∀ k, S k → k < w.heap.size) (ho : Sy.Ok i) (hk : i.kind = 2) :
    Calls Tryd.prog 14 #[.pointer (some ⟨g, 0, none⟩), ItV i, .int .i64 (ln : Int)] w (AddP g (Pg.add r i ln) S w) := by
  obtain ⟨b, vM, vL, vI, vA, h⟩ := hS
  obtain ⟨D, hm, hD⟩ := h.mid
  have hinv := h.inv
  have hm1 := hm.up (upA (up0 w) (.cells (ItC i) 55))
  have hbox : (w.alloc (.cells (ItC i) 55)).heap[w.heap.size]? = some (.cells (ItC i) 55 (0, 0)) := heap_alloc_new w _
  have hgw := h.glt
  have hBW : w.heap.size ≠ g := by omega
  have hadd : Pg.add r i ln = if r.begun = false ∧ r.p.win = 0 ∧ 1 ≤ i.n ∧ i.n ≤ 6 then some ⟨{ r.p with win := i.n }, r.begun, r.at_⟩ else none := by unfold Pg.add; simp only [hk]; rfl
  obtain ⟨kd, n, sec, nm, ins⟩ := i
  simp only at hk hadd
  subst hk
  have hfin := fun (e : Ending) (w' : World) (ht : TellP g 1 r.begun r.p.win n 6 (w.alloc (.cells (ItC ⟨2, n, sec, nm, ins⟩) 55)).drew e w') => tellP_add (x := r.p.win) { r.p with win := n } (hm1.up (upD (up0 _) 1)) hD hlt rfl rfl rfl rfl (Pg.add r ⟨2, n, sec, nm, ins⟩ ln)
    (fun hc => by have e1 := hadd; rw [if_pos hc] at e1; exact ⟨e1, Pg.add_inv hinv ho e1⟩) (fun hc => by rw [hadd, if_neg hc]) ht
  have htell := tell_any g 1 (w.alloc (.cells (ItC ⟨2, n, sec, nm, ins⟩) 55)).drew r.begun r.p.win n 6 (hm1.cell 12) (hm1.cell 1) (hm1.frz 1)
  have HFIN := Lib.hid hfin; have HT := Lib.hid htell
  clear hfin htell hm hm1 h hD hadd hinv ho hlt
  go_enter Tryd.func14, Tryd.ntmps14
  go_wp2_with fail
  generalize w.alloc (.cells (ItC ⟨2, n, sec, nm, ins⟩) 55) = W1 at *
  refine wp_region_noPanic ?_
  refine wp_region_held_drew (S := fun w' => w'.cell? ⟨w.heap.size, 1, none⟩ = some (.int .i64 n)) (by kernel_rfl) ?_ (fun hHeld => ?_)
  · exact row_cells hbox 1 rfl
  refine wpAnyH_take (i := 0) (oi := _) (v := ?_) rfl (by kernel_rfl) (by kernel_rfl) (by kernel_rfl) (fun _ _ _ h => h) (Or.inl ⟨by kernel_rfl, ?_⟩) (by assumption) ?_
  rotate_left
  · (intro w hSw; (try dsimp only at hSw); go_simp; try (with_reducible rfl))
  (try simp only [List.getElem_toArray, List.getElem_cons_succ, List.getElem_cons_zero, Act.put, List.setIfInBounds_toArray, List.set_cons_zero, List.set_cons_succ])
  refine wpAnyH_take (i := 1) (oi := _) (v := ?_) rfl (by kernel_rfl) (by kernel_rfl) (by kernel_rfl) (fun _ _ _ h => h) (Or.inl ⟨by kernel_rfl, ?_⟩) (by assumption) ?_
  rotate_left
  · (intro w hSw; (try dsimp only at hSw); go_simp; try (with_reducible rfl))
  (try simp only [List.getElem_toArray, List.getElem_cons_succ, List.getElem_cons_zero, Act.put, List.setIfInBounds_toArray, List.set_cons_zero, List.set_cons_succ])
  refine wpAnyH_take (i := 2) (oi := _) (v := ?_) rfl (by kernel_rfl) (by kernel_rfl) (by kernel_rfl) (fun _ _ _ h => h) (Or.inl ⟨by kernel_rfl, ?_⟩) (by assumption) ?_
  rotate_left
  · (intro w hSw; (try dsimp only at hSw); go_simp; try (with_reducible rfl))
  (try simp only [List.getElem_toArray, List.getElem_cons_succ, List.getElem_cons_zero, Act.put, List.setIfInBounds_toArray, List.set_cons_zero, List.set_cons_succ])
  refine wpAnyH_take (i := 3) (oi := _) (v := ?_) rfl (by kernel_rfl) (by kernel_rfl) (by kernel_rfl) (fun _ _ _ h => h) (Or.inl ⟨by kernel_rfl, ?_⟩) (by assumption) ?_
  rotate_left
  · (intro w hSw; (try dsimp only at hSw); go_simp; try (with_reducible rfl))
  (try simp only [List.getElem_toArray, List.getElem_cons_succ, List.getElem_cons_zero, Act.put, List.setIfInBounds_toArray, List.set_cons_zero, List.set_cons_succ])
  refine wpAnyH_take (i := 4) (oi := _) (v := ?_) rfl (by kernel_rfl) (by kernel_rfl) (by kernel_rfl) (fun _ _ _ h => h) (Or.inl ⟨by kernel_rfl, ?_⟩) (by assumption) ?_
  rotate_left
  · (intro w hSw; (try dsimp only at hSw); go_simp; try (with_reducible rfl))
  (try simp only [List.getElem_toArray, List.getElem_cons_succ, List.getElem_cons_zero, Act.put, List.setIfInBounds_toArray, List.set_cons_zero, List.set_cons_succ])
  refine wpAnyH_take (i := 5) (oi := _) (v := ?_) rfl (by kernel_rfl) (by kernel_rfl) (by kernel_rfl) (fun _ _ _ h => h) (Or.inl ⟨by kernel_rfl, ?_⟩) (by assumption) ?_
  rotate_left
  · (intro w hSw; (try dsimp only at hSw); go_simp; try (with_reducible rfl))
  (try simp only [List.getElem_toArray, List.getElem_cons_succ, List.getElem_cons_zero, Act.put, List.setIfInBounds_toArray, List.set_cons_zero, List.set_cons_succ])
  refine wpAnyH_take (i := 6) (oi := _) (v := ?_) rfl (by kernel_rfl) (by kernel_rfl) (by kernel_rfl) (fun _ _ _ h => h) (Or.inl ⟨by kernel_rfl, ?_⟩) (by assumption) ?_
  rotate_left
  · (intro w hSw; (try dsimp only at hSw); go_simp; try (with_reducible rfl))
  (try simp only [List.getElem_toArray, List.getElem_cons_succ, List.getElem_cons_zero, Act.put, List.setIfInBounds_toArray, List.set_cons_zero, List.set_cons_succ])
  refine wpAnyH_ready (rs := [7]) (by kernel_rfl) (by simp) ?_
  refine AllReadyH.cons (o := _) rfl (fun K hK => ?_) AllReadyH.nil
  go_simp
  go_at_call 25
  refine HT.out.mono ?_
  intro e w4 hp4
  obtain ⟨bv, rfl, hfr, ht⟩ := hp4.sl
  clear hp4
  have HTT := Lib.hid ht
  clear ht
  first | refine hK.out _ _ ?_ (fun hHeld => ?_) | (go_wp2_with fail; refine hK.out _ _ ?_ (fun hHeld => ?_))
  · exact hfr.cell (p := ⟨w.heap.size, 1, none⟩) (row_cells hbox 1 rfl) hBW
  clear hK K
  (try simp only [List.getElem_toArray, List.getElem_cons_succ, List.getElem_cons_zero, Act.put, List.setIfInBounds_toArray, List.set_cons_zero, List.set_cons_succ])
  refine wpAnyH_take (i := 8) (oi := _) (v := ?_) rfl (by kernel_rfl) (by kernel_rfl) (by kernel_rfl) (fun _ _ _ h => h) (Or.inl ⟨by kernel_rfl, ?_⟩) (by assumption) ?_
  rotate_left
  · (intro w hSw; (try dsimp only at hSw); go_simp; try (with_reducible rfl))
  (try simp only [List.getElem_toArray, List.getElem_cons_succ, List.getElem_cons_zero, Act.put, List.setIfInBounds_toArray, List.set_cons_zero, List.set_cons_succ])
  refine wpAnyH_done (by kernel_rfl) ?_ _
  refine NoPanic.normal ?_
  (try go_simp)
  go_wp2_with fail
  go_ret
  exact HFIN.out _ _ HTT.out
set_option maxRecDepth 100000 in
set_option maxHeartbeats 8000000 in
theorem add_fuel (g : Nat) (r : Pg.Rs) (S : Nat → Prop) (i : Sy.It) (ln : Nat) (w : World) (hS : RSet w g r S) (hlt : ∀ k, S k → k < w.heap.size) (ho : Sy.Ok i) (hk : i.kind = 3) :
    Calls Tryd.prog 14 #[.pointer (some ⟨g, 0, none⟩), ItV i, .int .i64 (ln : Int)] w (AddP g (Pg.add r i ln) S w) := by
  obtain ⟨b, vM, vL, vI, vA, h⟩ := hS
  obtain ⟨D, hm, hD⟩ := h.mid
  have hinv := h.inv
  have hm1 := hm.up (upA (up0 w) (.cells (ItC i) 55))
  have hbox : (w.alloc (.cells (ItC i) 55)).heap[w.heap.size]? = some (.cells (ItC i) 55 (0, 0)) := heap_alloc_new w _
  have hgw := h.glt
  have hBW : w.heap.size ≠ g := by omega
  have hadd : Pg.add r i ln = if r.begun = false ∧ r.p.fuel = 0 ∧ 1 ≤ i.n ∧ i.n ≤ 1000 then some ⟨{ r.p with fuel := i.n }, r.begun, r.at_⟩ else none := by unfold Pg.add; simp only [hk]; rfl
  obtain ⟨kd, n, sec, nm, ins⟩ := i
  simp only at hk hadd
  subst hk
  have hfin := fun (e : Ending) (w' : World) (ht : TellP g 2 r.begun r.p.fuel n 1000 (w.alloc (.cells (ItC ⟨3, n, sec, nm, ins⟩) 55)).drew e w') => tellP_add (x := r.p.fuel) { r.p with fuel := n } (hm1.up (upD (up0 _) 1)) hD hlt rfl rfl rfl rfl (Pg.add r ⟨3, n, sec, nm, ins⟩ ln)
    (fun hc => by have e1 := hadd; rw [if_pos hc] at e1; exact ⟨e1, Pg.add_inv hinv ho e1⟩) (fun hc => by rw [hadd, if_neg hc]) ht
  have htell := tell_any g 2 (w.alloc (.cells (ItC ⟨3, n, sec, nm, ins⟩) 55)).drew r.begun r.p.fuel n 1000 (hm1.cell 12) (hm1.cell 2) (hm1.frz 2)
  have HFIN := Lib.hid hfin; have HT := Lib.hid htell
  clear hfin htell hm hm1 h hD hadd hinv ho hlt
  go_enter Tryd.func14, Tryd.ntmps14
  go_wp2_with fail
  generalize w.alloc (.cells (ItC ⟨3, n, sec, nm, ins⟩) 55) = W1 at *
  refine wp_region_noPanic ?_
  refine wp_region_held_drew (S := fun w' => w'.cell? ⟨w.heap.size, 1, none⟩ = some (.int .i64 n)) (by kernel_rfl) ?_ (fun hHeld => ?_)
  · exact row_cells hbox 1 rfl
  refine wpAnyH_take (i := 0) (oi := _) (v := ?_) rfl (by kernel_rfl) (by kernel_rfl) (by kernel_rfl) (fun _ _ _ h => h) (Or.inl ⟨by kernel_rfl, ?_⟩) (by assumption) ?_
  rotate_left
  · (intro w hSw; (try dsimp only at hSw); go_simp; try (with_reducible rfl))
  (try simp only [List.getElem_toArray, List.getElem_cons_succ, List.getElem_cons_zero, Act.put, List.setIfInBounds_toArray, List.set_cons_zero, List.set_cons_succ])
  refine wpAnyH_take (i := 1) (oi := _) (v := ?_) rfl (by kernel_rfl) (by kernel_rfl) (by kernel_rfl) (fun _ _ _ h => h) (Or.inl ⟨by kernel_rfl, ?_⟩) (by assumption) ?_
  rotate_left
  · (intro w hSw; (try dsimp only at hSw); go_simp; try (with_reducible rfl))
  (try simp only [List.getElem_toArray, List.getElem_cons_succ, List.getElem_cons_zero, Act.put, List.setIfInBounds_toArray, List.set_cons_zero, List.set_cons_succ])
  refine wpAnyH_take (i := 2) (oi := _) (v := ?_) rfl (by kernel_rfl) (by kernel_rfl) (by kernel_rfl) (fun _ _ _ h => h) (Or.inl ⟨by kernel_rfl, ?_⟩) (by assumption) ?_
  rotate_left
  · (intro w hSw; (try dsimp only at hSw); go_simp; try (with_reducible rfl))
  (try simp only [List.getElem_toArray, List.getElem_cons_succ, List.getElem_cons_zero, Act.put, List.setIfInBounds_toArray, List.set_cons_zero, List.set_cons_succ])
  refine wpAnyH_take (i := 3) (oi := _) (v := ?_) rfl (by kernel_rfl) (by kernel_rfl) (by kernel_rfl) (fun _ _ _ h => h) (Or.inl ⟨by kernel_rfl, ?_⟩) (by assumption) ?_
  rotate_left
  · (intro w hSw; (try dsimp only at hSw); go_simp; try (with_reducible rfl))
  (try simp only [List.getElem_toArray, List.getElem_cons_succ, List.getElem_cons_zero, Act.put, List.setIfInBounds_toArray, List.set_cons_zero, List.set_cons_succ])
  refine wpAnyH_take (i := 4) (oi := _) (v := ?_) rfl (by kernel_rfl) (by kernel_rfl) (by kernel_rfl) (fun _ _ _ h => h) (Or.inl ⟨by kernel_rfl, ?_⟩) (by assumption) ?_
  rotate_left
  · (intro w hSw; (try dsimp only at hSw); go_simp; try (with_reducible rfl))
  (try simp only [List.getElem_toArray, List.getElem_cons_succ, List.getElem_cons_zero, Act.put, List.setIfInBounds_toArray, List.set_cons_zero, List.set_cons_succ])
  refine wpAnyH_take (i := 5) (oi := _) (v := ?_) rfl (by kernel_rfl) (by kernel_rfl) (by kernel_rfl) (fun _ _ _ h => h) (Or.inl ⟨by kernel_rfl, ?_⟩) (by assumption) ?_
  rotate_left
  · (intro w hSw; (try dsimp only at hSw); go_simp; try (with_reducible rfl))
  (try simp only [List.getElem_toArray, List.getElem_cons_succ, List.getElem_cons_zero, Act.put, List.setIfInBounds_toArray, List.set_cons_zero, List.set_cons_succ])
  refine wpAnyH_take (i := 6) (oi := _) (v := ?_) rfl (by kernel_rfl) (by kernel_rfl) (by kernel_rfl) (fun _ _ _ h => h) (Or.inl ⟨by kernel_rfl, ?_⟩) (by assumption) ?_
  rotate_left
  · (intro w hSw; (try dsimp only at hSw); go_simp; try (with_reducible rfl))
  (try simp only [List.getElem_toArray, List.getElem_cons_succ, List.getElem_cons_zero, Act.put, List.setIfInBounds_toArray, List.set_cons_zero, List.set_cons_succ])
  refine wpAnyH_ready (rs := [7]) (by kernel_rfl) (by simp) ?_
  refine AllReadyH.cons (o := _) rfl (fun K hK => ?_) AllReadyH.nil
  go_simp
  go_at_call 25
  refine HT.out.mono ?_
  intro e w4 hp4
  obtain ⟨bv, rfl, hfr, ht⟩ := hp4.sl
  clear hp4
  have HTT := Lib.hid ht
  clear ht
  first | refine hK.out _ _ ?_ (fun hHeld => ?_) | (go_wp2_with fail; refine hK.out _ _ ?_ (fun hHeld => ?_))
  · exact hfr.cell (p := ⟨w.heap.size, 1, none⟩) (row_cells hbox 1 rfl) hBW
  clear hK K
  (try simp only [List.getElem_toArray, List.getElem_cons_succ, List.getElem_cons_zero, Act.put, List.setIfInBounds_toArray, List.set_cons_zero, List.set_cons_succ])
  refine wpAnyH_take (i := 8) (oi := _) (v := ?_) rfl (by kernel_rfl) (by kernel_rfl) (by kernel_rfl) (fun _ _ _ h => h) (Or.inl ⟨by kernel_rfl, ?_⟩) (by assumption) ?_
  rotate_left
  · (intro w hSw; (try dsimp only at hSw); go_simp; try (with_reducible rfl))
  (try simp only [List.getElem_toArray, List.getElem_cons_succ, List.getElem_cons_zero, Act.put, List.setIfInBounds_toArray, List.set_cons_zero, List.set_cons_succ])
  refine wpAnyH_done (by kernel_rfl) ?_ _
  refine NoPanic.normal ?_
  (try go_simp)
  go_wp2_with fail
  go_ret
  exact HFIN.out _ _ HTT.out
end Go.Proofs.YtmghklokbmdenaaDoor
