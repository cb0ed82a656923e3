/- Merged: PgItems, PgWrite. -/
import Derived.Test.YtmghklokbmdenaaDoorPgBody
import Derived.Deep.AppendLies
import Derived.Lib.FrozenHead2
set_option linter.unusedVariables false
set_option linter.unusedSimpArgs false
namespace Go.Proofs.YtmghklokbmdenaaDoor
section
open Go.RowKit
theorem flt_oneI : ∀ (l : List Sy.It), ∀ u ∈ flt itL l, u.oneCell' = true
  | [], u, hu => by simp [flt] at hu
  | a :: l, u, hu => by
    have hu' : u ∈ itL a ++ flt itL l := hu
    rw [List.mem_append] at hu'
    rcases hu' with h | h
    · exact itL_one a u h
    · exact flt_oneI l u h
theorem irow_cells {w : World} {B g cap : Nat} {l : List Sy.It} (h : IRow w B (.slice (some ⟨g, 0, none⟩) l.length cap) l) : ∀ j u, (flt itL l)[j]? = some u → w.cell? ((⟨g, 0, none⟩ : Addr).add j) = some u := World.ownsRow.cells h rfl
set_option maxRecDepth 100000 in
set_option maxHeartbeats 16000000 in
theorem items_any (p : Pg.Pr) (vM vL vI : Value) (w : World) (h : PrIn w p vM vL vI) (ho : PrOk p) (hne : 0 < (Pg.bodyG p.labels p.labels 0 p.ins).length) (hfew : (Pg.bodyG p.labels p.labels 0 p.ins).length ≤ 2000000) : Calls Tryd.prog 31 #[.agg (PrA p vM vL vI)] w (RowG (Pg.itemsG p) w) := by
  obtain ⟨i0, hi0, hz0, hs0, hb0⟩ := info_parts infoItm
  obtain ⟨q0, q1, q2, q3, hr⟩ := list4 ho.r4
  obtain ⟨pw, pwin, pfuel, pregs, pmems, plabels, pins⟩ := p
  simp only at hr hne hfew
  subst hr
  have hH := heads_any ⟨pw, pwin, pfuel, [q0, q1, q2, q3], pmems, plabels, pins⟩ vM vL vI
  have hB := body_any ⟨pw, pwin, pfuel, [q0, q1, q2, q3], pmems, plabels, pins⟩ vM vL vI
  have hhl : (Pg.heads ⟨pw, pwin, pfuel, [q0, q1, q2, q3], pmems, plabels, pins⟩ ++ Pg.regs 0 [q0, q1, q2, q3] ++ pmems.map Pg.memI).length ≤ 2000 := by
    have h1 := Pg.regs_len [q0, q1, q2, q3] 0
    have h2 := ho.few.1
    simp only [List.length_append, List.length_map, Pg.heads, List.length_cons, List.length_nil] at h1 h2 ⊢
    omega
  have hie : Pg.itemsG ⟨pw, pwin, pfuel, [q0, q1, q2, q3], pmems, plabels, pins⟩ = (Pg.heads ⟨pw, pwin, pfuel, [q0, q1, q2, q3], pmems, plabels, pins⟩ ++ Pg.regs 0 [q0, q1, q2, q3] ++ pmems.map Pg.memI) ++ Pg.bodyG plabels plabels 0 pins := rfl
  simp only at hH hB
  generalize Pg.heads ⟨pw, pwin, pfuel, [q0, q1, q2, q3], pmems, plabels, pins⟩ ++ Pg.regs 0 [q0, q1, q2, q3] ++ pmems.map Pg.memI = LH at *
  generalize Pg.bodyG plabels plabels 0 pins = LB at *
  have HH := Lib.hid hH; have HB := Lib.hid hB; have HIE := Lib.hid hie; have HIN := Lib.hid h; have HOK := Lib.hid ho
  clear hH hB hie h ho
  go_enter Tryd.func31, Tryd.ntmps31
  go_wp2_with fail
  have hbx : ((w.alloc (.cells (PrA ⟨pw, pwin, pfuel, [q0, q1, q2, q3], pmems, plabels, pins⟩ vM vL vI) 29))).drew.heap[w.heap.size]? = some (.cells (PrA ⟨pw, pwin, pfuel, [q0, q1, q2, q3], pmems, plabels, pins⟩ vM vL vI) 29 (0, 0)) := heap_alloc_new w _
  have hb : Below w.heap.size w ((w.alloc (.cells (PrA ⟨pw, pwin, pfuel, [q0, q1, q2, q3], pmems, plabels, pins⟩ vM vL vI) 29))).drew := upD (upA (up0 w) _) 1
  have HBX := Lib.hid hbx; have HBW := Lib.hid hb
  have hsz : w.heap.size + 1 ≤ ((w.alloc (.cells (PrA ⟨pw, pwin, pfuel, [q0, q1, q2, q3], pmems, plabels, pins⟩ vM vL vI) 29))).drew.heap.size := by simp
  refine wp_region_noPanic ?_
  refine wp_region_held_drew (S := fun w' => w'.cell? ⟨w.heap.size, 0, none⟩ = some (.int .i64 pw) ∧ w'.cell? ⟨w.heap.size, 1, none⟩ = some (.int .i64 pwin) ∧ w'.cell? ⟨w.heap.size, 2, none⟩ = some (.int .i64 pfuel) ∧ w'.cell? ⟨w.heap.size, 3, none⟩ = some (.int .i64 q0) ∧ w'.cell? ⟨w.heap.size, 4, none⟩ = some (.int .i64 q1) ∧ w'.cell? ⟨w.heap.size, 5, none⟩ = some (.int .i64 q2) ∧ w'.cell? ⟨w.heap.size, 6, none⟩ = some (.int .i64 q3) ∧ w'.cell? ⟨w.heap.size, 7, none⟩ = some (vM) ∧ w'.cell? ⟨w.heap.size, 8, none⟩ = some (vL) ∧ w'.cell? ⟨w.heap.size, 9, none⟩ = some (vI)) (by kernel_rfl) ?_ (fun hHeld => ?_)
  · exact ⟨cell_of_row _ _ 0 _ _ _ hbx, cell_of_row _ _ 1 _ _ _ hbx, cell_of_row _ _ 2 _ _ _ hbx, cell_of_row _ _ 3 _ _ _ hbx, cell_of_row _ _ 4 _ _ _ hbx, cell_of_row _ _ 5 _ _ _ hbx, cell_of_row _ _ 6 _ _ _ hbx, cell_of_row _ _ 7 _ _ _ hbx, cell_of_row _ _ 8 _ _ _ hbx, cell_of_row _ _ 9 _ _ _ hbx⟩
  refine wpAnyH_take (i := 0) (oi := _) (v := ?_) rfl (by kernel_rfl) (by kernel_rfl) (by kernel_rfl) (fun _ _ _ h => h) (Or.inl ⟨by kernel_rfl, ?_⟩) (by assumption) ?_
  rotate_left
  · (intro w hSw; (try dsimp only at hSw); go_simp; try (with_reducible rfl))
  (try simp only [List.getElem_toArray, List.getElem_cons_succ, List.getElem_cons_zero, Act.put, List.setIfInBounds_toArray, List.set_cons_zero, List.set_cons_succ])
  refine wpAnyH_take (i := 2) (oi := _) (v := ?_) rfl (by kernel_rfl) (by kernel_rfl) (by kernel_rfl) (fun _ _ _ h => h) (Or.inl ⟨by kernel_rfl, ?_⟩) (by assumption) ?_
  rotate_left
  · (intro w hSw; (try dsimp only at hSw); go_simp; try (with_reducible rfl))
  (try simp only [List.getElem_toArray, List.getElem_cons_succ, List.getElem_cons_zero, Act.put, List.setIfInBounds_toArray, List.set_cons_zero, List.set_cons_succ])
  refine wpAnyH_ready (rs := [1]) (by kernel_rfl) (by simp) ?_
  refine AllReadyH.cons (o := _) rfl (fun K hK => ?_) AllReadyH.nil
  go_simp
  go_at_call 47
  refine (HH.out _ (HIN.out.up HBW.out) HOK.out).mono ?_
  rintro e w4 ⟨vH, rfl, hH, hb4⟩
  have hbx4 := (hb4.block _ (by omega)).trans HBX.out
  have hbw4 := HBW.out.trans (hb4.mono HBW.out.size)
  first | refine hK.out _ _ ?_ (fun hHeld => ?_) | (go_wp2_with fail; refine hK.out _ _ ?_ (fun hHeld => ?_))
  · exact ⟨cell_of_row _ _ 0 _ _ _ hbx4, cell_of_row _ _ 1 _ _ _ hbx4, cell_of_row _ _ 2 _ _ _ hbx4, cell_of_row _ _ 3 _ _ _ hbx4, cell_of_row _ _ 4 _ _ _ hbx4, cell_of_row _ _ 5 _ _ _ hbx4, cell_of_row _ _ 6 _ _ _ hbx4, cell_of_row _ _ 7 _ _ _ hbx4, cell_of_row _ _ 8 _ _ _ hbx4, cell_of_row _ _ 9 _ _ _ hbx4⟩
  clear hK K
  (try simp only [List.getElem_toArray, List.getElem_cons_succ, List.getElem_cons_zero, Act.put, List.setIfInBounds_toArray, List.set_cons_zero, List.set_cons_succ])
  refine wpAnyH_ready (rs := [3]) (by kernel_rfl) (by simp) ?_
  refine AllReadyH.cons (o := _) rfl (fun K hK => ?_) AllReadyH.nil
  go_simp
  go_at_call 48
  refine (HB.out _ (HIN.out.up hbw4) HOK.out).mono ?_
  rintro e w5 ⟨vB, rfl, hB, hb5⟩
  have hbx5 := (hb5.block _ (by have := hb4.size; omega)).trans hbx4
  have hbw5 := hbw4.trans (hb5.mono hbw4.size)
  first | refine hK.out _ _ ?_ (fun hHeld => ?_) | (go_wp2_with fail; refine hK.out _ _ ?_ (fun hHeld => ?_))
  · exact ⟨cell_of_row _ _ 0 _ _ _ hbx5, cell_of_row _ _ 1 _ _ _ hbx5, cell_of_row _ _ 2 _ _ _ hbx5, cell_of_row _ _ 3 _ _ _ hbx5, cell_of_row _ _ 4 _ _ _ hbx5, cell_of_row _ _ 5 _ _ _ hbx5, cell_of_row _ _ 6 _ _ _ hbx5, cell_of_row _ _ 7 _ _ _ hbx5, cell_of_row _ _ 8 _ _ _ hbx5, cell_of_row _ _ 9 _ _ _ hbx5⟩
  clear hK K
  (try simp only [List.getElem_toArray, List.getElem_cons_succ, List.getElem_cons_zero, Act.put, List.setIfInBounds_toArray, List.set_cons_zero, List.set_cons_succ])
  have hown := own_belowT hH hb5
  obtain ⟨gB, capB, eB, hgB, hgl⟩ := World.ownsRow.form hB hne
  subst eB
  refine wpAnyH_ready (rs := [4]) (by kernel_rfl) (by simp) ?_
  refine AllReadyH.cons (o := _) rfl (fun K hK => ?_) AllReadyH.nil
  refine step_append_lies _ rfl (.tmp 4) (.tmp 6) 86 rfl (w.heap.size + 1) 55 i0 _ 13 120 Tryd.underlying86 hi0 hz0 hs0 hb0 rfl (by omega) _ LH.length _ rfl (own_lower hown hsz) ⟨gB, 0, none⟩ LB.length capB (flt itL LB) rfl (flt_len itL itL_len LB) (irow_cells hB) (flt_oneI LB) hne (by simp only [maxLen]; omega) (by omega) (by have := hbw5.size; have := hb4.size; have := hb5.size; omega) _ rfl ?_
  intro g cap w6 hown6 hgr6 hat6 hlt6
  have hb6 : Below (w.heap.size + 1) w5 w6 := (Below.refl _ _).grown hgr6 (by have := hb4.size; have := hb5.size; omega) (fun k hk => by have := (hown.lt k hk).1; omega)
  have hbx6 := (hb6.block _ (by omega)).trans hbx5
  first | refine hK.out _ _ ?_ (fun hHeld => ?_) | (go_wp2_with fail; refine hK.out _ _ ?_ (fun hHeld => ?_))
  · exact ⟨cell_of_row _ _ 0 _ _ _ hbx6, cell_of_row _ _ 1 _ _ _ hbx6, cell_of_row _ _ 2 _ _ _ hbx6, cell_of_row _ _ 3 _ _ _ hbx6, cell_of_row _ _ 4 _ _ _ hbx6, cell_of_row _ _ 5 _ _ _ hbx6, cell_of_row _ _ 6 _ _ _ hbx6, cell_of_row _ _ 7 _ _ _ hbx6, cell_of_row _ _ 8 _ _ _ hbx6, cell_of_row _ _ 9 _ _ _ hbx6⟩
  clear hK K
  (try simp only [List.getElem_toArray, List.getElem_cons_succ, List.getElem_cons_zero, Act.put, List.setIfInBounds_toArray, List.set_cons_zero, List.set_cons_succ])
  refine wpAnyH_take (i := 5) (oi := _) (v := ?_) rfl (by kernel_rfl) (by kernel_rfl) (by kernel_rfl) (fun _ _ _ h => h) (Or.inl ⟨by kernel_rfl, ?_⟩) (by assumption) ?_
  rotate_left
  · (intro w hSw; (try dsimp only at hSw); go_simp; try (with_reducible rfl))
  (try simp only [List.getElem_toArray, List.getElem_cons_succ, List.getElem_cons_zero, Act.put, List.setIfInBounds_toArray, List.set_cons_zero, List.set_cons_succ])
  refine wpAnyH_done (by kernel_rfl) ?_ _
  refine NoPanic.normal ?_
  (try go_simp)
  go_wp2_with fail
  go_ret
  refine ⟨_, rfl, ?_, hbw5.trans (hb6.mono (by omega))⟩
  rw [HIE.out]
  unfold IRow
  rw [List.length_append, flt_app]
  exact own_lower hown6 (by omega)
end
end Go.Proofs.YtmghklokbmdenaaDoor
namespace Go.Proofs.YtmghklokbmdenaaDoor
section
open Go.RowKit
namespace Pg
/-- the lines of these items, if all of them can be told -/
def sayAll : List Sy.It → Option (List Int)
  | [] => some []
  | i :: l => match Sy.print i with
    | none => none
    | some t => (sayAll l).map (fun r => t ++ 10 :: r)
theorem sayAll_no {i : Sy.It} {l : List Sy.It} (h : Sy.print i = none) : sayAll (i :: l) = none := by
  unfold sayAll; rw [h]
theorem sayAll_yes {i : Sy.It} {l : List Sy.It} {t : List Int} (h : Sy.print i = some t) : sayAll (i :: l) = (sayAll l).map (fun r => t ++ 10 :: r) := by
  conv => lhs; unfold sayAll
  rw [h]
end Pg
set_option maxHeartbeats 2000000 in
set_option maxRecDepth 100000 in
theorem wbyte (B b : Nat) (bs : List Value) (c : Int) (w : World) (h : Lib.IsBuilderF 85 5 B b bs w) (hlen : bs.length + 1 ≤ 140737488355328) (hBw : B ≤ w.heap.size) :
    Calls Tryd.prog 34 #[.pointer (some ⟨b, 0, none⟩), .int .u8 c] w fun e w' => e = .returned .nilIface ∧ (Lib.BuilderAtF 85 5 B b (.pointer (some ⟨b, 0, none⟩)) (bs ++ [.int .u8 c]) w' ∧ Below B w w' ∧ Lib.OthersKept 5 (some b) w w') := by
  obtain ⟨i0, hi, hz0, hz1, hz2⟩ := info_parts (show (Tryd.prog.info? 5).map (fun i => (i.zero, i.size, i.bytes)) = some (some (.int .u8 0), 1, 1) by kernel_rfl)
  go_enter Tryd.func34, Tryd.ntmps34
  go_wp2_with (go_at_call 50; refine (wcopy B b bs _ h).mono ?_)
  rintro e w1 ⟨rfl, h1, hb1, hk1⟩
  obtain ⟨hB, v, hbk, hown, hne⟩ := h1
  have c0 : w1.cell? ⟨b, 0, none⟩ = some (.pointer (some ⟨b, 0, none⟩)) := by rw [Lib.cell_of_heap hbk]; rfl
  have c1 : w1.cell? ⟨b, 1, none⟩ = some v := by rw [Lib.cell_of_heap hbk]; rfl
  go_wp2_with (at_builtin; go_loud (refine wpList_append_ownF _ rfl (.tmp 11) (.tmp 13) 83 rfl B 5 i0 _ 1 1 Tryd.underlying83 hi hz0 hz1 hz2 rfl (by omega) _ _ _ rfl (hown.alloc _) ⟨w1.heap.size, 0, none⟩ 1 1 [.int .u8 c] rfl rfl (cell_one_new _ _ _) (by intro u hu; simp at hu; rw [hu]; rfl) ?c3 ?c4 ?c5 ?_))
  case c3 => unfold maxLen; omega
  case c4 => omega
  case c5 => have := hb1.size; simp; omega
  intro v' w2 hown' hgrow _
  have hlt : b < w1.heap.size := by
    rcases Nat.lt_or_ge b w1.heap.size with h' | h'
    · exact h'
    · simp [Array.getElem?_eq_none h'] at hbk
  have hb2 : w2.heap[b]? = some (.cells #[.pointer (some ⟨b, 0, none⟩), v] 85 (0, 0)) := by
    rw [hgrow.block b (by simp; omega) (fun e => hne e.symm), heap_alloc_old _ _ hlt]
    exact hbk
  have d0 : w2.cell? ⟨b, 0, none⟩ = some (.pointer (some ⟨b, 0, none⟩)) := by rw [Lib.cell_of_heap hb2]; rfl
  have d1 : w2.cell? ⟨b, 1, none⟩ = some v := by rw [Lib.cell_of_heap hb2]; rfl
  have f1 : w2.frozen? ⟨b, 1, none⟩ = false := Lib.frozen_of_heap hb2 1
  obtain ⟨ao, n', cap, rfl⟩ : ∃ ao n' cap, v' = .slice ao n' cap := by
    rcases hown'.2 with ⟨hv, _⟩ | ⟨g, cap, cur, fz, hv, _⟩
    · exact ⟨_, _, _, hv⟩
    · exact ⟨_, _, _, hv⟩
  go_wp2
  go_ret
  refine ⟨rfl, ?_, ?_, ((hk1.alloc _).grown hgrow (Lib.ownsRowF_kind (hown.alloc _))).setCell ⟨b, 1, none⟩ rfl _⟩
  · exact Lib.BuilderAtF.put (T := 85) (e := 5) hB hb2 (bs' := bs ++ [.int .u8 c]) (by simpa using hown') (by decide)
  · exact ((hb1.alloc (by have := hb1.size; omega) _).grown hgrow (by have := hb1.size; simp; omega) (fun k hk => (hown.lt k hk).1)).setCell (p := ⟨b, 1, none⟩) hB _
theorem bu_ten (t : List Int) : Lib.byteCells (Sn.bb t) ++ [.int .u8 10] = Lib.byteCells (Sn.bb (t ++ [10])) := by
  have h := bu_more t [10]
  rw [← h]
  rfl
theorem bu_len (t : List Int) : (Lib.byteCells (Sn.bb t)).length = t.length := by simp [Lib.byteCells, Sn.bb]
theorem irow_block {w : World} {B : Nat} {v : Value} {l : List Sy.It} (h : IRow w B v l) (hl : 0 < l.length) : ∃ g cap CS, v = .slice (some ⟨g, 0, none⟩) l.length cap ∧ B ≤ g ∧ w.heap[g]? = some (.cells CS 55 (0, 0)) := by
  rcases h.2 with ⟨_, h0⟩ | ⟨g, cap, cur, hv, hB, hg, _⟩
  · omega
  · exact ⟨g, cap, cur, hv, hB, hg⟩
theorem printed_len {i : Sy.It} {t : List Int} (h64 : It64 i) (hs : Short i) (h : Sy.print i = some t) : t.length ≤ 1000000 := by
  by_cases ho : Sy.Ok i
  · rw [Sy.print_ok ho] at h
    injection h with h
    rw [← h, ← Sn.line_ok ho]
    exact lineL_len i h64 hs
  · rw [Sy.print_none ho] at h
    cases h
set_option maxRecDepth 100000 in
set_option maxHeartbeats 32000000 in
theorem pwrite_any (p : Pg.Pr) (vM vL vI : Value) (w : World) (T : Sn.Tab w) (h : PrIn w p vM vL vI) (ho : PrOk p) (hne : 0 < (Pg.bodyG p.labels p.labels 0 p.ins).length) (hfew : (Pg.bodyG p.labels p.labels 0 p.ins).length ≤ 2000000)
    (hits : ∀ i ∈ Pg.itemsG p, It64 i ∧ Short i ∧ Asc i) (hfew2 : (Pg.itemsG p).length ≤ 3000000) :
    Calls Tryd.prog 17 #[.agg (PrA p vM vL vI)] w (PrintP w (if 32 < p.ins.length then none else Pg.sayAll (Pg.itemsG p))) := by
  have hpos : 0 < (Pg.itemsG p).length := by unfold Pg.itemsG; rw [List.length_append]; omega
  have hit := items_any p vM vL vI
  obtain ⟨AI, cI, eI, hcI, hmI, _⟩ := h.rI
  have HIN := Lib.hid h; have HOK := Lib.hid ho; have HT := Lib.hid T; have HIT := Lib.hid hit; have HITS := Lib.hid hits; have HNE := Lib.hid hne; have HFEW := Lib.hid hfew
  clear h ho T hit hits hne hfew
  obtain ⟨pw, pwin, pfuel, pregs, pmems, plabels, pins⟩ := p
  simp only at eI hcI
  subst eI
  generalize hL : Pg.itemsG ⟨pw, pwin, pfuel, pregs, pmems, plabels, pins⟩ = LI at *
  have hbuF : Bu (w.heap.size + 1) [] ((w.alloc (.cells (PrA ⟨pw, pwin, pfuel, pregs, pmems, plabels, pins⟩ vM vL (.slice AI pins.length cI)) 29)).alloc (.cells #[.pointer none, .slice none 0 0] 85)) := by
    have h := Lib.IsBuilderF.of (Lib.fresh_isBuilder 85 5 (w.alloc (.cells (PrA ⟨pw, pwin, pfuel, pregs, pmems, plabels, pins⟩ vM vL (.slice AI pins.length cI)) 29)))
    have h2 : (w.alloc (.cells (PrA ⟨pw, pwin, pfuel, pregs, pmems, plabels, pins⟩ vM vL (.slice AI pins.length cI)) 29)).heap.size = w.heap.size + 1 := by simp
    rw [h2] at h
    exact h
  have hbF : Below w.heap.size w ((w.alloc (.cells (PrA ⟨pw, pwin, pfuel, pregs, pmems, plabels, pins⟩ vM vL (.slice AI pins.length cI)) 29)).alloc (.cells #[.pointer none, .slice none 0 0] 85)) := upA (upA (up0 w) _) _
  have hszF : ((w.alloc (.cells (PrA ⟨pw, pwin, pfuel, pregs, pmems, plabels, pins⟩ vM vL (.slice AI pins.length cI)) 29)).alloc (.cells #[.pointer none, .slice none 0 0] 85)).heap.size = w.heap.size + 2 := by simp
  have HBUF := Lib.hid hbuF; have HBF := Lib.hid hbF; have HSZ := Lib.hid hszF
  clear hbuF hbF hszF
  go_enter Tryd.func17, Tryd.ntmps17
  by_cases h32 : 32 < pins.length
  · rw [if_pos h32]
    have h32' : (32 : Int) < (pins.length : Int) := by omega
    go_wp2_with fail
    go_ret2
    exact PrintP.no rfl rfl (upA (up0 w) _)
  rw [if_neg h32]
  have h32' : ¬ (32 : Int) < (pins.length : Int) := by omega
  go_wp2_with (go_at_call 31; refine (HIT.out _ (HIN.out.up (upA (upA (up0 w) _) _)) HOK.out HNE.out HFEW.out).mono ?_; rintro e w5 ⟨v, rfl, hrow, hb5⟩; obtain ⟨gI, cJ, CS, rfl, hgI, hblk⟩ := irow_block hrow hpos)
  obtain ⟨g', A, cap', e1, e2, _, _, hrr⟩ := own_RowR itL_len (by decide) hrow
  injection e1 with e3 e4 e5
  rw [(e2 hpos).1] at e3
  injection e3 with e3
  injection e3 with e3 e6 e7
  subst e3
  have hbu5 := bu_below HBUF.out hb5
  have hb5' := HBF.out.trans (hb5.mono HBF.out.size)
  have hsz5 : w.heap.size + 2 ≤ w5.heap.size := by have := HSZ.out; have := hb5.size; omega
  have hgI2 : w.heap.size + 2 ≤ gI := by have := HSZ.out; omega
  have HRR := Lib.hid hrr; have HBU5 := Lib.hid hbu5; have HB5 := Lib.hid hb5'; have HBLK := Lib.hid hblk
  clear hrow hb5 hrr hbu5 hb5' e2 e4 e5 e6 e7 hblk hgI HBUF HBF HSZ HIN HIT
  go_loopw [16] (fun v16 w2 => ∃ (j : Nat) (t : List Int), v16 = .int .i64 (j : Int) ∧ j ≤ LI.length ∧ Bu (w.heap.size + 1) t w2 ∧ w2.heap[gI]? = some (.cells CS 55 (0, 0)) ∧ Pg.sayAll LI = (Pg.sayAll (LI.drop j)).map (fun r => t ++ r) ∧ t.length ≤ j * 1000001 ∧ Below w.heap.size w w2 ∧ w.heap.size + 2 ≤ w2.heap.size) (fun v16 _ => LI.length - (intOf v16).toNat)
  case atStart => exact ⟨0, [], rfl, Nat.zero_le _, HBU5.out, HBLK.out, by simp, by simp, HB5.out, hsz5⟩
  case round =>
    obtain ⟨j, t, rfl, hj, hbu, hblk, hsay, htl, hbw, hsz⟩ := hrel
    by_cases hlt : j < LI.length
    · obtain ⟨x, hx⟩ : ∃ x, LI[j]? = some x := ⟨LI[j], by simp [hlt]⟩
      have hmem : x ∈ LI := List.mem_of_getElem? hx
      obtain ⟨h64, hsh, hasc⟩ := HITS.out x hmem
      have hdr : LI.drop j = x :: LI.drop (j + 1) := by rw [List.drop_eq_getElem_cons hlt]; rw [(List.getElem?_eq_some_iff.1 hx).2]
      have hlt' : (j : Int) < (LI.length : Int) := by omega
      rw [hdr] at hsay
      have hcell := fun k (hk : k < 13) => (World.cell?_of_block (a := ⟨gI, j * 13 + k, none⟩) (show wr.heap[gI]? = w5.heap[gI]? from hblk.trans HBLK.out.symm)).trans ((HRR.out j x hx).2 k hk)
      have y0 : wr.cell? ⟨gI, j * 13, none⟩ = some (.int .i64 x.kind) := hcell 0 (by decide)
      have y1 : wr.cell? ⟨gI, j * 13 + 1, none⟩ = some (.int .i64 x.n) := hcell 1 (by decide)
      have y2 : wr.cell? ⟨gI, j * 13 + 2, none⟩ = some (.bool x.secret) := hcell 2 (by decide)
      have y3 : wr.cell? ⟨gI, j * 13 + 3, none⟩ = some (.string (strOfNums x.name)) := hcell 3 (by decide)
      have y4 : wr.cell? ⟨gI, j * 13 + 4, none⟩ = some (.int .i64 x.ins.kind) := hcell 4 (by decide)
      have y5 : wr.cell? ⟨gI, j * 13 + 5, none⟩ = some (.int .i64 x.ins.op) := hcell 5 (by decide)
      have y6 : wr.cell? ⟨gI, j * 13 + 6, none⟩ = some (.int .i64 x.ins.d) := hcell 6 (by decide)
      have y7 : wr.cell? ⟨gI, j * 13 + 7, none⟩ = some (.bool x.ins.a.reg) := hcell 7 (by decide)
      have y8 : wr.cell? ⟨gI, j * 13 + 8, none⟩ = some (.int .i64 x.ins.a.n) := hcell 8 (by decide)
      have y9 : wr.cell? ⟨gI, j * 13 + 9, none⟩ = some (.bool x.ins.b.reg) := hcell 9 (by decide)
      have y10 : wr.cell? ⟨gI, j * 13 + 10, none⟩ = some (.int .i64 x.ins.b.n) := hcell 10 (by decide)
      have y11 : wr.cell? ⟨gI, j * 13 + 11, none⟩ = some (.string (strOfNums x.ins.name)) := hcell 11 (by decide)
      have y12 : wr.cell? ⟨gI, j * 13 + 12, none⟩ = some (.int .i64 x.ins.target) := hcell 12 (by decide)
      have hbua := fun o => Lib.IsBuilderF.alloc (T := 85) (e := 5) hbu o
      have HBUA := Lib.hid hbua; have HBLK2 := Lib.hid hblk; have HSAY := Lib.hid hsay; have HTL := Lib.hid htl; have HBW := Lib.hid hbw; have HSZ := Lib.hid hsz; have H64 := Lib.hid h64; have HSH := Lib.hid hsh; have HASC := Lib.hid hasc
      clear hbua hbu hblk hsay htl hbw hsz h64 hsh hasc hcell hdr hmem
      cases hpr : Sy.print x with
      | none =>
        have HPR := Lib.hid hpr
        clear hpr
        go_wp2_with (go_at_call 32; refine (print_no_ x HPR.out H64.out HSH.out HASC.out _ (HT.out.below (upA HBW.out _))).mono ?_; rintro e w6 ⟨rfl, hb6⟩)
        go_ret2
        refine PrintP.no (by rw [HSAY.out, Pg.sayAll_no HPR.out]; rfl) rfl (upT (upA HBW.out _) hb6)
      | some u =>
        have hul := printed_len H64.out HSH.out hpr
        have HPR := Lib.hid hpr
        clear hpr
        go_wp2_with first
          | (go_at_call 32; refine (print_ok_ x u HPR.out H64.out HSH.out HASC.out _ (HT.out.below (upA HBW.out _))).mono ?_; rintro e w6 ⟨rfl, hb6⟩; have u6 := bu_below (HBUA.out _) hb6; have s6 := hb6.size)
          | (go_at_call 33; refine (wstr (w.heap.size + 1) (w.heap.size + 1) _ (strOfNums u) _ u6 (by rw [strOfNums_size, bu_len]; have := HTL.out; omega) (by have := HSZ.out; simp at s6; omega)).mono ?_; rintro e w7 ⟨rfl, h7, b7, k7⟩; have s7 := b7.size)
          | (go_at_call 34; refine (wbyte (w.heap.size + 1) (w.heap.size + 1) _ 10 _ (.inr h7) (by rw [bu_more, bu_len, List.length_append]; have := HTL.out; omega) (by have := HSZ.out; simp at s6; omega)).mono ?_; rintro e w8 ⟨rfl, h8, b8, k8⟩)
        have hnot : ∀ c fz, (Obj.cells CS 55 (0, 0)) = .cells c 5 fz → False := by intro c fz h; injection h with _ h; exact absurd h (by decide)
        have hgl : gI < wr.heap.size := (Array.getElem?_eq_some_iff.1 HBLK2.out).1
        have blk6 := (hb6.block gI (by simp; omega)).trans ((heap_alloc_old _ _ hgl).trans HBLK2.out)
        have blk8 := k8 _ _ (k7 _ _ blk6 (by simp; omega) hnot) (by simp; omega) hnot
        have hnew : Bu (w.heap.size + 1) (t ++ (u ++ [10])) w8 := by
          refine .inr ?_
          have e : Lib.byteCells (Sn.bb (t ++ (u ++ [10]))) = Lib.byteCells (Sn.bb t) ++ Lib.strCells (strOfNums u) ++ [.int .u8 10] := by rw [bu_more, bu_ten, List.append_assoc]
          rw [e]
          exact h8
        refine ⟨⟨j + 1, t ++ (u ++ [10]), by simp, by omega, hnew, blk8, ?_, ?_, ((upT (upA HBW.out _) hb6).trans (b7.mono (by omega))).trans (b8.mono (by omega)), ?_⟩, by simp [intOf]; omega⟩
        · rw [HSAY.out, Pg.sayAll_yes HPR.out]
          cases Pg.sayAll (LI.drop (j + 1)) <;> simp
        · have := HTL.out
          simp only [List.length_append, List.length_cons, List.length_nil]
          omega
        · have := HSZ.out
          have := b8.size
          simp at s6
          omega
    · have hje : j = LI.length := by omega
      subst hje
      have hlt' : ¬ (LI.length : Int) < (LI.length : Int) := by omega
      rw [List.drop_length] at hsay
      have hsay2 : Pg.sayAll LI = some t := by rw [hsay]; simp [Pg.sayAll]
      have HBU := Lib.hid hbu; have HSAY := Lib.hid hsay2; have HBW := Lib.hid hbw; have HSZ := Lib.hid hsz
      clear hbu hsay hsay2 htl hbw hblk hsz
      go_wp2_with (go_at_call 35; refine (Tryd.Builder_String_any_k (w.heap.size + 1) (w.heap.size + 1) (Sn.bb t) _ HBU.out (by have := HSZ.out; omega)).mono ?_; rintro e w6 ⟨rfl, _, b6, _⟩)
      go_ret2
      exact PrintP.yes HSAY.out rfl (HBW.out.trans (b6.mono (by omega)))
end
end Go.Proofs.YtmghklokbmdenaaDoor
