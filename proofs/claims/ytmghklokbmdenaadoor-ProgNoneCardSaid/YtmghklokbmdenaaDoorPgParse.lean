/- The program's own Parse is what the plain function says. -/
import Derived.Test.YtmghklokbmdenaaDoorPgPar
set_option linter.unusedVariables false
set_option linter.unusedSimpArgs false
namespace Go.Proofs.YtmghklokbmdenaaDoor
open Go.RowKit
attribute [local go_sem] Oper.semAt_some
theorem setRow_same {w : World} {g : Nat} {C : Array Value} {t : TypeId} {fr : Nat × Nat} (h : w.heap[g]? = some (.cells C t fr)) : w.setRow g C = w := by
  have hheap : (w.setRow g C).heap = w.heap := by
    apply Array.ext_getElem?
    intro i
    by_cases e : i = g
    · subst e; rw [setRow_heap w i C C t fr h, h]
    · have e' : ¬ g = i := fun x => e x.symm
      simp [World.setRow, Array.getElem?_modify, e']
  show { w with heap := (w.setRow g C).heap } = w
  rw [hheap]
/-- the zero program stored where it stands -/
theorem step_storeP0 {w : World} {ops : Array Oper} {o : Oper} {a : Act} {K : Act → World → Prop} {Q : Exit → Act → World → Prop} {E : Prop} (hgd : o.guard = none) (x y : Operand) (ho : o.op = .store 29 x y)
    (g : Nat) (hx : a.eval x = .pointer (some ⟨g, 0, none⟩)) (hy : a.eval y = .agg P0A) (t : TypeId) (hg : w.heap[g]? = some (.cells P0A t (0, 0))) (h : K (a.put o.dst undef) w) :
    if Region.wanted o (yielded ops a.tmps) = true then Oper.wp Tryd.prog o a w K Q else E := by
  have hw : Region.wanted o (yielded ops a.tmps) = true := by simp [Region.wanted, hgd]
  rw [if_pos hw]
  refine wp_store_row _ x y ho g _ hx hy t _ hg infoPr rfl (by kernel_rfl) ?_
  rw [setRow_same hg]
  exact h
set_option maxRecDepth 100000 in
set_option maxHeartbeats 32000000 in
theorem parse_prog (d : List UInt8) (hd : d.length ≤ 1000000) (w : World) (T : Sn.Tab w) : Calls Tryd.prog 6 #[bstr d] w (ParG (Pg.parse d) w) := by
  have hmm := @run_makeMap Tryd.prog
  have hW0 := W0of_inv w d
  have hS0 := W0of_size w d
  have hll := Pg.lines_len d.length d (Nat.le_refl _)
  have HW0 := Lib.hid hW0; have HD := Lib.hid hd; have HT := Lib.hid T; have HLL := Lib.hid hll
  clear hW0 hd T hll
  refine (callsIn_wide (n := 0)).1 ?_
  refine callsIn_of_wp_marks Tryd.func6 rfl trivial ?_ rfl
  simp only [Tryd.ntmps6, List.size_toArray, List.length_cons, List.length_nil, Nat.reduceAdd, Nat.reduceSub, Array.replicate_succ, Array.replicate_zero, List.push_toArray, List.append_toArray, List.nil_append, List.cons_append]
  refine wpIn_wide.2 ?_
  go_wp2_with (go_at_call 11; refine (lines_call _ _).mono ?_; rintro e w4 ⟨rfl, rfl⟩)
  simp only [Nat.add_assoc, Nat.reduceAdd]
  change Code.wp _ _ _ _ (W0of w d)
  generalize W0of w d = W0 at *
  refine range_law1 0 (p := 18) (t := 8) (gf := 19) rfl (enters_of Tryd.func19 (by kernel_rfl) rfl) (Pg.raws d).length (fun k => bstr (Pg.headL (Pg.restK k d))) (fun k => Upd (w.heap.size + 7) (Pg.restK (k + 1) d))
    (fun k => PInv w d (w.heap.size + 9) (Pg.restK k d) k) (fun k => PInv w d (w.heap.size + 9) (Pg.restK (k + 1) d) k) (PEnd w d) ?seq HW0.out ?ia ?ip ?ix ?u ?u2 ?asg ?body ?done ?stop
  case seq =>
    intro J Jx W l hJ hY h0
    refine lines_iter 0 d HD.out (w.heap.size + 7) J Jx l (fun k W' hk => ?_) hY W h0
    obtain ⟨W1, h1, h2⟩ := hJ k W' hk
    rw [h2 _ (by omega)]
    exact h1.1.own
  case ia =>
    intro W ob _ hI
    exact hI.fr (T := fun _ => False) (Fr.of_below (upA (up0 _) _)) (fun _ hx => hx.elim)
  case ip =>
    intro k W ob hI _
    rw [hS0]
    exact hI.fr (Fr.putObj W _ _) (fun x hx => by omega)
  case ix =>
    intro W ob hI _
    rw [hS0]
    exact hI.fr (Fr.putObj W _ _) (fun x hx => by omega)
  case u =>
    intro k W W2 hu hI p hp
    obtain ⟨q, rfl⟩ := hu
    exact Below.heap_setCell _ _ _ _ (by show p ≠ w.heap.size + 7; omega)
  case u2 =>
    intro k W W2 ob hu hI _
    rw [hS0]
    exact (hI.upd (by omega) hu).fr (Fr.putObj W2 _ _) (fun x hx => by omega)
  case asg =>
    intro k W K hK
    gi_wp2
    exact hK
  case done =>
    intro W hI hK
    obtain ⟨hb, q, S, hrun, hset, hSL, hSlt⟩ := hI
    have hall : (Pg.lines d).take (Pg.raws d).length = Pg.lines d := by rw [← HLL.out.1]; exact List.take_length
    rw [hall] at hrun
    rw [hS0] at hK
    have hfew := Pg.run_few (N := 1000000) (Pg.lines d) Pg.r0 q 0 0 (fun l hl => Nat.le_trans (Pg.lines_short d.length d (Nat.le_refl _) l hl) HD.out) (Pg.few0 _) hrun
    obtain ⟨b, vM, vL, vI, vA, hri⟩ := hset
    obtain ⟨D, hm, hD⟩ := hri.mid
    obtain ⟨gI, AI, cI, eI, hAI, hcI, hcI2, _⟩ := own_RowR insL_len (by decide) hri.rows.rI
    obtain ⟨gM, AM, cM, eM, _, _, _, _⟩ := own_RowR memC_len (by decide) hri.rows.rM
    obtain ⟨gL, AL, cL, eL, _, _, _, _⟩ := own_RowR labC_len (by decide) hri.rows.rL
    subst eI eM eL
    have HAI := Lib.hid hAI
    clear hAI
    have hpar : Pg.parse d = Pg.finish q (Pg.raws d).length := by unfold Pg.parse; rw [hrun, ← HLL.out.1]
    have c0 : W.cell? ⟨w.heap.size + 5, 0, none⟩ = some (.int .i64 q.p.w) := hm.cell 0
    have c9 : W.cell? ⟨w.heap.size + 5, 9, none⟩ = some (.slice AI q.p.ins.length cI) := hm.cell 9
    have hbig := hb.big
    have HB := Lib.hid hb; have HRI := Lib.hid hri; have HM := Lib.hid hm; have HDD := Lib.hid hD; have HSL := Lib.hid hSL; have HPAR := Lib.hid hpar; have HK := Lib.hid hK; have HFEW := Lib.hid hfew
    clear hb hri hm hD hSL hpar hK hfew hall hrun hSlt
    by_cases h0 : q.p.w = 0
    · have hpe : Pg.parse d = .error ((Pg.raws d).length, 0) := by rw [HPAR.out]; unfold Pg.finish; rw [if_pos (.inl h0)]
      have HPE := Lib.hid hpe
      clear hpe
      rw [h0] at c0
      clear h0
      have q0 := HB.out.prog
      have c6 : W.cell? ⟨w.heap.size + 6, 0, none⟩ = some (.int .i64 (((Pg.raws d).length : Nat) : Int)) := cell_of_row _ _ 0 _ _ _ HB.out.line
      have c1 : W.cell? ⟨w.heap.size + 1, 0, none⟩ = some (.int .i64 0) := cell_of_row _ _ 0 _ _ _ HB.out.r1
      have f1 : W.frozen? ⟨w.heap.size + 1, 0, none⟩ = false := frozen_of_row _ _ _ _ _ HB.out.r1
      have c2 : W.cell? ⟨w.heap.size + 2, 0, none⟩ = some (.int .i64 0) := cell_of_row _ _ 0 _ _ _ HB.out.r2
      have f2 : W.frozen? ⟨w.heap.size + 2, 0, none⟩ = false := frozen_of_row _ _ _ _ _ HB.out.r2
      have c3 : W.cell? ⟨w.heap.size + 3, 0, none⟩ = some (.bool false) := cell_of_row _ _ 0 _ _ _ HB.out.r3
      have f3 : W.frozen? ⟨w.heap.size + 3, 0, none⟩ = false := frozen_of_row _ _ _ _ _ HB.out.r3
      go_wp2_with fail
      refine wp_region_noPanic ?_
      refine wp_region_held_drew (S := fun w' => w'.cell? ⟨w.heap.size + 6, 0, none⟩ = some (.int .i64 (((Pg.raws d).length : Nat) : Int))) (by kernel_rfl) ?_ (fun hHeld => ?_)
      · exact c6
      refine wpAnyH_take (i := 0) (oi := _) (v := ?_) rfl (by kernel_rfl) (by kernel_rfl) (by kernel_rfl) (fun _ _ _ h => h) (Or.inl ⟨by kernel_rfl, ?_⟩) (by assumption) ?_
      rotate_left
      · (intro w hSw; (try dsimp only at hSw); go_simp; try (with_reducible rfl))
      (try simp only [List.getElem_toArray, List.getElem_cons_succ, List.getElem_cons_zero, Act.put, List.setIfInBounds_toArray, List.set_cons_zero, List.set_cons_succ])
      refine wpAnyH_take (i := 1) (oi := _) (v := ?_) rfl (by kernel_rfl) (by kernel_rfl) (by kernel_rfl) (fun _ _ _ h => h) (Or.inl ⟨by kernel_rfl, ?_⟩) (by assumption) ?_
      rotate_left
      · (intro w hSw; (try dsimp only at hSw); go_simp; try (with_reducible rfl))
      (try simp only [List.getElem_toArray, List.getElem_cons_succ, List.getElem_cons_zero, Act.put, List.setIfInBounds_toArray, List.set_cons_zero, List.set_cons_succ])
      refine wpAnyH_ready (rs := [2]) (by kernel_rfl) (by simp) ?_
      refine AllReadyH.cons (o := _) rfl (fun K hK => ?_) AllReadyH.nil
      refine step_storeP0 rfl _ _ rfl w.heap.size rfl rfl _ q0 ?_
      first | refine hK.out _ _ ?_ (fun hHeld => ?_) | (go_wp2_with fail; refine hK.out _ _ ?_ (fun hHeld => ?_))
      · exact c6
      clear hK K
      (try simp only [List.getElem_toArray, List.getElem_cons_succ, List.getElem_cons_zero, Act.put, List.setIfInBounds_toArray, List.set_cons_zero, List.set_cons_succ])
      refine wpAnyH_ready (rs := [3]) (by kernel_rfl) (by simp) ?_
      refine AllReadyH.cons (o := _) rfl (fun K hK => ?_) AllReadyH.nil
      go_simp
      first | refine hK.out _ _ ?_ (fun hHeld => ?_) | (go_wp2_with fail; refine hK.out _ _ ?_ (fun hHeld => ?_))
      · exact set_other c6 (by omega)
      clear hK K
      (try simp only [List.getElem_toArray, List.getElem_cons_succ, List.getElem_cons_zero, Act.put, List.setIfInBounds_toArray, List.set_cons_zero, List.set_cons_succ])
      refine wpAnyH_ready (rs := [4]) (by kernel_rfl) (by simp) ?_
      refine AllReadyH.cons (o := _) rfl (fun K hK => ?_) AllReadyH.nil
      go_simp
      first | refine hK.out _ _ ?_ (fun hHeld => ?_) | (go_wp2_with fail; refine hK.out _ _ ?_ (fun hHeld => ?_))
      · exact set_other (set_other c6 (by omega)) (by omega)
      clear hK K
      (try simp only [List.getElem_toArray, List.getElem_cons_succ, List.getElem_cons_zero, Act.put, List.setIfInBounds_toArray, List.set_cons_zero, List.set_cons_succ])
      refine wpAnyH_ready (rs := [5]) (by kernel_rfl) (by simp) ?_
      refine AllReadyH.cons (o := _) rfl (fun K hK => ?_) AllReadyH.nil
      go_simp
      first | refine hK.out _ _ ?_ (fun hHeld => ?_) | (go_wp2_with fail; refine hK.out _ _ ?_ (fun hHeld => ?_))
      · exact set_other (set_other (set_other c6 (by omega)) (by omega)) (by omega)
      clear hK K
      (try simp only [List.getElem_toArray, List.getElem_cons_succ, List.getElem_cons_zero, Act.put, List.setIfInBounds_toArray, List.set_cons_zero, List.set_cons_succ])
      refine wpAnyH_done (by kernel_rfl) ?_ _
      refine NoPanic.normal ?_
      (try go_simp)
      obtain ⟨E, hE, g1, g2, g3, g4, g5, g6, g7, g8⟩ := HB.out.fin (((Pg.raws d).length : Nat)) 0 false
      rw [← hE]
      go_wp2_with fail
      refine ⟨by simp, .inl ⟨_, _, rfl, run_takeDeferred ((g7 _ (by omega)).trans HK.out), ?_⟩⟩
      have hfp := Fr.putObj E (w.heap.size + 8) (.deferred none)
      have hkp : ∀ j, j < 8 → (E.putObj (w.heap.size + 8) (.deferred none)).heap[w.heap.size + j]? = E.heap[w.heap.size + j]? := fun j hj => hfp.block _ (by omega) (fun hx => by omega)
      refine ⟨_, res4 rfl _ _ w.heap.size (w.heap.size + 1) (w.heap.size + 2) (w.heap.size + 3) P0A (((Pg.raws d).length : Nat) : Int) 0 false rfl rfl rfl rfl rfl ((hkp 0 (by omega)).trans g3) ((hkp 1 (by omega)).trans g4) ((hkp 2 (by omega)).trans g5) ((hkp 3 (by omega)).trans g6), ?_⟩
      refine ⟨g1.trans (hfp.below (fun x hx => by omega) g1.size), ?_⟩
      rw [HPE.out]
      exact rfl
    · have d0 : decide (q.p.w = 0) = false := by simpa using h0
      by_cases h1 : q.p.ins = []
      · have hpe : Pg.parse d = .error ((Pg.raws d).length, 0) := by rw [HPAR.out]; unfold Pg.finish; rw [if_pos (.inr h1)]
        have HPE := Lib.hid hpe
        clear hpe
        have h1l : q.p.ins.length = 0 := by rw [h1]; rfl
        rw [h1l] at c9
        clear h1 h1l
        have q0 := HB.out.prog
        have c6 : W.cell? ⟨w.heap.size + 6, 0, none⟩ = some (.int .i64 (((Pg.raws d).length : Nat) : Int)) := cell_of_row _ _ 0 _ _ _ HB.out.line
        have c1 : W.cell? ⟨w.heap.size + 1, 0, none⟩ = some (.int .i64 0) := cell_of_row _ _ 0 _ _ _ HB.out.r1
        have f1 : W.frozen? ⟨w.heap.size + 1, 0, none⟩ = false := frozen_of_row _ _ _ _ _ HB.out.r1
        have c2 : W.cell? ⟨w.heap.size + 2, 0, none⟩ = some (.int .i64 0) := cell_of_row _ _ 0 _ _ _ HB.out.r2
        have f2 : W.frozen? ⟨w.heap.size + 2, 0, none⟩ = false := frozen_of_row _ _ _ _ _ HB.out.r2
        have c3 : W.cell? ⟨w.heap.size + 3, 0, none⟩ = some (.bool false) := cell_of_row _ _ 0 _ _ _ HB.out.r3
        have f3 : W.frozen? ⟨w.heap.size + 3, 0, none⟩ = false := frozen_of_row _ _ _ _ _ HB.out.r3
        go_wp2_with fail
        refine wp_region_noPanic ?_
        refine wp_region_held_drew (S := fun w' => w'.cell? ⟨w.heap.size + 6, 0, none⟩ = some (.int .i64 (((Pg.raws d).length : Nat) : Int))) (by kernel_rfl) ?_ (fun hHeld => ?_)
        · exact c6
        refine wpAnyH_take (i := 0) (oi := _) (v := ?_) rfl (by kernel_rfl) (by kernel_rfl) (by kernel_rfl) (fun _ _ _ h => h) (Or.inl ⟨by kernel_rfl, ?_⟩) (by assumption) ?_
        rotate_left
        · (intro w hSw; (try dsimp only at hSw); go_simp; try (with_reducible rfl))
        (try simp only [List.getElem_toArray, List.getElem_cons_succ, List.getElem_cons_zero, Act.put, List.setIfInBounds_toArray, List.set_cons_zero, List.set_cons_succ])
        refine wpAnyH_take (i := 1) (oi := _) (v := ?_) rfl (by kernel_rfl) (by kernel_rfl) (by kernel_rfl) (fun _ _ _ h => h) (Or.inl ⟨by kernel_rfl, ?_⟩) (by assumption) ?_
        rotate_left
        · (intro w hSw; (try dsimp only at hSw); go_simp; try (with_reducible rfl))
        (try simp only [List.getElem_toArray, List.getElem_cons_succ, List.getElem_cons_zero, Act.put, List.setIfInBounds_toArray, List.set_cons_zero, List.set_cons_succ])
        refine wpAnyH_ready (rs := [2]) (by kernel_rfl) (by simp) ?_
        refine AllReadyH.cons (o := _) rfl (fun K hK => ?_) AllReadyH.nil
        refine step_storeP0 rfl _ _ rfl w.heap.size rfl rfl _ q0 ?_
        first | refine hK.out _ _ ?_ (fun hHeld => ?_) | (go_wp2_with fail; refine hK.out _ _ ?_ (fun hHeld => ?_))
        · exact c6
        clear hK K
        (try simp only [List.getElem_toArray, List.getElem_cons_succ, List.getElem_cons_zero, Act.put, List.setIfInBounds_toArray, List.set_cons_zero, List.set_cons_succ])
        refine wpAnyH_ready (rs := [3]) (by kernel_rfl) (by simp) ?_
        refine AllReadyH.cons (o := _) rfl (fun K hK => ?_) AllReadyH.nil
        go_simp
        first | refine hK.out _ _ ?_ (fun hHeld => ?_) | (go_wp2_with fail; refine hK.out _ _ ?_ (fun hHeld => ?_))
        · exact set_other c6 (by omega)
        clear hK K
        (try simp only [List.getElem_toArray, List.getElem_cons_succ, List.getElem_cons_zero, Act.put, List.setIfInBounds_toArray, List.set_cons_zero, List.set_cons_succ])
        refine wpAnyH_ready (rs := [4]) (by kernel_rfl) (by simp) ?_
        refine AllReadyH.cons (o := _) rfl (fun K hK => ?_) AllReadyH.nil
        go_simp
        first | refine hK.out _ _ ?_ (fun hHeld => ?_) | (go_wp2_with fail; refine hK.out _ _ ?_ (fun hHeld => ?_))
        · exact set_other (set_other c6 (by omega)) (by omega)
        clear hK K
        (try simp only [List.getElem_toArray, List.getElem_cons_succ, List.getElem_cons_zero, Act.put, List.setIfInBounds_toArray, List.set_cons_zero, List.set_cons_succ])
        refine wpAnyH_ready (rs := [5]) (by kernel_rfl) (by simp) ?_
        refine AllReadyH.cons (o := _) rfl (fun K hK => ?_) AllReadyH.nil
        go_simp
        first | refine hK.out _ _ ?_ (fun hHeld => ?_) | (go_wp2_with fail; refine hK.out _ _ ?_ (fun hHeld => ?_))
        · exact set_other (set_other (set_other c6 (by omega)) (by omega)) (by omega)
        clear hK K
        (try simp only [List.getElem_toArray, List.getElem_cons_succ, List.getElem_cons_zero, Act.put, List.setIfInBounds_toArray, List.set_cons_zero, List.set_cons_succ])
        refine wpAnyH_done (by kernel_rfl) ?_ _
        refine NoPanic.normal ?_
        (try go_simp)
        obtain ⟨E, hE, g1, g2, g3, g4, g5, g6, g7, g8⟩ := HB.out.fin (((Pg.raws d).length : Nat)) 0 false
        rw [← hE]
        go_wp2_with fail
        refine ⟨by simp, .inl ⟨_, _, rfl, run_takeDeferred ((g7 _ (by omega)).trans HK.out), ?_⟩⟩
        have hfp := Fr.putObj E (w.heap.size + 8) (.deferred none)
        have hkp : ∀ j, j < 8 → (E.putObj (w.heap.size + 8) (.deferred none)).heap[w.heap.size + j]? = E.heap[w.heap.size + j]? := fun j hj => hfp.block _ (by omega) (fun hx => by omega)
        refine ⟨_, res4 rfl _ _ w.heap.size (w.heap.size + 1) (w.heap.size + 2) (w.heap.size + 3) P0A (((Pg.raws d).length : Nat) : Int) 0 false rfl rfl rfl rfl rfl ((hkp 0 (by omega)).trans g3) ((hkp 1 (by omega)).trans g4) ((hkp 2 (by omega)).trans g5) ((hkp 3 (by omega)).trans g6), ?_⟩
        refine ⟨g1.trans (hfp.below (fun x hx => by omega) g1.size), ?_⟩
        rw [HPE.out]
        exact rfl
      · have hpos : 0 < q.p.ins.length := by
          rcases Nat.eq_zero_or_pos q.p.ins.length with e | e
          · exact absurd (List.eq_nil_of_length_eq_zero e) h1
          · exact e
        obtain ⟨rfl, _⟩ := HAI.out hpos
        have dl : decide ((q.p.ins.length : Int) = 0) = false := by simp; omega
        have hlz : ¬ q.p.ins.length = 0 := by omega
        have b0 : (q.p.w == 0) = false := by simpa using h0
        have b1 : ((q.p.ins.length : Int) == 0) = false := by simp; omega
        have haim := aim_any (w.heap.size + 5) b q S D _ _ _ vA W HRI.out HM.out HDD.out h1 HFEW.out.ins
        have hfin : Pg.parse d = match Pg.aim q.p.labels q.p.ins q.at_ with
            | .error k => .error (k, 0)
            | .ok is => .ok (Pg.fill { q.p with ins := is }) := by rw [HPAR.out]; unfold Pg.finish; rw [if_neg (by rintro (e | e); exact h0 e; exact h1 e)]; cases Pg.aim q.p.labels q.p.ins q.at_ <;> rfl
        have HFIN := Lib.hid hfin
        clear hfin
        cases hai : Pg.aim q.p.labels q.p.ins q.at_ with
        | error kk =>
          rw [hai] at haim HFIN
          have HAIM := Lib.hid haim
          clear haim hai
          have hSx : ∀ x, S x → x = w.heap.size + 4 ∨ x = w.heap.size + 5 ∨ w.heap.size + 8 ≤ x := fun x hx => by have := HSL.out x hx; omega
          have HSX := Lib.hid hSx
          clear hSx
          go_wp2_with (first | (go_at_call 15; refine HAIM.out.mono ?_; rintro e w6 ⟨rfl, hf6⟩; have hB6 := HB.out.fr hf6 HSX.out; have q0 := hB6.prog; have HB6 := Lib.hid hB6; clear hB6) | (refine wp_storePr rfl _ _ rfl w.heap.size P0A rfl rfl rfl (by kernel_rfl) P0A _ rfl q0 ?_; intro W9 hC9 hf9; have c1 : W9.cell? ⟨w.heap.size + 1, 0, none⟩ = some (.int .i64 0) := hf9.cell (p := ⟨w.heap.size + 1, 0, none⟩) (cell_of_row _ _ 0 _ _ _ HB6.out.r1) (by show w.heap.size + 1 ≠ w.heap.size; omega); have c2 : W9.cell? ⟨w.heap.size + 2, 0, none⟩ = some (.int .i64 0) := hf9.cell (p := ⟨w.heap.size + 2, 0, none⟩) (cell_of_row _ _ 0 _ _ _ HB6.out.r2) (by show w.heap.size + 2 ≠ w.heap.size; omega); have c3 : W9.cell? ⟨w.heap.size + 3, 0, none⟩ = some (.bool false) := hf9.cell (p := ⟨w.heap.size + 3, 0, none⟩) (cell_of_row _ _ 0 _ _ _ HB6.out.r3) (by show w.heap.size + 3 ≠ w.heap.size; omega); have p1 := (hf9.block (w.heap.size + 1) (by have := HB6.out.big; omega) (by omega)).trans HB6.out.r1; have p2 := (hf9.block (w.heap.size + 2) (by have := HB6.out.big; omega) (by omega)).trans HB6.out.r2; have p3 := (hf9.block (w.heap.size + 3) (by have := HB6.out.big; omega) (by omega)).trans HB6.out.r3; have f1 : W9.frozen? ⟨w.heap.size + 1, 0, none⟩ = false := frozen_of_row _ _ _ _ _ p1; have f2 : W9.frozen? ⟨w.heap.size + 2, 0, none⟩ = false := frozen_of_row _ _ _ _ _ p2; have f3 : W9.frozen? ⟨w.heap.size + 3, 0, none⟩ = false := frozen_of_row _ _ _ _ _ p3))
          have hW9 : w.heap.size + 8 < W.heap.size := (Array.getElem?_eq_some_iff.1 HK.out).1
          have hK6 : w6.heap[w.heap.size + 8]? = some (.deferred (some [])) := (hf6.block _ hW9 (fun hx => by have := HSL.out _ hx; omega)).trans HK.out
          have hK9 : W9.heap[w.heap.size + 8]? = some (.deferred (some [])) := (hf9.block _ (by have := hf6.size; omega) (by omega)).trans hK6
          obtain ⟨E, hE, g1, g2, g3, g4, g5, g6, g7, g8⟩ := fin_raw (HB6.out.below.trans (hf9.below (fun x hx => by omega) HB6.out.below.size)) (Nat.le_trans HB6.out.big hf9.size) hC9 p1 p2 p3 (kk : Int) 0 false
          rw [← hE]
          refine ⟨by simp, .inl ⟨_, _, rfl, run_takeDeferred ((g7 _ (by omega)).trans hK9), ?_⟩⟩
          have hfp := Fr.putObj E (w.heap.size + 8) (.deferred none)
          have hkp : ∀ j, j < 8 → (E.putObj (w.heap.size + 8) (.deferred none)).heap[w.heap.size + j]? = E.heap[w.heap.size + j]? := fun j hj => hfp.block _ (by omega) (fun hx => by omega)
          refine ⟨_, res4 rfl _ _ w.heap.size (w.heap.size + 1) (w.heap.size + 2) (w.heap.size + 3) P0A (kk : Int) 0 false rfl rfl rfl rfl rfl ((hkp 0 (by omega)).trans g3) ((hkp 1 (by omega)).trans g4) ((hkp 2 (by omega)).trans g5) ((hkp 3 (by omega)).trans g6), ?_⟩
          refine ⟨g1.trans (hfp.below (fun x hx => by omega) g1.size), ?_⟩
          rw [HFIN.out]
          exact rfl
        | ok js =>
          rw [hai] at haim HFIN
          have HAIM := Lib.hid haim
          clear haim hai
          have hSx : ∀ x, S x → x = w.heap.size + 4 ∨ x = w.heap.size + 5 ∨ w.heap.size + 8 ≤ x := fun x hx => by have := HSL.out x hx; omega
          have HSX := Lib.hid hSx
          clear hSx
          go_wp2_with (first | (go_at_call 15; refine HAIM.out.mono ?_; rintro e w6 ⟨rfl, hm6⟩; have HM6 := Lib.hid hm6; clear hm6) | (go_at_call 16; refine (fill_any W (w.heap.size + 5) b S _ _ _ _ _ D _ _ _ vA w6 HM6.out).mono ?_; rintro e w7 ⟨rfl, hm7⟩; have x0 : w7.cell? ⟨w.heap.size + 5, 0, none⟩ = some (.int .i64 (Pg.fill { q.p with ins := js }).w) := hm7.cell 0; have x1 : w7.cell? ⟨w.heap.size + 5, 1, none⟩ = some (.int .i64 (Pg.fill { q.p with ins := js }).win) := hm7.cell 1; have x2 : w7.cell? ⟨w.heap.size + 5, 2, none⟩ = some (.int .i64 (Pg.fill { q.p with ins := js }).fuel) := hm7.cell 2; have x3 : w7.cell? ⟨w.heap.size + 5, 3, none⟩ = some (.int .i64 ((Pg.fill { q.p with ins := js }).regs.getD 0 0)) := hm7.cell 3; have x4 : w7.cell? ⟨w.heap.size + 5, 4, none⟩ = some (.int .i64 ((Pg.fill { q.p with ins := js }).regs.getD 1 0)) := hm7.cell 4; have x5 : w7.cell? ⟨w.heap.size + 5, 5, none⟩ = some (.int .i64 ((Pg.fill { q.p with ins := js }).regs.getD 2 0)) := hm7.cell 5; have x6 : w7.cell? ⟨w.heap.size + 5, 6, none⟩ = some (.int .i64 ((Pg.fill { q.p with ins := js }).regs.getD 3 0)) := hm7.cell 6; have x7 : w7.cell? ⟨w.heap.size + 5, 7, none⟩ = some (.slice AM q.p.mems.length cM) := hm7.cell 7; have x8 : w7.cell? ⟨w.heap.size + 5, 8, none⟩ = some (.slice AL q.p.labels.length cL) := hm7.cell 8; have x9 : w7.cell? ⟨w.heap.size + 5, 9, none⟩ = some (.slice (some ⟨gI, 0, none⟩) q.p.ins.length cI) := hm7.cell 9; have hB7 := HB.out.fr hm7.fr HSX.out; have q0 := hB7.prog; have HB7 := Lib.hid hB7; have HM7 := Lib.hid hm7; clear hB7 hm7) | (refine wp_storePr rfl _ _ rfl w.heap.size (PrA (Pg.fill { q.p with ins := js }) (.slice AM q.p.mems.length cM) (.slice AL q.p.labels.length cL) (.slice (some ⟨gI, 0, none⟩) q.p.ins.length cI)) rfl rfl rfl (by kernel_rfl) P0A _ rfl q0 ?_; intro W9 hC9 hf9; have c1 : W9.cell? ⟨w.heap.size + 1, 0, none⟩ = some (.int .i64 0) := hf9.cell (p := ⟨w.heap.size + 1, 0, none⟩) (cell_of_row _ _ 0 _ _ _ HB7.out.r1) (by show w.heap.size + 1 ≠ w.heap.size; omega); have c2 : W9.cell? ⟨w.heap.size + 2, 0, none⟩ = some (.int .i64 0) := hf9.cell (p := ⟨w.heap.size + 2, 0, none⟩) (cell_of_row _ _ 0 _ _ _ HB7.out.r2) (by show w.heap.size + 2 ≠ w.heap.size; omega); have c3 : W9.cell? ⟨w.heap.size + 3, 0, none⟩ = some (.bool false) := hf9.cell (p := ⟨w.heap.size + 3, 0, none⟩) (cell_of_row _ _ 0 _ _ _ HB7.out.r3) (by show w.heap.size + 3 ≠ w.heap.size; omega); have p1 := (hf9.block (w.heap.size + 1) (by have := HB7.out.big; omega) (by omega)).trans HB7.out.r1; have p2 := (hf9.block (w.heap.size + 2) (by have := HB7.out.big; omega) (by omega)).trans HB7.out.r2; have p3 := (hf9.block (w.heap.size + 3) (by have := HB7.out.big; omega) (by omega)).trans HB7.out.r3; have f1 : W9.frozen? ⟨w.heap.size + 1, 0, none⟩ = false := frozen_of_row _ _ _ _ _ p1; have f2 : W9.frozen? ⟨w.heap.size + 2, 0, none⟩ = false := frozen_of_row _ _ _ _ _ p2; have f3 : W9.frozen? ⟨w.heap.size + 3, 0, none⟩ = false := frozen_of_row _ _ _ _ _ p3))
          have hm7 := HM7.out
          have hW9 : w.heap.size + 8 < W.heap.size := (Array.getElem?_eq_some_iff.1 HK.out).1
          have hK7 : w7.heap[w.heap.size + 8]? = some (.deferred (some [])) := (hm7.fr.block _ hW9 (fun hx => by have := HSL.out _ hx; omega)).trans HK.out
          have hK9 : W9.heap[w.heap.size + 8]? = some (.deferred (some [])) := (hf9.block _ (by have := hm7.fr.size; omega) (by omega)).trans hK7
          obtain ⟨E, hE, g1, g2, g3, g4, g5, g6, g7, g8⟩ := fin_raw (HB7.out.below.trans (hf9.below (fun x hx => by omega) HB7.out.below.size)) (Nat.le_trans HB7.out.big hf9.size) hC9 p1 p2 p3 0 0 true
          rw [← hE]
          refine ⟨by simp, .inl ⟨_, _, rfl, run_takeDeferred ((g7 _ (by omega)).trans hK9), ?_⟩⟩
          have hfp := Fr.putObj E (w.heap.size + 8) (.deferred none)
          have hkp : ∀ j, j < 8 → (E.putObj (w.heap.size + 8) (.deferred none)).heap[w.heap.size + j]? = E.heap[w.heap.size + j]? := fun j hj => hfp.block _ (by omega) (fun hx => by omega)
          refine ⟨_, res4 rfl _ _ w.heap.size (w.heap.size + 1) (w.heap.size + 2) (w.heap.size + 3) (PrA (Pg.fill { q.p with ins := js }) (.slice AM q.p.mems.length cM) (.slice AL q.p.labels.length cL) (.slice (some ⟨gI, 0, none⟩) q.p.ins.length cI)) 0 0 true rfl rfl rfl rfl rfl ((hkp 0 (by omega)).trans g3) ((hkp 1 (by omega)).trans g4) ((hkp 2 (by omega)).trans g5) ((hkp 3 (by omega)).trans g6), ?_⟩
          refine ⟨g1.trans (hfp.below (fun x hx => by omega) g1.size), ?_⟩
          rw [HFIN.out]
          refine ⟨_, _, _, rfl, ?_⟩
          have hEs : W9.heap.size ≤ E.heap.size := by rw [hE]; simp
          have hfE : Fr (fun x => w.heap.size ≤ x ∧ x < w.heap.size + 4) w7 E := ⟨by rw [hE]; exact hf9.os, by rw [hE]; exact hf9.tape, by rw [hE]; exact hf9.output, Nat.le_trans hf9.size hEs, fun x hx hn => by
            rcases Nat.lt_or_ge x w.heap.size with h | h
            · exact (g8 x h).trans (hf9.block x hx (by omega))
            · exact (g7 x (by omega)).trans (hf9.block x hx (by omega))⟩
          have hfA : Fr (fun x => (w.heap.size ≤ x ∧ x < w.heap.size + 4) ∨ x = w.heap.size + 8) w7 (E.putObj (w.heap.size + 8) (.deferred none)) := (hfE.wider (fun x _ h => .inl h)).trans hfp (fun x hx => .inl (.inr hx))
          have hown : ∀ x, Foot (w.heap.size + 5) b (.slice AM q.p.mems.length cM) (.slice AL q.p.labels.length cL) (.slice (some ⟨gI, 0, none⟩) q.p.ins.length cI) vA x → ¬ ((w.heap.size ≤ x ∧ x < w.heap.size + 4) ∨ x = w.heap.size + 8) := fun x hx h => by
            rcases hm7.foot x hx with h1 | h1
            · have := HSL.out x h1; omega
            · omega
          have hro := hm7.rows
          exact ⟨own_frm hro.rM hfA (fun x hx => hown x (.inr (.inr (.inl hx)))), own_frm hro.rL hfA (fun x hx => hown x (.inr (.inr (.inr (.inl hx))))), own_frm hro.rI hfA (fun x hx => hown x (.inr (.inr (.inr (.inr (.inl hx))))))⟩
  case stop =>
    intro W hI hK
    obtain ⟨hb, hbig, k, m, hrun, q0, q1, q2, q3⟩ := hI
    refine ⟨by simp, .inl ⟨_, _, rfl, run_takeDeferred hK, ?_⟩⟩
    have hf := (Fr.putObj W W0.heap.size (.deferred none))
    have hk : ∀ j, j < 8 → (W.putObj W0.heap.size (.deferred none)).heap[w.heap.size + j]? = W.heap[w.heap.size + j]? := fun j hj => hf.block _ (by omega) (fun hx => by omega)
    refine ⟨_, res4 rfl _ _ w.heap.size (w.heap.size + 1) (w.heap.size + 2) (w.heap.size + 3) P0A k m false rfl rfl rfl rfl rfl ((hk 0 (by omega)).trans q0) ((hk 1 (by omega)).trans q1) ((hk 2 (by omega)).trans q2) ((hk 3 (by omega)).trans q3), ?_⟩
    refine ⟨hb.trans (hf.below (fun x hx => by omega) hb.size), ?_⟩
    unfold Pg.parse
    rw [hrun]
  case body =>
    intro k W hI hk hl hr
    obtain ⟨hb, q, S, hrun, hset, hSL, hSlt⟩ := hI
    have hline := Pg.line_at (d := d) hk
    obtain ⟨hx1, hx2⟩ := Pg.run_next hline hrun
    have hlen1 : (Pg.headL (Pg.restK k d)).length ≤ 1000000 := Nat.le_trans (Nat.le_trans Pg.head_short (Pg.rest_len d k)) HD.out
    have hlen2 : (Lib.trimSuffix (Pg.headL (Pg.restK k d)) [10]).length ≤ 1000000 := Nat.le_trans (Pg.trim_short _) hlen1
    have htrim : ∀ w, Calls Tryd.prog 13 #[bstr (Pg.headL (Pg.restK k d)), .string ⟨#[10]⟩] w (fun e w' => e = .returned (bstr (Lib.trimSuffix (Pg.headL (Pg.restK k d)) [10])) ∧ w' = w) := fun w =>
      Tryd.strings_TrimSuffix ⟨(Pg.headL (Pg.restK k d)).toArray⟩ ⟨#[10]⟩ w (by simp [ByteArray.size]; omega)
    have hkd : k ≤ 1000000 := by have := HLL.out; have := HD.out; omega
    have HTR := Lib.hid htrim; have HX1 := Lib.hid hx1; have HX2 := Lib.hid hx2
    generalize Pg.headL (Pg.restK k d) = hd1 at *
    generalize Lib.trimSuffix hd1 [10] = x at *
    simp only [List.setIfInBounds_toArray, List.set_cons_zero, List.set_cons_succ]
    have HB := Lib.hid hb; have HSET := Lib.hid hset; have HSL := Lib.hid hSL; have HSLT := Lib.hid hSlt; have HR := Lib.hid hr
    have HTW : Hid (Sn.Tab W) := Lib.hid (HT.out.below hb.below)
    have hsz : (⟨x.toArray⟩ : ByteArray).size ≤ 1000000 := by simpa [ByteArray.size] using hlen2
    clear htrim hx1 hx2 hb hset hSL hSlt hr hline
    refine wpIn_block ?_
    cases hit : Pg.item x with
    | error m =>
      have hpc := fun W' (hT : Sn.Tab W') => parse_err_ ⟨x.toArray⟩ m hit hsz W' hT
      have hend := HX1.out m hit
      have HPC := Lib.hid hpc; have HEND := Lib.hid hend
      clear hpc hend hit HX2 HX1
      refine wpIn_seq ?_
      refine wpIn_plain_lit (by rintro ⟨a, w, h⟩; exact h.2.2) (by kernel_rfl) ?_
      go_wp2_with (first | (go_at_call 13; refine (HTR.out _).mono ?_; rintro e w4 ⟨rfl, rfl⟩) | (go_at_call 12; refine (HPC.out _ HTW.out).mono ?_; rintro e w5 ⟨rfl, hb5⟩) | (refine wp_storeNew rfl _ _ rfl Sy.t0 rfl rfl ?_; intro W3 hI3 hc3 hz3))
      have hbW := upT hb5 hc3
      have hB3 := HB.out.fr (T := fun _ => False) (Fr.of_below hbW) (fun _ hx => hx.elim)
      have hLp : ∀ p : Nat, w.heap.size + 8 ≤ p → p ≤ w.heap.size + 9 → W3.heap[p]? = w4.heap[p]? := fun p h1 h2 => hbW.block _ (by omega)
      have q0 := hB3.prog
      have c6 : W3.cell? ⟨w.heap.size + 6, 0, none⟩ = some (.int .i64 (k : Int)) := cell_of_row _ _ 0 _ _ _ hB3.line
      have c1 : W3.cell? ⟨w.heap.size + 1, 0, none⟩ = some (.int .i64 0) := cell_of_row _ _ 0 _ _ _ hB3.r1
      have c2 : W3.cell? ⟨w.heap.size + 2, 0, none⟩ = some (.int .i64 0) := cell_of_row _ _ 0 _ _ _ hB3.r2
      have c3 : W3.cell? ⟨w.heap.size + 3, 0, none⟩ = some (.bool false) := cell_of_row _ _ 0 _ _ _ hB3.r3
      have f1 : W3.frozen? ⟨w.heap.size + 1, 0, none⟩ = false := frozen_of_row _ _ _ _ _ hB3.r1
      have f2 : W3.frozen? ⟨w.heap.size + 2, 0, none⟩ = false := frozen_of_row _ _ _ _ _ hB3.r2
      have f3 : W3.frozen? ⟨w.heap.size + 3, 0, none⟩ = false := frozen_of_row _ _ _ _ _ hB3.r3
      have HB3 := Lib.hid hB3
      clear hB3 hI3 hz3
      gi_wp2
      refine wpIn_heldR (S := fun w' => w'.cell? ⟨w.heap.size + 6, 0, none⟩ = some (.int .i64 (k : Int))) (by rintro ⟨a, w, h⟩; exact h.2.2) (by kernel_rfl) (by kernel_rfl) ?_ (fun hHeld => ?_)
      · exact c6
      refine wpAnyH_take (i := 0) (oi := _) (v := ?_) rfl (by kernel_rfl) (by kernel_rfl) (by kernel_rfl) (fun _ _ _ h => h) (Or.inl ⟨by kernel_rfl, ?_⟩) (by assumption) ?_
      rotate_left
      · (intro w hSw; (try dsimp only at hSw); go_simp; try (with_reducible rfl))
      (try simp only [List.getElem_toArray, List.getElem_cons_succ, List.getElem_cons_zero, Act.put, List.setIfInBounds_toArray, List.set_cons_zero, List.set_cons_succ])
      refine wpAnyH_take (i := 1) (oi := _) (v := ?_) rfl (by kernel_rfl) (by kernel_rfl) (by kernel_rfl) (fun _ _ _ h => h) (Or.inl ⟨by kernel_rfl, ?_⟩) (by assumption) ?_
      rotate_left
      · (intro w hSw; (try dsimp only at hSw); go_simp; try (with_reducible rfl))
      (try simp only [List.getElem_toArray, List.getElem_cons_succ, List.getElem_cons_zero, Act.put, List.setIfInBounds_toArray, List.set_cons_zero, List.set_cons_succ])
      refine wpAnyH_take (i := 2) (oi := _) (v := ?_) rfl (by kernel_rfl) (by kernel_rfl) (by kernel_rfl) (fun _ _ _ h => h) (Or.inl ⟨by kernel_rfl, ?_⟩) (by assumption) ?_
      rotate_left
      · (intro w hSw; (try dsimp only at hSw); go_simp; try (with_reducible rfl))
      (try simp only [List.getElem_toArray, List.getElem_cons_succ, List.getElem_cons_zero, Act.put, List.setIfInBounds_toArray, List.set_cons_zero, List.set_cons_succ])
      refine wpAnyH_ready (rs := [3]) (by kernel_rfl) (by simp) ?_
      refine AllReadyH.cons (o := _) rfl (fun K hK => ?_) AllReadyH.nil
      refine step_storeP0 rfl _ _ rfl w.heap.size rfl rfl _ q0 ?_
      first | refine hK.out _ _ ?_ (fun hHeld => ?_) | (go_wp2_with fail; refine hK.out _ _ ?_ (fun hHeld => ?_))
      · exact c6
      clear hK K
      (try simp only [List.getElem_toArray, List.getElem_cons_succ, List.getElem_cons_zero, Act.put, List.setIfInBounds_toArray, List.set_cons_zero, List.set_cons_succ])
      refine wpAnyH_ready (rs := [4]) (by kernel_rfl) (by simp) ?_
      refine AllReadyH.cons (o := _) rfl (fun K hK => ?_) AllReadyH.nil
      go_simp
      first | refine hK.out _ _ ?_ (fun hHeld => ?_) | (go_wp2_with fail; refine hK.out _ _ ?_ (fun hHeld => ?_))
      · exact set_other c6 (by omega)
      clear hK K
      (try simp only [List.getElem_toArray, List.getElem_cons_succ, List.getElem_cons_zero, Act.put, List.setIfInBounds_toArray, List.set_cons_zero, List.set_cons_succ])
      refine wpAnyH_ready (rs := [5]) (by kernel_rfl) (by simp) ?_
      refine AllReadyH.cons (o := _) rfl (fun K hK => ?_) AllReadyH.nil
      go_simp
      first | refine hK.out _ _ ?_ (fun hHeld => ?_) | (go_wp2_with fail; refine hK.out _ _ ?_ (fun hHeld => ?_))
      · exact set_other (set_other c6 (by omega)) (by omega)
      clear hK K
      (try simp only [List.getElem_toArray, List.getElem_cons_succ, List.getElem_cons_zero, Act.put, List.setIfInBounds_toArray, List.set_cons_zero, List.set_cons_succ])
      refine wpAnyH_ready (rs := [6]) (by kernel_rfl) (by simp) ?_
      refine AllReadyH.cons (o := _) rfl (fun K hK => ?_) AllReadyH.nil
      go_simp
      first | refine hK.out _ _ ?_ (fun hHeld => ?_) | (go_wp2_with fail; refine hK.out _ _ ?_ (fun hHeld => ?_))
      · exact set_other (set_other (set_other c6 (by omega)) (by omega)) (by omega)
      clear hK K
      (try simp only [List.getElem_toArray, List.getElem_cons_succ, List.getElem_cons_zero, Act.put, List.setIfInBounds_toArray, List.set_cons_zero, List.set_cons_succ])
      refine wpAnyH_done (by kernel_rfl) ?_ _
      refine NoPanic.normal ?_
      (try go_simp)
      obtain ⟨E, hE, g1, g2, g3, g4, g5, g6, g7, g8⟩ := HB3.out.fin (k : Int) (m : Int) false
      rw [← hE]
      gi_wp2
      refine ⟨(g7 _ (by omega)).trans (hLp _ (by omega) (by omega)), (g7 _ (by omega)).trans (hLp _ (by omega) (by omega)), g1, g2, k, m, HEND.out, g3, g4, g5, g6⟩
    | ok i =>
      have hpc := fun W' (hT : Sn.Tab W') => parse_ok_ ⟨x.toArray⟩ i hit hsz W' hT
      have hoki : Sy.Ok i := Pg.item_ok hit
      have hnm : i.name.length ≤ 1000000 := Nat.le_trans (Pg.item_short hit).1 hlen2
      have hfew := (Pg.run_few (N := 1000000) ((Pg.lines d).take k) Pg.r0 q 0 0 (fun l hl => Nat.le_trans (Pg.lines_short d.length d (Nat.le_refl _) l (List.mem_of_mem_take hl)) HD.out) (Pg.few0 _) hrun).cnt
      have hcnt : q.p.mems.length + q.p.labels.length ≤ 2000000 := by
        have h1 : ((Pg.lines d).take k).length ≤ k := by rw [List.length_take]; omega
        omega
      have hnext := HX2.out i hit
      have HPC := Lib.hid hpc; have HNX := Lib.hid hnext; have HOK := Lib.hid hoki
      clear hpc hnext hit HX2 HX1 hoki hfew
      refine wpIn_seq ?_
      refine wpIn_plain_lit (by rintro ⟨a, w, h⟩; exact h.2.2) (by kernel_rfl) ?_
      go_wp2_with (first | (go_at_call 13; refine (HTR.out _).mono ?_; rintro e w4 ⟨rfl, rfl⟩) | (go_at_call 12; refine (HPC.out _ HTW.out).mono ?_; rintro e w5 ⟨rfl, hb5⟩) | (refine wp_storeNew rfl _ _ rfl i rfl rfl ?_; intro W3 hI3 hc3 hz3))
      have hbW := upT hb5 hc3
      have hB3 := HB.out.fr (T := fun _ => False) (Fr.of_below hbW) (fun _ hx => hx.elim)
      have hLp : ∀ p : Nat, w.heap.size + 8 ≤ p → p ≤ w.heap.size + 9 → W3.heap[p]? = w4.heap[p]? := fun p h1 h2 => hbW.block _ (by omega)
      have hset3 := HSET.out.up hbW
      have hslt3 : ∀ x, S x → x < W3.heap.size := fun x hx => Nat.lt_of_lt_of_le (HSLT.out x hx) hbW.size
      have hW3s := hbW.size
      have c6 : W3.cell? ⟨w.heap.size + 6, 0, none⟩ = some (.int .i64 (k : Int)) := cell_of_row _ _ 0 _ _ _ hB3.line
      have hadd := add_any (w.heap.size + 5) q S i k W3 hset3 hslt3 HOK.out hnm hcnt hkd
      have HB3 := Lib.hid hB3; have HADD := Lib.hid hadd
      clear hB3 hadd hset3 hslt3 hz3
      refine wpIn_seq ?_
      refine wpIn_seq ?_
      refine wpIn_plain_lit (by rintro ⟨a, w, h⟩; exact h.2.2) (by kernel_rfl) ?_
      go_wp2_with fail
      refine wpIn_cond_false rfl ?_
      refine wpIn_skip ?_
      refine wpIn_seq ?_
      refine wpIn_seq ?_
      refine wpIn_plain_lit (by rintro ⟨a, w, h⟩; exact h.2.2) (by kernel_rfl) ?_
      cases hpa : Pg.add q i k with
      | none =>
        rw [hpa] at HADD
        have hend := HNX.out.1 hpa
        have HEND := Lib.hid hend
        clear hend HNX
        go_wp2_with (first | (refine wp_loadIt rfl _ rfl _ rfl i _ _ hI3 ?_) | (go_at_call 14; refine HADD.out.mono ?_; rintro e w6 ⟨rfl, hf6⟩))
        have hB6 := HB3.out.fr hf6 (fun x hx => by have := HSL.out x hx; omega)
        have hLp6 : ∀ p : Nat, w.heap.size + 8 ≤ p → p ≤ w.heap.size + 9 → w6.heap[p]? = w4.heap[p]? := fun p h1 h2 => (hf6.block p (by omega) (fun hx => by have := HSL.out p hx; omega)).trans (hLp p h1 h2)
        have q0 := hB6.prog
        have c6 : w6.cell? ⟨w.heap.size + 6, 0, none⟩ = some (.int .i64 (k : Int)) := cell_of_row _ _ 0 _ _ _ hB6.line
        have c1 : w6.cell? ⟨w.heap.size + 1, 0, none⟩ = some (.int .i64 0) := cell_of_row _ _ 0 _ _ _ hB6.r1
        have c2 : w6.cell? ⟨w.heap.size + 2, 0, none⟩ = some (.int .i64 0) := cell_of_row _ _ 0 _ _ _ hB6.r2
        have c3 : w6.cell? ⟨w.heap.size + 3, 0, none⟩ = some (.bool false) := cell_of_row _ _ 0 _ _ _ hB6.r3
        have f1 : w6.frozen? ⟨w.heap.size + 1, 0, none⟩ = false := frozen_of_row _ _ _ _ _ hB6.r1
        have f2 : w6.frozen? ⟨w.heap.size + 2, 0, none⟩ = false := frozen_of_row _ _ _ _ _ hB6.r2
        have f3 : w6.frozen? ⟨w.heap.size + 3, 0, none⟩ = false := frozen_of_row _ _ _ _ _ hB6.r3
        have HB6 := Lib.hid hB6
        clear hB6
        refine wpIn_cond_true rfl ?_
        refine wpIn_seq ?_
        refine wpIn_heldR (S := fun w' => w'.cell? ⟨w.heap.size + 6, 0, none⟩ = some (.int .i64 (k : Int))) (by rintro ⟨a, w, h⟩; exact h.2.2) (by kernel_rfl) (by kernel_rfl) ?_ (fun hHeld => ?_)
        · exact c6
        refine wpAnyH_take (i := 0) (oi := _) (v := ?_) rfl (by kernel_rfl) (by kernel_rfl) (by kernel_rfl) (fun _ _ _ h => h) (Or.inl ⟨by kernel_rfl, ?_⟩) (by assumption) ?_
        rotate_left
        · (intro w hSw; (try dsimp only at hSw); go_simp; try (with_reducible rfl))
        (try simp only [List.getElem_toArray, List.getElem_cons_succ, List.getElem_cons_zero, Act.put, List.setIfInBounds_toArray, List.set_cons_zero, List.set_cons_succ])
        refine wpAnyH_take (i := 1) (oi := _) (v := ?_) rfl (by kernel_rfl) (by kernel_rfl) (by kernel_rfl) (fun _ _ _ h => h) (Or.inl ⟨by kernel_rfl, ?_⟩) (by assumption) ?_
        rotate_left
        · (intro w hSw; (try dsimp only at hSw); go_simp; try (with_reducible rfl))
        (try simp only [List.getElem_toArray, List.getElem_cons_succ, List.getElem_cons_zero, Act.put, List.setIfInBounds_toArray, List.set_cons_zero, List.set_cons_succ])
        refine wpAnyH_ready (rs := [2]) (by kernel_rfl) (by simp) ?_
        refine AllReadyH.cons (o := _) rfl (fun K hK => ?_) AllReadyH.nil
        refine step_storeP0 rfl _ _ rfl w.heap.size rfl rfl _ q0 ?_
        first | refine hK.out _ _ ?_ (fun hHeld => ?_) | (go_wp2_with fail; refine hK.out _ _ ?_ (fun hHeld => ?_))
        · exact c6
        clear hK K
        (try simp only [List.getElem_toArray, List.getElem_cons_succ, List.getElem_cons_zero, Act.put, List.setIfInBounds_toArray, List.set_cons_zero, List.set_cons_succ])
        refine wpAnyH_ready (rs := [3]) (by kernel_rfl) (by simp) ?_
        refine AllReadyH.cons (o := _) rfl (fun K hK => ?_) AllReadyH.nil
        go_simp
        first | refine hK.out _ _ ?_ (fun hHeld => ?_) | (go_wp2_with fail; refine hK.out _ _ ?_ (fun hHeld => ?_))
        · exact set_other c6 (by omega)
        clear hK K
        (try simp only [List.getElem_toArray, List.getElem_cons_succ, List.getElem_cons_zero, Act.put, List.setIfInBounds_toArray, List.set_cons_zero, List.set_cons_succ])
        refine wpAnyH_ready (rs := [4]) (by kernel_rfl) (by simp) ?_
        refine AllReadyH.cons (o := _) rfl (fun K hK => ?_) AllReadyH.nil
        go_simp
        first | refine hK.out _ _ ?_ (fun hHeld => ?_) | (go_wp2_with fail; refine hK.out _ _ ?_ (fun hHeld => ?_))
        · exact set_other (set_other c6 (by omega)) (by omega)
        clear hK K
        (try simp only [List.getElem_toArray, List.getElem_cons_succ, List.getElem_cons_zero, Act.put, List.setIfInBounds_toArray, List.set_cons_zero, List.set_cons_succ])
        refine wpAnyH_ready (rs := [5]) (by kernel_rfl) (by simp) ?_
        refine AllReadyH.cons (o := _) rfl (fun K hK => ?_) AllReadyH.nil
        go_simp
        first | refine hK.out _ _ ?_ (fun hHeld => ?_) | (go_wp2_with fail; refine hK.out _ _ ?_ (fun hHeld => ?_))
        · exact set_other (set_other (set_other c6 (by omega)) (by omega)) (by omega)
        clear hK K
        (try simp only [List.getElem_toArray, List.getElem_cons_succ, List.getElem_cons_zero, Act.put, List.setIfInBounds_toArray, List.set_cons_zero, List.set_cons_succ])
        refine wpAnyH_done (by kernel_rfl) ?_ _
        refine NoPanic.normal ?_
        (try go_simp)
        obtain ⟨E, hE, g1, g2, g3, g4, g5, g6, g7, g8⟩ := HB6.out.fin (k : Int) 0 false
        rw [← hE]
        gi_wp2
        refine ⟨(g7 _ (by omega)).trans (hLp6 _ (by omega) (by omega)), (g7 _ (by omega)).trans (hLp6 _ (by omega) (by omega)), g1, g2, k, 0, HEND.out, g3, g4, g5, g6⟩
      | some q' =>
        rw [hpa] at HADD
        have hrun' := HNX.out.2 q' hpa
        have HRUN := Lib.hid hrun'
        clear hrun' HNX
        go_wp2_with (first | (refine wp_loadIt rfl _ rfl _ rfl i _ _ hI3 ?_) | (go_at_call 14; refine HADD.out.mono ?_; rintro e w6 ⟨rfl, S', hset6, hf6, hS6⟩))
        have hB6 := HB3.out.fr hf6 (fun x hx => by have := HSL.out x hx; omega)
        have hLp6 : ∀ p : Nat, w.heap.size + 8 ≤ p → p ≤ w.heap.size + 9 → w6.heap[p]? = w4.heap[p]? := fun p h1 h2 => (hf6.block p (by omega) (fun hx => by have := HSL.out p hx; omega)).trans (hLp p h1 h2)
        have c6 : w6.cell? ⟨w.heap.size + 6, 0, none⟩ = some (.int .i64 (k : Int)) := cell_of_row _ _ 0 _ _ _ hB6.line
        have f6 : w6.frozen? ⟨w.heap.size + 6, 0, none⟩ = false := frozen_of_row _ _ _ _ _ hB6.line
        have HB6 := Lib.hid hB6; have HS6 := Lib.hid hset6; have HSP := Lib.hid hS6
        clear hB6 hset6 hS6
        refine wpIn_cond_false rfl ?_
        refine wpIn_skip ?_
        refine wpIn_plain_lit (by rintro ⟨a, w, h⟩; exact h.2.2) (by kernel_rfl) ?_
        go_wp2_with fail
        have hS7 : ∀ x, S' x → x = w.heap.size + 4 ∨ x = w.heap.size + 5 ∨ w.heap.size + 9 < x := fun x hx => by
          rcases HSP.out x hx with h1 | h1
          · exact HSL.out x h1
          · right; right; omega
        have hfn : Fr (fun x => x = w.heap.size + 6) w6 (w6.setCell ⟨w.heap.size + 6, 0, none⟩ (.int .i64 ((k : Int) + 1))) := Fr.setCell (p := ⟨w.heap.size + 6, 0, none⟩) _
        have ho6 : ∀ p : Nat, w.heap.size + 8 ≤ p → (w6.setCell ⟨w.heap.size + 6, 0, none⟩ (.int .i64 ((k : Int) + 1))).heap[p]? = w6.heap[p]? := fun p hp => Below.heap_setCell _ _ _ _ (by show p ≠ w.heap.size + 6; omega)
        refine ⟨(ho6 _ (by omega)).trans (hLp6 _ (by omega) (by omega)), (ho6 _ (by omega)).trans (hLp6 _ (by omega) (by omega)), HB6.out.next, q', S', HRUN.out, HS6.out.fr hfn (fun x hx e => by rcases hS7 x hx with h | h | h <;> omega), hS7, fun x hx => ?_⟩
        obtain ⟨b, vM, vL, vI, vA, hri⟩ := HS6.out
        have := hri.lt x hx
        rw [World.size_setCell]
        exact this
end Go.Proofs.YtmghklokbmdenaaDoor
