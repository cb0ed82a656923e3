/- Merged: PgIns, PgLab. -/
import Derived.Test.YtmghklokbmdenaaDoorMgPb
set_option linter.unusedVariables false
set_option linter.unusedSimpArgs false
namespace Go.Proofs.YtmghklokbmdenaaDoor
section
open Go.RowKit
theorem infoMm : (Tryd.prog.info? 45).map (fun i => (i.zero, i.size, i.bytes)) = some (some (.agg #[.string ⟨#[]⟩, .bool false, .int .i64 0]), 3, 32) := by kernel_rfl
theorem infoLb : (Tryd.prog.info? 38).map (fun i => (i.zero, i.size, i.bytes)) = some (some (.agg #[.string ⟨#[]⟩, .int .i64 0]), 2, 24) := by kernel_rfl
theorem infoIn : (Tryd.prog.info? 42).map (fun i => (i.zero, i.size, i.bytes)) = some (some (.agg #[.int .i64 0, .int .i64 0, .int .i64 0, .bool false, .int .i64 0, .bool false, .int .i64 0, .string ⟨#[]⟩, .int .i64 0]), 9, 80) := by kernel_rfl
theorem row_cells {w : World} {k : Nat} {cs : Array Value} {t : TypeId} {fr : Nat × Nat} (h : w.heap[k]? = some (.cells cs t fr)) (j : Nat) {v : Value} (hv : cs[j]? = some v) : w.cell? ⟨k, j, none⟩ = some v := (cell_of_row w k j _ _ _ h).trans hv
theorem new_cells (w : World) (C : Array Value) (e : TypeId) (G : Nat) (hG : G = w.heap.size) (j : Nat) (u : Value) (hu : C.toList[j]? = some u) : (w.alloc (.cells C e)).cell? ((⟨G, 0, none⟩ : Addr).add j) = some u := by
  subst hG
  have h1 : (w.alloc (.cells C e)).heap[w.heap.size]? = some (.cells C e (0, 0)) := heap_alloc_new w _
  have hadd : (⟨w.heap.size, 0, none⟩ : Addr).add j = ⟨w.heap.size, j, none⟩ := by
    unfold Addr.add
    split
    · rename_i h0; subst h0; rfl
    · simp
  rw [hadd]
  simp only [World.cell?, h1]
  simpa using hu
theorem insL_one (i : Sy.In) : ∀ u ∈ insL i, u.oneCell' = true := by
  intro u hu
  simp only [insL, InsC, List.mem_cons, List.not_mem_nil, or_false] at hu
  rcases hu with rfl | rfl | rfl | rfl | rfl | rfl | rfl | rfl | rfl <;> rfl
theorem labC_one (i : Pg.Lb) : ∀ u ∈ labC i, u.oneCell' = true := by
  intro u hu
  simp only [labC, List.mem_cons, List.not_mem_nil, or_false] at hu
  rcases hu with rfl | rfl <;> rfl
theorem lnC_one (i : Nat) : ∀ u ∈ lnC i, u.oneCell' = true := by
  intro u hu
  simp only [lnC, List.mem_cons, List.not_mem_nil, or_false] at hu
  subst hu; rfl
theorem memC_one (i : Pg.Mm) : ∀ u ∈ memC i, u.oneCell' = true := by
  intro u hu
  simp only [memC, List.mem_cons, List.not_mem_nil, or_false] at hu
  rcases hu with rfl | rfl | rfl <;> rfl
theorem Pg.add_ins_ok {r : Pg.Rs} {i : Sy.In} {k : Nat} (h : Pg.Inv r) (ho : Sy.OkI i) (h32 : r.p.ins.length < 32) : Pg.Inv { p := { r.p with ins := r.p.ins ++ [i] }, begun := true, at_ := r.at_ ++ [k] } := by
  refine Pg.add_inv (i := ⟨7, 0, false, [], i⟩) (k := k) h (.ins ho) ?_
  unfold Pg.add
  simp only
  rw [if_neg (by decide), if_neg (by decide), if_neg (by decide), if_neg (by decide), if_neg (by decide), if_neg (by decide), if_pos trivial, if_pos h32]
set_option maxRecDepth 100000 in
set_option maxHeartbeats 8000000 in
theorem instr_full (g : Nat) (r : Pg.Rs) (S : Nat → Prop) (i : Sy.In) (k : Nat) (w : World) (hS : RSet w g r S) (h32 : r.p.ins.length = 32) :
    Calls Tryd.prog 29 #[.pointer (some ⟨g, 0, none⟩), IV i, .int .i64 (k : Int)] w (AddP g none S w) := by
  obtain ⟨b, vM, vL, vI, vA, h⟩ := hS
  obtain ⟨D, hm, _⟩ := h.mid
  have hm1 := hm.put (bg' := true) rfl rfl rfl (Fr.setCell (p := ⟨g, 12, none⟩) (.bool true)) (by rw [heap_setCell_same _ g 12 _ _ _ hm.head]; rfl)
  have hm2 := hm1.up (upA (up0 _) (.cells (InsC i.kind i.op i.d i.a i.b (strOfNums i.name) i.target) 42))
  obtain ⟨gk, A, cp, eI, _, _⟩ := own_RowR insL_len (by decide) h.rows.rI
  have c9 : w.cell? ⟨g, 9, none⟩ = some vI := hm.cell 9
  have hgw := h.glt
  have c12 : w.cell? ⟨g, 12, none⟩ = some (.bool r.begun) := hm.cell 12
  have f12 := hm.frz 12
  rw [eI, h32] at c9
  have hF := hm2.fr
  have HF := Lib.hid hF
  obtain ⟨kd, op, d, va, vb, nm, tg⟩ := i
  simp only at hm hm1 hm2 c9 hF HF
  clear hm hm1 hm2 h hF
  go_enter Tryd.func29, Tryd.ntmps29
  go_wp2_with fail
  go_ret
  exact ⟨rfl, HF.out⟩
set_option maxRecDepth 100000 in
set_option maxHeartbeats 8000000 in
theorem instr_ok (g : Nat) (r : Pg.Rs) (S : Nat → Prop) (i : Sy.In) (k : Nat) (w : World) (hS : RSet w g r S) (hlt : ∀ k, S k → k < w.heap.size) (h32 : r.p.ins.length < 32) (ho : Sy.OkI i) (hk : k ≤ 1000000) :
    Calls Tryd.prog 29 #[.pointer (some ⟨g, 0, none⟩), IV i, .int .i64 (k : Int)] w (RdP g { p := { r.p with ins := r.p.ins ++ [i] }, begun := true, at_ := r.at_ ++ [k] } S (.bool true) w) := by
  obtain ⟨b, vM, vL, vI, vA, h⟩ := hS
  obtain ⟨D, hm, hD⟩ := h.mid
  have hinv := Pg.add_ins_ok (k := k) h.inv ho h32
  have hla : r.at_.length = r.p.ins.length := h.inv.at_
  have hm1 := hm.put (bg' := true) rfl rfl rfl (Fr.setCell (p := ⟨g, 12, none⟩) (.bool true)) (by rw [heap_setCell_same _ g 12 _ _ _ hm.head]; rfl)
  have hm2 := hm1.up (upA (up0 _) (.cells (InsC i.kind i.op i.d i.a i.b (strOfNums i.name) i.target) 42))
  have hbox : ((w.setCell ⟨g, 12, none⟩ (.bool true)).alloc (.cells (InsC i.kind i.op i.d i.a i.b (strOfNums i.name) i.target) 42)).heap[w.heap.size]? = some (.cells (InsC i.kind i.op i.d i.a i.b (strOfNums i.name) i.target) 42 (0, 0)) := by
    have := heap_alloc_new (w.setCell ⟨g, 12, none⟩ (.bool true)) (.cells (InsC i.kind i.op i.d i.a i.b (strOfNums i.name) i.target) 42)
    rwa [World.size_setCell] at this
  obtain ⟨gk, A, cp, eI, _, _, _, _⟩ := own_RowR insL_len (by decide) h.rows.rI
  obtain ⟨gA, AA, cA, eA, _, _, _, _⟩ := own_RowR lnC_len (by decide) h.rows.rA
  have c9 : w.cell? ⟨g, 9, none⟩ = some vI := hm.cell 9
  have hgw := h.glt
  have c12 : w.cell? ⟨g, 12, none⟩ = some (.bool r.begun) := hm.cell 12
  have f12 := hm.frz 12
  have hIlt : ∀ k, vI.ownBlock = some k → k < w.heap.size := fun k hk => (h.rows.rI.lt k hk).2
  have hz : ((w.setCell ⟨g, 12, none⟩ (.bool true)).alloc (.cells (InsC i.kind i.op i.d i.a i.b (strOfNums i.name) i.target) 42)).heap.size = w.heap.size + 1 := by simp
  obtain ⟨i0, hi0, hz0, hs0, hb0⟩ := info_parts infoIn
  obtain ⟨i1, hi1, hz1, hs1, hb1⟩ := info_parts infoI
  have HI := Lib.hid hinv; have HD := Lib.hid hD; have HLT := Lib.hid hlt; have HM := Lib.hid hm2; have HBX := Lib.hid hbox; have HZ := Lib.hid hz; have HIL := Lib.hid hIlt; have HLA := Lib.hid hla
  subst eI
  clear hm hm1 hm2 hinv hD hlt h hbox hz hIlt hla
  have hne32 : ¬ (r.p.ins.length : Int) = 32 := by omega
  have hne32' : decide ((r.p.ins.length : Int) = 32) = false := by simpa using hne32
  obtain ⟨kd, op, d, va, vb, nm, tg⟩ := i
  simp only at HM HBX HZ
  go_enter Tryd.func29, Tryd.ntmps29
  go_wp2_with fail
  generalize (w.setCell ⟨g, 12, none⟩ (.bool true)).alloc (.cells (InsC kd op d va vb (strOfNums nm) tg) 42) = W1 at *
  have hm2 := HM.out; have hbox := HBX.out; have hz := HZ.out; have hIlt := HIL.out
  have hHead := hm2.head
  have hgW := hm2.glt
  have c9W : W1.cell? ⟨g, 9, none⟩ = some (.slice A r.p.ins.length cp) := hm2.cell 9
  have hNg : ¬ (Value.slice A r.p.ins.length cp).ownBlock = some g := hm2.ne.2.1.2.2.1
  have hNbB : ¬ (Value.slice A r.p.ins.length cp).ownBlock = some w.heap.size := fun e => by have := hIlt _ e; omega
  have hRow := hm2.rows.rI
  have HRow := Lib.hid hRow; have HHd := Lib.hid hHead; have HBox := Lib.hid hbox; have HM2 := Lib.hid hm2
  clear hm2 hIlt
  have hCk : ∀ W' : World, Fr (fun k => ((.slice A r.p.ins.length cp) : Value).ownBlock = some k) W1 W' → (fun w' => w'.cell? ⟨g, 9, none⟩ = some (.slice A r.p.ins.length cp) ∧ w'.cell? ⟨w.heap.size, 0, none⟩ = some (.int .i64 kd) ∧ w'.cell? ⟨w.heap.size, 1, none⟩ = some (.int .i64 op) ∧ w'.cell? ⟨w.heap.size, 2, none⟩ = some (.int .i64 d) ∧ w'.cell? ⟨w.heap.size, 3, none⟩ = some (.bool va.reg) ∧ w'.cell? ⟨w.heap.size, 4, none⟩ = some (.int .i64 va.n) ∧ w'.cell? ⟨w.heap.size, 5, none⟩ = some (.bool vb.reg) ∧ w'.cell? ⟨w.heap.size, 6, none⟩ = some (.int .i64 vb.n) ∧ w'.cell? ⟨w.heap.size, 7, none⟩ = some (.string (strOfNums nm)) ∧ w'.cell? ⟨w.heap.size, 8, none⟩ = some (.int .i64 tg)) W' := fun W' hf => ⟨hf.cell (p := ⟨g, 9, none⟩) c9W hNg, hf.cell (p := ⟨w.heap.size, 0, none⟩) (row_cells hbox 0 rfl) hNbB, hf.cell (p := ⟨w.heap.size, 1, none⟩) (row_cells hbox 1 rfl) hNbB, hf.cell (p := ⟨w.heap.size, 2, none⟩) (row_cells hbox 2 rfl) hNbB, hf.cell (p := ⟨w.heap.size, 3, none⟩) (row_cells hbox 3 rfl) hNbB, hf.cell (p := ⟨w.heap.size, 4, none⟩) (row_cells hbox 4 rfl) hNbB, hf.cell (p := ⟨w.heap.size, 5, none⟩) (row_cells hbox 5 rfl) hNbB, hf.cell (p := ⟨w.heap.size, 6, none⟩) (row_cells hbox 6 rfl) hNbB, hf.cell (p := ⟨w.heap.size, 7, none⟩) (row_cells hbox 7 rfl) hNbB, hf.cell (p := ⟨w.heap.size, 8, none⟩) (row_cells hbox 8 rfl) hNbB⟩
  refine wp_region_noPanic ?_
  refine wp_region_till 12 (fun w' => w'.cell? ⟨g, 9, none⟩ = some (.slice A r.p.ins.length cp) ∧ w'.cell? ⟨w.heap.size, 0, none⟩ = some (.int .i64 kd) ∧ w'.cell? ⟨w.heap.size, 1, none⟩ = some (.int .i64 op) ∧ w'.cell? ⟨w.heap.size, 2, none⟩ = some (.int .i64 d) ∧ w'.cell? ⟨w.heap.size, 3, none⟩ = some (.bool va.reg) ∧ w'.cell? ⟨w.heap.size, 4, none⟩ = some (.int .i64 va.n) ∧ w'.cell? ⟨w.heap.size, 5, none⟩ = some (.bool vb.reg) ∧ w'.cell? ⟨w.heap.size, 6, none⟩ = some (.int .i64 vb.n) ∧ w'.cell? ⟨w.heap.size, 7, none⟩ = some (.string (strOfNums nm)) ∧ w'.cell? ⟨w.heap.size, 8, none⟩ = some (.int .i64 tg)) (by kernel_rfl) ?_ (fun hHeld => ?_)
  · exact hCk _ (Fr.of_below (upD (up0 _) 1))
  refine wpTill_take (i := 0) (oi := _) (v := ?_) rfl (by kernel_rfl) (by kernel_rfl) (by kernel_rfl) (fun _ _ _ h => h) (by kernel_rfl) (by kernel_rfl) (Or.inl ⟨by kernel_rfl, ?_⟩) (by assumption) ?_
  rotate_left
  · (intro w hSw; (try dsimp only at hSw); go_simp; (try with_reducible rfl))
  (try simp only [List.getElem_toArray, List.getElem_cons_succ, List.getElem_cons_zero, Act.put, List.setIfInBounds_toArray, List.set_cons_zero, List.set_cons_succ])
  refine wpTill_take (i := 1) (oi := _) (v := ?_) rfl (by kernel_rfl) (by kernel_rfl) (by kernel_rfl) (fun _ _ _ h => h) (by kernel_rfl) (by kernel_rfl) (Or.inl ⟨by kernel_rfl, ?_⟩) (by assumption) ?_
  rotate_left
  · (intro w hSw; (try dsimp only at hSw); go_simp; (try with_reducible rfl))
  (try simp only [List.getElem_toArray, List.getElem_cons_succ, List.getElem_cons_zero, Act.put, List.setIfInBounds_toArray, List.set_cons_zero, List.set_cons_succ])
  refine wpTill_take (i := 2) (oi := _) (v := ?_) rfl (by kernel_rfl) (by kernel_rfl) (by kernel_rfl) (fun _ _ _ h => h) (by kernel_rfl) (by kernel_rfl) (Or.inl ⟨by kernel_rfl, ?_⟩) (by assumption) ?_
  rotate_left
  · (intro w hSw; (try dsimp only at hSw); go_simp; (try with_reducible rfl))
  (try simp only [List.getElem_toArray, List.getElem_cons_succ, List.getElem_cons_zero, Act.put, List.setIfInBounds_toArray, List.set_cons_zero, List.set_cons_succ])
  refine wpTill_take (i := 3) (oi := _) (v := ?_) rfl (by kernel_rfl) (by kernel_rfl) (by kernel_rfl) (fun _ _ _ h => h) (by kernel_rfl) (by kernel_rfl) (Or.inl ⟨by kernel_rfl, ?_⟩) (by assumption) ?_
  rotate_left
  · (intro w hSw; (try dsimp only at hSw); go_simp; (try with_reducible rfl))
  (try simp only [List.getElem_toArray, List.getElem_cons_succ, List.getElem_cons_zero, Act.put, List.setIfInBounds_toArray, List.set_cons_zero, List.set_cons_succ])
  refine wpTill_take (i := 4) (oi := _) (v := ?_) rfl (by kernel_rfl) (by kernel_rfl) (by kernel_rfl) (fun _ _ _ h => h) (by kernel_rfl) (by kernel_rfl) (Or.inl ⟨by kernel_rfl, ?_⟩) (by assumption) ?_
  rotate_left
  · (intro w hSw; (try dsimp only at hSw); go_simp; (try with_reducible rfl))
  (try simp only [List.getElem_toArray, List.getElem_cons_succ, List.getElem_cons_zero, Act.put, List.setIfInBounds_toArray, List.set_cons_zero, List.set_cons_succ])
  refine wpTill_take (i := 5) (oi := _) (v := ?_) rfl (by kernel_rfl) (by kernel_rfl) (by kernel_rfl) (fun _ _ _ h => h) (by kernel_rfl) (by kernel_rfl) (Or.inl ⟨by kernel_rfl, ?_⟩) (by assumption) ?_
  rotate_left
  · (intro w hSw; (try dsimp only at hSw); go_simp; (try with_reducible rfl))
  (try simp only [List.getElem_toArray, List.getElem_cons_succ, List.getElem_cons_zero, Act.put, List.setIfInBounds_toArray, List.set_cons_zero, List.set_cons_succ])
  refine wpTill_take (i := 6) (oi := _) (v := ?_) rfl (by kernel_rfl) (by kernel_rfl) (by kernel_rfl) (fun _ _ _ h => h) (by kernel_rfl) (by kernel_rfl) (Or.inl ⟨by kernel_rfl, ?_⟩) (by assumption) ?_
  rotate_left
  · (intro w hSw; (try dsimp only at hSw); go_simp; (try with_reducible rfl))
  (try simp only [List.getElem_toArray, List.getElem_cons_succ, List.getElem_cons_zero, Act.put, List.setIfInBounds_toArray, List.set_cons_zero, List.set_cons_succ])
  refine wpTill_one (i := 7) (o := _) (by kernel_rfl) rfl (fun K hK => ?_)
  go_simp
  first | refine hK.out _ _ (fun _ => ?_) (fun hHeld => ?_) | (go_wp2_with fail; refine hK.out _ _ (fun _ => ?_) (fun hHeld => ?_))
  · exact hCk _ (Fr.of_below (upD (upA (up0 _) _) 1))
  replace hHeld := hHeld (by kernel_rfl)
  clear hK K
  (try simp only [List.getElem_toArray, List.getElem_cons_succ, List.getElem_cons_zero, Act.put, List.setIfInBounds_toArray, List.set_cons_zero, List.set_cons_succ])
  refine wpTill_one (i := 8) (o := _) (by kernel_rfl) rfl (fun K hK => ?_)
  refine step_append_lies _ rfl (.tmp 22) (.tmp 24) 27 rfl 0 42 i0 _ 9 80 Tryd.underlying27 hi0 hz0 hs0 hb0 rfl (by omega) _ r.p.ins.length (flt insL r.p.ins) rfl (hRow.alloc _) ⟨w.heap.size + 1, 0, none⟩ 1 1 (insL ⟨kd, op, d, va, vb, nm, tg⟩) rfl (by rw [insL_len]) (fun j u hu => new_cells _ _ _ _ (hz.symm) j u hu) (insL_one _) (by omega) (by simp only [maxLen]; omega) (by omega) (by omega) (W1.heap.size + 1) (by simp) ?_
  intro gk cap w5 hown5 hgr5 hat5 hlt5
  first | refine hK.out _ _ (fun _ => ?_) (fun hHeld => ?_) | (go_wp2_with fail; refine hK.out _ _ (fun _ => ?_) (fun hHeld => ?_))
  · exact hCk _ ((Fr.of_below (S := fun k => ((.slice A r.p.ins.length cp) : Value).ownBlock = some k) (upD (upA (up0 _) _) 1)).trans (Fr.of_grown hgr5) (fun x hx => .inl hx))
  replace hHeld := hHeld (by kernel_rfl)
  clear hK K
  (try simp only [List.getElem_toArray, List.getElem_cons_succ, List.getElem_cons_zero, Act.put, List.setIfInBounds_toArray, List.set_cons_zero, List.set_cons_succ])
  refine wpTill_one (i := 9) (o := _) (by kernel_rfl) rfl (fun K hK => ?_)
  go_simp
  first | refine hK.out _ _ (fun _ => ?_) (fun hHeld => ?_) | (go_wp2_with fail; refine hK.out _ _ (fun _ => ?_) (fun hHeld => ?_))
  · exact hCk _ ((Fr.of_below (S := fun k => ((.slice A r.p.ins.length cp) : Value).ownBlock = some k) (upD (upA (up0 _) _) 1)).trans (Fr.of_grown hgr5) (fun x hx => .inl hx))
  replace hHeld := hHeld (by kernel_rfl)
  clear hK K
  (try simp only [List.getElem_toArray, List.getElem_cons_succ, List.getElem_cons_zero, Act.put, List.setIfInBounds_toArray, List.set_cons_zero, List.set_cons_succ])
  refine wpTill_one (i := 10) (o := _) (by kernel_rfl) rfl (fun K hK => ?_)
  go_simp
  first | refine hK.out _ _ (fun _ => ?_) (fun hHeld => ?_) | (go_wp2_with fail; refine hK.out _ _ (fun _ => ?_) (fun hHeld => ?_))
  · exact hCk _ ((Fr.of_below (S := fun k => ((.slice A r.p.ins.length cp) : Value).ownBlock = some k) (upD (upA (up0 _) _) 1)).trans (Fr.of_grown hgr5) (fun x hx => .inl hx))
  replace hHeld := hHeld (by kernel_rfl)
  clear hK K
  (try simp only [List.getElem_toArray, List.getElem_cons_succ, List.getElem_cons_zero, Act.put, List.setIfInBounds_toArray, List.set_cons_zero, List.set_cons_succ])
  refine wpTill_one (i := 11) (o := _) (by kernel_rfl) rfl (fun K hK => ?_)
  go_simp
  first | refine hK.out _ _ (fun _ => ?_) (fun hHeld => ?_) | (go_wp2_with fail; refine hK.out _ _ (fun _ => ?_) (fun hHeld => ?_))
  · exact hCk _ ((Fr.of_below (S := fun k => ((.slice A r.p.ins.length cp) : Value).ownBlock = some k) (upD (upA (up0 _) _) 1)).trans (Fr.of_grown hgr5) (fun x hx => .inl hx))
  replace hHeld := hHeld (by kernel_rfl)
  clear hK K
  (try simp only [List.getElem_toArray, List.getElem_cons_succ, List.getElem_cons_zero, Act.put, List.setIfInBounds_toArray, List.set_cons_zero, List.set_cons_succ])
  have hF5 : Fr (fun k => ((.slice A r.p.ins.length cp) : Value).ownBlock = some k) W1 w5 := (Fr.of_below (S := fun k => ((.slice A r.p.ins.length cp) : Value).ownBlock = some k) (upD (upA (up0 _) _) 1)).trans (Fr.of_grown hgr5) (fun x hx => .inl hx)
  have hd5 := (hF5.block g hgW hNg).trans hHead
  have c5 : w5.cell? ⟨g, 9, none⟩ = some (.slice A r.p.ins.length cp) := hF5.cell (p := ⟨g, 9, none⟩) c9W hNg
  have fr5 : w5.frozen? ⟨g, 9, none⟩ = false := frozen_of_row _ _ _ _ _ hd5
  refine wpTill_one (i := 12) (o := _) (by kernel_rfl) rfl (fun K hK => ?_)
  go_simp
  refine hK.out _ _ (fun h => absurd h (by simp)) (fun hHeld => ?_)
  clear hK K
  (try simp only [List.getElem_toArray, List.getElem_cons_succ, List.getElem_cons_zero, Act.put, List.setIfInBounds_toArray, List.set_cons_zero, List.set_cons_succ])
  refine wpTill_done (by kernel_rfl) ?_ _
  refine NoPanic.normal ?_
  (try go_simp)
  have hm3 := HM2.out.appI (a := ⟨kd, op, d, va, vb, nm, tg⟩) (upD (upA (up0 _) _) 1) hown5 hgr5 (hat5.imp id (fun e => by rw [e]; simp))
  clear c5 fr5 hd5 hF5 hCk hlt5 hat5 hgr5 hown5 hRow hHead hbox HRow HHd HBox HM2 HM HBX HZ HIL hz c9W hNg hNbB hgW
  generalize w5.setCell ⟨g, 9, none⟩ (.slice (some ⟨gk, 0, none⟩) (r.p.ins.length + 1) cap) = W2 at *
  have hla : r.at_.length < 32 := by rw [HLA.out]; exact h32
  subst eA
  have hHead := hm3.head
  have hgW := hm3.glt
  have c13W : W2.cell? ⟨g, 13, none⟩ = some (.slice AA r.at_.length cA) := hm3.cell 13
  have hNg : ¬ (Value.slice AA r.at_.length cA).ownBlock = some g := hm3.ne.2.1.2.2.2
  have hRow := hm3.rows.rA
  have HM3 := Lib.hid hm3
  clear hm3
  go_wp2_with (at_builtin; refine wpList_append_lies _ rfl (.tmp 33) (.tmp 35) 48 rfl 0 3 i1 _ 1 8 Tryd.underlying48 hi1 hz1 hs1 hb1 rfl (by omega) _ r.at_.length (flt lnC r.at_) rfl (hRow.alloc _) ⟨W2.heap.size, 0, none⟩ 1 1 (lnC k) rfl (by rw [lnC_len]) (fun j u hu => new_cells _ _ _ _ (rfl) j u hu) (lnC_one _) (by omega) (by simp only [maxLen]; omega) (by omega) (by omega) (W2.heap.size + 1) (by simp) ?_; intro gk cap w5 hown5 hgr5 hat5 hlt5; have hF5 : Fr (fun k => ((.slice AA r.at_.length cA) : Value).ownBlock = some k) W2 w5 := (Fr.of_below (S := fun k => ((.slice AA r.at_.length cA) : Value).ownBlock = some k) (upA (up0 _) _)).trans (Fr.of_grown hgr5) (fun x hx => .inl hx); have hd5 := (hF5.block g hgW hNg).trans hHead; have c5 : w5.cell? ⟨g, 13, none⟩ = some (.slice AA r.at_.length cA) := hF5.cell (p := ⟨g, 13, none⟩) c13W hNg; have fr5 : w5.frozen? ⟨g, 13, none⟩ = false := frozen_of_row _ _ _ _ _ hd5)
  have hm4 := HM3.out.appA (a := k) (upA (up0 _) _) hown5 hgr5 (hat5.imp id (fun e => by rw [e]; simp))
  go_ret
  exact hm4.done (r := { p := { r.p with ins := r.p.ins ++ [⟨kd, op, d, va, vb, nm, tg⟩] }, begun := true, at_ := r.at_ ++ [k] }) (HD.out.same rfl rfl) HI.out HLT.out
end
end Go.Proofs.YtmghklokbmdenaaDoor
namespace Go.Proofs.YtmghklokbmdenaaDoor
section
open Go.RowKit
theorem okName_isB {t : List Int} (h : Sy.okName t) : Cd.isB t := fun c hc => by have := okName_lt h c hc; omega
theorem Pg.add_lab_ok {r : Pg.Rs} {t : List Int} (h : Pg.Inv r) (ho : Sy.okName t) (hk : Pg.known r.p t = false) : Pg.Inv { r with p := { r.p with labels := r.p.labels ++ [⟨t, (r.p.ins.length : Int)⟩] }, begun := true } := by
  refine Pg.add_inv (i := ⟨6, 0, false, t, Sy.i0⟩) (k := 0) h (.label ho) ?_
  unfold Pg.add
  simp only
  rw [if_neg (by decide), if_neg (by decide), if_neg (by decide), if_neg (by decide), if_neg (by decide), if_pos trivial, if_pos hk]
/-- what name's contract says where the name is told, and where it is not -/
theorem NameP.told {b n : Nat} {D : DataW Unit} {t : List Int} {a : Int} {w : World} {e : Ending} {w' : World} (h : NameP b n D t a w e w') (hk : Maps.has D (klit t) = true) : e = .returned (.bool false) ∧ w' = w := by unfold NameP at h; rwa [if_pos hk] at h
theorem NameP.new {b n : Nat} {D : DataW Unit} {t : List Int} {a : Int} {w : World} {e : Ending} {w' : World} (h : NameP b n D t a w e w') (hk : Maps.has D (klit t) = false) : e = .returned (.bool true) ∧ NMap w' b (n + 1) (D.put (klit t) (.lit (.int .i64 a))) ∧ Fr (fun k => k = b) w w' := by unfold NameP at h; rwa [if_neg (by rw [hk]; simp)] at h
set_option maxRecDepth 100000 in
set_option maxHeartbeats 8000000 in
theorem label_told (g : Nat) (r : Pg.Rs) (S : Nat → Prop) (t : List Int) (w : World) (hS : RSet w g r S) (ht : Cd.isB t) (hl : t.length ≤ 1000000) (hcnt : r.p.mems.length + r.p.labels.length ≤ 2000000) (hk : Pg.known r.p t = true) :
    Calls Tryd.prog 28 #[.pointer (some ⟨g, 0, none⟩), .string (strOfNums t)] w (AddP g none S w) := by
  obtain ⟨b, vM, vL, vI, vA, h⟩ := hS
  obtain ⟨D, hm, hD⟩ := h.mid
  have hm1 := hm.put (bg' := true) rfl rfl rfl (Fr.setCell (p := ⟨g, 12, none⟩) (.bool true)) (by rw [heap_setCell_same _ g 12 _ _ _ hm.head]; rfl)
  obtain ⟨gk, A, cp, eI, _, _, _, _⟩ := own_RowR insL_len (by decide) h.rows.rI
  have c9 : w.cell? ⟨g, 9, none⟩ = some vI := hm.cell 9
  have hgw := h.glt
  have c12 : w.cell? ⟨g, 12, none⟩ = some (.bool r.begun) := hm.cell 12
  have f12 := hm.frz 12
  have hfew := h.inv.few
  have hname := name_any g b _ D t (r.p.ins.length : Int) (w.setCell ⟨g, 12, none⟩ (.bool true)) (hm1.cell 11) hm1.map hl (by unfold I64; omega) hcnt
  have hhas : Maps.has D (klit t) = true := by rw [(hD t ht).1, hk]
  have HH := Lib.hid hhas
  have hF := hm1.fr
  have HF := Lib.hid hF
  subst eI
  clear hm hm1 hD h hhas hF hk ht
  generalize hs : strOfNums t = s at *
  have HN := Lib.hid hname
  clear hname hs
  go_enter Tryd.func28, Tryd.ntmps28
  go_wp2_with (go_at_call 46; refine HN.out.mono ?_; intro e w4 hp4; obtain ⟨rfl, rfl⟩ := hp4.told HH.out; clear hp4)
  go_ret
  exact ⟨rfl, HF.out⟩
set_option maxRecDepth 100000 in
set_option maxHeartbeats 8000000 in
theorem label_ok (g : Nat) (r : Pg.Rs) (S : Nat → Prop) (t : List Int) (w : World) (hS : RSet w g r S) (hlt : ∀ k, S k → k < w.heap.size) (ho : Sy.okName t) (hl : t.length ≤ 1000000) (hcnt : r.p.mems.length + r.p.labels.length ≤ 2000000) (hk : Pg.known r.p t = false) :
    Calls Tryd.prog 28 #[.pointer (some ⟨g, 0, none⟩), .string (strOfNums t)] w (RdP g { r with p := { r.p with labels := r.p.labels ++ [⟨t, (r.p.ins.length : Int)⟩] }, begun := true } S (.bool true) w) := by
  obtain ⟨b, vM, vL, vI, vA, h⟩ := hS
  obtain ⟨D, hm, hD⟩ := h.mid
  have ht := okName_isB ho
  have hinv := Pg.add_lab_ok h.inv ho hk
  have hm1 := hm.put (bg' := true) rfl rfl rfl (Fr.setCell (p := ⟨g, 12, none⟩) (.bool true)) (by rw [heap_setCell_same _ g 12 _ _ _ hm.head]; rfl)
  obtain ⟨gk, A, cp, eI, _, _, _, _⟩ := own_RowR insL_len (by decide) h.rows.rI
  obtain ⟨gL, AA, cL, eL, _, _, _, _⟩ := own_RowR labC_len (by decide) h.rows.rL
  have c9 : w.cell? ⟨g, 9, none⟩ = some vI := hm.cell 9
  have hgw := h.glt
  have c12 : w.cell? ⟨g, 12, none⟩ = some (.bool r.begun) := hm.cell 12
  have f12 := hm.frz 12
  have hfew := h.inv.few
  have hname := name_any g b _ D t (r.p.ins.length : Int) (w.setCell ⟨g, 12, none⟩ (.bool true)) (hm1.cell 11) hm1.map hl (by unfold I64; omega) hcnt
  have hhas : Maps.has D (klit t) = false := by rw [(hD t ht).1, hk]
  have hD' := hD.label hm.map.isMap ht hk (r.p.ins.length : Int)
  obtain ⟨i0, hi0, hz0, hs0, hb0⟩ := info_parts infoLb
  have HH := Lib.hid hhas; have HI := Lib.hid hinv; have HD := Lib.hid hD'; have HLT := Lib.hid hlt; have HM := Lib.hid hm1
  subst eI
  clear hm hm1 hD h hhas hk ht hD' hinv hlt ho
  have HN := Lib.hid hname
  clear hname
  go_enter Tryd.func28, Tryd.ntmps28
  go_wp2_with (first | (go_at_call 46; refine HN.out.mono ?_; intro e w4 hp4; obtain ⟨rfl, hmp, hfr⟩ := hp4.new HH.out; clear hp4; have hm2 := HM.out.name hfr hmp; clear hmp hfr HM HN; subst eL; have hHead := hm2.head; have hgW := hm2.glt; have c8W : w4.cell? ⟨g, 8, none⟩ = some (.slice AA r.p.labels.length cL) := hm2.cell 8; have f8 := hm2.frz 8; have hNg : ¬ (Value.slice AA r.p.labels.length cL).ownBlock = some g := hm2.ne.2.1.2.1; have hRow := hm2.rows.rL; have HM2 := Lib.hid hm2; clear hm2) | (at_builtin; refine wpList_append_lies _ rfl (.tmp 25) (.tmp 29) 26 rfl 0 38 i0 _ 2 24 Tryd.underlying26 hi0 hz0 hs0 hb0 rfl (by omega) _ r.p.labels.length (flt labC r.p.labels) rfl (hRow.alloc _) ⟨w4.heap.size, 0, none⟩ 1 1 (labC ⟨t, (r.p.ins.length : Int)⟩) rfl (by rw [labC_len]) (fun j u hu => new_cells _ _ _ _ (rfl) j u hu) (labC_one _) (by omega) (by simp only [maxLen]; omega) (by omega) (by omega) (w4.heap.size + 1) (by simp) ?_; intro gk cap w5 hown5 hgr5 hat5 hlt5; have hF5 : Fr (fun k => ((.slice AA r.p.labels.length cL) : Value).ownBlock = some k) w4 w5 := (Fr.of_below (S := fun k => ((.slice AA r.p.labels.length cL) : Value).ownBlock = some k) (upA (up0 _) _)).trans (Fr.of_grown hgr5) (fun x hx => .inl hx); have hd5 := (hF5.block g hgW hNg).trans hHead; have c5 : w5.cell? ⟨g, 8, none⟩ = some (.slice AA r.p.labels.length cL) := hF5.cell (p := ⟨g, 8, none⟩) c8W hNg; have fr5 : w5.frozen? ⟨g, 8, none⟩ = false := frozen_of_row _ _ _ _ _ hd5))
  have hm3 := HM2.out.appL (a := ⟨t, (r.p.ins.length : Int)⟩) (upA (up0 _) _) hown5 hgr5 (hat5.imp id (fun e => by rw [e]; simp))
  go_ret
  exact hm3.fin { r with p := { r.p with labels := r.p.labels ++ [⟨t, (r.p.ins.length : Int)⟩] }, begun := true } rfl rfl rfl rfl (by simp; omega) HD.out HI.out HLT.out
end
end Go.Proofs.YtmghklokbmdenaaDoor
