/- The reader's aim and fill. -/
import Derived.Test.YtmghklokbmdenaaDoorPgAdd2
set_option linter.unusedVariables false
set_option linter.unusedSimpArgs false
namespace Go.Proofs.YtmghklokbmdenaaDoor
open Go.RowKit
namespace Pg
theorem aim_nil (ls : List Lb) (ks : List Nat) : aim ls [] ks = .ok [] := by cases ks <;> rfl
def glueA (pre : List Sy.In) : Except Nat (List Sy.In) → Except Nat (List Sy.In)
  | .error e => .error e
  | .ok r => .ok (pre ++ r)
theorem glueA_nil (x : Except Nat (List Sy.In)) : glueA [] x = x := by cases x <;> rfl
theorem glueA_app (a b : List Sy.In) (x : Except Nat (List Sy.In)) : glueA a (glueA b x) = glueA (a ++ b) x := by
  cases x with
  | error e => rfl
  | ok r => simp [glueA]
theorem aim_plain {ls : List Lb} {i : Sy.In} {is : List Sy.In} {k : Nat} {ks : List Nat} (h : goes i = false) : aim ls (i :: is) (k :: ks) = glueA [i] (aim ls is ks) := by
  rw [aim, if_neg (by rw [h]; simp)]
  cases aim ls is ks <;> rfl
theorem aim_goes {ls : List Lb} {i : Sy.In} {is : List Sy.In} {k : Nat} {ks : List Nat} {t : Int} (h : goes i = true) (hl : labelOf i.name ls = some t) : aim ls (i :: is) (k :: ks) = glueA [{ i with name := [], target := t }] (aim ls is ks) := by
  rw [aim, if_pos h, hl]
  simp only
  cases aim ls is ks <;> rfl
theorem aim_none {ls : List Lb} {i : Sy.In} {is : List Sy.In} {k : Nat} {ks : List Nat} (h : goes i = true) (hl : labelOf i.name ls = none) : aim ls (i :: is) (k :: ks) = .error k := by
  rw [aim, if_pos h, hl]
end Pg
theorem flt_aimed (pre : List Sy.In) (i : Sy.In) (rest : List Sy.In) (t : Int) : ((flt insL (pre ++ i :: rest)).set (pre.length * 9 + 7) (.string ⟨#[]⟩)).set (pre.length * 9 + 8) (.int .i64 t) = flt insL ((pre ++ [{ i with name := [], target := t }]) ++ rest) := by
  have e0 : flt insL (pre ++ i :: rest) = flt insL pre ++ (insL i ++ flt insL rest) := by rw [flt_app]; rfl
  have hl : (flt insL pre).length = pre.length * 9 := flt_len insL insL_len pre
  rw [e0, List.set_append_right _ _ (by rw [hl]; omega), List.set_append_right _ _ (by rw [hl]; omega), hl, Nat.add_sub_cancel_left, Nat.add_sub_cancel_left, flt_app, flt_app, flt_one, List.append_assoc]
  rfl
/-- what aim leaves -/
def AimP (g b : Nat) (S : Nat → Prop) (r : Pg.Rs) (D : DataW Unit) (vM vL vI vA : Value) (R : Except Nat (List Sy.In)) (w : World) (e : Ending) (w' : World) : Prop := match R with
  | .error k => e = .returned (.tuple #[.int .i64 (k : Int), .bool false]) ∧ Fr S w w'
  | .ok js => e = .returned (.tuple #[.int .i64 0, .bool true]) ∧ RMid w w' g b S { r.p with ins := js } r.at_ (Pg.cells r.p.mems) r.begun (r.p.mems.length + r.p.labels.length) D vM vL vI vA
theorem RMid.aimed {w0 w : World} {g b : Nat} {S : Nat → Prop} {p : Pg.Pr} {at_ : List Nat} {n : Int} {bg : Bool} {cnt : Nat} {D : DataW Unit} {vM vL vA : Value} {gI cI : Nat} {pre rest : List Sy.In} {i : Sy.In}
    (h : RMid w0 w g b S { p with ins := pre ++ i :: rest } at_ n bg cnt D vM vL (.slice (some ⟨gI, 0, none⟩) (pre ++ i :: rest).length cI) vA) (t : Int) :
    RMid w0 ((w.setCell ⟨gI, pre.length * 9 + 7, none⟩ (.string ⟨#[]⟩)).setCell ⟨gI, pre.length * 9 + 8, none⟩ (.int .i64 t)) g b S { p with ins := (pre ++ [{ i with name := [], target := t }]) ++ rest } at_ n bg cnt D vM vL (.slice (some ⟨gI, 0, none⟩) (pre ++ i :: rest).length cI) vA := by
  obtain ⟨n1, ⟨gM, gL, gI', gA⟩, bM, bL, bI, bA⟩ := h.ne
  have hgI : gI ≠ g := fun e => gI' (by rw [e]; rfl)
  have hbI : gI ≠ b := fun e => bI (by rw [e]; rfl)
  have hf : Fr (fun k => k = gI) w ((w.setCell ⟨gI, pre.length * 9 + 7, none⟩ (.string ⟨#[]⟩)).setCell ⟨gI, pre.length * 9 + 8, none⟩ (.int .i64 t)) := (Fr.setCell (p := ⟨gI, pre.length * 9 + 7, none⟩) _).trans (Fr.setCell (p := ⟨gI, pre.length * 9 + 8, none⟩) _) (fun x hx => .inl hx)
  have ho := h.rows
  have hown := ((ho.rI.stored (pre.length * 9 + 7) (.string ⟨#[]⟩)).1.stored (pre.length * 9 + 8) (.int .i64 t)).1
  rw [flt_aimed] at hown
  have hlen : (pre ++ i :: rest).length = ((pre ++ [{ i with name := [], target := t }]) ++ rest).length := by simp
  refine ⟨(hf.block g h.glt (fun e => hgI e.symm)).trans h.head, ⟨own_frm ho.rM hf (fun k hk e => ?_), own_frm ho.rL hf (fun k hk e => ?_), ?_, own_frm ho.rA hf (fun k hk e => ?_)⟩, map_fr h.map hf (fun e => hbI e.symm), h.fr.trans hf (fun x hx => ?_), h.foot, h.old⟩
  · exact ownm_ne_own ho.rI ho.rM (by decide) hk (by rw [e]; rfl)
  · exact ownm_ne_own ho.rI ho.rL (by decide) hk (by rw [e]; rfl)
  · rw [← hlen]; exact hown
  · exact ownm_ne_own ho.rI ho.rA (by decide) hk (by rw [e]; rfl)
  · subst hx
    exact h.foot x (by unfold Foot; simp [Value.ownBlock])
set_option maxRecDepth 100000 in
set_option maxHeartbeats 16000000 in
theorem aim_any (g b : Nat) (r : Pg.Rs) (S : Nat → Prop) (D : DataW Unit) (vM vL vI vA : Value) (w : World) (h : RIs w g b r vM vL vI vA S) (hm : RMid w w g b S r.p r.at_ (Pg.cells r.p.mems) r.begun (r.p.mems.length + r.p.labels.length) D vM vL vI vA) (hD : NmOk D r.p) (hne : r.p.ins ≠ []) (hs : ∀ i ∈ r.p.ins, i.name.length ≤ 1000000) :
    Calls Tryd.prog 15 #[.pointer (some ⟨g, 0, none⟩)] w (AimP g b S r D vM vL vI vA (Pg.aim r.p.labels r.p.ins r.at_) w) := by
  have hinv := h.inv
  have hla : r.at_.length = r.p.ins.length := hinv.at_
  obtain ⟨gI, AI, cI, eI, eA, hcI, _, _⟩ := own_RowR insL_len (by decide) h.rows.rI
  have hpos : 0 < r.p.ins.length := by
    rcases Nat.eq_zero_or_pos r.p.ins.length with h0 | h0
    · exact absurd (List.eq_nil_of_length_eq_zero h0) hne
    · exact h0
  obtain ⟨rfl, _⟩ := eA hpos
  obtain ⟨gA, AA, cA, eA2, eA3, hcA, _, _⟩ := own_RowR lnC_len (by decide) h.rows.rA
  obtain ⟨rfl, _⟩ := eA3 (by omega)
  have c9 : w.cell? ⟨g, 9, none⟩ = some vI := hm.cell 9
  have hfew := hinv.few
  rw [eI] at c9
  have HI := Lib.hid hinv; have HD := Lib.hid hD; have HM := Lib.hid hm; have HLA := Lib.hid hla; have HS := Lib.hid hs; have HEI := Lib.hid eI; have HEA := Lib.hid eA2
  clear h hm hinv hla hD hs eI eA2 eA eA3
  go_enter Tryd.func15, Tryd.ntmps15
  go_wp2_with fail
  go_loopw [14] (fun v14 wr => ∃ pre rest : List Sy.In, v14 = .int .i64 (pre.length : Int) ∧ pre.length + rest.length = r.p.ins.length ∧ rest = r.p.ins.drop pre.length ∧ Pg.aim r.p.labels r.p.ins r.at_ = Pg.glueA pre (Pg.aim r.p.labels rest (r.at_.drop pre.length)) ∧
    RMid w wr g b S { r.p with ins := pre ++ rest } r.at_ (Pg.cells r.p.mems) r.begun (r.p.mems.length + r.p.labels.length) D vM vL (.slice (some ⟨gI, 0, none⟩) r.p.ins.length cI) (.slice (some ⟨gA, 0, none⟩) r.at_.length cA)) (fun v14 _ => r.p.ins.length - (intOf v14).toNat)
  case atStart =>
    have hm := HM.out
    rw [HEI.out, HEA.out] at hm
    exact ⟨[], r.p.ins, rfl, by simp, by simp, by simp [Pg.glueA_nil], hm⟩
  case round =>
    obtain ⟨pre, rest, rfl, hpl, hrest, haim, hmr⟩ := hrel
    have c9r : wr.cell? ⟨g, 9, none⟩ = some (.slice (some ⟨gI, 0, none⟩) r.p.ins.length cI) := hmr.cell 9
    have c11 : wr.cell? ⟨g, 11, none⟩ = some (.map (some b)) := hmr.cell 11
    have c13 : wr.cell? ⟨g, 13, none⟩ = some (.slice (some ⟨gA, 0, none⟩) r.at_.length cA) := hmr.cell 13
    have hgr := hmr.glt
    cases rest with
    | nil =>
      have hpl' : pre.length = r.p.ins.length := by simpa using hpl
      have hle : ¬ ((pre.length : Int) < (r.p.ins.length : Int)) := by omega
      have HMR := Lib.hid hmr; have HAIM := Lib.hid haim
      clear hmr haim hrest
      go_wp2_with fail
      go_ret2
      rw [HAIM.out]
      have e1 : Pg.aim r.p.labels [] (r.at_.drop pre.length) = .ok [] := Pg.aim_nil _ _
      rw [e1]
      have hm := HMR.out
      rw [← HEI.out, ← HEA.out] at hm
      exact ⟨rfl, by simpa using hm⟩
    | cons i rest =>
      have hk : pre.length < r.p.ins.length := by simp at hpl; omega
      have hla := HLA.out
      have hrow : ∀ j, j < 9 → wr.cell? ⟨gI, pre.length * 9 + j, none⟩ = (insL i)[j]? := fun j hj => by
        have h1 : wr.ownsRow 0 42 9 (.slice (some ⟨gI, 0, none⟩) r.p.ins.length cI) (pre ++ i :: rest).length (flt insL (pre ++ i :: rest)) := hmr.rows.rI
        rw [show (pre ++ i :: rest).length = r.p.ins.length by rw [List.length_append]; exact hpl] at h1
        have h3 := h1.cellAt (pre.length * 9 + j) (by have : (pre.length + 1) * 9 ≤ r.p.ins.length * 9 := Nat.mul_le_mul_right 9 hk; omega)
        rw [h3, flt_at insL insL_len (pre ++ i :: rest) pre.length i j (by simp) hj]
      have hil : r.at_.drop pre.length = r.at_[pre.length]'(by omega) :: r.at_.drop (pre.length + 1) := List.drop_eq_getElem_cons (by omega)
      obtain ⟨ln, hln⟩ : ∃ z, z = r.at_[pre.length]'(by omega) := ⟨_, rfl⟩
      have hcA : wr.cell? ⟨gA, pre.length, none⟩ = some (.int .i64 (ln : Int)) := by
        have h1 : wr.ownsRow 0 3 1 (.slice (some ⟨gA, 0, none⟩) r.at_.length cA) r.at_.length (flt lnC r.at_) := hmr.rows.rA
        have h3 := h1.cellAt pre.length (by omega)
        rw [h3]
        have := flt_at lnC lnC_len r.at_ pre.length ln 0 (by rw [hln]; simp) (by decide)
        rw [Nat.mul_one, Nat.add_zero] at this
        rw [this]; rfl
      rw [← hln] at hil
      have hmem : i ∈ r.p.ins := by
        have : i ∈ r.p.ins.drop pre.length := by rw [← hrest]; simp
        exact List.mem_of_mem_drop this
      have hnl := HS.out i hmem
      have hrest2 : rest = r.p.ins.drop (pre.length + 1) := by
        have e1 : (r.p.ins.drop pre.length).tail = r.p.ins.drop (pre.length + 1) := by rw [List.tail_drop]
        rw [← hrest] at e1
        exact e1
      rw [hil] at haim
      obtain ⟨kd, op, d, va, vb, nm, tg⟩ := i
      have q0 : wr.cell? ⟨gI, pre.length * 9, none⟩ = some (.int .i64 kd) := hrow 0 (by decide)
      have q1 : wr.cell? ⟨gI, pre.length * 9 + 1, none⟩ = some (.int .i64 op) := hrow 1 (by decide)
      have q2 : wr.cell? ⟨gI, pre.length * 9 + 2, none⟩ = some (.int .i64 d) := hrow 2 (by decide)
      have q3 : wr.cell? ⟨gI, pre.length * 9 + 3, none⟩ = some (.bool va.reg) := hrow 3 (by decide)
      have q4 : wr.cell? ⟨gI, pre.length * 9 + 4, none⟩ = some (.int .i64 va.n) := hrow 4 (by decide)
      have q5 : wr.cell? ⟨gI, pre.length * 9 + 5, none⟩ = some (.bool vb.reg) := hrow 5 (by decide)
      have q6 : wr.cell? ⟨gI, pre.length * 9 + 6, none⟩ = some (.int .i64 vb.n) := hrow 6 (by decide)
      have q7 : wr.cell? ⟨gI, pre.length * 9 + 7, none⟩ = some (.string (strOfNums nm)) := hrow 7 (by decide)
      have q8 : wr.cell? ⟨gI, pre.length * 9 + 8, none⟩ = some (.int .i64 tg) := hrow 8 (by decide)
      have HMR := Lib.hid hmr; have HAIM := Lib.hid haim; have HR2 := Lib.hid hrest2; have HPL := Lib.hid hpl; have HMEM := Lib.hid hmem
      clear hmr haim hrow hrest hrest2 hil hln hmem hpl
      have hlt : (pre.length : Int) < (r.p.ins.length : Int) := by omega
      cases hgo : Pg.goes ⟨kd, op, d, va, vb, nm, tg⟩ with
      | false =>
        have hgc := fun w => goes_any ⟨kd, op, d, va, vb, nm, tg⟩ w
        rw [hgo] at hgc
        have HG := Lib.hid hgc; have HGO := Lib.hid hgo
        clear hgc hgo
        go_wp2_with (go_at_call 30; refine (HG.out _).mono ?_; intro e w4 hp4; obtain ⟨rfl, hb4⟩ := hp4)
        have hpl := HPL.out
        refine ⟨⟨pre ++ [⟨kd, op, d, va, vb, nm, tg⟩], rest, by simp, by simp at hpl ⊢; omega, by rw [HR2.out]; simp, ?_, ?_⟩, by simp [intOf]; omega⟩
        · rw [HAIM.out, Pg.aim_plain HGO.out, Pg.glueA_app]
          simp
        · have := HMR.out.up hb4
          simpa using this
      | true =>
        have hgc := fun w => goes_any ⟨kd, op, d, va, vb, nm, tg⟩ w
        rw [hgo] at hgc
        have HG := Lib.hid hgc; have HGO := Lib.hid hgo
        have hokI := HI.out.ins ⟨kd, op, d, va, vb, nm, tg⟩ HMEM.out
        have hokN := (Pg.okI_goes hokI hgo).1
        have hB : Cd.isB nm := okName_isB hokN
        have hhas := (HD.out nm hB).1
        have hat := (HD.out nm hB).2
        have hll : ∀ a, Pg.labelOf nm r.p.labels = some a → 0 ≤ a := fun a ha => by
          obtain ⟨x, hx, _, rfl⟩ := Pg.labelOf_some ha
          exact (HI.out.labels x hx).2.1
        have HLL := Lib.hid hll
        clear hgc hgo hokI hokN hll
        have hnl' : nm.length ≤ 1000000 := hnl
        by_cases hbad : Maps.has D (klit nm) = false ∨ Pg.nameAt r.p nm = -1
        · have hlab : Pg.labelOf nm r.p.labels = none := by
            cases hl : Pg.labelOf nm r.p.labels with
            | none => rfl
            | some a =>
              exfalso
              have h0 := HLL.out a hl
              rcases hbad with h1 | h1
              · rw [hhas] at h1; simp [Pg.known, hl] at h1
              · simp [Pg.nameAt, hl] at h1; omega
          have hend : Pg.aim r.p.labels r.p.ins r.at_ = .error ln := by
            rw [HAIM.out, Pg.aim_none HGO.out hlab]; rfl
          have HEND := Lib.hid hend; have HBAD := Lib.hid hbad; have HAT := Lib.hid hat
          clear hend hlab hbad hat hhas hB hnl
          go_wp2_with (go_at_call 30; refine (HG.out _).mono ?_; intro e w4 hp4; obtain ⟨rfl, hb4⟩ := hp4)
          have hm4 := HMR.out.up hb4
          have c11w : w4.cell? ⟨g, 11, none⟩ = some (.map (some b)) := hm4.cell 11
          have c13w : w4.cell? ⟨g, 13, none⟩ = some (.slice (some ⟨gA, 0, none⟩) r.at_.length cA) := hm4.cell 13
          have q7w : w4.cell? ⟨gI, pre.length * 9 + 7, none⟩ = some (.string (strOfNums nm)) := (hb4.cell (World.block_lt_of_cell? wr _ q7)).trans q7
          have hcAw : w4.cell? ⟨gA, pre.length, none⟩ = some (.int .i64 (ln : Int)) := (hb4.cell (World.block_lt_of_cell? wr _ hcA)).trans hcA
          obtain ⟨a, ha, hrun⟩ := nlook (w := w4.drew) (D := D) hm4.map hnl'
          have haeq : a = Pg.nameAt r.p nm := by
            have := HAT.out
            rw [ha] at this
            simpa using this
          have hbad := HBAD.out
          rw [← haeq] at hbad
          have HM4 := Lib.hid hm4
          clear hm4 ha haeq HMR HBAD
          generalize strOfNums nm = sn at *
          cases hh : Maps.has D (klit nm) with
          | false =>
            rw [hh] at hrun
            clear hbad hh
            refine wp_region_noPanic ?_
            refine wp_region_held_drew (S := fun w' => w'.cell? ⟨g, 11, none⟩ = some (.map (some b)) ∧ w'.cell? ⟨gI, pre.length * 9 + 7, none⟩ = some (.string sn) ∧ (Instr.lookup 47 (.map (some b)) (.string sn) true).run Tryd.prog w' = .ok (.tuple #[.int .i64 a, .bool false]) w') (by kernel_rfl) ?_ (fun hHeld => ?_)
            · exact ⟨c11w, q7w, hrun⟩
            refine wpAnyH_take (i := 0) (oi := _) (v := ?_) rfl (by kernel_rfl) (by kernel_rfl) (by kernel_rfl) (fun _ _ _ h => h) (Or.inl ⟨by kernel_rfl, ?_⟩) (by assumption) ?_
            rotate_left
            · (intro w hSw; (try dsimp only at hSw); go_simp; try (with_reducible rfl))
            (try simp only [List.getElem_toArray, List.getElem_cons_succ, List.getElem_cons_zero, Act.put, List.setIfInBounds_toArray, List.set_cons_zero, List.set_cons_succ])
            refine wpAnyH_take (i := 1) (oi := _) (v := ?_) rfl (by kernel_rfl) (by kernel_rfl) (by kernel_rfl) (fun _ _ _ h => h) (Or.inl ⟨by kernel_rfl, ?_⟩) (by assumption) ?_
            rotate_left
            · (intro w hSw; (try dsimp only at hSw); go_simp; try (with_reducible rfl))
            (try simp only [List.getElem_toArray, List.getElem_cons_succ, List.getElem_cons_zero, Act.put, List.setIfInBounds_toArray, List.set_cons_zero, List.set_cons_succ])
            refine wpAnyH_take (i := 2) (oi := _) (v := ?_) rfl (by kernel_rfl) (by kernel_rfl) (by kernel_rfl) (fun _ _ _ h => h) (Or.inl ⟨by kernel_rfl, ?_⟩) (by assumption) ?_
            rotate_left
            · (intro w hSw; (try dsimp only at hSw); go_simp; try (with_reducible rfl))
            (try simp only [List.getElem_toArray, List.getElem_cons_succ, List.getElem_cons_zero, Act.put, List.setIfInBounds_toArray, List.set_cons_zero, List.set_cons_succ])
            refine wpAnyH_take (i := 3) (oi := _) (v := ?_) rfl (by kernel_rfl) (by kernel_rfl) (by kernel_rfl) (fun _ _ _ h => h) (Or.inl ⟨by kernel_rfl, ?_⟩) (by assumption) ?_
            rotate_left
            · (intro w hSw; (try dsimp only at hSw); go_simp; try (with_reducible rfl))
            (try simp only [List.getElem_toArray, List.getElem_cons_succ, List.getElem_cons_zero, Act.put, List.setIfInBounds_toArray, List.set_cons_zero, List.set_cons_succ])
            refine wpAnyH_take (i := 4) (oi := _) (v := ?_) rfl (by kernel_rfl) (by kernel_rfl) (by kernel_rfl) (fun _ _ _ h => h) (Or.inl ⟨by kernel_rfl, ?_⟩) (by assumption) ?_
            rotate_left
            · (intro w hSw; (try dsimp only at hSw); go_simp; try (with_reducible rfl))
            (try simp only [List.getElem_toArray, List.getElem_cons_succ, List.getElem_cons_zero, Act.put, List.setIfInBounds_toArray, List.set_cons_zero, List.set_cons_succ])
            refine wpAnyH_take (i := 5) (oi := _) (v := ?_) rfl (by kernel_rfl) (by kernel_rfl) (by kernel_rfl) (fun _ _ _ h => h) (Or.inl ⟨by kernel_rfl, ?_⟩) (by assumption) ?_
            rotate_left
            · (intro w hSw; (try dsimp only at hSw); go_simp; try (with_reducible rfl))
            (try simp only [List.getElem_toArray, List.getElem_cons_succ, List.getElem_cons_zero, Act.put, List.setIfInBounds_toArray, List.set_cons_zero, List.set_cons_succ])
            refine wpAnyH_take (i := 6) (oi := _) (v := ?_) rfl (by kernel_rfl) (by kernel_rfl) (by kernel_rfl) (fun _ _ _ h => h) (Or.inl ⟨by kernel_rfl, ?_⟩) (by assumption) ?_
            rotate_left
            · (intro w hSw; (try dsimp only at hSw); go_simp; try (with_reducible rfl))
            (try simp only [List.getElem_toArray, List.getElem_cons_succ, List.getElem_cons_zero, Act.put, List.setIfInBounds_toArray, List.set_cons_zero, List.set_cons_succ])
            refine wpAnyH_take (i := 7) (oi := _) (v := ?_) rfl (by kernel_rfl) (by kernel_rfl) (by kernel_rfl) (fun _ _ _ h => h) (Or.inl ⟨by kernel_rfl, ?_⟩) (by assumption) ?_
            rotate_left
            · (intro w hSw; (try dsimp only at hSw); go_simp; try (with_reducible rfl))
            (try simp only [List.getElem_toArray, List.getElem_cons_succ, List.getElem_cons_zero, Act.put, List.setIfInBounds_toArray, List.set_cons_zero, List.set_cons_succ])
            refine wpAnyH_take (i := 8) (oi := _) (v := ?_) rfl (by kernel_rfl) (by kernel_rfl) (by kernel_rfl) (fun _ _ _ h => h) (Or.inl ⟨by kernel_rfl, ?_⟩) (by assumption) ?_
            rotate_left
            · (intro w hSw; (try dsimp only at hSw); go_simp; try (with_reducible rfl))
            (try simp only [List.getElem_toArray, List.getElem_cons_succ, List.getElem_cons_zero, Act.put, List.setIfInBounds_toArray, List.set_cons_zero, List.set_cons_succ])
            refine wpAnyH_take (i := 9) (oi := _) (v := ?_) rfl (by kernel_rfl) (by kernel_rfl) (by kernel_rfl) (fun _ _ _ h => h) (Or.inl ⟨by kernel_rfl, ?_⟩) (by assumption) ?_
            rotate_left
            · (intro w hSw; (try dsimp only at hSw); go_simp; try (with_reducible rfl))
            (try simp only [List.getElem_toArray, List.getElem_cons_succ, List.getElem_cons_zero, Act.put, List.setIfInBounds_toArray, List.set_cons_zero, List.set_cons_succ])
            refine wpAnyH_take (i := 10) (oi := _) (v := ?_) rfl (by kernel_rfl) (by kernel_rfl) (by kernel_rfl) (fun _ _ _ h => h) (Or.inl ⟨by kernel_rfl, ?_⟩) (by assumption) ?_
            rotate_left
            · (intro w hSw; (try dsimp only at hSw); go_simp; try (with_reducible rfl))
            (try simp only [List.getElem_toArray, List.getElem_cons_succ, List.getElem_cons_zero, Act.put, List.setIfInBounds_toArray, List.set_cons_zero, List.set_cons_succ])
            refine wpAnyH_take (i := 11) (oi := _) (v := ?_) rfl (by kernel_rfl) (by kernel_rfl) (by kernel_rfl) (fun _ _ _ h => h) (Or.inl ⟨by kernel_rfl, ?_⟩) (by assumption) ?_
            rotate_left
            · (intro w hSw; (try dsimp only at hSw); go_simp; try (with_reducible rfl))
            (try simp only [List.getElem_toArray, List.getElem_cons_succ, List.getElem_cons_zero, Act.put, List.setIfInBounds_toArray, List.set_cons_zero, List.set_cons_succ])
            refine wpAnyH_take (i := 12) (oi := _) (v := ?_) rfl (by kernel_rfl) (by kernel_rfl) (by kernel_rfl) (fun _ _ _ h => h) (Or.inl ⟨by kernel_rfl, ?_⟩) (by assumption) ?_
            rotate_left
            · (intro w hSw; (try dsimp only at hSw); go_simp; try (with_reducible rfl))
            (try simp only [List.getElem_toArray, List.getElem_cons_succ, List.getElem_cons_zero, Act.put, List.setIfInBounds_toArray, List.set_cons_zero, List.set_cons_succ])
            refine wpAnyH_take (i := 13) (oi := _) (v := ?_) rfl (by kernel_rfl) (by kernel_rfl) (by kernel_rfl) (fun _ _ _ h => h) (Or.inl ⟨by kernel_rfl, ?_⟩) (by assumption) ?_
            rotate_left
            · (intro w hSw; (try dsimp only at hSw); go_simp; try (with_reducible rfl))
            (try simp only [List.getElem_toArray, List.getElem_cons_succ, List.getElem_cons_zero, Act.put, List.setIfInBounds_toArray, List.set_cons_zero, List.set_cons_succ])
            refine wpAnyH_done (by kernel_rfl) ?_ _
            refine NoPanic.normal ?_
            (try go_simp)
            go_wp2_with fail
            go_ret2
            rw [HEND.out]
            exact ⟨rfl, HM4.out.fr.to_drew 1⟩
          | true =>
            rw [hh] at hrun
            have ha1 : a = -1 := by
              rcases hbad with h1 | h1
              · rw [hh] at h1; simp at h1
              · exact h1
            subst ha1
            clear hbad hh
            refine wp_region_noPanic ?_
            refine wp_region_held_drew (S := fun w' => w'.cell? ⟨g, 11, none⟩ = some (.map (some b)) ∧ w'.cell? ⟨gI, pre.length * 9 + 7, none⟩ = some (.string sn) ∧ (Instr.lookup 47 (.map (some b)) (.string sn) true).run Tryd.prog w' = .ok (.tuple #[.int .i64 (-1), .bool true]) w') (by kernel_rfl) ?_ (fun hHeld => ?_)
            · exact ⟨c11w, q7w, hrun⟩
            refine wpAnyH_take (i := 0) (oi := _) (v := ?_) rfl (by kernel_rfl) (by kernel_rfl) (by kernel_rfl) (fun _ _ _ h => h) (Or.inl ⟨by kernel_rfl, ?_⟩) (by assumption) ?_
            rotate_left
            · (intro w hSw; (try dsimp only at hSw); go_simp; try (with_reducible rfl))
            (try simp only [List.getElem_toArray, List.getElem_cons_succ, List.getElem_cons_zero, Act.put, List.setIfInBounds_toArray, List.set_cons_zero, List.set_cons_succ])
            refine wpAnyH_take (i := 1) (oi := _) (v := ?_) rfl (by kernel_rfl) (by kernel_rfl) (by kernel_rfl) (fun _ _ _ h => h) (Or.inl ⟨by kernel_rfl, ?_⟩) (by assumption) ?_
            rotate_left
            · (intro w hSw; (try dsimp only at hSw); go_simp; try (with_reducible rfl))
            (try simp only [List.getElem_toArray, List.getElem_cons_succ, List.getElem_cons_zero, Act.put, List.setIfInBounds_toArray, List.set_cons_zero, List.set_cons_succ])
            refine wpAnyH_take (i := 2) (oi := _) (v := ?_) rfl (by kernel_rfl) (by kernel_rfl) (by kernel_rfl) (fun _ _ _ h => h) (Or.inl ⟨by kernel_rfl, ?_⟩) (by assumption) ?_
            rotate_left
            · (intro w hSw; (try dsimp only at hSw); go_simp; try (with_reducible rfl))
            (try simp only [List.getElem_toArray, List.getElem_cons_succ, List.getElem_cons_zero, Act.put, List.setIfInBounds_toArray, List.set_cons_zero, List.set_cons_succ])
            refine wpAnyH_take (i := 3) (oi := _) (v := ?_) rfl (by kernel_rfl) (by kernel_rfl) (by kernel_rfl) (fun _ _ _ h => h) (Or.inl ⟨by kernel_rfl, ?_⟩) (by assumption) ?_
            rotate_left
            · (intro w hSw; (try dsimp only at hSw); go_simp; try (with_reducible rfl))
            (try simp only [List.getElem_toArray, List.getElem_cons_succ, List.getElem_cons_zero, Act.put, List.setIfInBounds_toArray, List.set_cons_zero, List.set_cons_succ])
            refine wpAnyH_take (i := 4) (oi := _) (v := ?_) rfl (by kernel_rfl) (by kernel_rfl) (by kernel_rfl) (fun _ _ _ h => h) (Or.inl ⟨by kernel_rfl, ?_⟩) (by assumption) ?_
            rotate_left
            · (intro w hSw; (try dsimp only at hSw); go_simp; try (with_reducible rfl))
            (try simp only [List.getElem_toArray, List.getElem_cons_succ, List.getElem_cons_zero, Act.put, List.setIfInBounds_toArray, List.set_cons_zero, List.set_cons_succ])
            refine wpAnyH_take (i := 5) (oi := _) (v := ?_) rfl (by kernel_rfl) (by kernel_rfl) (by kernel_rfl) (fun _ _ _ h => h) (Or.inl ⟨by kernel_rfl, ?_⟩) (by assumption) ?_
            rotate_left
            · (intro w hSw; (try dsimp only at hSw); go_simp; try (with_reducible rfl))
            (try simp only [List.getElem_toArray, List.getElem_cons_succ, List.getElem_cons_zero, Act.put, List.setIfInBounds_toArray, List.set_cons_zero, List.set_cons_succ])
            refine wpAnyH_take (i := 6) (oi := _) (v := ?_) rfl (by kernel_rfl) (by kernel_rfl) (by kernel_rfl) (fun _ _ _ h => h) (Or.inl ⟨by kernel_rfl, ?_⟩) (by assumption) ?_
            rotate_left
            · (intro w hSw; (try dsimp only at hSw); go_simp; try (with_reducible rfl))
            (try simp only [List.getElem_toArray, List.getElem_cons_succ, List.getElem_cons_zero, Act.put, List.setIfInBounds_toArray, List.set_cons_zero, List.set_cons_succ])
            refine wpAnyH_take (i := 7) (oi := _) (v := ?_) rfl (by kernel_rfl) (by kernel_rfl) (by kernel_rfl) (fun _ _ _ h => h) (Or.inl ⟨by kernel_rfl, ?_⟩) (by assumption) ?_
            rotate_left
            · (intro w hSw; (try dsimp only at hSw); go_simp; try (with_reducible rfl))
            (try simp only [List.getElem_toArray, List.getElem_cons_succ, List.getElem_cons_zero, Act.put, List.setIfInBounds_toArray, List.set_cons_zero, List.set_cons_succ])
            refine wpAnyH_take (i := 8) (oi := _) (v := ?_) rfl (by kernel_rfl) (by kernel_rfl) (by kernel_rfl) (fun _ _ _ h => h) (Or.inl ⟨by kernel_rfl, ?_⟩) (by assumption) ?_
            rotate_left
            · (intro w hSw; (try dsimp only at hSw); go_simp; try (with_reducible rfl))
            (try simp only [List.getElem_toArray, List.getElem_cons_succ, List.getElem_cons_zero, Act.put, List.setIfInBounds_toArray, List.set_cons_zero, List.set_cons_succ])
            refine wpAnyH_take (i := 9) (oi := _) (v := ?_) rfl (by kernel_rfl) (by kernel_rfl) (by kernel_rfl) (fun _ _ _ h => h) (Or.inl ⟨by kernel_rfl, ?_⟩) (by assumption) ?_
            rotate_left
            · (intro w hSw; (try dsimp only at hSw); go_simp; try (with_reducible rfl))
            (try simp only [List.getElem_toArray, List.getElem_cons_succ, List.getElem_cons_zero, Act.put, List.setIfInBounds_toArray, List.set_cons_zero, List.set_cons_succ])
            refine wpAnyH_take (i := 10) (oi := _) (v := ?_) rfl (by kernel_rfl) (by kernel_rfl) (by kernel_rfl) (fun _ _ _ h => h) (Or.inl ⟨by kernel_rfl, ?_⟩) (by assumption) ?_
            rotate_left
            · (intro w hSw; (try dsimp only at hSw); go_simp; try (with_reducible rfl))
            (try simp only [List.getElem_toArray, List.getElem_cons_succ, List.getElem_cons_zero, Act.put, List.setIfInBounds_toArray, List.set_cons_zero, List.set_cons_succ])
            refine wpAnyH_take (i := 11) (oi := _) (v := ?_) rfl (by kernel_rfl) (by kernel_rfl) (by kernel_rfl) (fun _ _ _ h => h) (Or.inl ⟨by kernel_rfl, ?_⟩) (by assumption) ?_
            rotate_left
            · (intro w hSw; (try dsimp only at hSw); go_simp; try (with_reducible rfl))
            (try simp only [List.getElem_toArray, List.getElem_cons_succ, List.getElem_cons_zero, Act.put, List.setIfInBounds_toArray, List.set_cons_zero, List.set_cons_succ])
            refine wpAnyH_take (i := 12) (oi := _) (v := ?_) rfl (by kernel_rfl) (by kernel_rfl) (by kernel_rfl) (fun _ _ _ h => h) (Or.inl ⟨by kernel_rfl, ?_⟩) (by assumption) ?_
            rotate_left
            · (intro w hSw; (try dsimp only at hSw); go_simp; try (with_reducible rfl))
            (try simp only [List.getElem_toArray, List.getElem_cons_succ, List.getElem_cons_zero, Act.put, List.setIfInBounds_toArray, List.set_cons_zero, List.set_cons_succ])
            refine wpAnyH_take (i := 13) (oi := _) (v := ?_) rfl (by kernel_rfl) (by kernel_rfl) (by kernel_rfl) (fun _ _ _ h => h) (Or.inl ⟨by kernel_rfl, ?_⟩) (by assumption) ?_
            rotate_left
            · (intro w hSw; (try dsimp only at hSw); go_simp; try (with_reducible rfl))
            (try simp only [List.getElem_toArray, List.getElem_cons_succ, List.getElem_cons_zero, Act.put, List.setIfInBounds_toArray, List.set_cons_zero, List.set_cons_succ])
            refine wpAnyH_done (by kernel_rfl) ?_ _
            refine NoPanic.normal ?_
            (try go_simp)
            go_wp2_with fail
            go_ret2
            rw [HEND.out]
            exact ⟨rfl, HM4.out.fr.to_drew 1⟩
        · have hh : Maps.has D (klit nm) = true := by
            cases hh : Maps.has D (klit nm) with
            | true => rfl
            | false => exact absurd (.inl hh) hbad
          have hn1 : Pg.nameAt r.p nm ≠ -1 := fun e => hbad (.inr e)
          obtain ⟨t, hlab⟩ : ∃ t, Pg.labelOf nm r.p.labels = some t := by
            cases hl : Pg.labelOf nm r.p.labels with
            | some a => exact ⟨a, rfl⟩
            | none =>
              exfalso
              rw [hh] at hhas
              simp only [Pg.known, hl, Option.isSome_none, Bool.or_false] at hhas
              exact hn1 (by simp [Pg.nameAt, hl, ← hhas])
          have hnt : Pg.nameAt r.p nm = t := by simp [Pg.nameAt, hlab]
          rw [hnt] at hat hn1
          have hd1 : decide (t = -1) = false := by simpa using hn1
          have HLAB := Lib.hid hlab; have HAT := Lib.hid hat; have HH := Lib.hid hh
          clear hlab hbad hhas hh hnt hat hB hnl
          go_wp2_with (go_at_call 30; refine (HG.out _).mono ?_; intro e w4 hp4; obtain ⟨rfl, hb4⟩ := hp4)
          have hm4 := HMR.out.up hb4
          have c11w : w4.cell? ⟨g, 11, none⟩ = some (.map (some b)) := hm4.cell 11
          have q7w : w4.cell? ⟨gI, pre.length * 9 + 7, none⟩ = some (.string (strOfNums nm)) := (hb4.cell (World.block_lt_of_cell? wr _ q7)).trans q7
          have q8w : w4.cell? ⟨gI, pre.length * 9 + 8, none⟩ = some (.int .i64 tg) := (hb4.cell (World.block_lt_of_cell? wr _ q8)).trans q8
          have hfz : ∀ j, w4.frozen? ⟨gI, j, none⟩ = false := fun j => by
            have h1 : w4.ownsRow 0 42 9 (.slice (some ⟨gI, 0, none⟩) r.p.ins.length cI) (pre ++ ⟨kd, op, d, va, vb, nm, tg⟩ :: rest).length (flt insL (pre ++ ⟨kd, op, d, va, vb, nm, tg⟩ :: rest)) := hm4.rows.rI
            rw [show (pre ++ (⟨kd, op, d, va, vb, nm, tg⟩ : Sy.In) :: rest).length = r.p.ins.length by rw [List.length_append]; exact HPL.out] at h1
            exact h1.frozenAt j
          have f7 := hfz (pre.length * 9 + 7)
          have f8 := hfz (pre.length * 9 + 8)
          obtain ⟨a, ha, hrun⟩ := nlook (w := w4.drew) (D := D) hm4.map hnl'
          have haeq : a = t := by
            have := HAT.out
            rw [ha] at this
            simpa using this
          subst haeq
          rw [HH.out] at hrun
          have HM4 := Lib.hid hm4
          clear hm4 ha HMR hfz
          generalize strOfNums nm = sn at *
          refine wp_region_noPanic ?_
          refine wp_region_held_drew (S := fun w' => w'.cell? ⟨g, 11, none⟩ = some (.map (some b)) ∧ w'.cell? ⟨gI, pre.length * 9 + 7, none⟩ = some (.string sn) ∧ (Instr.lookup 47 (.map (some b)) (.string sn) true).run Tryd.prog w' = .ok (.tuple #[.int .i64 a, .bool true]) w') (by kernel_rfl) ?_ (fun hHeld => ?_)
          · exact ⟨c11w, q7w, hrun⟩
          refine wpAnyH_take (i := 0) (oi := _) (v := ?_) rfl (by kernel_rfl) (by kernel_rfl) (by kernel_rfl) (fun _ _ _ h => h) (Or.inl ⟨by kernel_rfl, ?_⟩) (by assumption) ?_
          rotate_left
          · (intro w hSw; (try dsimp only at hSw); go_simp; try (with_reducible rfl))
          (try simp only [List.getElem_toArray, List.getElem_cons_succ, List.getElem_cons_zero, Act.put, List.setIfInBounds_toArray, List.set_cons_zero, List.set_cons_succ])
          refine wpAnyH_take (i := 1) (oi := _) (v := ?_) rfl (by kernel_rfl) (by kernel_rfl) (by kernel_rfl) (fun _ _ _ h => h) (Or.inl ⟨by kernel_rfl, ?_⟩) (by assumption) ?_
          rotate_left
          · (intro w hSw; (try dsimp only at hSw); go_simp; try (with_reducible rfl))
          (try simp only [List.getElem_toArray, List.getElem_cons_succ, List.getElem_cons_zero, Act.put, List.setIfInBounds_toArray, List.set_cons_zero, List.set_cons_succ])
          refine wpAnyH_take (i := 2) (oi := _) (v := ?_) rfl (by kernel_rfl) (by kernel_rfl) (by kernel_rfl) (fun _ _ _ h => h) (Or.inl ⟨by kernel_rfl, ?_⟩) (by assumption) ?_
          rotate_left
          · (intro w hSw; (try dsimp only at hSw); go_simp; try (with_reducible rfl))
          (try simp only [List.getElem_toArray, List.getElem_cons_succ, List.getElem_cons_zero, Act.put, List.setIfInBounds_toArray, List.set_cons_zero, List.set_cons_succ])
          refine wpAnyH_take (i := 3) (oi := _) (v := ?_) rfl (by kernel_rfl) (by kernel_rfl) (by kernel_rfl) (fun _ _ _ h => h) (Or.inl ⟨by kernel_rfl, ?_⟩) (by assumption) ?_
          rotate_left
          · (intro w hSw; (try dsimp only at hSw); go_simp; try (with_reducible rfl))
          (try simp only [List.getElem_toArray, List.getElem_cons_succ, List.getElem_cons_zero, Act.put, List.setIfInBounds_toArray, List.set_cons_zero, List.set_cons_succ])
          refine wpAnyH_take (i := 4) (oi := _) (v := ?_) rfl (by kernel_rfl) (by kernel_rfl) (by kernel_rfl) (fun _ _ _ h => h) (Or.inl ⟨by kernel_rfl, ?_⟩) (by assumption) ?_
          rotate_left
          · (intro w hSw; (try dsimp only at hSw); go_simp; try (with_reducible rfl))
          (try simp only [List.getElem_toArray, List.getElem_cons_succ, List.getElem_cons_zero, Act.put, List.setIfInBounds_toArray, List.set_cons_zero, List.set_cons_succ])
          refine wpAnyH_take (i := 5) (oi := _) (v := ?_) rfl (by kernel_rfl) (by kernel_rfl) (by kernel_rfl) (fun _ _ _ h => h) (Or.inl ⟨by kernel_rfl, ?_⟩) (by assumption) ?_
          rotate_left
          · (intro w hSw; (try dsimp only at hSw); go_simp; try (with_reducible rfl))
          (try simp only [List.getElem_toArray, List.getElem_cons_succ, List.getElem_cons_zero, Act.put, List.setIfInBounds_toArray, List.set_cons_zero, List.set_cons_succ])
          refine wpAnyH_take (i := 6) (oi := _) (v := ?_) rfl (by kernel_rfl) (by kernel_rfl) (by kernel_rfl) (fun _ _ _ h => h) (Or.inl ⟨by kernel_rfl, ?_⟩) (by assumption) ?_
          rotate_left
          · (intro w hSw; (try dsimp only at hSw); go_simp; try (with_reducible rfl))
          (try simp only [List.getElem_toArray, List.getElem_cons_succ, List.getElem_cons_zero, Act.put, List.setIfInBounds_toArray, List.set_cons_zero, List.set_cons_succ])
          refine wpAnyH_take (i := 7) (oi := _) (v := ?_) rfl (by kernel_rfl) (by kernel_rfl) (by kernel_rfl) (fun _ _ _ h => h) (Or.inl ⟨by kernel_rfl, ?_⟩) (by assumption) ?_
          rotate_left
          · (intro w hSw; (try dsimp only at hSw); go_simp; try (with_reducible rfl))
          (try simp only [List.getElem_toArray, List.getElem_cons_succ, List.getElem_cons_zero, Act.put, List.setIfInBounds_toArray, List.set_cons_zero, List.set_cons_succ])
          refine wpAnyH_take (i := 8) (oi := _) (v := ?_) rfl (by kernel_rfl) (by kernel_rfl) (by kernel_rfl) (fun _ _ _ h => h) (Or.inl ⟨by kernel_rfl, ?_⟩) (by assumption) ?_
          rotate_left
          · (intro w hSw; (try dsimp only at hSw); go_simp; try (with_reducible rfl))
          (try simp only [List.getElem_toArray, List.getElem_cons_succ, List.getElem_cons_zero, Act.put, List.setIfInBounds_toArray, List.set_cons_zero, List.set_cons_succ])
          refine wpAnyH_take (i := 9) (oi := _) (v := ?_) rfl (by kernel_rfl) (by kernel_rfl) (by kernel_rfl) (fun _ _ _ h => h) (Or.inl ⟨by kernel_rfl, ?_⟩) (by assumption) ?_
          rotate_left
          · (intro w hSw; (try dsimp only at hSw); go_simp; try (with_reducible rfl))
          (try simp only [List.getElem_toArray, List.getElem_cons_succ, List.getElem_cons_zero, Act.put, List.setIfInBounds_toArray, List.set_cons_zero, List.set_cons_succ])
          refine wpAnyH_take (i := 10) (oi := _) (v := ?_) rfl (by kernel_rfl) (by kernel_rfl) (by kernel_rfl) (fun _ _ _ h => h) (Or.inl ⟨by kernel_rfl, ?_⟩) (by assumption) ?_
          rotate_left
          · (intro w hSw; (try dsimp only at hSw); go_simp; try (with_reducible rfl))
          (try simp only [List.getElem_toArray, List.getElem_cons_succ, List.getElem_cons_zero, Act.put, List.setIfInBounds_toArray, List.set_cons_zero, List.set_cons_succ])
          refine wpAnyH_take (i := 11) (oi := _) (v := ?_) rfl (by kernel_rfl) (by kernel_rfl) (by kernel_rfl) (fun _ _ _ h => h) (Or.inl ⟨by kernel_rfl, ?_⟩) (by assumption) ?_
          rotate_left
          · (intro w hSw; (try dsimp only at hSw); go_simp; try (with_reducible rfl))
          (try simp only [List.getElem_toArray, List.getElem_cons_succ, List.getElem_cons_zero, Act.put, List.setIfInBounds_toArray, List.set_cons_zero, List.set_cons_succ])
          refine wpAnyH_take (i := 12) (oi := _) (v := ?_) rfl (by kernel_rfl) (by kernel_rfl) (by kernel_rfl) (fun _ _ _ h => h) (Or.inl ⟨by kernel_rfl, ?_⟩) (by assumption) ?_
          rotate_left
          · (intro w hSw; (try dsimp only at hSw); go_simp; try (with_reducible rfl))
          (try simp only [List.getElem_toArray, List.getElem_cons_succ, List.getElem_cons_zero, Act.put, List.setIfInBounds_toArray, List.set_cons_zero, List.set_cons_succ])
          refine wpAnyH_take (i := 13) (oi := _) (v := ?_) rfl (by kernel_rfl) (by kernel_rfl) (by kernel_rfl) (fun _ _ _ h => h) (Or.inl ⟨by kernel_rfl, ?_⟩) (by assumption) ?_
          rotate_left
          · (intro w hSw; (try dsimp only at hSw); go_simp; try (with_reducible rfl))
          (try simp only [List.getElem_toArray, List.getElem_cons_succ, List.getElem_cons_zero, Act.put, List.setIfInBounds_toArray, List.set_cons_zero, List.set_cons_succ])
          refine wpAnyH_done (by kernel_rfl) ?_ _
          refine NoPanic.normal ?_
          (try go_simp)
          go_wp2_with fail
          have hpl := HPL.out
          have e9 : r.p.ins.length = (pre ++ (⟨kd, op, d, va, vb, nm, tg⟩ : Sy.In) :: rest).length := by rw [List.length_append]; exact hpl.symm
          refine ⟨⟨pre ++ [⟨kd, op, d, va, vb, [], a⟩], rest, by simp, by simp at hpl ⊢; omega, by rw [HR2.out]; simp, ?_, ?_⟩, by simp [intOf]; omega⟩
          · rw [HAIM.out, Pg.aim_goes HGO.out HLAB.out, Pg.glueA_app]
            simp
          · have hm := HM4.out
            rw [e9] at hm
            have hm2 := (hm.aimed a).up (w' := ((w4.setCell ⟨gI, pre.length * 9 + 7, none⟩ (.string ⟨#[]⟩)).setCell ⟨gI, pre.length * 9 + 8, none⟩ (.int .i64 a)).drew) (upD (up0 _) 1)
            rw [← e9] at hm2
            exact hm2
/-- what fill leaves -/
def FillP (w0 : World) (g b : Nat) (S : Nat → Prop) (p : Pg.Pr) (at_ : List Nat) (n : Int) (bg : Bool) (cnt : Nat) (D : DataW Unit) (vM vL vI vA : Value) (e : Ending) (w' : World) : Prop := e = .returned (.tuple #[]) ∧ RMid w0 w' g b S (Pg.fill p) at_ n bg cnt D vM vL vI vA
set_option maxRecDepth 100000 in
set_option maxHeartbeats 8000000 in
theorem fill_any (w0 : World) (g b : Nat) (S : Nat → Prop) (p : Pg.Pr) (at_ : List Nat) (n : Int) (bg : Bool) (cnt : Nat) (D : DataW Unit) (vM vL vI vA : Value) (w : World) (h : RMid w0 w g b S p at_ n bg cnt D vM vL vI vA) :
    Calls Tryd.prog 16 #[.pointer (some ⟨g, 0, none⟩)] w (FillP w0 g b S p at_ n bg cnt D vM vL vI vA) := by
  have c1 : w.cell? ⟨g, 1, none⟩ = some (.int .i64 p.win) := h.cell 1
  have c2 : w.cell? ⟨g, 2, none⟩ = some (.int .i64 p.fuel) := h.cell 2
  have f1 := h.frz 1
  have f2 := h.frz 2
  have hgw := h.glt
  have h1 := h.put (p' := { p with win := 1 }) (n' := n) (bg' := bg) rfl rfl rfl (Fr.setCell (p := ⟨g, 1, none⟩) (.int .i64 1)) (by rw [heap_setCell_same _ g 1 _ _ _ h.head]; rfl)
  have h2 := h.put (p' := { p with fuel := 50 }) (n' := n) (bg' := bg) rfl rfl rfl (Fr.setCell (p := ⟨g, 2, none⟩) (.int .i64 50)) (by rw [heap_setCell_same _ g 2 _ _ _ h.head]; rfl)
  have h12 := h1.put (p' := { p with win := 1, fuel := 50 }) (n' := n) (bg' := bg) rfl rfl rfl (Fr.setCell (p := ⟨g, 2, none⟩) (.int .i64 50)) (by rw [heap_setCell_same _ g 2 _ _ _ h1.head]; rfl)
  have H := Lib.hid h; have H1 := Lib.hid h1; have H2 := Lib.hid h2; have H12 := Lib.hid h12
  clear h h1 h2 h12
  by_cases e1 : p.win = 0
  · by_cases e2 : p.fuel = 0
    · go_enter Tryd.func16, Tryd.ntmps16
      go_wp2_with fail
      go_end0
      refine ⟨rfl, ?_⟩
      unfold Pg.fill; rw [if_pos e1, if_pos e2]; exact H12.out
    · have d2 : decide (p.fuel = 0) = false := by simpa using e2
      go_enter Tryd.func16, Tryd.ntmps16
      go_wp2_with fail
      go_end0
      refine ⟨rfl, ?_⟩
      unfold Pg.fill; rw [if_pos e1, if_neg e2]; exact H1.out
  · have d1 : decide (p.win = 0) = false := by simpa using e1
    by_cases e2 : p.fuel = 0
    · go_enter Tryd.func16, Tryd.ntmps16
      go_wp2_with fail
      go_end0
      refine ⟨rfl, ?_⟩
      unfold Pg.fill; rw [if_neg e1, if_pos e2]; exact H2.out
    · have d2 : decide (p.fuel = 0) = false := by simpa using e2
      go_enter Tryd.func16, Tryd.ntmps16
      go_wp2_with fail
      go_end0
      refine ⟨rfl, ?_⟩
      unfold Pg.fill; rw [if_neg e1, if_neg e2]; exact H.out
end Go.Proofs.YtmghklokbmdenaaDoor
