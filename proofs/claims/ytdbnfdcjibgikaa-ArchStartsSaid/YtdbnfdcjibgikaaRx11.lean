/- Operations that make a block. -/
import Derived.Test.YtdbnfdcjibgikaaRx10
set_option linter.unusedVariables false
set_option linter.unusedSimpArgs false
namespace Go.Proofs.Ytdbnfdcjibgikaa.Rx
open Go.RowKit
/-- an operation has done what was foretold -/
def Done (P : Program) (o : Oper) (a : Act) (cx : Cx) (next : Nat) (r : Res) : Prop :=
  ∃ n z cx', (execOp a.eval o).run P cx.w = .ok n cx'.w ∧ (n = .value z ∨ n = .skip ∧ z = undef) ∧ cx'.H = r.heap ∧ CRep cx' ∧ Stab cx cx' ∧ Rep cx' r.v z ∧ NewIds cx.H next r.heap r.next
section
variable {P : Program} {cx : Cx}
/-- cells that are known purely -/
structure RLP (w : World) (R : Nat → Prop) (xs : List AV) (vs : Array Value) : Prop where
  len : xs.length = vs.size
  one : ∀ (j : Nat) v, vs[j]? = some v → v.oneCell' = true
  rep : ∀ (j : Nat) a v, xs[j]? = some a → vs[j]? = some v → RepP w R a v
theorem zeros_pure {w : World} {R : Nat → Prop} {zc : Array Value} {n : Nat} (h1 : ∀ (j : Nat) v, zc[j]? = some v → v.oneCell' = true) (h0 : 0 < zc.size) : RLP w R ((List.range n).map fun k => (zc.toList.map AV.ofCell).getD (k % zc.size) .junk) ((Array.range n).map fun k => zc[k % zc.size]!) := by
  have hx : ∀ (j : Nat) v, ((Array.range n).map fun k => zc[k % zc.size]!)[j]? = some v → j < n ∧ zc[j % zc.size]? = some v := by
    intro j v hv
    rw [Array.getElem?_map] at hv
    obtain ⟨k, hk, rfl⟩ := Option.map_eq_some_iff.1 hv
    obtain ⟨hk1, hk2⟩ := Array.getElem?_eq_some_iff.1 hk
    simp at hk1 hk2
    subst hk2
    have hlt := Nat.mod_lt j h0
    exact ⟨hk1, by simp [hlt]⟩
  refine ⟨by simp, fun j v hv => h1 _ v (hx j v hv).2, fun j x v hx' hv => ?_⟩
  obtain ⟨q1, q2⟩ := hx j v hv
  rw [List.getElem?_map] at hx'
  obtain ⟨k, hk, rfl⟩ := Option.map_eq_some_iff.1 hx'
  obtain ⟨hk1, hk2⟩ := List.getElem?_eq_some_iff.1 hk
  simp at hk1 hk2
  subst hk2
  rw [List.getD_eq_getElem?_getD, List.getElem?_map, Array.getElem?_toList, q2]
  exact repP_ofCell _ _ _
/-- cells as a context of which every cell is pure: to use the laws of RL -/
def Cx.pureOf (w : World) (R : Nat → Prop) : Cx := ⟨w, R, fun _ => none, fun _ => none, 0⟩
theorem Rep.pure_inv {w : World} {R : Nat → Prop} {a : AV} {v : Value} (h : Rep (Cx.pureOf w R) a v) : RepP w R a v := by
  induction h with
  | pure h => exact h
  | bptr hb => cases hb
  | eptr hb => cases hb
  | own hb => cases hb
  | agg hl h1 h ih => exact .agg hl h1 ih
  | tup hl h ih => exact .tup hl ih
  | clo hl h ih => exact .clo hl ih
theorem fillA_len {place : Nat → Option (Nat × Nat)} : ∀ (pa : List (Nat × AV)) {xs bs : List AV}, fillA place xs pa = some bs → bs.length = xs.length
  | [], xs, bs, h => by simp only [fillA, Option.some.injEq] at h; rw [h]
  | (i, a) :: pa, xs, bs, h => by
    unfold fillA at h
    obtain ⟨⟨off, size⟩, hpl, h⟩ := Option.bind_eq_some_iff.1 h
    simp only at h
    obtain ⟨l, hcl, h⟩ := Option.bind_eq_some_iff.1 h
    obtain ⟨u, hgd, h⟩ := Option.bind_eq_some_iff.1 h
    rw [fillA_len pa h, setR_length]
theorem evMake_sound {md : Bool} {o : Oper} {ρ : Operand → AV} {a : Act} {next : Nat} {orc : List Orc} {r : Res} (h : evMake P md o.op ρ cx.H next orc = some r) (hp : ∀ p ∈ r.cs, p) (hc : CRep cx) (hnone : cx.H next = none)
    (hr : ∀ x, Rep cx (ρ x) (a.eval x)) : Done P o a cx next r := by
  unfold evMake at h
  split at h
  · rename_i e ho
    obtain ⟨z, hz, rfl⟩ := Option.map_eq_some_iff.1 h
    obtain ⟨i, zv, hi, hzz, hsz, hL, _⟩ := zeroA_some (cx := cx) hz
    obtain ⟨k1, k2, k3⟩ := add_box hc (e := e) hnone hL
    refine ⟨_, _, _, ?_, .inl rfl, rfl, k1, k2, k3, new_upd⟩
    simp [execOp, ho, Instr.alloc, zeroValue, typeInfo, hi, hzz, newVar, newRow, Cx.add]
  · rename_i e x ho
    obtain ⟨cs, hcs, rfl⟩ := Option.map_eq_some_iff.1 h
    obtain ⟨k1, k2, k3⟩ := add_box hc (e := e) hnone (RL.of hcs (hr x))
    refine ⟨_, _, _, ?_, .inl rfl, rfl, k1, k2, k3, new_upd⟩
    simp [execOp, ho, Instr.box, newVar, newRow, Cx.add]
  · rename_i t len parts ho
    split at h
    · rename_i e hu
      obtain ⟨s, hs, h⟩ := Option.bind_eq_some_iff.1 h
      obtain ⟨hb, h⟩ := bif_some h
      rw [Bool.and_eq_true, Nat.blt_eq, Nat.ble_eq] at hb
      obtain ⟨z, hz, h⟩ := Option.bind_eq_some_iff.1 h
      obtain ⟨cs, hcs, rfl⟩ := Option.map_eq_some_iff.1 h
      obtain ⟨i, zv, hi, hzz, hsz, hL, hz'⟩ := zeroA_some (cx := cx) hz
      have hsi : i.size = s := by simpa [szOf, hi] using hs
      subst hsi
      obtain ⟨cx1, e1, hc1, hs1, e2, e3, e4, e5⟩ := frzIds_ok (parts.toList.flatMap fun p => idsF (ρ p.2)) hc
      have hpure : ∀ (x : Operand) (p : Nat × Operand), p ∈ parts.toList → x = p.2 → RepP cx1.w cx1.R (frz cx.H (ρ x)) (a.eval x) := by
        intro x p hpm hx
        refine frz_rep hc1 (fun id b hb' => by rw [e1]; exact frzIds_gen _ _ _ _ hb') ((hr x).stab hc hs1) fun id hid b g c hb' hg => ?_
        obtain ⟨b0, hb0⟩ := Option.isSome_iff_exists.1 (e5 id (by rw [hb']; rfl))
        exact e4 id b0 g c (List.mem_flatMap.2 ⟨p, hpm, by rw [← hx]; exact hid⟩) hb0 (by rw [← e3]; exact hg)
      have hzR : RL (Cx.pureOf cx1.w cx1.R) ((List.range (len * i.size)).map fun k => z.getD (k % i.size) .junk) ((Array.range (len * i.size)).map (zv.cells[· % zv.cells.size]!)) := by
        have := zeros_pure (w := cx1.w) (R := cx1.R) (n := len * i.size) hL.one (by rw [hsz]; exact hb.1)
        rw [← hz', hsz] at this
        rw [hsz]
        exact ⟨this.len, this.one, fun j x v hx hv => .pure (this.rep j x v hx hv)⟩
      obtain ⟨us, h1, h2⟩ := run_fillA (cx := Cx.pureOf cx1.w cx1.R) (parts.toList.map fun p => (p.1, frz cx.H (ρ p.2))) (parts.map fun (i, x) => (i, a.eval x)).toList hcs hzR (by simp) (fun j p q hp' hq' => by
        simp only [List.getElem?_map, Array.toList_map, Array.getElem?_toList] at hp' hq'
        cases hj : parts[j]? with
        | none => rw [hj] at hp'; cases hp'
        | some y =>
          rw [hj] at hp' hq'
          simp only [Option.map_some, Option.some.injEq] at hp' hq'
          subst hp'; subst hq'
          exact ⟨rfl, .pure (hpure y.2 y (by rw [Array.mem_toList_iff]; exact Array.mem_of_getElem? hj) rfl)⟩)
      have hsize : us.size = len * i.size := by
        rw [← h2.len, fillA_len _ hcs]
        simp
      have hmul : len ≤ len * i.size := Nat.le_mul_of_pos_right _ hb.1
      have hnone1 : cx1.H next = none := by
        cases hq : cx1.H next with
        | none => rfl
        | some b => have := e5 next (by rw [hq]; rfl); rw [hnone] at this; cases this
      obtain ⟨k1, k2, k3⟩ := add_rows (cur := us) (e := e) (id := next) (m := i.size) (n := len) (cap := len) (f := fun i' j => cs.getD (i' * i.size + j) .junk) hc1 hnone1 hsize (Nat.le_refl _) (by simp only [maxLen]; omega) (fun i' hi' j hj => by
          have hlt : i' * i.size + j < us.size := by
            rw [hsize]
            have : (i' + 1) * i.size ≤ len * i.size := Nat.mul_le_mul_right _ hi'
            rw [Nat.add_mul] at this
            omega
          have hlt' : i' * i.size + j < cs.length := by rw [h2.len]; exact hlt
          refine ⟨us[i' * i.size + j], Array.getElem?_eq_getElem hlt, h2.one _ _ (Array.getElem?_eq_getElem hlt), ?_⟩
          rw [List.getD_eq_getElem?_getD, List.getElem?_eq_getElem hlt']
          exact (h2.rep _ _ us[i' * i.size + j] (List.getElem?_eq_getElem hlt') (Array.getElem?_eq_getElem hlt)).pure_inv)
      have hexec : (execOp a.eval o).run P cx.w = .ok (.value (.slice (some ⟨cx.w.heap.size, 0, none⟩) len len)) (cx1.add us next len ⟨0, false, e, .rows i.size len fun i' j => cs.getD (i' * i.size + j) .junk⟩).w := by
        have hw : (cx1.add us next len ⟨0, false, e, .rows i.size len fun i' j => cs.getD (i' * i.size + j) .junk⟩).w = cx.w.alloc (.cells us e) := by show cx1.w.alloc _ = _; rw [e2]
        rw [hw]
        rcases Nat.eq_zero_or_pos len with hl0 | hl0
        · subst hl0
          have hus : us = #[] := Array.size_eq_zero_iff.1 (by rw [hsize]; simp)
          have h1' : Instr.fill (fun i' => some (i' * i.size, i.size)) #[] (parts.map fun (i, x) => (i, a.eval x)).toList = some #[] := by
            rw [hus] at h1
            simpa [Array.range_zero'] using h1
          rw [Array.toList_map] at h1'
          simp [execOp, ho, Instr.buildSlice, run_underlying hu, sizeOf, typeInfo, hi, newRow, hus, Array.range_zero', h1']
        · have hpos : ¬ len * i.size = 0 := by have := Nat.mul_pos hl0 hb.1; omega
          simp [execOp, ho, run_buildSlice cx.w t e len _ us i zv hu hi hzz (by omega) hpos h1]
      cases hfz : fzO orc with
      | false =>
        simp only [cond_false]
        refine ⟨.value (.slice (some ⟨cx.w.heap.size, 0, none⟩) len len), _, _, hexec, .inl rfl, ?_, k1, hs1.trans k2, by rw [← e2]; exact k3, ?_⟩
        · show upd cx1.H next _ = _
          rw [e1]
        · refine ⟨Nat.le_succ _, fun k hk => ?_⟩
          by_cases hkn : k = next
          · exact .inr (by simp only; omega)
          · simp only at hk
            rw [upd_other _ _ _ _ hkn, ← e1] at hk
            exact .inl (e5 k hk)
      | true =>
        simp only [cond_true]
        obtain ⟨cx3, f1, hc3, hs3, f2, f3, f4, f5⟩ := frzIds_ok [next] k1
        have hb3 : (cx1.add us next len ⟨0, false, e, .rows i.size len fun i' j => cs.getD (i' * i.size + j) .junk⟩).H next = some ⟨0, false, e, .rows i.size len fun i' j => cs.getD (i' * i.size + j) .junk⟩ := upd_same _ _ _
        have hrow : RepP cx3.w cx3.R (.row i.size len fun i' j => cs.getD (i' * i.size + j) .junk) (.slice (some ⟨cx.w.heap.size, 0, none⟩) len len) := by
          have := frz_rep hc3 (H0 := (cx1.add us next len ⟨0, false, e, .rows i.size len fun i' j => cs.getD (i' * i.size + j) .junk⟩).H) (fun id b hb' => by rw [f1]; exact frzIds_gen _ _ _ _ hb') ((by rw [← e2]; exact k3 : Rep _ (.own next 0 i.size 0 len) (.slice (some ⟨cx.w.heap.size, 0, none⟩) len len)).stab k1 hs3) (fun id hid b g c hb' hg => by
            obtain ⟨b0, hb0⟩ := Option.isSome_iff_exists.1 (f5 id (by rw [hb']; rfl))
            exact f4 id b0 g c hid hb0 (by rw [← f3]; exact hg))
          have hfr : frz (cx1.add us next len ⟨0, false, e, .rows i.size len fun i' j => cs.getD (i' * i.size + j) .junk⟩).H (.own next 0 i.size 0 len) = .row i.size len fun i' j => cs.getD (i' * i.size + j) .junk := by
            have e0 : ∀ (H : Nat → Option Blk) (id g m off l : Nat), frz H (.own id g m off l) = frz1 H (.own id g m off l) := fun _ _ _ _ _ _ => by unfold frz; rfl
            rw [e0]
            unfold frz1
            simp only [hb3]
            rw [show Nat.beq i.size i.size = true from Nat.beq_refl i.size]
            rfl
          rw [hfr] at this
          exact this
        refine ⟨.value (.slice (some ⟨cx.w.heap.size, 0, none⟩) len len), _, cx3, by rw [hexec, ← f2], .inl rfl, ?_, hc3, (hs1.trans k2).trans hs3, .pure hrow, ?_⟩
        · rw [f1]
          simp only [frzIds, hb3]
          show upd (upd cx1.H next _) next _ = _
          rw [e1]
          funext k
          by_cases hkn : k = next
          · subst hkn; rw [upd_same, upd_same]
          · rw [upd_other _ _ _ _ hkn, upd_other _ _ _ _ hkn, upd_other _ _ _ _ hkn]
        · refine ⟨Nat.le_succ _, fun k hk => ?_⟩
          by_cases hkn : k = next
          · exact .inr (by simp only; omega)
          · simp only at hk
            rw [upd_other _ _ _ _ hkn, ← e1] at hk
            exact .inl (e5 k hk)
    · cases h
  · rename_i t x y ho
    split at h
    · rename_i e hu
      split at h
      · rename_i kl n kc c hx hy
        obtain ⟨i, hi, h⟩ := Option.bind_eq_some_iff.1 h
        obtain ⟨z, hz, h⟩ := Option.bind_eq_some_iff.1 h
        obtain ⟨hb, h⟩ := bif_some h
        rw [Nat.blt_eq] at hb
        obtain ⟨p, hp', rfl⟩ := Option.map_eq_some_iff.1 h
        obtain ⟨c0, c1, c2, c3⟩ := chk_some hp' hp
        obtain ⟨i', zv, hi', hzz, hsz, hL, hz'⟩ := zeroA_some (cx := cx) hz
        rw [hi] at hi'
        cases hi'
        have ex := hr x
        rw [hx] at ex
        have ex := ex.int_inv
        have ey := hr y
        rw [hy] at ey
        have ey := ey.int_inv
        have hrun := run_make cx.w t e i zv hu hi hzz kl kc n c c0 c1 (by rw [Int.mul_comm]; omega) (by omega)
        have hmc : ∀ k j, k < c.toNat → j < i.size → (madeCells zv.cells (c.toNat * i.size))[k * i.size + j]? = zv.cells[j]? := by
          intro k j hk hj
          have hlt : k * i.size + j < c.toNat * i.size := by
            have : (k + 1) * i.size ≤ c.toNat * i.size := Nat.mul_le_mul_right _ hk
            rw [Nat.add_mul] at this
            omega
          have hj' : j < zv.cells.size := by omega
          rw [show zv.cells[j]? = some zv.cells[j] from Array.getElem?_eq_getElem hj']
          unfold madeCells
          rw [Array.getElem?_map]
          simp only [hsz, hlt, Array.getElem?_range, if_true, Option.map_some, lit_cell hj]
          simp [hj']
        obtain ⟨k1, k2, k3⟩ := add_rows (cur := madeCells zv.cells (c.toNat * i.size)) (e := e) (id := next) (m := i.size) (n := n.toNat) (cap := c.toNat) (f := fun _ j => z.getD j .junk) hc hnone (size_madeCells _ _) (by omega) (by simp only [maxLen]; omega) (fun k hk j hj => by
          have hj' : j < zv.cells.size := by omega
          refine ⟨zv.cells[j], (hmc k j (by omega) hj).trans (Array.getElem?_eq_getElem hj'), hL.one _ _ (Array.getElem?_eq_getElem hj'), ?_⟩
          rw [hz', List.getD_eq_getElem?_getD, List.getElem?_map, Array.getElem?_toList, show zv.cells[j]? = some zv.cells[j] from Array.getElem?_eq_getElem hj']
          exact repP_ofCell _ _ _)
        refine ⟨.value (.slice (some ⟨cx.w.heap.size, 0, none⟩) n.toNat c.toNat), _, _, ?_, .inl rfl, rfl, k1, k2, k3, new_upd⟩
        simp [execOp, ho, ex, ey, hrun, Cx.add]
      · cases h
    · cases h
  · cases h
end
end Go.Proofs.Ytdbnfdcjibgikaa.Rx
