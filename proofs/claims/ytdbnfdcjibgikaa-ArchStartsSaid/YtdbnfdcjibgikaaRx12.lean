/- Operations that write. -/
import Derived.Test.YtdbnfdcjibgikaaRx11
import Derived.Test.YtdbnfdcjibgikaaMem2
set_option linter.unusedVariables false
set_option linter.unusedSimpArgs false
namespace Go.Proofs.Ytdbnfdcjibgikaa.Rx
open Go.RowKit
section
variable {P : Program} {cx : Cx}
/-- one block is turned, or moved, or new; all else stays -/
def Cx.turn (cx : Cx) (w' : World) (id : Nat) (p : Option (Nat × Nat)) (b' : Blk) : Cx := ⟨w', cx.R, upd cx.φ id p, upd cx.H id (some b'), cx.B⟩
theorem turn_ok (hc : CRep cx) {w' : World} {id : Nat} {p : Option (Nat × Nat)} {b' : Blk}
    (hw : ∀ k, k < cx.w.heap.size → (∀ c, (cx.H id).isSome = true → cx.φ id ≠ some (k, c)) → w'.heap[k]? = cx.w.heap[k]?)
    (hold : ∀ b, cx.H id = some b → b.frz = false ∧ b.gen ≤ b'.gen ∧ (b'.gen = b.gen → p = cx.φ id ∧ sameShape b b') ∧ (b.c.isBox = true → b'.gen = b.gen))
    (hos : w'.os = cx.w.os) (htape : w'.tape = cx.w.tape) (hout : w'.output = cx.w.output) (hsz : cx.w.heap.size ≤ w'.heap.size)
    (hp : ∀ g c, p = some (g, c) → (∃ c', (cx.H id).isSome = true ∧ cx.φ id = some (g, c')) ∨ cx.w.heap.size ≤ g) :
    Stab cx (cx.turn w' id p b') ∧ (HB (cx.turn w' id p b') id b' → CRep (cx.turn w' id p b')) := by
  have hHs : (cx.turn w' id p b').H id = some b' := by show upd cx.H id _ id = _; rw [upd_same]
  have hHo : ∀ i, i ≠ id → (cx.turn w' id p b').H i = cx.H i := fun i e => by show upd cx.H id _ i = _; rw [upd_other _ _ _ _ e]
  have hφs : (cx.turn w' id p b').φ id = p := by show upd cx.φ id _ id = _; rw [upd_same]
  have hφo : ∀ i, i ≠ id → (cx.turn w' id p b').φ i = cx.φ i := fun i e => by show upd cx.φ id _ i = _; rw [upd_other _ _ _ _ e]
  have hfrz : ∀ b g c, cx.H id = some b → cx.φ id = some (g, c) → cx.B ≤ g ∧ ¬ cx.R g := by
    intro b g c hb hg
    have h1 := (hold b hb).1
    have h2 := hc.hb id b hb
    unfold HB at h2
    cases hbc : b.c with
    | box cs =>
      rw [hbc] at h2
      obtain ⟨g', cur, k1, _, _, _, k5, k6⟩ := h2
      rw [hg] at k1
      cases k1
      rw [h1] at k6
      exact ⟨k5, k6⟩
    | rows m n f =>
      rw [hbc] at h2
      rcases h2 with ⟨k1, _⟩ | ⟨g', cap, cur, k1, _, _, _, _, _, k5, k6⟩
      · rw [hg] at k1; cases k1
      · rw [hg] at k1
        cases k1
        rw [h1] at k6
        exact ⟨k5, k6⟩
  have hst : Stab cx (cx.turn w' id p b') := by
    refine ⟨⟨rfl, fun _ h => h, fun _ h => .inl h, hos, htape, hout, hsz, fun g hg ho => hw g hg fun c hs he => ?_⟩, fun i x hx => ?_, fun i x y hx hy => ?_⟩
    · obtain ⟨b, hb⟩ := Option.isSome_iff_exists.1 hs
      obtain ⟨h1, h2⟩ := hfrz b g c hb he
      rcases ho with ho | ho
      · omega
      · exact h2 ho
    · by_cases e : i = id
      · subst e
        obtain ⟨h1, h2, h3, h4⟩ := hold x hx
        exact ⟨b', hHs, fun eg => ⟨hφs.trans (h3 eg).1, (h3 eg).2⟩, h4⟩
      · exact ⟨x, (hHo i e).trans hx, fun _ => ⟨hφo i e, sameShape.rfl' x⟩, fun _ => rfl⟩
    · by_cases e : i = id
      · subst e
        rw [hHs] at hy
        cases hy
        exact (hold x hx).2.1
      · rw [hHo i e, hx] at hy
        cases hy
        exact Nat.le_refl _
  refine ⟨hst, fun hb' => ⟨fun i x hx => ?_, fun i j g c c' hi hj h1 h2 => ?_, fun g hg => Nat.lt_of_lt_of_le (hc.rlt g hg) hsz, Nat.le_trans hc.blt hsz⟩⟩
  · by_cases e : i = id
    · subst e
      rw [hHs] at hx
      cases hx
      exact hb'
    · have hx' := (hHo i e) ▸ hx
      have hold' := hc.hb i x hx'
      refine hold'.keep hc hst (hφo i e) (fun g c hg => hw g (hold'.at_ hg).1 fun c' hs he => e (hc.inj i id g c c' (by rw [hx']; rfl) hs hg he)) (fun g c hg h => h)
  · have hcase : ∀ k g c, (cx.turn w' id p b').φ k = some (g, c) → ((cx.turn w' id p b').H k).isSome = true → (k = id ∧ ((∃ c', (cx.H id).isSome = true ∧ cx.φ id = some (g, c')) ∨ cx.w.heap.size ≤ g)) ∨ (k ≠ id ∧ cx.φ k = some (g, c) ∧ (cx.H k).isSome = true ∧ g < cx.w.heap.size) := by
      intro k g c hk hks
      by_cases e : k = id
      · subst e
        rw [hφs] at hk
        exact .inl ⟨rfl, hp g c hk⟩
      · rw [hφo k e] at hk
        rw [hHo k e] at hks
        obtain ⟨x, hx⟩ := Option.isSome_iff_exists.1 hks
        exact .inr ⟨e, hk, hks, ((hc.hb k x hx).at_ hk).1⟩
    rcases hcase i g c h1 hi with ⟨e1, e2⟩ | ⟨e1, e2, e3, e4⟩ <;> rcases hcase j g c' h2 hj with ⟨f1, f2⟩ | ⟨f1, f2, f3, f4⟩
    · rw [e1, f1]
    · rcases e2 with ⟨c1, k1, k2⟩ | e2
      · exact absurd (hc.inj j id g c' c1 f3 k1 f2 k2) f1
      · omega
    · rcases f2 with ⟨c1, k1, k2⟩ | f2
      · exact absurd (hc.inj i id g c c1 e3 k1 e2 k2) e1
      · omega
    · exact hc.inj i j g c c' e3 f3 e2 f2
theorem setR_get : ∀ (vs cs : List AV) (off j : Nat), off + vs.length ≤ cs.length → (setR cs off vs)[j]? = if off ≤ j ∧ j < off + vs.length then vs[j - off]? else cs[j]?
  | [], cs, off, j, h => by rw [setR, if_neg (by simp only [List.length_nil]; omega)]
  | v :: vs, cs, off, j, h => by
    rw [setR, setR_get vs (cs.set off v) (off + 1) j (by simp at h ⊢; omega)]
    simp only [List.length_cons] at h ⊢
    by_cases h1 : off + 1 ≤ j ∧ j < off + 1 + vs.length
    · rw [if_pos h1, if_pos (by omega), show j - off = (j - (off + 1)) + 1 by omega, List.getElem?_cons_succ]
    · rw [if_neg h1, List.getElem?_set]
      by_cases h2 : off = j
      · subst h2
        rw [if_pos rfl, if_pos (by omega), if_pos (by omega)]
        simp
      · rw [if_neg h2, if_neg (by omega)]
theorem splice_get (cur : Array Value) (us : List Value) (off j : Nat) (h : off + us.length ≤ cur.size) : ((cur.toList.take off ++ us ++ cur.toList.drop (off + us.length)).toArray)[j]? = if off ≤ j ∧ j < off + us.length then us[j - off]? else cur[j]? := by
  have hl : (cur.toList.take off).length = off := by rw [List.length_take, Array.length_toList]; omega
  rw [List.getElem?_toArray, List.append_assoc]
  by_cases h1 : j < off
  · rw [if_neg (by omega), List.getElem?_append_left (by rw [hl]; exact h1), List.getElem?_take, if_pos h1]
    simp
  · rw [List.getElem?_append_right (by rw [hl]; omega), hl]
    by_cases h2 : j < off + us.length
    · rw [if_pos (by omega), List.getElem?_append_left (by omega)]
    · rw [if_neg (by omega), List.getElem?_append_right (by omega), List.getElem?_drop]
      rw [show off + us.length + (j - off - us.length) = j by omega]
      exact Array.getElem?_toList
theorem splice_size (cur : Array Value) (us : List Value) (off : Nat) (h : off + us.length ≤ cur.size) : ((cur.toList.take off ++ us ++ cur.toList.drop (off + us.length)).toArray).size = cur.size := by
  simp
  omega
theorem run_storeAt {t e : TypeId} {s g off : Nat} {v : Value} {w : World} {cur : Array Value} (hs : szOf P t = some s) (hv : v.cells.size = s) (hg : w.heap[g]? = some (.cells cur e (0, 0))) (hfit : off + s ≤ cur.size) (h1 : ∀ (j : Nat) u, v.cells[j]? = some u → u.oneCell' = true) :
    (Instr.storeAt t (.pointer (some ⟨g, off, none⟩)) v).run P w = .ok () (w.setRow g (cur.toList.take off ++ v.cells.toList ++ cur.toList.drop (off + v.cells.toList.length)).toArray) := by
  have hst := run_storeCells_at P g off e v.cells.toList 0 cur w hg (by simpa [hv] using hfit) (fun u hu => by
    obtain ⟨j, hj⟩ := List.getElem?_of_mem hu
    exact h1 j u (by simpa using hj))
  simp only [Nat.add_zero] at hst
  simp [Instr.storeAt, Instr.sureAddr, storeVar, run_sizeOf' hs, hv] at hst ⊢
  simpa [hv] using hst
theorem row_at {i i' j j' m s : Nat} (hj' : j' < m) (hjs : j + s ≤ m) : (i * m + j ≤ i' * m + j' ∧ i' * m + j' < i * m + j + s) ↔ (i' = i ∧ j ≤ j' ∧ j' < j + s) := by
  rcases Nat.lt_trichotomy i' i with h | h | h
  · have : (i' + 1) * m ≤ i * m := Nat.mul_le_mul_right _ h
    rw [Nat.add_mul] at this
    constructor <;> intro k <;> omega
  · subst h
    constructor <;> intro k <;> omega
  · have : (i + 1) * m ≤ i' * m := Nat.mul_le_mul_right _ h
    rw [Nat.add_mul] at this
    constructor <;> intro k <;> omega
theorem storeA_sound {md : Bool} {t : TypeId} {x y : AV} {r : (Nat → Option Blk) × List Prop} (h : storeA P md t x y cx.H = some r) (hp : ∀ p ∈ r.2, p) (hc : CRep cx) {u v : Value} (hx : Rep cx x u) (hy : Rep cx y v) :
    ∃ cx', (Instr.storeAt t u v).run P cx.w = .ok () cx'.w ∧ cx'.H = r.1 ∧ CRep cx' ∧ Stab cx cx' ∧ (∀ i, (r.1 i).isSome = true → (cx.H i).isSome = true) := by
  unfold storeA at h
  obtain ⟨s, hs, h⟩ := Option.bind_eq_some_iff.1 h
  split at h
  · rename_i id off _
    obtain ⟨g, cap, b, h1, h2, h3, rfl⟩ := hx.bptr_inv
    split at h
    · rename_i gen e cs heq
      obtain ⟨vs, hvs, h⟩ := Option.bind_eq_some_iff.1 h
      obtain ⟨hb, h⟩ := bif_some h
      rw [Bool.and_eq_true, Nat.ble_eq] at hb
      have hlen := Nat.eq_of_beq_eq_true hb.1
      simp only [Option.some.injEq] at h; subst h
      obtain ⟨g', cur, k1, k2, k3, k4, k5⟩ := box_of hc heq rfl
      rw [h3] at k1
      cases k1
      have hL := RL.of hvs hy
      have hsz : v.cells.size = s := by rw [← hL.len, hlen]
      have hcl := k3.len
      have hrun := run_storeAt (P := P) (off := off) hs hsz k2 (by omega) hL.one
      have hlu : v.cells.toList.length = s := by simp [hsz]
      have hfit : off + v.cells.toList.length ≤ cur.size := by omega
      obtain ⟨hst, hcr⟩ := turn_ok (w' := cx.w.setRow g (cur.toList.take off ++ v.cells.toList ++ cur.toList.drop (off + v.cells.toList.length)).toArray) (id := id) (p := some (g, 1)) (b' := ⟨gen, false, e, .box (setR cs off vs)⟩) hc
        (fun k hk hne => setRow_other _ _ _ _ fun e => hne 1 (by rw [heq]; rfl) (by rw [e]; exact h3))
        (fun b hb => by
          rw [heq] at hb
          cases hb
          exact ⟨rfl, Nat.le_refl _, fun _ => ⟨h3.symm, by unfold sameShape; exact ⟨_, rfl⟩⟩, fun _ => rfl⟩)
        rfl rfl rfl (by simp) (fun g2 c2 e2 => by cases e2; exact .inl ⟨1, by rw [heq]; rfl, h3⟩)
      refine ⟨_, hrun, rfl, hcr ?_, hst, fun i hi => ?_⟩
      · refine ⟨g, _, by show upd cx.φ id _ id = _; rw [upd_same], setRow_heap _ _ _ _ _ _ k2, ?_, fun j a ha => ?_, k4, k5⟩
        · rw [splice_size _ _ _ hfit, setR_length, hcl]
        · rw [setR_get vs cs off j (by omega)] at ha
          have hget := splice_get cur v.cells.toList off j hfit
          rw [hget]
          split at ha
          · rename_i hj
            rw [if_pos (by omega)]
            have hlt : j - off < v.cells.size := by omega
            refine ⟨v.cells[j - off], by simp [hlt], hL.one _ _ (Array.getElem?_eq_getElem hlt), ?_⟩
            exact (hL.rep _ a _ ha (Array.getElem?_eq_getElem hlt)).stab hc hst
          · rename_i hj
            rw [if_neg (by omega)]
            have hlt : j < cur.size := by rw [← hcl]; exact (List.getElem?_eq_some_iff.1 ha).1
            refine ⟨cur[j], Array.getElem?_eq_getElem hlt, k3.one _ _ (Array.getElem?_eq_getElem hlt), ?_⟩
            exact (k3.rep _ a _ ha (Array.getElem?_eq_getElem hlt)).stab hc hst
      · by_cases e2 : i = id
        · rw [e2, heq]; rfl
        · simp only at hi
          rwa [upd_other _ _ _ _ e2] at hi
    · cases h
  · rename_i id gen0 m i j _
    obtain ⟨b, hb, hle, hE⟩ := hx.eptr_inv
    split at h
    · rename_i gen e m' n f heq
      rw [hb] at heq
      cases heq
      obtain ⟨vs, hvs, h⟩ := Option.bind_eq_some_iff.1 h
      obtain ⟨hq, h'⟩ := bif_some h
      clear h
      simp only [Bool.and_eq_true, Nat.ble_eq] at hq
      obtain ⟨⟨⟨⟨q1, q2⟩, q3⟩, q4⟩, q5⟩ := hq
      have hlen := Nat.eq_of_beq_eq_true q1
      have e3 := Nat.eq_of_beq_eq_true q3
      have e4 := Nat.eq_of_beq_eq_true q4
      subst e3; subst e4
      obtain ⟨p, hp', rfl⟩ := Option.map_eq_some_iff.1 h'
      have hin := chk_some hp' hp
      obtain ⟨n', f', g, cap, k1, k2, k3, rfl⟩ := hE rfl
      cases k1
      obtain ⟨cx1, z1, hc1, hs1, z2, z3, z4, z5⟩ := frzIds_ok (idsF y) hc
      have hidF : id ∉ idsF y := fun hmem => by
        have := List.all_eq_true.1 q5 id hmem
        simp at this
      have hb1 : cx1.H id = some ⟨gen0, false, e, .rows m n f⟩ := by
        rw [z1]
        have : ∀ (l : List Nat) (H : Nat → Option Blk), id ∉ l → frzIds H l id = H id := by
          intro l
          induction l with
          | nil => intro H _; rfl
          | cons a l ih =>
            intro H hn
            unfold frzIds
            cases hH : H a with
            | none => exact ih H (fun h => hn (by simp [h]))
            | some x =>
              simp only
              rw [ih _ (fun h => hn (by simp [h])), upd_other _ _ _ _ (fun e => hn (by simp [e]))]
        rw [this _ _ hidF, hb]
      obtain ⟨cur, r1, r2, r3, r4, r5, r6, r7⟩ := rows_of hc1 hb1 rfl (by rw [z3]; exact k3)
      have hpu : RepP cx1.w cx1.R (frz cx.H y) v := frz_rep hc1 (fun id b hb' => by rw [z1]; exact frzIds_gen _ _ _ _ hb') (hy.stab hc hs1) fun id' hid b g c hb' hg => by
        obtain ⟨b0, hb0⟩ := Option.isSome_iff_exists.1 (z5 id' (by rw [hb']; rfl))
        exact z4 id' b0 g c hid hb0 (by rw [← z3]; exact hg)
      have hL := RL.of (cx := Cx.pureOf cx1.w cx1.R) hvs (.pure hpu)
      have hsz : v.cells.size = s := by rw [← hL.len, hlen]
      have hmul : (i + 1) * m ≤ cap * m := Nat.mul_le_mul_right _ (by omega)
      rw [Nat.add_mul] at hmul
      have hrun := run_storeAt (P := P) (off := i * m + j) hs hsz r1 (by omega) hL.one
      have hlu : v.cells.toList.length = s := by simp [hsz]
      have hfit : i * m + j + v.cells.toList.length ≤ cur.size := by omega
      have hφ1 : cx1.φ id = some (g, cap) := by rw [z3]; exact k3
      obtain ⟨hst, hcr⟩ := turn_ok (w' := cx1.w.setRow g (cur.toList.take (i * m + j) ++ v.cells.toList ++ cur.toList.drop (i * m + j + v.cells.toList.length)).toArray) (id := id) (p := some (g, cap))
        (b' := ⟨gen0, false, e, .rows m n fun i' j' => bif Nat.beq i' i && Nat.ble j j' && Nat.blt j' (j + s) then vs.getD (j' - j) .junk else f i' j'⟩) hc1
        (fun k hk hne => setRow_other _ _ _ _ fun e => hne cap (by rw [hb1]; rfl) (by rw [e]; exact hφ1))
        (fun b hb => by
          rw [hb1] at hb
          cases hb
          exact ⟨rfl, Nat.le_refl _, fun _ => ⟨hφ1.symm, by unfold sameShape; exact ⟨_, rfl⟩⟩, fun _ => rfl⟩)
        rfl rfl rfl (by simp) (fun g2 c2 e2 => by cases e2; exact .inl ⟨cap, by rw [hb1]; rfl, hφ1⟩)
      refine ⟨_, ?_, ?_, hcr ?_, hs1.trans hst, fun k hk => ?_⟩
      · rw [← z2]; exact hrun
      · show upd cx1.H id _ = _
        rw [z1]
      · refine .inr ⟨g, cap, _, by show upd cx1.φ id _ id = _; rw [upd_same], setRow_heap _ _ _ _ _ _ r1, ?_, r3, r4, fun i' hi' j' hj' => ?_, r6, r7⟩
        · rw [splice_size _ _ _ hfit, r2]
        · have hget := splice_get cur v.cells.toList (i * m + j) (i' * m + j') hfit
          rw [hget]
          by_cases hin' : i' = i ∧ j ≤ j' ∧ j' < j + s
          · obtain ⟨e5, e6, e7⟩ := hin'
            rw [if_pos (by have := (row_at hj' q2).2 ⟨e5, e6, e7⟩; omega)]
            subst e5
            have e8 : i' * m + j' - (i' * m + j) = j' - j := by omega
            have hlt : j' - j < v.cells.size := by omega
            have hlt' : j' - j < vs.length := by omega
            refine ⟨v.cells[j' - j], by rw [e8]; simp [hlt], hL.one _ _ (Array.getElem?_eq_getElem hlt), ?_⟩
            have hcond : (Nat.beq i' i' && Nat.ble j j' && Nat.blt j' (j + s)) = true := by
              simp only [Bool.and_eq_true, Nat.ble_eq, Nat.blt_eq]
              exact ⟨⟨Nat.beq_refl _, e6⟩, e7⟩
            simp only [hcond, cond_true]
            rw [List.getD_eq_getElem?_getD, List.getElem?_eq_getElem hlt']
            exact ((hL.rep _ _ v.cells[j' - j] (List.getElem?_eq_getElem hlt') (Array.getElem?_eq_getElem hlt)).pure_inv).ext hc1 hst.ext
          · rw [if_neg (fun h => hin' ((row_at hj' q2).1 (by omega)))]
            obtain ⟨u, hu, ho, hr⟩ := r5 i' hi' j' hj'
            refine ⟨u, hu, ho, ?_⟩
            have hcond : (Nat.beq i' i && Nat.ble j j' && Nat.blt j' (j + s)) = false := by
              cases hcd : (Nat.beq i' i && Nat.ble j j' && Nat.blt j' (j + s)) with
              | false => rfl
              | true =>
                simp only [Bool.and_eq_true, Nat.ble_eq, Nat.blt_eq] at hcd
                exact absurd ⟨Nat.eq_of_beq_eq_true hcd.1.1, hcd.1.2, hcd.2⟩ hin'
            simp only [hcond, cond_false]
            exact hr.ext hc1 hst.ext
      · by_cases e2 : k = id
        · rw [e2, hb]; rfl
        · simp only at hk
          rw [upd_other _ _ _ _ e2, ← z1] at hk
          exact z5 k hk
    · cases h
  · cases h
end
end Go.Proofs.Ytdbnfdcjibgikaa.Rx
