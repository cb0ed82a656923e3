/- Calls by contract, calls carried out, functions as contracts. -/
import Derived.Test.YtdbnfdcjibgikaaRx16
set_option linter.unusedVariables false
set_option linter.unusedSimpArgs false
namespace Go.Proofs.Ytdbnfdcjibgikaa.Rx
open Go.RowKit
/-- a function answers so, to arguments that are only read: what it answers lies in blocks of its own, H, and all that was is as it was -/
def PureC (P : Program) (f : FuncId) (args : List AV) (res : AV) (H : List Blk) : Prop :=
  ∀ (w : World) (R : Nat → Prop) (vs : Array Value), (∀ g, R g → g < w.heap.size) → args.length = vs.size → (∀ (j : Nat) a v, args[j]? = some a → vs[j]? = some v → RepP w R a v) →
    Calls P f vs w fun e w' => ∃ z cx', e = .returned z ∧ w' = cx'.w ∧ cx'.H = (fun i => H[i]?) ∧ CRep cx' ∧ cx'.B = w.heap.size ∧ (∀ g, R g → cx'.R g) ∧ (∀ g, cx'.R g → R g ∨ w.heap.size ≤ g) ∧ Below w.heap.size w w' ∧ Rep cx' res z
def rowsOnly (H : List Blk) : Bool := H.all fun b => match b.c with
  | .rows .. => !b.frz
  | .box _ => false
section
variable (P : Program)
def fnOk (f : FuncId) : Bool := match P.funcs[f]? with
  | some fn => fn.body.isSome && !(fn.name == "runtime.NumGoroutine")
  | none => false
def callA (inner : CallF) : CallF := fun f args h next orc => match orc with
  | .cl args' res H :: orc => bif fnOk P f && rowsOnly H then
      (leL (le1 (fun _ => none) (fun _ => none) []) (args.map (frz h)) args').map fun p =>
        ⟨shift next res, addBlks (frzIds h (args.flatMap idsF)) next H, next + H.length, orc, p ++ [PureC P f args' res H]⟩ else none
  | orc => inner f args h next orc
def resultsA (md : Bool) (st : St) : List ResultVar → Option (List AV × List Prop)
  | [] => some ([], [])
  | .tmp t :: l => (resultsA md st l).map fun q => (st.env t :: q.1, q.2)
  | .cell a ty :: l => (loadA P md ty (st.env a) st.heap).bind fun r => (resultsA md st l).map fun q => (r.1 :: q.1, r.2 ++ q.2)
def oneA : List AV → AV
  | [a] => a
  | l => .tup l
def evFn (dr : DrawF) (md : Bool) : Nat → Bool → CallF
  | 0, _, _, _, _, _, _ => none
  | n + 1, lp, f, args, h, next, orc => match P.funcs[f]? with
    | none => none
    | some fn => match fn.body with
      | none => none
      | some c => bif fnOk P f && Nat.ble args.length fn.ntmps then
          (evCode P dr lp md (callA P (evFn dr md n false)) fn.ntmps c ⟨fun t => args.getD t .junk, h, next⟩ orc).bind fun q => match q.1 with
            | .ext _ => none
            | _ => (resultsA P md q.2.1 fn.results.toList).map fun r => ⟨oneA r.1, q.2.1.heap, q.2.1.next, q.2.2.1, q.2.2.2 ++ r.2⟩
        else none
end
theorem addBlks_get : ∀ (H : List Blk) (h : Nat → Option Blk) (N id : Nat), addBlks h N H id = if N ≤ id ∧ id < N + H.length then H[id - N]? else h id
  | [], h, N, id => by rw [addBlks, if_neg (by simp only [List.length_nil]; omega)]
  | b :: H, h, N, id => by
    rw [addBlks, addBlks_get H]
    simp only [List.length_cons]
    by_cases h1 : N + 1 ≤ id ∧ id < N + 1 + H.length
    · rw [if_pos h1, if_pos (by omega), show id - N = (id - (N + 1)) + 1 by omega, List.getElem?_cons_succ]
    · rw [if_neg h1]
      by_cases h2 : id = N
      · subst h2
        rw [upd_same, if_pos (by omega)]
        simp
      · rw [upd_other _ _ _ _ h2, if_neg (by omega)]
section
variable {P : Program} {cx : Cx}
theorem Rep.pure_of {a : AV} {v : Value} (h : Rep cx a v) (hH : ∀ id, cx.H id = none) : RepP cx.w cx.R a v := by
  induction h with
  | pure h => exact h
  | bptr hb => rw [hH] at hb; cases hb
  | eptr hb => rw [hH] at hb; cases hb
  | own hb => rw [hH] at hb; cases hb
  | agg hl h1 h ih => exact .agg hl h1 ih
  | tup hl h ih => exact .tup hl ih
  | clo hl h ih => exact .clo hl ih
theorem le1_pure {w : World} {R : Nat → Prop} (hR : ∀ g, R g → g < w.heap.size) {a b : AV} {ps : List Prop} (h : le1 (fun _ => none) (fun _ => none) [] a b = some ps) (hp : ∀ p ∈ ps, p) {v : Value} (hr : RepP w R a v) : RepP w R b v := by
  have hc : CRep (Cx.pureOf w R) := ⟨fun id b h => (by cases h), fun id id' g c c' h => (by cases h), hR, Nat.zero_le _⟩
  have ho : RenOk (Cx.pureOf w R) [] (fun _ => none) := ⟨fun id id' b b' h => (by cases h), fun id' b' _ h => (by cases h)⟩
  have := (le1_sound (cx := Cx.pureOf w R) hc ho h hp (.pure hr)).pure_of (fun _ => rfl)
  refine this.mono (fun g hg => ?_) (fun g hg => rfl)
  rcases hg with hg | ⟨id, b, c, h1, _⟩
  · exact hg
  · cases h1
theorem shiftC_rep {cx cx2 : Cx} {N : Nat} (hP : ∀ a v, RepP cx.w cx.R a v → RepP cx2.w cx2.R a v) (hO : ∀ id b, cx.H id = some b → cx2.H (id + N) = some b ∧ cx2.φ (id + N) = cx.φ id) {a : AV} {v : Value} (h : Rep cx a v) : Rep cx2 (shiftC N a) v := by
  cases a with
  | own id g m off len =>
    have ho := h.own_one
    obtain ⟨b, hb, hle, hO'⟩ := h.own_inv
    obtain ⟨h1, h2⟩ := hO id b hb
    refine .own h1 hle ho fun e => ?_
    obtain ⟨n, f, k1, k2, k3⟩ := hO' e
    exact ⟨n, f, k1, k2, by rw [h2]; exact k3⟩
  | clo f caps =>
    cases caps with
    | nil =>
      obtain ⟨vs, rfl, hl, _⟩ := h.clo_inv
      have : vs = #[] := Array.size_eq_zero_iff.1 (by rw [← hl]; rfl)
      subst this
      exact .pure (.clo rfl fun j a v ha _ => by simp at ha)
    | cons c cs => exact .pure (.junk _)
  | bptr | eptr | rptr | agg | tup => exact .pure (.junk _)
  | int | bool | str | nilp | nils | row | val | junk => cases h with | pure h => exact .pure (hP _ _ h)
theorem shift1_rep {cx cx2 : Cx} {N : Nat} (hP : ∀ a v, RepP cx.w cx.R a v → RepP cx2.w cx2.R a v) (hO : ∀ id b, cx.H id = some b → cx2.H (id + N) = some b ∧ cx2.φ (id + N) = cx.φ id) {a : AV} {v : Value} (h : Rep cx a v) : Rep cx2 (shift1 N a) v := by
  by_cases hg : ∃ cs, a = .agg cs
  · obtain ⟨cs, rfl⟩ := hg
    obtain ⟨vs, rfl, h1, h2, h3⟩ := h.agg_inv
    refine .agg (by simpa using h1) h2 fun j x v hx hv => ?_
    simp only [List.getElem?_map] at hx
    obtain ⟨y, hy, rfl⟩ := Option.map_eq_some_iff.1 hx
    exact shiftC_rep hP hO (h3 j y v hy hv)
  · have e1 : shift1 N a = shiftC N a := by cases a <;> first | rfl | exact absurd ⟨_, rfl⟩ hg
    rw [e1]
    exact shiftC_rep hP hO h
theorem shift_rep {cx cx2 : Cx} {N : Nat} (hP : ∀ a v, RepP cx.w cx.R a v → RepP cx2.w cx2.R a v) (hO : ∀ id b, cx.H id = some b → cx2.H (id + N) = some b ∧ cx2.φ (id + N) = cx.φ id) {a : AV} {v : Value} (h : Rep cx a v) : Rep cx2 (shift N a) v := by
  by_cases hg : ∃ cs, a = .tup cs
  · obtain ⟨cs, rfl⟩ := hg
    obtain ⟨vs, rfl, h1, h3⟩ := h.tup_inv
    refine .tup (by simpa using h1) fun j x v hx hv => ?_
    simp only [List.getElem?_map] at hx
    obtain ⟨y, hy, rfl⟩ := Option.map_eq_some_iff.1 hx
    exact shift1_rep hP hO (h3 j y v hy hv)
  · have e1 : shift N a = shift1 N a := by cases a <;> first | rfl | exact absurd ⟨_, rfl⟩ hg
    rw [e1]
    exact shift1_rep hP hO h
theorem fnOk_some {f : FuncId} (h : fnOk P f = true) : ∃ fn, P.funcs[f]? = some fn ∧ fn.body.isSome = true ∧ fn.name ≠ "runtime.NumGoroutine" := by
  unfold fnOk at h
  split at h
  · rename_i fn hf
    rw [Bool.and_eq_true] at h
    exact ⟨fn, hf, h.1, by simpa using h.2⟩
  · cases h
/-- a call by contract; its new numbers are free -/
theorem callC_ok {args : List AV} {next : Nat} {args' : List AV} {res : AV} {H : List Blk} {f : FuncId} {p : List Prop} (hro' : rowsOnly H = true) (hpp : leL (le1 (fun _ => none) (fun _ => none) []) (args.map (frz cx.H)) args' = some p) (hp : ∀ x ∈ p, x) (hpc : PureC P f args' res H) (hc : CRep cx)
    (hfree : ∀ i, next ≤ i → i < next + H.length → cx.H i = none) (vs : Array Value) (hl : args.length = vs.size) (hR : ∀ (j : Nat) a v, args[j]? = some a → vs[j]? = some v → Rep cx a v) :
    Calls P f vs cx.w fun e w' => ∃ z cx', e = .returned z ∧ w' = cx'.w ∧ cx'.H = addBlks (frzIds cx.H (args.flatMap idsF)) next H ∧ CRep cx' ∧ Stab cx cx' ∧ Rep cx' (shift next res) z ∧ NewIds cx.H next (addBlks (frzIds cx.H (args.flatMap idsF)) next H) (next + H.length) := by
  obtain ⟨l1, l2⟩ := leL_get hpp hp
  obtain ⟨cx1, z1, hc1, hs1, z2, z3, z4, z5⟩ := frzIds_ok (args.flatMap idsF) hc
  have hargs : ∀ (j : Nat) a v, args'[j]? = some a → vs[j]? = some v → RepP cx.w cx1.R a v := by
    intro j a v ha hv
    have hj' : j < (args.map (frz cx.H)).length := by rw [l1]; exact (List.getElem?_eq_some_iff.1 ha).1
    have hj : j < args.length := by simpa using hj'
    obtain ⟨qs, q1, q2⟩ := l2 j ((args.map (frz cx.H))[j]) a (List.getElem?_eq_getElem hj') ha
    simp only [List.getElem_map] at q1
    have hr0 := hR j args[j] v (List.getElem?_eq_getElem hj) hv
    have hpu := frz_rep hc1 (H0 := cx.H) (fun id b hb' => by rw [z1]; exact frzIds_gen _ _ _ _ hb') (hr0.stab hc hs1) fun id hid b g c hb' hg => by
      obtain ⟨b0, hb0⟩ := Option.isSome_iff_exists.1 (z5 id (by rw [hb']; rfl))
      exact z4 id b0 g c (List.mem_flatMap.2 ⟨args[j], List.getElem_mem hj, hid⟩) hb0 (by rw [← z3]; exact hg)
    rw [z2] at hpu
    exact le1_pure (fun g hg => by have := hc1.rlt g hg; rw [z2] at this; exact this) q1 q2 hpu
  have hcall := hpc cx.w cx1.R vs (fun g hg => by have := hc1.rlt g hg; rw [z2] at this; exact this) (by rw [← hl, ← l1]; simp) hargs
  refine hcall.mono ?_
  rintro e w' ⟨z, cx', rfl, rfl, k1, k2, k3, k4, k5, k6, k7⟩
  have hHn : ∀ id, ¬ (next ≤ id ∧ id < next + H.length) → addBlks (frzIds cx.H (args.flatMap idsF)) next H id = cx1.H id := fun id hid => by rw [addBlks_get, if_neg hid, z1]
  have hHs : ∀ id b, cx'.H id = some b → addBlks (frzIds cx.H (args.flatMap idsF)) next H (id + next) = some b ∧ id < H.length := fun id b hb' => by
    rw [k1] at hb'
    have hlt' := (List.getElem?_eq_some_iff.1 hb').1
    refine ⟨?_, hlt'⟩
    rw [addBlks_get, if_pos (by omega), Nat.add_sub_cancel]
    exact hb'
  have hlt1 : ∀ id b, cx1.H id = some b → ¬ (next ≤ id ∧ id < next + H.length) := fun id b hb' hn => by
    have h1 := z5 id (by rw [hb']; rfl)
    rw [hfree id hn.1 hn.2] at h1
    cases h1
  have hst : Stab cx1 ⟨cx'.w, cx'.R, fun id => if next ≤ id ∧ id < next + H.length then cx'.φ (id - next) else cx1.φ id, addBlks (frzIds cx.H (args.flatMap idsF)) next H, cx.B⟩ := by
    refine ⟨⟨hs1.ext.B.symm, k4, fun g hg => ?_, ?_, ?_, ?_, ?_, fun g hg _ => ?_⟩, fun id b hb' => ⟨b, ?_, fun _ => ⟨?_, sameShape.rfl' b⟩, fun _ => rfl⟩, fun id b b' hb' hb'' => ?_⟩
    · rcases k5 g hg with h1 | h1
      · exact .inl h1
      · exact .inr (by rw [hs1.ext.B]; exact Nat.le_trans hc.blt h1)
    · rw [z2]; exact k6.os
    · rw [z2]; exact k6.tape
    · rw [z2]; exact k6.output
    · rw [z2]; exact k6.size
    · rw [z2] at hg ⊢; exact k6.block g hg
    · show addBlks _ _ _ id = _
      rw [hHn id (hlt1 id b hb')]; exact hb'
    · show (if _ then _ else cx1.φ id) = _
      rw [if_neg (hlt1 id b hb')]
    · have h2 : addBlks (frzIds cx.H (args.flatMap idsF)) next H id = some b' := hb''
      rw [hHn id (hlt1 id b hb'), hb'] at h2
      cases h2
      exact Nat.le_refl _
  have hnew : ∀ id b, addBlks (frzIds cx.H (args.flatMap idsF)) next H id = some b → (next ≤ id ∧ id < next + H.length) → ∃ j, id = j + next ∧ cx'.H j = some b := fun id b hb' hn => by
    rw [addBlks_get, if_pos hn] at hb'
    exact ⟨id - next, by omega, by rw [k1]; exact hb'⟩
  refine ⟨z, ⟨cx'.w, cx'.R, fun id => if next ≤ id ∧ id < next + H.length then cx'.φ (id - next) else cx1.φ id, addBlks (frzIds cx.H (args.flatMap idsF)) next H, cx.B⟩, rfl, rfl, rfl, ⟨fun id b hb' => ?_, fun i j g c c' hi hj h1 h2 => ?_, k2.rlt, ?_⟩, hs1.trans hst, ?_, Nat.le_add_right _ _, fun i hi => ?_⟩
  · by_cases hid : next ≤ id ∧ id < next + H.length
    · obtain ⟨j, rfl, hj⟩ := hnew id b hb' hid
      have hold := k2.hb j b hj
      have hj' := hj
      rw [k1] at hj'
      have hro := List.all_eq_true.1 hro' b (List.mem_of_getElem? hj')
      unfold HB at hold ⊢
      cases hbc : b.c with
      | box cs => rw [hbc] at hro; cases hro
      | rows m n f =>
        rw [hbc] at hold hro
        have hfz : b.frz = false := by simpa using hro
        have hφ : (if next ≤ j + next ∧ j + next < next + H.length then cx'.φ (j + next - next) else cx1.φ (j + next)) = cx'.φ j := by rw [if_pos hid, Nat.add_sub_cancel]
        rcases hold with ⟨p1, p2⟩ | ⟨g, cap, cur, p1, p2, p3, p4, p5, p6, p7, p8⟩
        · exact .inl ⟨hφ.trans p1, p2⟩
        · exact .inr ⟨g, cap, cur, hφ.trans p1, p2, p3, p4, p5, p6, Nat.le_trans hc.blt (by rw [k3] at p7; exact p7), p8⟩
    · have hb1 : cx1.H id = some b := by rw [← hHn id hid]; exact hb'
      have hold := hc1.hb id b hb1
      refine hold.keep hc1 hst (by show (if _ then _ else _) = _; rw [if_neg hid]) (fun g c hg => ?_) (fun g c hg hg' => ?_)
      · have := (hold.at_ hg).1
        rw [z2] at this ⊢
        exact k6.block g this
      · rcases k5 g hg' with h1 | h1
        · exact h1
        · have := (hold.at_ hg).1
          rw [z2] at this
          omega
  · have hx : ∀ i g c, (addBlks (frzIds cx.H (args.flatMap idsF)) next H i).isSome = true → (if next ≤ i ∧ i < next + H.length then cx'.φ (i - next) else cx1.φ i) = some (g, c) → (¬ (next ≤ i ∧ i < next + H.length) ∧ (cx1.H i).isSome = true ∧ cx1.φ i = some (g, c) ∧ g < cx.w.heap.size) ∨ ((next ≤ i ∧ i < next + H.length) ∧ (cx'.H (i - next)).isSome = true ∧ cx'.φ (i - next) = some (g, c) ∧ cx.w.heap.size ≤ g) := by
      intro i g c hi h1
      obtain ⟨b, hb'⟩ := Option.isSome_iff_exists.1 hi
      by_cases hid : next ≤ i ∧ i < next + H.length
      · right
        rw [if_pos hid] at h1
        obtain ⟨j, rfl, hj⟩ := hnew i b hb' hid
        rw [Nat.add_sub_cancel] at h1 ⊢
        exact ⟨hid, by rw [hj]; rfl, h1, by have := ((k2.hb j b hj).at_ h1).2; rw [k3] at this; exact this⟩
      · left
        rw [if_neg hid] at h1
        have hb1 : cx1.H i = some b := by rw [← hHn i hid]; exact hb'
        refine ⟨hid, by rw [hb1]; rfl, h1, ?_⟩
        have := ((hc1.hb i b hb1).at_ h1).1
        rw [z2] at this
        exact this
    rcases hx i g c hi h1 with ⟨a1, a2, a3, a4⟩ | ⟨a1, a2, a3, a4⟩ <;> rcases hx j g c' hj h2 with ⟨b1, b2, b3, b4⟩ | ⟨b1, b2, b3, b4⟩
    · exact hc1.inj i j g c c' a2 b2 a3 b3
    · omega
    · omega
    · have := k2.inj _ _ g c c' a2 b2 a3 b3
      omega
  · exact Nat.le_trans hc.blt k6.size
  · refine shift_rep (cx := cx') ?_ ?_ k7
    · exact fun a v h => h
    · intro id b hb'
      refine ⟨(hHs id b hb').1, ?_⟩
      have hlt' := (hHs id b hb').2
      show (if next ≤ id + next ∧ id + next < next + H.length then cx'.φ (id + next - next) else cx1.φ (id + next)) = _
      rw [if_pos (by omega), Nat.add_sub_cancel]
  · by_cases hid : next ≤ i ∧ i < next + H.length
    · exact .inr hid
    · rw [hHn i hid] at hi
      exact .inl (z5 i hi)
theorem callA_ok {inner : CallF} (hin : CallOk P inner) : CallOk P (callA P inner) := by
  intro f args h next orc r hr hp cx hH hc hlt vs hl hR
  unfold callA at hr
  split at hr
  · rename_i args' res H orc'
    obtain ⟨hb, hr1⟩ := bif_some hr
    clear hr
    rw [Bool.and_eq_true] at hb
    refine ⟨fnOk_some hb.1, ?_⟩
    obtain ⟨p, hpp, rfl⟩ := Option.map_eq_some_iff.1 hr1
    subst hH
    refine (callC_ok (next := next) hb.2 hpp (fun x hx => hp x (by simp [hx])) (hp (PureC P f args' res H) (by simp)) hc (fun i h1 h2 => by
      cases hq : cx.H i with
      | none => rfl
      | some b => have := hlt i (by rw [hq]; rfl); omega) vs hl hR).mono ?_
    rintro e w' ⟨z, cx', m1, m2, m3, m4, m5, m6, m7⟩
    exact ⟨z, cx', m1, m2, m3, m4, m5, m6, m7.lt hlt⟩
  · exact hin f args h next orc r hr hp cx hH hc hlt vs hl hR
/-- a result, off the frame -/
def resF (tmps : Array Value) : ResultVar → Sem Value
  | .tmp t => pure (tmps.getD t undef)
  | .cell a t => do loadVar t (← asAddr (tmps.getD a undef))
theorem resultsA_sound {md : Bool} {st : St} {a : Act} {nt : Nat} (hs : SRep cx st a nt) : ∀ (l : List ResultVar) {q : List AV × List Prop}, resultsA P md st l = some q → (∀ p ∈ q.2, p) →
    ∃ zs : List Value, (l.mapM (resF a.tmps)).run P cx.w = .ok zs cx.w ∧ q.1.length = zs.length ∧ ∀ (j : Nat) x z, q.1[j]? = some x → zs[j]? = some z → Rep cx x z
  | [], q, h, hp => by
    simp only [resultsA, Option.some.injEq] at h; subst h
    exact ⟨[], by simp, rfl, fun j x z hx _ => by simp at hx⟩
  | .tmp t :: l, q, h, hp => by
    unfold resultsA at h
    obtain ⟨q1, hq1, rfl⟩ := Option.map_eq_some_iff.1 h
    obtain ⟨zs, h1, h2, h3⟩ := resultsA_sound hs l hq1 hp
    have hx : (resF a.tmps (.tmp t)).run P cx.w = .ok (a.tmps.getD t undef) cx.w := rfl
    refine ⟨a.tmps.getD t undef :: zs, by simp only [List.mapM_cons, Sem.run_bind, Sem.run_pure, Result.andThen_ok, hx, h1], by simp [h2], fun j x z hx hz => ?_⟩
    cases j with
    | zero =>
      simp only [List.getElem?_cons_zero, Option.some.injEq] at hx hz
      subst hx; subst hz
      exact hs.env t
    | succ j => exact h3 j x z (by simpa using hx) (by simpa using hz)
  | .cell ad ty :: l, q, h, hp => by
    unfold resultsA at h
    obtain ⟨r, hr, h'⟩ := Option.bind_eq_some_iff.1 h
    obtain ⟨q1, hq1, rfl⟩ := Option.map_eq_some_iff.1 h'
    obtain ⟨zs, h1, h2, h3⟩ := resultsA_sound hs l hq1 (fun x hx => hp x (by simp [hx]))
    rw [← hs.H] at hr
    obtain ⟨z, k1, k2⟩ := run_loadA hr (fun x hx => hp x (by simp [hx])) hs.c (hs.env ad)
    have hx : (resF a.tmps (.cell ad ty)).run P cx.w = .ok z cx.w := by
      show (asAddr (a.tmps.getD ad undef) >>= fun q => loadVar ty q).run P cx.w = _
      unfold Instr.loadAt at k1
      generalize a.tmps.getD ad undef = v at k1 ⊢
      cases v with
      | pointer o =>
        cases o with
        | none => simp [Instr.sureAddr] at k1
        | some adr => simpa [Instr.sureAddr, asAddr] using k1
      | _ => simp [Instr.sureAddr] at k1
    refine ⟨z :: zs, by simp only [List.mapM_cons, Sem.run_bind, Sem.run_pure, Result.andThen_ok, hx, h1], by simp [h2], fun j x z' hx hz => ?_⟩
    cases j with
    | zero =>
      simp only [List.getElem?_cons_zero, Option.some.injEq] at hx hz
      subst hx; subst hz
      exact k2
    | succ j => exact h3 j x z' (by simpa using hx) (by simpa using hz)
theorem results_sound {md : Bool} {st : St} {a : Act} {nt : Nat} (hs : SRep cx st a nt) {fn : Func} {q : List AV × List Prop} (h : resultsA P md st fn.results.toList = some q) (hp : ∀ p ∈ q.2, p) : ∃ z, (results fn a.tmps).run P cx.w = .ok z cx.w ∧ Rep cx (oneA q.1) z := by
  obtain ⟨zs, h1, h2, h3⟩ := resultsA_sound hs _ h hp
  have hrun : (results fn a.tmps).run P cx.w = .ok (if h : zs.toArray.size = 1 then zs.toArray[0] else .tuple zs.toArray) cx.w := by
    have e : results fn a.tmps = (do
      let vs ← fn.results.mapM (resF a.tmps)
      pure (if h : vs.size = 1 then vs[0] else .tuple vs)) := rfl
    rw [e, Array.mapM_eq_mapM_toList]
    simp only [Sem.run_bind, Sem.run_pure, bind_map_left, h1, Result.andThen_ok]
  refine ⟨_, hrun, ?_⟩
  match q.1, zs, h2, h3 with
  | [x], [z], _, h3 => exact h3 0 x z rfl rfl
  | [], [], _, _ => exact .tup rfl fun j a v ha _ => by simp at ha
  | x :: y :: l, z :: z' :: l', h2, h3 =>
    rw [dif_neg (by simp)]
    exact .tup (by simpa using h2) fun j a v ha hv => h3 j a v ha (by simpa using hv)
theorem getD_args {vs : Array Value} {n t : Nat} : (vs ++ Array.replicate n undef).getD t undef = vs.getD t undef := by
  simp only [Array.getD_eq_getD_getElem?, Array.getElem?_append, Array.getElem?_replicate]
  split
  · rfl
  · rename_i h
    rw [Array.getElem?_eq_none (by omega)]
    split <;> rfl
theorem env_args {args : List AV} {vs : Array Value} (hl : args.length = vs.size) (hR : ∀ (j : Nat) a v, args[j]? = some a → vs[j]? = some v → Rep cx a v) (t : Nat) : Rep cx (args.getD t .junk) (vs.getD t undef) := by
  rw [List.getD_eq_getElem?_getD, Array.getD_eq_getD_getElem?]
  rcases Nat.lt_or_ge t args.length with h | h
  · have h' : t < vs.size := by rw [← hl]; exact h
    rw [List.getElem?_eq_getElem h, Array.getElem?_eq_getElem h']
    exact hR t _ _ (List.getElem?_eq_getElem h) (Array.getElem?_eq_getElem h')
  · rw [List.getElem?_eq_none h]
    exact .pure (.junk _)
theorem evFn_run {dr : DrawF} (hdr : DrawOk P dr) {md : Bool} : ∀ (n : Nat) (lp : Bool) {f : FuncId} {args : List AV} {h : Nat → Option Blk} {next : Nat} {orc : List Orc} {r : Res}, evFn P dr md n lp f args h next orc = some r → (∀ p ∈ r.cs, p) → ∀ cx, cx.H = h → CRep cx → (∀ i, (h i).isSome = true → i < next) →
    ∀ vs : Array Value, args.length = vs.size → (∀ (j : Nat) a v, args[j]? = some a → vs[j]? = some v → Rep cx a v) →
    (∃ fn, P.funcs[f]? = some fn ∧ fn.body.isSome = true ∧ fn.name ≠ "runtime.NumGoroutine") ∧
    Calls P f vs cx.w fun e w' => ∃ z cx', e = .returned z ∧ w' = cx'.w ∧ cx'.H = r.heap ∧ CRep cx' ∧ After lp cx cx' ∧ Rep cx' r.v z ∧ (∀ i, (r.heap i).isSome = true → i < r.next)
  | 0, lp, f, args, h, next, orc, r, hr, hp, cx, hH, hc, hlt, vs, hl, hR => by simp [evFn] at hr
  | n + 1, lp, f, args, h, next, orc, r, hr, hp, cx, hH, hc, hlt, vs, hl, hR => by
    unfold evFn at hr
    split at hr
    · cases hr
    · rename_i fn hf
      split at hr
      · cases hr
      · rename_i c hbody
        obtain ⟨hb, hr1⟩ := bif_some hr
        clear hr
        rw [Bool.and_eq_true, Nat.ble_eq] at hb
        refine ⟨fnOk_some hb.1, ?_⟩
        have hin : CallOk P (callA P (evFn P dr md n false)) := callA_ok fun f args h next orc r h1 h2 cx h3 h4 h5 vs h6 h7 => by
          obtain ⟨k1, k2⟩ := evFn_run hdr n false h1 h2 cx h3 h4 h5 vs h6 h7
          refine ⟨k1, k2.mono ?_⟩
          rintro e w' ⟨z, cx', m1, m2, m3, m4, m5, m6, m7⟩
          exact ⟨z, cx', m1, m2, m3, m4, m5.2 rfl, m6, m7⟩
        obtain ⟨q, hq, hr2⟩ := Option.bind_eq_some_iff.1 hr1
        clear hr1
        have hfin : ∃ rs, resultsA P md q.2.1 fn.results.toList = some rs ∧ r = ⟨oneA rs.1, q.2.1.heap, q.2.1.next, q.2.2.1, q.2.2.2 ++ rs.2⟩ ∧ (q.1 = .nrm ∨ q.1 = .ret) := by
          cases hx : q.1 with
          | nrm =>
            rw [hx] at hr2
            obtain ⟨rs, h1, h2⟩ := Option.map_eq_some_iff.1 hr2
            exact ⟨rs, h1, h2.symm, .inl rfl⟩
          | ext i => rw [hx] at hr2; cases hr2
          | ret =>
            rw [hx] at hr2
            obtain ⟨rs, h1, h2⟩ := Option.map_eq_some_iff.1 hr2
            exact ⟨rs, h1, h2.symm, .inr rfl⟩
        obtain ⟨rs, hrs, rfl, hx⟩ := hfin
        refine calls_of_wp hf hbody ?_
        have hs : SRep cx ⟨fun t => args.getD t .junk, h, next⟩ { tmps := vs ++ Array.replicate (fn.ntmps - vs.size) undef, defers := [] } fn.ntmps := by
          refine ⟨hH, hc, fun t => ?_, hlt, ?_, rfl⟩
          · show Rep cx (args.getD t .junk) ((vs ++ Array.replicate _ undef).getD t undef)
            rw [getD_args]
            exact env_args hl hR t
          · simp only [Array.size_append, Array.size_replicate]
            omega
        refine evCode_sound hdr hin c hq (fun p hp' => hp p (by simp [hp'])) hs _ fun cx1 a1 hs1 ha1 => ?_
        obtain ⟨z, k1, k2⟩ := results_sound hs1 hrs (fun p hp' => hp p (by simp [hp']))
        have hpost : a1.defers = [] ∧ ∃ v, (results fn a1.tmps).run P cx1.w = .ok v cx1.w ∧ ∃ z cx', Ending.returned v = .returned z ∧ cx1.w = cx'.w ∧ cx'.H = q.2.1.heap ∧ CRep cx' ∧ After lp cx cx' ∧ Rep cx' (oneA rs.1) z ∧ (∀ i, (q.2.1.heap i).isSome = true → i < q.2.1.next) :=
          ⟨hs1.df, z, k1, z, cx1, rfl, rfl, hs1.H, hs1.c, ha1, k2, hs1.lt⟩
        rcases hx with hx | hx
        · rw [hx]; exact hpost
        · rw [hx]; exact hpost
/-- blocks by their places -/
def idxH (H : List Blk) : List (Nat × Blk) := (List.range H.length).zip H
theorem lookO_zip : ∀ (H : List Blk) (k n i : Nat), n = H.length → lookO ((List.range' k n).zip H) i = if k ≤ i then H[i - k]? else none
  | [], k, n, i, h => by subst h; simp [lookO]
  | b :: H, k, n, i, h => by
    subst h
    rw [List.length_cons, List.range'_succ, List.zip_cons_cons, lookO]
    cases hb : Nat.beq i k with
    | true =>
      have e := Nat.eq_of_beq_eq_true hb
      subst e
      simp
    | false =>
      have hne : ¬ i = k := fun e => by rw [e, Nat.beq_refl] at hb; cases hb
      simp only [cond_false]
      rw [lookO_zip H (k + 1) H.length i rfl]
      by_cases h1 : k + 1 ≤ i
      · rw [if_pos h1, if_pos (by omega), show i - k = (i - (k + 1)) + 1 by omega, List.getElem?_cons_succ]
      · rw [if_neg h1, if_neg (by omega)]
theorem lookO_idxH (H : List Blk) : lookO (idxH H) = fun i => H[i]? := by
  funext i
  unfold idxH
  rw [List.range_eq_range', lookO_zip H 0 H.length i rfl]
  simp
/-- **A function's text, carried out, is its contract.** -/
theorem PureC.of {dr : DrawF} (hdr : DrawOk P dr) {md : Bool} {n : Nat} {f : FuncId} {args : List AV} {orc : List Orc} {r : Res} (h : evFn P dr md n true f args (fun _ => none) 0 orc = some r) (hp : ∀ p ∈ r.cs, p) {ρ : List (Nat × Nat)} {res : AV} {H : List Blk} {ps : List Prop}
    (hl : leS ρ ⟨fun _ => r.v, r.heap, r.next⟩ ⟨[(0, res)], idxH H, H.length⟩ = some ps) (hps : ∀ p ∈ ps, p) : PureC P f args res H := by
  intro w R vs hR hlen hargs
  have hc : CRep ⟨w, R, fun _ => none, fun _ => none, w.heap.size⟩ := ⟨fun id b h => (by cases h), fun id id' g c c' h => (by cases h), hR, Nat.le_refl _⟩
  obtain ⟨_, hcl⟩ := evFn_run hdr n true h hp ⟨w, R, fun _ => none, fun _ => none, w.heap.size⟩ rfl hc (fun i hi => by cases hi) vs hlen (fun j a v ha hv => .pure (hargs j a v ha hv))
  refine hcl.mono ?_
  rintro e w' ⟨z, cx1, rfl, rfl, k1, k2, k3, k4, k5⟩
  obtain ⟨m1, m2, m3⟩ := leS_sound k2 (st := ⟨fun _ => r.v, r.heap, r.next⟩) k1 hl hps (tmp := fun _ => z) (fun _ => k4)
  have he := ren_ext k2 ρ (lookO (idxH H))
  have hex := k3.1.trans he
  refine ⟨z, cx1.ren ρ (lookO (idxH H)), rfl, rfl, ?_, m1, hex.B, hex.R, hex.Rn, ⟨hex.os, hex.tape, hex.output, hex.size, fun g hg => hex.block g hg (.inl hg)⟩, ?_⟩
  · show lookO (idxH H) = _
    exact lookO_idxH H
  · have := m2 0
    exact this
end
end Go.Proofs.Ytdbnfdcjibgikaa.Rx
