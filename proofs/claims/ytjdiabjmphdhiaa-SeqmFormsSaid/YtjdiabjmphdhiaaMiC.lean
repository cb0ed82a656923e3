/- Merged: Rx22, Rx23, Rx24, A7a, A7b, A7c, Rx25, RetW, Cat, CdMath, Code, RPut, A7d, A7e, WdMath, WdMask, A7f, A7g, A7h, A7i, Rx26, A7j, Rx27, WdDo, S8a, S8b. -/
import Derived.Test.YtjdiabjmphdhiaaMiB
import Derived.Test.YtjdiabjmphdhiaaMiA
import Derived.Outline
import Derived.Lib.AppendZeros
import Derived.Deep.QuietTactic
import Derived.Laws.Rows
import Derived.Test.YtjdiabjmphdhiaaRows
import Derived.Lib.Bytes
import Derived.Lib.Bytealg
import Derived.BigQuiet
import Derived.WalkKit
import Derived.Lib.Hide
import Derived.WalkSpells
set_option linter.unusedVariables false
set_option linter.unusedSimpArgs false
set_option maxRecDepth 100000
namespace Go.Proofs.Ytjdiabjmphdhiaa.Rx
section
open Go.RowKit
section
variable {P : Program} {T : Nat → Tch} {md : Bool} {call : CallF} {nt : Nat} {ops : Array Oper} {st : St} {D : Nat → DS}
/-- each block is as the last one that wrote it, of those that came up, has left it -/
def HpI (T : Nat → Tch) (ops : Array Oper) (st : St) (D : Nat → DS) (listed : Array Bool) (H : Nat → Option Blk) : Prop :=
  ∀ id, (∃ k, k < ops.size ∧ Up listed k ∧ wrsT (T k) id ∧ (∀ j, j < ops.size → Up listed j → wrsT (T j) id → j ≤ k) ∧ H id = (D (k + 1)).st.heap id) ∨ ((∀ j, j < ops.size → Up listed j → ¬ wrsT (T j) id) ∧ H id = st.heap id)
structure EnvI (ops : Array Oper) (st : St) (D : Nat → DS) (listed : Array Bool) (e : Nat → AV) : Prop where
  e1 : ∀ (k : Nat) o t, ops[k]? = some o → o.dst = some t → Up listed k → e t = (D (k + 1)).st.env t
  e2 : ∀ t, (∀ (k : Nat) o, ops[k]? = some o → o.dst = some t → ¬ Up listed k) → e t = st.env t
theorem EnvI.put {listed : Array Bool} {e : Nat → AV} (h : EnvI ops st D listed e) (hs : statOk ops (befs ops) = true) {i : Nat} {o : Oper} (ho : ops[i]? = some o) (hi : i < listed.size) {v : AV} (hv : (D (i + 1)).st.env = putE (D i).st.env o.dst v) : EnvI ops st D (listed.setIfInBounds i true) (putE e o.dst v) := by
  refine ⟨fun k p t hp hd hu => ?_, fun t hno => ?_⟩
  · rcases (up_set hi).1 hu with rfl | hu'
    · rw [ho] at hp; cases hp
      rw [hv, putE_same hd, putE_same hd]
    · by_cases hk : k = i
      · subst hk
        rw [ho] at hp; cases hp
        rw [hv, putE_same hd, putE_same hd]
      · have := (statOk_dst hs ho hp hd).1
        rw [putE_other (this.resolve_left hk)]
        exact h.e1 k p t hp hd hu'
  · rw [putE_other fun hd => hno i o ho hd ((up_set hi).2 (.inl rfl))]
    exact h.e2 t fun k p hp hd hu => hno k p hp hd ((up_set hi).2 (.inr hu))
/-- what i looks at is as it is in the order of the text -/
theorem EnvI.agree {listed : Array Bool} {e : Nat → AV} (h : EnvI ops st D listed e) (hD : SeqD P T md call nt ops st D) (hs : statOk ops (befs ops) = true) (hc : Closed ops listed) {i : Nat} (hr : i ∈ Region.ready .any ops listed) {o : Oper} (ho : ops[i]? = some o) {t : Tmp} (ht : t ∈ tmpsOf o ops) : e t = (D i).st.env t := by
  obtain ⟨hnu, hi, hc'⟩ := hc.ready hr
  have hi' : i < listed.size := by rw [hc.sz]; exact hi
  have uniq : ∀ (k k' : Nat) p p', ops[k]? = some p → ops[k']? = some p' → p.dst = some t → p'.dst = some t → k = k' := fun k k' p p' h1 h2 h3 h4 => by
    have := (statOk_dst hs h2 h1 h3).1
    exact this.resolve_right fun hn => hn h4
  by_cases hex : ∃ (k : Nat) (p : Oper), ops[k]? = some p ∧ p.dst = some t
  · obtain ⟨k, p, hp, hd⟩ := hex
    have hk : k < ops.size := (Array.getElem?_eq_some_iff.1 hp).1
    have late : ¬ k < i → ¬ Up listed k → e t = (D i).st.env t := fun h1 h2 => by
      rw [h.e2 t fun k' p' hp' hd' hu => h2 (uniq k k' p p' hp hp' hd hd' ▸ hu)]
      have := hD.env_keep (t := t) (a := 0) i (by omega) (by omega) fun j o' j1 j2 j3 j4 => by
        have := uniq k j p o' hp j3 hd j4
        omega
      rw [this, hD.st0]
    rcases (statOk_dst hs ho hp hd).2 ht with rfl | ⟨h1, h2⟩ | ⟨h1, h2⟩
    · exact late (by omega) hnu
    · have hu : Up listed k := by
        have := (hc'.bef hs i ((up_set hi').2 (.inl rfl)) k h2)
        rcases (up_set hi').1 this with rfl | hu
        · omega
        · exact hu
      rw [h.e1 k p t hp hd hu]
      exact (hD.env_keep (t := t) (a := k + 1) i (by omega) (by omega) fun j o' j1 j2 j3 j4 => by
        have := uniq k j p o' hp j3 hd j4
        omega).symm
    · exact late h1 fun hu => hnu (hc.bef hs k hu i h2)
  · rw [h.e2 t fun k p hp hd => absurd ⟨k, p, hp, hd⟩ hex]
    have := hD.env_keep (t := t) (a := 0) i (by omega) (by omega) fun j o' j1 j2 j3 j4 => hex ⟨j, o', j3, j4⟩
    rw [this, hD.st0]
theorem agree_eval {o : Oper} {e e' : Nat → AV} (h : ∀ t ∈ tmpsOf o ops, e t = e' t) : ∀ x ∈ o.op.operands.toList, evalA e x = evalA e' x := fun x hx => by
  cases x with
  | tmp t => exact h t (by
      unfold tmpsOf
      rw [List.mem_append]
      exact .inl (List.mem_filterMap.2 ⟨.tmp t, hx, rfl⟩))
  | _ => rfl
theorem agree_guard {o : Oper} {e e' : Nat → AV} (h : ∀ t ∈ tmpsOf o ops, e t = e' t) {orc : List Orc} : guardA ops o e orc = guardA ops o e' orc := by
  unfold guardA
  cases hg : o.guard with
  | none => rfl
  | some p =>
    obtain ⟨j, want⟩ := p
    simp only
    cases hd : (ops[j]?).bind (·.dst) with
    | none => rfl
    | some d =>
      simp only
      rw [h d (by
        unfold tmpsOf
        rw [List.mem_append]
        refine .inr ?_
        rw [hg]
        simp only [hd, Option.toList, List.mem_singleton])]
theorem evMake_next {md : Bool} {op : Op} {ρ : Operand → AV} {h : Nat → Option Blk} {next : Nat} {orc : List Orc} {r : Res} (hv : fvO orc = false) (hr : evMake P md op ρ h next orc = some r) : next < r.next := by
  rw [evMake_0 hv] at hr
  cases op with
  | alloc t =>
    obtain ⟨z, hz, rfl⟩ := Option.map_eq_some_iff.1 hr
    exact Nat.lt_succ_self _
  | box t x =>
    obtain ⟨z, hz, rfl⟩ := Option.map_eq_some_iff.1 hr
    cases hfz : fzO orc && z.all baseA with
    | false => exact Nat.lt_succ_self _
    | true => exact Nat.lt_succ_self _
  | makeSlice t x y =>
    unfold evMake0 at hr
    simp only at hr
    split at hr
    · split at hr
      · obtain ⟨i, hi, hr⟩ := Option.bind_eq_some_iff.1 hr
        obtain ⟨z, hz, hr⟩ := Option.bind_eq_some_iff.1 hr
        obtain ⟨hb, hr⟩ := bif_some hr
        obtain ⟨p, hp, rfl⟩ := Option.map_eq_some_iff.1 hr
        exact Nat.lt_succ_self _
      · cases hr
    · cases hr
  | buildSlice t len parts =>
    unfold evMake0 at hr
    simp only at hr
    split at hr
    · obtain ⟨s, hs, hr⟩ := Option.bind_eq_some_iff.1 hr
      obtain ⟨hb, hr⟩ := bif_some hr
      obtain ⟨z, hz, hr⟩ := Option.bind_eq_some_iff.1 hr
      obtain ⟨cs, hcs, rfl⟩ := Option.map_eq_some_iff.1 hr
      exact Nat.lt_succ_self _
    · cases hr
  | _ => cases hr
structure InvD (T : Nat → Tch) (ops : Array Oper) (st : St) (D : Nat → DS) (nt : Nat) (cx0 : Cx) (listed : Array Bool) (a : Act) (cx : Cx) (e : Nat → AV) (N : Nat) : Prop where
  cl : Closed ops listed
  stab : Stab cx0 cx
  s : SRep cx ⟨e, cx.H, N⟩ a nt
  env : EnvI ops st D listed e
  hp : HpI T ops st D listed cx.H
  bd : ∀ k, k < ops.size → Up listed k → (T k).all = true → Bnd (D (k + 1))
/-- where all that wrote a block ahead of i has come up, and nobody behind it, it is as the text has it -/
theorem hp_at (hD : SeqD P T md call nt ops st D) {listed : Array Bool} {H : Nat → Option Blk} (hp : HpI T ops st D listed H) {i id : Nat} (hi : i ≤ ops.size) (h1 : ∀ k, k < i → wrsT (T k) id → Up listed k) (h2 : ∀ k, i ≤ k → k < ops.size → wrsT (T k) id → ¬ Up listed k) : H id = (D i).st.heap id := by
  rcases hp id with ⟨k, k1, k2, k3, k4, k5⟩ | ⟨k1, k2⟩
  · have hk : k < i := by
      rcases Nat.lt_or_ge k i with h | h
      · exact h
      · exact absurd k2 (h2 k h k1 k3)
    rw [k5]
    exact (hD.keepId (a := k + 1) (id := id) i (by omega) hi fun j j1 j2 hw => by
      have := k4 j (by omega) (h1 j j2 hw) hw
      omega).symm
  · rw [k2, ← hD.st0]
    exact (hD.keepId (a := 0) (id := id) i (by omega) hi fun j j1 j2 hw => k1 j (by omega) (h1 j j2 hw) hw).symm
/-- one more came up, that wrote nothing -/
theorem hp_quiet {listed : Array Bool} {H : Nat → Option Blk} {i : Nat} (hi : i < listed.size) (hq : ∀ id, ¬ wrsT (T i) id) (hp : HpI T ops st D listed H) : HpI T ops st D (listed.setIfInBounds i true) H := by
  intro id
  have hu : ∀ j, Up (listed.setIfInBounds i true) j → wrsT (T j) id → Up listed j := fun j hj hw => by
    rcases (up_set hi).1 hj with rfl | hj
    · exact absurd hw (hq id)
    · exact hj
  rcases hp id with ⟨k, k1, k2, k3, k4, k5⟩ | ⟨k1, k2⟩
  · exact .inl ⟨k, k1, (up_set hi).2 (.inr k2), k3, fun j j1 j2 j3 => k4 j j1 (hu j j2 j3) j3, k5⟩
  · exact .inr ⟨fun j j1 j2 j3 => k1 j j1 (hu j j2 j3) j3, k2⟩
/-- one more came up, and wrote some -/
theorem hp_wrote {listed : Array Bool} {H H' : Nat → Option Blk} {i : Nat} (hi : i < listed.size) (hio : i < ops.size) (hlast : ∀ id, wrsT (T i) id → ∀ j, j < ops.size → Up listed j → wrsT (T j) id → j ≤ i) (h1 : ∀ id, wrsT (T i) id → H' id = (D (i + 1)).st.heap id) (h2 : ∀ id, ¬ wrsT (T i) id → H' id = H id) (hp : HpI T ops st D listed H) : HpI T ops st D (listed.setIfInBounds i true) H' := by
  intro id
  by_cases hw : wrsT (T i) id
  · refine .inl ⟨i, hio, (up_set hi).2 (.inl rfl), hw, fun j j1 j2 j3 => ?_, h1 id hw⟩
    rcases (up_set hi).1 j2 with rfl | hu
    · exact Nat.le_refl _
    · exact hlast id hw j j1 hu j3
  · have hu : ∀ j, Up (listed.setIfInBounds i true) j → wrsT (T j) id → Up listed j := fun j hj hw' => by
      rcases (up_set hi).1 hj with rfl | hj
      · exact absurd hw' hw
      · exact hj
    rw [h2 id hw]
    rcases hp id with ⟨k, k1, k2, k3, k4, k5⟩ | ⟨k1, k2⟩
    · exact .inl ⟨k, k1, (up_set hi).2 (.inr k2), k3, fun j j1 j2 j3 => k4 j j1 (hu j j2 j3) j3, k5⟩
    · exact .inr ⟨fun j j1 j2 j3 => k1 j j1 (hu j j2 j3) j3, k2⟩
theorem InvD.step {cx0 cx : Cx} {listed : Array Bool} {a : Act} {e : Nat → AV} {N : Nat} (hI : InvD T ops st D nt cx0 listed a cx e N) (hD : SeqD P T md call nt ops st D) (hcall : CallOk P call) (hs : statOk ops (befs ops) = true) {i : Nat} (hr : i ∈ Region.ready .any ops listed)
    {K : Act → World → Prop} {Q : Exit → Act → World → Prop} (hK : ∀ cx' a' e' N', InvD T ops st D nt cx0 (listed.setIfInBounds i true) a' cx' e' N' → K a' cx'.w) : wpOp P ops Q i K a cx.w := by
  obtain ⟨hnu, hi, hc'⟩ := hI.cl.ready hr
  have hi' : i < listed.size := by rw [hI.cl.sz]; exact hi
  obtain ⟨o, g, ho, hd, hg, h1, hbef⟩ := hD.at_ hi
  have hag : ∀ t ∈ tmpsOf o ops, (D i).st.env t = e t := fun t ht => (hI.env.agree hD hs hI.cl hr ho ht).symm
  have hev := agree_eval hag
  rw [agree_guard hag] at hg
  -- who conflicts with i, and stands ahead of it, is up; who stands behind is not
  have upB : ∀ k, k < i → cfl (T i) (T k) = true → Up listed k := fun k hk hc => by
    have := hc'.bef hs i ((up_set hi').2 (.inl rfl)) k (hbef k hk hc)
    rcases (up_set hi').1 this with rfl | hu
    · omega
    · exact hu
  have upA : ∀ k, i < k → k < ops.size → cfl (T k) (T i) = true → ¬ Up listed k := fun k hk hkn hc hu => by
    obtain ⟨_, _, _, _, _, _, hb⟩ := hD.at_ hkn
    exact hnu (hI.cl.bef hs k hu i (hb i hk hc))
  have seen : ∀ id, tchT (T i) id → cx.H id = (D i).st.heap id := fun id ht => hp_at hD hI.hp (Nat.le_of_lt hi) (fun k hk hw => upB k hk (cfl_wt hw ht).2) (fun k hk hkn hw => by
    by_cases hki : k = i
    · subst hki; exact hnu
    · exact upA k (by omega) hkn (cfl_wt hw ht).1)
  have hlast : ∀ id, wrsT (T i) id → ∀ j, j < ops.size → Up listed j → wrsT (T j) id → j ≤ i := fun id hw j hj hu hwj => by
    rcases Nat.lt_or_ge i j with h | h
    · exact absurd hu (upA j h hj (cfl_wt hwj (hw.imp_right .inl)).1)
    · exact h
  have bdI : (T i).any = true → Bnd (D i) := fun hany => by
    have hdec : DecidablePred fun k => (T k).all = true := fun k => inferInstance
    rcases lastW (fun k => (T k).all = true) i with ⟨k, k1, k2, k3⟩ | h0
    · have hu : Up listed k := upB k k1 (by unfold cfl; rw [k2, hany]; simp)
      refine hD.bnd (a := k + 1) (hI.bd k (by omega) hu k2) i (by omega) (by omega) fun j j1 j2 => ?_
      cases hx : (T j).all with
      | false => rfl
      | true => have := k3 j j2 hx; omega
    · refine hD.bnd (a := 0) (fun id hid => ?_) i (by omega) (by omega) fun j _ j2 => ?_
      · rw [hD.st0] at hid ⊢; exact hD.lt id hid
      · cases hx : (T j).all with
        | false => rfl
        | true => exact absurd hx (h0 j j2)
  unfold wpOp
  rw [ho]
  simp only
  rcases h1 with ⟨hgf, hv, _, _, hT, hp⟩ | ⟨hgt, r, hrr, hpg, hpr, hv, e1, e2, hT⟩
  · have hw := guardA_sound hg hp hI.s
    rw [hgf] at hw
    rw [hw]
    simp only [Bool.false_eq_true, if_false]
    refine hK cx _ _ N ⟨hc', hI.stab, hI.s.put (Stab.refl cx) hI.s.c rfl hI.s.lt hd (.pure (.val _)), hI.env.put hs ho hi' hv, hp_quiet hi' (fun id hw => by rw [hT] at hw; rcases hw with h | h <;> cases h) hI.hp, fun k k1 k2 k3 => ?_⟩
    rcases (up_set hi').1 k2 with rfl | hu
    · rw [hT] at k3; cases k3
    · exact hI.bd k k1 hu k3
  · have hw := guardA_sound hg hpg hI.s
    rw [hgt] at hw
    rw [hw]
    simp only [if_true]
    refine .inl ?_
    cases hall : (T i).all with
    | true =>
      -- all of memory
      have hH : cx.H = (D i).st.heap := funext fun id => seen id (.inl hall)
      have hbnd : Bnd (D i) := bdI (by unfold Tch.any; rw [hall]; rfl)
      have hrr' : evD P md call o.op (evalA e) (D i).st.heap (D i).st.next g.2.1 = some r := evD_congr hev ▸ hrr
      have hs0 : SRep cx ⟨e, (D i).st.heap, (D i).st.next⟩ a nt := ⟨hH, hI.s.c, hI.s.env, hbnd, hI.s.sz, hI.s.df⟩
      have fin : ∀ cx' a', SRep cx' ⟨putE e o.dst r.v, r.heap, r.next⟩ a' nt → Stab cx cx' → K a' cx'.w := fun cx' a' hs' hst' => by
        have hHe : cx'.H = r.heap := hs'.H
        refine hK cx' a' _ r.next ⟨hc', hI.stab.trans hst', by rw [hHe]; exact hs', hI.env.put hs ho hi' hv, hp_wrote hi' hi hlast (fun id _ => by rw [hHe, e1]) (fun id hn => absurd (.inl hall) hn) hI.hp, fun k k1 k2 k3 => ?_⟩
        rcases (up_set hi').1 k2 with rfl | hu
        · intro id hid
          rw [e2]
          rw [e1] at hid
          exact hs'.lt id hid
        · exact hI.bd k k1 hu k3
      cases hcl : isCl o.op (evalA e) g.2.1 with
      | true =>
        refine callC_wp hcl (by rw [hH]; exact hrr') hpr hI.s.c hI.s.env (fun id h5 h6 => ?_) fun cx' z m1 m2 m3 m4 m5 => fin cx' _ (hI.s.put m3 m2 m1 (m5.lt fun id hid => hbnd id (by rw [← hH]; exact hid)) hd m4) m3
        cases hx : cx.H id with
        | none => rfl
        | some b => have := hbnd id (by rw [← hH, hx]; rfl); omega
      | false =>
        cases hcp : isCp o.op (evalA e) g.2.1 with
        | true =>
          refine callP_wp hcp (by rw [hH]; exact hrr') hpr hI.s.c hI.s.env fun cx' z m1 m2 m3 m4 m5 m6 => fin cx' _ (hI.s.put m3 m2 m1 (fun id hid => ?_) hd m4) m3
          rw [m6]
          exact hbnd id (by rw [← hH, ← m5]; exact hid)
        | false =>
          unfold evD at hrr'
          rw [hcl, hcp] at hrr'
          exact evOp_sound hcall hrr' hpr hs0 hd fin
    | false =>
      have hall' := hall
      rw [hT] at hall'
      have L := evD_loc hrr hall'
      rw [← hT] at L
      have wr_iff : ∀ id, wrsT (T i) id ↔ id ∈ (T i).wr := fun id => ⟨fun h => h.resolve_left (by rw [hall]; simp), .inr⟩
      have notall : ∀ k, k < ops.size → Up (listed.setIfInBounds i true) k → (T k).all = true → Bnd (D (k + 1)) := fun k k1 k2 k3 => by
        rcases (up_set hi').1 k2 with rfl | hu
        · rw [hall] at k3; cases k3
        · exact hI.bd k k1 hu k3
      have done : ∀ cx' a' r' N', evD P md call o.op (evalA e) cx.H N' g.2.1 = some r' → r'.v = r.v → (∀ id ∈ (T i).wr, r'.heap id = r.heap id) → (∀ id, id ∉ (T i).wr → r'.heap id = cx.H id) → cx'.H = r'.heap → ∀ M, SRep cx' ⟨putE e o.dst r.v, cx'.H, M⟩ a' nt → Stab cx cx' → K a' cx'.w := fun cx' a' r' N' _ _ q1 q2 hHe M hs' hst' => by
        refine hK cx' a' _ M ⟨hc', hI.stab.trans hst', hs', hI.env.put hs ho hi' hv, hp_wrote hi' hi hlast (fun id hw => by rw [hHe, q1 id ((wr_iff id).1 hw), e1]) (fun id hn => by rw [hHe, q2 id fun hm => hn ((wr_iff id).2 hm)]) hI.hp, notall⟩
      have rdH : ∀ id ∈ (T i).rd, cx.H id = (D i).st.heap id := fun id hid => seen id (.inr (.inr hid))
      have wrH : ∀ id ∈ (T i).wr, cx.H id = (D i).st.heap id := fun id hid => seen id (.inr (.inl hid))
      cases hnw : (T i).nw with
      | false =>
        -- it takes no numbers
        obtain ⟨r', k1, k2, k3, k4, _, k6, k7, k8⟩ := L.loc cx.H N (fun h => by rw [hnw] at h; cases h) rdH wrH
        rw [evD_congr hev] at k1
        have hpr' : ∀ p ∈ r'.cs, p := by rw [k4]; exact hpr
        have hlt' : ∀ id, (r'.heap id).isSome = true → id < N := fun id hid => by
          by_cases hm : id ∈ (T i).wr
          · rcases L.wrs id hm with h2 | h2
            · exact hI.s.lt id (by show (cx.H id).isSome = true; rw [wrH id hm]; exact h2)
            · have := L.nonew hnw
              omega
          · rw [k8 id hm] at hid
            exact hI.s.lt id hid
        have finz : ∀ cx' z, cx'.H = r'.heap → CRep cx' → Stab cx cx' → Rep cx' r'.v z → K (a.put o.dst z) cx'.w := fun cx' z m1 m2 m3 m4 => by
          have hs' := hI.s.put (next := N) m3 m2 m1 hlt' hd m4
          rw [k2, ← m1] at hs'
          exact done cx' _ r' N k1 k2 k7 k8 m1 N hs' m3
        cases hcl : isCl o.op (evalA e) g.2.1 with
        | true =>
          exfalso
          have hcls := isCl_cls (P := P) (op := o.op) (ρ := evalA e) (orc := g.2.1) hcl
          rw [hT] at hnw hall
          unfold tchOf at hnw hall
          rw [hcls] at hnw hall
          rw [isCl_congr hev, hcl] at hnw hall
          simp only [cond_true] at hnw hall
          cases hf : frzd (D i).st.heap (rdD o.op (evalA (D i).st.env)) with
          | true => rw [hf] at hnw; cases hnw
          | false => rw [hf] at hall; cases hall
        | false =>
          cases hcp : isCp o.op (evalA e) g.2.1 with
          | true => exact callP_wp hcp k1 hpr' hI.s.c hI.s.env fun cx' z m1 m2 m3 m4 _ _ => finz cx' z m1 m2 m3 m4
          | false =>
            have hrl := k1
            unfold evD at hrl
            rw [hcl, hcp] at hrl
            simp only [cond_false] at hrl
            by_cases hcc : clsOf P o.op = .call
            · exfalso
              rw [hT] at hall
              unfold tchOf at hall
              rw [hcc, isCl_congr hev, hcl, isCp_congr hev, hcp] at hall
              cases hall
            · exact evOp_base hrl hcc hpr' rfl hI.s.c hI.s.env (by
                cases hx : cx.H N with
                | none => rfl
                | some b => exact absurd (hI.s.lt N (by show (cx.H N).isSome = true; rw [hx]; rfl)) (Nat.lt_irrefl _)) fun cx' z m1 m2 m3 m4 _ => finz cx' z m1 m2 m3 m4
      | true =>
        -- it takes numbers, those that the text has for it
        have hany : (T i).any = true := by unfold Tch.any; rw [hnw]; simp
        have hbnd := bdI hany
        obtain ⟨r', k1, k2, k3, k4, k5, _, k7, k8⟩ := L.loc cx.H (D i).st.next (fun _ => rfl) rdH wrH
        rw [evD_congr hev] at k1
        have k5' := k5 hnw
        have hpr' : ∀ p ∈ r'.cs, p := by rw [k4]; exact hpr
        have hfree : ∀ id, (D i).st.next ≤ id → id < r.next → cx.H id = none := fun id h5 h6 => by
          rw [wrH id (L.new id h5 h6)]
          cases hx : (D i).st.heap id with
          | none => rfl
          | some b => have := hbnd id (by rw [hx]; rfl); omega
        have hlt' : ∀ id, (r'.heap id).isSome = true → id < max N r.next := fun id hid => by
          by_cases hm : id ∈ (T i).wr
          · rcases L.wrs id hm with h2 | h2
            · have : id < N := hI.s.lt id (by show (cx.H id).isSome = true; rw [wrH id hm]; exact h2)
              omega
            · omega
          · rw [k8 id hm] at hid
            have : id < N := hI.s.lt id hid
            omega
        have finz : ∀ cx' z, cx'.H = r'.heap → CRep cx' → Stab cx cx' → Rep cx' r'.v z → K (a.put o.dst z) cx'.w := fun cx' z m1 m2 m3 m4 => by
          have hs' := hI.s.put (next := max N r.next) m3 m2 m1 hlt' hd m4
          rw [k2, ← m1] at hs'
          exact done cx' _ r' _ k1 k2 k7 k8 m1 _ hs' m3
        cases hcl : isCl o.op (evalA e) g.2.1 with
        | true => exact callC_wp hcl k1 hpr' hI.s.c hI.s.env (fun id h5 h6 => hfree id h5 (by rw [k5'] at h6; exact h6)) fun cx' z m1 m2 m3 m4 _ => finz cx' z m1 m2 m3 m4
        | false =>
          cases hcp : isCp o.op (evalA e) g.2.1 with
          | true => exact callP_wp hcp k1 hpr' hI.s.c hI.s.env fun cx' z m1 m2 m3 m4 _ _ => finz cx' z m1 m2 m3 m4
          | false =>
            have hrl := k1
            unfold evD at hrl
            rw [hcl, hcp] at hrl
            simp only [cond_false] at hrl
            by_cases hcc : clsOf P o.op = .call
            · exfalso
              rw [hT] at hall
              unfold tchOf at hall
              rw [hcc, isCl_congr hev, hcl, isCp_congr hev, hcp] at hall
              cases hall
            · refine evOp_base hrl hcc hpr' rfl hI.s.c hI.s.env ?_ fun cx' z m1 m2 m3 m4 _ => finz cx' z m1 m2 m3 m4
              cases hx : cx.H (D i).st.next with
              | none => rfl
              | some b =>
                exfalso
                have hlt : (D i).st.next < r.next := by
                  cases hcz : clsOf P o.op with
                  | pur => rw [hT] at hnw; unfold tchOf at hnw; rw [hcz] at hnw; cases hnw
                  | read =>
                    rw [hT] at hnw; unfold tchOf at hnw; rw [hcz] at hnw
                    simp only at hnw
                    cases ha : adrOnly o.op (evalA (D i).st.env) with
                    | true => rw [ha] at hnw; cases hnw
                    | false => rw [ha] at hnw; cases hnw
                  | call => exact absurd hcz hcc
                  | make =>
                    have hfv : fvO g.2.1 = false := by
                      rw [hT] at hnw; unfold tchOf at hnw; rw [hcz] at hnw
                      simp only at hnw
                      cases hx2 : fvO g.2.1 with
                      | false => rfl
                      | true => rw [hx2] at hnw; cases hnw
                    have h9 := hrr
                    unfold evD evOp at h9
                    rw [hcz] at h9
                    exact evMake_next hfv h9
                  | write =>
                    have hm : (D i).st.next ∈ (T i).wr := by
                      rw [hT] at hnw hall ⊢
                      exact tch_write hcz hnw hall
                    rcases L.wrs _ hm with h2 | h2
                    · have := hbnd _ h2; omega
                    · exact h2.2
                rw [hfree _ (Nat.le_refl _) hlt] at hx
                cases hx
end
end
end Go.Proofs.Ytjdiabjmphdhiaa.Rx
namespace Go.Proofs.Ytjdiabjmphdhiaa.Rx
section
open Go.RowKit
section
variable {P : Program}
def Cx.drew (cx : Cx) : Cx := ⟨{ cx.w with drawn := cx.w.drawn + 1 }, cx.R, cx.φ, cx.H, cx.B⟩
theorem drew_stab (cx : Cx) : Stab cx cx.drew :=
  ⟨⟨rfl, fun _ h => h, fun _ h => .inl h, rfl, rfl, rfl, Nat.le_refl _, fun _ _ _ => rfl⟩, fun id b h => ⟨b, h, fun _ => ⟨rfl, sameShape.rfl' b⟩, fun _ => rfl⟩, fun id b b' h h' => by
    have h2 : cx.H id = some b' := h'
    rw [h] at h2; cases h2; exact Nat.le_refl _⟩
theorem drew_crep {cx : Cx} (hc : CRep cx) : CRep cx.drew := by
  refine ⟨fun id b hb => ?_, hc.inj, hc.rlt, hc.blt⟩
  have h := hc.hb id b hb
  unfold HB at h ⊢
  split
  · rename_i cs hcs
    rw [hcs] at h
    obtain ⟨g, cur, h1, h2, h3, h4, h5⟩ := h
    refine ⟨g, cur, h1, h2, h3, fun j a ha => ?_, h5⟩
    obtain ⟨u, u1, u2, u3⟩ := h4 j a ha
    exact ⟨u, u1, u2, u3.stab hc (drew_stab cx)⟩
  · rename_i m n f hcs
    rw [hcs] at h
    rcases h with h | ⟨g, cap, cur, h1, h2, h3, h4, h5, h6, h7⟩
    · exact .inl h
    · refine .inr ⟨g, cap, cur, h1, h2, h3, h4, h5, fun i hi j hj => ?_, h7⟩
      obtain ⟨u, u1, u2, u3⟩ := h6 i hi j hj
      exact ⟨u, u1, u2, u3.mono (fun _ h => h) fun _ _ => rfl⟩
theorem drew_srep {cx : Cx} {st : St} {a : Act} {nt : Nat} (hs : SRep cx st a nt) : SRep cx.drew st a nt :=
  ⟨hs.H, drew_crep hs.c, fun t => (hs.env t).stab hs.c (drew_stab cx), hs.lt, hs.sz, hs.df⟩
theorem InvD.any {T : Nat → Tch} {md : Bool} {call : CallF} {nt : Nat} {ops : Array Oper} {st : St} {D : Nat → DS} {cx0 : Cx} (hD : SeqD P T md call nt ops st D) (hcall : CallOk P call) (hs : statOk ops (befs ops) = true)
    {Q : Exit → Act → World → Prop} (hQ : ∀ cx' a', SRep cx' (D ops.size).st a' nt → Stab cx0 cx' → Q .normal a' cx'.w) :
    ∀ (fuel : Nat) {listed : Array Bool} {a : Act} {cx : Cx} {e : Nat → AV} {N : Nat}, InvD T ops st D nt cx0 listed a cx e N → (List.range ops.size).countP (fun i => !(listed.getD i false)) ≤ fuel → wpAny P .any ops Q fuel listed a cx.w := by
  have fin : ∀ {listed : Array Bool} {a : Act} {cx : Cx} {e : Nat → AV} {N : Nat}, InvD T ops st D nt cx0 listed a cx e N → Region.ready .any ops listed = [] → Q .normal a cx.w := by
    intro listed a cx e N hI hr
    have hall := hI.cl.done hs hr
    have hH : cx.H = (D ops.size).st.heap := funext fun id => hp_at hD hI.hp (Nat.le_refl _) (fun k hk _ => hall k hk) (fun k h1 h2 _ => by omega)
    have hlt : Bnd (D ops.size) := by
      have hdec : DecidablePred fun k => (T k).all = true := fun k => inferInstance
      rcases lastW (fun k => (T k).all = true) ops.size with ⟨k, k1, k2, k3⟩ | h0
      · refine hD.bnd (a := k + 1) (hI.bd k k1 (hall k k1) k2) ops.size (by omega) (Nat.le_refl _) fun j j1 j2 => ?_
        cases hx : (T j).all with
        | false => rfl
        | true => have := k3 j j2 hx; omega
      · refine hD.bnd (a := 0) (fun id hid => ?_) ops.size (by omega) (Nat.le_refl _) fun j _ j2 => ?_
        · rw [hD.st0] at hid ⊢; exact hD.lt id hid
        · cases hx : (T j).all with
          | false => rfl
          | true => exact absurd hx (h0 j j2)
    have he : e = (D ops.size).st.env := by
      funext t
      by_cases hex : ∃ (k : Nat) (p : Oper), ops[k]? = some p ∧ p.dst = some t
      · obtain ⟨k, p, hp, hd⟩ := hex
        have hk : k < ops.size := (Array.getElem?_eq_some_iff.1 hp).1
        rw [hI.env.e1 k p t hp hd (hall k hk)]
        exact (hD.env_keep (t := t) (a := k + 1) ops.size (by omega) (Nat.le_refl _) fun j o' j1 j2 j3 j4 => by
          have := (statOk_dst hs j3 hp hd).1
          rcases this with rfl | h5
          · omega
          · exact h5 j4).symm
      · rw [hI.env.e2 t fun k p hp hd => absurd ⟨k, p, hp, hd⟩ hex]
        have := hD.env_keep (t := t) (a := 0) ops.size (by omega) (Nat.le_refl _) fun j o' j1 j2 j3 j4 => hex ⟨j, o', j3, j4⟩
        rw [this, hD.st0]
    refine hQ cx a ⟨hH, hI.s.c, ?_, hlt, hI.s.sz, hI.s.df⟩ hI.stab
    rw [← he]
    exact hI.s.env
  intro fuel
  induction fuel with
  | zero =>
    intro listed a cx e N hI hcnt
    have hr : Region.ready .any ops listed = [] := by
      rw [List.eq_nil_iff_forall_not_mem]
      intro i hi
      obtain ⟨hnu, hlt, _⟩ := hI.cl.ready hi
      have := List.countP_eq_zero.1 (Nat.le_zero.1 hcnt) i (List.mem_range.2 hlt)
      unfold Up at hnu
      simp at this
      exact hnu (by simpa using this)
    exact ⟨hr, fin hI hr⟩
  | succ fuel ih =>
    intro listed a cx e N hI hcnt
    refine ⟨fin hI, fun i hi => ?_⟩
    refine hI.step hD hcall hs hi fun cx' a' e' N' hI' => ih hI' ?_
    obtain ⟨hnu, hlt, _⟩ := hI.cl.ready hi
    have hi' : i < listed.size := by rw [hI.cl.sz]; exact hlt
    have hx := @up_set listed i
    have := count_lt (p := fun i => !(listed.getD i false)) (p' := fun k => !((listed.setIfInBounds i true).getD k false)) (List.mem_range.2 hlt) (by
        unfold Up at hnu
        simp only [Bool.not_eq_true'] at hnu ⊢
        cases hb : listed.getD i false with
        | false => rfl
        | true => exact absurd hb hnu) (by
        have := (hx (k := i) hi').2 (.inl rfl)
        unfold Up at this
        simp only [this, Bool.not_true]) (fun k hk => by
        simp only [Bool.not_eq_true'] at hk ⊢
        cases hb : listed.getD k false with
        | false => rfl
        | true =>
          have := (hx (k := k) hi').2 (.inr hb)
          unfold Up at this
          rw [this] at hk; cases hk)
    omega
theorem drawA_ok (md : Bool) : DrawOk P (drawA P md) := by
  intro call hcall nt ops st orc q cx a id h hp hs Q hQ
  unfold drawA at h
  obtain ⟨h1, h2⟩ := bif_some h
  rw [Bool.and_eq_true] at h1
  obtain ⟨q', hq, rfl⟩ := Option.map_eq_some_iff.1 h2
  obtain ⟨s', ps⟩ := q'
  obtain ⟨D, d0, d1, d2⟩ := runD_seq ops.size 0 hq hp
  rw [Nat.zero_add] at d1
  have htr : ∀ j, j < ops.size → ∃ t, (D (j + 1)).tr = (j, t) :: (D j).tr := fun j hj => by
    obtain ⟨q, hq, _⟩ := d2 j (Nat.zero_le _) (by omega)
    obtain ⟨o, g, _, _, _, h3⟩ := stepD_inv hq
    rcases h3 with ⟨_, _, _, _, e, _⟩ | ⟨_, r, _, _, _, _, _, e, _⟩
    · exact ⟨_, e⟩
    · exact ⟨_, e⟩
  have hT : ∃ T : Nat → Tch, ∀ j, j < ops.size → (D (j + 1)).tr = (j, T j) :: (D j).tr :=
    ⟨fun j => ((D (j + 1)).tr.head?.map (·.2)).getD tch0, fun j hj => by
      obtain ⟨t, ht⟩ := htr j hj
      have e : ((D (j + 1)).tr.head?.map (·.2)).getD tch0 = t := by rw [ht]; rfl
      show (D (j + 1)).tr = (j, ((D (j + 1)).tr.head?.map (·.2)).getD tch0) :: (D j).tr
      rw [e]; exact ht⟩
  obtain ⟨T, hT⟩ := hT
  have hD : SeqD P T md call nt ops st D := ⟨by rw [d0], by rw [d0], fun j hj => d2 j (Nat.zero_le _) (by omega), hT, hs.lt⟩
  refine wp_region_any h1.1 ?_
  have hs' := drew_srep hs
  have hno : ∀ k, ¬ Up (Array.replicate ops.size false) k := fun k hk => by
    unfold Up at hk
    rw [Array.getD_eq_getD_getElem?, Array.getElem?_replicate] at hk
    split at hk <;> cases hk
  refine InvD.any hD hcall h1.2 (cx0 := cx.drew) (Q := Q) (fun cx' a' hs2 hst2 => ?_) ops.size (cx := cx.drew) (e := st.env) (N := st.next) ⟨⟨by simp, fun k o _ hu => absurd hu (hno k)⟩, Stab.refl _, ?_, ⟨fun k o t _ _ hu => absurd hu (hno k), fun t _ => rfl⟩, fun id => .inr ⟨fun j _ hu => absurd hu (hno j), ?_⟩, fun k _ hu => absurd hu (hno k)⟩ ?_
  · rw [d1] at hs2
    exact hQ cx' a' hs2 ((drew_stab cx).trans hst2)
  · have : cx.drew.H = st.heap := hs'.H
    rw [this]
    exact hs'
  · rw [show cx.drew.H = st.heap from hs'.H]
  · exact Nat.le_trans List.countP_le_length (by simp)
end
end
end Go.Proofs.Ytjdiabjmphdhiaa.Rx
namespace Go.Proofs.Ytjdiabjmphdhiaa.Rx
section
open Go.RowKit
/-- a thing to be shown, shut, so that nobody looks inside without need -/
structure Vc (p : Prop) : Prop where
  out : p
def allP : List Prop → Prop
  | [] => True
  | p :: l => p ∧ allP l
theorem allP_mem : ∀ {l : List Prop}, allP l → ∀ p ∈ l, p
  | [], _, p, hp => by cases hp
  | q :: l, h, p, hp => by
    rcases List.mem_cons.1 hp with rfl | hp
    · exact h.1
    · exact allP_mem h.2 p hp
def eqX : X → X → Bool
  | .nrm, .nrm => true
  | .ext i, .ext j => Nat.beq i j
  | .ret, .ret => true
  | _, _ => false
theorem eqX_eq {x y : X} (h : eqX x y = true) : x = y := by
  cases x <;> cases y <;> first | rfl | cases h | (unfold eqX at h; rw [Nat.eq_of_beq_eq_true h])
/-- the loops of a text, one behind the other, each ahead of those within it -/
def loops : Code → List Code
  | .seq a b => loops a ++ loops b
  | .cond _ a b => loops a ++ loops b
  | .block _ c => loops c
  | .loop c => c :: loops c
  | _ => []
section
variable (P : Program)
def codeOf (f : FuncId) : Code := ((P.funcs[f]?).bind (·.body)).getD .skip
def lpC (f : FuncId) (k : Nat) : Code := (loops (codeOf P f)).getD k .skip
def ntOf (f : FuncId) : Nat := ((P.funcs[f]?).map (·.ntmps)).getD 0
/-- what one must show for a function to be its contract -/
def vcFn (md : Bool) (f : FuncId) (args : List AV) (orc : List Orc) (ρ : List (Nat × Nat)) (res : AV) (H : List Blk) : Prop :=
  match evFn P (drawA P md) md 100 true f args (fun _ => none) 0 orc with
  | some r => match leS ρ ⟨fun _ => r.v, r.heap, r.next⟩ ⟨[(0, res)], idxH H, H.length⟩ with
    | some ps => allP (r.cs ++ ps)
    | none => False
  | none => False
/-- what one must show for a part of a text to lead from a state to another -/
def vcC (md : Bool) (nt : Nat) (c : Code) (I : Sm) (orc : List Orc) (x : X) (r : List (Nat × Nat)) (J : Sm) : Prop :=
  match evCode P (drawA P md) true md (callA P (evFn P (drawA P md) md 100 false)) nt c I.st orc with
  | some q => bif eqX q.1 x then match leS r q.2.1 J with
    | some ps => allP (q.2.2.2 ++ ps)
    | none => False
    else False
  | none => False
end
section
variable {P : Program}
theorem PureC.vc {md : Bool} {f : FuncId} {args : List AV} {orc : List Orc} {ρ : List (Nat × Nat)} {res : AV} {H : List Blk} (h : Vc (vcFn P md f args orc ρ res H)) : PureC P f args res H := by
  replace h := h.out
  unfold vcFn at h
  split at h
  · rename_i r hr
    split at h
    · rename_i ps hps
      have hall := allP_mem h
      exact PureC.of (drawA_ok md) hr (fun p hp => hall p (List.mem_append.2 (.inl hp))) hps fun p hp => hall p (List.mem_append.2 (.inr hp))
    · cases h
  · cases h
theorem callA_evFn {md : Bool} (n : Nat) : CallOk P (callA P (evFn P (drawA P md) md n false)) := callA_ok fun f args h next orc r h1 h2 cx h3 h4 h5 vs h6 h7 => by
  obtain ⟨k1, k2⟩ := evFn_run (drawA_ok md) n false h1 h2 cx h3 h4 h5 vs h6 h7
  refine ⟨k1, k2.mono ?_⟩
  rintro e w' ⟨z, cx', m1, m2, m3, m4, m5, m6, m7⟩
  exact ⟨z, cx', m1, m2, m3, m4, m5.2 rfl, m6, m7⟩
theorem Ok.vc {md : Bool} {nt : Nat} {c : Code} {I J : Sm} {orc : List Orc} {x : X} {r : List (Nat × Nat)} (h : Vc (vcC P md nt c I orc x r J)) : Ok P nt c I.st x J.st := by
  replace h := h.out
  unfold vcC at h
  split at h
  · rename_i q hq
    obtain ⟨hx, h1⟩ : eqX q.1 x = true ∧ (match leS r q.2.1 J with | some ps => allP (q.2.2.2 ++ ps) | none => False) := by
      cases hb : eqX q.1 x with
      | true => rw [hb] at h; exact ⟨rfl, h⟩
      | false => rw [hb] at h; exact h.elim
    split at h1
    · rename_i ps hps
      have hall := allP_mem h1
      intro cx a hs Q hQ
      refine evCode_sound (drawA_ok md) (callA_evFn 100) c hq (fun p hp => hall p (List.mem_append.2 (.inl hp))) hs Q fun cx1 a1 hs1 ha1 => ?_
      obtain ⟨cx2, hs2, he2, hw2⟩ := hs1.le hps fun p hp => hall p (List.mem_append.2 (.inr hp))
      rw [eqX_eq hx, ← hw2]
      exact hQ cx2 a1 hs2 (ha1.1.trans he2)
    · cases h1
  · cases h
/-- a loop of m rounds, and the one that leaves -/
theorem Ok.loop {nt : Nat} {c : Code} {F : Nat → Sm} {m : Nat} {x : X} {J : Sm} (hr : ∀ k, k < m → Ok P nt c (F k).st .nrm (F (k + 1)).st) (he : Ok P nt c (F m).st x J.st) (hx : x ≠ .nrm) : Ok P nt (.loop c) (F 0).st x J.st := by
  intro cx a hs Q hQ
  have key : ∀ n k, k + n = m → ∀ cx1 a1, SRep cx1 (F k).st a1 nt → Ext cx cx1 → Code.rounds P c Q (n + 1) a1 cx1.w := by
    intro n
    induction n with
    | zero =>
      intro k hk cx1 a1 hs1 he1
      obtain rfl : k = m := by omega
      rw [rounds_succ]
      refine he cx1 a1 hs1 _ fun cx2 a2 hs2 he2 => ?_
      have := hQ cx2 a2 hs2 (he1.trans he2)
      cases x with
      | nrm => exact absurd rfl hx
      | ext id => exact this
      | ret => exact this
    | succ n ih =>
      intro k hk cx1 a1 hs1 he1
      rw [rounds_succ]
      exact hr k (by omega) cx1 a1 hs1 _ fun cx2 a2 hs2 he2 => ih (k + 1) (by omega) cx2 a2 hs2 (he1.trans he2)
  exact wp_loop_rounds (m + 1) (key m 0 (by omega) cx a hs (Ext.refl cx))
/-- a row of things, each so many cells -/
def rowL {α : Type} [Inhabited α] (g : α → Nat → AV) (l : List α) : Nat → Nat → AV := fun i j => g (l.getD i default) j
theorem rowL_left {α : Type} [Inhabited α] {g : α → Nat → AV} {l l' : List α} {i j : Nat} (h : i < l.length) : rowL g (l ++ l') i j = rowL g l i j := by
  unfold rowL
  rw [List.getD_eq_getElem?_getD, List.getD_eq_getElem?_getD, List.getElem?_append_left h]
theorem rowL_right {α : Type} [Inhabited α] {g : α → Nat → AV} {l l' : List α} {i j : Nat} (h : ¬ i < l.length) : rowL g (l ++ l') i j = rowL g l' (i - l.length) j := by
  unfold rowL
  rw [List.getD_eq_getElem?_getD, List.getD_eq_getElem?_getD, List.getElem?_append_right (Nat.not_lt.1 h)]
theorem rowL_last {α : Type} [Inhabited α] {g : α → Nat → AV} {l : List α} {x : α} {j : Nat} : rowL g (l ++ [x]) l.length j = g x j := by
  rw [rowL_right (Nat.lt_irrefl _), Nat.sub_self]
  rfl
theorem row_if {n i : Nat} {a b c : AV} (h1 : i < n → a = c) (h2 : ¬ i < n → b = c) : (bif Nat.blt i n then a else b) = c := by
  by_cases h : i < n
  · have : Nat.blt i n = true := by rw [Nat.blt_eq]; exact h
    rw [this]
    exact h1 h
  · have : Nat.blt i n = false := by
      cases hb : Nat.blt i n with
      | false => rfl
      | true => rw [Nat.blt_eq] at hb; exact absurd hb h
    rw [this]
    exact h2 h
theorem vc_of {p q : Prop} (h : p = q) (hq : q) : Vc p := ⟨h.mpr hq⟩
theorem in64 {n : Int} (h1 : -9223372036854775808 ≤ n) (h2 : n ≤ 9223372036854775807) : inK .i64 n := ⟨h1, h2⟩
theorem Ok.cut {nt : Nat} {c d : Code} {I J K : St} {x : X} (h1 : Ok P nt c I .nrm J) (h2 : Ok P nt d J x K) : Ok P nt (.seq c d) I x K := by
  intro cx a hs Q hQ
  exact wp_seq (h1 cx a hs _ fun cx1 a1 hs1 he1 => h2 cx1 a1 hs1 Q fun cx2 a2 hs2 he2 => hQ cx2 a2 hs2 (he1.trans he2))
end
end
end Go.Proofs.Ytjdiabjmphdhiaa.Rx
namespace Go.Proofs.Ytjdiabjmphdhiaa.Px
section
open Go.RowKit Go.Proofs.Ytjdiabjmphdhiaa.Rx
structure Mm where
  nm : ByteArray
  sec : Bool
  n : Nat
instance : Inhabited Mm := ⟨⟨.empty, false, 0⟩⟩
structure Pl where
  reg : Bool
  n : Nat
  sec : Bool
  deriving Inhabited
def mmC (m : Mm) (j : Nat) : AV := [.str m.nm, .bool m.sec, .int .i64 m.n].getD j .junk
def plC (p : Pl) (j : Nat) : AV := [.bool p.reg, .int .i64 p.n, .bool p.sec].getD j .junk
/-- a program's cells: W, Window, Fuel, Regs, and the rows -/
def progL (W r0 r1 r2 r3 : Int) (M : AV) : List AV := [.int .i64 W, .junk, .junk, .int .i64 r0, .int .i64 r1, .int .i64 r2, .int .i64 r3, M, .junk, .junk]
def memR (ms : List Mm) : AV := .row 3 ms.length (rowL mmC ms)
def sumN : List Mm → Nat
  | [] => 0
  | m :: l => m.n + sumN l
def regL (r : Nat → Int) : Nat → List Pl
  | 0 => []
  | k + 1 => regL r k ++ (if r k = 0 then [] else [⟨true, k, r k == 2⟩])
def celL (sec : Bool) (at_ k : Nat) : List Pl := (List.range k).map fun i => ⟨false, at_ + i, sec⟩
def memL : Nat → List Mm → List Pl
  | _, [] => []
  | at_, m :: l => celL m.sec at_ m.n ++ memL (at_ + m.n) l
def box0 (e : TypeId) (cs : List AV) : Nat × Blk := (0, ⟨0, false, e, .box cs⟩)
def plB (l : List Pl) : Blk := ⟨0, false, 39, .rows 3 l.length (rowL plC l)⟩
def places (r : Nat → Int) (ms : List Mm) : List Pl := regL r 4 ++ memL 0 ms
theorem sumN_take {ms : List Mm} {k : Nat} (hk : k < ms.length) : sumN (ms.take (k + 1)) = sumN (ms.take k) + (ms.getD k default).n := by
  induction ms generalizing k with
  | nil => simp at hk
  | cons m l ih =>
    cases k with
    | zero => simp [sumN]
    | succ k =>
      have := ih (k := k) (by simpa using hk)
      simp only [List.take_succ_cons, sumN, this, List.getD_cons_succ]
      omega
theorem sumN_take_le (ms : List Mm) (k : Nat) : sumN (ms.take k) ≤ sumN ms := by
  induction ms generalizing k with
  | nil => simp
  | cons m l ih =>
    cases k with
    | zero => simp [sumN]
    | succ k => simp only [List.take_succ_cons, sumN]; have := ih k; omega
def h7 (cs : List AV) (l : List Pl) : List (Nat × Blk) := [box0 28 cs, (1, plB l)]
end
end Go.Proofs.Ytjdiabjmphdhiaa.Px
namespace Go.Proofs.Ytjdiabjmphdhiaa.Px
section
open Go.RowKit Go.Proofs.Ytjdiabjmphdhiaa.Rx
def ac (ms : List Mm) (s : Nat) (k : Nat) : Sm := ⟨[(8, .int .i64 ms.length), (7, memR ms), (9, .int .i64 k), (3, .int .i64 s)], [], 0⟩
theorem ac_step (ms : List Mm) (s k : Nat) (hk : k < ms.length) (h64 : ms.length < 4611686018427387904) (hs : s + (ms.getD k default).n ≤ 16) : Vc (vcC Try.prog false (ntOf Try.prog 30) (lpC Try.prog 30 0) (ac ms s k) [.b true] .nrm [] (ac ms (s + (ms.getD k default).n) (k + 1))) :=
  vc_of (q := (decide ((↑k : Int) < (↑(List.length ms) : Int)) = true) ∧ ((0 : Int) ≤ (↑k : Int) ∧ (↑k : Int) < (↑(List.length ms) : Int)) ∧ (inK IntKind.i64 ((16 : Int) - (↑s : Int))) ∧ (inK IntKind.i64 ((↑s : Int) + if (16 : Int) - (↑s : Int) < if (↑(Mm.n (List.getD ms k Inhabited.default)) : Int) < (0 : Int) then (0 : Int) else (↑(Mm.n (List.getD ms k Inhabited.default)) : Int) then (16 : Int) - (↑s : Int) else if (↑(Mm.n (List.getD ms k Inhabited.default)) : Int) < (0 : Int) then (0 : Int) else (↑(Mm.n (List.getD ms k Inhabited.default)) : Int))) ∧ (inK IntKind.i64 ((↑k : Int) + (1 : Int))) ∧ ((↑(List.length ms) : Int) = (↑(List.length ms) : Int)) ∧ (List.length ms = List.length ms) ∧ (∀ (i : Nat), i < List.length ms → ∀ (j : Nat), j < (3 : Nat) → rowL mmC ms i j = rowL mmC ms i j) ∧ ((↑k : Int) + (1 : Int) = (↑(k + (1 : Nat)) : Int)) ∧ (((↑s : Int) + if (16 : Int) - (↑s : Int) < if (↑(Mm.n (List.getD ms k Inhabited.default)) : Int) < (0 : Int) then (0 : Int) else (↑(Mm.n (List.getD ms k Inhabited.default)) : Int) then (16 : Int) - (↑s : Int) else if (↑(Mm.n (List.getD ms k Inhabited.default)) : Int) < (0 : Int) then (0 : Int) else (↑(Mm.n (List.getD ms k Inhabited.default)) : Int)) = (↑(s + Mm.n (List.getD ms k Inhabited.default)) : Int)) ∧ True) (by kernel_rfl)
    ⟨(decide_eq_true (by first | omega | (simp; omega) | (simp; done))),
 (by first | omega | rfl),
 (in64 (by omega) (by omega)),
 (in64 (by omega) (by omega)),
 (in64 (by omega) (by omega)),
 rfl,
 rfl,
 (fun _ _ _ _ => rfl),
 (by first | omega | rfl),
 (by first | omega | rfl | (simp; done) | (simp; omega)), trivial⟩
theorem ac_end (ms : List Mm) (s : Nat) : Vc (vcC Try.prog false (ntOf Try.prog 30) (lpC Try.prog 30 0) (ac ms s ms.length) [.b false] (.ext 0) [] (ac ms s ms.length)) :=
  vc_of (q := (decide ((↑(List.length ms) : Int) < (↑(List.length ms) : Int)) = false) ∧ ((↑(List.length ms) : Int) = (↑(List.length ms) : Int)) ∧ (List.length ms = List.length ms) ∧ (∀ (i : Nat), i < List.length ms → ∀ (j : Nat), j < (3 : Nat) → rowL mmC ms i j = rowL mmC ms i j) ∧ ((↑(List.length ms) : Int) = (↑(List.length ms) : Int)) ∧ ((↑s : Int) = (↑s : Int)) ∧ True) (by kernel_rfl)
    ⟨(decide_eq_false (by first | omega | (simp; omega) | (simp; done))),
 rfl,
 rfl,
 (fun _ _ _ _ => rfl),
 rfl,
 rfl, trivial⟩
theorem ac_loop (ms : List Mm) (h64 : ms.length < 4611686018427387904) (hs : sumN ms ≤ 16) : Ok Try.prog (ntOf Try.prog 30) (.loop (lpC Try.prog 30 0)) (ac ms 0 0).st (.ext 0) (ac ms (sumN ms) ms.length).st := by
  have := Ok.loop (P := Try.prog) (nt := ntOf Try.prog 30) (c := lpC Try.prog 30 0) (F := fun k => ac ms (sumN (ms.take k)) k) (m := ms.length) (x := .ext 0) (J := ac ms (sumN ms) ms.length) (fun k hk => by
    have h1 := sumN_take hk
    have h2 := sumN_take_le ms (k + 1)
    show Ok _ _ _ _ _ (ac ms (sumN (ms.take (k + 1))) (k + 1)).st
    rw [h1]
    exact Ok.vc (ac_step ms _ k hk h64 (by omega))) (by
    show Ok _ _ _ (ac ms (sumN (ms.take ms.length)) ms.length).st _ _
    rw [List.take_length]
    exact Ok.vc (ac_end ms _)) (by simp)
  simpa [sumN] using this
theorem acc_vc (W r0 r1 r2 r3 : Int) (ms : List Mm) (h64 : ms.length < 4611686018427387904) (hs : sumN ms ≤ 16) : Vc (vcFn Try.prog false 30 [.agg (progL W r0 r1 r2 r3 (memR ms))] [.lp [] (ac ms 0 0) (.ext 0) (ac ms (sumN ms) ms.length)] [] (.int .i64 (sumN ms)) []) :=
  vc_of (q := ((↑(List.length ms) : Int) = (↑(List.length ms) : Int)) ∧ (List.length ms = List.length ms) ∧ (∀ (i : Nat), i < List.length ms → ∀ (j : Nat), j < (3 : Nat) → rowL mmC ms i j = rowL mmC ms i j) ∧ ((0 : Int) = (↑(0 : Nat) : Int)) ∧ ((0 : Int) = (↑(0 : Nat) : Int)) ∧ (Ok Try.prog (ntOf Try.prog 30) (.loop (lpC Try.prog 30 0)) (ac ms 0 0).st (.ext 0) (ac ms (sumN ms) ms.length).st) ∧ ((↑(sumN ms) : Int) = (↑(sumN ms) : Int)) ∧ True) (by kernel_rfl)
    ⟨rfl,
 rfl,
 (fun _ _ _ _ => rfl),
 (by first | omega | rfl),
 (by first | omega | rfl),
 ac_loop ms h64 hs,
 rfl, trivial⟩
theorem archCells (W r0 r1 r2 r3 : Int) (ms : List Mm) (h64 : ms.length < 4611686018427387904) (hs : sumN ms ≤ 16) : PureC Try.prog 30 [.agg (progL W r0 r1 r2 r3 (memR ms))] (.int .i64 (sumN ms)) [] := PureC.vc (acc_vc W r0 r1 r2 r3 ms h64 hs)
end
end Go.Proofs.Ytjdiabjmphdhiaa.Px
namespace Go.Proofs.Ytjdiabjmphdhiaa.Px
section
open Go.RowKit Go.Proofs.Ytjdiabjmphdhiaa.Rx
end
end Go.Proofs.Ytjdiabjmphdhiaa.Px
namespace Go.Proofs.Ytjdiabjmphdhiaa.Rx
section
open Go.RowKit
section
variable {P : Program}
/-- a row of numbers that is handed in -/
theorem RepP.ints {w : World} {R : Nat → Prop} {k : IntKind} {n : Nat} {f : Nat → Nat → AV} {v : Value} {l : List Int} (h : RepP w R (.row 1 n f) v) (hR : ∀ g, R g → g < w.heap.size) (hn : n = l.length) (hf : ∀ i, i < n → f i 0 = .int k (l.getD i 0)) :
    ∃ A c, v = .slice A l.length c ∧ l.length ≤ c ∧ c ≤ maxLen ∧ Rd w w.heap.size A (l.map (Value.int k)) := by
  subst hn
  cases h with
  | row A cap u hn hc hA h1 hu =>
    refine ⟨A, cap, rfl, hn, hc, fun hl => ?_⟩
    rw [List.length_map] at hl
    obtain ⟨g, o, rfl, hg, hcell⟩ := hA (by omega)
    refine ⟨⟨g, o, none⟩, rfl, hR g hg, fun j x hx => ?_⟩
    have hj : j < l.length := by
      have := (List.getElem?_eq_some_iff.1 hx).1
      simpa using this
    have h2 := hu j hj 0 (by omega)
    rw [hf j hj] at h2
    have h3 : u j 0 = .int k (l.getD j 0) := by
      generalize u j 0 = z at h2
      cases h2; rfl
    have h4 := hcell j hj 0 (by omega)
    rw [h3] at h4
    rw [List.getElem?_map, List.getElem?_eq_getElem hj, Option.map_some, Option.some.injEq] at hx
    rw [← hx, show Addr.add ⟨g, o, none⟩ j = ⟨g, o + j, none⟩ from adr_mk g o j]
    rw [show o + (j * 1 + 0) = o + j by omega] at h4
    rw [h4]
    simp [List.getD, hj]
/-- a contract of the elder kind: a row of the call's own -/
theorem PureC.ofOwn {f : FuncId} {args : List AV} {t : TypeId} {k : IntKind} {l : List Int} {n : Nat} {g : Nat → Nat → AV} (hn : n = l.length) (hg : ∀ i, i < n → g i 0 = .int k (l.getD i 0))
    (h : ∀ (w : World) (R : Nat → Prop) (vs : Array Value), (∀ g, R g → g < w.heap.size) → args.length = vs.size → (∀ (j : Nat) a v, args[j]? = some a → vs[j]? = some v → RepP w R a v) → Calls P f vs w (RetOwn w.heap.size t (l.map (Value.int k)) w)) :
    PureC P f args (.own 0 0 1 0 n) [⟨0, false, t, .rows 1 n g⟩] := by
  subst hn
  intro w R vs hR hl ha
  refine (h w R vs hR hl ha).mono ?_
  rintro e w' ⟨v, rfl, hown, hb⟩
  have hlen : (l.map (Value.int k)).length = l.length := List.length_map _
  have hR' : ∀ g, R g → g < w'.heap.size := fun g hg => Nat.lt_of_lt_of_le (hR g hg) hb.size
  rcases hown.2 with ⟨rfl, h0⟩ | ⟨gg, cap, cur, rfl, hge, hh, hnc, hcm, hsz, htk⟩
  · rw [hlen] at h0
    refine ⟨_, ⟨w', R, fun _ => none, fun i => [(⟨0, false, t, .rows 1 l.length g⟩ : Blk)][i]?, w.heap.size⟩, rfl, rfl, rfl, ⟨fun id b hb' => ?_, fun _ _ _ _ _ _ _ h1 _ => (by cases h1), hR', hb.size⟩, rfl, fun _ h => h, fun _ h => .inl h, hb, ?_⟩
    · cases id with
      | zero =>
        simp only [List.getElem?_cons_zero, Option.some.injEq] at hb'
        subst hb'
        exact .inl ⟨rfl, h0⟩
      | succ i => simp at hb'
    · exact .own (b := ⟨0, false, t, .rows 1 l.length g⟩) rfl (Nat.le_refl _) rfl fun _ => ⟨l.length, g, rfl, by omega, .inl ⟨rfl, rfl, h0, rfl⟩⟩
  · rw [hlen] at hnc htk
    have hlt : gg < w'.heap.size := (Array.getElem?_eq_some_iff.1 hh).1
    refine ⟨_, ⟨w', R, fun i => if i = 0 then some (gg, cap) else none, fun i => [(⟨0, false, t, .rows 1 l.length g⟩ : Blk)][i]?, w.heap.size⟩, rfl, rfl, rfl, ⟨fun id b hb' => ?_, fun i j _ _ _ _ _ h1 h2 => ?_, hR', hb.size⟩, rfl, fun _ h => h, fun _ h => .inl h, hb, ?_⟩
    · cases id with
      | zero =>
        simp only [List.getElem?_cons_zero, Option.some.injEq] at hb'
        subst hb'
        refine .inr ⟨gg, cap, cur, rfl, hh, hsz, hnc, hcm, fun i hi j hj => ?_, hge, ?_⟩
        · obtain rfl : j = 0 := by omega
          have h5 : cur.toList[i]? = some (.int k (l.getD i 0)) := by
            have := congrArg (fun (x : List Value) => x[i]?) htk
            simp only [List.getElem?_map] at this
            rw [List.getElem?_take, if_pos (by omega)] at this
            rw [this]
            simp [List.getD, hi]
          refine ⟨.int k (l.getD i 0), ?_, rfl, ?_⟩
          · rw [← Array.getElem?_toList, show i * 1 + 0 = i by omega]
            exact h5
          · rw [hg i hi]
            exact .int _ _
        · show ¬ R gg
          intro hr
          have := hR gg hr
          omega
      | succ i => simp at hb'
    · simp only at h1 h2
      split at h1
      · split at h2
        · omega
        · cases h2
      · cases h1
    · refine .own (b := ⟨0, false, t, .rows 1 l.length g⟩) rfl (Nat.le_refl _) rfl fun _ => ⟨l.length, g, rfl, by omega, .inr ⟨gg, cap, rfl, ?_⟩⟩
      rw [hlen]
      simp
end
end
end Go.Proofs.Ytjdiabjmphdhiaa.Rx
namespace Go.Proofs.Ytjdiabjmphdhiaa
section
open Go.RowKit
/-- it answers v, and the world is as it was -/
def Ret (v : Value) (w : World) (e : Ending) (w' : World) : Prop := e = .returned v ∧ w = w'
theorem Ret.mk {v v' : Value} {w : World} (h : v' = v) : Ret v w (.returned v') w := ⟨by rw [h], rfl⟩
theorem Ret.b {X : Value} {a a' : Bool} {w : World} (hx : X = .bool a') (h : a' = a) : Ret (.bool a) w (.returned X) w := ⟨by rw [hx, h], rfl⟩
theorem Ret.i {X : Value} {k : IntKind} {a a' : Int} {w : World} (hx : X = .int k a') (h : a' = a) : Ret (.int k a) w (.returned X) w := ⟨by rw [hx, h], rfl⟩

theorem infoI : (Try.prog.info? 3).map (fun i => (i.zero, i.size, i.bytes)) = some (some (.int .i64 0), 1, 8) := by kernel_rfl
end
end Go.Proofs.Ytjdiabjmphdhiaa
namespace Go.Proofs.Ytjdiabjmphdhiaa
section
open Go.RowKit
/-- a slice of numbers: where it lies, its capacity, what it reads as -/
abbrev Part := Option Addr × Nat × List Int
def Part.v (p : Part) : Value := .slice p.1 p.2.2.length p.2.1
def allP : List Part → List Int
  | [] => []
  | p :: l => p.2.2 ++ allP l
set_option maxHeartbeats 2000000 in
theorem clone_any (A : Option Addr) (n c : Nat) (xs : List Int) (w : World) (hn : n = xs.length) (hr : Rd w w.heap.size A (xs.map (Value.int .i64))) (hs : n ≤ 1000000) :
    Calls Try.prog 37 #[.slice A n c] w (RetOwn w.heap.size 3 (xs.map (Value.int .i64)) w) := by
  subst hn
  obtain ⟨i0, hi0, hz0, hs0, hb0⟩ := info_parts infoI
  cases A with
  | none =>
    have hx : xs = [] := by have := hr.none_nil; simpa using this
    subst hx
    have he : ∀ w : World, (binOp .eql 22 (.slice none 0 c) (.slice none 0 0)).run Try.prog w = .ok (.bool true) w := fun _ => rfl
    go_enter Try.func37, Try.ntmps37
    go_wp2_with fail
    go_ret
    exact ⟨_, rfl, World.ownsRow_nil _ _ _ _, up0 _⟩
  | some ad =>
    have hlit := own_lit1 w 3 _ rfl
    have he : ∀ w : World, (binOp .eql 22 (.slice (some ad) xs.length c) (.slice none 0 0)).run Try.prog w = .ok (.bool false) w := fun _ => rfl
    go_enter Try.func37, Try.ntmps37
    go_wp2_with (at_builtin; refine wp_appR _ rfl (.tmp 5) (.tmp 6) _ rfl w.heap.size 3 i0 _ 8 Try.underlying22 hi0 hz0 hs0 hb0 rfl _ 0 [] rfl hlit (w.alloc (.cells #[] 3)).heap.size (some ad) xs.length c (xs.map (Value.int .i64)) rfl (by simp) (hr.allocT _) (ints_one _ _) (by omega) (by omega) (by simp) ?_; intro v1 w1 hown1 hb1)
    go_ret
    refine ⟨_, rfl, ?_, (upA (up0 w) _).trans hb1⟩
    have := own_zero hown1
    rwa [List.length_map]
end
end Go.Proofs.Ytjdiabjmphdhiaa
namespace Go.Proofs.Ytjdiabjmphdhiaa
section
namespace Cd
end Cd
end
end Go.Proofs.Ytjdiabjmphdhiaa
namespace Go.Proofs.Ytjdiabjmphdhiaa
section
open Go.RowKit
theorem RetOwn.mk {B : Nat} {t : TypeId} {xs ys : List Value} {n : Nat} {w w' : World} {v : Value} (h : w'.ownsRow B t 1 v n ys) (he : ys = xs) (hb : Below B w w') : RetOwn B t xs w (.returned v) w' := by
  subst he
  have := own_len h
  subst this
  exact ⟨v, rfl, h, hb⟩

end
end Go.Proofs.Ytjdiabjmphdhiaa
namespace Go.Proofs.Ytjdiabjmphdhiaa
section
open Go.RowKit
end
end Go.Proofs.Ytjdiabjmphdhiaa
namespace Go.Proofs.Ytjdiabjmphdhiaa.Px
section
open Go.RowKit Go.Proofs.Ytjdiabjmphdhiaa.Rx
def rowI (l : List Int) : Nat → Nat → AV := fun i _ => .int .i64 (l.getD i 0)
def blkI (l : List Int) : Blk := ⟨0, false, 3, .rows 1 l.length (rowI l)⟩
/-- a slice that reads as these numbers -/
def PartOk (a : AV) (l : List Int) : Prop := (a = .nils ∧ l = []) ∨ ∃ g, a = .row 1 l.length g ∧ ∀ i, i < l.length → g i 0 = .int .i64 (l.getD i 0)
theorem PartOk.nil : PartOk .nils [] := .inl ⟨rfl, rfl⟩
theorem PartOk.row (l : List Int) : PartOk (.row 1 l.length (rowI l)) l := .inr ⟨_, rfl, fun _ _ => rfl⟩
theorem PartOk.rep {w : World} {R : Nat → Prop} {a : AV} {l : List Int} {v : Value} (h : PartOk a l) (hr : RepP w R a v) (hR : ∀ g, R g → g < w.heap.size) : ∃ A c, v = .slice A l.length c ∧ Rd w w.heap.size A (l.map (Value.int .i64)) := by
  rcases h with ⟨rfl, rfl⟩ | ⟨g, rfl, hg⟩
  · cases hr with
    | nils => exact ⟨none, 0, rfl, Rd.nil⟩
  · obtain ⟨A, c, e, _, _, h⟩ := hr.ints hR rfl hg
    exact ⟨A, c, e, h⟩
theorem one_arg {args : List AV} {vs : Array Value} {a : AV} (h : args = [a]) (hl : args.length = vs.size) {w : World} {R : Nat → Prop} (ha : ∀ (j : Nat) a v, args[j]? = some a → vs[j]? = some v → RepP w R a v) : ∃ v, vs = #[v] ∧ RepP w R a v := by
  subst h
  obtain ⟨vs⟩ := vs
  match vs, hl with
  | [v], _ => exact ⟨v, rfl, ha 0 a v rfl rfl⟩
theorem cloneC {a : AV} {l : List Int} (h : PartOk a l) (hl : l.length ≤ 1000000) : PureC Try.prog 37 [a] (.own 0 0 1 0 l.length) [blkI l] :=
  PureC.ofOwn (k := .i64) (l := l) rfl (fun _ _ => rfl) fun w R vs hR hn ha => by
    obtain ⟨v, rfl, hv⟩ := one_arg rfl hn ha
    obtain ⟨A, c, rfl, hr⟩ := h.rep hv hR
    exact clone_any A _ c l w rfl hr hl
end
end Go.Proofs.Ytjdiabjmphdhiaa.Px
namespace Go.Proofs.Ytjdiabjmphdhiaa.Px
section
open Go.RowKit Go.Proofs.Ytjdiabjmphdhiaa.Rx
end
end Go.Proofs.Ytjdiabjmphdhiaa.Px
namespace Go.Proofs.Ytjdiabjmphdhiaa
section
open Go.RowKit
namespace Wd

def okB (w : Int) : Bool := decide (1 ≤ w) && decide (w ≤ 16)
def sizeV (w : Int) : Int := if okB w = true then 2 ^ w.toNat else 0
def maskV (w n : Int) : Int := if okB w = true then n % 2 ^ w.toNat else 0
def andI (x y : Int) : Int := ((x.toNat &&& y.toNat : Nat) : Int)
def orI (x y : Int) : Int := ((x.toNat ||| y.toNat : Nat) : Int)
def xorI (x y : Int) : Int := ((x.toNat ^^^ y.toNat : Nat) : Int)
/-- of two words, not yet cut to the width; false: no op -/
def rawV (op x y : Int) : Int :=
  if op = 1 then x + y else if op = 2 then x - y else if op = 3 then andI x y else if op = 4 then orI x y else if op = 5 then xorI x y
  else if op = 6 then x * 2 ^ y.toNat else if op = 7 then x / 2 ^ y.toNat else if op = 8 then x * y
  else if op = 9 then (if x < y then 1 else 0) else if op = 10 then (if x = y then 1 else 0) else 0
def opB (op : Int) : Bool := decide (1 ≤ op) && decide (op ≤ 10)
def doV (w op a b : Int) : Int := maskV w (rawV op (maskV w a) (maskV w b))
def doB (w op : Int) : Bool := okB w && opB op

theorem okB_iff {w : Int} : okB w = true ↔ 1 ≤ w ∧ w ≤ 16 := by simp [okB]
theorem okB_nat {w : Int} (h : okB w = true) : ∃ k : Nat, w = k ∧ 1 ≤ k ∧ k ≤ 16 := by
  rw [okB_iff] at h; exact ⟨w.toNat, by omega, by omega, by omega⟩
theorem pow_le {k : Nat} (h : k ≤ 16) : (2 : Int) ^ k ≤ 65536 := by
  have : (2 : Nat) ^ k ≤ 2 ^ 16 := Nat.pow_le_pow_right (by omega) h
  have h2 : ((2 ^ k : Nat) : Int) ≤ ((2 ^ 16 : Nat) : Int) := by exact_mod_cast this
  simpa using h2
theorem pow_pos (k : Nat) : (1 : Int) ≤ 2 ^ k := by
  have : 1 ≤ 2 ^ k := Nat.one_le_two_pow
  have h2 : ((1 : Nat) : Int) ≤ ((2 ^ k : Nat) : Int) := by exact_mod_cast this
  simpa using h2
theorem maskV_bd (w n : Int) : 0 ≤ maskV w n ∧ maskV w n < 65536 := by
  unfold maskV; split
  · rename_i h
    obtain ⟨k, rfl, _, hk⟩ := okB_nat h
    have h1 := pow_le hk; have h2 := pow_pos k
    simp only [Int.toNat_natCast]
    have := Int.emod_nonneg n (b := 2 ^ k) (by omega); have := Int.emod_lt_of_pos n (b := 2 ^ k) (by omega); omega
  · omega
theorem sizeV_bd (w : Int) : 0 ≤ sizeV w ∧ sizeV w ≤ 65536 := by
  unfold sizeV; split
  · rename_i h; obtain ⟨k, rfl, _, hk⟩ := okB_nat h; have := pow_le hk; have := pow_pos k; simp only [Int.toNat_natCast]; omega
  · omega
/-- the model's and with a mask is the remainder, of numbers below 0, too -/
theorem bits_mask (n : Int) (k : Nat) (hk : k ≤ 16) : bits .and .i64 n (2 ^ k - 1) = n % 2 ^ k := by
  have e : (BitVec.ofInt 64 n &&& BitVec.ofInt 64 (2 ^ k - 1)).toNat = (n % 2 ^ k).toNat := by
    have h2 : (2 : Int) ^ k ≤ 65536 := pow_le hk
    have h3 := pow_pos k
    have e1 : (BitVec.ofInt 64 ((2 : Int) ^ k - 1)).toNat = 2 ^ k - 1 := by
      have h4 : 2 ^ k ≤ 65536 := by have := Nat.pow_le_pow_right (n := 2) (by omega) hk; simpa using this
      have h5 : 1 ≤ 2 ^ k := Nat.one_le_two_pow
      have : ((2 : Int) ^ k - 1) = ((2 ^ k - 1 : Nat) : Int) := by
        rw [Int.ofNat_sub h5]; simp
      rw [this, BitVec.ofInt_natCast, BitVec.toNat_ofNat]; omega
    rw [BitVec.toNat_and, e1, Nat.and_two_pow_sub_one_eq_mod, BitVec.toNat_ofInt]
    have h6 : (2 : Nat) ^ 64 = 2 ^ k * 2 ^ (64 - k) := by rw [← Nat.pow_add]; congr 1; omega
    have h7 : ((2 ^ 64 : Nat) : Int) = 2 ^ k * 2 ^ (64 - k) := by rw [h6]; simp
    have h8 : (((n % ((2 ^ 64 : Nat) : Int)).toNat % 2 ^ k : Nat) : Int) = n % 2 ^ k := by
      have := Int.emod_nonneg n (b := ((2 ^ 64 : Nat) : Int)) (by omega)
      rw [Int.natCast_emod, Int.toNat_of_nonneg this, Int.natCast_pow]
      exact Int.emod_emod_of_dvd n ⟨2 ^ (64 - k), h7⟩
    omega
  show IntKind.i64.wrap (((BitVec.ofInt 64 n &&& BitVec.ofInt 64 (2 ^ k - 1) : BitVec 64).toNat : Nat) : Int) = _
  have h2 : (2 : Int) ^ k ≤ 65536 := pow_le hk
  have h3 := pow_pos k
  have := Int.emod_nonneg n (b := 2 ^ k) (by omega); have := Int.emod_lt_of_pos n (b := 2 ^ k) (by omega)
  rw [e, Int.toNat_of_nonneg (by omega)]
  exact IntWalk.i64_in _ (by omega)

theorem ofInt_toNat {x : Int} (h0 : 0 ≤ x) (h1 : x < 65536) : (BitVec.ofInt 64 x).toNat = x.toNat := by
  rw [BitVec.toNat_ofInt]; congr 1; exact Int.emod_eq_of_lt h0 (by omega)
theorem bits_and {x y : Int} (h0 : 0 ≤ x) (h1 : x < 65536) (h2 : 0 ≤ y) (h3 : y < 65536) : bits .and .i64 x y = andI x y := by
  show IntKind.i64.wrap (((BitVec.ofInt 64 x &&& BitVec.ofInt 64 y : BitVec 64).toNat : Nat) : Int) = ((x.toNat &&& y.toNat : Nat) : Int)
  rw [BitVec.toNat_and, ofInt_toNat h0 h1, ofInt_toNat h2 h3]
  have := Nat.and_lt_two_pow (n := 16) x.toNat (show y.toNat < 2 ^ 16 by omega)
  exact IntWalk.i64_in _ (by omega)
theorem bits_or {x y : Int} (h0 : 0 ≤ x) (h1 : x < 65536) (h2 : 0 ≤ y) (h3 : y < 65536) : bits .or .i64 x y = orI x y := by
  show IntKind.i64.wrap (((BitVec.ofInt 64 x ||| BitVec.ofInt 64 y : BitVec 64).toNat : Nat) : Int) = ((x.toNat ||| y.toNat : Nat) : Int)
  rw [BitVec.toNat_or, ofInt_toNat h0 h1, ofInt_toNat h2 h3]
  have := Nat.or_lt_two_pow (n := 16) (show x.toNat < 2 ^ 16 by omega) (show y.toNat < 2 ^ 16 by omega)
  exact IntWalk.i64_in _ (by omega)
theorem bits_xor {x y : Int} (h0 : 0 ≤ x) (h1 : x < 65536) (h2 : 0 ≤ y) (h3 : y < 65536) : bits .xor .i64 x y = xorI x y := by
  show IntKind.i64.wrap (((BitVec.ofInt 64 x ^^^ BitVec.ofInt 64 y : BitVec 64).toNat : Nat) : Int) = ((x.toNat ^^^ y.toNat : Nat) : Int)
  rw [BitVec.toNat_xor, ofInt_toNat h0 h1, ofInt_toNat h2 h3]
  have := Nat.xor_lt_two_pow (n := 16) (show x.toNat < 2 ^ 16 by omega) (show y.toNat < 2 ^ 16 by omega)
  exact IntWalk.i64_in _ (by omega)
/-- what the program reckons ahead of cutting: a shift upward is cut to 64 places, nothing else is -/
def recV (op x y : Int) : Int := if op = 6 then wrap64 (x * 2 ^ (min y.toNat 64)) else rawV op x y
/-- 1 of what is true, else 0 -/
def tI (b : Bool) : Int := if b = true then 1 else 0
theorem mul_bd {x y : Int} (h0 : 0 ≤ x) (h1 : x < 65536) (h2 : 0 ≤ y) (h3 : y < 65536) : 0 ≤ x * y ∧ x * y ≤ 4294836225 := by
  have a := Int.mul_nonneg h0 h2
  have b : x * y ≤ 65535 * 65535 := Int.mul_le_mul (by omega) (by omega) h2 (by omega)
  omega
theorem shr_far {x : Int} (h0 : 0 ≤ x) (h1 : x < 65536) {n : Nat} (hn : 16 ≤ n) : x / 2 ^ n = 0 := by
  refine Int.ediv_eq_zero_of_lt h0 ?_
  have : (2 : Nat) ^ 16 ≤ 2 ^ n := Nat.pow_le_pow_right (by omega) hn
  have h2 : ((2 ^ 16 : Nat) : Int) ≤ ((2 ^ n : Nat) : Int) := by exact_mod_cast this
  simp only [Int.natCast_pow] at h2
  have : ((2 : Nat) : Int) ^ 16 = 65536 := by decide
  have e : (((2 : Nat) : Int)) ^ n = 2 ^ n := rfl
  omega
theorem shr_min {x y : Int} (h0 : 0 ≤ x) (h1 : x < 65536) : x / 2 ^ (min y.toNat 64) = x / 2 ^ y.toNat := by
  by_cases h : y.toNat ≤ 64
  · rw [Nat.min_eq_left h]
  · rw [Nat.min_eq_right (by omega), shr_far h0 h1 (by omega), shr_far h0 h1 (by omega)]
theorem wrap64_emod (n : Int) (k : Nat) (hk : k ≤ 16) : wrap64 n % 2 ^ k = n % 2 ^ k := by
  have h6 : (2 : Nat) ^ 64 = 2 ^ k * 2 ^ (64 - k) := by rw [← Nat.pow_add]; congr 1; omega
  have h7 : ((2 ^ 64 : Nat) : Int) = 2 ^ k * 2 ^ (64 - k) := by rw [h6]; simp
  have h8 : ((2 ^ 64 : Nat) : Int) = 18446744073709551616 := by decide
  obtain ⟨q, hq⟩ : ∃ q, wrap64 n = n + 18446744073709551616 * q := ⟨-((n + 9223372036854775808) / 18446744073709551616), by unfold wrap64; omega⟩
  rw [hq, ← h8, h7, Int.mul_assoc]
  exact Int.add_mul_emod_self_left ..
theorem pow_mod {x : Int} {k n : Nat} (h : k ≤ n) : (x * 2 ^ n) % 2 ^ k = 0 := by
  have : n = k + (n - k) := by omega
  rw [this, Int.pow_add, ← Int.mul_assoc, Int.mul_comm x, Int.mul_assoc]
  exact Int.mul_emod_right ..
theorem recV_mask (w op x y : Int) : maskV w (recV op x y) = maskV w (rawV op x y) := by
  unfold recV
  split
  · rename_i h
    subst h
    have e : rawV 6 x y = x * 2 ^ y.toNat := by simp [rawV]
    rw [e]
    unfold maskV
    split
    · rename_i h
      obtain ⟨k, rfl, _, hk⟩ := okB_nat h
      simp only [Int.toNat_natCast]
      rw [wrap64_emod _ _ hk]
      by_cases h2 : y.toNat ≤ 64
      · rw [Nat.min_eq_left h2]
      · rw [pow_mod (by omega), pow_mod (by omega)]
    · rfl
  · rfl
theorem raw_no {op x y : Int} (h : op < 1 ∨ 10 < op) : rawV op x y = 0 := by
  simp [rawV, show op ≠ 1 by omega, show op ≠ 2 by omega, show op ≠ 3 by omega, show op ≠ 4 by omega, show op ≠ 5 by omega, show op ≠ 6 by omega, show op ≠ 7 by omega, show op ≠ 8 by omega, show op ≠ 9 by omega, show op ≠ 10 by omega]
theorem rec_no {op x y : Int} (h : op < 1 ∨ 10 < op) : recV op x y = 0 := by
  rw [recV, if_neg (by omega), raw_no h]
theorem rec3 {x y : Int} (h0 : 0 ≤ x) (h1 : x < 65536) (h2 : 0 ≤ y) (h3 : y < 65536) : bits .and .i64 x y = recV 3 x y := by rw [bits_and h0 h1 h2 h3]; simp [recV, rawV]
theorem rec4 {x y : Int} (h0 : 0 ≤ x) (h1 : x < 65536) (h2 : 0 ≤ y) (h3 : y < 65536) : bits .or .i64 x y = recV 4 x y := by rw [bits_or h0 h1 h2 h3]; simp [recV, rawV]
theorem rec5 {x y : Int} (h0 : 0 ≤ x) (h1 : x < 65536) (h2 : 0 ≤ y) (h3 : y < 65536) : bits .xor .i64 x y = recV 5 x y := by rw [bits_xor h0 h1 h2 h3]; simp [recV, rawV]
theorem rec7 {x y : Int} (h0 : 0 ≤ x) (h1 : x < 65536) : x / 2 ^ min y.toNat 64 = recV 7 x y := by rw [shr_min h0 h1]; simp [recV, rawV]
theorem rec8 {x y : Int} (h0 : 0 ≤ x) (h1 : x < 65536) (h2 : 0 ≤ y) (h3 : y < 65536) : wrap64 (x * y) = recV 8 x y := by
  have := mul_bd h0 h1 h2 h3; rw [IntWalk.wrap64_in _ (by omega)]; simp [recV, rawV]
theorem rec9 (x y : Int) : tI (decide (x < y)) = recV 9 x y := by simp [tI, recV, rawV]
theorem rec10 (x y : Int) : tI (x == y) = recV 10 x y := by simp [tI, recV, rawV]
theorem opB_no {op : Int} (h : op < 1 ∨ 10 < op) : opB op = false := by simp [opB]; omega
end Wd
end
end Go.Proofs.Ytjdiabjmphdhiaa
namespace Go.Proofs.Ytjdiabjmphdhiaa
section
open Go.RowKit
theorem int_eq {k : IntKind} {a b : Int} (h : a = b) : Value.int k a = Value.int k b := by rw [h]
theorem bool_eq {a b : Bool} (h : a = b) : Value.bool a = Value.bool b := by rw [h]
theorem ok_any (n : Int) (w : World) : Calls Try.prog 68 #[.int .i64 n] w (Ret (.bool (Wd.okB n)) w) := by
  by_cases h1 : 1 ≤ n
  all_goals by_cases h2 : n ≤ 16
  all_goals
    go_enter Try.func68, Try.ntmps68
    go_wp2
    go_ret
    exact Ret.mk (bool_eq (by simp [Wd.okB]; omega))
theorem size_any (n : Int) (w : World) : Calls Try.prog 69 #[.int .i64 n] w (Ret (.int .i64 (Wd.sizeV n)) w) := by
  by_cases h1 : Wd.okB n = true
  · have h2 := Wd.okB_iff.1 h1
    have h3 : 1 ≤ n := h2.1
    have h4 : n ≤ 16 := h2.2
    clear h2
    go_enter Try.func69, Try.ntmps69
    go_wp2_with (go_at_call 68; refine (ok_any _ _).mono ?_; rintro e w' ⟨rfl, rfl⟩)
    go_ret
    refine Ret.mk (int_eq ?_)
    have hz := Wd.sizeV_bd n
    unfold Wd.sizeV at *; rw [if_pos h1] at *
    exact IntWalk.wrap64_in _ (by omega)
  · have h1 : Wd.okB n = false := by simpa using h1
    go_enter Try.func69, Try.ntmps69
    go_wp2_with (go_at_call 68; refine (ok_any _ _).mono ?_; rintro e w' ⟨rfl, rfl⟩)
    go_ret
    exact Ret.mk (int_eq (by simp [Wd.sizeV, h1]))
theorem mask_any (n a : Int) (w : World) : Calls Try.prog 52 #[.int .i64 n, .int .i64 a] w (Ret (.int .i64 (Wd.maskV n a)) w) := by
  by_cases h1 : Wd.okB n = true
  · have hz := Wd.sizeV_bd n
    have HZ := Lib.hid hz.1
    have h2 := Wd.okB_iff.1 h1
    go_enter Try.func52, Try.ntmps52
    go_wp2_with (first | (go_at_call 68; refine (ok_any _ _).mono ?_; rintro e w' ⟨rfl, rfl⟩) | (go_at_call 69; refine (size_any _ _).mono ?_; rintro e w' ⟨rfl, rfl⟩))
    go_ret
    refine Ret.mk (int_eq ?_)
    obtain ⟨k, rfl, _, hk⟩ := Wd.okB_nat h1
    have := Wd.bits_mask a k hk
    simp only [Wd.sizeV, Wd.maskV, h1, if_true, Int.toNat_natCast]
    exact this
  · have h1 : Wd.okB n = false := by simpa using h1
    go_enter Try.func52, Try.ntmps52
    go_wp2_with (go_at_call 68; refine (ok_any _ _).mono ?_; rintro e w' ⟨rfl, rfl⟩)
    go_ret
    exact Ret.mk (int_eq (by simp [Wd.maskV, h1]))

namespace Wd
end Wd
namespace Px
open Rx
/-- a contract of the elder kind: a number, of two numbers -/
theorem ofRet2 {f : FuncId} {k1 k2 k : IntKind} {a b c : Int} (h : ∀ w, Calls Try.prog f #[.int k1 a, .int k2 b] w (Ret (.int k c) w)) : PureC Try.prog f [.int k1 a, .int k2 b] (.int k c) [] := by
  intro w R vs hR hl ha
  obtain ⟨vs⟩ := vs
  match vs, hl, ha with
  | [x, y], _, ha =>
    have h1 := ha 0 _ x rfl rfl
    have h2 := ha 1 _ y rfl rfl
    cases h1; cases h2
    refine (h w).mono ?_
    rintro e w' ⟨rfl, rfl⟩
    exact ⟨_, ⟨w, R, fun _ => none, fun i => ([] : List Blk)[i]?, w.heap.size⟩, rfl, rfl, rfl, ⟨fun id b hb => (by simp at hb), fun _ _ _ _ _ _ _ h1 _ => (by cases h1), hR, Nat.le_refl _⟩, rfl, fun _ h => h, fun _ h => .inl h, Below.refl _ _, .pure (.int _ _)⟩
theorem maskC (W n : Int) : PureC Try.prog 52 [.int .i64 W, .int .i64 n] (.int .i64 (Wd.maskV W n)) [] := ofRet2 fun w => mask_any W n w
end Px
end
end Go.Proofs.Ytjdiabjmphdhiaa
namespace Go.Proofs.Ytjdiabjmphdhiaa.Px
section
open Go.RowKit Go.Proofs.Ytjdiabjmphdhiaa.Rx
structure S7 where
  r0 : Int
  r1 : Int
  r2 : Int
  r3 : Int
  m : List Int
def stZ (a : AV) : List AV := [.int .i64 0, .int .i64 0, .int .i64 0, .int .i64 0, a, .nils, .int .i64 0]
def bx (e : TypeId) (cs : List AV) : Blk := ⟨0, false, e, .box cs⟩
theorem rowI_set {m : List Int} {n i j : Nat} {v : Int} {a : AV} (hi : i < m.length) (ha : a = .int .i64 v) : (bif Nat.beq i n then a else rowI m i j) = rowI (m.set n v) i j := by
  unfold rowI
  subst ha
  by_cases h : i = n
  · subst h
    simp [List.getD, hi]
  · have : Nat.beq i n = false := by
      cases hb : Nat.beq i n with
      | false => rfl
      | true => exact absurd (Nat.eq_of_beq_eq_true hb) h
    rw [this]
    simp [List.getD, List.getElem?_set, Ne.symm h]
theorem set_row {m : List Int} {n : Nat} {v : Int} : ∀ i, i < m.length → ∀ j, j < 1 → (bif Nat.beq i (n + 0) && Nat.ble 0 j && Nat.blt j 1 then [AV.int .i64 v].getD (j - 0) .junk else AV.int .i64 (m.getD i 0)) = .int .i64 ((m.set n v).getD i 0) := by
  intro i hi j hj
  obtain rfl : j = 0 := by omega
  show (bif Nat.beq i n && true && true then AV.int .i64 v else AV.int .i64 (m.getD i 0)) = _
  rw [Bool.and_true, Bool.and_true]
  exact rowI_set (m := m) (i := i) (j := 0) (n := n) (v := v) hi rfl
end
end Go.Proofs.Ytjdiabjmphdhiaa.Px
namespace Go.Proofs.Ytjdiabjmphdhiaa.Px
section
open Go.RowKit Go.Proofs.Ytjdiabjmphdhiaa.Rx
/-- a row in either of its forms -/
inductive RowA : AV → List Int → Prop where
  | nil : RowA .nils []
  | row (l : List Int) : RowA (.row 1 l.length (rowI l)) l
end
end Go.Proofs.Ytjdiabjmphdhiaa.Px
namespace Go.Proofs.Ytjdiabjmphdhiaa.Px
section
open Go.RowKit Go.Proofs.Ytjdiabjmphdhiaa.Rx
end
end Go.Proofs.Ytjdiabjmphdhiaa.Px
namespace Go.Proofs.Ytjdiabjmphdhiaa.Px
section
open Go.RowKit Go.Proofs.Ytjdiabjmphdhiaa.Rx
end
end Go.Proofs.Ytjdiabjmphdhiaa.Px
namespace Go.Proofs.Ytjdiabjmphdhiaa.Rx
section
open Go.RowKit
section
variable {P : Program}
/-- what stays of a context when its own blocks are forgotten -/
theorem forget_rep {cx : Cx} (hc : CRep cx) : CRep ⟨cx.w, cx.R, fun _ => none, fun i => ([] : List Blk)[i]?, cx.B⟩ :=
  ⟨fun id b hb => (by simp at hb), fun _ _ _ _ _ _ _ h1 _ => (by cases h1), hc.rlt, hc.blt⟩
theorem freeze_all {cx : Cx} {H : List Blk} (hc : CRep cx) (hH : cx.H = fun i => H[i]?) (ids : List Nat) : ∃ cx1, CRep cx1 ∧ cx1.w = cx.w ∧ Stab cx cx1 ∧
    ∀ a v, Rep cx a v → (∀ id ∈ idsF a, id ∈ ids) → RepP cx1.w cx1.R (frz (fun i => H[i]?) a) v := by
  obtain ⟨cx1, e1, hc1, hs1, e2, e3, e4, e5⟩ := frzIds_ok ids hc
  refine ⟨cx1, hc1, e2, hs1, fun a v hr hi => frz_rep hc1 (fun id b hb => by rw [e1, hH]; exact frzIds_gen _ _ _ _ hb) (hr.stab hc hs1) fun id hid b g c hb hg => ?_⟩
  obtain ⟨b', hb'⟩ := Option.isSome_iff_exists.1 (e5 id (by rw [hb]; rfl))
  rw [e3] at hg
  exact e4 id b' g c (hi id hid) hb' hg
theorem PureC.frozen {f : FuncId} {args : List AV} {a : AV} {H : List Blk} (h : PureC P f args a H) : PureC P f args (frz (fun i => H[i]?) a) [] := by
  intro w R vs hR hl ha
  refine (h w R vs hR hl ha).mono ?_
  rintro e w' ⟨z, cx, rfl, rfl, k1, k2, k3, k4, k5, k6, k7⟩
  obtain ⟨cx1, hc1, e2, hs1, hfr⟩ := freeze_all k2 k1 (idsF a)
  refine ⟨z, ⟨cx1.w, cx1.R, fun _ => none, fun i => ([] : List Blk)[i]?, cx1.B⟩, rfl, e2.symm, rfl, forget_rep hc1, by rw [hs1.ext.B]; exact k3, fun g hg => hs1.ext.R g (k4 g hg), fun g hg => ?_, k6, .pure (hfr a z k7 fun _ h => h)⟩
  rcases hs1.ext.Rn g hg with h1 | h1
  · exact k5 g h1
  · rw [k3] at h1; exact .inr h1
/-- a contract that answers a bool, as a law's walk -/
theorem PureC.lawB {f : FuncId} {args : List AV} {b : Bool} (h : PureC P f args (.bool b) []) {W : World} {R : Nat → Prop} {vs : Array Value} (hR : ∀ g, R g → g < W.heap.size) (hl : args.length = vs.size) (ha : ∀ (j : Nat) a v, args[j]? = some a → vs[j]? = some v → RepP W R a v) : Calls P f vs W (RetB (.bool b) W) := by
  refine (h W R vs hR hl ha).mono ?_
  rintro e w' ⟨z, cx, rfl, rfl, _, _, _, _, _, hb, hz⟩
  refine ⟨?_, hb⟩
  cases hz with
  | pure h => cases h; rfl
end
end
end Go.Proofs.Ytjdiabjmphdhiaa.Rx
namespace Go.Proofs.Ytjdiabjmphdhiaa.Px
section
open Go.RowKit Go.Proofs.Ytjdiabjmphdhiaa.Rx
end
end Go.Proofs.Ytjdiabjmphdhiaa.Px
namespace Go.Proofs.Ytjdiabjmphdhiaa.Rx
section
open Go.RowKit
/-- what must hold for a value to stand when row id has n elements -/
def shr1 (id n : Nat) : AV → Option (List Prop)
  | .own i _ _ off len => bif Nat.beq i id then some [off + len ≤ n] else some []
  | .eptr i _ _ _ _ => bif Nat.beq i id then none else some []
  | .agg _ => none
  | .tup _ => none
  | .clo _ (_ :: _) => none
  | _ => some []
def shrL (id n : Nat) : List AV → Option (List Prop)
  | [] => some []
  | a :: l => (shr1 id n a).bind fun p => (shrL id n l).map (p ++ ·)
def shrV (id n : Nat) : AV → Option (List Prop)
  | .agg cs => shrL id n cs
  | .clo _ (c :: cs) => shrL id n (c :: cs)
  | a => shr1 id n a
def shrE (id n : Nat) : List (Nat × AV) → Option (List Prop)
  | [] => some []
  | q :: l => (shrV id n q.2).bind fun p => (shrE id n l).map (p ++ ·)
def shrB (id n : Nat) (q : Nat × Blk) : Option (Blk × List Prop) :=
  match q.2.c with
  | .box cs => bif Nat.beq q.1 id then none else (shrL id n cs).map fun p => (q.2, p)
  | .rows m k f => bif Nat.beq q.1 id then some ({ q.2 with c := .rows m n f }, [n ≤ k]) else some (q.2, [])
def shrH (id n : Nat) : List (Nat × Blk) → Option (List (Nat × Blk) × List Prop)
  | [] => some ([], [])
  | q :: l => (shrB id n q).bind fun b => (shrH id n l).map fun r => ((q.1, b.1) :: r.1, b.2 ++ r.2)
def shrS (id n : Nat) (J : Sm) : Option (Sm × List Prop) :=
  (shrH id n J.heap).bind fun h => (shrE id n J.env).map fun p => (⟨J.env, h.1, J.next⟩, h.2 ++ p)
/-- row id cut to n elements, and the state then known as K -/
def vcShr (id n : Nat) (J : Sm) (r : List (Nat × Nat)) (K : Sm) : Prop :=
  match shrS id n J with
  | some q => match leS r q.1.st K with
    | some ps => allP (q.2 ++ ps)
    | none => False
  | none => False
section
variable {P : Program}
theorem shrH_get {id n : Nat} : ∀ {l : List (Nat × Blk)} {l' : List (Nat × Blk)} {ps : List Prop}, shrH id n l = some (l', ps) → (∀ p ∈ ps, p) → ∀ k, (lookO l k = none ∧ lookO l' k = none) ∨ ∃ b b' qs, lookO l k = some b ∧ lookO l' k = some b' ∧ shrB id n (k, b) = some (b', qs) ∧ ∀ q ∈ qs, q
  | [], l', ps, h, hp, k => by
    simp only [shrH, Option.some.injEq, Prod.mk.injEq] at h
    obtain ⟨rfl, rfl⟩ := h
    exact .inl ⟨rfl, rfl⟩
  | (i, b) :: l, l', ps, h, hp, k => by
    unfold shrH at h
    obtain ⟨q, hq, h⟩ := Option.bind_eq_some_iff.1 h
    obtain ⟨r, hr, h⟩ := Option.map_eq_some_iff.1 h
    simp only [Prod.mk.injEq] at h
    obtain ⟨rfl, rfl⟩ := h
    unfold lookO
    cases hk : Nat.beq k i with
    | true =>
      obtain rfl := Nat.eq_of_beq_eq_true hk
      exact .inr ⟨b, q.1, q.2, rfl, rfl, hq, fun x hx => hp x (List.mem_append_left _ hx)⟩
    | false => exact shrH_get (by rw [hr]) (fun x hx => hp x (List.mem_append_right _ hx)) k
theorem shrE_get {id n : Nat} : ∀ {l : List (Nat × AV)} {ps : List Prop}, shrE id n l = some ps → (∀ p ∈ ps, p) → ∀ t, ∃ qs, shrV id n (look .junk l t) = some qs ∧ ∀ q ∈ qs, q
  | [], ps, h, hp, t => ⟨[], rfl, fun q hq => by cases hq⟩
  | (i, a) :: l, ps, h, hp, t => by
    unfold shrE at h
    obtain ⟨q, hq, h⟩ := Option.bind_eq_some_iff.1 h
    obtain ⟨r, hr, rfl⟩ := Option.map_eq_some_iff.1 h
    unfold look
    cases hk : Nat.beq t i with
    | true => exact ⟨q, hq, fun x hx => hp x (List.mem_append_left _ hx)⟩
    | false => exact shrE_get hr (fun x hx => hp x (List.mem_append_right _ hx)) t
theorem shrL_get {id n : Nat} : ∀ {l : List AV} {ps : List Prop}, shrL id n l = some ps → (∀ p ∈ ps, p) → ∀ (j : Nat) a, l[j]? = some a → ∃ qs, shr1 id n a = some qs ∧ ∀ q ∈ qs, q
  | [], ps, h, hp, j, a, ha => by simp at ha
  | x :: l, ps, h, hp, j, a, ha => by
    unfold shrL at h
    obtain ⟨q, hq, h⟩ := Option.bind_eq_some_iff.1 h
    obtain ⟨r, hr, rfl⟩ := Option.map_eq_some_iff.1 h
    cases j with
    | zero =>
      simp only [List.getElem?_cons_zero, Option.some.injEq] at ha
      subst ha
      exact ⟨q, hq, fun x hx => hp x (List.mem_append_left _ hx)⟩
    | succ j => exact shrL_get hr (fun x hx => hp x (List.mem_append_right _ hx)) j a (by simpa using ha)
/-- all stands when a row is known to be shorter -/
theorem SRep.shr {cx : Cx} {J J' : Sm} {a : Act} {nt id n : Nat} {ps : List Prop} (hs : SRep cx J.st a nt) (h : shrS id n J = some (J', ps)) (hp : ∀ p ∈ ps, p) : ∃ cx', SRep cx' J'.st a nt ∧ Ext cx cx' ∧ cx'.w = cx.w := by
  unfold shrS at h
  obtain ⟨q, hq, h⟩ := Option.bind_eq_some_iff.1 h
  obtain ⟨pe, he, h⟩ := Option.map_eq_some_iff.1 h
  simp only [Prod.mk.injEq] at h
  obtain ⟨rfl, rfl⟩ := h
  have hget := shrH_get (l' := q.1) (ps := q.2) hq fun p hp' => hp p (List.mem_append_left _ hp')
  have hget' := shrE_get he fun p hp' => hp p (List.mem_append_right _ hp')
  have hH : cx.H = lookO J.heap := hs.H
  have one : ∀ (x : AV) (v : Value) (qs : List Prop), shr1 id n x = some qs → (∀ q ∈ qs, q) → Rep cx x v → Rep ⟨cx.w, cx.R, cx.φ, lookO q.1, cx.B⟩ x v := by
    intro x v qs hx hqs hr
    cases x with
    | own i g m off len =>
      obtain ⟨b, hb, hle, hO⟩ := hr.own_inv
      have ho := hr.own_one
      rw [hH] at hb
      rcases hget i with ⟨h1, _⟩ | ⟨b1, b2, rs, h1, h2, h3, h4⟩
      · rw [hb] at h1; cases h1
      · rw [hb] at h1; cases h1
        have hgen : b2.gen = b.gen := by
          unfold shrB at h3
          split at h3
          · obtain ⟨_, h3⟩ : Nat.beq i id = false ∧ _ := by
              cases hk : Nat.beq i id with
              | true => rw [hk] at h3; cases h3
              | false => exact ⟨rfl, by rw [hk] at h3; exact h3⟩
            simp only [cond_false] at h3
            obtain ⟨p, _, h3⟩ := Option.map_eq_some_iff.1 h3
            cases h3; rfl
          · cases hk : Nat.beq i id with
            | true => rw [hk] at h3; simp only [cond_true, Option.some.injEq, Prod.mk.injEq] at h3; rw [← h3.1]
            | false => rw [hk] at h3; simp only [cond_false, Option.some.injEq, Prod.mk.injEq] at h3; rw [← h3.1]
        refine .own h2 (by rw [hgen]; exact hle) ho fun e => ?_
        obtain ⟨k, f, k1, k2, k3⟩ := hO (by rw [← hgen]; exact e)
        unfold shrB at h3
        simp only [k1] at h3
        simp only [shr1] at hx
        cases hk : Nat.beq i id with
        | true =>
          rw [hk] at h3 hx
          simp only [cond_true, Option.some.injEq, Prod.mk.injEq] at h3 hx
          subst hx
          have hlen := hqs _ (List.mem_singleton.2 rfl)
          exact ⟨n, f, by rw [← h3.1], hlen, k3⟩
        | false =>
          rw [hk] at h3
          simp only [cond_false, Option.some.injEq, Prod.mk.injEq] at h3
          exact ⟨k, f, by rw [← h3.1]; exact k1, k2, k3⟩
    | bptr i off =>
      obtain ⟨g, cap, b, h1, h2, h3, rfl⟩ := hr.bptr_inv
      rw [hH] at h1
      rcases hget i with ⟨h4, _⟩ | ⟨b1, b2, rs, h4, h5, h6, h7⟩
      · rw [h1] at h4; cases h4
      · rw [h1] at h4; cases h4
        refine .bptr h5 ?_ h3
        unfold shrB at h6
        split at h6
        · cases hk : Nat.beq i id with
          | true => rw [hk] at h6; cases h6
          | false =>
            rw [hk] at h6
            simp only [cond_false] at h6
            obtain ⟨p, _, h6⟩ := Option.map_eq_some_iff.1 h6
            cases h6; exact h2
        · rename_i m kk f hc
          have hc' : b.c = .rows m kk f := hc
          rw [hc'] at h2; cases h2
    | eptr i g m k j =>
      simp only [shr1] at hx
      obtain ⟨b, hb, hle, hE⟩ := hr.eptr_inv
      have ho : v.oneCell' = true := by
        cases hr with
        | pure h => cases h
        | eptr _ _ ho _ => exact ho
      rw [hH] at hb
      cases hk : Nat.beq i id with
      | true => rw [hk] at hx; cases hx
      | false =>
        rcases hget i with ⟨h1, _⟩ | ⟨b1, b2, rs, h1, h2, h3, h4⟩
        · rw [hb] at h1; cases h1
        · rw [hb] at h1; cases h1
          have e2 : b2 = b := by
            unfold shrB at h3
            simp only [hk, cond_false] at h3
            split at h3
            · obtain ⟨p, _, h3⟩ := Option.map_eq_some_iff.1 h3
              cases h3; rfl
            · cases h3; rfl
          subst e2
          exact .eptr h2 hle ho hE
    | agg cs => cases hx
    | tup cs => cases hx
    | clo f cs =>
      cases cs with
      | cons c cs => cases hx
      | nil =>
        obtain ⟨vs, rfl, hl, _⟩ := hr.clo_inv
        exact .clo hl fun j a v ha _ => by simp at ha
    | _ => cases hr with | pure h => exact .pure h
  have val : ∀ (x : AV) (v : Value) (qs : List Prop), shrV id n x = some qs → (∀ q ∈ qs, q) → Rep cx x v → Rep ⟨cx.w, cx.R, cx.φ, lookO q.1, cx.B⟩ x v := by
    intro x v qs hx hqs hr
    cases x with
    | agg cs =>
      obtain ⟨vs, rfl, h1, h2, h3⟩ := hr.agg_inv
      refine .agg h1 h2 fun j y u hy hu => ?_
      obtain ⟨rs, r1, r2⟩ := shrL_get hx hqs j y hy
      exact one y u rs r1 r2 (h3 j y u hy hu)
    | clo f cs =>
      cases cs with
      | nil => exact one _ _ _ hx hqs hr
      | cons c cs =>
        obtain ⟨vs, rfl, hl, h3⟩ := hr.clo_inv
        refine .clo hl fun j y u hy hu => ?_
        obtain ⟨rs, r1, r2⟩ := shrL_get hx hqs j y hy
        exact one y u rs r1 r2 (h3 j y u hy hu)
    | _ => exact one _ _ _ hx hqs hr
  refine ⟨⟨cx.w, cx.R, cx.φ, lookO q.1, cx.B⟩, ⟨rfl, ⟨fun k b hb => ?_, fun k k' g c c' h1 h2 h3 h4 => ?_, hs.c.rlt, hs.c.blt⟩, fun t => ?_, fun k hk => ?_, hs.sz, hs.df⟩, ⟨rfl, fun _ h => h, fun _ h => .inl h, rfl, rfl, rfl, Nat.le_refl _, fun _ _ _ => rfl⟩, rfl⟩
  · rcases hget k with ⟨_, h1⟩ | ⟨b1, b2, rs, h1, h2, h3, h4⟩
    · have hb' : lookO q.1 k = some b := hb
      rw [h1] at hb'; cases hb'
    · have hb' : lookO q.1 k = some b := hb
      rw [h2] at hb'; cases hb'
      have hold := hs.c.hb k b1 (by rw [hH]; exact h1)
      unfold shrB at h3
      unfold HB at hold ⊢
      split at h3
      · rename_i cs hcs'
        have hcs : b1.c = .box cs := hcs'
        cases hk : Nat.beq k id with
        | true => rw [hk] at h3; cases h3
        | false =>
          rw [hk] at h3
          simp only [cond_false] at h3
          obtain ⟨p, hp1, h3⟩ := Option.map_eq_some_iff.1 h3
          simp only [Prod.mk.injEq] at h3
          obtain ⟨rfl, rfl⟩ := h3
          rw [hcs] at hold ⊢
          simp only at hold ⊢
          obtain ⟨g, cur, c1, c2, c3, c4, c5, c6⟩ := hold
          refine ⟨g, cur, c1, c2, c3, fun j x hx => ?_, c5, c6⟩
          obtain ⟨u, u1, u2, u3⟩ := c4 j x hx
          obtain ⟨ss, s1, s2⟩ := shrL_get hp1 h4 j x hx
          exact ⟨u, u1, u2, one x u ss s1 s2 u3⟩
      · rename_i m kk f hcs'
        have hcs : b1.c = .rows m kk f := hcs'
        rw [hcs] at hold
        simp only at hold
        cases hk : Nat.beq k id with
        | true =>
          rw [hk] at h3
          simp only [cond_true, Option.some.injEq, Prod.mk.injEq] at h3
          obtain ⟨rfl, rfl⟩ := h3
          have hle := h4 _ (List.mem_singleton.2 rfl)
          rcases hold with ⟨c1, c2⟩ | ⟨g, cap, cur, c1, c2, c3, c4, c5, c6, c7⟩
          · exact .inl ⟨c1, by omega⟩
          · exact .inr ⟨g, cap, cur, c1, c2, c3, by omega, c5, fun i hi j hj => c6 i (by omega) j hj, c7⟩
        | false =>
          rw [hk] at h3
          simp only [cond_false, Option.some.injEq, Prod.mk.injEq] at h3
          obtain ⟨rfl, rfl⟩ := h3
          rw [hcs]
          exact hold
  · have conv : ∀ i, (lookO q.1 i).isSome = true → (cx.H i).isSome = true := fun i hi => by
      rw [hH]
      rcases hget i with ⟨_, e1⟩ | ⟨b1, b2, rs, e1, e2, _⟩
      · rw [e1] at hi; cases hi
      · rw [e1]; rfl
    exact hs.c.inj k k' g c c' (conv k h1) (conv k' h2) h3 h4
  · obtain ⟨rs, r1, r2⟩ := hget' t
    exact val _ _ rs r1 r2 (hs.env t)
  · have hi : (lookO q.1 k).isSome = true := hk
    have : (cx.H k).isSome = true := by
      rw [hH]
      rcases hget k with ⟨_, e1⟩ | ⟨b1, b2, rs, e1, e2, _⟩
      · rw [e1] at hi; cases hi
      · rw [e1]; rfl
    rw [hs.H] at this
    exact hs.lt k this
theorem Ok.shr {nt : Nat} {c : Code} {I : St} {x : X} {id n : Nat} {J K : Sm} {r : List (Nat × Nat)} (h : Ok P nt c I x J.st) (hv : Vc (vcShr id n J r K)) : Ok P nt c I x K.st := by
  replace hv := hv.out
  unfold vcShr at hv
  split at hv
  · rename_i q hq
    split at hv
    · rename_i ps hps
      have hall := allP_mem hv
      intro cx a hs Q hQ
      refine h cx a hs Q fun cx1 a1 hs1 he1 => ?_
      obtain ⟨cx2, hs2, he2, hw2⟩ := hs1.shr hq fun p hp => hall p (List.mem_append_left _ hp)
      obtain ⟨cx3, hs3, he3, hw3⟩ := hs2.le hps fun p hp => hall p (List.mem_append_right _ hp)
      rw [← hw2, ← hw3]
      exact hQ cx3 a1 hs3 ((he1.trans he2).trans he3)
    · cases hv
  · cases hv
/-- a contract with many answers, which are from then on only read -/
theorem PureC.frozenT {f : FuncId} {args l : List AV} {H : List Blk} (h : PureC P f args (.tup l) H) : PureC P f args (.tup (l.map (frz (fun i => H[i]?)))) [] := by
  intro w R vs hR hl ha
  refine (h w R vs hR hl ha).mono ?_
  rintro e w' ⟨z, cx, rfl, rfl, k1, k2, k3, k4, k5, k6, k7⟩
  obtain ⟨cx1, hc1, e2, hs1, hfr⟩ := freeze_all k2 k1 (l.flatMap idsF)
  have hz : RepP cx1.w cx1.R (.tup (l.map (frz (fun i => H[i]?)))) z := by
    obtain ⟨us, rfl, h1, h2⟩ : ∃ us : Array Value, z = .tuple us ∧ l.length = us.size ∧ ∀ (j : Nat) x v, l[j]? = some x → us[j]? = some v → Rep cx x v := by
      cases k7 with
      | pure h => cases h with
        | tup hl h => exact ⟨_, rfl, hl, fun j x v h1 h2 => .pure (h j x v h1 h2)⟩
      | tup hl h => exact ⟨_, rfl, hl, h⟩
    refine .tup (by simpa using h1) fun j x v hx hv => ?_
    rw [List.getElem?_map] at hx
    obtain ⟨y, hy, rfl⟩ := Option.map_eq_some_iff.1 hx
    exact hfr y v (h2 j y v hy hv) fun i hi => List.mem_flatMap.2 ⟨y, List.mem_of_getElem? hy, hi⟩
  refine ⟨z, ⟨cx1.w, cx1.R, fun _ => none, fun i => ([] : List Blk)[i]?, cx1.B⟩, rfl, e2.symm, rfl, forget_rep hc1, by rw [hs1.ext.B]; exact k3, fun g hg => hs1.ext.R g (k4 g hg), fun g hg => ?_, k6, .pure hz⟩
  rcases hs1.ext.Rn g hg with h1 | h1
  · exact k5 g h1
  · rw [k3] at h1; exact .inr h1
end
end
end Go.Proofs.Ytjdiabjmphdhiaa.Rx
namespace Go.Proofs.Ytjdiabjmphdhiaa
section
open Go.RowKit
theorem Ret.ib {X Y : Value} {k : IntKind} {a a' : Int} {b b' : Bool} {w : World} (hx : X = .int k a') (hy : Y = .bool b') (h : a' = a) (h2 : b' = b) : Ret (.tuple #[.int k a, .bool b]) w (.returned (.tuple #[X, Y])) w := ⟨by rw [hx, hy, h, h2], rfl⟩
namespace Wd
end Wd
theorem truth_any (b : Bool) (w : World) : Calls Try.prog 83 #[.bool b] w (Ret (.int .i64 (Wd.tI b)) w) := by
  cases b
  all_goals
    go_enter Try.func83, Try.ntmps83
    go_wp2
    go_ret
    exact Ret.i rfl rfl

theorem reckon_any (op x y : Int) (w : World) (h0 : 0 ≤ x) (h1 : x < 65536) (h2 : 0 ≤ y) (h3 : y < 65536) :
    Calls Try.prog 82 #[.int .i64 op, .int .i64 x, .int .i64 y] w (Ret (.tuple #[.int .i64 (Wd.recV op x y), .bool (Wd.opB op)]) w) := by
  rcases (by omega : op = 1 ∨ op = 2 ∨ op = 3 ∨ op = 4 ∨ op = 5 ∨ op = 6 ∨ op = 7 ∨ op = 8 ∨ op = 9 ∨ op = 10 ∨ op < 1 ∨ 10 < op) with rfl | rfl | rfl | rfl | rfl | rfl | rfl | rfl | rfl | rfl | h | h
  all_goals
    go_enter Try.func82, Try.ntmps82
    go_wp2_with (go_at_call 83; refine (truth_any _ _).mono ?_; rintro e w' ⟨rfl, rfl⟩)
    go_ret2
    refine Ret.ib rfl rfl ?_ ?_
    case refine_2 => first | rfl | exact (Wd.opB_no (by omega)).symm
  all_goals first | exact Wd.rec3 h0 h1 h2 h3 | exact Wd.rec4 h0 h1 h2 h3 | exact Wd.rec5 h0 h1 h2 h3 | exact Wd.rec7 h0 h1 | exact Wd.rec8 h0 h1 h2 h3 | exact Wd.rec9 x y | exact Wd.rec10 x y | exact (Wd.rec_no (by omega)).symm | (simp [Wd.recV, Wd.rawV]; done)
theorem do_any (n op a b : Int) (w : World) : Calls Try.prog 81 #[.int .i64 n, .int .i64 op, .int .i64 a, .int .i64 b] w (Ret (.tuple #[.int .i64 (Wd.doV n op a b), .bool (Wd.doB n op)]) w) := by
  by_cases h1 : Wd.okB n = true
  · have ha := Wd.maskV_bd n a
    have hb := Wd.maskV_bd n b
    go_enter Try.func81, Try.ntmps81
    go_wp2_with (first | (go_at_call 68; refine (ok_any _ _).mono ?_; rintro e w' ⟨rfl, rfl⟩) | (go_at_call 52; refine (mask_any _ _ _).mono ?_; rintro e w' ⟨rfl, rfl⟩) | (go_at_call 82; refine (reckon_any _ _ _ _ (Wd.maskV_bd _ _).1 (Wd.maskV_bd _ _).2 (Wd.maskV_bd _ _).1 (Wd.maskV_bd _ _).2).mono ?_; rintro e w' ⟨rfl, rfl⟩))
    go_ret2
    refine Ret.ib rfl rfl ?_ ?_
    · rw [Wd.recV_mask]; rfl
    · simp [Wd.doB, h1]
  · have h1 : Wd.okB n = false := by simpa using h1
    go_enter Try.func81, Try.ntmps81
    go_wp2_with (go_at_call 68; refine (ok_any _ _).mono ?_; rintro e w' ⟨rfl, rfl⟩)
    go_ret2
    exact Ret.ib rfl rfl (by simp [Wd.doV, Wd.maskV, h1]) (by simp [Wd.doB, h1])
namespace Px
open Rx
/-- a contract of the elder kind: a number and a truth, of four numbers -/
theorem ofRet4 {f : FuncId} {a b c d x : Int} {y : Bool} (h : ∀ w, Calls Try.prog f #[.int .i64 a, .int .i64 b, .int .i64 c, .int .i64 d] w (Ret (.tuple #[.int .i64 x, .bool y]) w)) : PureC Try.prog f [.int .i64 a, .int .i64 b, .int .i64 c, .int .i64 d] (.tup [.int .i64 x, .bool y]) [] := by
  intro w R vs hR hl ha
  obtain ⟨vs⟩ := vs
  match vs, hl, ha with
  | [x1, x2, x3, x4], _, ha =>
    have h1 := ha 0 _ x1 rfl rfl
    have h2 := ha 1 _ x2 rfl rfl
    have h3 := ha 2 _ x3 rfl rfl
    have h4 := ha 3 _ x4 rfl rfl
    cases h1; cases h2; cases h3; cases h4
    refine (h w).mono ?_
    rintro e w' ⟨rfl, rfl⟩
    exact ⟨_, ⟨w, R, fun _ => none, fun i => ([] : List Blk)[i]?, w.heap.size⟩, rfl, rfl, rfl, ⟨fun id b hb => (by simp at hb), fun _ _ _ _ _ _ _ h1 _ => (by cases h1), hR, Nat.le_refl _⟩, rfl, fun _ h => h, fun _ h => .inl h, Below.refl _ _, .pure (.tup rfl fun j a v ha hv => match j, ha, hv with
      | 0, rfl, rfl => .int _ _
      | 1, rfl, rfl => .bool _
      | j + 2, ha, _ => by simp at ha)⟩
theorem wdoC (W op a b : Int) : PureC Try.prog 81 [.int .i64 W, .int .i64 op, .int .i64 a, .int .i64 b] (.tup [.int .i64 (Wd.doV W op a b), .bool (Wd.doB W op)]) [] := ofRet4 fun w => do_any W op a b w
end Px
end
end Go.Proofs.Ytjdiabjmphdhiaa
namespace Go.Proofs.Ytjdiabjmphdhiaa.Px
section
open Go.RowKit Go.Proofs.Ytjdiabjmphdhiaa.Rx
structure Vl where
  reg : Bool
  n : Int
structure In where
  kind : Int
  op : Int
  d : Int
  a : Vl
  b : Vl
  nm : ByteArray
  tg : Int
structure Lb where
  nm : ByteArray
  at_ : Int
structure Pg where
  W : Int
  win : Int
  fuel : Int
  r0 : Int
  r1 : Int
  r2 : Int
  r3 : Int
  ms : List Mm
  ls : List Lb
  is : List In
structure S8 where
  r0 : Int
  r1 : Int
  r2 : Int
  r3 : Int
  m : List Int
  st : List Int
  pc : Int
structure Ob where
  k : Int
  a : Int
def In0 : In := ⟨0, 0, 0, ⟨false, 0⟩, ⟨false, 0⟩, ⟨#[]⟩, 0⟩
instance : Inhabited In := ⟨In0⟩
instance : Inhabited Lb := ⟨⟨⟨#[]⟩, 0⟩⟩
instance : Inhabited Ob := ⟨⟨0, 0⟩⟩
/-- an instruction's cells -/
def inA (i : In) : List AV := [.int .i64 i.kind, .int .i64 i.op, .int .i64 i.d, .bool i.a.reg, .int .i64 i.a.n, .bool i.b.reg, .int .i64 i.b.n, .str i.nm, .int .i64 i.tg]
def inC (i : In) (j : Nat) : AV := (inA i).getD j .junk
def inR (l : List In) : AV := .row 9 l.length (rowL inC l)
def vlA (v : Vl) : List AV := [.bool v.reg, .int .i64 v.n]
def lbC (l : Lb) (j : Nat) : AV := [AV.str l.nm, .int .i64 l.at_].getD j .junk
def lbR (l : List Lb) : AV := .row 2 l.length (rowL lbC l)
def obC (o : Ob) (j : Nat) : AV := [AV.int .i64 o.k, .int .i64 o.a].getD j .junk
def obR (l : List Ob) : AV := .row 2 l.length (rowL obC l)
/-- a program's cells -/
def pgA (p : Pg) : List AV := [.int .i64 p.W, .int .i64 p.win, .int .i64 p.fuel, .int .i64 p.r0, .int .i64 p.r1, .int .i64 p.r2, .int .i64 p.r3, memR p.ms, lbR p.ls, inR p.is]
/-- a state's cells; where its rows lie -/
def s8A (s : S8) (am ak : AV) : List AV := [.int .i64 s.r0, .int .i64 s.r1, .int .i64 s.r2, .int .i64 s.r3, am, ak, .int .i64 s.pc]
/-- the cells of a program at work -/
def mcA (p : Pg) (c : Int) (s : S8) (am ak sn : AV) : List AV := pgA p ++ [.int .i64 c] ++ s8A s am ak ++ [sn]
def mcC (p : Pg) (c : Int) (s : S8) (am ak sn : AV) (q : Nat) : AV := (mcA p c s am ak sn).getD q .junk
def mcP (p : Pg) (c : Int) (s : S8) (am ak sn : AV) : AV := .rptr 19 (mcC p c s am ak sn) 0
/-- the instruction at a place -/
def atI (p : Pg) (pc : Int) : In := if 0 ≤ pc ∧ pc < p.is.length then p.is.getD pc.toNat default else { In0 with kind := 12 }
def S8.reg (s : S8) (n : Int) : Int := if n = 0 then s.r0 else if n = 1 then s.r1 else if n = 2 then s.r2 else s.r3
def S8.set (s : S8) (n v : Int) : S8 := ⟨if n = 0 then v else s.r0, if n = 1 then v else s.r1, if n = 2 then v else s.r2, if n = 3 then v else s.r3, s.m, s.st, s.pc⟩
def vlV (W : Int) (s : S8) (v : Vl) : Int := if v.reg = true then s.reg v.n else Wd.maskV W v.n
def okV (v : Vl) : Prop := v.reg = true → 0 ≤ v.n ∧ v.n < 4
/-- registers are words -/
def okR (s : S8) : Prop := (0 ≤ s.r0 ∧ s.r0 < 65536) ∧ (0 ≤ s.r1 ∧ s.r1 < 65536) ∧ (0 ≤ s.r2 ∧ s.r2 < 65536) ∧ (0 ≤ s.r3 ∧ s.r3 < 65536)
theorem four {n : Int} (h0 : 0 ≤ n) (h1 : n < 4) : n = 0 ∨ n = 1 ∨ n = 2 ∨ n = 3 := by omega
theorem S8.reg_bd {s : S8} (h : okR s) (n : Int) : 0 ≤ s.reg n ∧ s.reg n < 65536 := by
  obtain ⟨h0, h1, h2, h3⟩ := h
  unfold S8.reg
  repeat' split
  all_goals assumption
theorem vlV_bd {W : Int} {s : S8} (h : okR s) (v : Vl) : 0 ≤ vlV W s v ∧ vlV W s v < 65536 := by
  unfold vlV
  split
  · exact S8.reg_bd h _
  · exact Wd.maskV_bd _ _
theorem atI_in {p : Pg} {pc : Int} (h0 : 0 ≤ pc) (h1 : pc < p.is.length) : atI p pc = p.is.getD pc.toNat default := if_pos ⟨h0, h1⟩
theorem atI_out {p : Pg} {pc : Int} (h : ¬ (0 ≤ pc ∧ pc < p.is.length)) : atI p pc = { In0 with kind := 12 } := if_neg h
theorem at_in (p : Pg) (pc : Int) (h0 : 0 ≤ pc) (h1 : pc < p.is.length) : Vc (vcFn Try.prog false 23 [.agg (pgA p), .int .i64 pc] [.fz, .b false, .b false, .b false, .b false, .b false, .b false, .b false] [] (.agg (inA (p.is.getD pc.toNat default))) []) :=
  vc_of (q := (decide (pc < (0 : Int)) = false) ∧ (decide (pc < (0 : Int)) = false) ∧ (decide (pc < (0 : Int)) = false) ∧ (decide (pc < (0 : Int)) = false) ∧ (decide (pc < (0 : Int)) = false) ∧ (decide (pc < (0 : Int)) = false) ∧ (decide (pc ≥ (↑(List.length (Pg.is p)) : Int)) = false) ∧ ((0 : Int) ≤ pc ∧ pc < (↑(List.length (Pg.is p)) : Int)) ∧ (In.kind (List.getD (Pg.is p) (Int.toNat pc) Inhabited.default) = In.kind (List.getD (Pg.is p) (Int.toNat pc) Inhabited.default)) ∧ (In.op (List.getD (Pg.is p) (Int.toNat pc) Inhabited.default) = In.op (List.getD (Pg.is p) (Int.toNat pc) Inhabited.default)) ∧ (In.d (List.getD (Pg.is p) (Int.toNat pc) Inhabited.default) = In.d (List.getD (Pg.is p) (Int.toNat pc) Inhabited.default)) ∧ (Vl.reg (In.a (List.getD (Pg.is p) (Int.toNat pc) Inhabited.default)) = Vl.reg (In.a (List.getD (Pg.is p) (Int.toNat pc) Inhabited.default))) ∧ (Vl.n (In.a (List.getD (Pg.is p) (Int.toNat pc) Inhabited.default)) = Vl.n (In.a (List.getD (Pg.is p) (Int.toNat pc) Inhabited.default))) ∧ (Vl.reg (In.b (List.getD (Pg.is p) (Int.toNat pc) Inhabited.default)) = Vl.reg (In.b (List.getD (Pg.is p) (Int.toNat pc) Inhabited.default))) ∧ (Vl.n (In.b (List.getD (Pg.is p) (Int.toNat pc) Inhabited.default)) = Vl.n (In.b (List.getD (Pg.is p) (Int.toNat pc) Inhabited.default))) ∧ (In.nm (List.getD (Pg.is p) (Int.toNat pc) Inhabited.default) = In.nm (List.getD (Pg.is p) (Int.toNat pc) Inhabited.default)) ∧ (In.tg (List.getD (Pg.is p) (Int.toNat pc) Inhabited.default) = In.tg (List.getD (Pg.is p) (Int.toNat pc) Inhabited.default)) ∧ True) (by kernel_rfl)
    ⟨(decide_eq_false (by first | omega | (simp; omega) | (simp; done))),
 (decide_eq_false (by first | omega | (simp; omega) | (simp; done))),
 (decide_eq_false (by first | omega | (simp; omega) | (simp; done))),
 (decide_eq_false (by first | omega | (simp; omega) | (simp; done))),
 (decide_eq_false (by first | omega | (simp; omega) | (simp; done))),
 (decide_eq_false (by first | omega | (simp; omega) | (simp; done))),
 (decide_eq_false (by first | omega | (simp; omega) | (simp; done))),
 (by first | omega | rfl),
 rfl,
 rfl,
 rfl,
 rfl,
 rfl,
 rfl,
 rfl,
 rfl,
 rfl, trivial⟩
def frS8a0  (Z : Prop) : Prop := ((12 : Int) = (12 : Int)) ∧ ((0 : Int) = (0 : Int)) ∧ ((0 : Int) = (0 : Int)) ∧ (false = false) ∧ ((0 : Int) = (0 : Int)) ∧ (false = false) ∧ ((0 : Int) = (0 : Int)) ∧ (ByteArray.mk (Array.mk []) = ByteArray.mk (Array.mk [])) ∧ ((0 : Int) = (0 : Int)) ∧ Z
theorem frS8a0_mk  {Z : Prop} (z : Z) : frS8a0  Z := ⟨rfl, rfl, rfl, rfl, rfl, rfl, rfl, rfl, rfl, z⟩
theorem at_neg (p : Pg) (pc : Int) (h0 : ¬ 0 ≤ pc) : Vc (vcFn Try.prog false 23 [.agg (pgA p), .int .i64 pc] [.fz, .b true, .b true, .b true, .b true, .b true, .b true, .b true] [] (.agg (inA { In0 with kind := 12 })) []) :=
  vc_of (q := (decide (pc < (0 : Int)) = true) ∧ (decide (pc < (0 : Int)) = true) ∧ (decide (pc < (0 : Int)) = true) ∧ (decide (pc < (0 : Int)) = true) ∧ (decide (pc < (0 : Int)) = true) ∧ (decide (pc < (0 : Int)) = true) ∧ (true = true) ∧ (frS8a0  (True))) (by kernel_rfl)
    ⟨(decide_eq_true (by first | omega | (simp; omega) | (simp; done))),
 (decide_eq_true (by first | omega | (simp; omega) | (simp; done))),
 (decide_eq_true (by first | omega | (simp; omega) | (simp; done))),
 (decide_eq_true (by first | omega | (simp; omega) | (simp; done))),
 (decide_eq_true (by first | omega | (simp; omega) | (simp; done))),
 (decide_eq_true (by first | omega | (simp; omega) | (simp; done))),
 rfl, (frS8a0_mk  trivial)⟩
theorem at_out (p : Pg) (pc : Int) (h0 : 0 ≤ pc) (h1 : ¬ pc < p.is.length) : Vc (vcFn Try.prog false 23 [.agg (pgA p), .int .i64 pc] [.fz, .b false, .b false, .b false, .b false, .b false, .b false, .b true] [] (.agg (inA { In0 with kind := 12 })) []) :=
  vc_of (q := (decide (pc < (0 : Int)) = false) ∧ (decide (pc < (0 : Int)) = false) ∧ (decide (pc < (0 : Int)) = false) ∧ (decide (pc < (0 : Int)) = false) ∧ (decide (pc < (0 : Int)) = false) ∧ (decide (pc < (0 : Int)) = false) ∧ (decide (pc ≥ (↑(List.length (Pg.is p)) : Int)) = true) ∧ (frS8a0  (True))) (by kernel_rfl)
    ⟨(decide_eq_false (by first | omega | (simp; omega) | (simp; done))),
 (decide_eq_false (by first | omega | (simp; omega) | (simp; done))),
 (decide_eq_false (by first | omega | (simp; omega) | (simp; done))),
 (decide_eq_false (by first | omega | (simp; omega) | (simp; done))),
 (decide_eq_false (by first | omega | (simp; omega) | (simp; done))),
 (decide_eq_false (by first | omega | (simp; omega) | (simp; done))),
 (decide_eq_true (by first | omega | (simp; omega) | (simp; done))), (frS8a0_mk  trivial)⟩
theorem atC (p : Pg) (pc : Int) : PureC Try.prog 23 [.agg (pgA p), .int .i64 pc] (.agg (inA (atI p pc))) [] := by
  by_cases h0 : 0 ≤ pc
  · by_cases h1 : pc < p.is.length
    · rw [atI_in h0 h1]; exact PureC.vc (at_in p pc h0 h1)
    · rw [atI_out fun h => h1 h.2]; exact PureC.vc (at_out p pc h0 h1)
  · rw [atI_out fun h => h0 h.1]; exact PureC.vc (at_neg p pc h0)
theorem reg_in (p : Pg) (c : Int) (s : S8) (r : Int) (h0 : 0 ≤ r) (h1 : r < 4) : Vc (vcFn Try.prog false 78 [(mcP p c s .junk .junk .junk), .int .i64 r] [.b true, .b true, .b true, .b false, .iz, .lv (.int .i64 (s.reg r))] [] (.int .i64 (s.reg r)) []) :=
  vc_of (q := (decide ((0 : Int) ≤ r) = true) ∧ (decide ((0 : Int) ≤ r) = true) ∧ (decide ((0 : Int) ≤ r) = true) ∧ ((!decide (r < (4 : Int))) = false) ∧ ((0 : Int) ≤ r ∧ r < (↑(4 : Nat) : Int)) ∧ (partF Go.Proofs.Try.prog (3 : Nat) (19 : Nat) (mcC p c s AV.junk AV.junk AV.junk) ((11 : Nat) + Int.toNat r * (1 : Nat)) = Option.some (AV.int IntKind.i64 (S8.reg s r))) ∧ (S8.reg s r = S8.reg s r) ∧ True) (by kernel_rfl)
    ⟨(decide_eq_true (by first | omega | (simp; omega) | (simp; done))),
 (decide_eq_true (by first | omega | (simp; omega) | (simp; done))),
 (decide_eq_true (by first | omega | (simp; omega) | (simp; done))),
 (by first | omega | rfl | (simp; done) | (simp; omega)),
 (by first | omega | rfl),
 (by rcases four h0 h1 with rfl | rfl | rfl | rfl <;> kernel_rfl),
 rfl, trivial⟩
theorem regC (p : Pg) (c : Int) (s : S8) (r : Int) (h0 : 0 ≤ r) (h1 : r < 4) : PureC Try.prog 78 [(mcP p c s .junk .junk .junk), .int .i64 r] (.int .i64 (s.reg r)) [] := PureC.vc (reg_in p c s r h0 h1)
def frS8a1 (p : Pg) (c : Int) (s : S8) (Z : Prop) : Prop := (List.length (Pg.ls p) = List.length (Pg.ls p)) ∧ (∀ (i : Nat), i < List.length (Pg.ls p) → ∀ (j : Nat), j < (2 : Nat) → rowL lbC (Pg.ls p) i j = rowL lbC (Pg.ls p) i j) ∧ (List.length (Pg.is p) = List.length (Pg.is p)) ∧ (∀ (i : Nat), i < List.length (Pg.is p) → ∀ (j : Nat), j < (9 : Nat) → rowL inC (Pg.is p) i j = rowL inC (Pg.is p) i j) ∧ (c = c) ∧ (S8.r0 s = S8.r0 s) ∧ (S8.r1 s = S8.r1 s) ∧ (S8.r2 s = S8.r2 s) ∧ (S8.r3 s = S8.r3 s) ∧ Z
theorem frS8a1_mk (p : Pg) (c : Int) (s : S8) {Z : Prop} (z : Z) : frS8a1 p c s Z := ⟨rfl, (fun _ _ _ _ => rfl), rfl, (fun _ _ _ _ => rfl), rfl, rfl, rfl, rfl, rfl, z⟩
def frS8a2 (p : Pg) (Z : Prop) : Prop := (Pg.W p = Pg.W p) ∧ (Pg.win p = Pg.win p) ∧ (Pg.fuel p = Pg.fuel p) ∧ (Pg.r0 p = Pg.r0 p) ∧ (Pg.r1 p = Pg.r1 p) ∧ (Pg.r2 p = Pg.r2 p) ∧ (Pg.r3 p = Pg.r3 p) ∧ (List.length (Pg.ms p) = List.length (Pg.ms p)) ∧ (∀ (i : Nat), i < List.length (Pg.ms p) → ∀ (j : Nat), j < (3 : Nat) → rowL mmC (Pg.ms p) i j = rowL mmC (Pg.ms p) i j) ∧ Z
theorem frS8a2_mk (p : Pg) {Z : Prop} (z : Z) : frS8a2 p Z := ⟨rfl, rfl, rfl, rfl, rfl, rfl, rfl, rfl, (fun _ _ _ _ => rfl), z⟩
theorem val_r (p : Pg) (c : Int) (s : S8) (n : Int) (h0 : 0 ≤ n) (h1 : n < 4) : Vc (vcFn Try.prog false 62 [(mcP p c s .junk .junk .junk), .agg [.bool true, .int .i64 n]] [.fz, .cl [(mcP p c s .junk .junk .junk), .int .i64 n] (.int .i64 (s.reg n)) []] [] (.int .i64 (s.reg n)) []) :=
  vc_of (q := (frS8a2 p ((frS8a1 p c s ((S8.pc s = S8.pc s) ∧ (n = n) ∧ (PureC Try.prog 78 [(mcP p c s .junk .junk .junk), .int .i64 n] (.int .i64 (s.reg n)) []) ∧ (S8.reg s n = S8.reg s n) ∧ True))))) (by kernel_rfl)
    (frS8a2_mk p (frS8a1_mk p c s ⟨rfl,
 rfl,
 regC p c s n h0 h1,
 rfl, trivial⟩))
theorem val_n (p : Pg) (c : Int) (s : S8) (n : Int) : Vc (vcFn Try.prog false 62 [(mcP p c s .junk .junk .junk), .agg [.bool false, .int .i64 n]] [.fz, .cl [.int .i64 p.W, .int .i64 n] (.int .i64 (Wd.maskV p.W n)) []] [] (.int .i64 (Wd.maskV p.W n)) []) :=
  vc_of (q := (Pg.W p = Pg.W p) ∧ (n = n) ∧ (PureC Try.prog 52 [.int .i64 p.W, .int .i64 n] (.int .i64 (Wd.maskV p.W n)) []) ∧ (Wd.maskV (Pg.W p) n = Wd.maskV (Pg.W p) n) ∧ True) (by kernel_rfl)
    ⟨rfl,
 rfl,
 maskC p.W n,
 rfl, trivial⟩
theorem valC (p : Pg) (c : Int) (s : S8) (x : Vl) (hx : okV x) : PureC Try.prog 62 [(mcP p c s .junk .junk .junk), .agg (vlA x)] (.int .i64 (vlV p.W s x)) [] := by
  obtain ⟨b, n⟩ := x
  cases b with
  | true => exact PureC.vc (val_r p c s n (hx rfl).1 (hx rfl).2)
  | false => exact PureC.vc (val_n p c s n)
theorem do_vc (p : Pg) (c : Int) (s : S8) (i : In) (ha : okV i.a) (hb : okV i.b) : Vc (vcFn Try.prog false 73 [(mcP p c s .junk .junk .junk), .agg (inA i)] [.fz, .cl [(mcP p c s .junk .junk .junk), .agg (vlA i.a)] (.int .i64 (vlV p.W s i.a)) [], .cl [(mcP p c s .junk .junk .junk), .agg (vlA i.b)] (.int .i64 (vlV p.W s i.b)) [], .cl [.int .i64 p.W, .int .i64 i.op, .int .i64 (vlV p.W s i.a), .int .i64 (vlV p.W s i.b)] (.tup [.int .i64 (Wd.doV p.W i.op (vlV p.W s i.a) (vlV p.W s i.b)), .bool (Wd.doB p.W i.op)]) []] [] (.int .i64 (Wd.doV p.W i.op (vlV p.W s i.a) (vlV p.W s i.b))) []) :=
  vc_of (q := (frS8a2 p ((frS8a1 p c s ((S8.pc s = S8.pc s) ∧ (Vl.reg (In.a i) = Vl.reg (In.a i)) ∧ (Vl.n (In.a i) = Vl.n (In.a i)) ∧ (PureC Try.prog 62 [(mcP p c s .junk .junk .junk), .agg (vlA i.a)] (.int .i64 (vlV p.W s i.a)) []) ∧ (frS8a2 p ((frS8a1 p c s ((S8.pc s = S8.pc s) ∧ (Vl.reg (In.b i) = Vl.reg (In.b i)) ∧ (Vl.n (In.b i) = Vl.n (In.b i)) ∧ (PureC Try.prog 62 [(mcP p c s .junk .junk .junk), .agg (vlA i.b)] (.int .i64 (vlV p.W s i.b)) []) ∧ (Pg.W p = Pg.W p) ∧ (In.op i = In.op i) ∧ (vlV (Pg.W p) s (In.a i) = vlV (Pg.W p) s (In.a i)) ∧ (vlV (Pg.W p) s (In.b i) = vlV (Pg.W p) s (In.b i)) ∧ (PureC Try.prog 81 [.int .i64 p.W, .int .i64 i.op, .int .i64 (vlV p.W s i.a), .int .i64 (vlV p.W s i.b)] (.tup [.int .i64 (Wd.doV p.W i.op (vlV p.W s i.a) (vlV p.W s i.b)), .bool (Wd.doB p.W i.op)]) []) ∧ (Wd.doV (Pg.W p) (In.op i) (vlV (Pg.W p) s (In.a i)) (vlV (Pg.W p) s (In.b i)) = Wd.doV (Pg.W p) (In.op i) (vlV (Pg.W p) s (In.a i)) (vlV (Pg.W p) s (In.b i))) ∧ True))))))))) (by kernel_rfl)
    (frS8a2_mk p (frS8a1_mk p c s ⟨rfl,
 rfl,
 rfl,
 valC p c s i.a ha, (frS8a2_mk p (frS8a1_mk p c s ⟨rfl,
 rfl,
 rfl,
 valC p c s i.b hb,
 rfl,
 rfl,
 rfl,
 rfl,
 wdoC p.W i.op (vlV p.W s i.a) (vlV p.W s i.b),
 rfl, trivial⟩))⟩))
theorem mdoC (p : Pg) (c : Int) (s : S8) (i : In) (ha : okV i.a) (hb : okV i.b) : PureC Try.prog 73 [(mcP p c s .junk .junk .junk), .agg (inA i)] (.int .i64 (Wd.doV p.W i.op (vlV p.W s i.a) (vlV p.W s i.b))) [] := PureC.vc (do_vc p c s i ha hb)
theorem adr_vc (p : Pg) (c : Int) (s : S8) (i : In) (ha : okV i.a) (hb : okV i.b) (hs : okR s) : Vc (vcFn Try.prog false 74 [(mcP p c s .junk .junk .junk), .agg (inA i)] [.fz, .cl [(mcP p c s .junk .junk .junk), .agg (vlA i.a)] (.int .i64 (vlV p.W s i.a)) [], .cl [(mcP p c s .junk .junk .junk), .agg (vlA i.b)] (.int .i64 (vlV p.W s i.b)) [], .cl [.int .i64 p.W, .int .i64 ((vlV p.W s i.a) + (vlV p.W s i.b))] (.int .i64 (Wd.maskV p.W ((vlV p.W s i.a) + (vlV p.W s i.b)))) []] [] (.tup [.int .i64 (Wd.maskV p.W ((vlV p.W s i.a) + (vlV p.W s i.b))), .bool (decide ((Wd.maskV p.W ((vlV p.W s i.a) + (vlV p.W s i.b))) < c))]) []) :=
  vc_of (q := (frS8a2 p ((frS8a1 p c s ((S8.pc s = S8.pc s) ∧ (Vl.reg (In.a i) = Vl.reg (In.a i)) ∧ (Vl.n (In.a i) = Vl.n (In.a i)) ∧ (PureC Try.prog 62 [(mcP p c s .junk .junk .junk), .agg (vlA i.a)] (.int .i64 (vlV p.W s i.a)) []) ∧ (frS8a2 p ((frS8a1 p c s ((S8.pc s = S8.pc s) ∧ (Vl.reg (In.b i) = Vl.reg (In.b i)) ∧ (Vl.n (In.b i) = Vl.n (In.b i)) ∧ (PureC Try.prog 62 [(mcP p c s .junk .junk .junk), .agg (vlA i.b)] (.int .i64 (vlV p.W s i.b)) []) ∧ (inK IntKind.i64 (vlV (Pg.W p) s (In.a i) + vlV (Pg.W p) s (In.b i))) ∧ (Pg.W p = Pg.W p) ∧ (vlV (Pg.W p) s (In.a i) + vlV (Pg.W p) s (In.b i) = vlV (Pg.W p) s (In.a i) + vlV (Pg.W p) s (In.b i)) ∧ (PureC Try.prog 52 [.int .i64 p.W, .int .i64 ((vlV p.W s i.a) + (vlV p.W s i.b))] (.int .i64 (Wd.maskV p.W ((vlV p.W s i.a) + (vlV p.W s i.b)))) []) ∧ (Wd.maskV (Pg.W p) (vlV (Pg.W p) s (In.a i) + vlV (Pg.W p) s (In.b i)) = Wd.maskV (Pg.W p) (vlV (Pg.W p) s (In.a i) + vlV (Pg.W p) s (In.b i))) ∧ (decide (Wd.maskV (Pg.W p) (vlV (Pg.W p) s (In.a i) + vlV (Pg.W p) s (In.b i)) < c) = decide (Wd.maskV (Pg.W p) (vlV (Pg.W p) s (In.a i) + vlV (Pg.W p) s (In.b i)) < c)) ∧ True))))))))) (by kernel_rfl)
    (frS8a2_mk p (frS8a1_mk p c s ⟨rfl,
 rfl,
 rfl,
 valC p c s i.a ha, (frS8a2_mk p (frS8a1_mk p c s ⟨rfl,
 rfl,
 rfl,
 valC p c s i.b hb,
 (in64 (by have := vlV_bd (W := p.W) hs i.a; have := vlV_bd (W := p.W) hs i.b; omega) (by have := vlV_bd (W := p.W) hs i.a; have := vlV_bd (W := p.W) hs i.b; omega)),
 rfl,
 rfl,
 maskC p.W ((vlV p.W s i.a) + (vlV p.W s i.b)),
 rfl,
 rfl, trivial⟩))⟩))
theorem madrC (p : Pg) (c : Int) (s : S8) (i : In) (ha : okV i.a) (hb : okV i.b) (hs : okR s) : PureC Try.prog 74 [(mcP p c s .junk .junk .junk), .agg (inA i)] (.tup [.int .i64 (Wd.maskV p.W ((vlV p.W s i.a) + (vlV p.W s i.b))), .bool (decide ((Wd.maskV p.W ((vlV p.W s i.a) + (vlV p.W s i.b))) < c))]) [] := PureC.vc (adr_vc p c s i ha hb hs)
theorem cell_in (p : Pg) (c : Int) (s : S8) (n : Int) (h0 : 0 ≤ n) (h1 : n < s.m.length) : Vc (vcFn Try.prog false 76 [(mcP p c s (.row 1 s.m.length (rowI s.m)) .junk .junk), .int .i64 n] [.b false] [] (.int .i64 (s.m.getD n.toNat 0)) []) :=
  vc_of (q := (decide (n ≥ (↑(List.length (S8.m s)) : Int)) = false) ∧ ((0 : Int) ≤ n ∧ n < (↑(List.length (S8.m s)) : Int)) ∧ (List.getD (S8.m s) (Int.toNat n) (0 : Int) = List.getD (S8.m s) (Int.toNat n) (0 : Int)) ∧ True) (by kernel_rfl)
    ⟨(decide_eq_false (by first | omega | (simp; omega) | (simp; done))),
 (by first | omega | rfl),
 rfl, trivial⟩
theorem mcellC (p : Pg) (c : Int) (s : S8) (n : Int) (h0 : 0 ≤ n) (h1 : n < s.m.length) : PureC Try.prog 76 [(mcP p c s (.row 1 s.m.length (rowI s.m)) .junk .junk), .int .i64 n] (.int .i64 (s.m.getD n.toNat 0)) [] := PureC.vc (cell_in p c s n h0 h1)
end
end Go.Proofs.Ytjdiabjmphdhiaa.Px
namespace Go.Proofs.Ytjdiabjmphdhiaa.Px
section
open Go.RowKit Go.Proofs.Ytjdiabjmphdhiaa.Rx
def obB (l : List Ob) : Blk := ⟨0, false, 49, .rows 2 l.length (rowL obC l)⟩
def S8.go (s : S8) (pc : Int) : S8 := { s with pc := pc }
/-- what an instruction does: the state behind it, what is observed, how it ended -/
def stepI (W c len : Int) (i : In) (s : S8) : S8 × List Ob × Int :=
  if i.kind = 1 then ((s.set i.d (Wd.doV W i.op (vlV W s i.a) (vlV W s i.b))).go (s.pc + 1), [], 0)
  else if i.kind = 4 then (if vlV W s i.a = 0 then s.go (s.pc + 1) else (s.set i.d (vlV W s i.b)).go (s.pc + 1), [], 0)
  else if i.kind = 2 then (if Wd.maskV W (vlV W s i.a + vlV W s i.b) < c then ((s.set i.d (s.m.getD (Wd.maskV W (vlV W s i.a + vlV W s i.b)).toNat 0)).go (s.pc + 1), [⟨1, Wd.maskV W (vlV W s i.a + vlV W s i.b)⟩], 0) else (s, [], 2))
  else if i.kind = 3 then (if Wd.maskV W (vlV W s i.a + vlV W s i.b) < c then ({ s with m := s.m.set (Wd.maskV W (vlV W s i.a + vlV W s i.b)).toNat (s.reg i.d), pc := s.pc + 1 }, [⟨2, Wd.maskV W (vlV W s i.a + vlV W s i.b)⟩], 0) else (s, [], 2))
  else if i.kind = 5 then (if Wd.doV W i.op (vlV W s i.a) (vlV W s i.b) = 0 then (s.go (s.pc + 1), [⟨3, s.pc + 1⟩], 0) else (s.go i.tg, [⟨3, i.tg⟩], 0))
  else if i.kind = 6 then (s.go i.tg, [], 0)
  else if i.kind = 7 then (s.go (if len < vlV W s i.a then len else vlV W s i.a), [⟨3, if len < vlV W s i.a then len else vlV W s i.a⟩], 0)
  else if i.kind = 8 then (if 4 ≤ s.st.length then (s, [], 2) else ({ s with st := s.st ++ [s.pc + 1], pc := i.tg }, [], 0))
  else if i.kind = 9 then (if s.st.length = 0 then (s, [], 2) else ({ s with st := s.st.take (s.st.length - 1), pc := s.st.getD (s.st.length - 1) 0 }, [⟨3, s.st.getD (s.st.length - 1) 0⟩], 0))
  else if i.kind = 10 then (s.go (s.pc + 1), [], 0)
  else if i.kind = 11 then (s, [], 1)
  else (s, [], 2)
/-- a machine's cells, its rows its own -/
def mcO (p : Pg) (c : Int) (s : S8) (sn : List Ob) : List AV := mcA p c s (.own 2 0 1 0 s.m.length) (.own 3 0 1 0 s.st.length) (.own 4 0 2 0 sn.length)
def runS (p : Pg) (c : Int) (s : S8) (sn : List Ob) (n done e : Int) : Sm := ⟨[(2, .int .i64 n), (6, .bptr 0 0), (10, .bptr 1 0), (11, .int .i64 done), (12, .int .i64 e)],
  [(0, bx 31 (stZ .nils)), (1, bx 79 (mcO p c s sn)), (2, blkI s.m), (3, blkI s.st), (4, obB sn)], 5⟩
def frS8b0 (s : S8) (sn : List Ob) (n : Int) (done : Int) (Z : Prop) : Prop := (List.length (S8.st s) = List.length (S8.st s)) ∧ (∀ (i : Nat), i < List.length (S8.st s) → ∀ (j : Nat), j < (1 : Nat) → AV.int IntKind.i64 (List.getD (S8.st s) i (0 : Int)) = AV.int IntKind.i64 (List.getD (S8.st s) i (0 : Int))) ∧ (List.length sn = List.length sn) ∧ (∀ (i : Nat), i < List.length sn → ∀ (j : Nat), j < (2 : Nat) → rowL obC sn i j = rowL obC sn i j) ∧ (n = n) ∧ (done + (1 : Int) = done + (1 : Int)) ∧ ((0 : Int) = (0 : Int)) ∧ Z
theorem frS8b0_mk (s : S8) (sn : List Ob) (n : Int) (done : Int) {Z : Prop} (z : Z) : frS8b0 s sn n done Z := ⟨rfl, (fun _ _ _ _ => rfl), rfl, (fun _ _ _ _ => rfl), rfl, rfl, rfl, z⟩
def frS8b1 (s : S8) (sn : List Ob) (Z : Prop) : Prop := ((0 : Nat) = (0 : Nat)) ∧ (List.length (S8.m s) = List.length (S8.m s)) ∧ ((0 : Nat) = (0 : Nat)) ∧ (List.length (S8.st s) = List.length (S8.st s)) ∧ (S8.pc s + (1 : Int) = S8.pc s + (1 : Int)) ∧ ((0 : Nat) = (0 : Nat)) ∧ (List.length sn = List.length sn) ∧ (List.length (S8.m s) = List.length (S8.m s)) ∧ (∀ (i : Nat), i < List.length (S8.m s) → ∀ (j : Nat), j < (1 : Nat) → AV.int IntKind.i64 (List.getD (S8.m s) i (0 : Int)) = AV.int IntKind.i64 (List.getD (S8.m s) i (0 : Int))) ∧ Z
theorem frS8b1_mk (s : S8) (sn : List Ob) {Z : Prop} (z : Z) : frS8b1 s sn Z := ⟨rfl, rfl, rfl, rfl, rfl, rfl, rfl, rfl, (fun _ _ _ _ => rfl), z⟩
def frS8b2 (p : Pg) (Z : Prop) : Prop := (Pg.r1 p = Pg.r1 p) ∧ (Pg.r2 p = Pg.r2 p) ∧ (Pg.r3 p = Pg.r3 p) ∧ (List.length (Pg.ms p) = List.length (Pg.ms p)) ∧ (∀ (i : Nat), i < List.length (Pg.ms p) → ∀ (j : Nat), j < (3 : Nat) → rowL mmC (Pg.ms p) i j = rowL mmC (Pg.ms p) i j) ∧ (List.length (Pg.ls p) = List.length (Pg.ls p)) ∧ (∀ (i : Nat), i < List.length (Pg.ls p) → ∀ (j : Nat), j < (2 : Nat) → rowL lbC (Pg.ls p) i j = rowL lbC (Pg.ls p) i j) ∧ (List.length (Pg.is p) = List.length (Pg.is p)) ∧ (∀ (i : Nat), i < List.length (Pg.is p) → ∀ (j : Nat), j < (9 : Nat) → rowL inC (Pg.is p) i j = rowL inC (Pg.is p) i j) ∧ Z
theorem frS8b2_mk (p : Pg) {Z : Prop} (z : Z) : frS8b2 p Z := ⟨rfl, rfl, rfl, rfl, (fun _ _ _ _ => rfl), rfl, (fun _ _ _ _ => rfl), rfl, (fun _ _ _ _ => rfl), z⟩
def frS8b3 (p : Pg) (Z : Prop) : Prop := ((0 : Int) = (0 : Int)) ∧ ((0 : Int) = (0 : Int)) ∧ ((0 : Int) = (0 : Int)) ∧ ((0 : Int) = (0 : Int)) ∧ ((0 : Int) = (0 : Int)) ∧ (Pg.W p = Pg.W p) ∧ (Pg.win p = Pg.win p) ∧ (Pg.fuel p = Pg.fuel p) ∧ (Pg.r0 p = Pg.r0 p) ∧ Z
theorem frS8b3_mk (p : Pg) {Z : Prop} (z : Z) : frS8b3 p Z := ⟨rfl, rfl, rfl, rfl, rfl, rfl, rfl, rfl, rfl, z⟩
def frS8b4 (n : Int) (op : Int) (d : Int) (tg : Int) (a : Vl) (b : Vl) (nm : ByteArray) (Z : Prop) : Prop := (op = op) ∧ (d = d) ∧ (Vl.reg a = Vl.reg a) ∧ (Vl.n a = Vl.n a) ∧ (Vl.reg b = Vl.reg b) ∧ (Vl.n b = Vl.n b) ∧ (nm = nm) ∧ (tg = tg) ∧ Z
theorem frS8b4_mk (n : Int) (op : Int) (d : Int) (tg : Int) (a : Vl) (b : Vl) (nm : ByteArray) {Z : Prop} (z : Z) : frS8b4 n op d tg a b nm Z := ⟨rfl, rfl, rfl, rfl, rfl, rfl, rfl, rfl, z⟩
def frS8b5 (p : Pg) (c : Int) (s : S8) (Z : Prop) : Prop := (List.length (Pg.ls p) = List.length (Pg.ls p)) ∧ (∀ (i : Nat), i < List.length (Pg.ls p) → ∀ (j : Nat), j < (2 : Nat) → rowL lbC (Pg.ls p) i j = rowL lbC (Pg.ls p) i j) ∧ (List.length (Pg.is p) = List.length (Pg.is p)) ∧ (∀ (i : Nat), i < List.length (Pg.is p) → ∀ (j : Nat), j < (9 : Nat) → rowL inC (Pg.is p) i j = rowL inC (Pg.is p) i j) ∧ (c = c) ∧ (S8.r0 s = S8.r0 s) ∧ (S8.r1 s = S8.r1 s) ∧ (S8.r2 s = S8.r2 s) ∧ (S8.r3 s = S8.r3 s) ∧ Z
theorem frS8b5_mk (p : Pg) (c : Int) (s : S8) {Z : Prop} (z : Z) : frS8b5 p c s Z := ⟨rfl, (fun _ _ _ _ => rfl), rfl, (fun _ _ _ _ => rfl), rfl, rfl, rfl, rfl, rfl, z⟩
def frS8b6 (p : Pg) (Z : Prop) : Prop := (Pg.W p = Pg.W p) ∧ (Pg.win p = Pg.win p) ∧ (Pg.fuel p = Pg.fuel p) ∧ (Pg.r0 p = Pg.r0 p) ∧ (Pg.r1 p = Pg.r1 p) ∧ (Pg.r2 p = Pg.r2 p) ∧ (Pg.r3 p = Pg.r3 p) ∧ (List.length (Pg.ms p) = List.length (Pg.ms p)) ∧ (∀ (i : Nat), i < List.length (Pg.ms p) → ∀ (j : Nat), j < (3 : Nat) → rowL mmC (Pg.ms p) i j = rowL mmC (Pg.ms p) i j) ∧ Z
theorem frS8b6_mk (p : Pg) {Z : Prop} (z : Z) : frS8b6 p Z := ⟨rfl, rfl, rfl, rfl, rfl, rfl, rfl, rfl, (fun _ _ _ _ => rfl), z⟩
def frS8b7 (p : Pg) (s : S8) (Z : Prop) : Prop := (List.length (Pg.ls p) = List.length (Pg.ls p)) ∧ (∀ (i : Nat), i < List.length (Pg.ls p) → ∀ (j : Nat), j < (2 : Nat) → rowL lbC (Pg.ls p) i j = rowL lbC (Pg.ls p) i j) ∧ (List.length (Pg.is p) = List.length (Pg.is p)) ∧ (∀ (i : Nat), i < List.length (Pg.is p) → ∀ (j : Nat), j < (9 : Nat) → rowL inC (Pg.is p) i j = rowL inC (Pg.is p) i j) ∧ (S8.pc s = S8.pc s) ∧ Z
theorem frS8b7_mk (p : Pg) (s : S8) {Z : Prop} (z : Z) : frS8b7 p s Z := ⟨rfl, (fun _ _ _ _ => rfl), rfl, (fun _ _ _ _ => rfl), rfl, z⟩
theorem st_alu (p : Pg) (c : Int) (s : S8) (sn : List Ob) (n done : Int) (op d tg : Int) (a b : Vl) (nm : ByteArray) (hn : done < n) (hn2 : n < 1000000) (hd0 : 0 ≤ done) (hp0 : -1 ≤ s.pc) (hp1 : s.pc < 1000000) (hA : PureC Try.prog 23 [.agg (pgA p), .int .i64 s.pc] (.agg (inA (⟨1, op, d, a, b, nm, tg⟩ : In))) []) (h0 : 0 ≤ d) (h1 : d < 4) (ha : okV a) (hb : okV b) : Vc (vcC Try.prog false (ntOf Try.prog 19) (lpC Try.prog 19 0) (runS p c s sn n done 0) [.b true, .b true, .b true, .inl, .cl [.agg (pgA p), .int .i64 s.pc] (.agg (inA (⟨1, op, d, a, b, nm, tg⟩ : In))) [], .fz, .cp [(mcP p c s .junk .junk .junk), .agg (inA (⟨1, op, d, a, b, nm, tg⟩ : In))] (.int .i64 (Wd.doV p.W op (vlV p.W s a) (vlV p.W s b))), .b true, .b true, .b true, .b true, .iz, .sv (mcO p c (s.set d (Wd.doV p.W op (vlV p.W s a) (vlV p.W s b))) sn)] .nrm [(0, 0), (1, 1), (2, 2), (3, 3), (4, 4)] (runS p c ((s.set d (Wd.doV p.W op (vlV p.W s a) (vlV p.W s b))).go (s.pc + 1)) sn n (done + 1) 0)) :=
  vc_of (q := (decide (done < n) = true) ∧ (decide (done < n) = true) ∧ (decide (done < n) = true) ∧ (frS8b6 p ((frS8b7 p s ((PureC Try.prog 23 [.agg (pgA p), .int .i64 s.pc] (.agg (inA (⟨1, op, d, a, b, nm, tg⟩ : In))) []) ∧ (frS8b6 p ((frS8b5 p c s ((S8.pc s = S8.pc s) ∧ ((1 : Int) = (1 : Int)) ∧ (frS8b4 n op d tg a b nm ((PureC Try.prog 73 [(mcP p c s .junk .junk .junk), .agg (inA (⟨1, op, d, a, b, nm, tg⟩ : In))] (.int .i64 (Wd.doV p.W op (vlV p.W s a) (vlV p.W s b))) []) ∧ (decide ((0 : Int) ≤ d) = true) ∧ (decide ((0 : Int) ≤ d) = true) ∧ (decide ((0 : Int) ≤ d) = true) ∧ (decide (d < (4 : Int)) = true) ∧ ((0 : Int) ≤ d ∧ d < (↑(4 : Nat) : Int)) ∧ ((11 : Nat) + Int.toNat d * (1 : Nat) + (1 : Nat) ≤ (19 : Nat)) ∧ (setR [AV.int IntKind.i64 (Pg.W p), AV.int IntKind.i64 (Pg.win p), AV.int IntKind.i64 (Pg.fuel p), AV.int IntKind.i64 (Pg.r0 p), AV.int IntKind.i64 (Pg.r1 p), AV.int IntKind.i64 (Pg.r2 p), AV.int IntKind.i64 (Pg.r3 p), AV.row (nat_lit 3) (List.length (Pg.ms p)) fun (a a_1 : Nat) => rowL mmC (Pg.ms p) a a_1, AV.row (nat_lit 2) (List.length (Pg.ls p)) fun (a a_1 : Nat) => rowL lbC (Pg.ls p) a a_1, AV.row (nat_lit 9) (List.length (Pg.is p)) fun (a a_1 : Nat) => rowL inC (Pg.is p) a a_1, AV.int IntKind.i64 c, AV.int IntKind.i64 (S8.r0 s), AV.int IntKind.i64 (S8.r1 s), AV.int IntKind.i64 (S8.r2 s), AV.int IntKind.i64 (S8.r3 s), AV.own (nat_lit 2) (nat_lit 0) (nat_lit 1) (nat_lit 0) (List.length (S8.m s)), AV.own (nat_lit 3) (nat_lit 0) (nat_lit 1) (nat_lit 0) (List.length (S8.st s)), AV.int IntKind.i64 (S8.pc s), AV.own (nat_lit 4) (nat_lit 0) (nat_lit 2) (nat_lit 0) (List.length sn)] ((11 : Nat) + Int.toNat d * (1 : Nat)) [AV.int IntKind.i64 (Wd.doV (Pg.W p) op (vlV (Pg.W p) s a) (vlV (Pg.W p) s b))] = [AV.int IntKind.i64 (Pg.W p), AV.int IntKind.i64 (Pg.win p), AV.int IntKind.i64 (Pg.fuel p), AV.int IntKind.i64 (Pg.r0 p), AV.int IntKind.i64 (Pg.r1 p), AV.int IntKind.i64 (Pg.r2 p), AV.int IntKind.i64 (Pg.r3 p), AV.row (nat_lit 3) (List.length (Pg.ms p)) fun (a a_1 : Nat) => rowL mmC (Pg.ms p) a a_1, AV.row (nat_lit 2) (List.length (Pg.ls p)) fun (a a_1 : Nat) => rowL lbC (Pg.ls p) a a_1, AV.row (nat_lit 9) (List.length (Pg.is p)) fun (a a_1 : Nat) => rowL inC (Pg.is p) a a_1, AV.int IntKind.i64 c, AV.int IntKind.i64 (if d = (0 : Int) then Wd.doV (Pg.W p) op (vlV (Pg.W p) s a) (vlV (Pg.W p) s b) else S8.r0 s), AV.int IntKind.i64 (if d = (1 : Int) then Wd.doV (Pg.W p) op (vlV (Pg.W p) s a) (vlV (Pg.W p) s b) else S8.r1 s), AV.int IntKind.i64 (if d = (2 : Int) then Wd.doV (Pg.W p) op (vlV (Pg.W p) s a) (vlV (Pg.W p) s b) else S8.r2 s), AV.int IntKind.i64 (if d = (3 : Int) then Wd.doV (Pg.W p) op (vlV (Pg.W p) s a) (vlV (Pg.W p) s b) else S8.r3 s), AV.own (nat_lit 2) (nat_lit 0) (nat_lit 1) (nat_lit 0) (List.length (S8.m s)), AV.own (nat_lit 3) (nat_lit 0) (nat_lit 1) (nat_lit 0) (List.length (S8.st s)), AV.int IntKind.i64 (S8.pc s), AV.own (nat_lit 4) (nat_lit 0) (nat_lit 2) (nat_lit 0) (List.length sn)]) ∧ (inK IntKind.i64 (S8.pc s + (1 : Int))) ∧ (inK IntKind.i64 (done + (1 : Int))) ∧ (frS8b3 p ((frS8b2 p ((c = c) ∧ ((if d = (0 : Int) then Wd.doV (Pg.W p) op (vlV (Pg.W p) s a) (vlV (Pg.W p) s b) else S8.r0 s) = if d = (0 : Int) then Wd.doV (Pg.W p) op (vlV (Pg.W p) s a) (vlV (Pg.W p) s b) else S8.r0 s) ∧ ((if d = (1 : Int) then Wd.doV (Pg.W p) op (vlV (Pg.W p) s a) (vlV (Pg.W p) s b) else S8.r1 s) = if d = (1 : Int) then Wd.doV (Pg.W p) op (vlV (Pg.W p) s a) (vlV (Pg.W p) s b) else S8.r1 s) ∧ ((if d = (2 : Int) then Wd.doV (Pg.W p) op (vlV (Pg.W p) s a) (vlV (Pg.W p) s b) else S8.r2 s) = if d = (2 : Int) then Wd.doV (Pg.W p) op (vlV (Pg.W p) s a) (vlV (Pg.W p) s b) else S8.r2 s) ∧ ((if d = (3 : Int) then Wd.doV (Pg.W p) op (vlV (Pg.W p) s a) (vlV (Pg.W p) s b) else S8.r3 s) = if d = (3 : Int) then Wd.doV (Pg.W p) op (vlV (Pg.W p) s a) (vlV (Pg.W p) s b) else S8.r3 s) ∧ (frS8b1 s sn ((frS8b0 s sn n done (True))))))))))))))))))) (by kernel_rfl)
    ⟨(decide_eq_true (by first | omega | (simp; omega) | (simp; done))),
 (decide_eq_true (by first | omega | (simp; omega) | (simp; done))),
 (decide_eq_true (by first | omega | (simp; omega) | (simp; done))), (frS8b6_mk p (frS8b7_mk p s ⟨hA, (frS8b6_mk p (frS8b5_mk p c s ⟨rfl,
 rfl, (frS8b4_mk n op d tg a b nm ⟨mdoC p c s (⟨1, op, d, a, b, nm, tg⟩ : In) ha hb,
 (decide_eq_true (by first | omega | (simp; omega) | (simp; done))),
 (decide_eq_true (by first | omega | (simp; omega) | (simp; done))),
 (decide_eq_true (by first | omega | (simp; omega) | (simp; done))),
 (decide_eq_true (by first | omega | (simp; omega) | (simp; done))),
 (by first | omega | rfl),
 (by first | omega | rfl),
 (by rcases four h0 h1 with rfl | rfl | rfl | rfl <;> rfl),
 (in64 (by omega) (by omega)),
 (in64 (by omega) (by omega)), (frS8b3_mk p (frS8b2_mk p ⟨rfl,
 (by first | omega | rfl | (simp; done) | (simp; omega)),
 (by first | omega | rfl | (simp; done) | (simp; omega)),
 (by first | omega | rfl | (simp; done) | (simp; omega)),
 (by first | omega | rfl | (simp; done) | (simp; omega)), (frS8b1_mk s sn (frS8b0_mk s sn n done trivial))⟩))⟩)⟩))⟩))⟩
def frS8b8 (s : S8) (sn : List Ob) (Z : Prop) : Prop := (S8.pc s + (1 : Int) = S8.pc s + (1 : Int)) ∧ ((0 : Nat) = (0 : Nat)) ∧ (List.length sn = List.length sn) ∧ (List.length (S8.m s) = List.length (S8.m s)) ∧ (∀ (i : Nat), i < List.length (S8.m s) → ∀ (j : Nat), j < (1 : Nat) → AV.int IntKind.i64 (List.getD (S8.m s) i (0 : Int)) = AV.int IntKind.i64 (List.getD (S8.m s) i (0 : Int))) ∧ (List.length (S8.st s) = List.length (S8.st s)) ∧ (∀ (i : Nat), i < List.length (S8.st s) → ∀ (j : Nat), j < (1 : Nat) → AV.int IntKind.i64 (List.getD (S8.st s) i (0 : Int)) = AV.int IntKind.i64 (List.getD (S8.st s) i (0 : Int))) ∧ (List.length sn = List.length sn) ∧ (∀ (i : Nat), i < List.length sn → ∀ (j : Nat), j < (2 : Nat) → rowL obC sn i j = rowL obC sn i j) ∧ Z
theorem frS8b8_mk (s : S8) (sn : List Ob) {Z : Prop} (z : Z) : frS8b8 s sn Z := ⟨rfl, rfl, rfl, rfl, (fun _ _ _ _ => rfl), rfl, (fun _ _ _ _ => rfl), rfl, (fun _ _ _ _ => rfl), z⟩
def frS8b9 (c : Int) (s : S8) (Z : Prop) : Prop := (c = c) ∧ (S8.r0 s = S8.r0 s) ∧ (S8.r1 s = S8.r1 s) ∧ (S8.r2 s = S8.r2 s) ∧ (S8.r3 s = S8.r3 s) ∧ ((0 : Nat) = (0 : Nat)) ∧ (List.length (S8.m s) = List.length (S8.m s)) ∧ ((0 : Nat) = (0 : Nat)) ∧ (List.length (S8.st s) = List.length (S8.st s)) ∧ Z
theorem frS8b9_mk (c : Int) (s : S8) {Z : Prop} (z : Z) : frS8b9 c s Z := ⟨rfl, rfl, rfl, rfl, rfl, rfl, rfl, rfl, rfl, z⟩
theorem st_cmov0 (p : Pg) (c : Int) (s : S8) (sn : List Ob) (n done : Int) (op d tg : Int) (a b : Vl) (nm : ByteArray) (hn : done < n) (hn2 : n < 1000000) (hd0 : 0 ≤ done) (hp0 : -1 ≤ s.pc) (hp1 : s.pc < 1000000) (hA : PureC Try.prog 23 [.agg (pgA p), .int .i64 s.pc] (.agg (inA (⟨4, op, d, a, b, nm, tg⟩ : In))) []) (ha : okV a) (hz : (vlV p.W s a) = 0) : Vc (vcC Try.prog false (ntOf Try.prog 19) (lpC Try.prog 19 0) (runS p c s sn n done 0) [.b true, .b true, .b true, .inl, .cl [.agg (pgA p), .int .i64 s.pc] (.agg (inA (⟨4, op, d, a, b, nm, tg⟩ : In))) [], .inl, .fz, .cp [(mcP p c s .junk .junk .junk), .agg (vlA a)] (.int .i64 (vlV p.W s a)), .b false] .nrm [(0, 0), (1, 1), (2, 2), (3, 3), (4, 4)] (runS p c (s.go (s.pc + 1)) sn n (done + 1) 0)) :=
  vc_of (q := (decide (done < n) = true) ∧ (decide (done < n) = true) ∧ (decide (done < n) = true) ∧ (frS8b6 p ((frS8b7 p s ((PureC Try.prog 23 [.agg (pgA p), .int .i64 s.pc] (.agg (inA (⟨4, op, d, a, b, nm, tg⟩ : In))) []) ∧ (frS8b6 p ((frS8b5 p c s ((S8.pc s = S8.pc s) ∧ (Vl.reg a = Vl.reg a) ∧ (Vl.n a = Vl.n a) ∧ (PureC Try.prog 62 [(mcP p c s .junk .junk .junk), .agg (vlA a)] (.int .i64 (vlV p.W s a)) []) ∧ ((vlV (Pg.W p) s a != (0 : Int)) = false) ∧ (inK IntKind.i64 (S8.pc s + (1 : Int))) ∧ (inK IntKind.i64 (done + (1 : Int))) ∧ (frS8b3 p ((frS8b2 p ((frS8b9 c s ((frS8b8 s sn ((n = n) ∧ (done + (1 : Int) = done + (1 : Int)) ∧ ((0 : Int) = (0 : Int)) ∧ True))))))))))))))))) (by kernel_rfl)
    ⟨(decide_eq_true (by first | omega | (simp; omega) | (simp; done))),
 (decide_eq_true (by first | omega | (simp; omega) | (simp; done))),
 (decide_eq_true (by first | omega | (simp; omega) | (simp; done))), (frS8b6_mk p (frS8b7_mk p s ⟨hA, (frS8b6_mk p (frS8b5_mk p c s ⟨rfl,
 rfl,
 rfl,
 valC p c s a ha,
 (by rw [hz]; rfl),
 (in64 (by omega) (by omega)),
 (in64 (by omega) (by omega)), (frS8b3_mk p (frS8b2_mk p (frS8b9_mk c s (frS8b8_mk s sn ⟨rfl,
 rfl,
 rfl, trivial⟩))))⟩))⟩))⟩
theorem st_cmov1 (p : Pg) (c : Int) (s : S8) (sn : List Ob) (n done : Int) (op d tg : Int) (a b : Vl) (nm : ByteArray) (hn : done < n) (hn2 : n < 1000000) (hd0 : 0 ≤ done) (hp0 : -1 ≤ s.pc) (hp1 : s.pc < 1000000) (hA : PureC Try.prog 23 [.agg (pgA p), .int .i64 s.pc] (.agg (inA (⟨4, op, d, a, b, nm, tg⟩ : In))) []) (ha : okV a) (hb : okV b) (hz : ¬ (vlV p.W s a) = 0) (h0 : 0 ≤ d) (h1 : d < 4) : Vc (vcC Try.prog false (ntOf Try.prog 19) (lpC Try.prog 19 0) (runS p c s sn n done 0) [.b true, .b true, .b true, .inl, .cl [.agg (pgA p), .int .i64 s.pc] (.agg (inA (⟨4, op, d, a, b, nm, tg⟩ : In))) [], .inl, .fz, .cp [(mcP p c s .junk .junk .junk), .agg (vlA a)] (.int .i64 (vlV p.W s a)), .b true, .cp [(mcP p c s .junk .junk .junk), .agg (vlA b)] (.int .i64 (vlV p.W s b)), .b true, .b true, .b true, .b true, .iz, .sv (mcO p c (s.set d (vlV p.W s b)) sn)] .nrm [(0, 0), (1, 1), (2, 2), (3, 3), (4, 4)] (runS p c ((s.set d (vlV p.W s b)).go (s.pc + 1)) sn n (done + 1) 0)) :=
  vc_of (q := (decide (done < n) = true) ∧ (decide (done < n) = true) ∧ (decide (done < n) = true) ∧ (frS8b6 p ((frS8b7 p s ((PureC Try.prog 23 [.agg (pgA p), .int .i64 s.pc] (.agg (inA (⟨4, op, d, a, b, nm, tg⟩ : In))) []) ∧ (frS8b6 p ((frS8b5 p c s ((S8.pc s = S8.pc s) ∧ (Vl.reg a = Vl.reg a) ∧ (Vl.n a = Vl.n a) ∧ (PureC Try.prog 62 [(mcP p c s .junk .junk .junk), .agg (vlA a)] (.int .i64 (vlV p.W s a)) []) ∧ ((vlV (Pg.W p) s a != (0 : Int)) = true) ∧ (frS8b6 p ((frS8b5 p c s ((S8.pc s = S8.pc s) ∧ (Vl.reg b = Vl.reg b) ∧ (Vl.n b = Vl.n b) ∧ (PureC Try.prog 62 [(mcP p c s .junk .junk .junk), .agg (vlA b)] (.int .i64 (vlV p.W s b)) []) ∧ (decide ((0 : Int) ≤ d) = true) ∧ (decide ((0 : Int) ≤ d) = true) ∧ (decide ((0 : Int) ≤ d) = true) ∧ (decide (d < (4 : Int)) = true) ∧ ((0 : Int) ≤ d ∧ d < (↑(4 : Nat) : Int)) ∧ ((11 : Nat) + Int.toNat d * (1 : Nat) + (1 : Nat) ≤ (19 : Nat)) ∧ (setR [AV.int IntKind.i64 (Pg.W p), AV.int IntKind.i64 (Pg.win p), AV.int IntKind.i64 (Pg.fuel p), AV.int IntKind.i64 (Pg.r0 p), AV.int IntKind.i64 (Pg.r1 p), AV.int IntKind.i64 (Pg.r2 p), AV.int IntKind.i64 (Pg.r3 p), AV.row (nat_lit 3) (List.length (Pg.ms p)) fun (a a_1 : Nat) => rowL mmC (Pg.ms p) a a_1, AV.row (nat_lit 2) (List.length (Pg.ls p)) fun (a a_1 : Nat) => rowL lbC (Pg.ls p) a a_1, AV.row (nat_lit 9) (List.length (Pg.is p)) fun (a a_1 : Nat) => rowL inC (Pg.is p) a a_1, AV.int IntKind.i64 c, AV.int IntKind.i64 (S8.r0 s), AV.int IntKind.i64 (S8.r1 s), AV.int IntKind.i64 (S8.r2 s), AV.int IntKind.i64 (S8.r3 s), AV.own (nat_lit 2) (nat_lit 0) (nat_lit 1) (nat_lit 0) (List.length (S8.m s)), AV.own (nat_lit 3) (nat_lit 0) (nat_lit 1) (nat_lit 0) (List.length (S8.st s)), AV.int IntKind.i64 (S8.pc s), AV.own (nat_lit 4) (nat_lit 0) (nat_lit 2) (nat_lit 0) (List.length sn)] ((11 : Nat) + Int.toNat d * (1 : Nat)) [AV.int IntKind.i64 (vlV (Pg.W p) s b)] = [AV.int IntKind.i64 (Pg.W p), AV.int IntKind.i64 (Pg.win p), AV.int IntKind.i64 (Pg.fuel p), AV.int IntKind.i64 (Pg.r0 p), AV.int IntKind.i64 (Pg.r1 p), AV.int IntKind.i64 (Pg.r2 p), AV.int IntKind.i64 (Pg.r3 p), AV.row (nat_lit 3) (List.length (Pg.ms p)) fun (a a_1 : Nat) => rowL mmC (Pg.ms p) a a_1, AV.row (nat_lit 2) (List.length (Pg.ls p)) fun (a a_1 : Nat) => rowL lbC (Pg.ls p) a a_1, AV.row (nat_lit 9) (List.length (Pg.is p)) fun (a a_1 : Nat) => rowL inC (Pg.is p) a a_1, AV.int IntKind.i64 c, AV.int IntKind.i64 (if d = (0 : Int) then vlV (Pg.W p) s b else S8.r0 s), AV.int IntKind.i64 (if d = (1 : Int) then vlV (Pg.W p) s b else S8.r1 s), AV.int IntKind.i64 (if d = (2 : Int) then vlV (Pg.W p) s b else S8.r2 s), AV.int IntKind.i64 (if d = (3 : Int) then vlV (Pg.W p) s b else S8.r3 s), AV.own (nat_lit 2) (nat_lit 0) (nat_lit 1) (nat_lit 0) (List.length (S8.m s)), AV.own (nat_lit 3) (nat_lit 0) (nat_lit 1) (nat_lit 0) (List.length (S8.st s)), AV.int IntKind.i64 (S8.pc s), AV.own (nat_lit 4) (nat_lit 0) (nat_lit 2) (nat_lit 0) (List.length sn)]) ∧ (inK IntKind.i64 (S8.pc s + (1 : Int))) ∧ (inK IntKind.i64 (done + (1 : Int))) ∧ (frS8b3 p ((frS8b2 p ((c = c) ∧ ((if d = (0 : Int) then vlV (Pg.W p) s b else S8.r0 s) = if d = (0 : Int) then vlV (Pg.W p) s b else S8.r0 s) ∧ ((if d = (1 : Int) then vlV (Pg.W p) s b else S8.r1 s) = if d = (1 : Int) then vlV (Pg.W p) s b else S8.r1 s) ∧ ((if d = (2 : Int) then vlV (Pg.W p) s b else S8.r2 s) = if d = (2 : Int) then vlV (Pg.W p) s b else S8.r2 s) ∧ ((if d = (3 : Int) then vlV (Pg.W p) s b else S8.r3 s) = if d = (3 : Int) then vlV (Pg.W p) s b else S8.r3 s) ∧ (frS8b1 s sn ((frS8b0 s sn n done (True))))))))))))))))))))) (by kernel_rfl)
    ⟨(decide_eq_true (by first | omega | (simp; omega) | (simp; done))),
 (decide_eq_true (by first | omega | (simp; omega) | (simp; done))),
 (decide_eq_true (by first | omega | (simp; omega) | (simp; done))), (frS8b6_mk p (frS8b7_mk p s ⟨hA, (frS8b6_mk p (frS8b5_mk p c s ⟨rfl,
 rfl,
 rfl,
 valC p c s a ha,
 (bne_iff_ne.2 hz), (frS8b6_mk p (frS8b5_mk p c s ⟨rfl,
 rfl,
 rfl,
 valC p c s b hb,
 (decide_eq_true (by first | omega | (simp; omega) | (simp; done))),
 (decide_eq_true (by first | omega | (simp; omega) | (simp; done))),
 (decide_eq_true (by first | omega | (simp; omega) | (simp; done))),
 (decide_eq_true (by first | omega | (simp; omega) | (simp; done))),
 (by first | omega | rfl),
 (by first | omega | rfl),
 (by rcases four h0 h1 with rfl | rfl | rfl | rfl <;> rfl),
 (in64 (by omega) (by omega)),
 (in64 (by omega) (by omega)), (frS8b3_mk p (frS8b2_mk p ⟨rfl,
 (by first | omega | rfl | (simp; done) | (simp; omega)),
 (by first | omega | rfl | (simp; done) | (simp; omega)),
 (by first | omega | rfl | (simp; done) | (simp; omega)),
 (by first | omega | rfl | (simp; done) | (simp; omega)), (frS8b1_mk s sn (frS8b0_mk s sn n done trivial))⟩))⟩))⟩))⟩))⟩
theorem snocI {l : List Int} {x : Int} : ∀ i, i < l.length + 1 → ∀ j, j < 1 → (bif Nat.blt i l.length then AV.int .i64 (l.getD i 0) else [AV.int .i64 x].getD ((i - l.length) * 1 + j) .junk) = .int .i64 ((l ++ [x]).getD i 0) := by
  intro i hi j hj
  obtain rfl : j = 0 := by omega
  by_cases h : i < l.length
  · have : Nat.blt i l.length = true := by rw [Nat.blt_eq]; exact h
    rw [this]
    simp [List.getD, List.getElem?_append_left h]
  · obtain rfl : i = l.length := by omega
    have : Nat.blt l.length l.length = false := by
      cases hb : Nat.blt l.length l.length with
      | false => rfl
      | true => rw [Nat.blt_eq] at hb; omega
    rw [this]
    simp [List.getD]
def frS8b10 (s : S8) (sn : List Ob) (Z : Prop) : Prop := (S8.pc s = S8.pc s) ∧ ((0 : Nat) = (0 : Nat)) ∧ (List.length sn = List.length sn) ∧ (List.length (S8.m s) = List.length (S8.m s)) ∧ (∀ (i : Nat), i < List.length (S8.m s) → ∀ (j : Nat), j < (1 : Nat) → AV.int IntKind.i64 (List.getD (S8.m s) i (0 : Int)) = AV.int IntKind.i64 (List.getD (S8.m s) i (0 : Int))) ∧ (List.length (S8.st s) = List.length (S8.st s)) ∧ (∀ (i : Nat), i < List.length (S8.st s) → ∀ (j : Nat), j < (1 : Nat) → AV.int IntKind.i64 (List.getD (S8.st s) i (0 : Int)) = AV.int IntKind.i64 (List.getD (S8.st s) i (0 : Int))) ∧ (List.length sn = List.length sn) ∧ (∀ (i : Nat), i < List.length sn → ∀ (j : Nat), j < (2 : Nat) → rowL obC sn i j = rowL obC sn i j) ∧ Z
theorem frS8b10_mk (s : S8) (sn : List Ob) {Z : Prop} (z : Z) : frS8b10 s sn Z := ⟨rfl, rfl, rfl, rfl, (fun _ _ _ _ => rfl), rfl, (fun _ _ _ _ => rfl), rfl, (fun _ _ _ _ => rfl), z⟩
def frS8b11 (s : S8) (n : Int) (op : Int) (d : Int) (a : Vl) (b : Vl) (nm : ByteArray) (Z : Prop) : Prop := (S8.pc s = S8.pc s) ∧ ((2 : Int) = (2 : Int)) ∧ (op = op) ∧ (d = d) ∧ (Vl.reg a = Vl.reg a) ∧ (Vl.n a = Vl.n a) ∧ (Vl.reg b = Vl.reg b) ∧ (Vl.n b = Vl.n b) ∧ (nm = nm) ∧ Z
theorem frS8b11_mk (s : S8) (n : Int) (op : Int) (d : Int) (a : Vl) (b : Vl) (nm : ByteArray) {Z : Prop} (z : Z) : frS8b11 s n op d a b nm Z := ⟨rfl, rfl, rfl, rfl, rfl, rfl, rfl, rfl, rfl, z⟩
theorem st_load0 (p : Pg) (c : Int) (s : S8) (sn : List Ob) (n done : Int) (op d tg : Int) (a b : Vl) (nm : ByteArray) (hn : done < n) (hn2 : n < 1000000) (hd0 : 0 ≤ done) (hp0 : -1 ≤ s.pc) (hp1 : s.pc < 1000000) (hA : PureC Try.prog 23 [.agg (pgA p), .int .i64 s.pc] (.agg (inA (⟨2, op, d, a, b, nm, tg⟩ : In))) []) (ha : okV a) (hb : okV b) (hc : c = s.m.length) (hs : okR s) (hx : ¬ (Wd.maskV p.W ((vlV p.W s a) + (vlV p.W s b))) < c) : Vc (vcC Try.prog false (ntOf Try.prog 19) (lpC Try.prog 19 0) (runS p c s sn n done 0) [.b true, .b true, .b true, .inl, .cl [.agg (pgA p), .int .i64 s.pc] (.agg (inA (⟨2, op, d, a, b, nm, tg⟩ : In))) [], .inl, .fz, .cp [(mcP p c s .junk .junk .junk), .agg (inA (⟨2, op, d, a, b, nm, tg⟩ : In))] (.tup [.int .i64 (Wd.maskV p.W ((vlV p.W s a) + (vlV p.W s b))), .bool (decide ((Wd.maskV p.W ((vlV p.W s a) + (vlV p.W s b))) < c))]), .b true] .nrm [(0, 0), (1, 1), (2, 2), (3, 3), (4, 4)] (runS p c s sn n (done + 1) 2)) :=
  vc_of (q := (decide (done < n) = true) ∧ (decide (done < n) = true) ∧ (decide (done < n) = true) ∧ (frS8b6 p ((frS8b7 p s ((PureC Try.prog 23 [.agg (pgA p), .int .i64 s.pc] (.agg (inA (⟨2, op, d, a, b, nm, tg⟩ : In))) []) ∧ (frS8b6 p ((frS8b5 p c s ((frS8b11 s n op d a b nm ((tg = tg) ∧ (PureC Try.prog 74 [(mcP p c s .junk .junk .junk), .agg (inA (⟨2, op, d, a, b, nm, tg⟩ : In))] (.tup [.int .i64 (Wd.maskV p.W ((vlV p.W s a) + (vlV p.W s b))), .bool (decide ((Wd.maskV p.W ((vlV p.W s a) + (vlV p.W s b))) < c))]) []) ∧ ((!decide (Wd.maskV (Pg.W p) (vlV (Pg.W p) s a + vlV (Pg.W p) s b) < c)) = true) ∧ (inK IntKind.i64 (done + (1 : Int))) ∧ (frS8b3 p ((frS8b2 p ((frS8b9 c s ((frS8b10 s sn ((n = n) ∧ (done + (1 : Int) = done + (1 : Int)) ∧ ((2 : Int) = (2 : Int)) ∧ True))))))))))))))))))) (by kernel_rfl)
    ⟨(decide_eq_true (by first | omega | (simp; omega) | (simp; done))),
 (decide_eq_true (by first | omega | (simp; omega) | (simp; done))),
 (decide_eq_true (by first | omega | (simp; omega) | (simp; done))), (frS8b6_mk p (frS8b7_mk p s ⟨hA, (frS8b6_mk p (frS8b5_mk p c s (frS8b11_mk s n op d a b nm ⟨rfl,
 madrC p c s (⟨2, op, d, a, b, nm, tg⟩ : In) ha hb hs,
 (by rw [decide_eq_false hx]; rfl),
 (in64 (by omega) (by omega)), (frS8b3_mk p (frS8b2_mk p (frS8b9_mk c s (frS8b10_mk s sn ⟨rfl,
 rfl,
 rfl, trivial⟩))))⟩)))⟩))⟩
theorem st_store0 (p : Pg) (c : Int) (s : S8) (sn : List Ob) (n done : Int) (op d tg : Int) (a b : Vl) (nm : ByteArray) (hn : done < n) (hn2 : n < 1000000) (hd0 : 0 ≤ done) (hp0 : -1 ≤ s.pc) (hp1 : s.pc < 1000000) (hA : PureC Try.prog 23 [.agg (pgA p), .int .i64 s.pc] (.agg (inA (⟨3, op, d, a, b, nm, tg⟩ : In))) []) (ha : okV a) (hb : okV b) (hc : c = s.m.length) (hs : okR s) (hx : ¬ (Wd.maskV p.W ((vlV p.W s a) + (vlV p.W s b))) < c) : Vc (vcC Try.prog false (ntOf Try.prog 19) (lpC Try.prog 19 0) (runS p c s sn n done 0) [.b true, .b true, .b true, .inl, .cl [.agg (pgA p), .int .i64 s.pc] (.agg (inA (⟨3, op, d, a, b, nm, tg⟩ : In))) [], .inl, .fz, .cp [(mcP p c s .junk .junk .junk), .agg (inA (⟨3, op, d, a, b, nm, tg⟩ : In))] (.tup [.int .i64 (Wd.maskV p.W ((vlV p.W s a) + (vlV p.W s b))), .bool (decide ((Wd.maskV p.W ((vlV p.W s a) + (vlV p.W s b))) < c))]), .b true] .nrm [(0, 0), (1, 1), (2, 2), (3, 3), (4, 4)] (runS p c s sn n (done + 1) 2)) :=
  vc_of (q := (decide (done < n) = true) ∧ (decide (done < n) = true) ∧ (decide (done < n) = true) ∧ (frS8b6 p ((frS8b7 p s ((PureC Try.prog 23 [.agg (pgA p), .int .i64 s.pc] (.agg (inA (⟨3, op, d, a, b, nm, tg⟩ : In))) []) ∧ (frS8b6 p ((frS8b5 p c s ((S8.pc s = S8.pc s) ∧ ((3 : Int) = (3 : Int)) ∧ (frS8b4 n op d tg a b nm ((PureC Try.prog 74 [(mcP p c s .junk .junk .junk), .agg (inA (⟨3, op, d, a, b, nm, tg⟩ : In))] (.tup [.int .i64 (Wd.maskV p.W ((vlV p.W s a) + (vlV p.W s b))), .bool (decide ((Wd.maskV p.W ((vlV p.W s a) + (vlV p.W s b))) < c))]) []) ∧ ((!decide (Wd.maskV (Pg.W p) (vlV (Pg.W p) s a + vlV (Pg.W p) s b) < c)) = true) ∧ (inK IntKind.i64 (done + (1 : Int))) ∧ (frS8b3 p ((frS8b2 p ((frS8b9 c s ((frS8b10 s sn ((n = n) ∧ (done + (1 : Int) = done + (1 : Int)) ∧ ((2 : Int) = (2 : Int)) ∧ True))))))))))))))))))) (by kernel_rfl)
    ⟨(decide_eq_true (by first | omega | (simp; omega) | (simp; done))),
 (decide_eq_true (by first | omega | (simp; omega) | (simp; done))),
 (decide_eq_true (by first | omega | (simp; omega) | (simp; done))), (frS8b6_mk p (frS8b7_mk p s ⟨hA, (frS8b6_mk p (frS8b5_mk p c s ⟨rfl,
 rfl, (frS8b4_mk n op d tg a b nm ⟨madrC p c s (⟨3, op, d, a, b, nm, tg⟩ : In) ha hb hs,
 (by rw [decide_eq_false hx]; rfl),
 (in64 (by omega) (by omega)), (frS8b3_mk p (frS8b2_mk p (frS8b9_mk c s (frS8b10_mk s sn ⟨rfl,
 rfl,
 rfl, trivial⟩))))⟩)⟩))⟩))⟩
def frS8b12 (s : S8) (Z : Prop) : Prop := (List.length (S8.m s) = List.length (S8.m s)) ∧ (∀ (i : Nat), i < List.length (S8.m s) → ∀ (j : Nat), j < (1 : Nat) → AV.int IntKind.i64 (List.getD (S8.m s) i (0 : Int)) = AV.int IntKind.i64 (List.getD (S8.m s) i (0 : Int))) ∧ (List.length (S8.st s) = List.length (S8.st s)) ∧ (∀ (i : Nat), i < List.length (S8.st s) → ∀ (j : Nat), j < (1 : Nat) → AV.int IntKind.i64 (List.getD (S8.st s) i (0 : Int)) = AV.int IntKind.i64 (List.getD (S8.st s) i (0 : Int))) ∧ Z
theorem frS8b12_mk (s : S8) {Z : Prop} (z : Z) : frS8b12 s Z := ⟨rfl, (fun _ _ _ _ => rfl), rfl, (fun _ _ _ _ => rfl), z⟩
theorem st_load1 (p : Pg) (c : Int) (s : S8) (sn : List Ob) (n done : Int) (op d tg : Int) (a b : Vl) (nm : ByteArray) (hn : done < n) (hn2 : n < 1000000) (hd0 : 0 ≤ done) (hp0 : -1 ≤ s.pc) (hp1 : s.pc < 1000000) (hA : PureC Try.prog 23 [.agg (pgA p), .int .i64 s.pc] (.agg (inA (⟨2, op, d, a, b, nm, tg⟩ : In))) []) (ha : okV a) (hb : okV b) (hc : c = s.m.length) (hs : okR s) (h0 : 0 ≤ d) (h1 : d < 4) (hx : (Wd.maskV p.W ((vlV p.W s a) + (vlV p.W s b))) < c) (hl : sn.length < 1000000) : Vc (vcC Try.prog false (ntOf Try.prog 19) (lpC Try.prog 19 0) (runS p c s sn n done 0) [.b true, .b true, .b true, .inl, .cl [.agg (pgA p), .int .i64 s.pc] (.agg (inA (⟨2, op, d, a, b, nm, tg⟩ : In))) [], .inl, .fz, .cp [(mcP p c s .junk .junk .junk), .agg (inA (⟨2, op, d, a, b, nm, tg⟩ : In))] (.tup [.int .i64 (Wd.maskV p.W ((vlV p.W s a) + (vlV p.W s b))), .bool (decide ((Wd.maskV p.W ((vlV p.W s a) + (vlV p.W s b))) < c))]), .b false, .inl, .cp [(mcP p c s (.row 1 s.m.length (rowI s.m)) .junk .junk), .int .i64 (Wd.maskV p.W ((vlV p.W s a) + (vlV p.W s b)))] (.int .i64 (s.m.getD (Wd.maskV p.W ((vlV p.W s a) + (vlV p.W s b))).toNat 0)), .b true, .b true, .b true, .b true, .iz, .sv (mcA p c (s.set d (s.m.getD (Wd.maskV p.W ((vlV p.W s a) + (vlV p.W s b))).toNat 0)) (.own 2 0 1 0 s.m.length) (.own 3 0 1 0 s.st.length) (.own 4 1 2 0 (sn.length + 1)))] .nrm [(0, 0), (1, 1), (2, 2), (3, 3), (4, 4)] (runS p c ((s.set d (s.m.getD (Wd.maskV p.W ((vlV p.W s a) + (vlV p.W s b))).toNat 0)).go (s.pc + 1)) (sn ++ [⟨1, (Wd.maskV p.W ((vlV p.W s a) + (vlV p.W s b)))⟩]) n (done + 1) 0)) :=
  vc_of (q := (decide (done < n) = true) ∧ (decide (done < n) = true) ∧ (decide (done < n) = true) ∧ (frS8b6 p ((frS8b7 p s ((PureC Try.prog 23 [.agg (pgA p), .int .i64 s.pc] (.agg (inA (⟨2, op, d, a, b, nm, tg⟩ : In))) []) ∧ (frS8b6 p ((frS8b5 p c s ((frS8b11 s n op d a b nm ((tg = tg) ∧ (PureC Try.prog 74 [(mcP p c s .junk .junk .junk), .agg (inA (⟨2, op, d, a, b, nm, tg⟩ : In))] (.tup [.int .i64 (Wd.maskV p.W ((vlV p.W s a) + (vlV p.W s b))), .bool (decide ((Wd.maskV p.W ((vlV p.W s a) + (vlV p.W s b))) < c))]) []) ∧ ((!decide (Wd.maskV (Pg.W p) (vlV (Pg.W p) s a + vlV (Pg.W p) s b) < c)) = false) ∧ ((0 : Nat) = (0 : Nat) ∧ List.length sn = List.length sn ∧ (List.length sn + (1 : Nat)) * (16 : Nat) ≤ (140737488355328 : Nat) ∧ List.length sn + (1 : Nat) ≤ (140737488355328 : Nat)) ∧ (frS8b6 p ((frS8b5 p c s ((List.length (S8.m s) = List.length (S8.m s)) ∧ (∀ (i : Nat), i < List.length (S8.m s) → ∀ (j : Nat), j < (1 : Nat) → AV.int IntKind.i64 (List.getD (S8.m s) (i + (0 : Nat)) (0 : Int)) = AV.int IntKind.i64 (List.getD (S8.m s) i (0 : Int))) ∧ (S8.pc s = S8.pc s) ∧ (Wd.maskV (Pg.W p) (vlV (Pg.W p) s a + vlV (Pg.W p) s b) = Wd.maskV (Pg.W p) (vlV (Pg.W p) s a + vlV (Pg.W p) s b)) ∧ (PureC Try.prog 76 [(mcP p c s (.row 1 s.m.length (rowI s.m)) .junk .junk), .int .i64 (Wd.maskV p.W ((vlV p.W s a) + (vlV p.W s b)))] (.int .i64 (s.m.getD (Wd.maskV p.W ((vlV p.W s a) + (vlV p.W s b))).toNat 0)) []) ∧ (decide ((0 : Int) ≤ d) = true) ∧ (decide ((0 : Int) ≤ d) = true) ∧ (decide ((0 : Int) ≤ d) = true) ∧ (decide (d < (4 : Int)) = true) ∧ ((0 : Int) ≤ d ∧ d < (↑(4 : Nat) : Int)) ∧ ((11 : Nat) + Int.toNat d * (1 : Nat) + (1 : Nat) ≤ (19 : Nat)) ∧ (setR [AV.int IntKind.i64 (Pg.W p), AV.int IntKind.i64 (Pg.win p), AV.int IntKind.i64 (Pg.fuel p), AV.int IntKind.i64 (Pg.r0 p), AV.int IntKind.i64 (Pg.r1 p), AV.int IntKind.i64 (Pg.r2 p), AV.int IntKind.i64 (Pg.r3 p), AV.row (nat_lit 3) (List.length (Pg.ms p)) fun (a a_1 : Nat) => rowL mmC (Pg.ms p) a a_1, AV.row (nat_lit 2) (List.length (Pg.ls p)) fun (a a_1 : Nat) => rowL lbC (Pg.ls p) a a_1, AV.row (nat_lit 9) (List.length (Pg.is p)) fun (a a_1 : Nat) => rowL inC (Pg.is p) a a_1, AV.int IntKind.i64 c, AV.int IntKind.i64 (S8.r0 s), AV.int IntKind.i64 (S8.r1 s), AV.int IntKind.i64 (S8.r2 s), AV.int IntKind.i64 (S8.r3 s), AV.own (nat_lit 2) (nat_lit 0) (nat_lit 1) (nat_lit 0) (List.length (S8.m s)), AV.own (nat_lit 3) (nat_lit 0) (nat_lit 1) (nat_lit 0) (List.length (S8.st s)), AV.int IntKind.i64 (S8.pc s), AV.own (nat_lit 4) (nat_lit 1) (nat_lit 2) (nat_lit 0) (List.length sn + (1 : Nat))] ((11 : Nat) + Int.toNat d * (1 : Nat)) [AV.int IntKind.i64 (List.getD (S8.m s) (Int.toNat (Wd.maskV (Pg.W p) (vlV (Pg.W p) s a + vlV (Pg.W p) s b))) (0 : Int))] = [AV.int IntKind.i64 (Pg.W p), AV.int IntKind.i64 (Pg.win p), AV.int IntKind.i64 (Pg.fuel p), AV.int IntKind.i64 (Pg.r0 p), AV.int IntKind.i64 (Pg.r1 p), AV.int IntKind.i64 (Pg.r2 p), AV.int IntKind.i64 (Pg.r3 p), AV.row (nat_lit 3) (List.length (Pg.ms p)) fun (a a_1 : Nat) => rowL mmC (Pg.ms p) a a_1, AV.row (nat_lit 2) (List.length (Pg.ls p)) fun (a a_1 : Nat) => rowL lbC (Pg.ls p) a a_1, AV.row (nat_lit 9) (List.length (Pg.is p)) fun (a a_1 : Nat) => rowL inC (Pg.is p) a a_1, AV.int IntKind.i64 c, AV.int IntKind.i64 (if d = (0 : Int) then List.getD (S8.m s) (Int.toNat (Wd.maskV (Pg.W p) (vlV (Pg.W p) s a + vlV (Pg.W p) s b))) (0 : Int) else S8.r0 s), AV.int IntKind.i64 (if d = (1 : Int) then List.getD (S8.m s) (Int.toNat (Wd.maskV (Pg.W p) (vlV (Pg.W p) s a + vlV (Pg.W p) s b))) (0 : Int) else S8.r1 s), AV.int IntKind.i64 (if d = (2 : Int) then List.getD (S8.m s) (Int.toNat (Wd.maskV (Pg.W p) (vlV (Pg.W p) s a + vlV (Pg.W p) s b))) (0 : Int) else S8.r2 s), AV.int IntKind.i64 (if d = (3 : Int) then List.getD (S8.m s) (Int.toNat (Wd.maskV (Pg.W p) (vlV (Pg.W p) s a + vlV (Pg.W p) s b))) (0 : Int) else S8.r3 s), AV.own (nat_lit 2) (nat_lit 0) (nat_lit 1) (nat_lit 0) (List.length (S8.m s)), AV.own (nat_lit 3) (nat_lit 0) (nat_lit 1) (nat_lit 0) (List.length (S8.st s)), AV.int IntKind.i64 (S8.pc s), AV.own (nat_lit 4) (nat_lit 1) (nat_lit 2) (nat_lit 0) (List.length sn + (1 : Nat))]) ∧ (inK IntKind.i64 (S8.pc s + (1 : Int))) ∧ (inK IntKind.i64 (done + (1 : Int))) ∧ (frS8b3 p ((frS8b2 p ((c = c) ∧ ((if d = (0 : Int) then List.getD (S8.m s) (Int.toNat (Wd.maskV (Pg.W p) (vlV (Pg.W p) s a + vlV (Pg.W p) s b))) (0 : Int) else S8.r0 s) = if d = (0 : Int) then List.getD (S8.m s) (Int.toNat (Wd.maskV (Pg.W p) (vlV (Pg.W p) s a + vlV (Pg.W p) s b))) (0 : Int) else S8.r0 s) ∧ ((if d = (1 : Int) then List.getD (S8.m s) (Int.toNat (Wd.maskV (Pg.W p) (vlV (Pg.W p) s a + vlV (Pg.W p) s b))) (0 : Int) else S8.r1 s) = if d = (1 : Int) then List.getD (S8.m s) (Int.toNat (Wd.maskV (Pg.W p) (vlV (Pg.W p) s a + vlV (Pg.W p) s b))) (0 : Int) else S8.r1 s) ∧ ((if d = (2 : Int) then List.getD (S8.m s) (Int.toNat (Wd.maskV (Pg.W p) (vlV (Pg.W p) s a + vlV (Pg.W p) s b))) (0 : Int) else S8.r2 s) = if d = (2 : Int) then List.getD (S8.m s) (Int.toNat (Wd.maskV (Pg.W p) (vlV (Pg.W p) s a + vlV (Pg.W p) s b))) (0 : Int) else S8.r2 s) ∧ ((if d = (3 : Int) then List.getD (S8.m s) (Int.toNat (Wd.maskV (Pg.W p) (vlV (Pg.W p) s a + vlV (Pg.W p) s b))) (0 : Int) else S8.r3 s) = if d = (3 : Int) then List.getD (S8.m s) (Int.toNat (Wd.maskV (Pg.W p) (vlV (Pg.W p) s a + vlV (Pg.W p) s b))) (0 : Int) else S8.r3 s) ∧ ((0 : Nat) = (0 : Nat)) ∧ (List.length (S8.m s) = List.length (S8.m s)) ∧ ((0 : Nat) = (0 : Nat)) ∧ (List.length (S8.st s) = List.length (S8.st s)) ∧ (S8.pc s + (1 : Int) = S8.pc s + (1 : Int)) ∧ ((0 : Nat) = (0 : Nat)) ∧ (List.length sn + (1 : Nat) = List.length (sn ++ [Ob.mk (1 : Int) (Wd.maskV (Pg.W p) (vlV (Pg.W p) s a + vlV (Pg.W p) s b))])) ∧ (frS8b12 s ((List.length sn + (1 : Nat) = List.length (sn ++ [Ob.mk (1 : Int) (Wd.maskV (Pg.W p) (vlV (Pg.W p) s a + vlV (Pg.W p) s b))])) ∧ (∀ (i : Nat), i < List.length sn + (1 : Nat) → ∀ (j : Nat), j < (2 : Nat) → (bif Nat.blt i (List.length sn) then rowL obC sn i j else List.getD [AV.int IntKind.i64 (1 : Int), AV.int IntKind.i64 (Wd.maskV (Pg.W p) (vlV (Pg.W p) s a + vlV (Pg.W p) s b))] ((i - List.length sn + (0 : Nat)) * (2 : Nat) + j) AV.junk) = rowL obC (sn ++ [Ob.mk (1 : Int) (Wd.maskV (Pg.W p) (vlV (Pg.W p) s a + vlV (Pg.W p) s b))]) i j) ∧ (n = n) ∧ (done + (1 : Int) = done + (1 : Int)) ∧ ((0 : Int) = (0 : Int)) ∧ True))))))))))))))))))))) (by kernel_rfl)
    ⟨(decide_eq_true (by first | omega | (simp; omega) | (simp; done))),
 (decide_eq_true (by first | omega | (simp; omega) | (simp; done))),
 (decide_eq_true (by first | omega | (simp; omega) | (simp; done))), (frS8b6_mk p (frS8b7_mk p s ⟨hA, (frS8b6_mk p (frS8b5_mk p c s (frS8b11_mk s n op d a b nm ⟨rfl,
 madrC p c s (⟨2, op, d, a, b, nm, tg⟩ : In) ha hb hs,
 (by rw [decide_eq_true hx]; rfl),
 (by first | omega | rfl), (frS8b6_mk p (frS8b5_mk p c s ⟨rfl,
 (fun _ _ _ _ => rfl),
 rfl,
 rfl,
 mcellC p c s (Wd.maskV p.W ((vlV p.W s a) + (vlV p.W s b))) (Wd.maskV_bd _ _).1 (by rw [← hc]; exact hx),
 (decide_eq_true (by first | omega | (simp; omega) | (simp; done))),
 (decide_eq_true (by first | omega | (simp; omega) | (simp; done))),
 (decide_eq_true (by first | omega | (simp; omega) | (simp; done))),
 (decide_eq_true (by first | omega | (simp; omega) | (simp; done))),
 (by first | omega | rfl),
 (by first | omega | rfl),
 (by rcases four h0 h1 with rfl | rfl | rfl | rfl <;> rfl),
 (in64 (by omega) (by omega)),
 (in64 (by omega) (by omega)), (frS8b3_mk p (frS8b2_mk p ⟨rfl,
 (by first | omega | rfl | (simp; done) | (simp; omega)),
 (by first | omega | rfl | (simp; done) | (simp; omega)),
 (by first | omega | rfl | (simp; done) | (simp; omega)),
 (by first | omega | rfl | (simp; done) | (simp; omega)),
 rfl,
 rfl,
 rfl,
 rfl,
 rfl,
 rfl,
 (by first | omega | rfl | (simp; done) | (simp; omega)), (frS8b12_mk s ⟨(by first | omega | rfl | (simp; done) | (simp; omega)),
 (fun i hi j hj => row_if (fun h => (rowL_left h).symm) (fun h => by obtain rfl : i = _ := Nat.le_antisymm (Nat.lt_succ_iff.mp hi) (Nat.not_lt.mp h); rw [rowL_last, Nat.sub_self]; match j, hj with | 0, _ => rfl | 1, _ => rfl)),
 rfl,
 rfl,
 rfl, trivial⟩)⟩))⟩))⟩)))⟩))⟩
theorem st_store1 (p : Pg) (c : Int) (s : S8) (sn : List Ob) (n done : Int) (op d tg : Int) (a b : Vl) (nm : ByteArray) (hn : done < n) (hn2 : n < 1000000) (hd0 : 0 ≤ done) (hp0 : -1 ≤ s.pc) (hp1 : s.pc < 1000000) (hA : PureC Try.prog 23 [.agg (pgA p), .int .i64 s.pc] (.agg (inA (⟨3, op, d, a, b, nm, tg⟩ : In))) []) (ha : okV a) (hb : okV b) (hc : c = s.m.length) (hs : okR s) (h0 : 0 ≤ d) (h1 : d < 4) (hx : (Wd.maskV p.W ((vlV p.W s a) + (vlV p.W s b))) < c) (hl : sn.length < 1000000) : Vc (vcC Try.prog false (ntOf Try.prog 19) (lpC Try.prog 19 0) (runS p c s sn n done 0) [.b true, .b true, .b true, .inl, .cl [.agg (pgA p), .int .i64 s.pc] (.agg (inA (⟨3, op, d, a, b, nm, tg⟩ : In))) [], .inl, .fz, .cp [(mcP p c s .junk .junk .junk), .agg (inA (⟨3, op, d, a, b, nm, tg⟩ : In))] (.tup [.int .i64 (Wd.maskV p.W ((vlV p.W s a) + (vlV p.W s b))), .bool (decide ((Wd.maskV p.W ((vlV p.W s a) + (vlV p.W s b))) < c))]), .b false, .inl, .cp [(mcP p c s .junk .junk .junk), .int .i64 d] (.int .i64 (s.reg d)), .b true] .nrm [(0, 0), (1, 1), (2, 2), (3, 3), (4, 4)] (runS p c { s with m := s.m.set (Wd.maskV p.W ((vlV p.W s a) + (vlV p.W s b))).toNat (s.reg d), pc := s.pc + 1 } (sn ++ [⟨2, (Wd.maskV p.W ((vlV p.W s a) + (vlV p.W s b)))⟩]) n (done + 1) 0)) :=
  vc_of (q := (decide (done < n) = true) ∧ (decide (done < n) = true) ∧ (decide (done < n) = true) ∧ (frS8b6 p ((frS8b7 p s ((PureC Try.prog 23 [.agg (pgA p), .int .i64 s.pc] (.agg (inA (⟨3, op, d, a, b, nm, tg⟩ : In))) []) ∧ (frS8b6 p ((frS8b5 p c s ((S8.pc s = S8.pc s) ∧ ((3 : Int) = (3 : Int)) ∧ (frS8b4 n op d tg a b nm ((PureC Try.prog 74 [(mcP p c s .junk .junk .junk), .agg (inA (⟨3, op, d, a, b, nm, tg⟩ : In))] (.tup [.int .i64 (Wd.maskV p.W ((vlV p.W s a) + (vlV p.W s b))), .bool (decide ((Wd.maskV p.W ((vlV p.W s a) + (vlV p.W s b))) < c))]) []) ∧ ((!decide (Wd.maskV (Pg.W p) (vlV (Pg.W p) s a + vlV (Pg.W p) s b) < c)) = false) ∧ ((0 : Nat) = (0 : Nat) ∧ List.length sn = List.length sn ∧ (List.length sn + (1 : Nat)) * (16 : Nat) ≤ (140737488355328 : Nat) ∧ List.length sn + (1 : Nat) ≤ (140737488355328 : Nat)) ∧ (frS8b6 p ((frS8b5 p c s ((S8.pc s = S8.pc s) ∧ (d = d) ∧ (PureC Try.prog 78 [(mcP p c s .junk .junk .junk), .int .i64 d] (.int .i64 (s.reg d)) []) ∧ (decide (Wd.maskV (Pg.W p) (vlV (Pg.W p) s a + vlV (Pg.W p) s b) < (↑(List.length (S8.m s)) : Int)) = true) ∧ ((0 : Int) ≤ Wd.maskV (Pg.W p) (vlV (Pg.W p) s a + vlV (Pg.W p) s b) ∧ Wd.maskV (Pg.W p) (vlV (Pg.W p) s a + vlV (Pg.W p) s b) < (↑(List.length (S8.m s)) : Int)) ∧ (Int.toNat (Wd.maskV (Pg.W p) (vlV (Pg.W p) s a + vlV (Pg.W p) s b)) + (0 : Nat) < List.length (S8.m s)) ∧ (inK IntKind.i64 (S8.pc s + (1 : Int))) ∧ (inK IntKind.i64 (done + (1 : Int))) ∧ (frS8b3 p ((frS8b2 p ((c = c) ∧ (S8.r0 s = S8.r0 s) ∧ (S8.r1 s = S8.r1 s) ∧ (S8.r2 s = S8.r2 s) ∧ (S8.r3 s = S8.r3 s) ∧ ((0 : Nat) = (0 : Nat)) ∧ (List.length (S8.m s) = List.length (List.set (S8.m s) (Int.toNat (Wd.maskV (Pg.W p) (vlV (Pg.W p) s a + vlV (Pg.W p) s b))) (S8.reg s d))) ∧ ((0 : Nat) = (0 : Nat)) ∧ (List.length (S8.st s) = List.length (S8.st s)) ∧ (S8.pc s + (1 : Int) = S8.pc s + (1 : Int)) ∧ ((0 : Nat) = (0 : Nat)) ∧ (List.length sn + (1 : Nat) = List.length (sn ++ [Ob.mk (2 : Int) (Wd.maskV (Pg.W p) (vlV (Pg.W p) s a + vlV (Pg.W p) s b))])) ∧ (List.length (S8.m s) = List.length (List.set (S8.m s) (Int.toNat (Wd.maskV (Pg.W p) (vlV (Pg.W p) s a + vlV (Pg.W p) s b))) (S8.reg s d))) ∧ (∀ (i : Nat), i < List.length (S8.m s) → ∀ (j : Nat), j < (1 : Nat) → (bif Nat.beq i (Int.toNat (Wd.maskV (Pg.W p) (vlV (Pg.W p) s a + vlV (Pg.W p) s b)) + (0 : Nat)) && Nat.ble (0 : Nat) j && Nat.blt j (1 : Nat) then List.getD [AV.int IntKind.i64 (S8.reg s d)] (j - (0 : Nat)) AV.junk else AV.int IntKind.i64 (List.getD (S8.m s) i (0 : Int))) = AV.int IntKind.i64 (List.getD (List.set (S8.m s) (Int.toNat (Wd.maskV (Pg.W p) (vlV (Pg.W p) s a + vlV (Pg.W p) s b))) (S8.reg s d)) i (0 : Int))) ∧ (List.length (S8.st s) = List.length (S8.st s)) ∧ (∀ (i : Nat), i < List.length (S8.st s) → ∀ (j : Nat), j < (1 : Nat) → AV.int IntKind.i64 (List.getD (S8.st s) i (0 : Int)) = AV.int IntKind.i64 (List.getD (S8.st s) i (0 : Int))) ∧ (List.length sn + (1 : Nat) = List.length (sn ++ [Ob.mk (2 : Int) (Wd.maskV (Pg.W p) (vlV (Pg.W p) s a + vlV (Pg.W p) s b))])) ∧ (∀ (i : Nat), i < List.length sn + (1 : Nat) → ∀ (j : Nat), j < (2 : Nat) → (bif Nat.blt i (List.length sn) then rowL obC sn i j else List.getD [AV.int IntKind.i64 (2 : Int), AV.int IntKind.i64 (Wd.maskV (Pg.W p) (vlV (Pg.W p) s a + vlV (Pg.W p) s b))] ((i - List.length sn + (0 : Nat)) * (2 : Nat) + j) AV.junk) = rowL obC (sn ++ [Ob.mk (2 : Int) (Wd.maskV (Pg.W p) (vlV (Pg.W p) s a + vlV (Pg.W p) s b))]) i j) ∧ (n = n) ∧ (done + (1 : Int) = done + (1 : Int)) ∧ ((0 : Int) = (0 : Int)) ∧ True))))))))))))))))))) (by kernel_rfl)
    ⟨(decide_eq_true (by first | omega | (simp; omega) | (simp; done))),
 (decide_eq_true (by first | omega | (simp; omega) | (simp; done))),
 (decide_eq_true (by first | omega | (simp; omega) | (simp; done))), (frS8b6_mk p (frS8b7_mk p s ⟨hA, (frS8b6_mk p (frS8b5_mk p c s ⟨rfl,
 rfl, (frS8b4_mk n op d tg a b nm ⟨madrC p c s (⟨3, op, d, a, b, nm, tg⟩ : In) ha hb hs,
 (by rw [decide_eq_true hx]; rfl),
 (by first | omega | rfl), (frS8b6_mk p (frS8b5_mk p c s ⟨rfl,
 rfl,
 regC p c s d h0 h1,
 (decide_eq_true (by rw [← hc]; exact hx)),
 ⟨(Wd.maskV_bd _ _).1, by rw [← hc]; exact hx⟩,
 (by have := (Wd.maskV_bd p.W ((vlV p.W s a) + (vlV p.W s b))).1; rw [hc] at hx; omega),
 (in64 (by omega) (by omega)),
 (in64 (by omega) (by omega)), (frS8b3_mk p (frS8b2_mk p ⟨rfl,
 rfl,
 rfl,
 rfl,
 rfl,
 rfl,
 List.length_set.symm,
 rfl,
 rfl,
 rfl,
 rfl,
 (by first | omega | rfl | (simp; done) | (simp; omega)),
 List.length_set.symm,
 set_row,
 rfl,
 (fun _ _ _ _ => rfl),
 (by first | omega | rfl | (simp; done) | (simp; omega)),
 (fun i hi j hj => row_if (fun h => (rowL_left h).symm) (fun h => by obtain rfl : i = _ := Nat.le_antisymm (Nat.lt_succ_iff.mp hi) (Nat.not_lt.mp h); rw [rowL_last, Nat.sub_self]; match j, hj with | 0, _ => rfl | 1, _ => rfl)),
 rfl,
 rfl,
 rfl, trivial⟩))⟩))⟩)⟩))⟩))⟩
theorem st_br0 (p : Pg) (c : Int) (s : S8) (sn : List Ob) (n done : Int) (op d tg : Int) (a b : Vl) (nm : ByteArray) (hn : done < n) (hn2 : n < 1000000) (hd0 : 0 ≤ done) (hp0 : -1 ≤ s.pc) (hp1 : s.pc < 1000000) (hA : PureC Try.prog 23 [.agg (pgA p), .int .i64 s.pc] (.agg (inA (⟨5, op, d, a, b, nm, tg⟩ : In))) []) (ha : okV a) (hb : okV b) (hz : (Wd.doV p.W op (vlV p.W s a) (vlV p.W s b)) = 0) (hl : sn.length < 1000000) : Vc (vcC Try.prog false (ntOf Try.prog 19) (lpC Try.prog 19 0) (runS p c s sn n done 0) [.b true, .b true, .b true, .inl, .cl [.agg (pgA p), .int .i64 s.pc] (.agg (inA (⟨5, op, d, a, b, nm, tg⟩ : In))) [], .inl, .fz, .cp [(mcP p c s .junk .junk .junk), .agg (inA (⟨5, op, d, a, b, nm, tg⟩ : In))] (.int .i64 (Wd.doV p.W op (vlV p.W s a) (vlV p.W s b))), .b false] .nrm [(0, 0), (1, 1), (2, 2), (3, 3), (4, 4)] (runS p c (s.go (s.pc + 1)) (sn ++ [⟨3, s.pc + 1⟩]) n (done + 1) 0)) :=
  vc_of (q := (decide (done < n) = true) ∧ (decide (done < n) = true) ∧ (decide (done < n) = true) ∧ (frS8b6 p ((frS8b7 p s ((PureC Try.prog 23 [.agg (pgA p), .int .i64 s.pc] (.agg (inA (⟨5, op, d, a, b, nm, tg⟩ : In))) []) ∧ (frS8b6 p ((frS8b5 p c s ((S8.pc s = S8.pc s) ∧ ((5 : Int) = (5 : Int)) ∧ (frS8b4 n op d tg a b nm ((PureC Try.prog 73 [(mcP p c s .junk .junk .junk), .agg (inA (⟨5, op, d, a, b, nm, tg⟩ : In))] (.int .i64 (Wd.doV p.W op (vlV p.W s a) (vlV p.W s b))) []) ∧ ((Wd.doV (Pg.W p) op (vlV (Pg.W p) s a) (vlV (Pg.W p) s b) != (0 : Int)) = false) ∧ (inK IntKind.i64 (S8.pc s + (1 : Int))) ∧ ((0 : Nat) = (0 : Nat) ∧ List.length sn = List.length sn ∧ (List.length sn + (1 : Nat)) * (16 : Nat) ≤ (140737488355328 : Nat) ∧ List.length sn + (1 : Nat) ≤ (140737488355328 : Nat)) ∧ (inK IntKind.i64 (done + (1 : Int))) ∧ (frS8b3 p ((frS8b2 p ((frS8b9 c s ((S8.pc s + (1 : Int) = S8.pc s + (1 : Int)) ∧ ((0 : Nat) = (0 : Nat)) ∧ (List.length sn + (1 : Nat) = List.length (sn ++ [Ob.mk (3 : Int) (S8.pc s + (1 : Int))])) ∧ (frS8b12 s ((List.length sn + (1 : Nat) = List.length (sn ++ [Ob.mk (3 : Int) (S8.pc s + (1 : Int))])) ∧ (∀ (i : Nat), i < List.length sn + (1 : Nat) → ∀ (j : Nat), j < (2 : Nat) → (bif Nat.blt i (List.length sn) then rowL obC sn i j else List.getD [AV.int IntKind.i64 (3 : Int), AV.int IntKind.i64 (S8.pc s + (1 : Int))] ((i - List.length sn + (0 : Nat)) * (2 : Nat) + j) AV.junk) = rowL obC (sn ++ [Ob.mk (3 : Int) (S8.pc s + (1 : Int))]) i j) ∧ (n = n) ∧ (done + (1 : Int) = done + (1 : Int)) ∧ ((0 : Int) = (0 : Int)) ∧ True))))))))))))))))))) (by kernel_rfl)
    ⟨(decide_eq_true (by first | omega | (simp; omega) | (simp; done))),
 (decide_eq_true (by first | omega | (simp; omega) | (simp; done))),
 (decide_eq_true (by first | omega | (simp; omega) | (simp; done))), (frS8b6_mk p (frS8b7_mk p s ⟨hA, (frS8b6_mk p (frS8b5_mk p c s ⟨rfl,
 rfl, (frS8b4_mk n op d tg a b nm ⟨mdoC p c s (⟨5, op, d, a, b, nm, tg⟩ : In) ha hb,
 (by rw [hz]; rfl),
 (in64 (by omega) (by omega)),
 (by first | omega | rfl),
 (in64 (by omega) (by omega)), (frS8b3_mk p (frS8b2_mk p (frS8b9_mk c s ⟨rfl,
 rfl,
 (by first | omega | rfl | (simp; done) | (simp; omega)), (frS8b12_mk s ⟨(by first | omega | rfl | (simp; done) | (simp; omega)),
 (fun i hi j hj => row_if (fun h => (rowL_left h).symm) (fun h => by obtain rfl : i = _ := Nat.le_antisymm (Nat.lt_succ_iff.mp hi) (Nat.not_lt.mp h); rw [rowL_last, Nat.sub_self]; match j, hj with | 0, _ => rfl | 1, _ => rfl)),
 rfl,
 rfl,
 rfl, trivial⟩)⟩)))⟩)⟩))⟩))⟩
theorem st_br1 (p : Pg) (c : Int) (s : S8) (sn : List Ob) (n done : Int) (op d tg : Int) (a b : Vl) (nm : ByteArray) (hn : done < n) (hn2 : n < 1000000) (hd0 : 0 ≤ done) (hp0 : -1 ≤ s.pc) (hp1 : s.pc < 1000000) (hA : PureC Try.prog 23 [.agg (pgA p), .int .i64 s.pc] (.agg (inA (⟨5, op, d, a, b, nm, tg⟩ : In))) []) (ha : okV a) (hb : okV b) (hz : ¬ (Wd.doV p.W op (vlV p.W s a) (vlV p.W s b)) = 0) (hl : sn.length < 1000000) : Vc (vcC Try.prog false (ntOf Try.prog 19) (lpC Try.prog 19 0) (runS p c s sn n done 0) [.b true, .b true, .b true, .inl, .cl [.agg (pgA p), .int .i64 s.pc] (.agg (inA (⟨5, op, d, a, b, nm, tg⟩ : In))) [], .inl, .fz, .cp [(mcP p c s .junk .junk .junk), .agg (inA (⟨5, op, d, a, b, nm, tg⟩ : In))] (.int .i64 (Wd.doV p.W op (vlV p.W s a) (vlV p.W s b))), .b true] .nrm [(0, 0), (1, 1), (2, 2), (3, 3), (4, 4)] (runS p c (s.go tg) (sn ++ [⟨3, tg⟩]) n (done + 1) 0)) :=
  vc_of (q := (decide (done < n) = true) ∧ (decide (done < n) = true) ∧ (decide (done < n) = true) ∧ (frS8b6 p ((frS8b7 p s ((PureC Try.prog 23 [.agg (pgA p), .int .i64 s.pc] (.agg (inA (⟨5, op, d, a, b, nm, tg⟩ : In))) []) ∧ (frS8b6 p ((frS8b5 p c s ((S8.pc s = S8.pc s) ∧ ((5 : Int) = (5 : Int)) ∧ (frS8b4 n op d tg a b nm ((PureC Try.prog 73 [(mcP p c s .junk .junk .junk), .agg (inA (⟨5, op, d, a, b, nm, tg⟩ : In))] (.int .i64 (Wd.doV p.W op (vlV p.W s a) (vlV p.W s b))) []) ∧ ((Wd.doV (Pg.W p) op (vlV (Pg.W p) s a) (vlV (Pg.W p) s b) != (0 : Int)) = true) ∧ ((0 : Nat) = (0 : Nat) ∧ List.length sn = List.length sn ∧ (List.length sn + (1 : Nat)) * (16 : Nat) ≤ (140737488355328 : Nat) ∧ List.length sn + (1 : Nat) ≤ (140737488355328 : Nat)) ∧ (inK IntKind.i64 (done + (1 : Int))) ∧ (frS8b3 p ((frS8b2 p ((frS8b9 c s ((tg = tg) ∧ ((0 : Nat) = (0 : Nat)) ∧ (List.length sn + (1 : Nat) = List.length (sn ++ [Ob.mk (3 : Int) tg])) ∧ (frS8b12 s ((List.length sn + (1 : Nat) = List.length (sn ++ [Ob.mk (3 : Int) tg])) ∧ (∀ (i : Nat), i < List.length sn + (1 : Nat) → ∀ (j : Nat), j < (2 : Nat) → (bif Nat.blt i (List.length sn) then rowL obC sn i j else List.getD [AV.int IntKind.i64 (3 : Int), AV.int IntKind.i64 tg] ((i - List.length sn + (0 : Nat)) * (2 : Nat) + j) AV.junk) = rowL obC (sn ++ [Ob.mk (3 : Int) tg]) i j) ∧ (n = n) ∧ (done + (1 : Int) = done + (1 : Int)) ∧ ((0 : Int) = (0 : Int)) ∧ True))))))))))))))))))) (by kernel_rfl)
    ⟨(decide_eq_true (by first | omega | (simp; omega) | (simp; done))),
 (decide_eq_true (by first | omega | (simp; omega) | (simp; done))),
 (decide_eq_true (by first | omega | (simp; omega) | (simp; done))), (frS8b6_mk p (frS8b7_mk p s ⟨hA, (frS8b6_mk p (frS8b5_mk p c s ⟨rfl,
 rfl, (frS8b4_mk n op d tg a b nm ⟨mdoC p c s (⟨5, op, d, a, b, nm, tg⟩ : In) ha hb,
 (bne_iff_ne.2 hz),
 (by first | omega | rfl),
 (in64 (by omega) (by omega)), (frS8b3_mk p (frS8b2_mk p (frS8b9_mk c s ⟨rfl,
 rfl,
 (by first | omega | rfl | (simp; done) | (simp; omega)), (frS8b12_mk s ⟨(by first | omega | rfl | (simp; done) | (simp; omega)),
 (fun i hi j hj => row_if (fun h => (rowL_left h).symm) (fun h => by obtain rfl : i = _ := Nat.le_antisymm (Nat.lt_succ_iff.mp hi) (Nat.not_lt.mp h); rw [rowL_last, Nat.sub_self]; match j, hj with | 0, _ => rfl | 1, _ => rfl)),
 rfl,
 rfl,
 rfl, trivial⟩)⟩)))⟩)⟩))⟩))⟩
theorem st_jmp (p : Pg) (c : Int) (s : S8) (sn : List Ob) (n done : Int) (op d tg : Int) (a b : Vl) (nm : ByteArray) (hn : done < n) (hn2 : n < 1000000) (hd0 : 0 ≤ done) (hp0 : -1 ≤ s.pc) (hp1 : s.pc < 1000000) (hA : PureC Try.prog 23 [.agg (pgA p), .int .i64 s.pc] (.agg (inA (⟨6, op, d, a, b, nm, tg⟩ : In))) [])  : Vc (vcC Try.prog false (ntOf Try.prog 19) (lpC Try.prog 19 0) (runS p c s sn n done 0) [.b true, .b true, .b true, .inl, .cl [.agg (pgA p), .int .i64 s.pc] (.agg (inA (⟨6, op, d, a, b, nm, tg⟩ : In))) []] .nrm [(0, 0), (1, 1), (2, 2), (3, 3), (4, 4)] (runS p c (s.go tg) sn n (done + 1) 0)) :=
  vc_of (q := (decide (done < n) = true) ∧ (decide (done < n) = true) ∧ (decide (done < n) = true) ∧ (frS8b6 p ((frS8b7 p s ((PureC Try.prog 23 [.agg (pgA p), .int .i64 s.pc] (.agg (inA (⟨6, op, d, a, b, nm, tg⟩ : In))) []) ∧ (inK IntKind.i64 (done + (1 : Int))) ∧ (frS8b3 p ((frS8b2 p ((frS8b9 c s ((tg = tg) ∧ ((0 : Nat) = (0 : Nat)) ∧ (List.length sn = List.length sn) ∧ (List.length (S8.m s) = List.length (S8.m s)) ∧ (∀ (i : Nat), i < List.length (S8.m s) → ∀ (j : Nat), j < (1 : Nat) → AV.int IntKind.i64 (List.getD (S8.m s) i (0 : Int)) = AV.int IntKind.i64 (List.getD (S8.m s) i (0 : Int))) ∧ (List.length (S8.st s) = List.length (S8.st s)) ∧ (∀ (i : Nat), i < List.length (S8.st s) → ∀ (j : Nat), j < (1 : Nat) → AV.int IntKind.i64 (List.getD (S8.st s) i (0 : Int)) = AV.int IntKind.i64 (List.getD (S8.st s) i (0 : Int))) ∧ (List.length sn = List.length sn) ∧ (∀ (i : Nat), i < List.length sn → ∀ (j : Nat), j < (2 : Nat) → rowL obC sn i j = rowL obC sn i j) ∧ (n = n) ∧ (done + (1 : Int) = done + (1 : Int)) ∧ ((0 : Int) = (0 : Int)) ∧ True))))))))))) (by kernel_rfl)
    ⟨(decide_eq_true (by first | omega | (simp; omega) | (simp; done))),
 (decide_eq_true (by first | omega | (simp; omega) | (simp; done))),
 (decide_eq_true (by first | omega | (simp; omega) | (simp; done))), (frS8b6_mk p (frS8b7_mk p s ⟨hA,
 (in64 (by omega) (by omega)), (frS8b3_mk p (frS8b2_mk p (frS8b9_mk c s ⟨rfl,
 rfl,
 rfl,
 rfl,
 (fun _ _ _ _ => rfl),
 rfl,
 (fun _ _ _ _ => rfl),
 rfl,
 (fun _ _ _ _ => rfl),
 rfl,
 rfl,
 rfl, trivial⟩)))⟩))⟩
theorem st_ind (p : Pg) (c : Int) (s : S8) (sn : List Ob) (n done : Int) (op d tg : Int) (a b : Vl) (nm : ByteArray) (hn : done < n) (hn2 : n < 1000000) (hd0 : 0 ≤ done) (hp0 : -1 ≤ s.pc) (hp1 : s.pc < 1000000) (hA : PureC Try.prog 23 [.agg (pgA p), .int .i64 s.pc] (.agg (inA (⟨7, op, d, a, b, nm, tg⟩ : In))) []) (ha : okV a) (hl : sn.length < 1000000) : Vc (vcC Try.prog false (ntOf Try.prog 19) (lpC Try.prog 19 0) (runS p c s sn n done 0) [.b true, .b true, .b true, .inl, .cl [.agg (pgA p), .int .i64 s.pc] (.agg (inA (⟨7, op, d, a, b, nm, tg⟩ : In))) [], .cp [(mcP p c s .junk .junk .junk), .agg (vlA a)] (.int .i64 (vlV p.W s a))] .nrm [(0, 0), (1, 1), (2, 2), (3, 3), (4, 4)] (runS p c (s.go (if (p.is.length : Int) < (vlV p.W s a) then (p.is.length : Int) else (vlV p.W s a))) (sn ++ [⟨3, (if (p.is.length : Int) < (vlV p.W s a) then (p.is.length : Int) else (vlV p.W s a))⟩]) n (done + 1) 0)) :=
  vc_of (q := (decide (done < n) = true) ∧ (decide (done < n) = true) ∧ (decide (done < n) = true) ∧ (frS8b6 p ((frS8b7 p s ((PureC Try.prog 23 [.agg (pgA p), .int .i64 s.pc] (.agg (inA (⟨7, op, d, a, b, nm, tg⟩ : In))) []) ∧ (frS8b6 p ((frS8b5 p c s ((S8.pc s = S8.pc s) ∧ (Vl.reg a = Vl.reg a) ∧ (Vl.n a = Vl.n a) ∧ (PureC Try.prog 62 [(mcP p c s .junk .junk .junk), .agg (vlA a)] (.int .i64 (vlV p.W s a)) []) ∧ ((0 : Nat) = (0 : Nat) ∧ List.length sn = List.length sn ∧ (List.length sn + (1 : Nat)) * (16 : Nat) ≤ (140737488355328 : Nat) ∧ List.length sn + (1 : Nat) ≤ (140737488355328 : Nat)) ∧ (inK IntKind.i64 (done + (1 : Int))) ∧ (frS8b3 p ((frS8b2 p ((frS8b9 c s (((if (↑(List.length (Pg.is p)) : Int) < vlV (Pg.W p) s a then (↑(List.length (Pg.is p)) : Int) else vlV (Pg.W p) s a) = if (↑(List.length (Pg.is p)) : Int) < vlV (Pg.W p) s a then (↑(List.length (Pg.is p)) : Int) else vlV (Pg.W p) s a) ∧ ((0 : Nat) = (0 : Nat)) ∧ (List.length sn + (1 : Nat) = List.length (sn ++ [Ob.mk (3 : Int) (if (↑(List.length (Pg.is p)) : Int) < vlV (Pg.W p) s a then (↑(List.length (Pg.is p)) : Int) else vlV (Pg.W p) s a)])) ∧ (frS8b12 s ((List.length sn + (1 : Nat) = List.length (sn ++ [Ob.mk (3 : Int) (if (↑(List.length (Pg.is p)) : Int) < vlV (Pg.W p) s a then (↑(List.length (Pg.is p)) : Int) else vlV (Pg.W p) s a)])) ∧ (∀ (i : Nat), i < List.length sn + (1 : Nat) → ∀ (j : Nat), j < (2 : Nat) → (bif Nat.blt i (List.length sn) then rowL obC sn i j else List.getD [AV.int IntKind.i64 (3 : Int), AV.int IntKind.i64 (if (↑(List.length (Pg.is p)) : Int) < vlV (Pg.W p) s a then (↑(List.length (Pg.is p)) : Int) else vlV (Pg.W p) s a)] ((i - List.length sn + (0 : Nat)) * (2 : Nat) + j) AV.junk) = rowL obC (sn ++ [Ob.mk (3 : Int) (if (↑(List.length (Pg.is p)) : Int) < vlV (Pg.W p) s a then (↑(List.length (Pg.is p)) : Int) else vlV (Pg.W p) s a)]) i j) ∧ (n = n) ∧ (done + (1 : Int) = done + (1 : Int)) ∧ ((0 : Int) = (0 : Int)) ∧ True))))))))))))))))) (by kernel_rfl)
    ⟨(decide_eq_true (by first | omega | (simp; omega) | (simp; done))),
 (decide_eq_true (by first | omega | (simp; omega) | (simp; done))),
 (decide_eq_true (by first | omega | (simp; omega) | (simp; done))), (frS8b6_mk p (frS8b7_mk p s ⟨hA, (frS8b6_mk p (frS8b5_mk p c s ⟨rfl,
 rfl,
 rfl,
 valC p c s a ha,
 (by first | omega | rfl),
 (in64 (by omega) (by omega)), (frS8b3_mk p (frS8b2_mk p (frS8b9_mk c s ⟨(by first | omega | rfl),
 rfl,
 (by first | omega | rfl | (simp; done) | (simp; omega)), (frS8b12_mk s ⟨(by first | omega | rfl | (simp; done) | (simp; omega)),
 (fun i hi j hj => row_if (fun h => (rowL_left h).symm) (fun h => by obtain rfl : i = _ := Nat.le_antisymm (Nat.lt_succ_iff.mp hi) (Nat.not_lt.mp h); rw [rowL_last, Nat.sub_self]; match j, hj with | 0, _ => rfl | 1, _ => rfl)),
 rfl,
 rfl,
 rfl, trivial⟩)⟩)))⟩))⟩))⟩
theorem st_call0 (p : Pg) (c : Int) (s : S8) (sn : List Ob) (n done : Int) (op d tg : Int) (a b : Vl) (nm : ByteArray) (hn : done < n) (hn2 : n < 1000000) (hd0 : 0 ≤ done) (hp0 : -1 ≤ s.pc) (hp1 : s.pc < 1000000) (hA : PureC Try.prog 23 [.agg (pgA p), .int .i64 s.pc] (.agg (inA (⟨8, op, d, a, b, nm, tg⟩ : In))) []) (hk : 4 ≤ s.st.length) (hk2 : s.st.length < 1000) : Vc (vcC Try.prog false (ntOf Try.prog 19) (lpC Try.prog 19 0) (runS p c s sn n done 0) [.b true, .b true, .b true, .inl, .cl [.agg (pgA p), .int .i64 s.pc] (.agg (inA (⟨8, op, d, a, b, nm, tg⟩ : In))) [], .fz, .b true] .nrm [(0, 0), (1, 1), (2, 2), (3, 3), (4, 4)] (runS p c s sn n (done + 1) 2)) :=
  vc_of (q := (decide (done < n) = true) ∧ (decide (done < n) = true) ∧ (decide (done < n) = true) ∧ (frS8b6 p ((frS8b7 p s ((PureC Try.prog 23 [.agg (pgA p), .int .i64 s.pc] (.agg (inA (⟨8, op, d, a, b, nm, tg⟩ : In))) []) ∧ (decide ((↑(List.length (S8.st s)) : Int) ≥ (4 : Int)) = true) ∧ (inK IntKind.i64 (done + (1 : Int))) ∧ (frS8b3 p ((frS8b2 p ((frS8b9 c s ((frS8b10 s sn ((n = n) ∧ (done + (1 : Int) = done + (1 : Int)) ∧ ((2 : Int) = (2 : Int)) ∧ True))))))))))))) (by kernel_rfl)
    ⟨(decide_eq_true (by first | omega | (simp; omega) | (simp; done))),
 (decide_eq_true (by first | omega | (simp; omega) | (simp; done))),
 (decide_eq_true (by first | omega | (simp; omega) | (simp; done))), (frS8b6_mk p (frS8b7_mk p s ⟨hA,
 (decide_eq_true (by first | omega | (simp; omega) | (simp; done))),
 (in64 (by omega) (by omega)), (frS8b3_mk p (frS8b2_mk p (frS8b9_mk c s (frS8b10_mk s sn ⟨rfl,
 rfl,
 rfl, trivial⟩))))⟩))⟩
def frS8b13 (c : Int) (s : S8) (Z : Prop) : Prop := (c = c) ∧ (S8.r0 s = S8.r0 s) ∧ (S8.r1 s = S8.r1 s) ∧ (S8.r2 s = S8.r2 s) ∧ (S8.r3 s = S8.r3 s) ∧ ((0 : Nat) = (0 : Nat)) ∧ (List.length (S8.m s) = List.length (S8.m s)) ∧ ((0 : Nat) = (0 : Nat)) ∧ Z
theorem frS8b13_mk (c : Int) (s : S8) {Z : Prop} (z : Z) : frS8b13 c s Z := ⟨rfl, rfl, rfl, rfl, rfl, rfl, rfl, rfl, z⟩
theorem st_call1 (p : Pg) (c : Int) (s : S8) (sn : List Ob) (n done : Int) (op d tg : Int) (a b : Vl) (nm : ByteArray) (hn : done < n) (hn2 : n < 1000000) (hd0 : 0 ≤ done) (hp0 : -1 ≤ s.pc) (hp1 : s.pc < 1000000) (hA : PureC Try.prog 23 [.agg (pgA p), .int .i64 s.pc] (.agg (inA (⟨8, op, d, a, b, nm, tg⟩ : In))) []) (hk : ¬ 4 ≤ s.st.length) : Vc (vcC Try.prog false (ntOf Try.prog 19) (lpC Try.prog 19 0) (runS p c s sn n done 0) [.b true, .b true, .b true, .inl, .cl [.agg (pgA p), .int .i64 s.pc] (.agg (inA (⟨8, op, d, a, b, nm, tg⟩ : In))) [], .fz, .b false] .nrm [(0, 0), (1, 1), (2, 2), (3, 3), (4, 4)] (runS p c { s with st := s.st ++ [s.pc + 1], pc := tg } sn n (done + 1) 0)) :=
  vc_of (q := (decide (done < n) = true) ∧ (decide (done < n) = true) ∧ (decide (done < n) = true) ∧ (frS8b6 p ((frS8b7 p s ((PureC Try.prog 23 [.agg (pgA p), .int .i64 s.pc] (.agg (inA (⟨8, op, d, a, b, nm, tg⟩ : In))) []) ∧ (decide ((↑(List.length (S8.st s)) : Int) ≥ (4 : Int)) = false) ∧ (inK IntKind.i64 (S8.pc s + (1 : Int))) ∧ ((0 : Nat) = (0 : Nat) ∧ List.length (S8.st s) = List.length (S8.st s) ∧ (List.length (S8.st s) + (1 : Nat)) * (8 : Nat) ≤ (140737488355328 : Nat) ∧ List.length (S8.st s) + (1 : Nat) ≤ (140737488355328 : Nat)) ∧ (inK IntKind.i64 (done + (1 : Int))) ∧ (frS8b3 p ((frS8b2 p ((frS8b13 c s ((List.length (S8.st s) + (1 : Nat) = List.length (S8.st s ++ [S8.pc s + (1 : Int)])) ∧ (tg = tg) ∧ ((0 : Nat) = (0 : Nat)) ∧ (List.length sn = List.length sn) ∧ (List.length (S8.m s) = List.length (S8.m s)) ∧ (∀ (i : Nat), i < List.length (S8.m s) → ∀ (j : Nat), j < (1 : Nat) → AV.int IntKind.i64 (List.getD (S8.m s) i (0 : Int)) = AV.int IntKind.i64 (List.getD (S8.m s) i (0 : Int))) ∧ (List.length (S8.st s) + (1 : Nat) = List.length (S8.st s ++ [S8.pc s + (1 : Int)])) ∧ (∀ (i : Nat), i < List.length (S8.st s) + (1 : Nat) → ∀ (j : Nat), j < (1 : Nat) → (bif Nat.blt i (List.length (S8.st s)) then AV.int IntKind.i64 (List.getD (S8.st s) i (0 : Int)) else List.getD [AV.int IntKind.i64 (S8.pc s + (1 : Int))] ((i - List.length (S8.st s) + (0 : Nat)) * (1 : Nat) + j) AV.junk) = AV.int IntKind.i64 (List.getD (S8.st s ++ [S8.pc s + (1 : Int)]) i (0 : Int))) ∧ (List.length sn = List.length sn) ∧ (∀ (i : Nat), i < List.length sn → ∀ (j : Nat), j < (2 : Nat) → rowL obC sn i j = rowL obC sn i j) ∧ (n = n) ∧ (done + (1 : Int) = done + (1 : Int)) ∧ ((0 : Int) = (0 : Int)) ∧ True))))))))))) (by kernel_rfl)
    ⟨(decide_eq_true (by first | omega | (simp; omega) | (simp; done))),
 (decide_eq_true (by first | omega | (simp; omega) | (simp; done))),
 (decide_eq_true (by first | omega | (simp; omega) | (simp; done))), (frS8b6_mk p (frS8b7_mk p s ⟨hA,
 (decide_eq_false (by first | omega | (simp; omega) | (simp; done))),
 (in64 (by omega) (by omega)),
 (by first | omega | rfl),
 (in64 (by omega) (by omega)), (frS8b3_mk p (frS8b2_mk p (frS8b13_mk c s ⟨(by first | omega | rfl | (simp; done) | (simp; omega)),
 rfl,
 rfl,
 rfl,
 rfl,
 (fun _ _ _ _ => rfl),
 (by first | omega | rfl | (simp; done) | (simp; omega)),
 snocI,
 rfl,
 (fun _ _ _ _ => rfl),
 rfl,
 rfl,
 rfl, trivial⟩)))⟩))⟩
theorem st_ret0 (p : Pg) (c : Int) (s : S8) (sn : List Ob) (n done : Int) (op d tg : Int) (a b : Vl) (nm : ByteArray) (hn : done < n) (hn2 : n < 1000000) (hd0 : 0 ≤ done) (hp0 : -1 ≤ s.pc) (hp1 : s.pc < 1000000) (hA : PureC Try.prog 23 [.agg (pgA p), .int .i64 s.pc] (.agg (inA (⟨9, op, d, a, b, nm, tg⟩ : In))) []) (hk : s.st.length = 0) : Vc (vcC Try.prog false (ntOf Try.prog 19) (lpC Try.prog 19 0) (runS p c s sn n done 0) [.b true, .b true, .b true, .inl, .cl [.agg (pgA p), .int .i64 s.pc] (.agg (inA (⟨9, op, d, a, b, nm, tg⟩ : In))) [], .inl, .b true] .nrm [(0, 0), (1, 1), (2, 2), (3, 3), (4, 4)] (runS p c s sn n (done + 1) 2)) :=
  vc_of (q := (decide (done < n) = true) ∧ (decide (done < n) = true) ∧ (decide (done < n) = true) ∧ (frS8b6 p ((frS8b7 p s ((PureC Try.prog 23 [.agg (pgA p), .int .i64 s.pc] (.agg (inA (⟨9, op, d, a, b, nm, tg⟩ : In))) []) ∧ (inK IntKind.i64 ((↑(List.length (S8.st s)) : Int) - (1 : Int))) ∧ (decide ((↑(List.length (S8.st s)) : Int) - (1 : Int) < (0 : Int)) = true) ∧ (inK IntKind.i64 (done + (1 : Int))) ∧ (frS8b3 p ((frS8b2 p ((frS8b9 c s ((frS8b10 s sn ((n = n) ∧ (done + (1 : Int) = done + (1 : Int)) ∧ ((2 : Int) = (2 : Int)) ∧ True))))))))))))) (by kernel_rfl)
    ⟨(decide_eq_true (by first | omega | (simp; omega) | (simp; done))),
 (decide_eq_true (by first | omega | (simp; omega) | (simp; done))),
 (decide_eq_true (by first | omega | (simp; omega) | (simp; done))), (frS8b6_mk p (frS8b7_mk p s ⟨hA,
 (in64 (by omega) (by omega)),
 (decide_eq_true (by first | omega | (simp; omega) | (simp; done))),
 (in64 (by omega) (by omega)), (frS8b3_mk p (frS8b2_mk p (frS8b9_mk c s (frS8b10_mk s sn ⟨rfl,
 rfl,
 rfl, trivial⟩))))⟩))⟩
theorem st_fence (p : Pg) (c : Int) (s : S8) (sn : List Ob) (n done : Int) (op d tg : Int) (a b : Vl) (nm : ByteArray) (hn : done < n) (hn2 : n < 1000000) (hd0 : 0 ≤ done) (hp0 : -1 ≤ s.pc) (hp1 : s.pc < 1000000) (hA : PureC Try.prog 23 [.agg (pgA p), .int .i64 s.pc] (.agg (inA (⟨10, op, d, a, b, nm, tg⟩ : In))) [])  : Vc (vcC Try.prog false (ntOf Try.prog 19) (lpC Try.prog 19 0) (runS p c s sn n done 0) [.b true, .b true, .b true, .inl, .cl [.agg (pgA p), .int .i64 s.pc] (.agg (inA (⟨10, op, d, a, b, nm, tg⟩ : In))) []] .nrm [(0, 0), (1, 1), (2, 2), (3, 3), (4, 4)] (runS p c (s.go (s.pc + 1)) sn n (done + 1) 0)) :=
  vc_of (q := (decide (done < n) = true) ∧ (decide (done < n) = true) ∧ (decide (done < n) = true) ∧ (frS8b6 p ((frS8b7 p s ((PureC Try.prog 23 [.agg (pgA p), .int .i64 s.pc] (.agg (inA (⟨10, op, d, a, b, nm, tg⟩ : In))) []) ∧ (inK IntKind.i64 (S8.pc s + (1 : Int))) ∧ (inK IntKind.i64 (done + (1 : Int))) ∧ (frS8b3 p ((frS8b2 p ((frS8b9 c s ((frS8b8 s sn ((n = n) ∧ (done + (1 : Int) = done + (1 : Int)) ∧ ((0 : Int) = (0 : Int)) ∧ True))))))))))))) (by kernel_rfl)
    ⟨(decide_eq_true (by first | omega | (simp; omega) | (simp; done))),
 (decide_eq_true (by first | omega | (simp; omega) | (simp; done))),
 (decide_eq_true (by first | omega | (simp; omega) | (simp; done))), (frS8b6_mk p (frS8b7_mk p s ⟨hA,
 (in64 (by omega) (by omega)),
 (in64 (by omega) (by omega)), (frS8b3_mk p (frS8b2_mk p (frS8b9_mk c s (frS8b8_mk s sn ⟨rfl,
 rfl,
 rfl, trivial⟩))))⟩))⟩
theorem st_halt (p : Pg) (c : Int) (s : S8) (sn : List Ob) (n done : Int) (op d tg : Int) (a b : Vl) (nm : ByteArray) (hn : done < n) (hn2 : n < 1000000) (hd0 : 0 ≤ done) (hp0 : -1 ≤ s.pc) (hp1 : s.pc < 1000000) (hA : PureC Try.prog 23 [.agg (pgA p), .int .i64 s.pc] (.agg (inA (⟨11, op, d, a, b, nm, tg⟩ : In))) [])  : Vc (vcC Try.prog false (ntOf Try.prog 19) (lpC Try.prog 19 0) (runS p c s sn n done 0) [.b true, .b true, .b true, .inl, .cl [.agg (pgA p), .int .i64 s.pc] (.agg (inA (⟨11, op, d, a, b, nm, tg⟩ : In))) []] .nrm [(0, 0), (1, 1), (2, 2), (3, 3), (4, 4)] (runS p c s sn n (done + 1) 1)) :=
  vc_of (q := (decide (done < n) = true) ∧ (decide (done < n) = true) ∧ (decide (done < n) = true) ∧ (frS8b6 p ((frS8b7 p s ((PureC Try.prog 23 [.agg (pgA p), .int .i64 s.pc] (.agg (inA (⟨11, op, d, a, b, nm, tg⟩ : In))) []) ∧ (inK IntKind.i64 (done + (1 : Int))) ∧ (frS8b3 p ((frS8b2 p ((frS8b9 c s ((frS8b10 s sn ((n = n) ∧ (done + (1 : Int) = done + (1 : Int)) ∧ ((1 : Int) = (1 : Int)) ∧ True))))))))))))) (by kernel_rfl)
    ⟨(decide_eq_true (by first | omega | (simp; omega) | (simp; done))),
 (decide_eq_true (by first | omega | (simp; omega) | (simp; done))),
 (decide_eq_true (by first | omega | (simp; omega) | (simp; done))), (frS8b6_mk p (frS8b7_mk p s ⟨hA,
 (in64 (by omega) (by omega)), (frS8b3_mk p (frS8b2_mk p (frS8b9_mk c s (frS8b10_mk s sn ⟨rfl,
 rfl,
 rfl, trivial⟩))))⟩))⟩
theorem st_fault (p : Pg) (c : Int) (s : S8) (sn : List Ob) (n done : Int) (op d tg : Int) (a b : Vl) (nm : ByteArray) (hn : done < n) (hn2 : n < 1000000) (hd0 : 0 ≤ done) (hp0 : -1 ≤ s.pc) (hp1 : s.pc < 1000000) (hA : PureC Try.prog 23 [.agg (pgA p), .int .i64 s.pc] (.agg (inA (⟨12, op, d, a, b, nm, tg⟩ : In))) [])  : Vc (vcC Try.prog false (ntOf Try.prog 19) (lpC Try.prog 19 0) (runS p c s sn n done 0) [.b true, .b true, .b true, .inl, .cl [.agg (pgA p), .int .i64 s.pc] (.agg (inA (⟨12, op, d, a, b, nm, tg⟩ : In))) []] .nrm [(0, 0), (1, 1), (2, 2), (3, 3), (4, 4)] (runS p c s sn n (done + 1) 2)) :=
  vc_of (q := (decide (done < n) = true) ∧ (decide (done < n) = true) ∧ (decide (done < n) = true) ∧ (frS8b6 p ((frS8b7 p s ((PureC Try.prog 23 [.agg (pgA p), .int .i64 s.pc] (.agg (inA (⟨12, op, d, a, b, nm, tg⟩ : In))) []) ∧ (inK IntKind.i64 (done + (1 : Int))) ∧ (frS8b3 p ((frS8b2 p ((frS8b9 c s ((frS8b10 s sn ((n = n) ∧ (done + (1 : Int) = done + (1 : Int)) ∧ ((2 : Int) = (2 : Int)) ∧ True))))))))))))) (by kernel_rfl)
    ⟨(decide_eq_true (by first | omega | (simp; omega) | (simp; done))),
 (decide_eq_true (by first | omega | (simp; omega) | (simp; done))),
 (decide_eq_true (by first | omega | (simp; omega) | (simp; done))), (frS8b6_mk p (frS8b7_mk p s ⟨hA,
 (in64 (by omega) (by omega)), (frS8b3_mk p (frS8b2_mk p (frS8b9_mk c s (frS8b10_mk s sn ⟨rfl,
 rfl,
 rfl, trivial⟩))))⟩))⟩
def runR (p : Pg) (c : Int) (s : S8) (L : Nat) (pc : Int) (sn : List Ob) (n done e : Int) : Sm := ⟨[(2, .int .i64 n), (6, .bptr 0 0), (10, .bptr 1 0), (11, .int .i64 done), (12, .int .i64 e)],
  [(0, bx 31 (stZ .nils)), (1, bx 79 (mcA p c (s.go pc) (.own 2 0 1 0 s.m.length) (.own 3 0 1 0 L) (.own 4 0 2 0 sn.length))), (2, blkI s.m), (3, blkI s.st), (4, obB sn)], 5⟩
theorem last_nat {l : List Int} : ((l.length : Int) - 1).toNat = l.length - 1 := by omega
theorem take_get {l : List Int} {n : Nat} : ∀ i, i < n → ∀ j, j < 1 → rowI l i j = rowI (l.take n) i j := by
  intro i hi j hj
  unfold rowI
  simp [List.getD, List.getElem?_take, hi]
theorem st_ret1a (p : Pg) (c : Int) (s : S8) (sn : List Ob) (n done : Int) (op d tg : Int) (a b : Vl) (nm : ByteArray) (hn : done < n) (hn2 : n < 1000000) (hd0 : 0 ≤ done) (hp0 : -1 ≤ s.pc) (hp1 : s.pc < 1000000) (hA : PureC Try.prog 23 [.agg (pgA p), .int .i64 s.pc] (.agg (inA (⟨9, op, d, a, b, nm, tg⟩ : In))) []) (hk : ¬ s.st.length = 0) (hk2 : s.st.length < 1000) (hl : sn.length < 1000000) : Vc (vcC Try.prog false (ntOf Try.prog 19) (lpC Try.prog 19 0) (runS p c s sn n done 0) [.b true, .b true, .b true, .inl, .cl [.agg (pgA p), .int .i64 s.pc] (.agg (inA (⟨9, op, d, a, b, nm, tg⟩ : In))) [], .inl, .b false] .nrm [(0, 0), (1, 1), (2, 2), (3, 3), (4, 4)] (runR p c s (s.st.length - 1) (s.st.getD (s.st.length - 1) 0) (sn ++ [⟨3, (s.st.getD (s.st.length - 1) 0)⟩]) n (done + 1) 0)) :=
  vc_of (q := (decide (done < n) = true) ∧ (decide (done < n) = true) ∧ (decide (done < n) = true) ∧ (frS8b6 p ((frS8b7 p s ((PureC Try.prog 23 [.agg (pgA p), .int .i64 s.pc] (.agg (inA (⟨9, op, d, a, b, nm, tg⟩ : In))) []) ∧ (inK IntKind.i64 ((↑(List.length (S8.st s)) : Int) - (1 : Int))) ∧ (decide ((↑(List.length (S8.st s)) : Int) - (1 : Int) < (0 : Int)) = false) ∧ ((0 : Int) ≤ (↑(List.length (S8.st s)) : Int) - (1 : Int) ∧ (↑(List.length (S8.st s)) : Int) - (1 : Int) < (↑(List.length (S8.st s)) : Int)) ∧ (Int.toNat ((↑(List.length (S8.st s)) : Int) - (1 : Int)) + (0 : Nat) < List.length (S8.st s)) ∧ ((0 : Int) ≤ (↑(List.length (S8.st s)) : Int) - (1 : Int) ∧ (↑(List.length (S8.st s)) : Int) - (1 : Int) ≤ (↑(List.length (S8.st s)) : Int)) ∧ ((0 : Nat) = (0 : Nat) ∧ List.length sn = List.length sn ∧ (List.length sn + (1 : Nat)) * (16 : Nat) ≤ (140737488355328 : Nat) ∧ List.length sn + (1 : Nat) ≤ (140737488355328 : Nat)) ∧ (inK IntKind.i64 (done + (1 : Int))) ∧ (frS8b3 p ((frS8b2 p ((frS8b13 c s ((Int.toNat ((↑(List.length (S8.st s)) : Int) - (1 : Int)) = List.length (S8.st s) - (1 : Nat)) ∧ (List.getD (S8.st s) (Int.toNat ((↑(List.length (S8.st s)) : Int) - (1 : Int)) + (0 : Nat)) (0 : Int) = List.getD (S8.st s) (List.length (S8.st s) - (1 : Nat)) (0 : Int)) ∧ ((0 : Nat) = (0 : Nat)) ∧ (List.length sn + (1 : Nat) = List.length (sn ++ [Ob.mk (3 : Int) (List.getD (S8.st s) (List.length (S8.st s) - (1 : Nat)) (0 : Int))])) ∧ (frS8b12 s ((List.length sn + (1 : Nat) = List.length (sn ++ [Ob.mk (3 : Int) (List.getD (S8.st s) (List.length (S8.st s) - (1 : Nat)) (0 : Int))])) ∧ (∀ (i : Nat), i < List.length sn + (1 : Nat) → ∀ (j : Nat), j < (2 : Nat) → (bif Nat.blt i (List.length sn) then rowL obC sn i j else List.getD [AV.int IntKind.i64 (3 : Int), AV.int IntKind.i64 (List.getD (S8.st s) (Int.toNat ((↑(List.length (S8.st s)) : Int) - (1 : Int)) + (0 : Nat)) (0 : Int))] ((i - List.length sn + (0 : Nat)) * (2 : Nat) + j) AV.junk) = rowL obC (sn ++ [Ob.mk (3 : Int) (List.getD (S8.st s) (List.length (S8.st s) - (1 : Nat)) (0 : Int))]) i j) ∧ (n = n) ∧ (done + (1 : Int) = done + (1 : Int)) ∧ ((0 : Int) = (0 : Int)) ∧ True))))))))))))) (by kernel_rfl)
    ⟨(decide_eq_true (by first | omega | (simp; omega) | (simp; done))),
 (decide_eq_true (by first | omega | (simp; omega) | (simp; done))),
 (decide_eq_true (by first | omega | (simp; omega) | (simp; done))), (frS8b6_mk p (frS8b7_mk p s ⟨hA,
 (in64 (by omega) (by omega)),
 (decide_eq_false (by first | omega | (simp; omega) | (simp; done))),
 (by first | omega | rfl | (simp; done) | (simp; omega)),
 (by first | omega | rfl | (simp; done) | (simp; omega)),
 (by first | omega | rfl | (simp; done) | (simp; omega)),
 (by first | omega | rfl),
 (in64 (by omega) (by omega)), (frS8b3_mk p (frS8b2_mk p (frS8b13_mk c s ⟨(by first | omega | rfl | (simp; done) | (simp; omega)),
 (by rw [last_nat]; rfl),
 rfl,
 (by first | omega | rfl | (simp; done) | (simp; omega)), (frS8b12_mk s ⟨(by first | omega | rfl | (simp; done) | (simp; omega)),
 (fun i hi j hj => row_if (fun h => (rowL_left h).symm) (fun h => by obtain rfl : i = _ := Nat.le_antisymm (Nat.lt_succ_iff.mp hi) (Nat.not_lt.mp h); rw [rowL_last, Nat.sub_self]; match j, hj with | 0, _ => rfl | 1, _ => (show AV.int .i64 (s.st.getD (((s.st.length : Int) - 1).toNat + 0) 0) = _; rw [last_nat]; rfl))),
 rfl,
 rfl,
 rfl, trivial⟩)⟩)))⟩))⟩
theorem st_ret1b (p : Pg) (c : Int) (s : S8) (sn : List Ob) (n done : Int) (hk : ¬ s.st.length = 0) : Vc (vcShr 3 (s.st.length - 1) (runR p c s (s.st.length - 1) (s.st.getD (s.st.length - 1) 0) (sn ++ [⟨3, (s.st.getD (s.st.length - 1) 0)⟩]) n (done + 1) 0) [(0, 0), (1, 1), (2, 2), (3, 3), (4, 4)] (runS p c { s with st := s.st.take (s.st.length - 1), pc := (s.st.getD (s.st.length - 1) 0) } (sn ++ [⟨3, (s.st.getD (s.st.length - 1) 0)⟩]) n (done + 1) 0)) :=
  vc_of (q := ((0 : Nat) + (List.length (S8.st s) - (1 : Nat)) ≤ List.length (S8.st s) - (1 : Nat)) ∧ (List.length (S8.st s) - (1 : Nat) ≤ List.length (S8.st s)) ∧ (frS8b3 p ((frS8b2 p ((frS8b13 c s ((List.length (S8.st s) - (1 : Nat) = List.length (List.take (List.length (S8.st s) - (1 : Nat)) (S8.st s))) ∧ (List.getD (S8.st s) (List.length (S8.st s) - (1 : Nat)) (0 : Int) = List.getD (S8.st s) (List.length (S8.st s) - (1 : Nat)) (0 : Int)) ∧ ((0 : Nat) = (0 : Nat)) ∧ (List.length (sn ++ [Ob.mk (3 : Int) (List.getD (S8.st s) (List.length (S8.st s) - (1 : Nat)) (0 : Int))]) = List.length (sn ++ [Ob.mk (3 : Int) (List.getD (S8.st s) (List.length (S8.st s) - (1 : Nat)) (0 : Int))])) ∧ (List.length (S8.m s) = List.length (S8.m s)) ∧ (∀ (i : Nat), i < List.length (S8.m s) → ∀ (j : Nat), j < (1 : Nat) → AV.int IntKind.i64 (List.getD (S8.m s) i (0 : Int)) = AV.int IntKind.i64 (List.getD (S8.m s) i (0 : Int))) ∧ (List.length (S8.st s) - (1 : Nat) = List.length (List.take (List.length (S8.st s) - (1 : Nat)) (S8.st s))) ∧ (∀ (i : Nat), i < List.length (S8.st s) - (1 : Nat) → ∀ (j : Nat), j < (1 : Nat) → AV.int IntKind.i64 (List.getD (S8.st s) i (0 : Int)) = AV.int IntKind.i64 (List.getD (List.take (List.length (S8.st s) - (1 : Nat)) (S8.st s)) i (0 : Int))) ∧ (List.length (sn ++ [Ob.mk (3 : Int) (List.getD (S8.st s) (List.length (S8.st s) - (1 : Nat)) (0 : Int))]) = List.length (sn ++ [Ob.mk (3 : Int) (List.getD (S8.st s) (List.length (S8.st s) - (1 : Nat)) (0 : Int))])) ∧ (∀ (i : Nat), i < List.length (sn ++ [Ob.mk (3 : Int) (List.getD (S8.st s) (List.length (S8.st s) - (1 : Nat)) (0 : Int))]) → ∀ (j : Nat), j < (2 : Nat) → rowL obC (sn ++ [Ob.mk (3 : Int) (List.getD (S8.st s) (List.length (S8.st s) - (1 : Nat)) (0 : Int))]) i j = rowL obC (sn ++ [Ob.mk (3 : Int) (List.getD (S8.st s) (List.length (S8.st s) - (1 : Nat)) (0 : Int))]) i j) ∧ (n = n) ∧ (done + (1 : Int) = done + (1 : Int)) ∧ ((0 : Int) = (0 : Int)) ∧ True))))))) (by kernel_rfl)
    ⟨(by first | omega | rfl | (simp; done) | (simp; omega)),
 (by first | omega | rfl | (simp; done) | (simp; omega)), (frS8b3_mk p (frS8b2_mk p (frS8b13_mk c s ⟨(by first | omega | rfl | (simp; done) | (simp; omega)),
 rfl,
 rfl,
 rfl,
 rfl,
 (fun _ _ _ _ => rfl),
 (by first | omega | rfl | (simp; done) | (simp; omega)),
 take_get,
 rfl,
 (fun _ _ _ _ => rfl),
 rfl,
 rfl,
 rfl, trivial⟩)))⟩
end
end Go.Proofs.Ytjdiabjmphdhiaa.Px
