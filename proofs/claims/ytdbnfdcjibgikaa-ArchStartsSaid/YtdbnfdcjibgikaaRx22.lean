/- A region that draws its order does what is foretold. -/
import Derived.Test.YtdbnfdcjibgikaaRx21
set_option linter.unusedVariables false
set_option linter.unusedSimpArgs false
namespace Go.Proofs.Ytdbnfdcjibgikaa.Rx
open Go.RowKit
section
variable {P : Program} {md : Bool} {call : CallF} {nt : Nat} {ops : Array Oper} {st : St} {D : Nat → DS}
def Ph1 (ops : Array Oper) (st : St) (D : Nat → DS) (listed : Array Bool) (H : Nat → Option Blk) : Prop :=
  (∀ j, j < ops.size → Up listed j → hvy D j → (D (j + 1)).wr = false) ∧ (∀ id, id < st.next → H id = st.heap id) ∧
  (∀ j, j < ops.size → Up listed j → hvy D j → ∀ id, (D j).st.next ≤ id → id < (D (j + 1)).st.next → H id = (D (j + 1)).st.heap id) ∧
  (∀ id, st.next ≤ id → (∀ j, j < ops.size → Up listed j → hvy D j → ¬ ((D j).st.next ≤ id ∧ id < (D (j + 1)).st.next)) → H id = none)
def Ph2 (ops : Array Oper) (D : Nat → DS) (listed : Array Bool) (H : Nat → Option Blk) : Prop :=
  ∃ k, k < ops.size ∧ Up listed k ∧ hvy D k ∧ (D (k + 1)).wr = true ∧ (∀ j, j < ops.size → Up listed j → hvy D j → j ≤ k) ∧ H = (D (k + 1)).st.heap ∧ ∀ id, (H id).isSome = true → id < (D (k + 1)).st.next
structure EnvI (ops : Array Oper) (st : St) (D : Nat → DS) (listed : Array Bool) (e : Nat → AV) : Prop where
  e1 : ∀ (k : Nat) o t, ops[k]? = some o → o.dst = some t → Up listed k → e t = (D (k + 1)).st.env t
  e2 : ∀ t, (∀ (k : Nat) o, ops[k]? = some o → o.dst = some t → ¬ Up listed k) → e t = st.env t
theorem not_light {j : Nat} (hh : hvy D j) (hl : Light (D j) (D (j + 1))) : False := by
  unfold hvy at hh
  rw [hl.hv] at hh
  have := congrArg List.length hh
  simp at this
theorem SeqD.wr_befs (h : SeqD P md call nt ops st D) {i : Nat} (hi : i < ops.size) (hh : hvy D i) (hw : (D (i + 1)).wr = true) : ∀ k, k < i → hvy D k → ((befs ops).getD i 0).testBit k = true := by
  intro k hk hkh
  obtain ⟨q, hq, _⟩ := h.step i hi
  obtain ⟨o, g, _, _, _, h1⟩ := stepD_inv hq
  rcases h1 with ⟨_, _, hl, _⟩ | ⟨_, r, hr, _, _, ⟨_, hl⟩ | ⟨_, _, e1, e2, ⟨_, h2, _, _⟩ | ⟨_, _, _, _, e⟩⟩⟩
  · exact (not_light hh hl).elim
  · exact (not_light hh hl).elim
  · exact h2 k ((h.hv_mem i (by omega)).2 ⟨hk, hkh⟩)
  · rw [hw] at e; cases e
theorem SeqD.light_run (h : SeqD P md call nt ops st D) {a : Nat} : ∀ (b : Nat), a ≤ b → b ≤ ops.size → (∀ j, a ≤ j → j < b → ¬ hvy D j) → (D b).st.heap = (D a).st.heap ∧ (D b).st.next = (D a).st.next
  | 0, h1, h2, h3 => by obtain rfl : a = 0 := by omega
                        exact ⟨rfl, rfl⟩
  | b + 1, h1, h2, h3 => by
    by_cases e : a = b + 1
    · subst e; exact ⟨rfl, rfl⟩
    · obtain ⟨k1, k2⟩ := h.light_run b (by omega) (by omega) fun j j1 j2 => h3 j j1 (by omega)
      rcases h.light (j := b) (by omega) with h4 | ⟨_, h4⟩
      · exact absurd h4 (h3 b (by omega) (by omega))
      · exact ⟨h4.heap.trans k1, h4.next.trans k2⟩
/-- all that touched memory before i has come up, and nothing else -/
theorem SeqD.heap_at (h : SeqD P md call nt ops st D) {listed : Array Bool} {H : Nat → Option Blk} (hph : Ph1 ops st D listed H ∨ Ph2 ops D listed H) {i : Nat} (hi : i ≤ ops.size) (h1 : ∀ k, k < i → hvy D k → Up listed k) (h2 : ∀ k, i ≤ k → k < ops.size → hvy D k → ¬ Up listed k) :
    H = (D i).st.heap ∧ ∀ id, (H id).isSome = true → id < (D i).st.next := by
  rcases hph with ⟨p0, p1, p2, p3⟩ | ⟨k, k1, k2, k3, k4, k5, k6, k7⟩
  · have hw : (D i).wr = false := by
      cases hw : (D i).wr with
      | false => rfl
      | true =>
        obtain ⟨k, k1, k2, k3⟩ := h.wr_who i hi hw
        have := p0 k (by omega) (h1 k k1 k2) k2
        rw [k3] at this; cases this
    have hn0 : st.next ≤ (D i).st.next := by have := h.next_mono (a := 0) i (by omega) hi hw; rw [h.st0] at this; exact this
    have key : ∀ id, H id = (D i).st.heap id ∧ ((H id).isSome = true → id < (D i).st.next) := fun id => by
      by_cases hid : id < st.next
      · have := h.heap_keep (a := 0) (id := id) (by rw [h.st0]; exact hid) i (by omega) hi hw
        rw [this, h.st0]
        exact ⟨p1 id hid, fun _ => by omega⟩
      · by_cases hex : ∃ j, j < i ∧ hvy D j ∧ (D j).st.next ≤ id ∧ id < (D (j + 1)).st.next
        · obtain ⟨j, j1, j2, j3, j4⟩ := hex
          rw [p2 j (by omega) (h1 j j1 j2) j2 id j3 j4, h.heap_keep (a := j + 1) (id := id) j4 i (by omega) hi hw]
          refine ⟨rfl, fun _ => ?_⟩
          have := h.next_mono (a := j + 1) i (by omega) hi hw
          omega
        · have e1 : H id = none := p3 id (by omega) fun j j1 j2 j3 j4 => by
            by_cases hji : j < i
            · exact hex ⟨j, hji, j3, j4.1, j4.2⟩
            · exact h2 j (by omega) j1 j3 j2
          rw [e1, h.heap_new (id := id) (by omega) i hi hw fun j j1 j2 j3 => hex ⟨j, j1, j2, j3.1, j3.2⟩]
          exact ⟨rfl, fun hx => by cases hx⟩
    exact ⟨funext fun id => (key id).1, fun id => (key id).2⟩
  · have hki : k < i := by
      rcases Nat.lt_or_ge k i with hk | hk
      · exact hk
      · exact absurd k2 (h2 k hk k1 k3)
    obtain ⟨e1, e2⟩ := h.light_run (a := k + 1) i (by omega) hi fun j j1 j2 hj => by
      have := k5 j (by omega) (h1 j j2 hj) hj
      omega
    rw [e1, e2]
    exact ⟨k6, k7⟩
theorem ph_light {listed : Array Bool} {H : Nat → Option Blk} {i : Nat} (hi : i < listed.size) (hl : ¬ hvy D i) (hph : Ph1 ops st D listed H ∨ Ph2 ops D listed H) : Ph1 ops st D (listed.setIfInBounds i true) H ∨ Ph2 ops D (listed.setIfInBounds i true) H := by
  have hu : ∀ j, Up (listed.setIfInBounds i true) j → hvy D j → Up listed j := fun j hj hh => by
    rcases (up_set hi).1 hj with rfl | hj
    · exact absurd hh hl
    · exact hj
  rcases hph with ⟨p0, p1, p2, p3⟩ | ⟨k, k1, k2, k3, k4, k5, k6⟩
  · exact .inl ⟨fun j j1 j2 j3 => p0 j j1 (hu j j2 j3) j3, p1, fun j j1 j2 j3 => p2 j j1 (hu j j2 j3) j3, fun id hid hno => p3 id hid fun j j1 j2 j3 => hno j j1 ((up_set hi).2 (.inr j2)) j3⟩
  · exact .inr ⟨k, k1, (up_set hi).2 (.inr k2), k3, k4, fun j j1 j2 j3 => k5 j j1 (hu j j2 j3) j3, k6⟩
theorem EnvI.put {listed : Array Bool} {e : Nat → AV} (h : EnvI ops st D listed e) (hs : statOk ops (befs ops) = true) {i : Nat} {o : Oper} (ho : ops[i]? = some o) (hi : i < listed.size) {v : AV} (hv : (D (i + 1)).st.env = putE (D i).st.env o.dst v) : EnvI ops st D (listed.setIfInBounds i true) (putE e o.dst v) := by
  refine ⟨fun k p t hp hd hu => ?_, fun t hno => ?_⟩
  · rcases (up_set hi).1 hu with rfl | hu'
    · rw [ho] at hp; cases hp
      rw [hv, putE_same hd, putE_same hd]
    · by_cases hk : k = i
      · subst hk
        rw [ho] at hp; cases hp
        rw [hv, putE_same hd, putE_same hd]
      · have := (statOk_dst hs ho hp hd).1
        rw [putE_other (this.resolve_left hk)]
        exact h.e1 k p t hp hd hu'
  · rw [putE_other fun hd => hno i o ho hd ((up_set hi).2 (.inl rfl))]
    exact h.e2 t fun k p hp hd hu => hno k p hp hd ((up_set hi).2 (.inr hu))
/-- what i looks at is as it is in the order of the text -/
theorem EnvI.agree {listed : Array Bool} {e : Nat → AV} (h : EnvI ops st D listed e) (hD : SeqD P md call nt ops st D) (hs : statOk ops (befs ops) = true) (hc : Closed ops listed) {i : Nat} (hr : i ∈ Region.ready .any ops listed) {o : Oper} (ho : ops[i]? = some o) {t : Tmp} (ht : t ∈ tmpsOf o ops) : e t = (D i).st.env t := by
  obtain ⟨hnu, hi, hc'⟩ := hc.ready hr
  have hi' : i < listed.size := by rw [hc.sz]; exact hi
  have uniq : ∀ (k k' : Nat) p p', ops[k]? = some p → ops[k']? = some p' → p.dst = some t → p'.dst = some t → k = k' := fun k k' p p' h1 h2 h3 h4 => by
    have := (statOk_dst hs h2 h1 h3).1
    exact this.resolve_right fun hn => hn h4
  by_cases hex : ∃ (k : Nat) (p : Oper), ops[k]? = some p ∧ p.dst = some t
  · obtain ⟨k, p, hp, hd⟩ := hex
    have hk : k < ops.size := (Array.getElem?_eq_some_iff.1 hp).1
    have late : ¬ k < i → ¬ Up listed k → e t = (D i).st.env t := fun h1 h2 => by
      rw [h.e2 t fun k' p' hp' hd' hu => h2 (uniq k k' p p' hp hp' hd hd' ▸ hu)]
      have := hD.env_keep (t := t) (a := 0) i (by omega) (by omega) fun j o' j1 j2 j3 j4 => by
        have := uniq k j p o' hp j3 hd j4
        omega
      rw [this, hD.st0]
    rcases (statOk_dst hs ho hp hd).2 ht with rfl | ⟨h1, h2⟩ | ⟨h1, h2⟩
    · exact late (by omega) hnu
    · have hu : Up listed k := by
        have := (hc'.bef hs i ((up_set hi').2 (.inl rfl)) k h2)
        rcases (up_set hi').1 this with rfl | hu
        · omega
        · exact hu
      rw [h.e1 k p t hp hd hu]
      exact (hD.env_keep (t := t) (a := k + 1) i (by omega) (by omega) fun j o' j1 j2 j3 j4 => by
        have := uniq k j p o' hp j3 hd j4
        omega).symm
    · exact late h1 fun hu => hnu (hc.bef hs k hu i h2)
  · rw [h.e2 t fun k p hp hd => absurd ⟨k, p, hp, hd⟩ hex]
    have := hD.env_keep (t := t) (a := 0) i (by omega) (by omega) fun j o' j1 j2 j3 j4 => hex ⟨j, o', j3, j4⟩
    rw [this, hD.st0]
theorem agree_eval {o : Oper} {e e' : Nat → AV} (h : ∀ t ∈ tmpsOf o ops, e t = e' t) : ∀ x ∈ o.op.operands.toList, evalA e x = evalA e' x := fun x hx => by
  cases x with
  | tmp t => exact h t (by
      unfold tmpsOf
      rw [List.mem_append]
      exact .inl (List.mem_filterMap.2 ⟨.tmp t, hx, rfl⟩))
  | _ => rfl
theorem agree_guard {o : Oper} {e e' : Nat → AV} (h : ∀ t ∈ tmpsOf o ops, e t = e' t) {orc : List Orc} : guardA ops o e orc = guardA ops o e' orc := by
  unfold guardA
  cases hg : o.guard with
  | none => rfl
  | some p =>
    obtain ⟨j, want⟩ := p
    simp only
    cases hd : (ops[j]?).bind (·.dst) with
    | none => rfl
    | some d =>
      simp only
      rw [h d (by
        unfold tmpsOf
        rw [List.mem_append]
        refine .inr ?_
        rw [hg]
        simp only [hd, Option.toList, List.mem_singleton])]
theorem evMake_next {md : Bool} {op : Op} {ρ : Operand → AV} {h : Nat → Option Blk} {next : Nat} {orc : List Orc} {r : Res} (hr : evMake P md op ρ h next orc = some r) : next < r.next := by
  cases op with
  | alloc t =>
    obtain ⟨z, hz, rfl⟩ := Option.map_eq_some_iff.1 hr
    exact Nat.lt_succ_self _
  | box t x =>
    obtain ⟨z, hz, rfl⟩ := Option.map_eq_some_iff.1 hr
    exact Nat.lt_succ_self _
  | makeSlice t x y =>
    unfold evMake at hr
    simp only at hr
    split at hr
    · split at hr
      · obtain ⟨i, hi, hr⟩ := Option.bind_eq_some_iff.1 hr
        obtain ⟨z, hz, hr⟩ := Option.bind_eq_some_iff.1 hr
        obtain ⟨hb, hr⟩ := bif_some hr
        obtain ⟨p, hp, rfl⟩ := Option.map_eq_some_iff.1 hr
        exact Nat.lt_succ_self _
      · cases hr
    · cases hr
  | buildSlice t len parts =>
    unfold evMake at hr
    simp only at hr
    split at hr
    · obtain ⟨s, hs, hr⟩ := Option.bind_eq_some_iff.1 hr
      obtain ⟨hb, hr⟩ := bif_some hr
      obtain ⟨z, hz, hr⟩ := Option.bind_eq_some_iff.1 hr
      obtain ⟨cs, hcs, rfl⟩ := Option.map_eq_some_iff.1 hr
      exact Nat.lt_succ_self _
    · cases hr
  | _ => cases hr
structure InvD (ops : Array Oper) (st : St) (D : Nat → DS) (nt : Nat) (cx0 : Cx) (listed : Array Bool) (a : Act) (cx : Cx) (e : Nat → AV) (N : Nat) : Prop where
  cl : Closed ops listed
  stab : Stab cx0 cx
  s : SRep cx ⟨e, cx.H, N⟩ a nt
  env : EnvI ops st D listed e
  ph : Ph1 ops st D listed cx.H ∨ Ph2 ops D listed cx.H
theorem InvD.step {cx0 cx : Cx} {listed : Array Bool} {a : Act} {e : Nat → AV} {N : Nat} (hI : InvD ops st D nt cx0 listed a cx e N) (hD : SeqD P md call nt ops st D) (hcall : CallOk P call) (hs : statOk ops (befs ops) = true) {i : Nat} (hr : i ∈ Region.ready .any ops listed)
    {K : Act → World → Prop} {Q : Exit → Act → World → Prop} (hK : ∀ cx' a' e' N', InvD ops st D nt cx0 (listed.setIfInBounds i true) a' cx' e' N' → K a' cx'.w) : wpOp P ops Q i K a cx.w := by
  obtain ⟨hnu, hi, hc'⟩ := hI.cl.ready hr
  have hi' : i < listed.size := by rw [hI.cl.sz]; exact hi
  obtain ⟨q, hq, hp⟩ := hD.step i hi
  obtain ⟨o, g, ho, hd, hg, h1⟩ := stepD_inv hq
  have hag : ∀ t ∈ tmpsOf o ops, (D i).st.env t = e t := fun t ht => (hI.env.agree hD hs hI.cl hr ho ht).symm
  have hev := agree_eval hag
  rw [agree_guard hag] at hg
  unfold wpOp
  rw [ho]
  simp only
  rcases h1 with ⟨hgf, hv, hl, rfl⟩ | ⟨hgt, r, hrr, rfl, hv, h2⟩
  · have hw := guardA_sound hg hp hI.s
    rw [hgf] at hw
    rw [hw]
    simp only [Bool.false_eq_true, if_false]
    exact hK cx _ _ N ⟨hc', hI.stab, hI.s.put (Stab.refl cx) hI.s.c rfl hI.s.lt hd (.pure (.val _)), hI.env.put hs ho hi' hv, ph_light hi' (fun hh => not_light hh hl) hI.ph⟩
  · have hw := guardA_sound hg (fun p hp' => hp p (by simp [hp'])) hI.s
    have hpr : ∀ p ∈ r.cs, p := fun p hp' => hp p (by simp [hp'])
    rw [hgt] at hw
    rw [hw]
    simp only [if_true]
    refine .inl ?_
    rcases h2 with ⟨hh, hl⟩ | ⟨hh, hhv, e1, e2, h3⟩
    · have h4 := (evOp_congr hev).symm.trans (evD_pur (h' := cx.H) (next' := N) hh hrr)
      refine evOp_sound hcall (st := ⟨e, cx.H, N⟩) h4 hpr hI.s hd fun cx' a' hs' hst' => ?_
      have hHe : cx'.H = cx.H := hs'.H
      refine hK cx' a' _ N ⟨hc', hI.stab.trans hst', ?_, hI.env.put hs ho hi' hv, ?_⟩
      · rw [hHe]; exact hs'
      · rw [hHe]; exact ph_light hi' (fun hh => not_light hh hl) hI.ph
    · rcases h3 with ⟨_, _, _, hwt⟩ | ⟨hnw, hrd, hfz, _, hwf⟩
      · -- a writer, or behind one
        have hbef := hD.wr_befs hi hhv hwt
        have up1 : ∀ k, k < i → hvy D k → Up listed k := fun k hk hkh => by
          have := hc'.bef hs i ((up_set hi').2 (.inl rfl)) k (hbef k hk hkh)
          rcases (up_set hi').1 this with rfl | hu
          · omega
          · exact hu
        have up2 : ∀ k, i ≤ k → k < ops.size → hvy D k → ¬ Up listed k := fun k hk hkn hkh hu => by
          by_cases hki : k = i
          · subst hki; exact hnu hu
          · have hwk : (D (k + 1)).wr = true := by
              cases hx : (D (k + 1)).wr with
              | true => rfl
              | false => rw [hD.wr_mono (a := i + 1) (k + 1) (by omega) (by omega) hx] at hwt; cases hwt
            exact hnu (hI.cl.bef hs k hu i (hD.wr_befs hkn hkh hwk i (by omega) hhv))
        obtain ⟨hH, hlt⟩ := hD.heap_at hI.ph (Nat.le_of_lt hi) up1 up2
        have fin : ∀ cx' a', SRep cx' ⟨putE e o.dst r.v, r.heap, r.next⟩ a' nt → Stab cx cx' → K a' cx'.w := fun cx' a' hs' hst' => by
          have hHe : cx'.H = r.heap := hs'.H
          refine hK cx' a' _ r.next ⟨hc', hI.stab.trans hst', by rw [hHe]; exact hs', hI.env.put hs ho hi' hv, .inr ⟨i, hi, (up_set hi').2 (.inl rfl), hhv, hwt, fun j j1 j2 j3 => ?_, by rw [hHe, e1], fun id hid => by rw [e2]; exact hs'.lt id (by rw [hHe] at hid; exact hid)⟩⟩
          rcases (up_set hi').1 j2 with rfl | hu
          · exact Nat.le_refl _
          · rcases Nat.lt_or_ge i j with h5 | h5
            · exact absurd hu (up2 j (by omega) j1 j3)
            · exact h5
        have hrr' : evD P md call o.op (evalA e) (D i).st.heap (D i).st.next g.2.1 = some r := evD_congr hev ▸ hrr
        have hs0 : SRep cx ⟨e, (D i).st.heap, (D i).st.next⟩ a nt := ⟨hH, hI.s.c, hI.s.env, fun id hid => hlt id (by rw [hH]; exact hid), hI.s.sz, hI.s.df⟩
        cases hcl : isCl o.op (evalA e) g.2.1 with
        | true =>
          refine callC_wp hcl (by rw [hH]; exact hrr') hpr hI.s.c hI.s.env (fun id h5 h6 => ?_) fun cx' z m1 m2 m3 m4 m5 => fin cx' _ (hI.s.put m3 m2 m1 (m5.lt hlt) hd m4) m3
          cases hx : cx.H id with
          | none => rfl
          | some b => have := hlt id (by rw [hx]; rfl); omega
        | false =>
          unfold evD at hrr'
          rw [hcl] at hrr'
          exact evOp_sound hcall hrr' hpr hs0 hd fin
      · -- nobody has written
        rw [Bool.or_eq_false_iff] at hnw
        have hph : Ph1 ops st D listed cx.H := by
          rcases hI.ph with h5 | ⟨k, k1, k2, k3, k4, _⟩
          · exact h5
          · exfalso
            rcases Nat.lt_or_ge i k with h6 | h6
            · exact hnu (hI.cl.bef hs k k2 i (hD.wr_befs k1 k3 k4 i h6 hhv))
            · have hne : k ≠ i := fun h7 => hnu (h7 ▸ k2)
              rw [hD.wr_mono (a := k + 1) i (by omega) (by omega) hnw.1] at k4
              cases k4
        obtain ⟨p0, p1, p2, p3⟩ := hph
        have hn0 : st.next ≤ (D i).st.next := by have := hD.next_mono (a := 0) i (by omega) (by omega) hnw.1; rw [hD.st0] at this; exact this
        have hrd' : ∀ id ∈ rdD o.op (evalA (D i).st.env), (D i).st.heap id = cx.H id := fun id hid => by
          rcases hrd id hid with h5 | ⟨k, k1, k2⟩
          · rw [p1 id h5, hD.heap_keep (a := 0) (id := id) (by rw [hD.st0]; exact h5) i (by omega) (by omega) hnw.1, hD.st0]
          · obtain ⟨k3, k4, k5, k6⟩ := hD.al_mem i (by omega) k1
            have hu : Up listed k := by
              have := hc'.bef hs i ((up_set hi').2 (.inl rfl)) k k2
              rcases (up_set hi').1 this with rfl | hu
              · omega
              · exact hu
            rw [p2 k (by omega) hu k4 id k5 k6, hD.heap_keep (a := k + 1) (id := id) k6 i (by omega) (by omega) hnw.1]
        obtain ⟨r', k1, k2, k3, k4, k5, k6, k7, k8⟩ := evD_local hnw.2 hh hrr hrd' hfz
        rw [evD_congr hev] at k1
        have disj : ∀ j, j < ops.size → Up listed j → hvy D j → (D (j + 1)).st.next ≤ (D i).st.next ∨ r.next ≤ (D j).st.next := fun j j1 j2 j3 => by
          have hwj := p0 j j1 j2 j3
          rcases Nat.lt_or_ge j i with h5 | h5
          · exact .inl (hD.next_mono (a := j + 1) i (by omega) (by omega) hnw.1)
          · have hne : j ≠ i := fun h7 => hnu (h7 ▸ j2)
            refine .inr ?_
            rw [← e2]
            exact hD.next_mono (a := i + 1) j (by omega) (by omega) (hD.wr_step j1 hwj)
        have hfree : ∀ id, (D i).st.next ≤ id → id < r.next → cx.H id = none := fun id h5 h6 => p3 id (by omega) fun j j1 j2 j3 j4 => by
          rcases disj j j1 j2 j3 with h7 | h7 <;> omega
        have fin : ∀ cx' z, cx'.H = r'.heap → CRep cx' → Stab cx cx' → Rep cx' r'.v z → K (a.put o.dst z) cx'.w := fun cx' z m1 m2 m3 m4 => by
          have hlt' : ∀ id, (r'.heap id).isSome = true → id < max N r.next := fun id hid => by
            by_cases h5 : (D i).st.next ≤ id ∧ id < r.next
            · omega
            · rw [k7.old id h5] at hid
              have : id < N := hI.s.lt id hid
              omega
          have hs' := hI.s.put (next := max N r.next) m3 m2 m1 hlt' hd m4
          rw [k2] at hs'
          refine hK cx' _ _ _ ⟨hc', hI.stab.trans m3, by rw [m1]; exact hs', hI.env.put hs ho hi' hv, .inl ?_⟩
          rw [m1]
          refine ⟨fun j j1 j2 j3 => ?_, fun id hid => ?_, fun j j1 j2 j3 id h5 h6 => ?_, fun id hid hno => ?_⟩
          · rcases (up_set hi').1 j2 with rfl | hu
            · exact hwf
            · exact p0 j j1 hu j3
          · rw [k7.old id (by omega)]
            exact p1 id hid
          · rcases (up_set hi').1 j2 with rfl | hu
            · rw [e1]
              rw [e2] at h6
              exact k8 id h5 h6
            · rw [k7.old id fun h7 => by rcases disj j j1 hu j3 with h8 | h8 <;> omega]
              exact p2 j j1 hu j3 id h5 h6
          · rw [k7.old id fun h7 => hno i hi ((up_set hi').2 (.inl rfl)) hhv (by rw [e2]; exact h7)]
            exact p3 id hid fun j j1 j2 j3 => hno j j1 ((up_set hi').2 (.inr j2)) j3
        have hpr' : ∀ p ∈ r'.cs, p := by rw [k4]; exact hpr
        cases hcl : isCl o.op (evalA e) g.2.1 with
        | true => exact callC_wp hcl k1 hpr' hI.s.c hI.s.env (fun id h5 h6 => hfree id h5 (by rw [k5] at h6; exact h6)) fun cx' z m1 m2 m3 m4 _ => fin cx' z m1 m2 m3 m4
        | false =>
          have hrl := k1
          unfold evD at hrl
          rw [hcl] at hrl
          simp only [cond_false] at hrl
          cases hcc : clsOf P o.op with
          | pur => unfold isHv at hh; rw [hcc] at hh; cases hh
          | read => exact evRead_wp hcc hrl hpr' hI.s.c hI.s.env fin
          | make =>
            refine evOp_base hrl (by rw [hcc]; simp) hpr' rfl hI.s.c hI.s.env ?_ fun cx' z m1 m2 m3 m4 _ => fin cx' z m1 m2 m3 m4
            have hm : (D i).st.next < r'.next := by
              unfold evOp at hrl
              rw [hcc] at hrl
              exact evMake_next hrl
            exact hfree _ (Nat.le_refl _) (by rw [k5] at hm; exact hm)
          | write => have := hnw.2; unfold isWr at this; rw [hcc] at this; cases this
          | call =>
            have := hnw.2
            unfold isWr at this
            rw [hcc] at this
            simp only [Bool.not_eq_false'] at this
            rw [isCl_congr hev, hcl] at this
            cases this
end
end Go.Proofs.Ytdbnfdcjibgikaa.Rx
