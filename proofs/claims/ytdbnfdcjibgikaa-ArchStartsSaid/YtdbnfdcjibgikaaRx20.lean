/- What is carried out in the order of the text: what each step adds. -/
import Derived.Test.YtdbnfdcjibgikaaRx19
set_option linter.unusedVariables false
set_option linter.unusedSimpArgs false
namespace Go.Proofs.Ytdbnfdcjibgikaa.Rx
open Go.RowKit
section
variable {P : Program}
structure Light (s s' : DS) : Prop where
  heap : s'.st.heap = s.st.heap
  next : s'.st.next = s.st.next
  hv : s'.hv = s.hv
  al : s'.al = s.al
  wr : s'.wr = s.wr
theorem stepD_inv {md : Bool} {call : CallF} {nt n0 : Nat} {ops : Array Oper} {bs : List Nat} {i : Nat} {s s' : DS} {q : List Prop} (h : stepD P md call nt n0 ops bs i s = some (s', q)) :
    ∃ o g, ops[i]? = some o ∧ dstOk nt o.dst = true ∧ guardA ops o s.st.env s.orc = some g ∧
      ((g.1 = false ∧ s'.st.env = putE s.st.env o.dst undA ∧ Light s s' ∧ q = g.2.2) ∨
       (g.1 = true ∧ ∃ r, evD P md call o.op (evalA s.st.env) s.st.heap s.st.next g.2.1 = some r ∧ q = g.2.2 ++ r.cs ∧ s'.st.env = putE s.st.env o.dst r.v ∧
        ((isHv P o.op (evalA s.st.env) = false ∧ Light s s') ∨
         (isHv P o.op (evalA s.st.env) = true ∧ s'.hv = i :: s.hv ∧ s'.st.heap = r.heap ∧ s'.st.next = r.next ∧
          (((s.wr || isWr P o.op (evalA s.st.env) g.2.1 || !(frzd s.st.heap ((rdD o.op (evalA s.st.env)).filter fun _ => !(decide (clsOf P o.op = .read))))) = true ∧ (∀ k ∈ s.hv, (bs.getD i 0).testBit k = true) ∧ s'.al = s.al ∧ s'.wr = true) ∨
           ((s.wr || isWr P o.op (evalA s.st.env) g.2.1) = false ∧ (∀ id ∈ rdD o.op (evalA s.st.env), id < n0 ∨ ∃ k, (id, k) ∈ s.al ∧ (bs.getD i 0).testBit k = true) ∧
            frzd s.st.heap ((rdD o.op (evalA s.st.env)).filter fun _ => !(decide (clsOf P o.op = .read))) = true ∧ s'.al = newIds s.st.next r.next i ++ s.al ∧ s'.wr = false)))))) := by
  unfold stepD at h
  split at h
  · cases h
  · rename_i o ho
    obtain ⟨hd, h1⟩ := bif_some h
    clear h
    obtain ⟨g, hg, h2⟩ := Option.bind_eq_some_iff.1 h1
    clear h1
    refine ⟨o, g, ho, hd, hg, ?_⟩
    split at h2
    · rename_i hgf
      simp only [Option.some.injEq, Prod.mk.injEq] at h2
      obtain ⟨rfl, rfl⟩ := h2
      exact .inl ⟨hgf, rfl, ⟨rfl, rfl, rfl, rfl, rfl⟩, rfl⟩
    · rename_i hgt
      obtain ⟨r, hr, h3⟩ := Option.bind_eq_some_iff.1 h2
      clear h2
      refine .inr ⟨hgt, r, hr, ?_⟩
      cases hh : isHv P o.op (evalA s.st.env) with
      | false =>
        rw [hh] at h3
        simp only [cond_false, Option.some.injEq, Prod.mk.injEq] at h3
        obtain ⟨rfl, rfl⟩ := h3
        exact ⟨rfl, rfl, .inl ⟨rfl, ⟨rfl, rfl, rfl, rfl, rfl⟩⟩⟩
      | true =>
        rw [hh] at h3
        simp only [cond_true] at h3
        cases hw : (s.wr || isWr P o.op (evalA s.st.env) g.2.1 || !(frzd s.st.heap ((rdD o.op (evalA s.st.env)).filter fun _ => !(decide (clsOf P o.op = .read))))) with
        | true =>
          rw [hw] at h3
          simp only [cond_true] at h3
          obtain ⟨h4, h5⟩ := bif_some h3
          simp only [Option.some.injEq, Prod.mk.injEq] at h5
          obtain ⟨rfl, rfl⟩ := h5
          exact ⟨rfl, rfl, .inr ⟨rfl, rfl, rfl, rfl, .inl ⟨rfl, fun k hk => List.all_eq_true.1 h4 k hk, rfl, rfl⟩⟩⟩
        | false =>
          rw [hw] at h3
          simp only [cond_false] at h3
          obtain ⟨h4, h5⟩ := bif_some h3
          simp only [Option.some.injEq, Prod.mk.injEq] at h5
          obtain ⟨rfl, rfl⟩ := h5
          rw [Bool.or_eq_false_iff, Bool.not_eq_false'] at hw
          refine ⟨rfl, rfl, .inr ⟨rfl, rfl, rfl, rfl, .inr ⟨hw.1, fun id hid => ?_, hw.2, rfl, rfl⟩⟩⟩
          have := List.all_eq_true.1 h4 id hid
          rw [Bool.or_eq_true] at this
          rcases this with h6 | h6
          · exact .inl (Nat.blt_eq ▸ h6)
          · obtain ⟨⟨a, k⟩, k1, k2⟩ := List.any_eq_true.1 h6
            simp only [Bool.and_eq_true, Nat.beq_eq] at k2
            obtain ⟨rfl, k3⟩ := k2
            exact .inr ⟨k, k1, k3⟩
/-- what is called by contract -/
theorem isCl_inv {op : Op} {ρ : Operand → AV} {orc : List Orc} (h : isCl op ρ orc = true) : ∃ fo args at_ f caps a' r' H' tl, op = .call { callee := .value fo, args := args, argTypes := at_ } ∧ ρ fo = .clo f caps ∧ orc = .cl a' r' H' :: tl := by
  unfold isCl at h
  split at h
  · split at h
    · rename_i fo args at_
      split at h
      · rename_i f caps hf
        exact ⟨fo, args, at_, f, caps, _, _, _, _, rfl, hf, rfl⟩
      · cases h
    · cases h
  · cases h
theorem isCl_congr {op : Op} {ρ ρ' : Operand → AV} {orc : List Orc} (he : ∀ x ∈ op.operands.toList, ρ x = ρ' x) : isCl op ρ orc = isCl op ρ' orc := by
  unfold isCl
  split
  · split
    · rename_i fo args at_
      rw [he fo (by simp [Op.operands, Call.operands])]
    · rfl
  · rfl
theorem evD_congr {md : Bool} {call : CallF} {op : Op} {ρ ρ' : Operand → AV} {h : Nat → Option Blk} {next : Nat} {orc : List Orc} (he : ∀ x ∈ op.operands.toList, ρ x = ρ' x) : evD P md call op ρ h next orc = evD P md call op ρ' h next orc := by
  unfold evD
  rw [isCl_congr he]
  exact evOp_congr he
theorem evD_local {md : Bool} {call : CallF} {op : Op} {ρ : Operand → AV} {h h' : Nat → Option Blk} {next : Nat} {orc : List Orc} {r : Res} (hw : isWr P op ρ orc = false) (hh : isHv P op ρ = true) (hr : evD P md call op ρ h next orc = some r)
    (e : ∀ id ∈ rdD op ρ, h id = h' id) (hf : frzd h ((rdD op ρ).filter fun _ => !(decide (clsOf P op = .read))) = true) :
    ∃ r', evD P md call op ρ h' next orc = some r' ∧ r'.v = r.v ∧ r'.orc = r.orc ∧ r'.cs = r.cs ∧ r'.next = r.next ∧ Adds h next r.heap r.next ∧ Adds h' next r'.heap r.next ∧ ∀ id, next ≤ id → id < r.next → r'.heap id = r.heap id := by
  have hrd : clsOf P op ≠ .call → rdD op ρ = rdIds op ρ := fun hc => by
    unfold rdD
    split
    · exact absurd rfl hc
    · rfl
  cases hc : clsOf P op with
  | pur => unfold isHv at hh; rw [hc] at hh; cases hh
  | read =>
    unfold evD evOp at hr ⊢
    rw [hc] at hr ⊢
    simp only at hr ⊢
    obtain ⟨q, hq, rfl⟩ := Option.map_eq_some_iff.1 hr
    rw [hrd (by rw [hc]; simp)] at e
    rw [evRead_local e] at hq
    exact ⟨⟨q.v, h', next, q.orc, q.cs⟩, by rw [hq]; rfl, rfl, rfl, rfl, rfl, ⟨Nat.le_refl _, fun _ _ => rfl⟩, ⟨Nat.le_refl _, fun _ _ => rfl⟩, fun id h1 h2 => absurd h2 (by simp only; omega)⟩
  | make =>
    unfold evD evOp at hr ⊢
    rw [hc] at hr ⊢
    simp only at hr ⊢
    rw [hrd (by rw [hc]; simp)] at e hf
    have hf' : frzd h (rdIds op ρ) = true := by
      rw [hc] at hf
      rw [List.filter_eq_self.2 (by intro a _; rfl)] at hf
      exact hf
    exact evMake_local e hf' hr
  | write => unfold isWr at hw; rw [hc] at hw; cases hw
  | call =>
    unfold isWr at hw
    rw [hc] at hw
    simp only [Bool.not_eq_false'] at hw
    obtain ⟨fo, args, at_, f, caps, a', r', H', tl, rfl, hfo, rfl⟩ := isCl_inv hw
    unfold evD at hr ⊢
    rw [hw] at hr ⊢
    simp only [cond_true, evOp, clsOf, hfo] at hr ⊢
    have erd : rdD (.call { callee := .value fo, args := args, argTypes := at_ }) ρ = (args.toList.map ρ ++ caps).flatMap idsF := by unfold rdD; simp only [hfo, capsOf]
    rw [erd] at e
    refine callC_local (by exact e) ?_ hr
    rw [← erd]
    have : ((rdD (.call { callee := .value fo, args := args, argTypes := at_ }) ρ).filter fun _ => !(decide (Cls.call = .read))) = rdD (.call { callee := .value fo, args := args, argTypes := at_ }) ρ := List.filter_eq_self.2 (by intro a _; rfl)
    rw [hc, this] at hf
    exact hf
/-- one that takes nothing from memory: whatever the memory -/
theorem evD_pur {md : Bool} {call : CallF} {op : Op} {ρ : Operand → AV} {h h' : Nat → Option Blk} {next next' : Nat} {orc : List Orc} {r : Res} (hh : isHv P op ρ = false) (hr : evD P md call op ρ h next orc = some r) : evOp P md call op ρ h' next' orc = some ⟨r.v, h', next', r.orc, r.cs⟩ := by
  unfold evD evOp at hr
  unfold evOp
  cases hc : clsOf P op with
  | pur =>
    rw [hc] at hr
    simp only at hr ⊢
    obtain ⟨q, hq, rfl⟩ := Option.map_eq_some_iff.1 hr
    rw [hq]
    rfl
  | read =>
    rw [hc] at hr
    simp only at hr ⊢
    obtain ⟨q, hq, rfl⟩ := Option.map_eq_some_iff.1 hr
    unfold isHv at hh
    rw [hc] at hh
    simp only at hh
    split at hh
    · rename_i t x k
      have e : evRead P md (.fieldAddr t x k) ρ h' orc = evRead P md (.fieldAddr t x k) ρ h orc := by
        simp only [evRead]
        unfold fieldAddrA
        split at hh
        · rename_i hx; rw [hx]
        · rename_i hx; rw [hx]
        · cases hh
      rw [e, hq]
      rfl
    · rename_i t x
      have e : evRead P md (.load t x) ρ h' orc = evRead P md (.load t x) ρ h orc := by
        simp only [evRead]
        unfold loadA
        split at hh
        · rename_i hx; rw [hx]
        · cases hh
      rw [e, hq]
      rfl
    · rename_i t x q'
      have e : evRead P md (.indexAddr t x q') ρ h' orc = evRead P md (.indexAddr t x q') ρ h orc := by
        simp only [evRead]
        unfold indexAddrA
        split at hh
        · rename_i hx; rw [hx]; rfl
        · rename_i hx; rw [hx]; rfl
        · cases hh
      rw [e, hq]
      rfl
    · cases hh
  | make => unfold isHv at hh; rw [hc] at hh; cases hh
  | write => unfold isHv at hh; rw [hc] at hh; cases hh
  | call => unfold isHv at hh; rw [hc] at hh; cases hh
/-- the call by contract, in the walk's own words -/
theorem callC_wp {cx : Cx} {md : Bool} {call : CallF} {o : Oper} {env : Nat → AV} {a : Act} {orc : List Orc} {next : Nat} {r : Res} (hcl : isCl o.op (evalA env) orc = true) (h : evD P md call o.op (evalA env) cx.H next orc = some r) (hp : ∀ p ∈ r.cs, p) (hc : CRep cx)
    (henv : ∀ t, Rep cx (env t) (a.tmps.getD t undef)) (hfree : ∀ i, next ≤ i → i < r.next → cx.H i = none)
    {K : Act → World → Prop} {Q : Exit → Act → World → Prop} (hK : ∀ cx' z, cx'.H = r.heap → CRep cx' → Stab cx cx' → Rep cx' r.v z → NewIds cx.H next r.heap r.next → K (a.put o.dst z) cx'.w) : o.wp P a cx.w K Q := by
  unfold evD at h
  rw [hcl] at h
  simp only [cond_true] at h
  have hcls : clsOf P o.op = .call := by
    obtain ⟨fo, args, at_, f, caps, a', r', H', tl, e, _, _⟩ := isCl_inv hcl
    rw [e]; rfl
  obtain ⟨f, avs, vs, h1, _, h3, h4, h5⟩ := evCall_base (cx := cx) (a := a) h hcls henv
  unfold callC at h1
  split at h1
  · rename_i args' res H tl
    obtain ⟨h6, h7⟩ := bif_some h1
    obtain ⟨p, hp', rfl⟩ := Option.map_eq_some_iff.1 h7
    rw [Bool.and_eq_true] at h6
    refine h5 K Q ?_ ((callC_ok h6.2 hp' (fun x hx => hp x (by simp [hx])) (hp (PureC P f args' res H) (by simp)) hc (fun i i1 i2 => hfree i i1 i2) vs h3 h4).mono ?_)
    · have h8 := h6.1
      unfold fnOk at h8
      split at h8
      · rename_i fn hfn
        simp only [Bool.and_eq_true, Bool.not_eq_true', beq_eq_false_iff_ne] at h8
        exact ⟨fn, hfn, h8.1, h8.2⟩
      · cases h8
    · rintro e w' ⟨z, cx', rfl, rfl, m3, m4, m5, m6, m7⟩
      exact ⟨z, rfl, hK cx' z m3 m4 m5 m6 m7⟩
  · cases h1
/-- a reading, in the walk's own words -/
theorem evRead_wp {cx : Cx} {md : Bool} {call : CallF} {o : Oper} {env : Nat → AV} {a : Act} {orc : List Orc} {next : Nat} {r : Res} (hcls : clsOf P o.op = .read) (h : evOp P md call o.op (evalA env) cx.H next orc = some r) (hp : ∀ p ∈ r.cs, p) (hc : CRep cx)
    (henv : ∀ t, Rep cx (env t) (a.tmps.getD t undef))
    {K : Act → World → Prop} {Q : Exit → Act → World → Prop} (hK : ∀ cx' z, cx'.H = r.heap → CRep cx' → Stab cx cx' → Rep cx' r.v z → K (a.put o.dst z) cx'.w) : o.wp P a cx.w K Q := by
  have hre := fun x => rep_eval henv x
  unfold evOp at h
  rw [hcls] at h
  obtain ⟨q, hq, rfl⟩ := Option.map_eq_some_iff.1 h
  obtain ⟨z, h1, h2⟩ := evRead_sound hq hp hc hre
  have hk := hK cx z rfl hc (Stab.refl cx) h2
  unfold Oper.wp
  rw [h1]
  exact hk
end
end Go.Proofs.Ytdbnfdcjibgikaa.Rx
