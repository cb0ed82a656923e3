/- A region that draws its order, whole. -/
import Derived.Test.YtdbnfdcjibgikaaRx22
set_option linter.unusedVariables false
set_option linter.unusedSimpArgs false
namespace Go.Proofs.Ytdbnfdcjibgikaa.Rx
open Go.RowKit
section
variable {P : Program}
def Cx.drew (cx : Cx) : Cx := ⟨{ cx.w with drawn := cx.w.drawn + 1 }, cx.R, cx.φ, cx.H, cx.B⟩
theorem drew_stab (cx : Cx) : Stab cx cx.drew :=
  ⟨⟨rfl, fun _ h => h, fun _ h => .inl h, rfl, rfl, rfl, Nat.le_refl _, fun _ _ _ => rfl⟩, fun id b h => ⟨b, h, fun _ => ⟨rfl, sameShape.rfl' b⟩, fun _ => rfl⟩, fun id b b' h h' => by
    have h2 : cx.H id = some b' := h'
    rw [h] at h2; cases h2; exact Nat.le_refl _⟩
theorem drew_crep {cx : Cx} (hc : CRep cx) : CRep cx.drew := by
  refine ⟨fun id b hb => ?_, hc.inj, hc.rlt, hc.blt⟩
  have h := hc.hb id b hb
  unfold HB at h ⊢
  split
  · rename_i cs hcs
    rw [hcs] at h
    obtain ⟨g, cur, h1, h2, h3, h4, h5⟩ := h
    refine ⟨g, cur, h1, h2, h3, fun j a ha => ?_, h5⟩
    obtain ⟨u, u1, u2, u3⟩ := h4 j a ha
    exact ⟨u, u1, u2, u3.stab hc (drew_stab cx)⟩
  · rename_i m n f hcs
    rw [hcs] at h
    rcases h with h | ⟨g, cap, cur, h1, h2, h3, h4, h5, h6, h7⟩
    · exact .inl h
    · refine .inr ⟨g, cap, cur, h1, h2, h3, h4, h5, fun i hi j hj => ?_, h7⟩
      obtain ⟨u, u1, u2, u3⟩ := h6 i hi j hj
      exact ⟨u, u1, u2, u3.mono (fun _ h => h) fun _ _ => rfl⟩
theorem drew_srep {cx : Cx} {st : St} {a : Act} {nt : Nat} (hs : SRep cx st a nt) : SRep cx.drew st a nt :=
  ⟨hs.H, drew_crep hs.c, fun t => (hs.env t).stab hs.c (drew_stab cx), hs.lt, hs.sz, hs.df⟩
theorem InvD.any {md : Bool} {call : CallF} {nt : Nat} {ops : Array Oper} {st : St} {D : Nat → DS} {cx0 : Cx} (hD : SeqD P md call nt ops st D) (hcall : CallOk P call) (hs : statOk ops (befs ops) = true)
    {Q : Exit → Act → World → Prop} (hQ : ∀ cx' a', SRep cx' (D ops.size).st a' nt → Stab cx0 cx' → Q .normal a' cx'.w) :
    ∀ (fuel : Nat) {listed : Array Bool} {a : Act} {cx : Cx} {e : Nat → AV} {N : Nat}, InvD ops st D nt cx0 listed a cx e N → (List.range ops.size).countP (fun i => !(listed.getD i false)) ≤ fuel → wpAny P .any ops Q fuel listed a cx.w := by
  have fin : ∀ {listed : Array Bool} {a : Act} {cx : Cx} {e : Nat → AV} {N : Nat}, InvD ops st D nt cx0 listed a cx e N → Region.ready .any ops listed = [] → Q .normal a cx.w := by
    intro listed a cx e N hI hr
    have hall := hI.cl.done hs hr
    obtain ⟨hH, hlt⟩ := hD.heap_at hI.ph (Nat.le_refl _) (fun k hk _ => hall k hk) (fun k h1 h2 _ => by omega)
    have he : e = (D ops.size).st.env := by
      funext t
      by_cases hex : ∃ (k : Nat) (p : Oper), ops[k]? = some p ∧ p.dst = some t
      · obtain ⟨k, p, hp, hd⟩ := hex
        have hk : k < ops.size := (Array.getElem?_eq_some_iff.1 hp).1
        rw [hI.env.e1 k p t hp hd (hall k hk)]
        exact (hD.env_keep (t := t) (a := k + 1) ops.size (by omega) (Nat.le_refl _) fun j o' j1 j2 j3 j4 => by
          have := (statOk_dst hs j3 hp hd).1
          rcases this with rfl | h5
          · omega
          · exact h5 j4).symm
      · rw [hI.env.e2 t fun k p hp hd => absurd ⟨k, p, hp, hd⟩ hex]
        have := hD.env_keep (t := t) (a := 0) ops.size (by omega) (Nat.le_refl _) fun j o' j1 j2 j3 j4 => hex ⟨j, o', j3, j4⟩
        rw [this, hD.st0]
    refine hQ cx a ⟨hH, hI.s.c, ?_, fun id hid => hlt id (by rw [hH]; exact hid), hI.s.sz, hI.s.df⟩ hI.stab
    rw [← he]
    exact hI.s.env
  intro fuel
  induction fuel with
  | zero =>
    intro listed a cx e N hI hcnt
    have hr : Region.ready .any ops listed = [] := by
      rw [List.eq_nil_iff_forall_not_mem]
      intro i hi
      obtain ⟨hnu, hlt, _⟩ := hI.cl.ready hi
      have := List.countP_eq_zero.1 (Nat.le_zero.1 hcnt) i (List.mem_range.2 hlt)
      unfold Up at hnu
      simp at this
      exact hnu (by simpa using this)
    exact ⟨hr, fin hI hr⟩
  | succ fuel ih =>
    intro listed a cx e N hI hcnt
    refine ⟨fin hI, fun i hi => ?_⟩
    refine hI.step hD hcall hs hi fun cx' a' e' N' hI' => ih hI' ?_
    obtain ⟨hnu, hlt, _⟩ := hI.cl.ready hi
    have hi' : i < listed.size := by rw [hI.cl.sz]; exact hlt
    have hx := @up_set listed i
    have := count_lt (p := fun i => !(listed.getD i false)) (p' := fun k => !((listed.setIfInBounds i true).getD k false)) (List.mem_range.2 hlt) (by
        unfold Up at hnu
        simp only [Bool.not_eq_true'] at hnu ⊢
        cases hb : listed.getD i false with
        | false => rfl
        | true => exact absurd hb hnu) (by
        have := (hx (k := i) hi').2 (.inl rfl)
        unfold Up at this
        simp only [this, Bool.not_true]) (fun k hk => by
        simp only [Bool.not_eq_true'] at hk ⊢
        cases hb : listed.getD k false with
        | false => rfl
        | true =>
          have := (hx (k := k) hi').2 (.inr hb)
          unfold Up at this
          rw [this] at hk; cases hk)
    omega
theorem drawA_ok (md : Bool) : DrawOk P (drawA P md) := by
  intro call hcall nt ops st orc q cx a id h hp hs Q hQ
  unfold drawA at h
  obtain ⟨h1, h2⟩ := bif_some h
  rw [Bool.and_eq_true] at h1
  obtain ⟨q', hq, rfl⟩ := Option.map_eq_some_iff.1 h2
  obtain ⟨s', ps⟩ := q'
  obtain ⟨D, d0, d1, d2⟩ := runD_seq ops.size 0 hq hp
  rw [Nat.zero_add] at d1
  have hD : SeqD P md call nt ops st D := ⟨by rw [d0], by rw [d0], by rw [d0], by rw [d0], fun j hj => d2 j (Nat.zero_le _) (by omega), hs.lt⟩
  refine wp_region_any h1.1 ?_
  have hs' := drew_srep hs
  have hno : ∀ k, ¬ Up (Array.replicate ops.size false) k := fun k hk => by
    unfold Up at hk
    rw [Array.getD_eq_getD_getElem?, Array.getElem?_replicate] at hk
    split at hk <;> cases hk
  refine InvD.any hD hcall h1.2 (cx0 := cx.drew) (Q := Q) (fun cx' a' hs2 hst2 => ?_) ops.size (cx := cx.drew) (e := st.env) (N := st.next) ⟨⟨by simp, fun k o _ hu => absurd hu (hno k)⟩, Stab.refl _, ?_, ⟨fun k o t _ _ hu => absurd hu (hno k), fun t _ => rfl⟩, .inl ⟨fun j _ hu => absurd hu (hno j), fun id hid => ?_, fun j _ hu => absurd hu (hno j), fun id hid _ => ?_⟩⟩ ?_
  · rw [d1] at hs2
    exact hQ cx' a' hs2 ((drew_stab cx).trans hst2)
  · have : cx.drew.H = st.heap := hs'.H
    rw [this]
    exact hs'
  · rw [show cx.drew.H = st.heap from hs'.H]
  · rw [show cx.drew.H = st.heap from hs'.H]
    cases hx : st.heap id with
    | none => rfl
    | some b => have := hs.lt id (by rw [hx]; rfl); omega
  · exact Nat.le_trans List.countP_le_length (by simp)
end
end Go.Proofs.Ytdbnfdcjibgikaa.Rx
