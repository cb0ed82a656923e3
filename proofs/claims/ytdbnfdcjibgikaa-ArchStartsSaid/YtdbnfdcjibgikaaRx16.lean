/- Code and functions. -/
import Derived.Test.YtdbnfdcjibgikaaRx15
import Derived.LoopN
set_option linter.unusedVariables false
set_option linter.unusedSimpArgs false
namespace Go.Proofs.Ytdbnfdcjibgikaa.Rx
open Go.RowKit
def X.to : X → Exit
  | .nrm => .normal
  | .ext id => .exit id
  | .ret => .ret
abbrev CodeR := Option (X × St × List Orc × List Prop)
def evLoop (body : St → List Orc → CodeR) : Nat → St → List Orc → CodeR
  | 0, _, _ => none
  | k + 1, st, orc => (body st orc).bind fun q => match q.1 with
    | .nrm => (evLoop body k q.2.1 q.2.2.1).map fun r => (r.1, r.2.1, r.2.2.1, q.2.2.2 ++ r.2.2.2)
    | x => some q
/-- from a state to another, whatever the world: no ids need last -/
def Ok (P : Program) (nt : Nat) (c : Code) (I : St) (x : X) (J : St) : Prop :=
  ∀ cx a, SRep cx I a nt → ∀ Q : Exit → Act → World → Prop, (∀ cx' a', SRep cx' J a' nt → Ext cx cx' → Q x.to a' cx'.w) → c.wp P Q a cx.w
section
variable (P : Program)
/-- the part of a region that draws its order: another text's -/
abbrev DrawF := CallF → Nat → Array Oper → St → List Orc → Option (St × List Orc × List Prop)
def evReg (dr : DrawF) (md : Bool) (call : CallF) (nt : Nat) (ops : Array Oper) (draw : Bool) (st : St) (orc : List Orc) : Option (St × List Orc × List Prop) :=
  bif draw then dr call nt ops st orc else evOps P md call nt ops (List.range ops.size) st orc
def evCode (dr : DrawF) (lp md : Bool) (call : CallF) (nt : Nat) : Code → St → List Orc → CodeR
  | .skip, st, orc => some (.nrm, st, orc, [])
  | .region id ops draw, st, orc => match orc with
    | .le r I :: orc => bif lp then (leS r st I).bind fun p => (evReg P dr md call nt ops draw I.st orc).map fun q => (.nrm, q.1, q.2.1, p ++ q.2.2) else none
    | .sr r I x J :: orc => bif draw then (bif lp then (leS r st I).map fun p => (x, J.st, orc, p ++ [Ok P nt (.region id ops draw) I.st x J.st]) else none)
      else (evReg P dr md call nt ops draw st (.sr r I x J :: orc)).map fun q => (.nrm, q.1, q.2.1, q.2.2)
    | orc => (evReg P dr md call nt ops draw st orc).map fun q => (.nrm, q.1, q.2.1, q.2.2)
  | .seq a b, st, orc => (evCode dr lp md call nt a st orc).bind fun q => match q.1 with
    | .nrm => (evCode dr lp md call nt b q.2.1 q.2.2.1).map fun r => (r.1, r.2.1, r.2.2.1, q.2.2.2 ++ r.2.2.2)
    | x => some q
  | .cond c a b, st, orc => match orc with
    | .su r I x J :: orc => bif lp then (leS r st I).map fun p => (x, J.st, orc, p ++ [Ok P nt (.cond c a b) I.st x J.st]) else none
    | orc => match evalA st.env c with
      | .bool t => match orc with
        | .b t' :: orc => (bif t' then evCode dr lp md call nt a st orc else evCode dr lp md call nt b st orc).map fun q => (q.1, q.2.1, q.2.2.1, (t = t') :: q.2.2.2)
        | orc => match t with
          | true => evCode dr lp md call nt a st orc
          | false => evCode dr lp md call nt b st orc
      | _ => none
  | .block id c, st, orc => match orc with
    | .su r I x J :: orc => bif lp then (leS r st I).map fun p => (x, J.st, orc, p ++ [Ok P nt (.block id c) I.st x J.st]) else none
    | orc => (evCode dr lp md call nt c st orc).map fun q => match q.1 with
      | .ext i => bif Nat.beq i id then (.nrm, q.2) else q
      | x => q
  | .loop c, st, orc => match orc with
    | .lp r I x J :: orc => bif lp then (leS r st I).map fun p => (x, J.st, orc, p ++ [Ok P nt (.loop c) I.st x J.st]) else none
    | .it k :: orc => evLoop (evCode dr lp md call nt c) k st orc
    | orc => evLoop (evCode dr lp md call nt c) 3000 st orc
  | .exit id, st, orc => some (.ext id, st, orc, [])
  | .ret, st, orc => some (.ret, st, orc, [])
  | _, _, _ => none
end
/-- a region that draws does what is foretold -/
def DrawOk (P : Program) (dr : DrawF) : Prop :=
  ∀ call, CallOk P call → ∀ nt ops st orc q cx a id, dr call nt ops st orc = some q → (∀ p ∈ q.2.2, p) → SRep cx st a nt → ∀ Q : Exit → Act → World → Prop, (∀ cx' a', SRep cx' q.1 a' nt → Stab cx cx' → Q .normal a' cx'.w) → (Code.region id ops true).wp P Q a cx.w
section
variable {P : Program}
theorem SRep.le {cx : Cx} {st : St} {a : Act} {nt : Nat} (h : SRep cx st a nt) {r : List (Nat × Nat)} {I : Sm} {ps : List Prop} (hl : leS r st I = some ps) (hp : ∀ p ∈ ps, p) : ∃ cx', SRep cx' I.st a nt ∧ Ext cx cx' ∧ cx'.w = cx.w := by
  obtain ⟨h1, h2, h3⟩ := leS_sound h.c h.H hl hp h.env
  exact ⟨cx.ren r (lookO I.heap), ⟨rfl, h1, h2, h3, h.sz, h.df⟩, ren_ext h.c r _, rfl⟩
theorem evReg_sound {dr : DrawF} (hdr : DrawOk P dr) {md : Bool} {call : CallF} (hcall : CallOk P call) {nt : Nat} {ops : Array Oper} {draw : Bool} {id : Nat} {st : St} {orc : List Orc} {q : St × List Orc × List Prop} {cx : Cx} {a : Act} (h : evReg P dr md call nt ops draw st orc = some q) (hp : ∀ p ∈ q.2.2, p) (hs : SRep cx st a nt)
    {Q : Exit → Act → World → Prop} (hQ : ∀ cx' a', SRep cx' q.1 a' nt → Stab cx cx' → Q .normal a' cx'.w) : (Code.region id ops draw).wp P Q a cx.w := by
  unfold evReg at h
  cases draw with
  | true => exact hdr call hcall nt ops st orc q cx a id h hp hs Q hQ
  | false => exact wp_region (evOps_sound hcall _ h hp hs hQ)
/-- what a stretch of code leaves -/
def After (lp : Bool) (cx cx' : Cx) : Prop := Ext cx cx' ∧ (lp = false → Stab cx cx')
theorem After.refl (lp : Bool) (cx : Cx) : After lp cx cx := ⟨Ext.refl cx, fun _ => Stab.refl cx⟩
theorem After.trans {lp : Bool} {a b c : Cx} (h : After lp a b) (k : After lp b c) : After lp a c := ⟨h.1.trans k.1, fun e => (h.2 e).trans (k.2 e)⟩
theorem After.of {lp : Bool} {a b : Cx} (h : Stab a b) : After lp a b := ⟨h.ext, fun _ => h⟩
theorem evLoop_rounds {c : Code} {lp : Bool} {nt : Nat} {body : St → List Orc → CodeR}
    (hb : ∀ st orc q cx a, body st orc = some q → (∀ p ∈ q.2.2.2, p) → SRep cx st a nt → ∀ Q : Exit → Act → World → Prop, (∀ cx' a', SRep cx' q.2.1 a' nt → After lp cx cx' → Q q.1.to a' cx'.w) → c.wp P Q a cx.w) :
    ∀ (k : Nat) {st : St} {orc : List Orc} {q : X × St × List Orc × List Prop} {cx : Cx} {a : Act}, evLoop body k st orc = some q → (∀ p ∈ q.2.2.2, p) → SRep cx st a nt → ∀ Q : Exit → Act → World → Prop, (∀ cx' a', SRep cx' q.2.1 a' nt → After lp cx cx' → Q q.1.to a' cx'.w) →
      Code.rounds P c Q k a cx.w
  | 0, st, orc, q, cx, a, h, hp, hs, Q, hQ => by simp [evLoop] at h
  | k + 1, st, orc, q, cx, a, h, hp, hs, Q, hQ => by
    unfold evLoop at h
    obtain ⟨q1, hq1, h1⟩ := Option.bind_eq_some_iff.1 h
    clear h
    rw [rounds_succ]
    split at h1
    · rename_i hx
      obtain ⟨q2, hq2, rfl⟩ := Option.map_eq_some_iff.1 h1
      refine hb st orc q1 cx a hq1 (fun p hp' => hp p (by simp [hp'])) hs _ fun cx1 a1 hs1 ha1 => ?_
      rw [hx]
      exact evLoop_rounds hb k hq2 (fun p hp' => hp p (by simp [hp'])) hs1 Q fun cx2 a2 hs2 ha2 => hQ cx2 a2 hs2 (ha1.trans ha2)
    · rename_i x hx
      simp only [Option.some.injEq] at h1; subst h1
      refine hb st orc q1 cx a hq1 hp hs _ fun cx1 a1 hs1 ha1 => ?_
      have := hQ cx1 a1 hs1 ha1
      cases hxx : q1.1 with
      | nrm => exact absurd hxx hx
      | ext id => rw [hxx] at this; exact this
      | ret => rw [hxx] at this; exact this
theorem evCode_sound {dr : DrawF} (hdr : DrawOk P dr) {lp md : Bool} {call : CallF} (hcall : CallOk P call) {nt : Nat} : ∀ (c : Code) {st : St} {orc : List Orc} {q : X × St × List Orc × List Prop} {cx : Cx} {a : Act}, evCode P dr lp md call nt c st orc = some q → (∀ p ∈ q.2.2.2, p) → SRep cx st a nt →
    ∀ Q : Exit → Act → World → Prop, (∀ cx' a', SRep cx' q.2.1 a' nt → After lp cx cx' → Q q.1.to a' cx'.w) → c.wp P Q a cx.w
  | .skip, st, orc, q, cx, a, h, hp, hs, Q, hQ => by
    simp only [evCode, Option.some.injEq] at h; subst h
    exact wp_skip (hQ cx a hs (After.refl lp cx))
  | .region id ops draw, st, orc, q, cx, a, h, hp, hs, Q, hQ => by
    unfold evCode at h
    split at h
    · obtain ⟨hlp, h1⟩ := bif_some h
      clear h
      obtain ⟨p, hpp, h2⟩ := Option.bind_eq_some_iff.1 h1
      obtain ⟨q1, hq1, rfl⟩ := Option.map_eq_some_iff.1 h2
      obtain ⟨cx1, hs1, he1, hw1⟩ := hs.le hpp (fun x hx => hp x (by simp [hx]))
      rw [← hw1]
      refine evReg_sound hdr hcall hq1 (fun x hx => hp x (by simp [hx])) hs1 fun cx2 a2 hs2 hst2 => hQ cx2 a2 hs2 ⟨he1.trans hst2.ext, fun e => ?_⟩
      rw [hlp] at e; cases e
    · cases hdw : draw with
      | true =>
        rw [hdw] at h
        simp only [cond_true] at h
        obtain ⟨hlp, h1⟩ := bif_some h
        clear h
        obtain ⟨p, hpp, rfl⟩ := Option.map_eq_some_iff.1 h1
        obtain ⟨cx1, hs1, he1, hw1⟩ := hs.le hpp (fun x hx => hp x (by simp [hx]))
        rw [← hw1]
        refine hp (Ok P nt _ _ _ _) (by simp) cx1 a hs1 Q fun cx2 a2 hs2 he2 => hQ cx2 a2 hs2 ⟨he1.trans he2, fun e => ?_⟩
        rw [hlp] at e; cases e
      | false =>
        rw [hdw] at h
        simp only [cond_false] at h
        obtain ⟨q1, hq1, rfl⟩ := Option.map_eq_some_iff.1 h
        exact evReg_sound hdr hcall hq1 hp hs fun cx2 a2 hs2 hst2 => hQ cx2 a2 hs2 (After.of hst2)
    · obtain ⟨q1, hq1, rfl⟩ := Option.map_eq_some_iff.1 h
      exact evReg_sound hdr hcall hq1 hp hs fun cx2 a2 hs2 hst2 => hQ cx2 a2 hs2 (After.of hst2)
  | .seq c d, st, orc, q, cx, a, h, hp, hs, Q, hQ => by
    unfold evCode at h
    obtain ⟨q1, hq1, h1⟩ := Option.bind_eq_some_iff.1 h
    clear h
    refine wp_seq ?_
    split at h1
    · rename_i hx
      obtain ⟨q2, hq2, rfl⟩ := Option.map_eq_some_iff.1 h1
      refine evCode_sound hdr hcall c hq1 (fun p hp' => hp p (by simp [hp'])) hs _ fun cx1 a1 hs1 ha1 => ?_
      rw [hx]
      exact evCode_sound hdr hcall d hq2 (fun p hp' => hp p (by simp [hp'])) hs1 Q fun cx2 a2 hs2 ha2 => hQ cx2 a2 hs2 (ha1.trans ha2)
    · rename_i hx
      simp only [Option.some.injEq] at h1; subst h1
      refine evCode_sound hdr hcall c hq1 hp hs _ fun cx1 a1 hs1 ha1 => ?_
      have := hQ cx1 a1 hs1 ha1
      cases hxx : q1.1 with
      | nrm => exact absurd hxx hx
      | ext id => rw [hxx] at this; exact this
      | ret => rw [hxx] at this; exact this
  | .cond x c d, st, orc, q, cx, a, h, hp, hs, Q, hQ => by
    unfold evCode at h
    split at h
    · obtain ⟨hlp, h1⟩ := bif_some h
      clear h
      obtain ⟨p, hpp, rfl⟩ := Option.map_eq_some_iff.1 h1
      obtain ⟨cx1, hs1, he1, hw1⟩ := hs.le hpp (fun x hx => hp x (by simp [hx]))
      rw [← hw1]
      refine hp (Ok P nt _ _ _ _) (by simp) cx1 a hs1 Q fun cx2 a2 hs2 he2 => hQ cx2 a2 hs2 ⟨he1.trans he2, fun e => ?_⟩
      rw [hlp] at e; cases e
    split at h
    · rename_i t ht
      have hr := rep_eval hs.env x
      rw [ht] at hr
      have hv := hr.bool_inv
      split at h
      · rename_i t' orc' _
        obtain ⟨q1, hq1, rfl⟩ := Option.map_eq_some_iff.1 h
        have e := hp (t = t') (by simp)
        subst e
        refine wp_cond hv ?_
        cases t with
        | true => exact evCode_sound hdr hcall c hq1 (fun p hp' => hp p (by simp [hp'])) hs Q hQ
        | false => exact evCode_sound hdr hcall d hq1 (fun p hp' => hp p (by simp [hp'])) hs Q hQ
      · refine wp_cond hv ?_
        cases t with
        | true => exact evCode_sound hdr hcall c h hp hs Q hQ
        | false => exact evCode_sound hdr hcall d h hp hs Q hQ
    · cases h
  | .block id c, st, orc, q, cx, a, h, hp, hs, Q, hQ => by
    unfold evCode at h
    split at h
    · obtain ⟨hlp, h1⟩ := bif_some h
      clear h
      obtain ⟨p, hpp, rfl⟩ := Option.map_eq_some_iff.1 h1
      obtain ⟨cx1, hs1, he1, hw1⟩ := hs.le hpp (fun x hx => hp x (by simp [hx]))
      rw [← hw1]
      refine hp (Ok P nt _ _ _ _) (by simp) cx1 a hs1 Q fun cx2 a2 hs2 he2 => hQ cx2 a2 hs2 ⟨he1.trans he2, fun e => ?_⟩
      rw [hlp] at e; cases e
    obtain ⟨q1, hq1, h1⟩ := Option.map_eq_some_iff.1 h
    clear h
    refine wp_block ?_
    have hcs : q1.2.2.2 = q.2.2.2 ∧ q1.2.1 = q.2.1 := by
      rw [← h1]
      cases hx : q1.1 with
      | nrm => exact ⟨rfl, rfl⟩
      | ext i =>
        simp only
        cases Nat.beq i id <;> exact ⟨rfl, rfl⟩
      | ret => exact ⟨rfl, rfl⟩
    refine evCode_sound hdr hcall c hq1 (by rw [hcs.1]; exact hp) hs _ fun cx1 a1 hs1 ha1 => ?_
    have := hQ cx1 a1 (by rw [← hcs.2]; exact hs1) ha1
    cases hx : q1.1 with
    | nrm =>
      rw [hx] at h1
      simp only at h1
      rw [← h1, hx] at this
      exact this
    | ext i =>
      rw [hx] at h1
      simp only at h1
      cases hb : Nat.beq i id with
      | true =>
        rw [hb] at h1
        simp only [cond_true] at h1
        have e := Nat.eq_of_beq_eq_true hb
        subst e
        rw [← h1] at this
        simp only [X.to, Exit.inBlock, if_true]
        exact this
      | false =>
        rw [hb] at h1
        simp only [cond_false] at h1
        rw [← h1, hx] at this
        have hne : ¬ i = id := fun e => by rw [e, Nat.beq_refl] at hb; cases hb
        simp only [X.to, Exit.inBlock, hne, if_false]
        exact this
    | ret =>
      rw [hx] at h1
      simp only at h1
      rw [← h1, hx] at this
      exact this
  | .loop c, st, orc, q, cx, a, h, hp, hs, Q, hQ => by
    unfold evCode at h
    split at h
    · obtain ⟨hlp, h1⟩ := bif_some h
      clear h
      obtain ⟨p, hpp, rfl⟩ := Option.map_eq_some_iff.1 h1
      obtain ⟨cx1, hs1, he1, hw1⟩ := hs.le hpp (fun x hx => hp x (by simp [hx]))
      rw [← hw1]
      refine hp (Ok P nt _ _ _ _) (by simp) cx1 a hs1 Q fun cx2 a2 hs2 he2 => hQ cx2 a2 hs2 ⟨he1.trans he2, fun e => ?_⟩
      rw [hlp] at e; cases e
    · exact wp_loop_rounds _ (evLoop_rounds (fun st orc q cx a h hp hs Q hQ => evCode_sound hdr hcall c h hp hs Q hQ) _ h hp hs Q hQ)
    · exact wp_loop_rounds _ (evLoop_rounds (fun st orc q cx a h hp hs Q hQ => evCode_sound hdr hcall c h hp hs Q hQ) _ h hp hs Q hQ)
  | .exit id, st, orc, q, cx, a, h, hp, hs, Q, hQ => by
    simp only [evCode, Option.some.injEq] at h; subst h
    exact wp_exit (hQ cx a hs (After.refl lp cx))
  | .ret, st, orc, q, cx, a, h, hp, hs, Q, hQ => by
    simp only [evCode, Option.some.injEq] at h; subst h
    exact wp_ret (hQ cx a hs (After.refl lp cx))
  | .rangeFunc .., st, orc, q, cx, a, h, hp, hs, Q, hQ => by simp [evCode] at h
  | .scope _, st, orc, q, cx, a, h, hp, hs, Q, hQ => by simp [evCode] at h
  | .label _, st, orc, q, cx, a, h, hp, hs, Q, hQ => by simp [evCode] at h
  | .goto _, st, orc, q, cx, a, h, hp, hs, Q, hQ => by simp [evCode] at h
  | .refuse _, st, orc, q, cx, a, h, hp, hs, Q, hQ => by simp [evCode] at h
end
end Go.Proofs.Ytdbnfdcjibgikaa.Rx
