/- Merged: Rx27, WdDo, S8a, S8b, S8c, S8k. -/
import Derived.Test.YtjdiabjmphdhiaaMjG
import Derived.Test.YtjdiabjmphdhiaaMjF
import Derived.WalkSpells
import Derived.Test.YtjdiabjmphdhiaaMjH
set_option linter.unusedVariables false
set_option linter.unusedSimpArgs false
set_option maxRecDepth 100000
namespace Go.Proofs.Ytjdiabjmphdhiaa.Rx
section
open Go.RowKit
/-- what must hold for a value to stand when row id has n elements -/
def shr1 (id n : Nat) : AV → Option (List Prop)
  | .own i _ _ off len => bif Nat.beq i id then some [off + len ≤ n] else some []
  | .eptr i _ _ _ _ => bif Nat.beq i id then none else some []
  | .agg _ => none
  | .tup _ => none
  | .clo _ (_ :: _) => none
  | _ => some []
def shrL (id n : Nat) : List AV → Option (List Prop)
  | [] => some []
  | a :: l => (shr1 id n a).bind fun p => (shrL id n l).map (p ++ ·)
def shrV (id n : Nat) : AV → Option (List Prop)
  | .agg cs => shrL id n cs
  | .clo _ (c :: cs) => shrL id n (c :: cs)
  | a => shr1 id n a
def shrE (id n : Nat) : List (Nat × AV) → Option (List Prop)
  | [] => some []
  | q :: l => (shrV id n q.2).bind fun p => (shrE id n l).map (p ++ ·)
def shrB (id n : Nat) (q : Nat × Blk) : Option (Blk × List Prop) :=
  match q.2.c with
  | .box cs => bif Nat.beq q.1 id then none else (shrL id n cs).map fun p => (q.2, p)
  | .rows m k f => bif Nat.beq q.1 id then some ({ q.2 with c := .rows m n f }, [n ≤ k]) else some (q.2, [])
def shrH (id n : Nat) : List (Nat × Blk) → Option (List (Nat × Blk) × List Prop)
  | [] => some ([], [])
  | q :: l => (shrB id n q).bind fun b => (shrH id n l).map fun r => ((q.1, b.1) :: r.1, b.2 ++ r.2)
def shrS (id n : Nat) (J : Sm) : Option (Sm × List Prop) :=
  (shrH id n J.heap).bind fun h => (shrE id n J.env).map fun p => (⟨J.env, h.1, J.next⟩, h.2 ++ p)
/-- row id cut to n elements, and the state then known as K -/
def vcShr (id n : Nat) (J : Sm) (r : List (Nat × Nat)) (K : Sm) : Prop :=
  match shrS id n J with
  | some q => match leS r q.1.st K with
    | some ps => allP (q.2 ++ ps)
    | none => False
  | none => False
section
variable {P : Program}
theorem shrH_get {id n : Nat} : ∀ {l : List (Nat × Blk)} {l' : List (Nat × Blk)} {ps : List Prop}, shrH id n l = some (l', ps) → (∀ p ∈ ps, p) → ∀ k, (lookO l k = none ∧ lookO l' k = none) ∨ ∃ b b' qs, lookO l k = some b ∧ lookO l' k = some b' ∧ shrB id n (k, b) = some (b', qs) ∧ ∀ q ∈ qs, q
  | [], l', ps, h, hp, k => by
    simp only [shrH, Option.some.injEq, Prod.mk.injEq] at h
    obtain ⟨rfl, rfl⟩ := h
    exact .inl ⟨rfl, rfl⟩
  | (i, b) :: l, l', ps, h, hp, k => by
    unfold shrH at h
    obtain ⟨q, hq, h⟩ := Option.bind_eq_some_iff.1 h
    obtain ⟨r, hr, h⟩ := Option.map_eq_some_iff.1 h
    simp only [Prod.mk.injEq] at h
    obtain ⟨rfl, rfl⟩ := h
    unfold lookO
    cases hk : Nat.beq k i with
    | true =>
      obtain rfl := Nat.eq_of_beq_eq_true hk
      exact .inr ⟨b, q.1, q.2, rfl, rfl, hq, fun x hx => hp x (List.mem_append_left _ hx)⟩
    | false => exact shrH_get (by rw [hr]) (fun x hx => hp x (List.mem_append_right _ hx)) k
theorem shrE_get {id n : Nat} : ∀ {l : List (Nat × AV)} {ps : List Prop}, shrE id n l = some ps → (∀ p ∈ ps, p) → ∀ t, ∃ qs, shrV id n (look .junk l t) = some qs ∧ ∀ q ∈ qs, q
  | [], ps, h, hp, t => ⟨[], rfl, fun q hq => by cases hq⟩
  | (i, a) :: l, ps, h, hp, t => by
    unfold shrE at h
    obtain ⟨q, hq, h⟩ := Option.bind_eq_some_iff.1 h
    obtain ⟨r, hr, rfl⟩ := Option.map_eq_some_iff.1 h
    unfold look
    cases hk : Nat.beq t i with
    | true => exact ⟨q, hq, fun x hx => hp x (List.mem_append_left _ hx)⟩
    | false => exact shrE_get hr (fun x hx => hp x (List.mem_append_right _ hx)) t
theorem shrL_get {id n : Nat} : ∀ {l : List AV} {ps : List Prop}, shrL id n l = some ps → (∀ p ∈ ps, p) → ∀ (j : Nat) a, l[j]? = some a → ∃ qs, shr1 id n a = some qs ∧ ∀ q ∈ qs, q
  | [], ps, h, hp, j, a, ha => by simp at ha
  | x :: l, ps, h, hp, j, a, ha => by
    unfold shrL at h
    obtain ⟨q, hq, h⟩ := Option.bind_eq_some_iff.1 h
    obtain ⟨r, hr, rfl⟩ := Option.map_eq_some_iff.1 h
    cases j with
    | zero =>
      simp only [List.getElem?_cons_zero, Option.some.injEq] at ha
      subst ha
      exact ⟨q, hq, fun x hx => hp x (List.mem_append_left _ hx)⟩
    | succ j => exact shrL_get hr (fun x hx => hp x (List.mem_append_right _ hx)) j a (by simpa using ha)
/-- all stands when a row is known to be shorter -/
theorem SRep.shr {cx : Cx} {J J' : Sm} {a : Act} {nt id n : Nat} {ps : List Prop} (hs : SRep cx J.st a nt) (h : shrS id n J = some (J', ps)) (hp : ∀ p ∈ ps, p) : ∃ cx', SRep cx' J'.st a nt ∧ Ext cx cx' ∧ cx'.w = cx.w := by
  unfold shrS at h
  obtain ⟨q, hq, h⟩ := Option.bind_eq_some_iff.1 h
  obtain ⟨pe, he, h⟩ := Option.map_eq_some_iff.1 h
  simp only [Prod.mk.injEq] at h
  obtain ⟨rfl, rfl⟩ := h
  have hget := shrH_get (l' := q.1) (ps := q.2) hq fun p hp' => hp p (List.mem_append_left _ hp')
  have hget' := shrE_get he fun p hp' => hp p (List.mem_append_right _ hp')
  have hH : cx.H = lookO J.heap := hs.H
  have one : ∀ (x : AV) (v : Value) (qs : List Prop), shr1 id n x = some qs → (∀ q ∈ qs, q) → Rep cx x v → Rep ⟨cx.w, cx.R, cx.φ, lookO q.1, cx.B⟩ x v := by
    intro x v qs hx hqs hr
    cases x with
    | own i g m off len =>
      obtain ⟨b, hb, hle, hO⟩ := hr.own_inv
      have ho := hr.own_one
      rw [hH] at hb
      rcases hget i with ⟨h1, _⟩ | ⟨b1, b2, rs, h1, h2, h3, h4⟩
      · rw [hb] at h1; cases h1
      · rw [hb] at h1; cases h1
        have hgen : b2.gen = b.gen := by
          unfold shrB at h3
          split at h3
          · obtain ⟨_, h3⟩ : Nat.beq i id = false ∧ _ := by
              cases hk : Nat.beq i id with
              | true => rw [hk] at h3; cases h3
              | false => exact ⟨rfl, by rw [hk] at h3; exact h3⟩
            simp only [cond_false] at h3
            obtain ⟨p, _, h3⟩ := Option.map_eq_some_iff.1 h3
            cases h3; rfl
          · cases hk : Nat.beq i id with
            | true => rw [hk] at h3; simp only [cond_true, Option.some.injEq, Prod.mk.injEq] at h3; rw [← h3.1]
            | false => rw [hk] at h3; simp only [cond_false, Option.some.injEq, Prod.mk.injEq] at h3; rw [← h3.1]
        refine .own h2 (by rw [hgen]; exact hle) ho fun e => ?_
        obtain ⟨k, f, k1, k2, k3⟩ := hO (by rw [← hgen]; exact e)
        unfold shrB at h3
        simp only [k1] at h3
        simp only [shr1] at hx
        cases hk : Nat.beq i id with
        | true =>
          rw [hk] at h3 hx
          simp only [cond_true, Option.some.injEq, Prod.mk.injEq] at h3 hx
          subst hx
          have hlen := hqs _ (List.mem_singleton.2 rfl)
          exact ⟨n, f, by rw [← h3.1], hlen, k3⟩
        | false =>
          rw [hk] at h3
          simp only [cond_false, Option.some.injEq, Prod.mk.injEq] at h3
          exact ⟨k, f, by rw [← h3.1]; exact k1, k2, k3⟩
    | bptr i off =>
      obtain ⟨g, cap, b, h1, h2, h3, rfl⟩ := hr.bptr_inv
      rw [hH] at h1
      rcases hget i with ⟨h4, _⟩ | ⟨b1, b2, rs, h4, h5, h6, h7⟩
      · rw [h1] at h4; cases h4
      · rw [h1] at h4; cases h4
        refine .bptr h5 ?_ h3
        unfold shrB at h6
        split at h6
        · cases hk : Nat.beq i id with
          | true => rw [hk] at h6; cases h6
          | false =>
            rw [hk] at h6
            simp only [cond_false] at h6
            obtain ⟨p, _, h6⟩ := Option.map_eq_some_iff.1 h6
            cases h6; exact h2
        · rename_i m kk f hc
          have hc' : b.c = .rows m kk f := hc
          rw [hc'] at h2; cases h2
    | eptr i g m k j =>
      simp only [shr1] at hx
      obtain ⟨b, hb, hle, hE⟩ := hr.eptr_inv
      have ho : v.oneCell' = true := by
        cases hr with
        | pure h => cases h
        | eptr _ _ ho _ => exact ho
      rw [hH] at hb
      cases hk : Nat.beq i id with
      | true => rw [hk] at hx; cases hx
      | false =>
        rcases hget i with ⟨h1, _⟩ | ⟨b1, b2, rs, h1, h2, h3, h4⟩
        · rw [hb] at h1; cases h1
        · rw [hb] at h1; cases h1
          have e2 : b2 = b := by
            unfold shrB at h3
            simp only [hk, cond_false] at h3
            split at h3
            · obtain ⟨p, _, h3⟩ := Option.map_eq_some_iff.1 h3
              cases h3; rfl
            · cases h3; rfl
          subst e2
          exact .eptr h2 hle ho hE
    | agg cs => cases hx
    | tup cs => cases hx
    | clo f cs =>
      cases cs with
      | cons c cs => cases hx
      | nil =>
        obtain ⟨vs, rfl, hl, _⟩ := hr.clo_inv
        exact .clo hl fun j a v ha _ => by simp at ha
    | _ => cases hr with | pure h => exact .pure h
  have val : ∀ (x : AV) (v : Value) (qs : List Prop), shrV id n x = some qs → (∀ q ∈ qs, q) → Rep cx x v → Rep ⟨cx.w, cx.R, cx.φ, lookO q.1, cx.B⟩ x v := by
    intro x v qs hx hqs hr
    cases x with
    | agg cs =>
      obtain ⟨vs, rfl, h1, h2, h3⟩ := hr.agg_inv
      refine .agg h1 h2 fun j y u hy hu => ?_
      obtain ⟨rs, r1, r2⟩ := shrL_get hx hqs j y hy
      exact one y u rs r1 r2 (h3 j y u hy hu)
    | clo f cs =>
      cases cs with
      | nil => exact one _ _ _ hx hqs hr
      | cons c cs =>
        obtain ⟨vs, rfl, hl, h3⟩ := hr.clo_inv
        refine .clo hl fun j y u hy hu => ?_
        obtain ⟨rs, r1, r2⟩ := shrL_get hx hqs j y hy
        exact one y u rs r1 r2 (h3 j y u hy hu)
    | _ => exact one _ _ _ hx hqs hr
  refine ⟨⟨cx.w, cx.R, cx.φ, lookO q.1, cx.B⟩, ⟨rfl, ⟨fun k b hb => ?_, fun k k' g c c' h1 h2 h3 h4 => ?_, hs.c.rlt, hs.c.blt⟩, fun t => ?_, fun k hk => ?_, hs.sz, hs.df⟩, ⟨rfl, fun _ h => h, fun _ h => .inl h, rfl, rfl, rfl, Nat.le_refl _, fun _ _ _ => rfl⟩, rfl⟩
  · rcases hget k with ⟨_, h1⟩ | ⟨b1, b2, rs, h1, h2, h3, h4⟩
    · have hb' : lookO q.1 k = some b := hb
      rw [h1] at hb'; cases hb'
    · have hb' : lookO q.1 k = some b := hb
      rw [h2] at hb'; cases hb'
      have hold := hs.c.hb k b1 (by rw [hH]; exact h1)
      unfold shrB at h3
      unfold HB at hold ⊢
      split at h3
      · rename_i cs hcs'
        have hcs : b1.c = .box cs := hcs'
        cases hk : Nat.beq k id with
        | true => rw [hk] at h3; cases h3
        | false =>
          rw [hk] at h3
          simp only [cond_false] at h3
          obtain ⟨p, hp1, h3⟩ := Option.map_eq_some_iff.1 h3
          simp only [Prod.mk.injEq] at h3
          obtain ⟨rfl, rfl⟩ := h3
          rw [hcs] at hold ⊢
          simp only at hold ⊢
          obtain ⟨g, cur, c1, c2, c3, c4, c5, c6⟩ := hold
          refine ⟨g, cur, c1, c2, c3, fun j x hx => ?_, c5, c6⟩
          obtain ⟨u, u1, u2, u3⟩ := c4 j x hx
          obtain ⟨ss, s1, s2⟩ := shrL_get hp1 h4 j x hx
          exact ⟨u, u1, u2, one x u ss s1 s2 u3⟩
      · rename_i m kk f hcs'
        have hcs : b1.c = .rows m kk f := hcs'
        rw [hcs] at hold
        simp only at hold
        cases hk : Nat.beq k id with
        | true =>
          rw [hk] at h3
          simp only [cond_true, Option.some.injEq, Prod.mk.injEq] at h3
          obtain ⟨rfl, rfl⟩ := h3
          have hle := h4 _ (List.mem_singleton.2 rfl)
          rcases hold with ⟨c1, c2⟩ | ⟨g, cap, cur, c1, c2, c3, c4, c5, c6, c7⟩
          · exact .inl ⟨c1, by omega⟩
          · exact .inr ⟨g, cap, cur, c1, c2, c3, by omega, c5, fun i hi j hj => c6 i (by omega) j hj, c7⟩
        | false =>
          rw [hk] at h3
          simp only [cond_false, Option.some.injEq, Prod.mk.injEq] at h3
          obtain ⟨rfl, rfl⟩ := h3
          rw [hcs]
          exact hold
  · have conv : ∀ i, (lookO q.1 i).isSome = true → (cx.H i).isSome = true := fun i hi => by
      rw [hH]
      rcases hget i with ⟨_, e1⟩ | ⟨b1, b2, rs, e1, e2, _⟩
      · rw [e1] at hi; cases hi
      · rw [e1]; rfl
    exact hs.c.inj k k' g c c' (conv k h1) (conv k' h2) h3 h4
  · obtain ⟨rs, r1, r2⟩ := hget' t
    exact val _ _ rs r1 r2 (hs.env t)
  · have hi : (lookO q.1 k).isSome = true := hk
    have : (cx.H k).isSome = true := by
      rw [hH]
      rcases hget k with ⟨_, e1⟩ | ⟨b1, b2, rs, e1, e2, _⟩
      · rw [e1] at hi; cases hi
      · rw [e1]; rfl
    rw [hs.H] at this
    exact hs.lt k this
theorem Ok.shr {nt : Nat} {c : Code} {I : St} {x : X} {id n : Nat} {J K : Sm} {r : List (Nat × Nat)} (h : Ok P nt c I x J.st) (hv : Vc (vcShr id n J r K)) : Ok P nt c I x K.st := by
  replace hv := hv.out
  unfold vcShr at hv
  split at hv
  · rename_i q hq
    split at hv
    · rename_i ps hps
      have hall := allP_mem hv
      intro cx a hs Q hQ
      refine h cx a hs Q fun cx1 a1 hs1 he1 => ?_
      obtain ⟨cx2, hs2, he2, hw2⟩ := hs1.shr hq fun p hp => hall p (List.mem_append_left _ hp)
      obtain ⟨cx3, hs3, he3, hw3⟩ := hs2.le hps fun p hp => hall p (List.mem_append_right _ hp)
      rw [← hw2, ← hw3]
      exact hQ cx3 a1 hs3 ((he1.trans he2).trans he3)
    · cases hv
  · cases hv
end
end
end Go.Proofs.Ytjdiabjmphdhiaa.Rx
namespace Go.Proofs.Ytjdiabjmphdhiaa
section
open Go.RowKit
namespace Wd
end Wd
namespace Px
open Rx
end Px
end
end Go.Proofs.Ytjdiabjmphdhiaa
namespace Go.Proofs.Ytjdiabjmphdhiaa.Px
section
open Go.RowKit Go.Proofs.Ytjdiabjmphdhiaa.Rx
structure Vl where
  reg : Bool
  n : Int
structure In where
  kind : Int
  op : Int
  d : Int
  a : Vl
  b : Vl
  nm : ByteArray
  tg : Int
structure Lb where
  nm : ByteArray
  at_ : Int
structure Pg where
  W : Int
  win : Int
  fuel : Int
  r0 : Int
  r1 : Int
  r2 : Int
  r3 : Int
  ms : List Mm
  ls : List Lb
  is : List In
structure S8 where
  r0 : Int
  r1 : Int
  r2 : Int
  r3 : Int
  m : List Int
  st : List Int
  pc : Int
structure Ob where
  k : Int
  a : Int
def In0 : In := ⟨0, 0, 0, ⟨false, 0⟩, ⟨false, 0⟩, ⟨#[]⟩, 0⟩
instance : Inhabited In := ⟨In0⟩
instance : Inhabited Lb := ⟨⟨⟨#[]⟩, 0⟩⟩
instance : Inhabited Ob := ⟨⟨0, 0⟩⟩
/-- an instruction's cells -/
def inA (i : In) : List AV := [.int .i64 i.kind, .int .i64 i.op, .int .i64 i.d, .bool i.a.reg, .int .i64 i.a.n, .bool i.b.reg, .int .i64 i.b.n, .str i.nm, .int .i64 i.tg]
def inC (i : In) (j : Nat) : AV := (inA i).getD j .junk
def inR (l : List In) : AV := .row 9 l.length (rowL inC l)
def vlA (v : Vl) : List AV := [.bool v.reg, .int .i64 v.n]
def lbC (l : Lb) (j : Nat) : AV := [AV.str l.nm, .int .i64 l.at_].getD j .junk
def lbR (l : List Lb) : AV := .row 2 l.length (rowL lbC l)
/-- a program's cells -/
def pgA (p : Pg) : List AV := [.int .i64 p.W, .int .i64 p.win, .int .i64 p.fuel, .int .i64 p.r0, .int .i64 p.r1, .int .i64 p.r2, .int .i64 p.r3, memR p.ms, lbR p.ls, inR p.is]
/-- a state's cells; where its rows lie -/
def s8A (s : S8) (am ak : AV) : List AV := [.int .i64 s.r0, .int .i64 s.r1, .int .i64 s.r2, .int .i64 s.r3, am, ak, .int .i64 s.pc]
/-- the instruction at a place -/
def atI (p : Pg) (pc : Int) : In := if 0 ≤ pc ∧ pc < p.is.length then p.is.getD pc.toNat default else { In0 with kind := 12 }
def S8.reg (s : S8) (n : Int) : Int := if n = 0 then s.r0 else if n = 1 then s.r1 else if n = 2 then s.r2 else s.r3
def S8.set (s : S8) (n v : Int) : S8 := ⟨if n = 0 then v else s.r0, if n = 1 then v else s.r1, if n = 2 then v else s.r2, if n = 3 then v else s.r3, s.m, s.st, s.pc⟩
def vlV (W : Int) (s : S8) (v : Vl) : Int := if v.reg = true then s.reg v.n else Wd.maskV W v.n
def okV (v : Vl) : Prop := v.reg = true → 0 ≤ v.n ∧ v.n < 4
/-- registers are words -/
def okR (s : S8) : Prop := (0 ≤ s.r0 ∧ s.r0 < 65536) ∧ (0 ≤ s.r1 ∧ s.r1 < 65536) ∧ (0 ≤ s.r2 ∧ s.r2 < 65536) ∧ (0 ≤ s.r3 ∧ s.r3 < 65536)
theorem four {n : Int} (h0 : 0 ≤ n) (h1 : n < 4) : n = 0 ∨ n = 1 ∨ n = 2 ∨ n = 3 := by omega
end
end Go.Proofs.Ytjdiabjmphdhiaa.Px
namespace Go.Proofs.Ytjdiabjmphdhiaa.Px
section
open Go.RowKit Go.Proofs.Ytjdiabjmphdhiaa.Rx
def S8.go (s : S8) (pc : Int) : S8 := { s with pc := pc }
/-- what an instruction does: the state behind it, what is observed, how it ended -/
def stepI (W c len : Int) (i : In) (s : S8) : S8 × List Ob × Int :=
  if i.kind = 1 then ((s.set i.d (Wd.doV W i.op (vlV W s i.a) (vlV W s i.b))).go (s.pc + 1), [], 0)
  else if i.kind = 4 then (if vlV W s i.a = 0 then s.go (s.pc + 1) else (s.set i.d (vlV W s i.b)).go (s.pc + 1), [], 0)
  else if i.kind = 2 then (if Wd.maskV W (vlV W s i.a + vlV W s i.b) < c then ((s.set i.d (s.m.getD (Wd.maskV W (vlV W s i.a + vlV W s i.b)).toNat 0)).go (s.pc + 1), [⟨1, Wd.maskV W (vlV W s i.a + vlV W s i.b)⟩], 0) else (s, [], 2))
  else if i.kind = 3 then (if Wd.maskV W (vlV W s i.a + vlV W s i.b) < c then ({ s with m := s.m.set (Wd.maskV W (vlV W s i.a + vlV W s i.b)).toNat (s.reg i.d), pc := s.pc + 1 }, [⟨2, Wd.maskV W (vlV W s i.a + vlV W s i.b)⟩], 0) else (s, [], 2))
  else if i.kind = 5 then (if Wd.doV W i.op (vlV W s i.a) (vlV W s i.b) = 0 then (s.go (s.pc + 1), [⟨3, s.pc + 1⟩], 0) else (s.go i.tg, [⟨3, i.tg⟩], 0))
  else if i.kind = 6 then (s.go i.tg, [], 0)
  else if i.kind = 7 then (s.go (if len < vlV W s i.a then len else vlV W s i.a), [⟨3, if len < vlV W s i.a then len else vlV W s i.a⟩], 0)
  else if i.kind = 8 then (if 4 ≤ s.st.length then (s, [], 2) else ({ s with st := s.st ++ [s.pc + 1], pc := i.tg }, [], 0))
  else if i.kind = 9 then (if s.st.length = 0 then (s, [], 2) else ({ s with st := s.st.take (s.st.length - 1), pc := s.st.getD (s.st.length - 1) 0 }, [⟨3, s.st.getD (s.st.length - 1) 0⟩], 0))
  else if i.kind = 10 then (s.go (s.pc + 1), [], 0)
  else if i.kind = 11 then (s, [], 1)
  else (s, [], 2)
end
end Go.Proofs.Ytjdiabjmphdhiaa.Px
namespace Go.Proofs.Ytjdiabjmphdhiaa.Px
section
open Go.RowKit Go.Proofs.Ytjdiabjmphdhiaa.Rx
def OkI (i : In) (len : Int) : Prop := (1 ≤ i.kind ∧ i.kind ≤ 12) ∧ okV i.a ∧ okV i.b ∧ (0 ≤ i.d ∧ i.d < 4) ∧ (0 ≤ i.tg ∧ i.tg ≤ len)
structure OkP (p : Pg) : Prop where
  ins : ∀ i ∈ p.is, OkI i p.is.length
  len : p.is.length < 1000
  ms : p.ms.length < 1000
  sum : sumN p.ms ≤ 16
structure OkS (c len : Int) (s : S8) : Prop where
  reg : okR s
  mem : ∀ x ∈ s.m, 0 ≤ x ∧ x < 65536
  c : c = s.m.length
  pc : -1 ≤ s.pc ∧ s.pc ≤ len
  st : s.st.length ≤ 100
  stk : ∀ x ∈ s.st, -1 ≤ x ∧ x ≤ len
/-- so many steps: the state, what was observed, how many were done, how it ended -/
structure R8 where
  s : S8
  o : List Ob
  k : Nat
  e : Int
def runD (p : Pg) (c : Int) (s : S8) : Nat → R8
  | 0 => ⟨s, [], 0, 0⟩
  | n + 1 => if (runD p c s n).e = 0 then ⟨(stepI p.W c p.is.length (atI p (runD p c s n).s.pc) (runD p c s n).s).1, (runD p c s n).o ++ (stepI p.W c p.is.length (atI p (runD p c s n).s.pc) (runD p c s n).s).2.1, (runD p c s n).k + 1, (stepI p.W c p.is.length (atI p (runD p c s n).s.pc) (runD p c s n).s).2.2⟩ else runD p c s n
theorem okV0 : okV ⟨false, 0⟩ := fun h => by cases h
theorem set_ok {s : S8} (h : okR s) (n : Int) {v : Int} (hv : 0 ≤ v ∧ v < 65536) : okR (s.set n v) := by
  obtain ⟨h0, h1, h2, h3⟩ := h
  refine ⟨?_, ?_, ?_, ?_⟩ <;> (simp only [S8.set]; split <;> assumption)
theorem mem_bd {m : List Int} (h : ∀ x ∈ m, 0 ≤ x ∧ x < 65536) (n : Nat) : 0 ≤ m.getD n 0 ∧ m.getD n 0 < 65536 := by
  rw [List.getD_eq_getElem?_getD]
  cases hq : m[n]? with
  | none => simp
  | some x => exact h x (List.mem_of_getElem? hq)
theorem OkS.go {c len : Int} {s : S8} (h : OkS c len s) {pc : Int} (hp : -1 ≤ pc ∧ pc ≤ len) : OkS c len (s.go pc) := ⟨h.reg, h.mem, h.c, hp, h.st, h.stk⟩
theorem OkS.set {c len : Int} {s : S8} (h : OkS c len s) (n : Int) {v : Int} (hv : 0 ≤ v ∧ v < 65536) : OkS c len (s.set n v) := ⟨set_ok h.reg n hv, h.mem, h.c, h.pc, h.st, h.stk⟩
end
end Go.Proofs.Ytjdiabjmphdhiaa.Px
namespace Go.Proofs.Ytjdiabjmphdhiaa.Px
section
open Go.RowKit Go.Proofs.Ytjdiabjmphdhiaa.Rx
def kptr (l : List Int) : AV := .rptr 1 (fun q => [AV.row 1 l.length (rowI l)].getD q .junk) 0
/-- number i of a row, or i itself -/
def kN (l : List Int) (i : Nat) : Int := if i < l.length then l.getD i 0 else (i : Int)
def dgS : Nat → ByteArray
  | 0 => ⟨#[48]⟩
  | 1 => ⟨#[49]⟩
  | 2 => ⟨#[50]⟩
  | 3 => ⟨#[51]⟩
  | 4 => ⟨#[52]⟩
  | _ => ⟨#[53]⟩
theorem k_in (l : List Int) (i : Nat) (h : i < l.length) (hi : i < 1000) : Vc (vcFn Try.prog false 26 [.int .i64 i, kptr l] [.b true] [] (.int .i64 (l.getD i 0)) []) :=
  vc_of (q := (decide ((↑i : Int) < (↑(List.length l) : Int)) = true) ∧ ((0 : Int) ≤ (↑i : Int) ∧ (↑i : Int) < (↑(List.length l) : Int)) ∧ (List.getD l i (0 : Int) = List.getD l i (0 : Int)) ∧ True) (by kernel_rfl)
    ⟨(decide_eq_true (by first | omega | (simp; omega) | (simp; done))),
 (by first | omega | rfl),
 rfl, trivial⟩
theorem k_out (l : List Int) (i : Nat) (h : ¬ i < l.length) (hi : i < 1000) : Vc (vcFn Try.prog false 26 [.int .i64 i, kptr l] [.b false] [] (.int .i64 i) []) :=
  vc_of (q := (decide ((↑i : Int) < (↑(List.length l) : Int)) = false) ∧ ((↑i : Int) = (↑i : Int)) ∧ True) (by kernel_rfl)
    ⟨(decide_eq_false (by first | omega | (simp; omega) | (simp; done))),
 rfl, trivial⟩
theorem kC (l : List Int) (i : Nat) (hi : i < 1000) : PureC Try.prog 26 [.int .i64 i, kptr l] (.int .i64 (kN l i)) [] := by
  unfold kN
  by_cases h : i < l.length
  · rw [if_pos h]; exact PureC.vc (k_in l i h hi)
  · rw [if_neg h]; exact PureC.vc (k_out l i h hi)
theorem dg0  : Vc (vcFn Try.prog true 27 [.int .i64 0] [] [] (.str (dgS 0)) []) :=
  vc_of (q := (Go.strOfNums [IntKind.wrap IntKind.u8 ((48 : Int) + Int.tmod (0 : Int) (10 : Int))] ++ ByteArray.mk (Array.mk []) = dgS (0 : Nat)) ∧ True) (by kernel_rfl)
    ⟨(by first | omega | rfl | (simp; done) | (simp; omega)), trivial⟩
theorem dg1  : Vc (vcFn Try.prog true 27 [.int .i64 1] [] [] (.str (dgS 1)) []) :=
  vc_of (q := (Go.strOfNums [IntKind.wrap IntKind.u8 ((48 : Int) + Int.tmod (1 : Int) (10 : Int))] ++ ByteArray.mk (Array.mk []) = dgS (1 : Nat)) ∧ True) (by kernel_rfl)
    ⟨(by first | omega | rfl | (simp; done) | (simp; omega)), trivial⟩
theorem dg2  : Vc (vcFn Try.prog true 27 [.int .i64 2] [] [] (.str (dgS 2)) []) :=
  vc_of (q := (Go.strOfNums [IntKind.wrap IntKind.u8 ((48 : Int) + Int.tmod (2 : Int) (10 : Int))] ++ ByteArray.mk (Array.mk []) = dgS (2 : Nat)) ∧ True) (by kernel_rfl)
    ⟨(by first | omega | rfl | (simp; done) | (simp; omega)), trivial⟩
theorem dg3  : Vc (vcFn Try.prog true 27 [.int .i64 3] [] [] (.str (dgS 3)) []) :=
  vc_of (q := (Go.strOfNums [IntKind.wrap IntKind.u8 ((48 : Int) + Int.tmod (3 : Int) (10 : Int))] ++ ByteArray.mk (Array.mk []) = dgS (3 : Nat)) ∧ True) (by kernel_rfl)
    ⟨(by first | omega | rfl | (simp; done) | (simp; omega)), trivial⟩
theorem dg4  : Vc (vcFn Try.prog true 27 [.int .i64 4] [] [] (.str (dgS 4)) []) :=
  vc_of (q := (Go.strOfNums [IntKind.wrap IntKind.u8 ((48 : Int) + Int.tmod (4 : Int) (10 : Int))] ++ ByteArray.mk (Array.mk []) = dgS (4 : Nat)) ∧ True) (by kernel_rfl)
    ⟨(by first | omega | rfl | (simp; done) | (simp; omega)), trivial⟩
theorem dg5  : Vc (vcFn Try.prog true 27 [.int .i64 5] [] [] (.str (dgS 5)) []) :=
  vc_of (q := (Go.strOfNums [IntKind.wrap IntKind.u8 ((48 : Int) + Int.tmod (5 : Int) (10 : Int))] ++ ByteArray.mk (Array.mk []) = dgS (5 : Nat)) ∧ True) (by kernel_rfl)
    ⟨(by first | omega | rfl | (simp; done) | (simp; omega)), trivial⟩
theorem digC (i : Nat) (hi : i < 6) : PureC Try.prog 27 [.int .i64 i] (.str (dgS i)) [] := match i, hi with
  | 0, _ => PureC.vc dg0
  | 1, _ => PureC.vc dg1
  | 2, _ => PureC.vc dg2
  | 3, _ => PureC.vc dg3
  | 4, _ => PureC.vc dg4
  | 5, _ => PureC.vc dg5
def x2 (x : Int) (s : Nat) : Int := Int.fdiv x (2 ^ s)
def vlN (x : Int) : Vl := if bits .and .i64 x 4 = 0 then ⟨false, bits .and .i64 x 3⟩ else ⟨true, bits .and .i64 x 3⟩
def v0 : Vl := ⟨false, 0⟩
def tmN (x : Int) (m : Int) : Int := Int.tmod (bits .and .i64 x 255) m
/-- an instruction of kind k of a number */ -/
def insOf (k : Nat) (x : Int) (n : Nat) : In := match k with
  | 1 => ⟨1, tmN (x2 x 16) 10 + 1, bits .and .i64 (x2 x 14) 3, vlN (x2 x 8), vlN (x2 x 11), ⟨#[]⟩, 0⟩
  | 2 => ⟨2, 0, bits .and .i64 (x2 x 14) 3, vlN (x2 x 8), vlN (x2 x 11), ⟨#[]⟩, 0⟩
  | 3 => ⟨3, 0, bits .and .i64 (x2 x 14) 3, vlN (x2 x 8), vlN (x2 x 11), ⟨#[]⟩, 0⟩
  | 4 => ⟨4, 0, bits .and .i64 (x2 x 14) 3, vlN (x2 x 8), vlN (x2 x 11), ⟨#[]⟩, 0⟩
  | 5 => ⟨5, ([9, 10, 3, 2] : List Int).getD (bits .and .i64 (x2 x 16) 3).toNat 0, 0, vlN (x2 x 8), vlN (x2 x 11), ⟨#[]⟩, tmN (x2 x 18) (n + 1)⟩
  | 6 => ⟨6, 0, 0, v0, v0, ⟨#[]⟩, tmN (x2 x 18) (n + 1)⟩
  | 7 => ⟨7, 0, 0, vlN (x2 x 8), v0, ⟨#[]⟩, 0⟩
  | 8 => ⟨8, 0, 0, v0, v0, ⟨#[]⟩, tmN (x2 x 18) (n + 1)⟩
  | k => ⟨k, 0, 0, v0, v0, ⟨#[]⟩, 0⟩
def kindL : List Nat := [1, 1, 2, 2, 2, 3, 3, 4, 5, 5, 5, 6, 7, 8, 9, 10, 11, 1]
def insN (x : Int) (n : Nat) : In := insOf (kindL.getD (tmN x 18).toNat 0) x n
theorem val_true (x : Int) (h : (bits .and .i64 x 4 == 0) = true) : Vc (vcFn Try.prog false 45 [.int .i64 x] [.b true] [] (.agg (vlA ⟨false, bits .and .i64 x 3⟩)) []) :=
  vc_of (q := ((Go.bits Go.BinOp.and IntKind.i64 x (4 : Int) == (0 : Int)) = true) ∧ (false = false) ∧ (Go.bits Go.BinOp.and IntKind.i64 x (3 : Int) = Go.bits Go.BinOp.and IntKind.i64 x (3 : Int)) ∧ True) (by kernel_rfl)
    ⟨h,
 rfl,
 rfl, trivial⟩
theorem val_false (x : Int) (h : (bits .and .i64 x 4 == 0) = false) : Vc (vcFn Try.prog false 45 [.int .i64 x] [.b false] [] (.agg (vlA ⟨true, bits .and .i64 x 3⟩)) []) :=
  vc_of (q := ((Go.bits Go.BinOp.and IntKind.i64 x (4 : Int) == (0 : Int)) = false) ∧ (true = true) ∧ (Go.bits Go.BinOp.and IntKind.i64 x (3 : Int) = Go.bits Go.BinOp.and IntKind.i64 x (3 : Int)) ∧ True) (by kernel_rfl)
    ⟨h,
 rfl,
 rfl, trivial⟩
theorem lvalC (x : Int) : PureC Try.prog 45 [.int .i64 x] (.agg (vlA (vlN x))) [] := by
  unfold vlN
  cases h : (bits .and .i64 x 4 == 0) with
  | true => rw [if_pos (by simpa using h)]; exact PureC.vc (val_true x h)
  | false => rw [if_neg (by simpa using h)]; exact PureC.vc (val_false x h)
theorem tm_bd (y m : Int) (hm : 0 < m) : 0 ≤ Int.tmod (bits .and .i64 y 255) m ∧ Int.tmod (bits .and .i64 y 255) m < m := by
  have h := Wd.bits_mask y 8 (by omega)
  have h2 : bits .and .i64 y 255 = y % 256 := h
  rw [h2, Int.tmod_eq_emod_of_nonneg (by omega)]
  exact ⟨Int.emod_nonneg _ (by omega), Int.emod_lt_of_pos _ hm⟩
theorem in_tm (y m : Int) (hm : 0 < m) (h1 : m ≤ 1000) : inK .i64 (Int.tmod (bits .and .i64 y 255) m + 1) := by
  have := tm_bd y m hm
  exact in64 (by omega) (by omega)
theorem bits3 (y : Int) : ∃ q : Nat, q < 4 ∧ bits .and .i64 y 3 = (q : Int) := by
  have h := Wd.bits_mask y 2 (by omega)
  have h2 : bits .and .i64 y 3 = y % 4 := h
  exact ⟨(y % 4).toNat, by omega, by omega⟩
def frS8k0 (x : Int) (n : Nat) (Z : Prop) : Prop := (Vl.reg (vlN (x2 x (8 : Nat))) = Vl.reg (vlN (x2 x (8 : Nat)))) ∧ (Vl.n (vlN (x2 x (8 : Nat))) = Vl.n (vlN (x2 x (8 : Nat)))) ∧ (Vl.reg (vlN (x2 x (11 : Nat))) = Vl.reg (vlN (x2 x (11 : Nat)))) ∧ (Vl.n (vlN (x2 x (11 : Nat))) = Vl.n (vlN (x2 x (11 : Nat)))) ∧ (ByteArray.mk (Array.mk []) = ByteArray.mk (Array.mk [])) ∧ ((0 : Int) = (0 : Int)) ∧ Z
theorem frS8k0_mk (x : Int) (n : Nat) {Z : Prop} (z : Z) : frS8k0 x n Z := ⟨rfl, rfl, rfl, rfl, rfl, rfl, z⟩
abbrev cS8k0 (x : Int) : Prop := (PureC Try.prog 45 [.int .i64 (x2 x 11)] (.agg (vlA (vlN (x2 x 11)))) [])
abbrev cS8k1 (x : Int) : Prop := (PureC Try.prog 45 [.int .i64 (x2 x 8)] (.agg (vlA (vlN (x2 x 8)))) [])
theorem ins0 (x : Int) (n : Nat) (hn : n < 100) (hq : Int.tmod (bits .and .i64 x 255) 18 = ((0 : Nat) : Int)) : Vc (vcFn Try.prog false 28 [.int .i64 x, .int .i64 n] [.iy 0, .cl [.int .i64 (x2 x 8)] (.agg (vlA (vlN (x2 x 8)))) [], .cl [.int .i64 (x2 x 11)] (.agg (vlA (vlN (x2 x 11)))) [], .ll [3, 4]] [] (.agg (inA (insOf 1 x n))) []) :=
  vc_of (q := ((18 : Int) ≠ (0 : Int)) ∧ (Int.tmod (Go.bits Go.BinOp.and IntKind.i64 x (255 : Int)) (18 : Int) = (↑(0 : Nat) : Int)) ∧ ((0 : Int) ≤ (↑(0 : Nat) : Int) ∧ (↑(0 : Nat) : Int) < (↑(18 : Nat) : Int)) ∧ ((0 : Nat) < (18 : Nat)) ∧ ((0 : Int) ≤ (8 : Int)) ∧ (Int.fdiv x ((2 : Int) ^ (8 : Nat)) = x2 x (8 : Nat)) ∧ cS8k1 x ∧ ((0 : Int) ≤ (11 : Int)) ∧ (Int.fdiv x ((2 : Int) ^ (11 : Nat)) = x2 x (11 : Nat)) ∧ cS8k0 x ∧ ((0 : Int) ≤ (16 : Int)) ∧ ((10 : Int) ≠ (0 : Int)) ∧ (inK IntKind.i64 (Int.tmod (Go.bits Go.BinOp.and IntKind.i64 (Int.fdiv x ((2 : Int) ^ (16 : Nat))) (255 : Int)) (10 : Int) + (1 : Int))) ∧ ((0 : Int) ≤ (14 : Int)) ∧ ((1 : Int) = (1 : Int)) ∧ (Int.tmod (Go.bits Go.BinOp.and IntKind.i64 (Int.fdiv x ((2 : Int) ^ (16 : Nat))) (255 : Int)) (10 : Int) + (1 : Int) = tmN (x2 x (16 : Nat)) (10 : Int) + (1 : Int)) ∧ (Go.bits Go.BinOp.and IntKind.i64 (Int.fdiv x ((2 : Int) ^ (14 : Nat))) (3 : Int) = Go.bits Go.BinOp.and IntKind.i64 (x2 x (14 : Nat)) (3 : Int)) ∧ (frS8k0 x n (True))) (by kernel_rfl)
    ⟨(by omega),
 (by first | omega | rfl),
 (by first | omega | rfl),
 (by first | omega | rfl),
 (by first | omega | rfl),
 (by first | omega | rfl | (simp; done) | (simp; omega)),
 lvalC _,
 (by first | omega | rfl),
 (by first | omega | rfl | (simp; done) | (simp; omega)),
 lvalC _,
 (by first | omega | rfl),
 (by omega),
 (in_tm _ _ (by omega) (by omega)),
 (by first | omega | rfl),
 rfl,
 (by first | omega | rfl | (simp; done) | (simp; omega)),
 (by first | omega | rfl | (simp; done) | (simp; omega)), (frS8k0_mk x n trivial)⟩
theorem ins1 (x : Int) (n : Nat) (hn : n < 100) (hq : Int.tmod (bits .and .i64 x 255) 18 = ((1 : Nat) : Int)) : Vc (vcFn Try.prog false 28 [.int .i64 x, .int .i64 n] [.iy 1, .cl [.int .i64 (x2 x 8)] (.agg (vlA (vlN (x2 x 8)))) [], .cl [.int .i64 (x2 x 11)] (.agg (vlA (vlN (x2 x 11)))) [], .ll [3, 4]] [] (.agg (inA (insOf 1 x n))) []) :=
  vc_of (q := ((18 : Int) ≠ (0 : Int)) ∧ (Int.tmod (Go.bits Go.BinOp.and IntKind.i64 x (255 : Int)) (18 : Int) = (↑(1 : Nat) : Int)) ∧ ((0 : Int) ≤ (↑(1 : Nat) : Int) ∧ (↑(1 : Nat) : Int) < (↑(18 : Nat) : Int)) ∧ ((1 : Nat) < (18 : Nat)) ∧ ((0 : Int) ≤ (8 : Int)) ∧ (Int.fdiv x ((2 : Int) ^ (8 : Nat)) = x2 x (8 : Nat)) ∧ cS8k1 x ∧ ((0 : Int) ≤ (11 : Int)) ∧ (Int.fdiv x ((2 : Int) ^ (11 : Nat)) = x2 x (11 : Nat)) ∧ cS8k0 x ∧ ((0 : Int) ≤ (16 : Int)) ∧ ((10 : Int) ≠ (0 : Int)) ∧ (inK IntKind.i64 (Int.tmod (Go.bits Go.BinOp.and IntKind.i64 (Int.fdiv x ((2 : Int) ^ (16 : Nat))) (255 : Int)) (10 : Int) + (1 : Int))) ∧ ((0 : Int) ≤ (14 : Int)) ∧ ((1 : Int) = (1 : Int)) ∧ (Int.tmod (Go.bits Go.BinOp.and IntKind.i64 (Int.fdiv x ((2 : Int) ^ (16 : Nat))) (255 : Int)) (10 : Int) + (1 : Int) = tmN (x2 x (16 : Nat)) (10 : Int) + (1 : Int)) ∧ (Go.bits Go.BinOp.and IntKind.i64 (Int.fdiv x ((2 : Int) ^ (14 : Nat))) (3 : Int) = Go.bits Go.BinOp.and IntKind.i64 (x2 x (14 : Nat)) (3 : Int)) ∧ (frS8k0 x n (True))) (by kernel_rfl)
    ⟨(by omega),
 (by first | omega | rfl),
 (by first | omega | rfl),
 (by first | omega | rfl),
 (by first | omega | rfl),
 (by first | omega | rfl | (simp; done) | (simp; omega)),
 lvalC _,
 (by first | omega | rfl),
 (by first | omega | rfl | (simp; done) | (simp; omega)),
 lvalC _,
 (by first | omega | rfl),
 (by omega),
 (in_tm _ _ (by omega) (by omega)),
 (by first | omega | rfl),
 rfl,
 (by first | omega | rfl | (simp; done) | (simp; omega)),
 (by first | omega | rfl | (simp; done) | (simp; omega)), (frS8k0_mk x n trivial)⟩
theorem ins2 (x : Int) (n : Nat) (hn : n < 100) (hq : Int.tmod (bits .and .i64 x 255) 18 = ((2 : Nat) : Int)) : Vc (vcFn Try.prog false 28 [.int .i64 x, .int .i64 n] [.iy 2, .cl [.int .i64 (x2 x 8)] (.agg (vlA (vlN (x2 x 8)))) [], .cl [.int .i64 (x2 x 11)] (.agg (vlA (vlN (x2 x 11)))) [], .ll [3, 4]] [] (.agg (inA (insOf 2 x n))) []) :=
  vc_of (q := ((18 : Int) ≠ (0 : Int)) ∧ (Int.tmod (Go.bits Go.BinOp.and IntKind.i64 x (255 : Int)) (18 : Int) = (↑(2 : Nat) : Int)) ∧ ((0 : Int) ≤ (↑(2 : Nat) : Int) ∧ (↑(2 : Nat) : Int) < (↑(18 : Nat) : Int)) ∧ ((2 : Nat) < (18 : Nat)) ∧ ((0 : Int) ≤ (8 : Int)) ∧ (Int.fdiv x ((2 : Int) ^ (8 : Nat)) = x2 x (8 : Nat)) ∧ cS8k1 x ∧ ((0 : Int) ≤ (11 : Int)) ∧ (Int.fdiv x ((2 : Int) ^ (11 : Nat)) = x2 x (11 : Nat)) ∧ cS8k0 x ∧ ((0 : Int) ≤ (14 : Int)) ∧ ((2 : Int) = (2 : Int)) ∧ ((0 : Int) = (0 : Int)) ∧ (Go.bits Go.BinOp.and IntKind.i64 (Int.fdiv x ((2 : Int) ^ (14 : Nat))) (3 : Int) = Go.bits Go.BinOp.and IntKind.i64 (x2 x (14 : Nat)) (3 : Int)) ∧ (frS8k0 x n (True))) (by kernel_rfl)
    ⟨(by omega),
 (by first | omega | rfl),
 (by first | omega | rfl),
 (by first | omega | rfl),
 (by first | omega | rfl),
 (by first | omega | rfl | (simp; done) | (simp; omega)),
 lvalC _,
 (by first | omega | rfl),
 (by first | omega | rfl | (simp; done) | (simp; omega)),
 lvalC _,
 (by first | omega | rfl),
 rfl,
 rfl,
 (by first | omega | rfl | (simp; done) | (simp; omega)), (frS8k0_mk x n trivial)⟩
theorem ins3 (x : Int) (n : Nat) (hn : n < 100) (hq : Int.tmod (bits .and .i64 x 255) 18 = ((3 : Nat) : Int)) : Vc (vcFn Try.prog false 28 [.int .i64 x, .int .i64 n] [.iy 3, .cl [.int .i64 (x2 x 8)] (.agg (vlA (vlN (x2 x 8)))) [], .cl [.int .i64 (x2 x 11)] (.agg (vlA (vlN (x2 x 11)))) [], .ll [3, 4]] [] (.agg (inA (insOf 2 x n))) []) :=
  vc_of (q := ((18 : Int) ≠ (0 : Int)) ∧ (Int.tmod (Go.bits Go.BinOp.and IntKind.i64 x (255 : Int)) (18 : Int) = (↑(3 : Nat) : Int)) ∧ ((0 : Int) ≤ (↑(3 : Nat) : Int) ∧ (↑(3 : Nat) : Int) < (↑(18 : Nat) : Int)) ∧ ((3 : Nat) < (18 : Nat)) ∧ ((0 : Int) ≤ (8 : Int)) ∧ (Int.fdiv x ((2 : Int) ^ (8 : Nat)) = x2 x (8 : Nat)) ∧ cS8k1 x ∧ ((0 : Int) ≤ (11 : Int)) ∧ (Int.fdiv x ((2 : Int) ^ (11 : Nat)) = x2 x (11 : Nat)) ∧ cS8k0 x ∧ ((0 : Int) ≤ (14 : Int)) ∧ ((2 : Int) = (2 : Int)) ∧ ((0 : Int) = (0 : Int)) ∧ (Go.bits Go.BinOp.and IntKind.i64 (Int.fdiv x ((2 : Int) ^ (14 : Nat))) (3 : Int) = Go.bits Go.BinOp.and IntKind.i64 (x2 x (14 : Nat)) (3 : Int)) ∧ (frS8k0 x n (True))) (by kernel_rfl)
    ⟨(by omega),
 (by first | omega | rfl),
 (by first | omega | rfl),
 (by first | omega | rfl),
 (by first | omega | rfl),
 (by first | omega | rfl | (simp; done) | (simp; omega)),
 lvalC _,
 (by first | omega | rfl),
 (by first | omega | rfl | (simp; done) | (simp; omega)),
 lvalC _,
 (by first | omega | rfl),
 rfl,
 rfl,
 (by first | omega | rfl | (simp; done) | (simp; omega)), (frS8k0_mk x n trivial)⟩
theorem ins4 (x : Int) (n : Nat) (hn : n < 100) (hq : Int.tmod (bits .and .i64 x 255) 18 = ((4 : Nat) : Int)) : Vc (vcFn Try.prog false 28 [.int .i64 x, .int .i64 n] [.iy 4, .cl [.int .i64 (x2 x 8)] (.agg (vlA (vlN (x2 x 8)))) [], .cl [.int .i64 (x2 x 11)] (.agg (vlA (vlN (x2 x 11)))) [], .ll [3, 4]] [] (.agg (inA (insOf 2 x n))) []) :=
  vc_of (q := ((18 : Int) ≠ (0 : Int)) ∧ (Int.tmod (Go.bits Go.BinOp.and IntKind.i64 x (255 : Int)) (18 : Int) = (↑(4 : Nat) : Int)) ∧ ((0 : Int) ≤ (↑(4 : Nat) : Int) ∧ (↑(4 : Nat) : Int) < (↑(18 : Nat) : Int)) ∧ ((4 : Nat) < (18 : Nat)) ∧ ((0 : Int) ≤ (8 : Int)) ∧ (Int.fdiv x ((2 : Int) ^ (8 : Nat)) = x2 x (8 : Nat)) ∧ cS8k1 x ∧ ((0 : Int) ≤ (11 : Int)) ∧ (Int.fdiv x ((2 : Int) ^ (11 : Nat)) = x2 x (11 : Nat)) ∧ cS8k0 x ∧ ((0 : Int) ≤ (14 : Int)) ∧ ((2 : Int) = (2 : Int)) ∧ ((0 : Int) = (0 : Int)) ∧ (Go.bits Go.BinOp.and IntKind.i64 (Int.fdiv x ((2 : Int) ^ (14 : Nat))) (3 : Int) = Go.bits Go.BinOp.and IntKind.i64 (x2 x (14 : Nat)) (3 : Int)) ∧ (frS8k0 x n (True))) (by kernel_rfl)
    ⟨(by omega),
 (by first | omega | rfl),
 (by first | omega | rfl),
 (by first | omega | rfl),
 (by first | omega | rfl),
 (by first | omega | rfl | (simp; done) | (simp; omega)),
 lvalC _,
 (by first | omega | rfl),
 (by first | omega | rfl | (simp; done) | (simp; omega)),
 lvalC _,
 (by first | omega | rfl),
 rfl,
 rfl,
 (by first | omega | rfl | (simp; done) | (simp; omega)), (frS8k0_mk x n trivial)⟩
theorem ins5 (x : Int) (n : Nat) (hn : n < 100) (hq : Int.tmod (bits .and .i64 x 255) 18 = ((5 : Nat) : Int)) : Vc (vcFn Try.prog false 28 [.int .i64 x, .int .i64 n] [.iy 5, .cl [.int .i64 (x2 x 8)] (.agg (vlA (vlN (x2 x 8)))) [], .cl [.int .i64 (x2 x 11)] (.agg (vlA (vlN (x2 x 11)))) [], .ll [3, 4]] [] (.agg (inA (insOf 3 x n))) []) :=
  vc_of (q := ((18 : Int) ≠ (0 : Int)) ∧ (Int.tmod (Go.bits Go.BinOp.and IntKind.i64 x (255 : Int)) (18 : Int) = (↑(5 : Nat) : Int)) ∧ ((0 : Int) ≤ (↑(5 : Nat) : Int) ∧ (↑(5 : Nat) : Int) < (↑(18 : Nat) : Int)) ∧ ((5 : Nat) < (18 : Nat)) ∧ ((0 : Int) ≤ (8 : Int)) ∧ (Int.fdiv x ((2 : Int) ^ (8 : Nat)) = x2 x (8 : Nat)) ∧ cS8k1 x ∧ ((0 : Int) ≤ (11 : Int)) ∧ (Int.fdiv x ((2 : Int) ^ (11 : Nat)) = x2 x (11 : Nat)) ∧ cS8k0 x ∧ ((0 : Int) ≤ (14 : Int)) ∧ ((3 : Int) = (3 : Int)) ∧ ((0 : Int) = (0 : Int)) ∧ (Go.bits Go.BinOp.and IntKind.i64 (Int.fdiv x ((2 : Int) ^ (14 : Nat))) (3 : Int) = Go.bits Go.BinOp.and IntKind.i64 (x2 x (14 : Nat)) (3 : Int)) ∧ (frS8k0 x n (True))) (by kernel_rfl)
    ⟨(by omega),
 (by first | omega | rfl),
 (by first | omega | rfl),
 (by first | omega | rfl),
 (by first | omega | rfl),
 (by first | omega | rfl | (simp; done) | (simp; omega)),
 lvalC _,
 (by first | omega | rfl),
 (by first | omega | rfl | (simp; done) | (simp; omega)),
 lvalC _,
 (by first | omega | rfl),
 rfl,
 rfl,
 (by first | omega | rfl | (simp; done) | (simp; omega)), (frS8k0_mk x n trivial)⟩
theorem ins6 (x : Int) (n : Nat) (hn : n < 100) (hq : Int.tmod (bits .and .i64 x 255) 18 = ((6 : Nat) : Int)) : Vc (vcFn Try.prog false 28 [.int .i64 x, .int .i64 n] [.iy 6, .cl [.int .i64 (x2 x 8)] (.agg (vlA (vlN (x2 x 8)))) [], .cl [.int .i64 (x2 x 11)] (.agg (vlA (vlN (x2 x 11)))) [], .ll [3, 4]] [] (.agg (inA (insOf 3 x n))) []) :=
  vc_of (q := ((18 : Int) ≠ (0 : Int)) ∧ (Int.tmod (Go.bits Go.BinOp.and IntKind.i64 x (255 : Int)) (18 : Int) = (↑(6 : Nat) : Int)) ∧ ((0 : Int) ≤ (↑(6 : Nat) : Int) ∧ (↑(6 : Nat) : Int) < (↑(18 : Nat) : Int)) ∧ ((6 : Nat) < (18 : Nat)) ∧ ((0 : Int) ≤ (8 : Int)) ∧ (Int.fdiv x ((2 : Int) ^ (8 : Nat)) = x2 x (8 : Nat)) ∧ cS8k1 x ∧ ((0 : Int) ≤ (11 : Int)) ∧ (Int.fdiv x ((2 : Int) ^ (11 : Nat)) = x2 x (11 : Nat)) ∧ cS8k0 x ∧ ((0 : Int) ≤ (14 : Int)) ∧ ((3 : Int) = (3 : Int)) ∧ ((0 : Int) = (0 : Int)) ∧ (Go.bits Go.BinOp.and IntKind.i64 (Int.fdiv x ((2 : Int) ^ (14 : Nat))) (3 : Int) = Go.bits Go.BinOp.and IntKind.i64 (x2 x (14 : Nat)) (3 : Int)) ∧ (frS8k0 x n (True))) (by kernel_rfl)
    ⟨(by omega),
 (by first | omega | rfl),
 (by first | omega | rfl),
 (by first | omega | rfl),
 (by first | omega | rfl),
 (by first | omega | rfl | (simp; done) | (simp; omega)),
 lvalC _,
 (by first | omega | rfl),
 (by first | omega | rfl | (simp; done) | (simp; omega)),
 lvalC _,
 (by first | omega | rfl),
 rfl,
 rfl,
 (by first | omega | rfl | (simp; done) | (simp; omega)), (frS8k0_mk x n trivial)⟩
theorem ins7 (x : Int) (n : Nat) (hn : n < 100) (hq : Int.tmod (bits .and .i64 x 255) 18 = ((7 : Nat) : Int)) : Vc (vcFn Try.prog false 28 [.int .i64 x, .int .i64 n] [.iy 7, .cl [.int .i64 (x2 x 8)] (.agg (vlA (vlN (x2 x 8)))) [], .cl [.int .i64 (x2 x 11)] (.agg (vlA (vlN (x2 x 11)))) [], .ll [3, 4]] [] (.agg (inA (insOf 4 x n))) []) :=
  vc_of (q := ((18 : Int) ≠ (0 : Int)) ∧ (Int.tmod (Go.bits Go.BinOp.and IntKind.i64 x (255 : Int)) (18 : Int) = (↑(7 : Nat) : Int)) ∧ ((0 : Int) ≤ (↑(7 : Nat) : Int) ∧ (↑(7 : Nat) : Int) < (↑(18 : Nat) : Int)) ∧ ((7 : Nat) < (18 : Nat)) ∧ ((0 : Int) ≤ (8 : Int)) ∧ (Int.fdiv x ((2 : Int) ^ (8 : Nat)) = x2 x (8 : Nat)) ∧ cS8k1 x ∧ ((0 : Int) ≤ (11 : Int)) ∧ (Int.fdiv x ((2 : Int) ^ (11 : Nat)) = x2 x (11 : Nat)) ∧ cS8k0 x ∧ ((0 : Int) ≤ (14 : Int)) ∧ ((4 : Int) = (4 : Int)) ∧ ((0 : Int) = (0 : Int)) ∧ (Go.bits Go.BinOp.and IntKind.i64 (Int.fdiv x ((2 : Int) ^ (14 : Nat))) (3 : Int) = Go.bits Go.BinOp.and IntKind.i64 (x2 x (14 : Nat)) (3 : Int)) ∧ (frS8k0 x n (True))) (by kernel_rfl)
    ⟨(by omega),
 (by first | omega | rfl),
 (by first | omega | rfl),
 (by first | omega | rfl),
 (by first | omega | rfl),
 (by first | omega | rfl | (simp; done) | (simp; omega)),
 lvalC _,
 (by first | omega | rfl),
 (by first | omega | rfl | (simp; done) | (simp; omega)),
 lvalC _,
 (by first | omega | rfl),
 rfl,
 rfl,
 (by first | omega | rfl | (simp; done) | (simp; omega)), (frS8k0_mk x n trivial)⟩
def frS8k1 (x : Int) (n : Nat) (Z : Prop) : Prop := ((0 : Int) = (0 : Int)) ∧ (Vl.reg (vlN (x2 x (8 : Nat))) = Vl.reg (vlN (x2 x (8 : Nat)))) ∧ (Vl.n (vlN (x2 x (8 : Nat))) = Vl.n (vlN (x2 x (8 : Nat)))) ∧ (Vl.reg (vlN (x2 x (11 : Nat))) = Vl.reg (vlN (x2 x (11 : Nat)))) ∧ (Vl.n (vlN (x2 x (11 : Nat))) = Vl.n (vlN (x2 x (11 : Nat)))) ∧ (ByteArray.mk (Array.mk []) = ByteArray.mk (Array.mk [])) ∧ Z
theorem frS8k1_mk (x : Int) (n : Nat) {Z : Prop} (z : Z) : frS8k1 x n Z := ⟨rfl, rfl, rfl, rfl, rfl, rfl, z⟩
theorem ins8_0 (x : Int) (n : Nat) (hn : n < 100) (hq : Int.tmod (bits .and .i64 x 255) 18 = ((8 : Nat) : Int)) (hr : bits .and .i64 (Int.fdiv x (2 ^ 16)) 3 = ((0 : Nat) : Int)) : Vc (vcFn Try.prog false 28 [.int .i64 x, .int .i64 n] [.iy 8, .cl [.int .i64 (x2 x 8)] (.agg (vlA (vlN (x2 x 8)))) [], .cl [.int .i64 (x2 x 11)] (.agg (vlA (vlN (x2 x 11)))) [], .ll [3, 4], .iy 0] [] (.agg (inA (insOf 5 x n))) []) :=
  vc_of (q := ((18 : Int) ≠ (0 : Int)) ∧ (Int.tmod (Go.bits Go.BinOp.and IntKind.i64 x (255 : Int)) (18 : Int) = (↑(8 : Nat) : Int)) ∧ ((0 : Int) ≤ (↑(8 : Nat) : Int) ∧ (↑(8 : Nat) : Int) < (↑(18 : Nat) : Int)) ∧ ((8 : Nat) < (18 : Nat)) ∧ ((0 : Int) ≤ (8 : Int)) ∧ (Int.fdiv x ((2 : Int) ^ (8 : Nat)) = x2 x (8 : Nat)) ∧ cS8k1 x ∧ ((0 : Int) ≤ (11 : Int)) ∧ (Int.fdiv x ((2 : Int) ^ (11 : Nat)) = x2 x (11 : Nat)) ∧ cS8k0 x ∧ ((0 : Int) ≤ (16 : Int)) ∧ (Go.bits Go.BinOp.and IntKind.i64 (Int.fdiv x ((2 : Int) ^ (16 : Nat))) (3 : Int) = (↑(0 : Nat) : Int)) ∧ ((0 : Int) ≤ (↑(0 : Nat) : Int) ∧ (↑(0 : Nat) : Int) < (↑(4 : Nat) : Int)) ∧ ((0 : Nat) < (4 : Nat)) ∧ ((0 : Int) ≤ (18 : Int)) ∧ (inK IntKind.i64 ((↑n : Int) + (1 : Int))) ∧ ((↑n : Int) + (1 : Int) ≠ (0 : Int)) ∧ ((5 : Int) = (5 : Int)) ∧ ((9 : Int) = List.getD [(9 : Int), (10 : Int), (3 : Int), (2 : Int)] (Int.toNat (Go.bits Go.BinOp.and IntKind.i64 (x2 x (16 : Nat)) (3 : Int))) (0 : Int)) ∧ (frS8k1 x n ((Int.tmod (Go.bits Go.BinOp.and IntKind.i64 (Int.fdiv x ((2 : Int) ^ (18 : Nat))) (255 : Int)) ((↑n : Int) + (1 : Int)) = tmN (x2 x (18 : Nat)) ((↑n : Int) + (1 : Int))) ∧ True))) (by kernel_rfl)
    ⟨(by omega),
 (by first | omega | rfl),
 (by first | omega | rfl),
 (by first | omega | rfl),
 (by first | omega | rfl),
 (by first | omega | rfl | (simp; done) | (simp; omega)),
 lvalC _,
 (by first | omega | rfl),
 (by first | omega | rfl | (simp; done) | (simp; omega)),
 lvalC _,
 (by first | omega | rfl),
 (by first | omega | rfl | (simp; done) | (simp; omega)),
 (by first | omega | rfl),
 (by first | omega | rfl),
 (by first | omega | rfl),
 (in64 (by omega) (by omega)),
 (by omega),
 rfl,
 (by rw [show bits .and .i64 (x2 x 16) 3 = ((0 : Nat) : Int) from hr]; rfl), (frS8k1_mk x n ⟨(by first | omega | rfl | (simp; done) | (simp; omega)), trivial⟩)⟩
theorem ins8_1 (x : Int) (n : Nat) (hn : n < 100) (hq : Int.tmod (bits .and .i64 x 255) 18 = ((8 : Nat) : Int)) (hr : bits .and .i64 (Int.fdiv x (2 ^ 16)) 3 = ((1 : Nat) : Int)) : Vc (vcFn Try.prog false 28 [.int .i64 x, .int .i64 n] [.iy 8, .cl [.int .i64 (x2 x 8)] (.agg (vlA (vlN (x2 x 8)))) [], .cl [.int .i64 (x2 x 11)] (.agg (vlA (vlN (x2 x 11)))) [], .ll [3, 4], .iy 1] [] (.agg (inA (insOf 5 x n))) []) :=
  vc_of (q := ((18 : Int) ≠ (0 : Int)) ∧ (Int.tmod (Go.bits Go.BinOp.and IntKind.i64 x (255 : Int)) (18 : Int) = (↑(8 : Nat) : Int)) ∧ ((0 : Int) ≤ (↑(8 : Nat) : Int) ∧ (↑(8 : Nat) : Int) < (↑(18 : Nat) : Int)) ∧ ((8 : Nat) < (18 : Nat)) ∧ ((0 : Int) ≤ (8 : Int)) ∧ (Int.fdiv x ((2 : Int) ^ (8 : Nat)) = x2 x (8 : Nat)) ∧ cS8k1 x ∧ ((0 : Int) ≤ (11 : Int)) ∧ (Int.fdiv x ((2 : Int) ^ (11 : Nat)) = x2 x (11 : Nat)) ∧ cS8k0 x ∧ ((0 : Int) ≤ (16 : Int)) ∧ (Go.bits Go.BinOp.and IntKind.i64 (Int.fdiv x ((2 : Int) ^ (16 : Nat))) (3 : Int) = (↑(1 : Nat) : Int)) ∧ ((0 : Int) ≤ (↑(1 : Nat) : Int) ∧ (↑(1 : Nat) : Int) < (↑(4 : Nat) : Int)) ∧ ((1 : Nat) < (4 : Nat)) ∧ ((0 : Int) ≤ (18 : Int)) ∧ (inK IntKind.i64 ((↑n : Int) + (1 : Int))) ∧ ((↑n : Int) + (1 : Int) ≠ (0 : Int)) ∧ ((5 : Int) = (5 : Int)) ∧ ((10 : Int) = List.getD [(9 : Int), (10 : Int), (3 : Int), (2 : Int)] (Int.toNat (Go.bits Go.BinOp.and IntKind.i64 (x2 x (16 : Nat)) (3 : Int))) (0 : Int)) ∧ (frS8k1 x n ((Int.tmod (Go.bits Go.BinOp.and IntKind.i64 (Int.fdiv x ((2 : Int) ^ (18 : Nat))) (255 : Int)) ((↑n : Int) + (1 : Int)) = tmN (x2 x (18 : Nat)) ((↑n : Int) + (1 : Int))) ∧ True))) (by kernel_rfl)
    ⟨(by omega),
 (by first | omega | rfl),
 (by first | omega | rfl),
 (by first | omega | rfl),
 (by first | omega | rfl),
 (by first | omega | rfl | (simp; done) | (simp; omega)),
 lvalC _,
 (by first | omega | rfl),
 (by first | omega | rfl | (simp; done) | (simp; omega)),
 lvalC _,
 (by first | omega | rfl),
 (by first | omega | rfl | (simp; done) | (simp; omega)),
 (by first | omega | rfl),
 (by first | omega | rfl),
 (by first | omega | rfl),
 (in64 (by omega) (by omega)),
 (by omega),
 rfl,
 (by rw [show bits .and .i64 (x2 x 16) 3 = ((1 : Nat) : Int) from hr]; rfl), (frS8k1_mk x n ⟨(by first | omega | rfl | (simp; done) | (simp; omega)), trivial⟩)⟩
theorem ins8_2 (x : Int) (n : Nat) (hn : n < 100) (hq : Int.tmod (bits .and .i64 x 255) 18 = ((8 : Nat) : Int)) (hr : bits .and .i64 (Int.fdiv x (2 ^ 16)) 3 = ((2 : Nat) : Int)) : Vc (vcFn Try.prog false 28 [.int .i64 x, .int .i64 n] [.iy 8, .cl [.int .i64 (x2 x 8)] (.agg (vlA (vlN (x2 x 8)))) [], .cl [.int .i64 (x2 x 11)] (.agg (vlA (vlN (x2 x 11)))) [], .ll [3, 4], .iy 2] [] (.agg (inA (insOf 5 x n))) []) :=
  vc_of (q := ((18 : Int) ≠ (0 : Int)) ∧ (Int.tmod (Go.bits Go.BinOp.and IntKind.i64 x (255 : Int)) (18 : Int) = (↑(8 : Nat) : Int)) ∧ ((0 : Int) ≤ (↑(8 : Nat) : Int) ∧ (↑(8 : Nat) : Int) < (↑(18 : Nat) : Int)) ∧ ((8 : Nat) < (18 : Nat)) ∧ ((0 : Int) ≤ (8 : Int)) ∧ (Int.fdiv x ((2 : Int) ^ (8 : Nat)) = x2 x (8 : Nat)) ∧ cS8k1 x ∧ ((0 : Int) ≤ (11 : Int)) ∧ (Int.fdiv x ((2 : Int) ^ (11 : Nat)) = x2 x (11 : Nat)) ∧ cS8k0 x ∧ ((0 : Int) ≤ (16 : Int)) ∧ (Go.bits Go.BinOp.and IntKind.i64 (Int.fdiv x ((2 : Int) ^ (16 : Nat))) (3 : Int) = (↑(2 : Nat) : Int)) ∧ ((0 : Int) ≤ (↑(2 : Nat) : Int) ∧ (↑(2 : Nat) : Int) < (↑(4 : Nat) : Int)) ∧ ((2 : Nat) < (4 : Nat)) ∧ ((0 : Int) ≤ (18 : Int)) ∧ (inK IntKind.i64 ((↑n : Int) + (1 : Int))) ∧ ((↑n : Int) + (1 : Int) ≠ (0 : Int)) ∧ ((5 : Int) = (5 : Int)) ∧ ((3 : Int) = List.getD [(9 : Int), (10 : Int), (3 : Int), (2 : Int)] (Int.toNat (Go.bits Go.BinOp.and IntKind.i64 (x2 x (16 : Nat)) (3 : Int))) (0 : Int)) ∧ (frS8k1 x n ((Int.tmod (Go.bits Go.BinOp.and IntKind.i64 (Int.fdiv x ((2 : Int) ^ (18 : Nat))) (255 : Int)) ((↑n : Int) + (1 : Int)) = tmN (x2 x (18 : Nat)) ((↑n : Int) + (1 : Int))) ∧ True))) (by kernel_rfl)
    ⟨(by omega),
 (by first | omega | rfl),
 (by first | omega | rfl),
 (by first | omega | rfl),
 (by first | omega | rfl),
 (by first | omega | rfl | (simp; done) | (simp; omega)),
 lvalC _,
 (by first | omega | rfl),
 (by first | omega | rfl | (simp; done) | (simp; omega)),
 lvalC _,
 (by first | omega | rfl),
 (by first | omega | rfl | (simp; done) | (simp; omega)),
 (by first | omega | rfl),
 (by first | omega | rfl),
 (by first | omega | rfl),
 (in64 (by omega) (by omega)),
 (by omega),
 rfl,
 (by rw [show bits .and .i64 (x2 x 16) 3 = ((2 : Nat) : Int) from hr]; rfl), (frS8k1_mk x n ⟨(by first | omega | rfl | (simp; done) | (simp; omega)), trivial⟩)⟩
theorem ins8_3 (x : Int) (n : Nat) (hn : n < 100) (hq : Int.tmod (bits .and .i64 x 255) 18 = ((8 : Nat) : Int)) (hr : bits .and .i64 (Int.fdiv x (2 ^ 16)) 3 = ((3 : Nat) : Int)) : Vc (vcFn Try.prog false 28 [.int .i64 x, .int .i64 n] [.iy 8, .cl [.int .i64 (x2 x 8)] (.agg (vlA (vlN (x2 x 8)))) [], .cl [.int .i64 (x2 x 11)] (.agg (vlA (vlN (x2 x 11)))) [], .ll [3, 4], .iy 3] [] (.agg (inA (insOf 5 x n))) []) :=
  vc_of (q := ((18 : Int) ≠ (0 : Int)) ∧ (Int.tmod (Go.bits Go.BinOp.and IntKind.i64 x (255 : Int)) (18 : Int) = (↑(8 : Nat) : Int)) ∧ ((0 : Int) ≤ (↑(8 : Nat) : Int) ∧ (↑(8 : Nat) : Int) < (↑(18 : Nat) : Int)) ∧ ((8 : Nat) < (18 : Nat)) ∧ ((0 : Int) ≤ (8 : Int)) ∧ (Int.fdiv x ((2 : Int) ^ (8 : Nat)) = x2 x (8 : Nat)) ∧ cS8k1 x ∧ ((0 : Int) ≤ (11 : Int)) ∧ (Int.fdiv x ((2 : Int) ^ (11 : Nat)) = x2 x (11 : Nat)) ∧ cS8k0 x ∧ ((0 : Int) ≤ (16 : Int)) ∧ (Go.bits Go.BinOp.and IntKind.i64 (Int.fdiv x ((2 : Int) ^ (16 : Nat))) (3 : Int) = (↑(3 : Nat) : Int)) ∧ ((0 : Int) ≤ (↑(3 : Nat) : Int) ∧ (↑(3 : Nat) : Int) < (↑(4 : Nat) : Int)) ∧ ((3 : Nat) < (4 : Nat)) ∧ ((0 : Int) ≤ (18 : Int)) ∧ (inK IntKind.i64 ((↑n : Int) + (1 : Int))) ∧ ((↑n : Int) + (1 : Int) ≠ (0 : Int)) ∧ ((5 : Int) = (5 : Int)) ∧ ((2 : Int) = List.getD [(9 : Int), (10 : Int), (3 : Int), (2 : Int)] (Int.toNat (Go.bits Go.BinOp.and IntKind.i64 (x2 x (16 : Nat)) (3 : Int))) (0 : Int)) ∧ (frS8k1 x n ((Int.tmod (Go.bits Go.BinOp.and IntKind.i64 (Int.fdiv x ((2 : Int) ^ (18 : Nat))) (255 : Int)) ((↑n : Int) + (1 : Int)) = tmN (x2 x (18 : Nat)) ((↑n : Int) + (1 : Int))) ∧ True))) (by kernel_rfl)
    ⟨(by omega),
 (by first | omega | rfl),
 (by first | omega | rfl),
 (by first | omega | rfl),
 (by first | omega | rfl),
 (by first | omega | rfl | (simp; done) | (simp; omega)),
 lvalC _,
 (by first | omega | rfl),
 (by first | omega | rfl | (simp; done) | (simp; omega)),
 lvalC _,
 (by first | omega | rfl),
 (by first | omega | rfl | (simp; done) | (simp; omega)),
 (by first | omega | rfl),
 (by first | omega | rfl),
 (by first | omega | rfl),
 (in64 (by omega) (by omega)),
 (by omega),
 rfl,
 (by rw [show bits .and .i64 (x2 x 16) 3 = ((3 : Nat) : Int) from hr]; rfl), (frS8k1_mk x n ⟨(by first | omega | rfl | (simp; done) | (simp; omega)), trivial⟩)⟩
theorem ins9_0 (x : Int) (n : Nat) (hn : n < 100) (hq : Int.tmod (bits .and .i64 x 255) 18 = ((9 : Nat) : Int)) (hr : bits .and .i64 (Int.fdiv x (2 ^ 16)) 3 = ((0 : Nat) : Int)) : Vc (vcFn Try.prog false 28 [.int .i64 x, .int .i64 n] [.iy 9, .cl [.int .i64 (x2 x 8)] (.agg (vlA (vlN (x2 x 8)))) [], .cl [.int .i64 (x2 x 11)] (.agg (vlA (vlN (x2 x 11)))) [], .ll [3, 4], .iy 0] [] (.agg (inA (insOf 5 x n))) []) :=
  vc_of (q := ((18 : Int) ≠ (0 : Int)) ∧ (Int.tmod (Go.bits Go.BinOp.and IntKind.i64 x (255 : Int)) (18 : Int) = (↑(9 : Nat) : Int)) ∧ ((0 : Int) ≤ (↑(9 : Nat) : Int) ∧ (↑(9 : Nat) : Int) < (↑(18 : Nat) : Int)) ∧ ((9 : Nat) < (18 : Nat)) ∧ ((0 : Int) ≤ (8 : Int)) ∧ (Int.fdiv x ((2 : Int) ^ (8 : Nat)) = x2 x (8 : Nat)) ∧ cS8k1 x ∧ ((0 : Int) ≤ (11 : Int)) ∧ (Int.fdiv x ((2 : Int) ^ (11 : Nat)) = x2 x (11 : Nat)) ∧ cS8k0 x ∧ ((0 : Int) ≤ (16 : Int)) ∧ (Go.bits Go.BinOp.and IntKind.i64 (Int.fdiv x ((2 : Int) ^ (16 : Nat))) (3 : Int) = (↑(0 : Nat) : Int)) ∧ ((0 : Int) ≤ (↑(0 : Nat) : Int) ∧ (↑(0 : Nat) : Int) < (↑(4 : Nat) : Int)) ∧ ((0 : Nat) < (4 : Nat)) ∧ ((0 : Int) ≤ (18 : Int)) ∧ (inK IntKind.i64 ((↑n : Int) + (1 : Int))) ∧ ((↑n : Int) + (1 : Int) ≠ (0 : Int)) ∧ ((5 : Int) = (5 : Int)) ∧ ((9 : Int) = List.getD [(9 : Int), (10 : Int), (3 : Int), (2 : Int)] (Int.toNat (Go.bits Go.BinOp.and IntKind.i64 (x2 x (16 : Nat)) (3 : Int))) (0 : Int)) ∧ (frS8k1 x n ((Int.tmod (Go.bits Go.BinOp.and IntKind.i64 (Int.fdiv x ((2 : Int) ^ (18 : Nat))) (255 : Int)) ((↑n : Int) + (1 : Int)) = tmN (x2 x (18 : Nat)) ((↑n : Int) + (1 : Int))) ∧ True))) (by kernel_rfl)
    ⟨(by omega),
 (by first | omega | rfl),
 (by first | omega | rfl),
 (by first | omega | rfl),
 (by first | omega | rfl),
 (by first | omega | rfl | (simp; done) | (simp; omega)),
 lvalC _,
 (by first | omega | rfl),
 (by first | omega | rfl | (simp; done) | (simp; omega)),
 lvalC _,
 (by first | omega | rfl),
 (by first | omega | rfl | (simp; done) | (simp; omega)),
 (by first | omega | rfl),
 (by first | omega | rfl),
 (by first | omega | rfl),
 (in64 (by omega) (by omega)),
 (by omega),
 rfl,
 (by rw [show bits .and .i64 (x2 x 16) 3 = ((0 : Nat) : Int) from hr]; rfl), (frS8k1_mk x n ⟨(by first | omega | rfl | (simp; done) | (simp; omega)), trivial⟩)⟩
theorem ins9_1 (x : Int) (n : Nat) (hn : n < 100) (hq : Int.tmod (bits .and .i64 x 255) 18 = ((9 : Nat) : Int)) (hr : bits .and .i64 (Int.fdiv x (2 ^ 16)) 3 = ((1 : Nat) : Int)) : Vc (vcFn Try.prog false 28 [.int .i64 x, .int .i64 n] [.iy 9, .cl [.int .i64 (x2 x 8)] (.agg (vlA (vlN (x2 x 8)))) [], .cl [.int .i64 (x2 x 11)] (.agg (vlA (vlN (x2 x 11)))) [], .ll [3, 4], .iy 1] [] (.agg (inA (insOf 5 x n))) []) :=
  vc_of (q := ((18 : Int) ≠ (0 : Int)) ∧ (Int.tmod (Go.bits Go.BinOp.and IntKind.i64 x (255 : Int)) (18 : Int) = (↑(9 : Nat) : Int)) ∧ ((0 : Int) ≤ (↑(9 : Nat) : Int) ∧ (↑(9 : Nat) : Int) < (↑(18 : Nat) : Int)) ∧ ((9 : Nat) < (18 : Nat)) ∧ ((0 : Int) ≤ (8 : Int)) ∧ (Int.fdiv x ((2 : Int) ^ (8 : Nat)) = x2 x (8 : Nat)) ∧ cS8k1 x ∧ ((0 : Int) ≤ (11 : Int)) ∧ (Int.fdiv x ((2 : Int) ^ (11 : Nat)) = x2 x (11 : Nat)) ∧ cS8k0 x ∧ ((0 : Int) ≤ (16 : Int)) ∧ (Go.bits Go.BinOp.and IntKind.i64 (Int.fdiv x ((2 : Int) ^ (16 : Nat))) (3 : Int) = (↑(1 : Nat) : Int)) ∧ ((0 : Int) ≤ (↑(1 : Nat) : Int) ∧ (↑(1 : Nat) : Int) < (↑(4 : Nat) : Int)) ∧ ((1 : Nat) < (4 : Nat)) ∧ ((0 : Int) ≤ (18 : Int)) ∧ (inK IntKind.i64 ((↑n : Int) + (1 : Int))) ∧ ((↑n : Int) + (1 : Int) ≠ (0 : Int)) ∧ ((5 : Int) = (5 : Int)) ∧ ((10 : Int) = List.getD [(9 : Int), (10 : Int), (3 : Int), (2 : Int)] (Int.toNat (Go.bits Go.BinOp.and IntKind.i64 (x2 x (16 : Nat)) (3 : Int))) (0 : Int)) ∧ (frS8k1 x n ((Int.tmod (Go.bits Go.BinOp.and IntKind.i64 (Int.fdiv x ((2 : Int) ^ (18 : Nat))) (255 : Int)) ((↑n : Int) + (1 : Int)) = tmN (x2 x (18 : Nat)) ((↑n : Int) + (1 : Int))) ∧ True))) (by kernel_rfl)
    ⟨(by omega),
 (by first | omega | rfl),
 (by first | omega | rfl),
 (by first | omega | rfl),
 (by first | omega | rfl),
 (by first | omega | rfl | (simp; done) | (simp; omega)),
 lvalC _,
 (by first | omega | rfl),
 (by first | omega | rfl | (simp; done) | (simp; omega)),
 lvalC _,
 (by first | omega | rfl),
 (by first | omega | rfl | (simp; done) | (simp; omega)),
 (by first | omega | rfl),
 (by first | omega | rfl),
 (by first | omega | rfl),
 (in64 (by omega) (by omega)),
 (by omega),
 rfl,
 (by rw [show bits .and .i64 (x2 x 16) 3 = ((1 : Nat) : Int) from hr]; rfl), (frS8k1_mk x n ⟨(by first | omega | rfl | (simp; done) | (simp; omega)), trivial⟩)⟩
theorem ins9_2 (x : Int) (n : Nat) (hn : n < 100) (hq : Int.tmod (bits .and .i64 x 255) 18 = ((9 : Nat) : Int)) (hr : bits .and .i64 (Int.fdiv x (2 ^ 16)) 3 = ((2 : Nat) : Int)) : Vc (vcFn Try.prog false 28 [.int .i64 x, .int .i64 n] [.iy 9, .cl [.int .i64 (x2 x 8)] (.agg (vlA (vlN (x2 x 8)))) [], .cl [.int .i64 (x2 x 11)] (.agg (vlA (vlN (x2 x 11)))) [], .ll [3, 4], .iy 2] [] (.agg (inA (insOf 5 x n))) []) :=
  vc_of (q := ((18 : Int) ≠ (0 : Int)) ∧ (Int.tmod (Go.bits Go.BinOp.and IntKind.i64 x (255 : Int)) (18 : Int) = (↑(9 : Nat) : Int)) ∧ ((0 : Int) ≤ (↑(9 : Nat) : Int) ∧ (↑(9 : Nat) : Int) < (↑(18 : Nat) : Int)) ∧ ((9 : Nat) < (18 : Nat)) ∧ ((0 : Int) ≤ (8 : Int)) ∧ (Int.fdiv x ((2 : Int) ^ (8 : Nat)) = x2 x (8 : Nat)) ∧ cS8k1 x ∧ ((0 : Int) ≤ (11 : Int)) ∧ (Int.fdiv x ((2 : Int) ^ (11 : Nat)) = x2 x (11 : Nat)) ∧ cS8k0 x ∧ ((0 : Int) ≤ (16 : Int)) ∧ (Go.bits Go.BinOp.and IntKind.i64 (Int.fdiv x ((2 : Int) ^ (16 : Nat))) (3 : Int) = (↑(2 : Nat) : Int)) ∧ ((0 : Int) ≤ (↑(2 : Nat) : Int) ∧ (↑(2 : Nat) : Int) < (↑(4 : Nat) : Int)) ∧ ((2 : Nat) < (4 : Nat)) ∧ ((0 : Int) ≤ (18 : Int)) ∧ (inK IntKind.i64 ((↑n : Int) + (1 : Int))) ∧ ((↑n : Int) + (1 : Int) ≠ (0 : Int)) ∧ ((5 : Int) = (5 : Int)) ∧ ((3 : Int) = List.getD [(9 : Int), (10 : Int), (3 : Int), (2 : Int)] (Int.toNat (Go.bits Go.BinOp.and IntKind.i64 (x2 x (16 : Nat)) (3 : Int))) (0 : Int)) ∧ (frS8k1 x n ((Int.tmod (Go.bits Go.BinOp.and IntKind.i64 (Int.fdiv x ((2 : Int) ^ (18 : Nat))) (255 : Int)) ((↑n : Int) + (1 : Int)) = tmN (x2 x (18 : Nat)) ((↑n : Int) + (1 : Int))) ∧ True))) (by kernel_rfl)
    ⟨(by omega),
 (by first | omega | rfl),
 (by first | omega | rfl),
 (by first | omega | rfl),
 (by first | omega | rfl),
 (by first | omega | rfl | (simp; done) | (simp; omega)),
 lvalC _,
 (by first | omega | rfl),
 (by first | omega | rfl | (simp; done) | (simp; omega)),
 lvalC _,
 (by first | omega | rfl),
 (by first | omega | rfl | (simp; done) | (simp; omega)),
 (by first | omega | rfl),
 (by first | omega | rfl),
 (by first | omega | rfl),
 (in64 (by omega) (by omega)),
 (by omega),
 rfl,
 (by rw [show bits .and .i64 (x2 x 16) 3 = ((2 : Nat) : Int) from hr]; rfl), (frS8k1_mk x n ⟨(by first | omega | rfl | (simp; done) | (simp; omega)), trivial⟩)⟩
theorem ins9_3 (x : Int) (n : Nat) (hn : n < 100) (hq : Int.tmod (bits .and .i64 x 255) 18 = ((9 : Nat) : Int)) (hr : bits .and .i64 (Int.fdiv x (2 ^ 16)) 3 = ((3 : Nat) : Int)) : Vc (vcFn Try.prog false 28 [.int .i64 x, .int .i64 n] [.iy 9, .cl [.int .i64 (x2 x 8)] (.agg (vlA (vlN (x2 x 8)))) [], .cl [.int .i64 (x2 x 11)] (.agg (vlA (vlN (x2 x 11)))) [], .ll [3, 4], .iy 3] [] (.agg (inA (insOf 5 x n))) []) :=
  vc_of (q := ((18 : Int) ≠ (0 : Int)) ∧ (Int.tmod (Go.bits Go.BinOp.and IntKind.i64 x (255 : Int)) (18 : Int) = (↑(9 : Nat) : Int)) ∧ ((0 : Int) ≤ (↑(9 : Nat) : Int) ∧ (↑(9 : Nat) : Int) < (↑(18 : Nat) : Int)) ∧ ((9 : Nat) < (18 : Nat)) ∧ ((0 : Int) ≤ (8 : Int)) ∧ (Int.fdiv x ((2 : Int) ^ (8 : Nat)) = x2 x (8 : Nat)) ∧ cS8k1 x ∧ ((0 : Int) ≤ (11 : Int)) ∧ (Int.fdiv x ((2 : Int) ^ (11 : Nat)) = x2 x (11 : Nat)) ∧ cS8k0 x ∧ ((0 : Int) ≤ (16 : Int)) ∧ (Go.bits Go.BinOp.and IntKind.i64 (Int.fdiv x ((2 : Int) ^ (16 : Nat))) (3 : Int) = (↑(3 : Nat) : Int)) ∧ ((0 : Int) ≤ (↑(3 : Nat) : Int) ∧ (↑(3 : Nat) : Int) < (↑(4 : Nat) : Int)) ∧ ((3 : Nat) < (4 : Nat)) ∧ ((0 : Int) ≤ (18 : Int)) ∧ (inK IntKind.i64 ((↑n : Int) + (1 : Int))) ∧ ((↑n : Int) + (1 : Int) ≠ (0 : Int)) ∧ ((5 : Int) = (5 : Int)) ∧ ((2 : Int) = List.getD [(9 : Int), (10 : Int), (3 : Int), (2 : Int)] (Int.toNat (Go.bits Go.BinOp.and IntKind.i64 (x2 x (16 : Nat)) (3 : Int))) (0 : Int)) ∧ (frS8k1 x n ((Int.tmod (Go.bits Go.BinOp.and IntKind.i64 (Int.fdiv x ((2 : Int) ^ (18 : Nat))) (255 : Int)) ((↑n : Int) + (1 : Int)) = tmN (x2 x (18 : Nat)) ((↑n : Int) + (1 : Int))) ∧ True))) (by kernel_rfl)
    ⟨(by omega),
 (by first | omega | rfl),
 (by first | omega | rfl),
 (by first | omega | rfl),
 (by first | omega | rfl),
 (by first | omega | rfl | (simp; done) | (simp; omega)),
 lvalC _,
 (by first | omega | rfl),
 (by first | omega | rfl | (simp; done) | (simp; omega)),
 lvalC _,
 (by first | omega | rfl),
 (by first | omega | rfl | (simp; done) | (simp; omega)),
 (by first | omega | rfl),
 (by first | omega | rfl),
 (by first | omega | rfl),
 (in64 (by omega) (by omega)),
 (by omega),
 rfl,
 (by rw [show bits .and .i64 (x2 x 16) 3 = ((3 : Nat) : Int) from hr]; rfl), (frS8k1_mk x n ⟨(by first | omega | rfl | (simp; done) | (simp; omega)), trivial⟩)⟩
theorem ins10_0 (x : Int) (n : Nat) (hn : n < 100) (hq : Int.tmod (bits .and .i64 x 255) 18 = ((10 : Nat) : Int)) (hr : bits .and .i64 (Int.fdiv x (2 ^ 16)) 3 = ((0 : Nat) : Int)) : Vc (vcFn Try.prog false 28 [.int .i64 x, .int .i64 n] [.iy 10, .cl [.int .i64 (x2 x 8)] (.agg (vlA (vlN (x2 x 8)))) [], .cl [.int .i64 (x2 x 11)] (.agg (vlA (vlN (x2 x 11)))) [], .ll [3, 4], .iy 0] [] (.agg (inA (insOf 5 x n))) []) :=
  vc_of (q := ((18 : Int) ≠ (0 : Int)) ∧ (Int.tmod (Go.bits Go.BinOp.and IntKind.i64 x (255 : Int)) (18 : Int) = (↑(10 : Nat) : Int)) ∧ ((0 : Int) ≤ (↑(10 : Nat) : Int) ∧ (↑(10 : Nat) : Int) < (↑(18 : Nat) : Int)) ∧ ((10 : Nat) < (18 : Nat)) ∧ ((0 : Int) ≤ (8 : Int)) ∧ (Int.fdiv x ((2 : Int) ^ (8 : Nat)) = x2 x (8 : Nat)) ∧ cS8k1 x ∧ ((0 : Int) ≤ (11 : Int)) ∧ (Int.fdiv x ((2 : Int) ^ (11 : Nat)) = x2 x (11 : Nat)) ∧ cS8k0 x ∧ ((0 : Int) ≤ (16 : Int)) ∧ (Go.bits Go.BinOp.and IntKind.i64 (Int.fdiv x ((2 : Int) ^ (16 : Nat))) (3 : Int) = (↑(0 : Nat) : Int)) ∧ ((0 : Int) ≤ (↑(0 : Nat) : Int) ∧ (↑(0 : Nat) : Int) < (↑(4 : Nat) : Int)) ∧ ((0 : Nat) < (4 : Nat)) ∧ ((0 : Int) ≤ (18 : Int)) ∧ (inK IntKind.i64 ((↑n : Int) + (1 : Int))) ∧ ((↑n : Int) + (1 : Int) ≠ (0 : Int)) ∧ ((5 : Int) = (5 : Int)) ∧ ((9 : Int) = List.getD [(9 : Int), (10 : Int), (3 : Int), (2 : Int)] (Int.toNat (Go.bits Go.BinOp.and IntKind.i64 (x2 x (16 : Nat)) (3 : Int))) (0 : Int)) ∧ (frS8k1 x n ((Int.tmod (Go.bits Go.BinOp.and IntKind.i64 (Int.fdiv x ((2 : Int) ^ (18 : Nat))) (255 : Int)) ((↑n : Int) + (1 : Int)) = tmN (x2 x (18 : Nat)) ((↑n : Int) + (1 : Int))) ∧ True))) (by kernel_rfl)
    ⟨(by omega),
 (by first | omega | rfl),
 (by first | omega | rfl),
 (by first | omega | rfl),
 (by first | omega | rfl),
 (by first | omega | rfl | (simp; done) | (simp; omega)),
 lvalC _,
 (by first | omega | rfl),
 (by first | omega | rfl | (simp; done) | (simp; omega)),
 lvalC _,
 (by first | omega | rfl),
 (by first | omega | rfl | (simp; done) | (simp; omega)),
 (by first | omega | rfl),
 (by first | omega | rfl),
 (by first | omega | rfl),
 (in64 (by omega) (by omega)),
 (by omega),
 rfl,
 (by rw [show bits .and .i64 (x2 x 16) 3 = ((0 : Nat) : Int) from hr]; rfl), (frS8k1_mk x n ⟨(by first | omega | rfl | (simp; done) | (simp; omega)), trivial⟩)⟩
theorem ins10_1 (x : Int) (n : Nat) (hn : n < 100) (hq : Int.tmod (bits .and .i64 x 255) 18 = ((10 : Nat) : Int)) (hr : bits .and .i64 (Int.fdiv x (2 ^ 16)) 3 = ((1 : Nat) : Int)) : Vc (vcFn Try.prog false 28 [.int .i64 x, .int .i64 n] [.iy 10, .cl [.int .i64 (x2 x 8)] (.agg (vlA (vlN (x2 x 8)))) [], .cl [.int .i64 (x2 x 11)] (.agg (vlA (vlN (x2 x 11)))) [], .ll [3, 4], .iy 1] [] (.agg (inA (insOf 5 x n))) []) :=
  vc_of (q := ((18 : Int) ≠ (0 : Int)) ∧ (Int.tmod (Go.bits Go.BinOp.and IntKind.i64 x (255 : Int)) (18 : Int) = (↑(10 : Nat) : Int)) ∧ ((0 : Int) ≤ (↑(10 : Nat) : Int) ∧ (↑(10 : Nat) : Int) < (↑(18 : Nat) : Int)) ∧ ((10 : Nat) < (18 : Nat)) ∧ ((0 : Int) ≤ (8 : Int)) ∧ (Int.fdiv x ((2 : Int) ^ (8 : Nat)) = x2 x (8 : Nat)) ∧ cS8k1 x ∧ ((0 : Int) ≤ (11 : Int)) ∧ (Int.fdiv x ((2 : Int) ^ (11 : Nat)) = x2 x (11 : Nat)) ∧ cS8k0 x ∧ ((0 : Int) ≤ (16 : Int)) ∧ (Go.bits Go.BinOp.and IntKind.i64 (Int.fdiv x ((2 : Int) ^ (16 : Nat))) (3 : Int) = (↑(1 : Nat) : Int)) ∧ ((0 : Int) ≤ (↑(1 : Nat) : Int) ∧ (↑(1 : Nat) : Int) < (↑(4 : Nat) : Int)) ∧ ((1 : Nat) < (4 : Nat)) ∧ ((0 : Int) ≤ (18 : Int)) ∧ (inK IntKind.i64 ((↑n : Int) + (1 : Int))) ∧ ((↑n : Int) + (1 : Int) ≠ (0 : Int)) ∧ ((5 : Int) = (5 : Int)) ∧ ((10 : Int) = List.getD [(9 : Int), (10 : Int), (3 : Int), (2 : Int)] (Int.toNat (Go.bits Go.BinOp.and IntKind.i64 (x2 x (16 : Nat)) (3 : Int))) (0 : Int)) ∧ (frS8k1 x n ((Int.tmod (Go.bits Go.BinOp.and IntKind.i64 (Int.fdiv x ((2 : Int) ^ (18 : Nat))) (255 : Int)) ((↑n : Int) + (1 : Int)) = tmN (x2 x (18 : Nat)) ((↑n : Int) + (1 : Int))) ∧ True))) (by kernel_rfl)
    ⟨(by omega),
 (by first | omega | rfl),
 (by first | omega | rfl),
 (by first | omega | rfl),
 (by first | omega | rfl),
 (by first | omega | rfl | (simp; done) | (simp; omega)),
 lvalC _,
 (by first | omega | rfl),
 (by first | omega | rfl | (simp; done) | (simp; omega)),
 lvalC _,
 (by first | omega | rfl),
 (by first | omega | rfl | (simp; done) | (simp; omega)),
 (by first | omega | rfl),
 (by first | omega | rfl),
 (by first | omega | rfl),
 (in64 (by omega) (by omega)),
 (by omega),
 rfl,
 (by rw [show bits .and .i64 (x2 x 16) 3 = ((1 : Nat) : Int) from hr]; rfl), (frS8k1_mk x n ⟨(by first | omega | rfl | (simp; done) | (simp; omega)), trivial⟩)⟩
theorem ins10_2 (x : Int) (n : Nat) (hn : n < 100) (hq : Int.tmod (bits .and .i64 x 255) 18 = ((10 : Nat) : Int)) (hr : bits .and .i64 (Int.fdiv x (2 ^ 16)) 3 = ((2 : Nat) : Int)) : Vc (vcFn Try.prog false 28 [.int .i64 x, .int .i64 n] [.iy 10, .cl [.int .i64 (x2 x 8)] (.agg (vlA (vlN (x2 x 8)))) [], .cl [.int .i64 (x2 x 11)] (.agg (vlA (vlN (x2 x 11)))) [], .ll [3, 4], .iy 2] [] (.agg (inA (insOf 5 x n))) []) :=
  vc_of (q := ((18 : Int) ≠ (0 : Int)) ∧ (Int.tmod (Go.bits Go.BinOp.and IntKind.i64 x (255 : Int)) (18 : Int) = (↑(10 : Nat) : Int)) ∧ ((0 : Int) ≤ (↑(10 : Nat) : Int) ∧ (↑(10 : Nat) : Int) < (↑(18 : Nat) : Int)) ∧ ((10 : Nat) < (18 : Nat)) ∧ ((0 : Int) ≤ (8 : Int)) ∧ (Int.fdiv x ((2 : Int) ^ (8 : Nat)) = x2 x (8 : Nat)) ∧ cS8k1 x ∧ ((0 : Int) ≤ (11 : Int)) ∧ (Int.fdiv x ((2 : Int) ^ (11 : Nat)) = x2 x (11 : Nat)) ∧ cS8k0 x ∧ ((0 : Int) ≤ (16 : Int)) ∧ (Go.bits Go.BinOp.and IntKind.i64 (Int.fdiv x ((2 : Int) ^ (16 : Nat))) (3 : Int) = (↑(2 : Nat) : Int)) ∧ ((0 : Int) ≤ (↑(2 : Nat) : Int) ∧ (↑(2 : Nat) : Int) < (↑(4 : Nat) : Int)) ∧ ((2 : Nat) < (4 : Nat)) ∧ ((0 : Int) ≤ (18 : Int)) ∧ (inK IntKind.i64 ((↑n : Int) + (1 : Int))) ∧ ((↑n : Int) + (1 : Int) ≠ (0 : Int)) ∧ ((5 : Int) = (5 : Int)) ∧ ((3 : Int) = List.getD [(9 : Int), (10 : Int), (3 : Int), (2 : Int)] (Int.toNat (Go.bits Go.BinOp.and IntKind.i64 (x2 x (16 : Nat)) (3 : Int))) (0 : Int)) ∧ (frS8k1 x n ((Int.tmod (Go.bits Go.BinOp.and IntKind.i64 (Int.fdiv x ((2 : Int) ^ (18 : Nat))) (255 : Int)) ((↑n : Int) + (1 : Int)) = tmN (x2 x (18 : Nat)) ((↑n : Int) + (1 : Int))) ∧ True))) (by kernel_rfl)
    ⟨(by omega),
 (by first | omega | rfl),
 (by first | omega | rfl),
 (by first | omega | rfl),
 (by first | omega | rfl),
 (by first | omega | rfl | (simp; done) | (simp; omega)),
 lvalC _,
 (by first | omega | rfl),
 (by first | omega | rfl | (simp; done) | (simp; omega)),
 lvalC _,
 (by first | omega | rfl),
 (by first | omega | rfl | (simp; done) | (simp; omega)),
 (by first | omega | rfl),
 (by first | omega | rfl),
 (by first | omega | rfl),
 (in64 (by omega) (by omega)),
 (by omega),
 rfl,
 (by rw [show bits .and .i64 (x2 x 16) 3 = ((2 : Nat) : Int) from hr]; rfl), (frS8k1_mk x n ⟨(by first | omega | rfl | (simp; done) | (simp; omega)), trivial⟩)⟩
theorem ins10_3 (x : Int) (n : Nat) (hn : n < 100) (hq : Int.tmod (bits .and .i64 x 255) 18 = ((10 : Nat) : Int)) (hr : bits .and .i64 (Int.fdiv x (2 ^ 16)) 3 = ((3 : Nat) : Int)) : Vc (vcFn Try.prog false 28 [.int .i64 x, .int .i64 n] [.iy 10, .cl [.int .i64 (x2 x 8)] (.agg (vlA (vlN (x2 x 8)))) [], .cl [.int .i64 (x2 x 11)] (.agg (vlA (vlN (x2 x 11)))) [], .ll [3, 4], .iy 3] [] (.agg (inA (insOf 5 x n))) []) :=
  vc_of (q := ((18 : Int) ≠ (0 : Int)) ∧ (Int.tmod (Go.bits Go.BinOp.and IntKind.i64 x (255 : Int)) (18 : Int) = (↑(10 : Nat) : Int)) ∧ ((0 : Int) ≤ (↑(10 : Nat) : Int) ∧ (↑(10 : Nat) : Int) < (↑(18 : Nat) : Int)) ∧ ((10 : Nat) < (18 : Nat)) ∧ ((0 : Int) ≤ (8 : Int)) ∧ (Int.fdiv x ((2 : Int) ^ (8 : Nat)) = x2 x (8 : Nat)) ∧ cS8k1 x ∧ ((0 : Int) ≤ (11 : Int)) ∧ (Int.fdiv x ((2 : Int) ^ (11 : Nat)) = x2 x (11 : Nat)) ∧ cS8k0 x ∧ ((0 : Int) ≤ (16 : Int)) ∧ (Go.bits Go.BinOp.and IntKind.i64 (Int.fdiv x ((2 : Int) ^ (16 : Nat))) (3 : Int) = (↑(3 : Nat) : Int)) ∧ ((0 : Int) ≤ (↑(3 : Nat) : Int) ∧ (↑(3 : Nat) : Int) < (↑(4 : Nat) : Int)) ∧ ((3 : Nat) < (4 : Nat)) ∧ ((0 : Int) ≤ (18 : Int)) ∧ (inK IntKind.i64 ((↑n : Int) + (1 : Int))) ∧ ((↑n : Int) + (1 : Int) ≠ (0 : Int)) ∧ ((5 : Int) = (5 : Int)) ∧ ((2 : Int) = List.getD [(9 : Int), (10 : Int), (3 : Int), (2 : Int)] (Int.toNat (Go.bits Go.BinOp.and IntKind.i64 (x2 x (16 : Nat)) (3 : Int))) (0 : Int)) ∧ (frS8k1 x n ((Int.tmod (Go.bits Go.BinOp.and IntKind.i64 (Int.fdiv x ((2 : Int) ^ (18 : Nat))) (255 : Int)) ((↑n : Int) + (1 : Int)) = tmN (x2 x (18 : Nat)) ((↑n : Int) + (1 : Int))) ∧ True))) (by kernel_rfl)
    ⟨(by omega),
 (by first | omega | rfl),
 (by first | omega | rfl),
 (by first | omega | rfl),
 (by first | omega | rfl),
 (by first | omega | rfl | (simp; done) | (simp; omega)),
 lvalC _,
 (by first | omega | rfl),
 (by first | omega | rfl | (simp; done) | (simp; omega)),
 lvalC _,
 (by first | omega | rfl),
 (by first | omega | rfl | (simp; done) | (simp; omega)),
 (by first | omega | rfl),
 (by first | omega | rfl),
 (by first | omega | rfl),
 (in64 (by omega) (by omega)),
 (by omega),
 rfl,
 (by rw [show bits .and .i64 (x2 x 16) 3 = ((3 : Nat) : Int) from hr]; rfl), (frS8k1_mk x n ⟨(by first | omega | rfl | (simp; done) | (simp; omega)), trivial⟩)⟩
def frS8k2  (Z : Prop) : Prop := ((0 : Int) = (0 : Int)) ∧ ((0 : Int) = (0 : Int)) ∧ (false = false) ∧ ((0 : Int) = (0 : Int)) ∧ (false = false) ∧ ((0 : Int) = (0 : Int)) ∧ (ByteArray.mk (Array.mk []) = ByteArray.mk (Array.mk [])) ∧ Z
theorem frS8k2_mk  {Z : Prop} (z : Z) : frS8k2  Z := ⟨rfl, rfl, rfl, rfl, rfl, rfl, rfl, z⟩
theorem ins11 (x : Int) (n : Nat) (hn : n < 100) (hq : Int.tmod (bits .and .i64 x 255) 18 = ((11 : Nat) : Int)) : Vc (vcFn Try.prog false 28 [.int .i64 x, .int .i64 n] [.iy 11, .cl [.int .i64 (x2 x 8)] (.agg (vlA (vlN (x2 x 8)))) [], .cl [.int .i64 (x2 x 11)] (.agg (vlA (vlN (x2 x 11)))) []] [] (.agg (inA (insOf 6 x n))) []) :=
  vc_of (q := ((18 : Int) ≠ (0 : Int)) ∧ (Int.tmod (Go.bits Go.BinOp.and IntKind.i64 x (255 : Int)) (18 : Int) = (↑(11 : Nat) : Int)) ∧ ((0 : Int) ≤ (↑(11 : Nat) : Int) ∧ (↑(11 : Nat) : Int) < (↑(18 : Nat) : Int)) ∧ ((11 : Nat) < (18 : Nat)) ∧ ((0 : Int) ≤ (8 : Int)) ∧ (Int.fdiv x ((2 : Int) ^ (8 : Nat)) = x2 x (8 : Nat)) ∧ cS8k1 x ∧ ((0 : Int) ≤ (11 : Int)) ∧ (Int.fdiv x ((2 : Int) ^ (11 : Nat)) = x2 x (11 : Nat)) ∧ cS8k0 x ∧ ((0 : Int) ≤ (18 : Int)) ∧ (inK IntKind.i64 ((↑n : Int) + (1 : Int))) ∧ ((↑n : Int) + (1 : Int) ≠ (0 : Int)) ∧ ((6 : Int) = (6 : Int)) ∧ (frS8k2  ((Int.tmod (Go.bits Go.BinOp.and IntKind.i64 (Int.fdiv x ((2 : Int) ^ (18 : Nat))) (255 : Int)) ((↑n : Int) + (1 : Int)) = tmN (x2 x (18 : Nat)) ((↑n : Int) + (1 : Int))) ∧ True))) (by kernel_rfl)
    ⟨(by omega),
 (by first | omega | rfl),
 (by first | omega | rfl),
 (by first | omega | rfl),
 (by first | omega | rfl),
 (by first | omega | rfl | (simp; done) | (simp; omega)),
 lvalC _,
 (by first | omega | rfl),
 (by first | omega | rfl | (simp; done) | (simp; omega)),
 lvalC _,
 (by first | omega | rfl),
 (in64 (by omega) (by omega)),
 (by omega),
 rfl, (frS8k2_mk  ⟨(by first | omega | rfl | (simp; done) | (simp; omega)), trivial⟩)⟩
theorem ins12 (x : Int) (n : Nat) (hn : n < 100) (hq : Int.tmod (bits .and .i64 x 255) 18 = ((12 : Nat) : Int)) : Vc (vcFn Try.prog false 28 [.int .i64 x, .int .i64 n] [.iy 12, .cl [.int .i64 (x2 x 8)] (.agg (vlA (vlN (x2 x 8)))) [], .cl [.int .i64 (x2 x 11)] (.agg (vlA (vlN (x2 x 11)))) []] [] (.agg (inA (insOf 7 x n))) []) :=
  vc_of (q := ((18 : Int) ≠ (0 : Int)) ∧ (Int.tmod (Go.bits Go.BinOp.and IntKind.i64 x (255 : Int)) (18 : Int) = (↑(12 : Nat) : Int)) ∧ ((0 : Int) ≤ (↑(12 : Nat) : Int) ∧ (↑(12 : Nat) : Int) < (↑(18 : Nat) : Int)) ∧ ((12 : Nat) < (18 : Nat)) ∧ ((0 : Int) ≤ (8 : Int)) ∧ (Int.fdiv x ((2 : Int) ^ (8 : Nat)) = x2 x (8 : Nat)) ∧ cS8k1 x ∧ ((0 : Int) ≤ (11 : Int)) ∧ (Int.fdiv x ((2 : Int) ^ (11 : Nat)) = x2 x (11 : Nat)) ∧ cS8k0 x ∧ ((7 : Int) = (7 : Int)) ∧ ((0 : Int) = (0 : Int)) ∧ ((0 : Int) = (0 : Int)) ∧ (Vl.reg (vlN (x2 x (8 : Nat))) = Vl.reg (vlN (x2 x (8 : Nat)))) ∧ (Vl.n (vlN (x2 x (8 : Nat))) = Vl.n (vlN (x2 x (8 : Nat)))) ∧ (false = false) ∧ ((0 : Int) = (0 : Int)) ∧ (ByteArray.mk (Array.mk []) = ByteArray.mk (Array.mk [])) ∧ ((0 : Int) = (0 : Int)) ∧ True) (by kernel_rfl)
    ⟨(by omega),
 (by first | omega | rfl),
 (by first | omega | rfl),
 (by first | omega | rfl),
 (by first | omega | rfl),
 (by first | omega | rfl | (simp; done) | (simp; omega)),
 lvalC _,
 (by first | omega | rfl),
 (by first | omega | rfl | (simp; done) | (simp; omega)),
 lvalC _,
 rfl,
 rfl,
 rfl,
 rfl,
 rfl,
 rfl,
 rfl,
 rfl,
 rfl, trivial⟩
theorem ins13 (x : Int) (n : Nat) (hn : n < 100) (hq : Int.tmod (bits .and .i64 x 255) 18 = ((13 : Nat) : Int)) : Vc (vcFn Try.prog false 28 [.int .i64 x, .int .i64 n] [.iy 13, .cl [.int .i64 (x2 x 8)] (.agg (vlA (vlN (x2 x 8)))) [], .cl [.int .i64 (x2 x 11)] (.agg (vlA (vlN (x2 x 11)))) []] [] (.agg (inA (insOf 8 x n))) []) :=
  vc_of (q := ((18 : Int) ≠ (0 : Int)) ∧ (Int.tmod (Go.bits Go.BinOp.and IntKind.i64 x (255 : Int)) (18 : Int) = (↑(13 : Nat) : Int)) ∧ ((0 : Int) ≤ (↑(13 : Nat) : Int) ∧ (↑(13 : Nat) : Int) < (↑(18 : Nat) : Int)) ∧ ((13 : Nat) < (18 : Nat)) ∧ ((0 : Int) ≤ (8 : Int)) ∧ (Int.fdiv x ((2 : Int) ^ (8 : Nat)) = x2 x (8 : Nat)) ∧ cS8k1 x ∧ ((0 : Int) ≤ (11 : Int)) ∧ (Int.fdiv x ((2 : Int) ^ (11 : Nat)) = x2 x (11 : Nat)) ∧ cS8k0 x ∧ ((0 : Int) ≤ (18 : Int)) ∧ (inK IntKind.i64 ((↑n : Int) + (1 : Int))) ∧ ((↑n : Int) + (1 : Int) ≠ (0 : Int)) ∧ ((8 : Int) = (8 : Int)) ∧ (frS8k2  ((Int.tmod (Go.bits Go.BinOp.and IntKind.i64 (Int.fdiv x ((2 : Int) ^ (18 : Nat))) (255 : Int)) ((↑n : Int) + (1 : Int)) = tmN (x2 x (18 : Nat)) ((↑n : Int) + (1 : Int))) ∧ True))) (by kernel_rfl)
    ⟨(by omega),
 (by first | omega | rfl),
 (by first | omega | rfl),
 (by first | omega | rfl),
 (by first | omega | rfl),
 (by first | omega | rfl | (simp; done) | (simp; omega)),
 lvalC _,
 (by first | omega | rfl),
 (by first | omega | rfl | (simp; done) | (simp; omega)),
 lvalC _,
 (by first | omega | rfl),
 (in64 (by omega) (by omega)),
 (by omega),
 rfl, (frS8k2_mk  ⟨(by first | omega | rfl | (simp; done) | (simp; omega)), trivial⟩)⟩
def frS8k3  (Z : Prop) : Prop := ((0 : Int) = (0 : Int)) ∧ ((0 : Int) = (0 : Int)) ∧ (false = false) ∧ ((0 : Int) = (0 : Int)) ∧ (false = false) ∧ ((0 : Int) = (0 : Int)) ∧ (ByteArray.mk (Array.mk []) = ByteArray.mk (Array.mk [])) ∧ ((0 : Int) = (0 : Int)) ∧ Z
theorem frS8k3_mk  {Z : Prop} (z : Z) : frS8k3  Z := ⟨rfl, rfl, rfl, rfl, rfl, rfl, rfl, rfl, z⟩
theorem ins14 (x : Int) (n : Nat) (hn : n < 100) (hq : Int.tmod (bits .and .i64 x 255) 18 = ((14 : Nat) : Int)) : Vc (vcFn Try.prog false 28 [.int .i64 x, .int .i64 n] [.iy 14, .cl [.int .i64 (x2 x 8)] (.agg (vlA (vlN (x2 x 8)))) [], .cl [.int .i64 (x2 x 11)] (.agg (vlA (vlN (x2 x 11)))) []] [] (.agg (inA (insOf 9 x n))) []) :=
  vc_of (q := ((18 : Int) ≠ (0 : Int)) ∧ (Int.tmod (Go.bits Go.BinOp.and IntKind.i64 x (255 : Int)) (18 : Int) = (↑(14 : Nat) : Int)) ∧ ((0 : Int) ≤ (↑(14 : Nat) : Int) ∧ (↑(14 : Nat) : Int) < (↑(18 : Nat) : Int)) ∧ ((14 : Nat) < (18 : Nat)) ∧ ((0 : Int) ≤ (8 : Int)) ∧ (Int.fdiv x ((2 : Int) ^ (8 : Nat)) = x2 x (8 : Nat)) ∧ cS8k1 x ∧ ((0 : Int) ≤ (11 : Int)) ∧ (Int.fdiv x ((2 : Int) ^ (11 : Nat)) = x2 x (11 : Nat)) ∧ cS8k0 x ∧ ((9 : Int) = (↑(9 : Nat) : Int)) ∧ (frS8k3  (True))) (by kernel_rfl)
    ⟨(by omega),
 (by first | omega | rfl),
 (by first | omega | rfl),
 (by first | omega | rfl),
 (by first | omega | rfl),
 (by first | omega | rfl | (simp; done) | (simp; omega)),
 lvalC _,
 (by first | omega | rfl),
 (by first | omega | rfl | (simp; done) | (simp; omega)),
 lvalC _,
 (by first | omega | rfl), (frS8k3_mk  trivial)⟩
theorem ins15 (x : Int) (n : Nat) (hn : n < 100) (hq : Int.tmod (bits .and .i64 x 255) 18 = ((15 : Nat) : Int)) : Vc (vcFn Try.prog false 28 [.int .i64 x, .int .i64 n] [.iy 15, .cl [.int .i64 (x2 x 8)] (.agg (vlA (vlN (x2 x 8)))) [], .cl [.int .i64 (x2 x 11)] (.agg (vlA (vlN (x2 x 11)))) []] [] (.agg (inA (insOf 10 x n))) []) :=
  vc_of (q := ((18 : Int) ≠ (0 : Int)) ∧ (Int.tmod (Go.bits Go.BinOp.and IntKind.i64 x (255 : Int)) (18 : Int) = (↑(15 : Nat) : Int)) ∧ ((0 : Int) ≤ (↑(15 : Nat) : Int) ∧ (↑(15 : Nat) : Int) < (↑(18 : Nat) : Int)) ∧ ((15 : Nat) < (18 : Nat)) ∧ ((0 : Int) ≤ (8 : Int)) ∧ (Int.fdiv x ((2 : Int) ^ (8 : Nat)) = x2 x (8 : Nat)) ∧ cS8k1 x ∧ ((0 : Int) ≤ (11 : Int)) ∧ (Int.fdiv x ((2 : Int) ^ (11 : Nat)) = x2 x (11 : Nat)) ∧ cS8k0 x ∧ ((10 : Int) = (↑(10 : Nat) : Int)) ∧ (frS8k3  (True))) (by kernel_rfl)
    ⟨(by omega),
 (by first | omega | rfl),
 (by first | omega | rfl),
 (by first | omega | rfl),
 (by first | omega | rfl),
 (by first | omega | rfl | (simp; done) | (simp; omega)),
 lvalC _,
 (by first | omega | rfl),
 (by first | omega | rfl | (simp; done) | (simp; omega)),
 lvalC _,
 (by first | omega | rfl), (frS8k3_mk  trivial)⟩
theorem ins16 (x : Int) (n : Nat) (hn : n < 100) (hq : Int.tmod (bits .and .i64 x 255) 18 = ((16 : Nat) : Int)) : Vc (vcFn Try.prog false 28 [.int .i64 x, .int .i64 n] [.iy 16, .cl [.int .i64 (x2 x 8)] (.agg (vlA (vlN (x2 x 8)))) [], .cl [.int .i64 (x2 x 11)] (.agg (vlA (vlN (x2 x 11)))) []] [] (.agg (inA (insOf 11 x n))) []) :=
  vc_of (q := ((18 : Int) ≠ (0 : Int)) ∧ (Int.tmod (Go.bits Go.BinOp.and IntKind.i64 x (255 : Int)) (18 : Int) = (↑(16 : Nat) : Int)) ∧ ((0 : Int) ≤ (↑(16 : Nat) : Int) ∧ (↑(16 : Nat) : Int) < (↑(18 : Nat) : Int)) ∧ ((16 : Nat) < (18 : Nat)) ∧ ((0 : Int) ≤ (8 : Int)) ∧ (Int.fdiv x ((2 : Int) ^ (8 : Nat)) = x2 x (8 : Nat)) ∧ cS8k1 x ∧ ((0 : Int) ≤ (11 : Int)) ∧ (Int.fdiv x ((2 : Int) ^ (11 : Nat)) = x2 x (11 : Nat)) ∧ cS8k0 x ∧ ((11 : Int) = (↑(11 : Nat) : Int)) ∧ (frS8k3  (True))) (by kernel_rfl)
    ⟨(by omega),
 (by first | omega | rfl),
 (by first | omega | rfl),
 (by first | omega | rfl),
 (by first | omega | rfl),
 (by first | omega | rfl | (simp; done) | (simp; omega)),
 lvalC _,
 (by first | omega | rfl),
 (by first | omega | rfl | (simp; done) | (simp; omega)),
 lvalC _,
 (by first | omega | rfl), (frS8k3_mk  trivial)⟩
theorem ins17 (x : Int) (n : Nat) (hn : n < 100) (hq : Int.tmod (bits .and .i64 x 255) 18 = ((17 : Nat) : Int)) : Vc (vcFn Try.prog false 28 [.int .i64 x, .int .i64 n] [.iy 17, .cl [.int .i64 (x2 x 8)] (.agg (vlA (vlN (x2 x 8)))) [], .cl [.int .i64 (x2 x 11)] (.agg (vlA (vlN (x2 x 11)))) [], .ll [3, 4]] [] (.agg (inA (insOf 1 x n))) []) :=
  vc_of (q := ((18 : Int) ≠ (0 : Int)) ∧ (Int.tmod (Go.bits Go.BinOp.and IntKind.i64 x (255 : Int)) (18 : Int) = (↑(17 : Nat) : Int)) ∧ ((0 : Int) ≤ (↑(17 : Nat) : Int) ∧ (↑(17 : Nat) : Int) < (↑(18 : Nat) : Int)) ∧ ((17 : Nat) < (18 : Nat)) ∧ ((0 : Int) ≤ (8 : Int)) ∧ (Int.fdiv x ((2 : Int) ^ (8 : Nat)) = x2 x (8 : Nat)) ∧ cS8k1 x ∧ ((0 : Int) ≤ (11 : Int)) ∧ (Int.fdiv x ((2 : Int) ^ (11 : Nat)) = x2 x (11 : Nat)) ∧ cS8k0 x ∧ ((0 : Int) ≤ (16 : Int)) ∧ ((10 : Int) ≠ (0 : Int)) ∧ (inK IntKind.i64 (Int.tmod (Go.bits Go.BinOp.and IntKind.i64 (Int.fdiv x ((2 : Int) ^ (16 : Nat))) (255 : Int)) (10 : Int) + (1 : Int))) ∧ ((0 : Int) ≤ (14 : Int)) ∧ ((1 : Int) = (1 : Int)) ∧ (Int.tmod (Go.bits Go.BinOp.and IntKind.i64 (Int.fdiv x ((2 : Int) ^ (16 : Nat))) (255 : Int)) (10 : Int) + (1 : Int) = tmN (x2 x (16 : Nat)) (10 : Int) + (1 : Int)) ∧ (Go.bits Go.BinOp.and IntKind.i64 (Int.fdiv x ((2 : Int) ^ (14 : Nat))) (3 : Int) = Go.bits Go.BinOp.and IntKind.i64 (x2 x (14 : Nat)) (3 : Int)) ∧ (frS8k0 x n (True))) (by kernel_rfl)
    ⟨(by omega),
 (by first | omega | rfl),
 (by first | omega | rfl),
 (by first | omega | rfl),
 (by first | omega | rfl),
 (by first | omega | rfl | (simp; done) | (simp; omega)),
 lvalC _,
 (by first | omega | rfl),
 (by first | omega | rfl | (simp; done) | (simp; omega)),
 lvalC _,
 (by first | omega | rfl),
 (by omega),
 (in_tm _ _ (by omega) (by omega)),
 (by first | omega | rfl),
 rfl,
 (by first | omega | rfl | (simp; done) | (simp; omega)),
 (by first | omega | rfl | (simp; done) | (simp; omega)), (frS8k0_mk x n trivial)⟩
theorem linsC (x : Int) (n : Nat) (hn : n < 100) : PureC Try.prog 28 [.int .i64 x, .int .i64 n] (.agg (inA (insN x n))) [] := by
  have hb := tm_bd x 18 (by omega)
  obtain ⟨q, e⟩ : ∃ q : Nat, Int.tmod (bits .and .i64 x 255) 18 = (q : Int) := ⟨(Int.tmod (bits .and .i64 x 255) 18).toNat, by omega⟩
  have hq : q < 18 := by omega
  unfold insN tmN
  rw [e, Int.toNat_natCast]
  match q, hq, e with
  | 0, _, e => exact PureC.vc (ins0 x n hn e)
  | 1, _, e => exact PureC.vc (ins1 x n hn e)
  | 2, _, e => exact PureC.vc (ins2 x n hn e)
  | 3, _, e => exact PureC.vc (ins3 x n hn e)
  | 4, _, e => exact PureC.vc (ins4 x n hn e)
  | 5, _, e => exact PureC.vc (ins5 x n hn e)
  | 6, _, e => exact PureC.vc (ins6 x n hn e)
  | 7, _, e => exact PureC.vc (ins7 x n hn e)
  | 8, _, e => obtain ⟨r, hr, e2⟩ := bits3 (Int.fdiv x (2 ^ 16)); exact (match r, hr, e2 with | 0, _, e2 => PureC.vc (ins8_0 x n hn e e2) | 1, _, e2 => PureC.vc (ins8_1 x n hn e e2) | 2, _, e2 => PureC.vc (ins8_2 x n hn e e2) | 3, _, e2 => PureC.vc (ins8_3 x n hn e e2))
  | 9, _, e => obtain ⟨r, hr, e2⟩ := bits3 (Int.fdiv x (2 ^ 16)); exact (match r, hr, e2 with | 0, _, e2 => PureC.vc (ins9_0 x n hn e e2) | 1, _, e2 => PureC.vc (ins9_1 x n hn e e2) | 2, _, e2 => PureC.vc (ins9_2 x n hn e e2) | 3, _, e2 => PureC.vc (ins9_3 x n hn e e2))
  | 10, _, e => obtain ⟨r, hr, e2⟩ := bits3 (Int.fdiv x (2 ^ 16)); exact (match r, hr, e2 with | 0, _, e2 => PureC.vc (ins10_0 x n hn e e2) | 1, _, e2 => PureC.vc (ins10_1 x n hn e e2) | 2, _, e2 => PureC.vc (ins10_2 x n hn e e2) | 3, _, e2 => PureC.vc (ins10_3 x n hn e e2))
  | 11, _, e => exact PureC.vc (ins11 x n hn e)
  | 12, _, e => exact PureC.vc (ins12 x n hn e)
  | 13, _, e => exact PureC.vc (ins13 x n hn e)
  | 14, _, e => exact PureC.vc (ins14 x n hn e)
  | 15, _, e => exact PureC.vc (ins15 x n hn e)
  | 16, _, e => exact PureC.vc (ins16 x n hn e)
  | 17, _, e => exact PureC.vc (ins17 x n hn e)
  | _ + 18, h, _ => exact absurd h (by omega)
end
end Go.Proofs.Ytjdiabjmphdhiaa.Px
