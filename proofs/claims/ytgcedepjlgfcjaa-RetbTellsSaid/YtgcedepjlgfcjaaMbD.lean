/- Merged: Rx25, Rx26, Rx27, Nb, WdMath, RxV, A7a, B1, WdPl, B2, E0, L0, RetW, Cat, T1, M1, M2. -/
import Derived.Test.YtgcedepjlgfcjaaMbC
import Derived.Test.YtgcedepjlgfcjaaMbA
import Derived.WalkKit
import Derived.Outline
import Derived.Test.YtgcedepjlgfcjaaMbB
import Derived.Lib.AppendZeros
import Derived.Deep.QuietTactic
import Derived.Laws.Rows
set_option linter.unusedVariables false
set_option linter.unusedSimpArgs false
set_option maxRecDepth 100000
namespace Go.Proofs.Ytgcedepjlgfcjaa.Rx
section
open Go.RowKit
section
variable {P : Program}
/-- a row of numbers that is handed in -/
theorem RepP.ints {w : World} {R : Nat → Prop} {k : IntKind} {n : Nat} {f : Nat → Nat → AV} {v : Value} {l : List Int} (h : RepP w R (.row 1 n f) v) (hR : ∀ g, R g → g < w.heap.size) (hn : n = l.length) (hf : ∀ i, i < n → f i 0 = .int k (l.getD i 0)) :
    ∃ A c, v = .slice A l.length c ∧ l.length ≤ c ∧ c ≤ maxLen ∧ Rd w w.heap.size A (l.map (Value.int k)) := by
  subst hn
  cases h with
  | row A cap u hn hc hA h1 hu =>
    refine ⟨A, cap, rfl, hn, hc, fun hl => ?_⟩
    rw [List.length_map] at hl
    obtain ⟨g, o, rfl, hg, hcell⟩ := hA (by omega)
    refine ⟨⟨g, o, none⟩, rfl, hR g hg, fun j x hx => ?_⟩
    have hj : j < l.length := by
      have := (List.getElem?_eq_some_iff.1 hx).1
      simpa using this
    have h2 := hu j hj 0 (by omega)
    rw [hf j hj] at h2
    have h3 : u j 0 = .int k (l.getD j 0) := by
      generalize u j 0 = z at h2
      cases h2; rfl
    have h4 := hcell j hj 0 (by omega)
    rw [h3] at h4
    rw [List.getElem?_map, List.getElem?_eq_getElem hj, Option.map_some, Option.some.injEq] at hx
    rw [← hx, show Addr.add ⟨g, o, none⟩ j = ⟨g, o + j, none⟩ from adr_mk g o j]
    rw [show o + (j * 1 + 0) = o + j by omega] at h4
    rw [h4]
    simp [List.getD, hj]
/-- a contract of the elder kind: a row of the call's own -/
theorem PureC.ofOwn {f : FuncId} {args : List AV} {t : TypeId} {k : IntKind} {l : List Int} {n : Nat} {g : Nat → Nat → AV} (hn : n = l.length) (hg : ∀ i, i < n → g i 0 = .int k (l.getD i 0))
    (h : ∀ (w : World) (R : Nat → Prop) (vs : Array Value), (∀ g, R g → g < w.heap.size) → args.length = vs.size → (∀ (j : Nat) a v, args[j]? = some a → vs[j]? = some v → RepP w R a v) → Calls P f vs w (RetOwn w.heap.size t (l.map (Value.int k)) w)) :
    PureC P f args (.own 0 0 1 0 n) [⟨0, false, t, .rows 1 n g⟩] := by
  subst hn
  intro w R vs hR hl ha
  refine (h w R vs hR hl ha).mono ?_
  rintro e w' ⟨v, rfl, hown, hb⟩
  have hlen : (l.map (Value.int k)).length = l.length := List.length_map _
  have hR' : ∀ g, R g → g < w'.heap.size := fun g hg => Nat.lt_of_lt_of_le (hR g hg) hb.size
  rcases hown.2 with ⟨rfl, h0⟩ | ⟨gg, cap, cur, rfl, hge, hh, hnc, hcm, hsz, htk⟩
  · rw [hlen] at h0
    refine ⟨_, ⟨w', R, fun _ => none, fun i => [(⟨0, false, t, .rows 1 l.length g⟩ : Blk)][i]?, fun g => g < w.heap.size⟩, rfl, rfl, rfl, ⟨fun id b hb' => ?_, fun _ _ _ _ _ _ _ h1 _ => (by cases h1), hR', fun g hg => Nat.lt_of_lt_of_le hg hb.size⟩, rfl, fun _ h => h, fun _ h => .inl h, hb, ?_⟩
    · cases id with
      | zero =>
        simp only [List.getElem?_cons_zero, Option.some.injEq] at hb'
        subst hb'
        exact .inl ⟨rfl, h0⟩
      | succ i => simp at hb'
    · exact .own (b := ⟨0, false, t, .rows 1 l.length g⟩) rfl (Nat.le_refl _) rfl fun _ => ⟨l.length, g, rfl, by omega, .inl ⟨rfl, rfl, h0, rfl⟩⟩
  · rw [hlen] at hnc htk
    have hlt : gg < w'.heap.size := (Array.getElem?_eq_some_iff.1 hh).1
    refine ⟨_, ⟨w', R, fun i => if i = 0 then some (gg, cap) else none, fun i => [(⟨0, false, t, .rows 1 l.length g⟩ : Blk)][i]?, fun g => g < w.heap.size⟩, rfl, rfl, rfl, ⟨fun id b hb' => ?_, fun i j _ _ _ _ _ h1 h2 => ?_, hR', fun g hg => Nat.lt_of_lt_of_le hg hb.size⟩, rfl, fun _ h => h, fun _ h => .inl h, hb, ?_⟩
    · cases id with
      | zero =>
        simp only [List.getElem?_cons_zero, Option.some.injEq] at hb'
        subst hb'
        refine .inr ⟨gg, cap, cur, rfl, hh, hsz, hnc, hcm, fun i hi j hj => ?_, Nat.not_lt.2 hge, ?_⟩
        · obtain rfl : j = 0 := by omega
          have h5 : cur.toList[i]? = some (.int k (l.getD i 0)) := by
            have := congrArg (fun (x : List Value) => x[i]?) htk
            simp only [List.getElem?_map] at this
            rw [List.getElem?_take, if_pos (by omega)] at this
            rw [this]
            simp [List.getD, hi]
          refine ⟨.int k (l.getD i 0), ?_, rfl, ?_⟩
          · rw [← Array.getElem?_toList, show i * 1 + 0 = i by omega]
            exact h5
          · rw [hg i hi]
            exact .int _ _
        · show ¬ R gg
          intro hr
          have := hR gg hr
          omega
      | succ i => simp at hb'
    · simp only at h1 h2
      split at h1
      · split at h2
        · omega
        · cases h2
      · cases h1
    · refine .own (b := ⟨0, false, t, .rows 1 l.length g⟩) rfl (Nat.le_refl _) rfl fun _ => ⟨l.length, g, rfl, by omega, .inr ⟨gg, cap, rfl, ?_⟩⟩
      rw [hlen]
      simp
end
end
end Go.Proofs.Ytgcedepjlgfcjaa.Rx
namespace Go.Proofs.Ytgcedepjlgfcjaa.Rx
section
open Go.RowKit
section
variable {P : Program}
/-- what stays of a context when its own blocks are forgotten -/
theorem forget_rep {cx : Cx} (hc : CRep cx) : CRep ⟨cx.w, cx.R, fun _ => none, fun i => ([] : List Blk)[i]?, cx.B⟩ :=
  ⟨fun id b hb => (by simp at hb), fun _ _ _ _ _ _ _ h1 _ => (by cases h1), hc.rlt, hc.blt⟩
theorem freeze_all {cx : Cx} {H : List Blk} (hc : CRep cx) (hH : cx.H = fun i => H[i]?) (ids : List Nat) : ∃ cx1, CRep cx1 ∧ cx1.w = cx.w ∧ Stab cx cx1 ∧
    ∀ a v, Rep cx a v → (∀ id ∈ idsF a, id ∈ ids) → RepP cx1.w cx1.R (frz (fun i => H[i]?) a) v := by
  obtain ⟨cx1, e1, hc1, hs1, e2, e3, e4, e5⟩ := frzIds_ok ids hc
  refine ⟨cx1, hc1, e2, hs1, fun a v hr hi => frz_rep hc1 (fun id b hb => by rw [e1, hH]; exact frzIds_gen _ _ _ _ hb) (hr.stab hc hs1) fun id hid b g c hb hg => ?_⟩
  obtain ⟨b', hb'⟩ := Option.isSome_iff_exists.1 (e5 id (by rw [hb]; rfl))
  rw [e3] at hg
  exact e4 id b' g c (hi id hid) hb' hg
theorem PureC.frozen {f : FuncId} {args : List AV} {a : AV} {H : List Blk} (h : PureC P f args a H) : PureC P f args (frz (fun i => H[i]?) a) [] := by
  intro w R vs hR hl ha
  refine (h w R vs hR hl ha).mono ?_
  rintro e w' ⟨z, cx, rfl, rfl, k1, k2, k3, k4, k5, k6, k7⟩
  obtain ⟨cx1, hc1, e2, hs1, hfr⟩ := freeze_all k2 k1 (idsF a)
  refine ⟨z, ⟨cx1.w, cx1.R, fun _ => none, fun i => ([] : List Blk)[i]?, cx1.B⟩, rfl, e2.symm, rfl, forget_rep hc1, by rw [hs1.ext.B]; exact k3, fun g hg => hs1.ext.R g (k4 g hg), fun g hg => ?_, k6, .pure (hfr a z k7 fun _ h => h)⟩
  rcases hs1.ext.Rn g hg with h1 | h1
  · exact k5 g h1
  · rw [k3] at h1; exact .inr (Nat.not_lt.1 h1)
theorem PureC.frozen2 {f : FuncId} {args : List AV} {a b : AV} {H : List Blk} (h : PureC P f args (.tup [a, b]) H) : PureC P f args (.tup [frz (fun i => H[i]?) a, frz (fun i => H[i]?) b]) [] := by
  intro w R vs hR hl ha
  refine (h w R vs hR hl ha).mono ?_
  rintro e w' ⟨z, cx, rfl, rfl, k1, k2, k3, k4, k5, k6, k7⟩
  obtain ⟨cx1, hc1, e2, hs1, hfr⟩ := freeze_all k2 k1 (idsF a ++ idsF b)
  have hz : RepP cx1.w cx1.R (.tup [frz (fun i => H[i]?) a, frz (fun i => H[i]?) b]) z := by
    obtain ⟨us, rfl, h1, h2⟩ : ∃ us : Array Value, z = .tuple us ∧ 2 = us.size ∧ ∀ (j : Nat) x v, [a, b][j]? = some x → us[j]? = some v → Rep cx x v := by
      cases k7 with
      | pure h => cases h with
        | tup hl h => exact ⟨_, rfl, hl, fun j x v h1 h2 => .pure (h j x v h1 h2)⟩
      | tup hl h => exact ⟨_, rfl, hl, h⟩
    refine .tup h1 fun j x v hx hv => ?_
    match j, hx with
    | 0, hx =>
      simp only [List.getElem?_cons_zero, Option.some.injEq] at hx
      subst hx
      exact hfr a v (h2 0 a v rfl hv) fun _ h => List.mem_append_left _ h
    | 1, hx =>
      simp only [List.getElem?_cons_succ, List.getElem?_cons_zero, Option.some.injEq] at hx
      subst hx
      exact hfr b v (h2 1 b v rfl hv) fun _ h => List.mem_append_right _ h
    | j + 2, hx => simp at hx
  refine ⟨z, ⟨cx1.w, cx1.R, fun _ => none, fun i => ([] : List Blk)[i]?, cx1.B⟩, rfl, e2.symm, rfl, forget_rep hc1, by rw [hs1.ext.B]; exact k3, fun g hg => hs1.ext.R g (k4 g hg), fun g hg => ?_, k6, .pure hz⟩
  rcases hs1.ext.Rn g hg with h1 | h1
  · exact k5 g h1
  · rw [k3] at h1; exact .inr (Nat.not_lt.1 h1)
/-- a row of numbers that is read, as the law's argument is -/
theorem RepP.ofRd {w : World} {A : Option Addr} {c : Nat} {k : IntKind} {z : List Int} (hr : Rd w w.heap.size A (z.map (Value.int k))) (hc : z.length ≤ c) (hm : c ≤ maxLen) : RepP w (fun g => g < w.heap.size) (.row 1 z.length fun i _ => .int k (z.getD i 0)) (.slice A z.length c) := by
  refine .row A c (fun i _ => .int k (z.getD i 0)) hc hm (fun h => ?_) (fun _ _ _ _ => rfl) (fun _ _ _ _ => .int _ _)
  obtain ⟨ad, rfl, hb, hcell⟩ := hr (by rw [List.length_map]; omega)
  obtain ⟨g, o, sp⟩ := ad
  have h0 := hcell 0 _ (List.getElem?_eq_getElem (by rw [List.length_map]; omega))
  rw [adr_zero] at h0
  have hsp : sp = none := by
    unfold World.cell? at h0
    split at h0
    · cases sp with
      | none => rfl
      | some x => simp at h0
    · cases h0
  subst hsp
  refine ⟨g, o, rfl, hb, fun i hi j hj => ?_⟩
  have h1 := hcell i (.int k (z.getD i 0)) (by simp [List.getD, hi])
  rw [show Addr.add ⟨g, o, none⟩ i = ⟨g, o + i, none⟩ from adr_mk g o i] at h1
  rw [show o + (i * 1 + j) = o + i by omega]
  exact h1
/-- a contract that answers a bool, as a law's walk -/
theorem PureC.lawB {f : FuncId} {args : List AV} {b : Bool} (h : PureC P f args (.bool b) []) {W : World} {R : Nat → Prop} {vs : Array Value} (hR : ∀ g, R g → g < W.heap.size) (hl : args.length = vs.size) (ha : ∀ (j : Nat) a v, args[j]? = some a → vs[j]? = some v → RepP W R a v) : Calls P f vs W (RetB (.bool b) W) := by
  refine (h W R vs hR hl ha).mono ?_
  rintro e w' ⟨z, cx, rfl, rfl, _, _, _, _, _, hb, hz⟩
  refine ⟨?_, hb⟩
  cases hz with
  | pure h => cases h; rfl
end
end
end Go.Proofs.Ytgcedepjlgfcjaa.Rx
namespace Go.Proofs.Ytgcedepjlgfcjaa.Rx
section
open Go.RowKit
/-- what must hold for a value to stand when row id has n elements -/
def shr1 (id n : Nat) : AV → Option (List Prop)
  | .own i _ _ off len => bif Nat.beq i id then some [off + len ≤ n] else some []
  | .eptr i _ _ _ _ => bif Nat.beq i id then none else some []
  | .bsl .. => none
  | .agg _ => none
  | .tup _ => none
  | .clo _ (_ :: _) => none
  | _ => some []
def shrL (id n : Nat) : List AV → Option (List Prop)
  | [] => some []
  | a :: l => (shr1 id n a).bind fun p => (shrL id n l).map (p ++ ·)
def shrV (id n : Nat) : AV → Option (List Prop)
  | .agg cs => shrL id n cs
  | .clo _ (c :: cs) => shrL id n (c :: cs)
  | a => shr1 id n a
def shrE (id n : Nat) : List (Nat × AV) → Option (List Prop)
  | [] => some []
  | q :: l => (shrV id n q.2).bind fun p => (shrE id n l).map (p ++ ·)
def shrB (id n : Nat) (q : Nat × Blk) : Option (Blk × List Prop) :=
  match q.2.c with
  | .box cs => bif Nat.beq q.1 id then none else (shrL id n cs).map fun p => (q.2, p)
  | .rows m k f => bif Nat.beq q.1 id then some ({ q.2 with c := .rows m n f }, [n ≤ k]) else some (q.2, [])
def shrH (id n : Nat) : List (Nat × Blk) → Option (List (Nat × Blk) × List Prop)
  | [] => some ([], [])
  | q :: l => (shrB id n q).bind fun b => (shrH id n l).map fun r => ((q.1, b.1) :: r.1, b.2 ++ r.2)
def shrS (id n : Nat) (J : Sm) : Option (Sm × List Prop) :=
  (shrH id n J.heap).bind fun h => (shrE id n J.env).map fun p => (⟨J.env, h.1, J.next⟩, h.2 ++ p)
/-- row id cut to n elements, and the state then known as K -/
def vcShr (id n : Nat) (J : Sm) (r : List (Nat × Nat)) (K : Sm) : Prop :=
  match shrS id n J with
  | some q => match leS r q.1.st K with
    | some ps => allP (q.2 ++ ps)
    | none => False
  | none => False
section
variable {P : Program}
theorem shrH_get {id n : Nat} : ∀ {l : List (Nat × Blk)} {l' : List (Nat × Blk)} {ps : List Prop}, shrH id n l = some (l', ps) → (∀ p ∈ ps, p) → ∀ k, (lookO l k = none ∧ lookO l' k = none) ∨ ∃ b b' qs, lookO l k = some b ∧ lookO l' k = some b' ∧ shrB id n (k, b) = some (b', qs) ∧ ∀ q ∈ qs, q
  | [], l', ps, h, hp, k => by
    simp only [shrH, Option.some.injEq, Prod.mk.injEq] at h
    obtain ⟨rfl, rfl⟩ := h
    exact .inl ⟨rfl, rfl⟩
  | (i, b) :: l, l', ps, h, hp, k => by
    unfold shrH at h
    obtain ⟨q, hq, h⟩ := Option.bind_eq_some_iff.1 h
    obtain ⟨r, hr, h⟩ := Option.map_eq_some_iff.1 h
    simp only [Prod.mk.injEq] at h
    obtain ⟨rfl, rfl⟩ := h
    unfold lookO
    cases hk : Nat.beq k i with
    | true =>
      obtain rfl := Nat.eq_of_beq_eq_true hk
      exact .inr ⟨b, q.1, q.2, rfl, rfl, hq, fun x hx => hp x (List.mem_append_left _ hx)⟩
    | false => exact shrH_get (by rw [hr]) (fun x hx => hp x (List.mem_append_right _ hx)) k
theorem shrE_get {id n : Nat} : ∀ {l : List (Nat × AV)} {ps : List Prop}, shrE id n l = some ps → (∀ p ∈ ps, p) → ∀ t, ∃ qs, shrV id n (look .junk l t) = some qs ∧ ∀ q ∈ qs, q
  | [], ps, h, hp, t => ⟨[], rfl, fun q hq => by cases hq⟩
  | (i, a) :: l, ps, h, hp, t => by
    unfold shrE at h
    obtain ⟨q, hq, h⟩ := Option.bind_eq_some_iff.1 h
    obtain ⟨r, hr, rfl⟩ := Option.map_eq_some_iff.1 h
    unfold look
    cases hk : Nat.beq t i with
    | true => exact ⟨q, hq, fun x hx => hp x (List.mem_append_left _ hx)⟩
    | false => exact shrE_get hr (fun x hx => hp x (List.mem_append_right _ hx)) t
theorem shrL_get {id n : Nat} : ∀ {l : List AV} {ps : List Prop}, shrL id n l = some ps → (∀ p ∈ ps, p) → ∀ (j : Nat) a, l[j]? = some a → ∃ qs, shr1 id n a = some qs ∧ ∀ q ∈ qs, q
  | [], ps, h, hp, j, a, ha => by simp at ha
  | x :: l, ps, h, hp, j, a, ha => by
    unfold shrL at h
    obtain ⟨q, hq, h⟩ := Option.bind_eq_some_iff.1 h
    obtain ⟨r, hr, rfl⟩ := Option.map_eq_some_iff.1 h
    cases j with
    | zero =>
      simp only [List.getElem?_cons_zero, Option.some.injEq] at ha
      subst ha
      exact ⟨q, hq, fun x hx => hp x (List.mem_append_left _ hx)⟩
    | succ j => exact shrL_get hr (fun x hx => hp x (List.mem_append_right _ hx)) j a (by simpa using ha)
/-- all stands when a row is known to be shorter -/
theorem SRep.shr [Dfs] {cx : Cx} {J J' : Sm} {a : Act} {nt id n : Nat} {ps : List Prop} (hs : SRep cx J.st a nt) (h : shrS id n J = some (J', ps)) (hp : ∀ p ∈ ps, p) : ∃ cx', SRep cx' J'.st a nt ∧ Ext cx cx' ∧ cx'.w = cx.w := by
  unfold shrS at h
  obtain ⟨q, hq, h⟩ := Option.bind_eq_some_iff.1 h
  obtain ⟨pe, he, h⟩ := Option.map_eq_some_iff.1 h
  simp only [Prod.mk.injEq] at h
  obtain ⟨rfl, rfl⟩ := h
  have hget := shrH_get (l' := q.1) (ps := q.2) hq fun p hp' => hp p (List.mem_append_left _ hp')
  have hget' := shrE_get he fun p hp' => hp p (List.mem_append_right _ hp')
  have hH : cx.H = lookO J.heap := hs.H
  have one : ∀ (x : AV) (v : Value) (qs : List Prop), shr1 id n x = some qs → (∀ q ∈ qs, q) → Rep cx x v → Rep ⟨cx.w, cx.R, cx.φ, lookO q.1, cx.B⟩ x v := by
    intro x v qs hx hqs hr
    cases x with
    | own i g m off len =>
      obtain ⟨b, hb, hle, hO⟩ := hr.own_inv
      have ho := hr.own_one
      rw [hH] at hb
      rcases hget i with ⟨h1, _⟩ | ⟨b1, b2, rs, h1, h2, h3, h4⟩
      · rw [hb] at h1; cases h1
      · rw [hb] at h1; cases h1
        have hgen : b2.gen = b.gen := by
          unfold shrB at h3
          split at h3
          · obtain ⟨_, h3⟩ : Nat.beq i id = false ∧ _ := by
              cases hk : Nat.beq i id with
              | true => rw [hk] at h3; cases h3
              | false => exact ⟨rfl, by rw [hk] at h3; exact h3⟩
            simp only [cond_false] at h3
            obtain ⟨p, _, h3⟩ := Option.map_eq_some_iff.1 h3
            cases h3; rfl
          · cases hk : Nat.beq i id with
            | true => rw [hk] at h3; simp only [cond_true, Option.some.injEq, Prod.mk.injEq] at h3; rw [← h3.1]
            | false => rw [hk] at h3; simp only [cond_false, Option.some.injEq, Prod.mk.injEq] at h3; rw [← h3.1]
        refine .own h2 (by rw [hgen]; exact hle) ho fun e => ?_
        obtain ⟨k, f, k1, k2, k3⟩ := hO (by rw [← hgen]; exact e)
        unfold shrB at h3
        simp only [k1] at h3
        simp only [shr1] at hx
        cases hk : Nat.beq i id with
        | true =>
          rw [hk] at h3 hx
          simp only [cond_true, Option.some.injEq, Prod.mk.injEq] at h3 hx
          subst hx
          have hlen := hqs _ (List.mem_singleton.2 rfl)
          exact ⟨n, f, by rw [← h3.1], hlen, k3⟩
        | false =>
          rw [hk] at h3
          simp only [cond_false, Option.some.injEq, Prod.mk.injEq] at h3
          exact ⟨k, f, by rw [← h3.1]; exact k1, k2, k3⟩
    | bptr i off =>
      obtain ⟨g, cap, b, h1, h2, h3, rfl⟩ := hr.bptr_inv
      rw [hH] at h1
      rcases hget i with ⟨h4, _⟩ | ⟨b1, b2, rs, h4, h5, h6, h7⟩
      · rw [h1] at h4; cases h4
      · rw [h1] at h4; cases h4
        refine .bptr h5 ?_ h3
        unfold shrB at h6
        split at h6
        · cases hk : Nat.beq i id with
          | true => rw [hk] at h6; cases h6
          | false =>
            rw [hk] at h6
            simp only [cond_false] at h6
            obtain ⟨p, _, h6⟩ := Option.map_eq_some_iff.1 h6
            cases h6; exact h2
        · rename_i m kk f hc
          have hc' : b.c = .rows m kk f := hc
          rw [hc'] at h2; cases h2
    | eptr i g m k j =>
      simp only [shr1] at hx
      obtain ⟨b, hb, hle, hE⟩ := hr.eptr_inv
      have ho := hr.eptr_ptr
      rw [hH] at hb
      cases hk : Nat.beq i id with
      | true => rw [hk] at hx; cases hx
      | false =>
        rcases hget i with ⟨h1, _⟩ | ⟨b1, b2, rs, h1, h2, h3, h4⟩
        · rw [hb] at h1; cases h1
        · rw [hb] at h1; cases h1
          have e2 : b2 = b := by
            unfold shrB at h3
            simp only [hk, cond_false] at h3
            split at h3
            · obtain ⟨p, _, h3⟩ := Option.map_eq_some_iff.1 h3
              cases h3; rfl
            · cases h3; rfl
          subst e2
          exact .eptr h2 hle ho hE
    | bsl i m k => cases hx
    | agg cs => cases hx
    | tup cs => cases hx
    | clo f cs =>
      cases cs with
      | cons c cs => cases hx
      | nil =>
        obtain ⟨vs, rfl, hl, _⟩ := hr.clo_inv
        exact .clo hl fun j a v ha _ => by simp at ha
    | _ => cases hr with | pure h => exact .pure h
  have val : ∀ (x : AV) (v : Value) (qs : List Prop), shrV id n x = some qs → (∀ q ∈ qs, q) → Rep cx x v → Rep ⟨cx.w, cx.R, cx.φ, lookO q.1, cx.B⟩ x v := by
    intro x v qs hx hqs hr
    cases x with
    | agg cs =>
      obtain ⟨vs, rfl, h1, h2, h3⟩ := hr.agg_inv
      refine .agg h1 h2 fun j y u hy hu => ?_
      obtain ⟨rs, r1, r2⟩ := shrL_get hx hqs j y hy
      exact one y u rs r1 r2 (h3 j y u hy hu)
    | clo f cs =>
      cases cs with
      | nil => exact one _ _ _ hx hqs hr
      | cons c cs =>
        obtain ⟨vs, rfl, hl, h3⟩ := hr.clo_inv
        refine .clo hl fun j y u hy hu => ?_
        obtain ⟨rs, r1, r2⟩ := shrL_get hx hqs j y hy
        exact one y u rs r1 r2 (h3 j y u hy hu)
    | _ => exact one _ _ _ hx hqs hr
  refine ⟨⟨cx.w, cx.R, cx.φ, lookO q.1, cx.B⟩, ⟨rfl, ⟨fun k b hb => ?_, fun k k' g c c' h1 h2 h3 h4 => ?_, hs.c.rlt, hs.c.blt⟩, fun t => ?_, fun k hk => ?_, hs.sz, hs.df⟩, ⟨rfl, fun _ h => h, fun _ h => .inl h, rfl, rfl, rfl, Nat.le_refl _, fun _ _ _ => rfl⟩, rfl⟩
  · rcases hget k with ⟨_, h1⟩ | ⟨b1, b2, rs, h1, h2, h3, h4⟩
    · have hb' : lookO q.1 k = some b := hb
      rw [h1] at hb'; cases hb'
    · have hb' : lookO q.1 k = some b := hb
      rw [h2] at hb'; cases hb'
      have hold := hs.c.hb k b1 (by rw [hH]; exact h1)
      unfold shrB at h3
      unfold HB at hold ⊢
      split at h3
      · rename_i cs hcs'
        have hcs : b1.c = .box cs := hcs'
        cases hk : Nat.beq k id with
        | true => rw [hk] at h3; cases h3
        | false =>
          rw [hk] at h3
          simp only [cond_false] at h3
          obtain ⟨p, hp1, h3⟩ := Option.map_eq_some_iff.1 h3
          simp only [Prod.mk.injEq] at h3
          obtain ⟨rfl, rfl⟩ := h3
          rw [hcs] at hold ⊢
          simp only at hold ⊢
          obtain ⟨g, cur, c1, c2, c3, c4, c5, c6⟩ := hold
          refine ⟨g, cur, c1, c2, c3, fun j x hx => ?_, c5, c6⟩
          obtain ⟨u, u1, u2, u3⟩ := c4 j x hx
          obtain ⟨ss, s1, s2⟩ := shrL_get hp1 h4 j x hx
          exact ⟨u, u1, u2, one x u ss s1 s2 u3⟩
      · rename_i m kk f hcs'
        have hcs : b1.c = .rows m kk f := hcs'
        rw [hcs] at hold
        simp only at hold
        cases hk : Nat.beq k id with
        | true =>
          rw [hk] at h3
          simp only [cond_true, Option.some.injEq, Prod.mk.injEq] at h3
          obtain ⟨rfl, rfl⟩ := h3
          have hle := h4 _ (List.mem_singleton.2 rfl)
          rcases hold with ⟨c1, c2⟩ | ⟨g, cap, cur, c1, c2, c3, c4, c5, c6, c7⟩
          · exact .inl ⟨c1, by omega⟩
          · exact .inr ⟨g, cap, cur, c1, c2, c3, by omega, c5, fun i hi j hj => c6 i (by omega) j hj, c7⟩
        | false =>
          rw [hk] at h3
          simp only [cond_false, Option.some.injEq, Prod.mk.injEq] at h3
          obtain ⟨rfl, rfl⟩ := h3
          rw [hcs]
          exact hold
  · have conv : ∀ i, (lookO q.1 i).isSome = true → (cx.H i).isSome = true := fun i hi => by
      rw [hH]
      rcases hget i with ⟨_, e1⟩ | ⟨b1, b2, rs, e1, e2, _⟩
      · rw [e1] at hi; cases hi
      · rw [e1]; rfl
    exact hs.c.inj k k' g c c' (conv k h1) (conv k' h2) h3 h4
  · obtain ⟨rs, r1, r2⟩ := hget' t
    exact val _ _ rs r1 r2 (hs.env t)
  · have hi : (lookO q.1 k).isSome = true := hk
    have : (cx.H k).isSome = true := by
      rw [hH]
      rcases hget k with ⟨_, e1⟩ | ⟨b1, b2, rs, e1, e2, _⟩
      · rw [e1] at hi; cases hi
      · rw [e1]; rfl
    rw [hs.H] at this
    exact hs.lt k this
theorem Ok.shr {nt : Nat} {c : Code} {I : St} {x : X} {id n : Nat} {J K : Sm} {r : List (Nat × Nat)} (h : Ok P nt c I x J.st) (hv : Vc (vcShr id n J r K)) : Ok P nt c I x K.st := by
  replace hv := hv.out
  unfold vcShr at hv
  split at hv
  · rename_i q hq
    split at hv
    · rename_i ps hps
      have hall := allP_mem hv
      intro d0 cx a hs Q hQ
      refine h d0 cx a hs Q fun d1 cx1 a1 hs1 ha1 => ?_
      obtain ⟨cx1p, hw, hs1p, hk⟩ := ha1.plus hs1
      obtain ⟨cx2, hs2, he2, hw2⟩ := hs1p.shr hq fun p hp => hall p (List.mem_append_left _ hp)
      obtain ⟨cx3, hs3, he3, hw3⟩ := hs2.le hps fun p hp => hall p (List.mem_append_right _ hp)
      obtain ⟨cx4, e4, hs4, ha4⟩ := hk d1 cx3 _ a1 _ hs3 (.of_ext (he2.trans he3))
      rw [← hw, ← hw2, ← hw3, ← e4]
      exact hQ d1 cx4 a1 hs4 ha4
    · cases hv
  · cases hv
end
/-- facts about the numbers below n, one by one -/
def fa (Q : Nat → Prop) : Nat → Prop
  | 0 => True
  | n + 1 => fa Q n ∧ Q n
end
end Go.Proofs.Ytgcedepjlgfcjaa.Rx
namespace Go.Proofs.Ytgcedepjlgfcjaa.Px
section
open Go.RowKit Go.Proofs.Ytgcedepjlgfcjaa.Rx
def rowI (l : List Int) : Nat → Nat → AV := fun i _ => .int .i64 (l.getD i 0)
def lR (l : List Int) : AV := .row 1 l.length (rowI l)
end
end Go.Proofs.Ytgcedepjlgfcjaa.Px
namespace Go.Proofs.Ytgcedepjlgfcjaa
section
open Go.RowKit
namespace Wd

def okB (w : Int) : Bool := decide (1 ≤ w) && decide (w ≤ 16)
def sizeV (w : Int) : Int := if okB w = true then 2 ^ w.toNat else 0
def maskV (w n : Int) : Int := if okB w = true then n % 2 ^ w.toNat else 0
def andI (x y : Int) : Int := ((x.toNat &&& y.toNat : Nat) : Int)
def orI (x y : Int) : Int := ((x.toNat ||| y.toNat : Nat) : Int)
def xorI (x y : Int) : Int := ((x.toNat ^^^ y.toNat : Nat) : Int)
/-- of two words, not yet cut to the width; false: no op -/
def rawV (op x y : Int) : Int :=
  if op = 1 then x + y else if op = 2 then x - y else if op = 3 then andI x y else if op = 4 then orI x y else if op = 5 then xorI x y
  else if op = 6 then x * 2 ^ y.toNat else if op = 7 then x / 2 ^ y.toNat else if op = 8 then x * y
  else if op = 9 then (if x < y then 1 else 0) else if op = 10 then (if x = y then 1 else 0) else 0
def opB (op : Int) : Bool := decide (1 ≤ op) && decide (op ≤ 10)
def doV (w op a b : Int) : Int := maskV w (rawV op (maskV w a) (maskV w b))
def doB (w op : Int) : Bool := okB w && opB op

theorem okB_iff {w : Int} : okB w = true ↔ 1 ≤ w ∧ w ≤ 16 := by simp [okB]
theorem okB_nat {w : Int} (h : okB w = true) : ∃ k : Nat, w = k ∧ 1 ≤ k ∧ k ≤ 16 := by
  rw [okB_iff] at h; exact ⟨w.toNat, by omega, by omega, by omega⟩
theorem pow_le {k : Nat} (h : k ≤ 16) : (2 : Int) ^ k ≤ 65536 := by
  have : (2 : Nat) ^ k ≤ 2 ^ 16 := Nat.pow_le_pow_right (by omega) h
  have h2 : ((2 ^ k : Nat) : Int) ≤ ((2 ^ 16 : Nat) : Int) := by exact_mod_cast this
  simpa using h2
theorem pow_pos (k : Nat) : (1 : Int) ≤ 2 ^ k := by
  have : 1 ≤ 2 ^ k := Nat.one_le_two_pow
  have h2 : ((1 : Nat) : Int) ≤ ((2 ^ k : Nat) : Int) := by exact_mod_cast this
  simpa using h2
theorem maskV_bd (w n : Int) : 0 ≤ maskV w n ∧ maskV w n < 65536 := by
  unfold maskV; split
  · rename_i h
    obtain ⟨k, rfl, _, hk⟩ := okB_nat h
    have h1 := pow_le hk; have h2 := pow_pos k
    simp only [Int.toNat_natCast]
    have := Int.emod_nonneg n (b := 2 ^ k) (by omega); have := Int.emod_lt_of_pos n (b := 2 ^ k) (by omega); omega
  · omega
theorem sizeV_bd (w : Int) : 0 ≤ sizeV w ∧ sizeV w ≤ 65536 := by
  unfold sizeV; split
  · rename_i h; obtain ⟨k, rfl, _, hk⟩ := okB_nat h; have := pow_le hk; have := pow_pos k; simp only [Int.toNat_natCast]; omega
  · omega
theorem maskV_lt {w n : Int} (h : okB w = true) : maskV w n < sizeV w := by
  unfold maskV sizeV; rw [if_pos h, if_pos h]
  exact Int.emod_lt_of_pos _ (by have := pow_pos w.toNat; omega)
theorem maskV_of_lt {w n : Int} (h : okB w = true) (h0 : 0 ≤ n) (h1 : n < sizeV w) : maskV w n = n := by
  unfold maskV; unfold sizeV at h1; rw [if_pos h] at *; exact Int.emod_eq_of_lt h0 h1
/-- the model's and with a mask is the remainder, of numbers below 0, too -/
theorem bits_mask (n : Int) (k : Nat) (hk : k ≤ 16) : bits .and .i64 n (2 ^ k - 1) = n % 2 ^ k := by
  have e : (BitVec.ofInt 64 n &&& BitVec.ofInt 64 (2 ^ k - 1)).toNat = (n % 2 ^ k).toNat := by
    have h2 : (2 : Int) ^ k ≤ 65536 := pow_le hk
    have h3 := pow_pos k
    have e1 : (BitVec.ofInt 64 ((2 : Int) ^ k - 1)).toNat = 2 ^ k - 1 := by
      have h4 : 2 ^ k ≤ 65536 := by have := Nat.pow_le_pow_right (n := 2) (by omega) hk; simpa using this
      have h5 : 1 ≤ 2 ^ k := Nat.one_le_two_pow
      have : ((2 : Int) ^ k - 1) = ((2 ^ k - 1 : Nat) : Int) := by
        rw [Int.ofNat_sub h5]; simp
      rw [this, BitVec.ofInt_natCast, BitVec.toNat_ofNat]; omega
    rw [BitVec.toNat_and, e1, Nat.and_two_pow_sub_one_eq_mod, BitVec.toNat_ofInt]
    have h6 : (2 : Nat) ^ 64 = 2 ^ k * 2 ^ (64 - k) := by rw [← Nat.pow_add]; congr 1; omega
    have h7 : ((2 ^ 64 : Nat) : Int) = 2 ^ k * 2 ^ (64 - k) := by rw [h6]; simp
    have h8 : (((n % ((2 ^ 64 : Nat) : Int)).toNat % 2 ^ k : Nat) : Int) = n % 2 ^ k := by
      have := Int.emod_nonneg n (b := ((2 ^ 64 : Nat) : Int)) (by omega)
      rw [Int.natCast_emod, Int.toNat_of_nonneg this, Int.natCast_pow]
      exact Int.emod_emod_of_dvd n ⟨2 ^ (64 - k), h7⟩
    omega
  show IntKind.i64.wrap (((BitVec.ofInt 64 n &&& BitVec.ofInt 64 (2 ^ k - 1) : BitVec 64).toNat : Nat) : Int) = _
  have h2 : (2 : Int) ^ k ≤ 65536 := pow_le hk
  have h3 := pow_pos k
  have := Int.emod_nonneg n (b := 2 ^ k) (by omega); have := Int.emod_lt_of_pos n (b := 2 ^ k) (by omega)
  rw [e, Int.toNat_of_nonneg (by omega)]
  exact IntWalk.i64_in _ (by omega)

theorem ofInt_toNat {x : Int} (h0 : 0 ≤ x) (h1 : x < 65536) : (BitVec.ofInt 64 x).toNat = x.toNat := by
  rw [BitVec.toNat_ofInt]; congr 1; exact Int.emod_eq_of_lt h0 (by omega)
theorem bits_and {x y : Int} (h0 : 0 ≤ x) (h1 : x < 65536) (h2 : 0 ≤ y) (h3 : y < 65536) : bits .and .i64 x y = andI x y := by
  show IntKind.i64.wrap (((BitVec.ofInt 64 x &&& BitVec.ofInt 64 y : BitVec 64).toNat : Nat) : Int) = ((x.toNat &&& y.toNat : Nat) : Int)
  rw [BitVec.toNat_and, ofInt_toNat h0 h1, ofInt_toNat h2 h3]
  have := Nat.and_lt_two_pow (n := 16) x.toNat (show y.toNat < 2 ^ 16 by omega)
  exact IntWalk.i64_in _ (by omega)
theorem bits_or {x y : Int} (h0 : 0 ≤ x) (h1 : x < 65536) (h2 : 0 ≤ y) (h3 : y < 65536) : bits .or .i64 x y = orI x y := by
  show IntKind.i64.wrap (((BitVec.ofInt 64 x ||| BitVec.ofInt 64 y : BitVec 64).toNat : Nat) : Int) = ((x.toNat ||| y.toNat : Nat) : Int)
  rw [BitVec.toNat_or, ofInt_toNat h0 h1, ofInt_toNat h2 h3]
  have := Nat.or_lt_two_pow (n := 16) (show x.toNat < 2 ^ 16 by omega) (show y.toNat < 2 ^ 16 by omega)
  exact IntWalk.i64_in _ (by omega)
theorem bits_xor {x y : Int} (h0 : 0 ≤ x) (h1 : x < 65536) (h2 : 0 ≤ y) (h3 : y < 65536) : bits .xor .i64 x y = xorI x y := by
  show IntKind.i64.wrap (((BitVec.ofInt 64 x ^^^ BitVec.ofInt 64 y : BitVec 64).toNat : Nat) : Int) = ((x.toNat ^^^ y.toNat : Nat) : Int)
  rw [BitVec.toNat_xor, ofInt_toNat h0 h1, ofInt_toNat h2 h3]
  have := Nat.xor_lt_two_pow (n := 16) (show x.toNat < 2 ^ 16 by omega) (show y.toNat < 2 ^ 16 by omega)
  exact IntWalk.i64_in _ (by omega)
/-- what the program reckons ahead of cutting: a shift upward is cut to 64 places, nothing else is -/
def recV (op x y : Int) : Int := if op = 6 then wrap64 (x * 2 ^ (min y.toNat 64)) else rawV op x y
/-- 1 of what is true, else 0 -/
def tI (b : Bool) : Int := if b = true then 1 else 0
theorem mul_bd {x y : Int} (h0 : 0 ≤ x) (h1 : x < 65536) (h2 : 0 ≤ y) (h3 : y < 65536) : 0 ≤ x * y ∧ x * y ≤ 4294836225 := by
  have a := Int.mul_nonneg h0 h2
  have b : x * y ≤ 65535 * 65535 := Int.mul_le_mul (by omega) (by omega) h2 (by omega)
  omega
theorem shr_far {x : Int} (h0 : 0 ≤ x) (h1 : x < 65536) {n : Nat} (hn : 16 ≤ n) : x / 2 ^ n = 0 := by
  refine Int.ediv_eq_zero_of_lt h0 ?_
  have : (2 : Nat) ^ 16 ≤ 2 ^ n := Nat.pow_le_pow_right (by omega) hn
  have h2 : ((2 ^ 16 : Nat) : Int) ≤ ((2 ^ n : Nat) : Int) := by exact_mod_cast this
  simp only [Int.natCast_pow] at h2
  have : ((2 : Nat) : Int) ^ 16 = 65536 := by decide
  have e : (((2 : Nat) : Int)) ^ n = 2 ^ n := rfl
  omega
theorem shr_min {x y : Int} (h0 : 0 ≤ x) (h1 : x < 65536) : x / 2 ^ (min y.toNat 64) = x / 2 ^ y.toNat := by
  by_cases h : y.toNat ≤ 64
  · rw [Nat.min_eq_left h]
  · rw [Nat.min_eq_right (by omega), shr_far h0 h1 (by omega), shr_far h0 h1 (by omega)]
theorem wrap64_emod (n : Int) (k : Nat) (hk : k ≤ 16) : wrap64 n % 2 ^ k = n % 2 ^ k := by
  have h6 : (2 : Nat) ^ 64 = 2 ^ k * 2 ^ (64 - k) := by rw [← Nat.pow_add]; congr 1; omega
  have h7 : ((2 ^ 64 : Nat) : Int) = 2 ^ k * 2 ^ (64 - k) := by rw [h6]; simp
  have h8 : ((2 ^ 64 : Nat) : Int) = 18446744073709551616 := by decide
  obtain ⟨q, hq⟩ : ∃ q, wrap64 n = n + 18446744073709551616 * q := ⟨-((n + 9223372036854775808) / 18446744073709551616), by unfold wrap64; omega⟩
  rw [hq, ← h8, h7, Int.mul_assoc]
  exact Int.add_mul_emod_self_left ..
theorem pow_mod {x : Int} {k n : Nat} (h : k ≤ n) : (x * 2 ^ n) % 2 ^ k = 0 := by
  have : n = k + (n - k) := by omega
  rw [this, Int.pow_add, ← Int.mul_assoc, Int.mul_comm x, Int.mul_assoc]
  exact Int.mul_emod_right ..
theorem recV_mask (w op x y : Int) : maskV w (recV op x y) = maskV w (rawV op x y) := by
  unfold recV
  split
  · rename_i h
    subst h
    have e : rawV 6 x y = x * 2 ^ y.toNat := by simp [rawV]
    rw [e]
    unfold maskV
    split
    · rename_i h
      obtain ⟨k, rfl, _, hk⟩ := okB_nat h
      simp only [Int.toNat_natCast]
      rw [wrap64_emod _ _ hk]
      by_cases h2 : y.toNat ≤ 64
      · rw [Nat.min_eq_left h2]
      · rw [pow_mod (by omega), pow_mod (by omega)]
    · rfl
  · rfl
theorem raw_no {op x y : Int} (h : op < 1 ∨ 10 < op) : rawV op x y = 0 := by
  simp [rawV, show op ≠ 1 by omega, show op ≠ 2 by omega, show op ≠ 3 by omega, show op ≠ 4 by omega, show op ≠ 5 by omega, show op ≠ 6 by omega, show op ≠ 7 by omega, show op ≠ 8 by omega, show op ≠ 9 by omega, show op ≠ 10 by omega]
theorem rec9 (x y : Int) : tI (decide (x < y)) = recV 9 x y := by simp [tI, recV, rawV]
theorem rec10 (x y : Int) : tI (x == y) = recV 10 x y := by simp [tI, recV, rawV]
theorem opB_no {op : Int} (h : op < 1 ∨ 10 < op) : opB op = false := by simp [opB]; omega
end Wd
end
end Go.Proofs.Ytgcedepjlgfcjaa
namespace Go.Proofs.Ytgcedepjlgfcjaa.Rx
section
open Go.RowKit
theorem rf {α : Type} (a : α) : a = a := rfl
theorem rr (n m : Nat) (f : Nat → Nat → AV) : ∀ i, i < n → ∀ j, j < m → f i j = f i j := fun _ _ _ _ => rfl
abbrev RF {α : Type} (a : α) (Z : Prop) : Prop := a = a ∧ Z
abbrev RR (n m : Nat) (f : Nat → Nat → AV) (Z : Prop) : Prop := (∀ i, i < n → ∀ j, j < m → f i j = f i j) ∧ Z
theorem cj {a b : Prop} (x : a) (y : b) : a ∧ b := ⟨x, y⟩
theorem vc_by {p q : Prop} (hq : q) (h : p = q) : Vc p := ⟨h.mpr hq⟩
theorem i6 (n : Int) (h1 : -9223372036854775808 ≤ n := by omega) (h2 : n ≤ 9223372036854775807 := by omega) : inK .i64 n := ⟨h1, h2⟩
theorem dt (p : Prop) [Decidable p] (h : p := by first | omega | (simp; omega) | (simp; done)) : decide p = true := decide_eq_true h
theorem df (p : Prop) [Decidable p] (h : ¬ p := by first | omega | (simp; omega) | (simp; done)) : decide p = false := decide_eq_false h
theorem pv (p : Prop) (h : p := by first | omega | rfl | (simp; done) | (simp; omega)) : p := h
abbrev aI (n : Int) : AV := .int .i64 n
theorem ap (x y s : Nat) (h : (x + y) * s ≤ 140737488355328 := by omega) (h2 : x + y ≤ 140737488355328 := by omega) : (0 : Nat) = 0 ∧ x = x ∧ (x + y) * s ≤ 140737488355328 ∧ x + y ≤ 140737488355328 := ⟨rfl, rfl, h, h2⟩
theorem bi (a b : Int) (h : 0 ≤ a := by omega) (h2 : a < b := by omega) : 0 ≤ a ∧ a < b := ⟨h, h2⟩
theorem za (n : Nat) : 0 + n = n := Nat.zero_add n
theorem lz (k n : Nat) (h : k < n := by omega) : k + 0 < 0 + n := by omega
theorem e1 (a b : Int) (h : a = b := by omega) : (a == b) = true := beq_iff_eq.2 h
theorem e0 (a b : Int) (h : a ≠ b := by omega) : (a == b) = false := beq_eq_false_iff_ne.2 h
theorem n1 (a b : Int) (h : a ≠ b := by omega) : (a != b) = true := bne_iff_ne.2 h
theorem n0 (a b : Int) (h : a = b := by omega) : (a != b) = false := bne_eq_false_iff_eq.2 h
section
variable {P : Program}
/-- some rounds of a loop, and one that leaves it -/
def OkL (P : Program) (nt : Nat) (c : Code) (I : St) (x : X) (J : St) : Prop :=
  ∃ n, ∀ (d : Dfs) cx a, SRep cx I a nt → ∀ Q : Exit → Act → World → Prop, (∀ (d' : Dfs) cx' a', @SRep d' cx' J a' nt → After true d cx d' cx' → Q x.to a' cx'.w) → Code.rounds P c Q n a cx.w
theorem OkL.exit {nt : Nat} {c : Code} {I J : St} {x : X} (h : Ok P nt c I x J) (hx : x ≠ .nrm) : OkL P nt c I x J := by
  refine ⟨1, fun d cx a hs Q hQ => ?_⟩
  rw [rounds_succ]
  refine h d cx a hs _ fun d2 cx2 a2 hs2 he2 => ?_
  have := hQ d2 cx2 a2 hs2 he2
  cases x with
  | nrm => exact absurd rfl hx
  | ext id => exact this
  | ret => exact this
theorem OkL.step {nt : Nat} {c : Code} {I J K : St} {x : X} (h1 : Ok P nt c I .nrm K) (h2 : OkL P nt c K x J) : OkL P nt c I x J := by
  obtain ⟨n, h2⟩ := h2
  refine ⟨n + 1, fun d cx a hs Q hQ => ?_⟩
  rw [rounds_succ]
  refine h1 d cx a hs _ fun d2 cx2 a2 hs2 ha2 => ?_
  obtain ⟨cx2p, hw, hs2p, hk⟩ := ha2.plus hs2
  show Code.rounds _ _ _ _ _ cx2.w
  rw [← hw]
  exact h2 d2 cx2p a2 hs2p Q fun d3 cx3 a3 hs3 ha3 => by
    obtain ⟨cx4, e4, hs4, ha4⟩ := hk d3 cx3 _ a3 _ hs3 ha3
    rw [← e4]
    exact hQ d3 cx4 a3 hs4 ha4
theorem OkL.ok {nt : Nat} {c : Code} {I J : St} {x : X} (h : OkL P nt c I x J) : Ok P nt (.loop c) I x J := by
  obtain ⟨n, h⟩ := h
  exact fun d cx a hs Q hQ => wp_loop_rounds n (h d cx a hs Q hQ)
end
end
end Go.Proofs.Ytgcedepjlgfcjaa.Rx
namespace Go.Proofs.Ytgcedepjlgfcjaa.Px
section
open Go.RowKit Go.Proofs.Ytgcedepjlgfcjaa.Rx
structure Mm where
  nm : ByteArray
  sec : Bool
  n : Nat
instance : Inhabited Mm := ⟨⟨.empty, false, 0⟩⟩
structure Pl where
  reg : Bool
  n : Nat
  sec : Bool
  deriving Inhabited
def mmC (m : Mm) (j : Nat) : AV := [.str m.nm, .bool m.sec, .int .i64 m.n].getD j .junk
def plC (p : Pl) (j : Nat) : AV := [.bool p.reg, .int .i64 p.n, .bool p.sec].getD j .junk
/-- a program's cells: W, Window, Fuel, Regs, and the rows -/
def progL (W r0 r1 r2 r3 : Int) (M : AV) : List AV := [.int .i64 W, .junk, .junk, .int .i64 r0, .int .i64 r1, .int .i64 r2, .int .i64 r3, M, .junk, .junk]
def memR (ms : List Mm) : AV := .row 3 ms.length (rowL mmC ms)
def sumN : List Mm → Nat
  | [] => 0
  | m :: l => m.n + sumN l
def rg (r0 r1 r2 r3 : Int) (i : Nat) : Int := [r0, r1, r2, r3].getD i 0
def regL (r : Nat → Int) : Nat → List Pl
  | 0 => []
  | k + 1 => regL r k ++ (if r k = 0 then [] else [⟨true, k, r k == 2⟩])
def celL (sec : Bool) (at_ k : Nat) : List Pl := (List.range k).map fun i => ⟨false, at_ + i, sec⟩
def memL : Nat → List Mm → List Pl
  | _, [] => []
  | at_, m :: l => celL m.sec at_ m.n ++ memL (at_ + m.n) l
def box0 (e : TypeId) (cs : List AV) : Nat × Blk := (0, ⟨0, false, e, .box cs⟩)
def plB (l : List Pl) : Blk := ⟨0, false, 72, .rows 3 l.length (rowL plC l)⟩
def places (r : Nat → Int) (ms : List Mm) : List Pl := regL r 4 ++ memL 0 ms
theorem sumN_take {ms : List Mm} {k : Nat} (hk : k < ms.length) : sumN (ms.take (k + 1)) = sumN (ms.take k) + (ms.getD k default).n := by
  induction ms generalizing k with
  | nil => simp at hk
  | cons m l ih =>
    cases k with
    | zero => simp [sumN]
    | succ k =>
      have := ih (k := k) (by simpa using hk)
      simp only [List.take_succ_cons, sumN, this, List.getD_cons_succ]
      omega
theorem sumN_take_le (ms : List Mm) (k : Nat) : sumN (ms.take k) ≤ sumN ms := by
  induction ms generalizing k with
  | nil => simp
  | cons m l ih =>
    cases k with
    | zero => simp [sumN]
    | succ k => simp only [List.take_succ_cons, sumN]; have := ih k; omega
theorem celL_succ (sec : Bool) (at_ k : Nat) : celL sec at_ (k + 1) = celL sec at_ k ++ [⟨false, at_ + k, sec⟩] := by simp [celL, List.range_succ]
theorem celL_length (sec : Bool) (at_ k : Nat) : (celL sec at_ k).length = k := by simp [celL]
theorem memL_take {ms : List Mm} {k : Nat} {at_ : Nat} (hk : k < ms.length) : memL at_ (ms.take (k + 1)) = memL at_ (ms.take k) ++ celL (ms.getD k default).sec (at_ + sumN (ms.take k)) (ms.getD k default).n := by
  induction ms generalizing k at_ with
  | nil => simp at hk
  | cons m l ih =>
    cases k with
    | zero => simp [sumN, memL]
    | succ k =>
      have := ih (k := k) (at_ := at_ + m.n) (by simpa using hk)
      simp only [List.take_succ_cons, sumN, memL, this, List.getD_cons_succ, List.append_assoc, Nat.add_assoc]
theorem memL_length (at_ : Nat) (ms : List Mm) : (memL at_ ms).length = sumN ms := by
  induction ms generalizing at_ with
  | nil => rfl
  | cons m l ih => simp only [memL, List.length_append, celL_length, ih, sumN]
theorem regL_zero {r : Nat → Int} {k : Nat} (h : r k = 0) : regL r (k + 1) = regL r k := by
  show regL r k ++ _ = _
  rw [if_pos h, List.append_nil]
theorem regL_pos {r : Nat → Int} {k : Nat} (h : ¬ r k = 0) : regL r (k + 1) = regL r k ++ [⟨true, k, r k == 2⟩] := by
  show regL r k ++ _ = _
  rw [if_neg h]
theorem regL_le (r : Nat → Int) (k : Nat) : (regL r k).length ≤ k := by
  induction k with
  | zero => simp [regL]
  | succ k ih =>
    simp only [regL, List.length_append]
    split <;> simp <;> omega
def f7c (cs : List AV) (s : Nat) (k : Nat) : Sm := ⟨[(1, .bptr 0 0), (4, .int .i64 k), (3, .int .i64 s)], [box0 38 cs], 1⟩
theorem zA7a0 (W : Int) (r0 : Int) (r1 : Int) (r2 : Int) (r3 : Int) (ms : List Mm) {Z : Prop} (z : Z) : (RF (W) (RF (r0) (RF (r1) (RF (r2) (RF (r3) (RF (ms.length) (RR (ms.length) (3) (fun i j => rowL mmC ms i j) Z))))))) := ⟨rfl, rfl, rfl, rfl, rfl, rfl, fun _ _ _ _ => rfl, z⟩
theorem f7c_step (W r0 r1 r2 r3 : Int) (ms : List Mm) (s k : Nat) (hk : k < ms.length) (h64 : ms.length < 4611686018427387904) (hs : s + (ms.getD k default).n < 4611686018427387904) : Vc (vcC Try.prog false (ntOf Try.prog 35) (lpC Try.prog 35 0) (f7c (progL W r0 r1 r2 r3 (memR ms)) s k) [.b true] .nrm [(0, 0)] (f7c (progL W r0 r1 r2 r3 (memR ms)) (s + (ms.getD k default).n) (k + 1))) := vc_by (cj (dt ((k : Int) < (ms.length : Int))) (cj (pv ((0 : Int) ≤ (k : Int) ∧ (k : Int) < (ms.length : Int))) (cj (i6 ((s : Int) + (↑(Mm.n (List.getD ms k default)) : Int))) (cj (i6 ((k : Int) + 1)) (zA7a0 W r0 r1 r2 r3 ms (cj (pv ((k : Int) + 1 = (↑(k + 1) : Int))) (cj (pv ((s : Int) + (↑(Mm.n (List.getD ms k default)) : Int) = (↑(s + Mm.n (List.getD ms k default)) : Int))) trivial))))))) (by kernel_rfl)
theorem f7c_end (W r0 r1 r2 r3 : Int) (ms : List Mm) (s : Nat) : Vc (vcC Try.prog false (ntOf Try.prog 35) (lpC Try.prog 35 0) (f7c (progL W r0 r1 r2 r3 (memR ms)) s ms.length) [.b false] (.ext 0) [(0, 0)] (f7c (progL W r0 r1 r2 r3 (memR ms)) s ms.length)) := vc_by (cj (df ((ms.length : Int) < (ms.length : Int))) (cj (rf (W)) (cj (rf (r0)) (cj (rf (r1)) (cj (rf (r2)) (cj (rf (r3)) (cj (rf (ms.length)) (cj (rr (ms.length) (3) fun i j => rowL mmC ms i j) (cj (rf ((ms.length : Int))) (cj (rf ((s : Int))) trivial)))))))))) (by kernel_rfl)
theorem f7c_loop (W r0 r1 r2 r3 : Int) (ms : List Mm) (h64 : ms.length < 4611686018427387904) (hs : sumN ms < 4611686018427387904) : Ok Try.prog (ntOf Try.prog 35) (.loop (lpC Try.prog 35 0)) (f7c (progL W r0 r1 r2 r3 (memR ms)) 0 0).st (.ext 0) (f7c (progL W r0 r1 r2 r3 (memR ms)) (sumN ms) ms.length).st := by
  have := Ok.loop (P := Try.prog) (nt := ntOf Try.prog 35) (c := lpC Try.prog 35 0) (F := fun k => f7c (progL W r0 r1 r2 r3 (memR ms)) (sumN (ms.take k)) k) (m := ms.length) (x := .ext 0) (J := f7c (progL W r0 r1 r2 r3 (memR ms)) (sumN ms) ms.length) (fun k hk => by
    have h1 := sumN_take hk
    have h2 := sumN_take_le ms (k + 1)
    show Ok _ _ _ _ _ (f7c (progL W r0 r1 r2 r3 (memR ms)) (sumN (ms.take (k + 1))) (k + 1)).st
    rw [h1]
    exact Ok.vc (f7c_step W r0 r1 r2 r3 ms _ k hk h64 (by omega))) (by
    show Ok _ _ _ (f7c (progL W r0 r1 r2 r3 (memR ms)) (sumN (ms.take ms.length)) ms.length).st _ _
    rw [List.take_length]
    exact Ok.vc (f7c_end W r0 r1 r2 r3 ms _)) (by simp)
  simpa [sumN] using this
theorem f7c_vc (W r0 r1 r2 r3 : Int) (ms : List Mm) (h64 : ms.length < 4611686018427387904) (hs : sumN ms < 4611686018427387904) : Vc (vcFn Try.prog false 35 [.agg (progL W r0 r1 r2 r3 (memR ms))] [.lp [(0, 0)] (f7c (progL W r0 r1 r2 r3 (memR ms)) 0 0) (.ext 0) (f7c (progL W r0 r1 r2 r3 (memR ms)) (sumN ms) ms.length)] [] (.int .i64 (sumN ms)) []) := vc_by (zA7a0 W r0 r1 r2 r3 ms (cj (pv ((0 : Int) = ((0 : Nat) : Int))) (cj (pv ((0 : Int) = ((0 : Nat) : Int))) (cj (f7c_loop W r0 r1 r2 r3 ms h64 hs) (cj (rf ((↑(sumN ms) : Int))) trivial))))) (by kernel_rfl)
theorem refCells (W r0 r1 r2 r3 : Int) (ms : List Mm) (h64 : ms.length < 4611686018427387904) (hs : sumN ms < 4611686018427387904) : PureC Try.prog 35 [.agg (progL W r0 r1 r2 r3 (memR ms))] (.int .i64 (sumN ms)) [] := PureC.vc (f7c_vc W r0 r1 r2 r3 ms h64 hs)
def h7 (cs : List AV) (l : List Pl) : List (Nat × Blk) := [box0 38 cs, (1, plB l)]
def own7 (l : List Pl) : AV := .own 1 0 3 0 l.length
def f7r (cs : List AV) (k : Nat) (l : List Pl) : Sm := ⟨[(1, .bptr 0 0), (4, .int .i64 k), (3, own7 l)], h7 cs l, 2⟩
def f7o (cs : List AV) (i a : Nat) (l : List Pl) : Sm := ⟨[(1, .bptr 0 0), (6, .int .i64 i), (5, .int .i64 a), (3, own7 l)], h7 cs l, 2⟩
def f7i (cs : List AV) (i k a : Nat) (l : List Pl) : Sm := ⟨[(1, .bptr 0 0), (6, .int .i64 i), (5, .int .i64 a), (7, .int .i64 k), (3, own7 l)], h7 cs l, 2⟩
theorem zA7a1 (W : Int) (r0 : Int) (r1 : Int) (r2 : Int) (r3 : Int) (ms : List Mm) (l : List Pl) {Z : Prop} (z : Z) : (RF (W) (RF (r0) (RF (r1) (RF (r2) (RF (r3) (RF (ms.length) (RR (ms.length) (3) (fun i j => rowL mmC ms i j) (RF (l.length) (RR (l.length) (3) (fun i j => rowL plC l i j) Z))))))))) := ⟨rfl, rfl, rfl, rfl, rfl, rfl, fun _ _ _ _ => rfl, rfl, fun _ _ _ _ => rfl, z⟩
theorem f7r_no0 (W r0 r1 r2 r3 : Int) (ms : List Mm) (l : List Pl) (hz : r0 = 0) : Vc (vcC Try.prog false (ntOf Try.prog 24) (lpC Try.prog 24 0) (f7r (progL W r0 r1 r2 r3 (memR ms)) 0 l) [.b true, .b false] .nrm [(0, 0), (1, 1)] (f7r (progL W r0 r1 r2 r3 (memR ms)) 1 l)) := vc_by (cj (dt (((0 : Nat) : Int) < 4)) (cj (show (r0 != (0 : Int)) = false from by simp [hz]) (cj (i6 (((0 : Nat) : Int) + 1)) (zA7a1 W r0 r1 r2 r3 ms l (cj (pv (((0 : Nat) : Int) + 1 = ((1 : Nat) : Int))) (cj (rf ((0 : Nat))) (cj (rf (l.length)) trivial))))))) (by kernel_rfl)
theorem f7r_yes0 (W r0 r1 r2 r3 : Int) (ms : List Mm) (l : List Pl) (hz : ¬ r0 = 0) (hl : l.length < 1000000) : Vc (vcC Try.prog false (ntOf Try.prog 24) (lpC Try.prog 24 0) (f7r (progL W r0 r1 r2 r3 (memR ms)) 0 l) [.b true, .b true] .nrm [(0, 0), (1, 1)] (f7r (progL W r0 r1 r2 r3 (memR ms)) 1 (l ++ [⟨true, 0, r0 == 2⟩]))) := vc_by (cj (dt (((0 : Nat) : Int) < 4)) (cj (show (r0 != (0 : Int)) = true from by simp [hz]) (cj (pv ((0 : Nat) = 0 ∧ l.length = l.length ∧ (l.length + 1) * 24 ≤ 140737488355328 ∧ l.length + 1 ≤ 140737488355328)) (cj (i6 (((0 : Nat) : Int) + 1)) (zA7a0 W r0 r1 r2 r3 ms (cj (pv (l.length + 1 = List.length (l ++ [Pl.mk true (0 : Nat) (r0 == (2 : Int))]))) (cj (show ∀ (i : Nat), i < l.length + 1 → ∀ (j : Nat), j < 3 → (bif Nat.blt i l.length then rowL plC l i j else List.getD [AV.bool true, AV.int IntKind.i64 ((0 : Nat) : Int), AV.bool (r0 == (2 : Int))] ((i - l.length + 0) * 3 + j) AV.junk) = rowL plC (l ++ [Pl.mk true (0 : Nat) (r0 == (2 : Int))]) i j from (fun i hi j hj => row_if (fun h => (rowL_left h).symm) (fun h => by obtain rfl : i = _ := Nat.le_antisymm (Nat.lt_succ_iff.mp hi) (Nat.not_lt.mp h); rw [rowL_last, Nat.sub_self]; match j, hj with | 0, _ => rfl | 1, _ => rfl | 2, _ => rfl))) (cj (pv (((0 : Nat) : Int) + 1 = ((1 : Nat) : Int))) (cj (rf ((0 : Nat))) (cj (pv (l.length + 1 = List.length (l ++ [Pl.mk true (0 : Nat) (r0 == (2 : Int))]))) trivial)))))))))) (by kernel_rfl)
theorem f7r_no1 (W r0 r1 r2 r3 : Int) (ms : List Mm) (l : List Pl) (hz : r1 = 0) : Vc (vcC Try.prog false (ntOf Try.prog 24) (lpC Try.prog 24 0) (f7r (progL W r0 r1 r2 r3 (memR ms)) 1 l) [.b true, .b false] .nrm [(0, 0), (1, 1)] (f7r (progL W r0 r1 r2 r3 (memR ms)) 2 l)) := vc_by (cj (dt (((1 : Nat) : Int) < 4)) (cj (show (r1 != (0 : Int)) = false from by simp [hz]) (cj (i6 (((1 : Nat) : Int) + 1)) (zA7a1 W r0 r1 r2 r3 ms l (cj (pv (((1 : Nat) : Int) + 1 = ((2 : Nat) : Int))) (cj (rf ((0 : Nat))) (cj (rf (l.length)) trivial))))))) (by kernel_rfl)
theorem f7r_yes1 (W r0 r1 r2 r3 : Int) (ms : List Mm) (l : List Pl) (hz : ¬ r1 = 0) (hl : l.length < 1000000) : Vc (vcC Try.prog false (ntOf Try.prog 24) (lpC Try.prog 24 0) (f7r (progL W r0 r1 r2 r3 (memR ms)) 1 l) [.b true, .b true] .nrm [(0, 0), (1, 1)] (f7r (progL W r0 r1 r2 r3 (memR ms)) 2 (l ++ [⟨true, 1, r1 == 2⟩]))) := vc_by (cj (dt (((1 : Nat) : Int) < 4)) (cj (show (r1 != (0 : Int)) = true from by simp [hz]) (cj (pv ((0 : Nat) = 0 ∧ l.length = l.length ∧ (l.length + 1) * 24 ≤ 140737488355328 ∧ l.length + 1 ≤ 140737488355328)) (cj (i6 (((1 : Nat) : Int) + 1)) (zA7a0 W r0 r1 r2 r3 ms (cj (pv (l.length + 1 = List.length (l ++ [Pl.mk true (1 : Nat) (r1 == (2 : Int))]))) (cj (show ∀ (i : Nat), i < l.length + 1 → ∀ (j : Nat), j < 3 → (bif Nat.blt i l.length then rowL plC l i j else List.getD [AV.bool true, AV.int IntKind.i64 ((1 : Nat) : Int), AV.bool (r1 == (2 : Int))] ((i - l.length + 0) * 3 + j) AV.junk) = rowL plC (l ++ [Pl.mk true (1 : Nat) (r1 == (2 : Int))]) i j from (fun i hi j hj => row_if (fun h => (rowL_left h).symm) (fun h => by obtain rfl : i = _ := Nat.le_antisymm (Nat.lt_succ_iff.mp hi) (Nat.not_lt.mp h); rw [rowL_last, Nat.sub_self]; match j, hj with | 0, _ => rfl | 1, _ => rfl | 2, _ => rfl))) (cj (pv (((1 : Nat) : Int) + 1 = ((2 : Nat) : Int))) (cj (rf ((0 : Nat))) (cj (pv (l.length + 1 = List.length (l ++ [Pl.mk true (1 : Nat) (r1 == (2 : Int))]))) trivial)))))))))) (by kernel_rfl)
theorem f7r_no2 (W r0 r1 r2 r3 : Int) (ms : List Mm) (l : List Pl) (hz : r2 = 0) : Vc (vcC Try.prog false (ntOf Try.prog 24) (lpC Try.prog 24 0) (f7r (progL W r0 r1 r2 r3 (memR ms)) 2 l) [.b true, .b false] .nrm [(0, 0), (1, 1)] (f7r (progL W r0 r1 r2 r3 (memR ms)) 3 l)) := vc_by (cj (dt (((2 : Nat) : Int) < 4)) (cj (show (r2 != (0 : Int)) = false from by simp [hz]) (cj (i6 (((2 : Nat) : Int) + 1)) (zA7a1 W r0 r1 r2 r3 ms l (cj (pv (((2 : Nat) : Int) + 1 = ((3 : Nat) : Int))) (cj (rf ((0 : Nat))) (cj (rf (l.length)) trivial))))))) (by kernel_rfl)
theorem f7r_yes2 (W r0 r1 r2 r3 : Int) (ms : List Mm) (l : List Pl) (hz : ¬ r2 = 0) (hl : l.length < 1000000) : Vc (vcC Try.prog false (ntOf Try.prog 24) (lpC Try.prog 24 0) (f7r (progL W r0 r1 r2 r3 (memR ms)) 2 l) [.b true, .b true] .nrm [(0, 0), (1, 1)] (f7r (progL W r0 r1 r2 r3 (memR ms)) 3 (l ++ [⟨true, 2, r2 == 2⟩]))) := vc_by (cj (dt (((2 : Nat) : Int) < 4)) (cj (show (r2 != (0 : Int)) = true from by simp [hz]) (cj (pv ((0 : Nat) = 0 ∧ l.length = l.length ∧ (l.length + 1) * 24 ≤ 140737488355328 ∧ l.length + 1 ≤ 140737488355328)) (cj (i6 (((2 : Nat) : Int) + 1)) (zA7a0 W r0 r1 r2 r3 ms (cj (pv (l.length + 1 = List.length (l ++ [Pl.mk true (2 : Nat) (r2 == (2 : Int))]))) (cj (show ∀ (i : Nat), i < l.length + 1 → ∀ (j : Nat), j < 3 → (bif Nat.blt i l.length then rowL plC l i j else List.getD [AV.bool true, AV.int IntKind.i64 ((2 : Nat) : Int), AV.bool (r2 == (2 : Int))] ((i - l.length + 0) * 3 + j) AV.junk) = rowL plC (l ++ [Pl.mk true (2 : Nat) (r2 == (2 : Int))]) i j from (fun i hi j hj => row_if (fun h => (rowL_left h).symm) (fun h => by obtain rfl : i = _ := Nat.le_antisymm (Nat.lt_succ_iff.mp hi) (Nat.not_lt.mp h); rw [rowL_last, Nat.sub_self]; match j, hj with | 0, _ => rfl | 1, _ => rfl | 2, _ => rfl))) (cj (pv (((2 : Nat) : Int) + 1 = ((3 : Nat) : Int))) (cj (rf ((0 : Nat))) (cj (pv (l.length + 1 = List.length (l ++ [Pl.mk true (2 : Nat) (r2 == (2 : Int))]))) trivial)))))))))) (by kernel_rfl)
theorem f7r_no3 (W r0 r1 r2 r3 : Int) (ms : List Mm) (l : List Pl) (hz : r3 = 0) : Vc (vcC Try.prog false (ntOf Try.prog 24) (lpC Try.prog 24 0) (f7r (progL W r0 r1 r2 r3 (memR ms)) 3 l) [.b true, .b false] .nrm [(0, 0), (1, 1)] (f7r (progL W r0 r1 r2 r3 (memR ms)) 4 l)) := vc_by (cj (dt (((3 : Nat) : Int) < 4)) (cj (show (r3 != (0 : Int)) = false from by simp [hz]) (cj (i6 (((3 : Nat) : Int) + 1)) (zA7a1 W r0 r1 r2 r3 ms l (cj (pv (((3 : Nat) : Int) + 1 = ((4 : Nat) : Int))) (cj (rf ((0 : Nat))) (cj (rf (l.length)) trivial))))))) (by kernel_rfl)
theorem f7r_yes3 (W r0 r1 r2 r3 : Int) (ms : List Mm) (l : List Pl) (hz : ¬ r3 = 0) (hl : l.length < 1000000) : Vc (vcC Try.prog false (ntOf Try.prog 24) (lpC Try.prog 24 0) (f7r (progL W r0 r1 r2 r3 (memR ms)) 3 l) [.b true, .b true] .nrm [(0, 0), (1, 1)] (f7r (progL W r0 r1 r2 r3 (memR ms)) 4 (l ++ [⟨true, 3, r3 == 2⟩]))) := vc_by (cj (dt (((3 : Nat) : Int) < 4)) (cj (show (r3 != (0 : Int)) = true from by simp [hz]) (cj (pv ((0 : Nat) = 0 ∧ l.length = l.length ∧ (l.length + 1) * 24 ≤ 140737488355328 ∧ l.length + 1 ≤ 140737488355328)) (cj (i6 (((3 : Nat) : Int) + 1)) (zA7a0 W r0 r1 r2 r3 ms (cj (pv (l.length + 1 = List.length (l ++ [Pl.mk true (3 : Nat) (r3 == (2 : Int))]))) (cj (show ∀ (i : Nat), i < l.length + 1 → ∀ (j : Nat), j < 3 → (bif Nat.blt i l.length then rowL plC l i j else List.getD [AV.bool true, AV.int IntKind.i64 ((3 : Nat) : Int), AV.bool (r3 == (2 : Int))] ((i - l.length + 0) * 3 + j) AV.junk) = rowL plC (l ++ [Pl.mk true (3 : Nat) (r3 == (2 : Int))]) i j from (fun i hi j hj => row_if (fun h => (rowL_left h).symm) (fun h => by obtain rfl : i = _ := Nat.le_antisymm (Nat.lt_succ_iff.mp hi) (Nat.not_lt.mp h); rw [rowL_last, Nat.sub_self]; match j, hj with | 0, _ => rfl | 1, _ => rfl | 2, _ => rfl))) (cj (pv (((3 : Nat) : Int) + 1 = ((4 : Nat) : Int))) (cj (rf ((0 : Nat))) (cj (pv (l.length + 1 = List.length (l ++ [Pl.mk true (3 : Nat) (r3 == (2 : Int))]))) trivial)))))))))) (by kernel_rfl)
theorem f7r_end (W r0 r1 r2 r3 : Int) (ms : List Mm) (l : List Pl) : Vc (vcC Try.prog false (ntOf Try.prog 24) (lpC Try.prog 24 0) (f7r (progL W r0 r1 r2 r3 (memR ms)) 4 l) [] (.ext 0) [(0, 0), (1, 1)] (f7r (progL W r0 r1 r2 r3 (memR ms)) 4 l)) := vc_by (zA7a1 W r0 r1 r2 r3 ms l (cj (rf (((4 : Nat) : Int))) (cj (rf ((0 : Nat))) (cj (rf (l.length)) trivial)))) (by kernel_rfl)
theorem f7r_loop (W r0 r1 r2 r3 : Int) (ms : List Mm) : Ok Try.prog (ntOf Try.prog 24) (.loop (lpC Try.prog 24 0)) (f7r (progL W r0 r1 r2 r3 (memR ms)) 0 []).st (.ext 0) (f7r (progL W r0 r1 r2 r3 (memR ms)) 4 (regL (rg r0 r1 r2 r3) 4)).st :=
  Ok.loop (P := Try.prog) (nt := ntOf Try.prog 24) (c := lpC Try.prog 24 0) (F := fun k => f7r (progL W r0 r1 r2 r3 (memR ms)) k (regL (rg r0 r1 r2 r3) k)) (m := 4) (x := .ext 0) (J := f7r (progL W r0 r1 r2 r3 (memR ms)) 4 (regL (rg r0 r1 r2 r3) 4)) (fun k hk => by
    match k, hk with
    | 0, _ =>
      by_cases hz : r0 = 0
      · have e : regL (rg r0 r1 r2 r3) 1 = regL (rg r0 r1 r2 r3) 0 := regL_zero (k := 0) hz
        show Ok _ _ _ _ _ (f7r _ 1 (regL (rg r0 r1 r2 r3) 1)).st
        rw [e]
        exact Ok.vc (f7r_no0 W r0 r1 r2 r3 ms _ hz)
      · have e : regL (rg r0 r1 r2 r3) 1 = regL (rg r0 r1 r2 r3) 0 ++ [⟨true, 0, r0 == 2⟩] := regL_pos (k := 0) hz
        show Ok _ _ _ _ _ (f7r _ 1 (regL (rg r0 r1 r2 r3) 1)).st
        rw [e]
        exact Ok.vc (f7r_yes0 W r0 r1 r2 r3 ms _ hz (by have := regL_le (rg r0 r1 r2 r3) 0; omega))
    | 1, _ =>
      by_cases hz : r1 = 0
      · have e : regL (rg r0 r1 r2 r3) 2 = regL (rg r0 r1 r2 r3) 1 := regL_zero (k := 1) hz
        show Ok _ _ _ _ _ (f7r _ 2 (regL (rg r0 r1 r2 r3) 2)).st
        rw [e]
        exact Ok.vc (f7r_no1 W r0 r1 r2 r3 ms _ hz)
      · have e : regL (rg r0 r1 r2 r3) 2 = regL (rg r0 r1 r2 r3) 1 ++ [⟨true, 1, r1 == 2⟩] := regL_pos (k := 1) hz
        show Ok _ _ _ _ _ (f7r _ 2 (regL (rg r0 r1 r2 r3) 2)).st
        rw [e]
        exact Ok.vc (f7r_yes1 W r0 r1 r2 r3 ms _ hz (by have := regL_le (rg r0 r1 r2 r3) 1; omega))
    | 2, _ =>
      by_cases hz : r2 = 0
      · have e : regL (rg r0 r1 r2 r3) 3 = regL (rg r0 r1 r2 r3) 2 := regL_zero (k := 2) hz
        show Ok _ _ _ _ _ (f7r _ 3 (regL (rg r0 r1 r2 r3) 3)).st
        rw [e]
        exact Ok.vc (f7r_no2 W r0 r1 r2 r3 ms _ hz)
      · have e : regL (rg r0 r1 r2 r3) 3 = regL (rg r0 r1 r2 r3) 2 ++ [⟨true, 2, r2 == 2⟩] := regL_pos (k := 2) hz
        show Ok _ _ _ _ _ (f7r _ 3 (regL (rg r0 r1 r2 r3) 3)).st
        rw [e]
        exact Ok.vc (f7r_yes2 W r0 r1 r2 r3 ms _ hz (by have := regL_le (rg r0 r1 r2 r3) 2; omega))
    | 3, _ =>
      by_cases hz : r3 = 0
      · have e : regL (rg r0 r1 r2 r3) 4 = regL (rg r0 r1 r2 r3) 3 := regL_zero (k := 3) hz
        show Ok _ _ _ _ _ (f7r _ 4 (regL (rg r0 r1 r2 r3) 4)).st
        rw [e]
        exact Ok.vc (f7r_no3 W r0 r1 r2 r3 ms _ hz)
      · have e : regL (rg r0 r1 r2 r3) 4 = regL (rg r0 r1 r2 r3) 3 ++ [⟨true, 3, r3 == 2⟩] := regL_pos (k := 3) hz
        show Ok _ _ _ _ _ (f7r _ 4 (regL (rg r0 r1 r2 r3) 4)).st
        rw [e]
        exact Ok.vc (f7r_yes3 W r0 r1 r2 r3 ms _ hz (by have := regL_le (rg r0 r1 r2 r3) 3; omega))) (Ok.vc (f7r_end W r0 r1 r2 r3 ms _)) (by simp)
theorem f7i_step (W r0 r1 r2 r3 : Int) (ms : List Mm) (i k a : Nat) (l : List Pl) (h64 : ms.length < 4611686018427387904) (hi : i < ms.length) (hl : l.length < 1000000000000) (ha : a < 4611686018427387904) (hn : k < 4611686018427387904) (hk : k < (ms.getD i default).n) : Vc (vcC Try.prog false (ntOf Try.prog 24) (lpC Try.prog 24 2) (f7i (progL W r0 r1 r2 r3 (memR ms)) i k a l) [.b true] .nrm [(0, 0), (1, 1)] (f7i (progL W r0 r1 r2 r3 (memR ms)) i (k + 1) (a + 1) (l ++ [⟨false, a, (ms.getD i default).sec⟩]))) := vc_by (cj (pv ((0 : Int) ≤ (i : Int) ∧ (i : Int) < (ms.length : Int))) (cj (dt ((k : Int) < (↑(Mm.n (List.getD ms i default)) : Int))) (cj (pv ((0 : Int) ≤ (i : Int) ∧ (i : Int) < (ms.length : Int))) (cj (pv ((0 : Nat) = 0 ∧ l.length = l.length ∧ (l.length + 1) * 24 ≤ 140737488355328 ∧ l.length + 1 ≤ 140737488355328)) (cj (i6 ((a : Int) + 1)) (cj (i6 ((k : Int) + 1)) (zA7a0 W r0 r1 r2 r3 ms (cj (pv (l.length + 1 = List.length (l ++ [Pl.mk false a (Mm.sec (List.getD ms i default))]))) (cj (show ∀ (i_1 : Nat), i_1 < l.length + 1 → ∀ (j : Nat), j < 3 → (bif Nat.blt i_1 l.length then rowL plC l i_1 j else List.getD [AV.bool false, AV.int IntKind.i64 (a : Int), AV.bool (Mm.sec (List.getD ms i default))] ((i_1 - l.length + 0) * 3 + j) AV.junk) = rowL plC (l ++ [Pl.mk false a (Mm.sec (List.getD ms i default))]) i_1 j from (fun i hi j hj => row_if (fun h => (rowL_left h).symm) (fun h => by obtain rfl : i = _ := Nat.le_antisymm (Nat.lt_succ_iff.mp hi) (Nat.not_lt.mp h); rw [rowL_last, Nat.sub_self]; match j, hj with | 0, _ => rfl | 1, _ => rfl | 2, _ => rfl))) (cj (rf ((i : Int))) (cj (pv ((a : Int) + 1 = (↑(a + 1) : Int))) (cj (pv ((k : Int) + 1 = (↑(k + 1) : Int))) (cj (rf ((0 : Nat))) (cj (pv (l.length + 1 = List.length (l ++ [Pl.mk false a (Mm.sec (List.getD ms i default))]))) trivial)))))))))))))) (by kernel_rfl)
theorem f7i_end (W r0 r1 r2 r3 : Int) (ms : List Mm) (i k a : Nat) (l : List Pl) (h64 : ms.length < 4611686018427387904) (hi : i < ms.length) (hl : l.length < 1000000000000) (ha : a < 4611686018427387904) (hn : k < 4611686018427387904) (hk : k = (ms.getD i default).n) : Vc (vcC Try.prog false (ntOf Try.prog 24) (lpC Try.prog 24 2) (f7i (progL W r0 r1 r2 r3 (memR ms)) i k a l) [.b false] (.ext 4) [(0, 0), (1, 1)] (f7i (progL W r0 r1 r2 r3 (memR ms)) i k a l)) := vc_by (cj (pv ((0 : Int) ≤ (i : Int) ∧ (i : Int) < (ms.length : Int))) (cj (df ((k : Int) < (↑(Mm.n (List.getD ms i default)) : Int))) (zA7a1 W r0 r1 r2 r3 ms l (cj (rf ((i : Int))) (cj (rf ((a : Int))) (cj (rf ((k : Int))) (cj (rf ((0 : Nat))) (cj (rf (l.length)) trivial)))))))) (by kernel_rfl)
theorem f7i_loop (W r0 r1 r2 r3 : Int) (ms : List Mm) (i a : Nat) (l : List Pl) (h64 : ms.length < 4611686018427387904) (hi : i < ms.length) (hb : l.length + (ms.getD i default).n < 1000000000000) (ha : a + (ms.getD i default).n < 4611686018427387904) : Ok Try.prog (ntOf Try.prog 24) (.loop (lpC Try.prog 24 2)) (f7i (progL W r0 r1 r2 r3 (memR ms)) i 0 a l).st (.ext 4) (f7i (progL W r0 r1 r2 r3 (memR ms)) i (ms.getD i default).n (a + (ms.getD i default).n) (l ++ celL (ms.getD i default).sec a (ms.getD i default).n)).st := by
  have := Ok.loop (P := Try.prog) (nt := ntOf Try.prog 24) (c := lpC Try.prog 24 2) (F := fun k => f7i (progL W r0 r1 r2 r3 (memR ms)) i k (a + k) (l ++ celL (ms.getD i default).sec a k)) (m := (ms.getD i default).n) (x := .ext 4) (J := f7i (progL W r0 r1 r2 r3 (memR ms)) i (ms.getD i default).n (a + (ms.getD i default).n) (l ++ celL (ms.getD i default).sec a (ms.getD i default).n)) (fun k hk => by
    show Ok _ _ _ _ _ (f7i _ i (k + 1) (a + (k + 1)) (l ++ celL (ms.getD i default).sec a (k + 1))).st
    rw [celL_succ, ← List.append_assoc]
    exact Ok.vc (f7i_step W r0 r1 r2 r3 ms i k (a + k) _ h64 hi (by simp only [List.length_append, celL_length]; omega) (by omega) (by omega) hk))
    (Ok.vc (f7i_end W r0 r1 r2 r3 ms i _ _ _ h64 hi (by simp only [List.length_append, celL_length]; omega) (by omega) (by omega) rfl)) (by simp)
  simpa [celL] using this
theorem f7o_step (W r0 r1 r2 r3 : Int) (ms : List Mm) (i a : Nat) (l : List Pl) (h64 : ms.length < 4611686018427387904) (hi : i < ms.length) (hb : l.length + (ms.getD i default).n < 1000000000000) (ha : a + (ms.getD i default).n < 4611686018427387904) : Vc (vcC Try.prog false (ntOf Try.prog 24) (lpC Try.prog 24 1) (f7o (progL W r0 r1 r2 r3 (memR ms)) i a l) [.b true, .lp [(0, 0), (1, 1)] (f7i (progL W r0 r1 r2 r3 (memR ms)) i 0 a l) (.ext 4) (f7i (progL W r0 r1 r2 r3 (memR ms)) i (ms.getD i default).n (a + (ms.getD i default).n) (l ++ celL (ms.getD i default).sec a (ms.getD i default).n))] .nrm [(0, 0), (1, 1)] (f7o (progL W r0 r1 r2 r3 (memR ms)) (i + 1) (a + (ms.getD i default).n) (l ++ celL (ms.getD i default).sec a (ms.getD i default).n))) := vc_by (cj (dt ((i : Int) < (ms.length : Int))) (zA7a1 W r0 r1 r2 r3 ms l (cj (rf ((i : Int))) (cj (rf ((a : Int))) (cj (pv ((0 : Int) = ((0 : Nat) : Int))) (cj (rf ((0 : Nat))) (cj (rf (l.length)) (cj (f7i_loop W r0 r1 r2 r3 ms i a l h64 hi hb ha) (cj (i6 ((i : Int) + 1)) (cj (rf (W)) (cj (rf (r0)) (cj (rf (r1)) (cj (rf (r2)) (cj (rf (r3)) (cj (rf (ms.length)) (cj (rr (ms.length) (3) fun i j => rowL mmC ms i j) (cj (rf (List.length (l ++ celL (Mm.sec (List.getD ms i default)) a (Mm.n (List.getD ms i default))))) (cj (rr (List.length (l ++ celL (Mm.sec (List.getD ms i default)) a (Mm.n (List.getD ms i default)))) (3) fun i_1 j => rowL plC (l ++ celL (Mm.sec (List.getD ms i default)) a (Mm.n (List.getD ms i default))) i_1 j) (cj (pv ((i : Int) + 1 = (↑(i + 1) : Int))) (cj (rf ((↑(a + Mm.n (List.getD ms i default)) : Int))) (cj (rf ((0 : Nat))) (cj (rf (List.length (l ++ celL (Mm.sec (List.getD ms i default)) a (Mm.n (List.getD ms i default))))) trivial)))))))))))))))))))))) (by kernel_rfl)
theorem f7o_end (W r0 r1 r2 r3 : Int) (ms : List Mm) (a : Nat) (l : List Pl) : Vc (vcC Try.prog false (ntOf Try.prog 24) (lpC Try.prog 24 1) (f7o (progL W r0 r1 r2 r3 (memR ms)) ms.length a l) [.b false] (.ext 2) [(0, 0), (1, 1)] (f7o (progL W r0 r1 r2 r3 (memR ms)) ms.length a l)) := vc_by (cj (df ((ms.length : Int) < (ms.length : Int))) (zA7a1 W r0 r1 r2 r3 ms l (cj (rf ((ms.length : Int))) (cj (rf ((a : Int))) (cj (rf ((0 : Nat))) (cj (rf (l.length)) trivial)))))) (by kernel_rfl)
theorem f7o_loop (W r0 r1 r2 r3 : Int) (ms : List Mm) (l : List Pl) (h64 : ms.length < 4611686018427387904) (hb : l.length + sumN ms < 1000000000000) : Ok Try.prog (ntOf Try.prog 24) (.loop (lpC Try.prog 24 1)) (f7o (progL W r0 r1 r2 r3 (memR ms)) 0 0 l).st (.ext 2) (f7o (progL W r0 r1 r2 r3 (memR ms)) ms.length (sumN ms) (l ++ memL 0 ms)).st := by
  have := Ok.loop (P := Try.prog) (nt := ntOf Try.prog 24) (c := lpC Try.prog 24 1) (F := fun k => f7o (progL W r0 r1 r2 r3 (memR ms)) k (sumN (ms.take k)) (l ++ memL 0 (ms.take k))) (m := ms.length) (x := .ext 2) (J := f7o (progL W r0 r1 r2 r3 (memR ms)) ms.length (sumN ms) (l ++ memL 0 ms)) (fun k hk => by
    have h1 := sumN_take hk
    have h2 := sumN_take_le ms (k + 1)
    show Ok _ _ _ _ _ (f7o _ (k + 1) (sumN (ms.take (k + 1))) (l ++ memL 0 (ms.take (k + 1)))).st
    rw [memL_take hk, Nat.zero_add, ← List.append_assoc, h1]
    exact Ok.vc (f7o_step W r0 r1 r2 r3 ms k _ _ h64 hk (by simp only [List.length_append, memL_length]; omega) (by omega)))
    (by
      show Ok _ _ _ (f7o _ ms.length (sumN (ms.take ms.length)) (l ++ memL 0 (ms.take ms.length))).st _ _
      rw [List.take_length]
      exact Ok.vc (f7o_end W r0 r1 r2 r3 ms _ _)) (by simp)
  simpa [sumN, memL] using this
theorem f7p_vc (W r0 r1 r2 r3 : Int) (ms : List Mm) (h64 : ms.length < 4611686018427387904) (hb : sumN ms < 100000000000) : Vc (vcFn Try.prog false 24 [.agg (progL W r0 r1 r2 r3 (memR ms))] [.lp [(0, 0)] (f7r (progL W r0 r1 r2 r3 (memR ms)) 0 []) (.ext 0) (f7r (progL W r0 r1 r2 r3 (memR ms)) 4 (regL (rg r0 r1 r2 r3) 4)), .lp [(0, 0), (1, 1)] (f7o (progL W r0 r1 r2 r3 (memR ms)) 0 0 (regL (rg r0 r1 r2 r3) 4)) (.ext 2) (f7o (progL W r0 r1 r2 r3 (memR ms)) ms.length (sumN ms) ((regL (rg r0 r1 r2 r3) 4) ++ memL 0 ms))] [(0, 1)] (.own 0 0 3 0 (places (rg r0 r1 r2 r3) ms).length) [plB (places (rg r0 r1 r2 r3) ms)]) := vc_by (cj (rf (W)) (cj (rf (r0)) (cj (rf (r1)) (cj (rf (r2)) (cj (rf (r3)) (cj (rf (ms.length)) (cj (rr (ms.length) (3) fun i j => rowL mmC ms i j) (cj (rf ((0 : Nat))) (cj (pv ((0 : Int) = ((0 : Nat) : Int))) (cj (rf ((0 : Nat))) (cj (rf ((0 : Nat))) (cj (f7r_loop W r0 r1 r2 r3 ms) (cj (rf (W)) (cj (rf (r0)) (cj (rf (r1)) (cj (rf (r2)) (cj (rf (r3)) (cj (rf (ms.length)) (cj (rr (ms.length) (3) fun i j => rowL mmC ms i j) (cj (rf (List.length (regL (rg r0 r1 r2 r3) (4 : Nat)))) (cj (rr (List.length (regL (rg r0 r1 r2 r3) (4 : Nat))) (3) fun i j => rowL plC (regL (rg r0 r1 r2 r3) (4 : Nat)) i j) (cj (pv ((0 : Int) = ((0 : Nat) : Int))) (cj (pv ((0 : Int) = ((0 : Nat) : Int))) (cj (rf ((0 : Nat))) (cj (rf (List.length (regL (rg r0 r1 r2 r3) (4 : Nat)))) (cj (show Ok Try.prog (ntOf Try.prog 24) (.loop (lpC Try.prog 24 1)) (f7o (progL W r0 r1 r2 r3 (memR ms)) 0 0 (regL (rg r0 r1 r2 r3) 4)).st (.ext 2) (f7o (progL W r0 r1 r2 r3 (memR ms)) ms.length (sumN ms) ((regL (rg r0 r1 r2 r3) 4) ++ memL 0 ms)).st from f7o_loop W r0 r1 r2 r3 ms _ h64 (by have := regL_le (rg r0 r1 r2 r3) 4; omega)) (cj (pv (List.length (regL (rg r0 r1 r2 r3) (4 : Nat) ++ memL (0 : Nat) ms) = List.length (places (rg r0 r1 r2 r3) ms))) (cj (show ∀ (i : Nat), i < List.length (regL (rg r0 r1 r2 r3) (4 : Nat) ++ memL (0 : Nat) ms) → ∀ (j : Nat), j < 3 → rowL plC (regL (rg r0 r1 r2 r3) (4 : Nat) ++ memL (0 : Nat) ms) i j = rowL plC (places (rg r0 r1 r2 r3) ms) i j from fun _ _ _ _ => rfl) (cj (rf ((0 : Nat))) (cj (pv (List.length (regL (rg r0 r1 r2 r3) (4 : Nat) ++ memL (0 : Nat) ms) = List.length (places (rg r0 r1 r2 r3) ms))) trivial)))))))))))))))))))))))))))))) (by kernel_rfl)
theorem refPlaces (W r0 r1 r2 r3 : Int) (ms : List Mm) (h64 : ms.length < 4611686018427387904) (hb : sumN ms < 100000000000) : PureC Try.prog 24 [.agg (progL W r0 r1 r2 r3 (memR ms))] (.own 0 0 3 0 (places (rg r0 r1 r2 r3) ms).length) [plB (places (rg r0 r1 r2 r3) ms)] := PureC.vc (f7p_vc W r0 r1 r2 r3 ms h64 hb)
end
end Go.Proofs.Ytgcedepjlgfcjaa.Px
namespace Go.Proofs.Ytgcedepjlgfcjaa.Px
section
open Go.RowKit Go.Proofs.Ytgcedepjlgfcjaa.Rx
structure S7 where
  r0 : Int
  r1 : Int
  r2 : Int
  r3 : Int
  m : List Int
def put7 (s : S7) (p : Pl) (v : Int) : S7 :=
  if p.reg = true then (if p.n = 0 then { s with r0 := v } else if p.n = 1 then { s with r1 := v } else if p.n = 2 then { s with r2 := v } else { s with r3 := v }) else { s with m := s.m.set p.n v }
def putK (W : Int) (pl : List Pl) (l : List Int) (s0 : S7) : Nat → S7
  | 0 => s0
  | k + 1 => put7 (putK W pl l s0 k) (pl.getD k default) (Wd.maskV W (l.getD k 0))
def zer7 (N : Nat) : S7 := ⟨0, 0, 0, 0, List.replicate N 0⟩
def plOk (N : Nat) (p : Pl) : Prop := (p.reg = true → p.n < 4) ∧ (p.reg = false → p.n < N)
def stZ (a : AV) : List AV := [.int .i64 0, .int .i64 0, .int .i64 0, .int .i64 0, a, .nils, .int .i64 0]
def stC (s : S7) (a : AV) : List AV := [.int .i64 s.r0, .int .i64 s.r1, .int .i64 s.r2, .int .i64 s.r3, a, .nils, .int .i64 0]
def bx (e : TypeId) (cs : List AV) : Blk := ⟨0, false, e, .box cs⟩
def blkI (l : List Int) : Blk := ⟨0, false, 3, .rows 1 l.length (rowI l)⟩
theorem put7_len (s : S7) (p : Pl) (v : Int) : (put7 s p v).m.length = s.m.length := by
  unfold put7
  repeat' split
  all_goals first | rfl | simp
theorem putK_len (W : Int) (pl : List Pl) (l : List Int) (s : S7) (k : Nat) : (putK W pl l s k).m.length = s.m.length := by
  induction k with
  | zero => rfl
  | succ k ih => rw [putK, put7_len, ih]
theorem rowI_set {m : List Int} {n i j : Nat} {v : Int} {a : AV} (hi : i < m.length) (ha : a = .int .i64 v) : (bif Nat.beq i n then a else rowI m i j) = rowI (m.set n v) i j := by
  unfold rowI
  subst ha
  by_cases h : i = n
  · subst h
    simp [List.getD, hi]
  · have : Nat.beq i n = false := by
      cases hb : Nat.beq i n with
      | false => rfl
      | true => exact absurd (Nat.eq_of_beq_eq_true hb) h
    rw [this]
    simp [List.getD, List.getElem?_set, Ne.symm h]
theorem set_row {m : List Int} {n : Nat} {v : Int} : ∀ i, i < m.length → ∀ j, j < 1 → (bif Nat.ble 0 j && Nat.blt j 1 && Nat.beq i (n + 0) then [AV.int .i64 v].getD (j - 0) .junk else AV.int .i64 (m.getD i 0)) = .int .i64 ((m.set n v).getD i 0) := by
  intro i hi j hj
  obtain rfl : j = 0 := by omega
  show (bif Nat.beq i n then AV.int .i64 v else AV.int .i64 (m.getD i 0)) = _
  exact rowI_set (m := m) (i := i) (j := 0) (n := n) (v := v) hi rfl
theorem rowI_rep {N : Nat} {a : AV} (ha : a = .int .i64 0) (i j : Nat) (hi : i < N) : a = rowI (List.replicate N 0) i j := by
  unfold rowI
  rw [ha]
  simp [List.getD, hi]
theorem places_ok (r : Nat → Int) (ms : List Mm) : ∀ p ∈ places r ms, plOk (sumN ms) p := by
  intro p hp
  rcases List.mem_append.1 hp with hp | hp
  · have key : ∀ k, p ∈ regL r k → p.reg = true ∧ p.n < k := by
      intro k
      induction k with
      | zero => intro h; cases h
      | succ k ih =>
        intro h
        rcases List.mem_append.1 h with h | h
        · have := ih h; exact ⟨this.1, by omega⟩
        · split at h
          · cases h
          · rw [List.mem_singleton] at h
            subst h
            exact ⟨rfl, Nat.lt_succ_self k⟩
    have := key 4 hp
    exact ⟨fun _ => this.2, fun h => by rw [this.1] at h; cases h⟩
  · have key : ∀ (l : List Mm) (at_ : Nat), p ∈ memL at_ l → p.reg = false ∧ p.n < at_ + sumN l := by
      intro l
      induction l with
      | nil => intro at_ h; cases h
      | cons m l ih =>
        intro at_ h
        rcases List.mem_append.1 h with h | h
        · obtain ⟨i, hi, rfl⟩ := List.mem_map.1 h
          rw [List.mem_range] at hi
          refine ⟨rfl, ?_⟩
          show at_ + i < _
          simp only [sumN]; omega
        · have := ih _ h
          refine ⟨this.1, ?_⟩
          simp only [sumN]; omega
    have := key ms 0 hp
    exact ⟨fun h => (by rw [this.1] at h; cases h), fun _ => by omega⟩
theorem places_length (r : Nat → Int) (ms : List Mm) : (places r ms).length ≤ 4 + sumN ms := by
  have := regL_le r 4
  have h2 := memL_length 0 ms
  simp only [places, List.length_append]; omega
theorem getD_mem {pl : List Pl} {k : Nat} (h : k < pl.length) : pl.getD k default ∈ pl := by
  simp [List.getD, h]
structure Vl where
  reg : Bool
  n : Int
structure In where
  kind : Int
  op : Int
  d : Int
  a : Vl
  b : Vl
  nm : ByteArray
  tg : Int
structure Lb where
  nm : ByteArray
  at_ : Int
structure Pg where
  W : Int
  win : Int
  fuel : Int
  r0 : Int
  r1 : Int
  r2 : Int
  r3 : Int
  ms : List Mm
  ls : List Lb
  is : List In
structure S8 where
  r0 : Int
  r1 : Int
  r2 : Int
  r3 : Int
  m : List Int
  st : List Int
  pc : Int
structure Ob where
  k : Int
  a : Int
def In0 : In := ⟨0, 0, 0, ⟨false, 0⟩, ⟨false, 0⟩, ⟨#[]⟩, 0⟩
instance : Inhabited In := ⟨In0⟩
instance : Inhabited Lb := ⟨⟨⟨#[]⟩, 0⟩⟩
instance : Inhabited Ob := ⟨⟨0, 0⟩⟩
/-- an instruction's cells -/
def inA (i : In) : List AV := [.int .i64 i.kind, .int .i64 i.op, .int .i64 i.d, .bool i.a.reg, .int .i64 i.a.n, .bool i.b.reg, .int .i64 i.b.n, .str i.nm, .int .i64 i.tg]
def inC (i : In) (j : Nat) : AV := (inA i).getD j .junk
def inR (l : List In) : AV := .row 9 l.length (rowL inC l)
def vlA (v : Vl) : List AV := [.bool v.reg, .int .i64 v.n]
def lbC (l : Lb) (j : Nat) : AV := [AV.str l.nm, .int .i64 l.at_].getD j .junk
def lbR (l : List Lb) : AV := .row 2 l.length (rowL lbC l)
def obC (o : Ob) (j : Nat) : AV := [AV.int .i64 o.k, .int .i64 o.a].getD j .junk
def obR (l : List Ob) : AV := .row 2 l.length (rowL obC l)
/-- a program's cells -/
def pgA (p : Pg) : List AV := [.int .i64 p.W, .int .i64 p.win, .int .i64 p.fuel, .int .i64 p.r0, .int .i64 p.r1, .int .i64 p.r2, .int .i64 p.r3, memR p.ms, lbR p.ls, inR p.is]
/-- a state's cells; where its rows lie -/
def s8A (s : S8) (am ak : AV) : List AV := [.int .i64 s.r0, .int .i64 s.r1, .int .i64 s.r2, .int .i64 s.r3, am, ak, .int .i64 s.pc]
/-- the instruction at a place -/
def atI (p : Pg) (pc : Int) : In := if 0 ≤ pc ∧ pc < p.is.length then p.is.getD pc.toNat default else { In0 with kind := 12 }
def S8.reg (s : S8) (n : Int) : Int := if n = 0 then s.r0 else if n = 1 then s.r1 else if n = 2 then s.r2 else s.r3
def S8.set (s : S8) (n v : Int) : S8 := ⟨if n = 0 then v else s.r0, if n = 1 then v else s.r1, if n = 2 then v else s.r2, if n = 3 then v else s.r3, s.m, s.st, s.pc⟩
def okV (v : Vl) : Prop := v.reg = true → 0 ≤ v.n ∧ v.n < 4
/-- registers are words -/
def okR (s : S8) : Prop := (0 ≤ s.r0 ∧ s.r0 < 65536) ∧ (0 ≤ s.r1 ∧ s.r1 < 65536) ∧ (0 ≤ s.r2 ∧ s.r2 < 65536) ∧ (0 ≤ s.r3 ∧ s.r3 < 65536)
def OkI (i : In) (len : Int) : Prop := (1 ≤ i.kind ∧ i.kind ≤ 12) ∧ okV i.a ∧ okV i.b ∧ (0 ≤ i.d ∧ i.d < 4) ∧ (0 ≤ i.tg ∧ i.tg ≤ len)
structure OkP (p : Pg) : Prop where
  ins : ∀ i ∈ p.is, OkI i p.is.length
  len : p.is.length < 1000
  ms : p.ms.length < 1000
  sum : sumN p.ms ≤ 16
structure OkS (c len : Int) (s : S8) : Prop where
  reg : okR s
  mem : ∀ x ∈ s.m, 0 ≤ x ∧ x < 65536
  c : c = s.m.length
  pc : -1 ≤ s.pc ∧ s.pc ≤ len
  st : s.st.length ≤ 100
  stk : ∀ x ∈ s.st, -1 ≤ x ∧ x ≤ len
def s8R (s : S8) : List AV := s8A s (lR s.m) (lR s.st)
def s8N (s : S8) : List AV := s8A s (lR s.m) .nils
theorem four {n : Int} (h0 : 0 ≤ n) (h1 : n < 4) : n = 0 ∨ n = 1 ∨ n = 2 ∨ n = 3 := by omega
theorem S8.reg_bd {s : S8} (h : okR s) (n : Int) : 0 ≤ s.reg n ∧ s.reg n < 65536 := by
  obtain ⟨h0, h1, h2, h3⟩ := h
  unfold S8.reg
  repeat' split
  all_goals assumption
theorem atI_in {p : Pg} {pc : Int} (h0 : 0 ≤ pc) (h1 : pc < p.is.length) : atI p pc = p.is.getD pc.toNat default := if_pos ⟨h0, h1⟩
theorem atI_out {p : Pg} {pc : Int} (h : ¬ (0 ≤ pc ∧ pc < p.is.length)) : atI p pc = { In0 with kind := 12 } := if_neg h
theorem okV0 : okV ⟨false, 0⟩ := fun h => by cases h
theorem atI_ok {p : Pg} (h : OkP p) (pc : Int) : OkI (atI p pc) p.is.length ∧ ((atI p pc).kind ≠ 12 → 0 ≤ pc ∧ pc < p.is.length) := by
  by_cases hp : 0 ≤ pc ∧ pc < p.is.length
  · rw [atI_in hp.1 hp.2]
    refine ⟨h.ins _ ?_, fun _ => hp⟩
    have hlt : pc.toNat < p.is.length := by omega
    simp [List.getD, hlt]
  · rw [atI_out hp]
    exact ⟨⟨⟨by show (1 : Int) ≤ 12; decide, by show (12 : Int) ≤ 12; decide⟩, okV0, okV0, ⟨by show (0 : Int) ≤ 0; decide, by show (0 : Int) < 4; decide⟩, by show (0 : Int) ≤ 0; decide, by show (0 : Int) ≤ _; omega⟩, fun hk => absurd rfl hk⟩
theorem set_ok {s : S8} (h : okR s) (n : Int) {v : Int} (hv : 0 ≤ v ∧ v < 65536) : okR (s.set n v) := by
  obtain ⟨h0, h1, h2, h3⟩ := h
  refine ⟨?_, ?_, ?_, ?_⟩ <;> (show 0 ≤ (if _ then v else _) ∧ (if _ then v else _) < 65536) <;> split <;> assumption
theorem doV_bd (W op a b : Int) : 0 ≤ Wd.doV W op a b ∧ Wd.doV W op a b < 65536 := Wd.maskV_bd _ _
theorem mem_bd {m : List Int} (h : ∀ x ∈ m, 0 ≤ x ∧ x < 65536) (n : Nat) : 0 ≤ m.getD n 0 ∧ m.getD n 0 < 65536 := by
  by_cases hn : n < m.length
  · exact h _ (by simp [List.getD, hn])
  · simp [List.getD, List.getElem?_eq_none (Nat.not_lt.1 hn)]
theorem tmod_bd {a : Int} {b : Int} (h0 : 0 ≤ a) (hb : 0 < b) : 0 ≤ a.tmod b ∧ a.tmod b < b := ⟨Int.tmod_nonneg _ h0, Int.tmod_lt_of_pos _ hb⟩
theorem mx0 (a : Int) : (if a < 0 then 0 else a) = max a 0 := by split <;> omega
theorem mnI (a b : Int) : (if b < a then b else a) = min a b := by split <;> omega
end
end Go.Proofs.Ytgcedepjlgfcjaa.Px
namespace Go.Proofs.Ytgcedepjlgfcjaa
section
open Go.RowKit
namespace Wd
theorem sizeV_pos {w : Int} (h : okB w = true) : 2 ≤ sizeV w := by
  obtain ⟨k, rfl, h1, hk⟩ := okB_nat h
  unfold sizeV; rw [if_pos h, Int.toNat_natCast]
  have : (2 : Nat) ^ 1 ≤ 2 ^ k := Nat.pow_le_pow_right (by omega) h1
  have h2 : ((2 ^ 1 : Nat) : Int) ≤ ((2 ^ k : Nat) : Int) := by exact_mod_cast this
  simpa using h2
theorem tmod_mask {w n : Int} (h : okB w = true) : (n.tmod (sizeV w) + sizeV w) % sizeV w = maskV w n ∧ - sizeV w < n.tmod (sizeV w) ∧ n.tmod (sizeV w) < sizeV w := by
  have hs := sizeV_pos h
  have h1 := Int.tmod_lt_of_pos n (b := sizeV w) (by omega)
  have h2 : - sizeV w < n.tmod (sizeV w) := by
    by_cases hn : 0 ≤ n
    · have := Int.tmod_nonneg (sizeV w) hn; omega
    · have := Int.tmod_lt_of_pos (-n) (b := sizeV w) (by omega)
      rw [Int.neg_tmod] at this; omega
  refine ⟨?_, h2, h1⟩
  rw [Int.add_emod_right]
  have e : maskV w n = n % sizeV w := by unfold maskV sizeV; rw [if_pos h, if_pos h]
  rw [e, Int.tmod_eq_emod]
  split
  · simp
  · rw [Int.natAbs_of_nonneg (by omega), Int.sub_emod, Int.emod_self, Int.sub_zero, Int.emod_emod, Int.emod_emod]
end Wd
namespace Wd
theorem lt_pow {w x : Int} (h : okB w = true) (h1 : x < sizeV w) (h0 : 0 ≤ x) : x.toNat < 2 ^ w.toNat := by
  unfold sizeV at h1; rw [if_pos h] at h1
  have : ((2 ^ w.toNat : Nat) : Int) = 2 ^ w.toNat := by simp
  omega
theorem mask_nat {w : Int} {m : Nat} (h : okB w = true) (h1 : m < 2 ^ w.toNat) : maskV w (m : Int) = (m : Int) := by
  refine maskV_of_lt h (by omega) ?_
  unfold sizeV; rw [if_pos h]
  have : ((2 ^ w.toNat : Nat) : Int) = 2 ^ w.toNat := by simp
  omega
theorem ref3 {w a b : Int} (h : okB w = true) : bits .and .i64 (maskV w a) (maskV w b) = doV w 3 a b := by
  have ha := maskV_bd w a; have hb := maskV_bd w b
  rw [bits_and ha.1 ha.2 hb.1 hb.2]; unfold doV; simp only [rawV]; simp
  refine (mask_nat h ?_).symm
  exact Nat.and_lt_two_pow _ (lt_pow h (maskV_lt h) hb.1)
theorem ref4 {w a b : Int} (h : okB w = true) : bits .or .i64 (maskV w a) (maskV w b) = doV w 4 a b := by
  have ha := maskV_bd w a; have hb := maskV_bd w b
  rw [bits_or ha.1 ha.2 hb.1 hb.2]; unfold doV; simp only [rawV]; simp
  refine (mask_nat h ?_).symm
  exact Nat.or_lt_two_pow (lt_pow h (maskV_lt h) ha.1) (lt_pow h (maskV_lt h) hb.1)
theorem ref5 {w a b : Int} (h : okB w = true) : bits .xor .i64 (maskV w a) (maskV w b) = doV w 5 a b := by
  have ha := maskV_bd w a; have hb := maskV_bd w b
  rw [bits_xor ha.1 ha.2 hb.1 hb.2]; unfold doV; simp only [rawV]; simp
  refine (mask_nat h ?_).symm
  exact Nat.xor_lt_two_pow (lt_pow h (maskV_lt h) ha.1) (lt_pow h (maskV_lt h) hb.1)
theorem do6_far {w a b : Int} (h : w ≤ maskV w b) : doV w 6 a b = 0 := by
  unfold doV; simp only [rawV]; simp
  unfold maskV; split
  · rename_i ho
    have := okB_iff.1 ho
    refine pow_mod ?_
    unfold maskV at h; rw [if_pos ho] at h; omega
  · rfl
theorem do7_far {w a b : Int} (hw : okB w = true) (h : w ≤ maskV w b) : doV w 7 a b = 0 := by
  have ha := maskV_bd w a
  have ho := okB_iff.1 hw
  have hl := maskV_lt (n := a) hw
  have e : maskV w a / 2 ^ (maskV w b).toNat = 0 := by
    refine Int.ediv_eq_zero_of_lt ha.1 ?_
    unfold sizeV at hl; rw [if_pos hw] at hl
    have : (2 : Nat) ^ w.toNat ≤ 2 ^ (maskV w b).toNat := Nat.pow_le_pow_right (by omega) (by omega)
    have h2 : ((2 ^ w.toNat : Nat) : Int) ≤ ((2 ^ (maskV w b).toNat : Nat) : Int) := by exact_mod_cast this
    simp at h2; omega
  unfold doV; simp only [rawV]; simp
  rw [e]; simp [maskV]
theorem ref7 {w a b : Int} (hw : okB w = true) : maskV w a / 2 ^ (maskV w b).toNat = doV w 7 a b := by
  have ha := maskV_bd w a
  have hl := maskV_lt (n := a) hw
  unfold doV; simp only [rawV]; simp
  refine (maskV_of_lt hw ?_ ?_).symm
  · exact Int.ediv_nonneg ha.1 (by have := pow_pos (maskV w b).toNat; omega)
  · have := Int.ediv_le_self (2 ^ (maskV w b).toNat) ha.1; omega
theorem ref7' {w a b : Int} (hw : okB w = true) : maskV w a / 2 ^ min (maskV w b).toNat 64 = doV w 7 a b := by
  rw [shr_min (maskV_bd w a).1 (maskV_bd w a).2]; exact ref7 hw
theorem mask_one {w : Int} (hw : okB w = true) (b : Bool) : maskV w (tI b) = tI b := by
  have := sizeV_pos hw
  exact maskV_of_lt hw (by unfold tI; split <;> omega) (by unfold tI; split <;> omega)
theorem ref6 {w a b : Int} : maskV w (wrap64 (maskV w a * 2 ^ (min (maskV w b).toNat 64))) = doV w 6 a b := by
  unfold doV; rw [← recV_mask]; rfl
theorem ref0 {w a b op : Int} (h : op < 1 ∨ 10 < op) : 0 = doV w op a b := by
  unfold doV; rw [raw_no h]; simp [maskV]
theorem ref9 {w a b : Int} (hw : okB w = true) : tI (decide (maskV w a < maskV w b)) = doV w 9 a b := by
  rw [← mask_one hw]; unfold doV; rw [rec9, recV_mask]
theorem ref10 {w a b : Int} (hw : okB w = true) : tI (maskV w a == maskV w b) = doV w 10 a b := by
  rw [← mask_one hw]; unfold doV; rw [rec10, recV_mask]
end Wd
end
end Go.Proofs.Ytgcedepjlgfcjaa
namespace Go.Proofs.Ytgcedepjlgfcjaa.Px
section
open Go.RowKit Go.Proofs.Ytgcedepjlgfcjaa.Rx
def pgP (p : Pg) : AV := .rptr 10 (fun q => (pgA p).getD q .junk) 0
theorem ok_no {w : Int} (h : ¬ (1 ≤ w ∧ w ≤ 16)) : Wd.okB w = false := by
  cases hb : Wd.okB w with
  | false => rfl
  | true => exact absurd (Wd.okB_iff.1 hb) h
theorem sizeV_no {w : Int} (h : ¬ (1 ≤ w ∧ w ≤ 16)) : Wd.sizeV w = 0 := by simp [Wd.sizeV, ok_no h]
theorem maskV_no {w n : Int} (h : ¬ (1 ≤ w ∧ w ≤ 16)) : Wd.maskV w n = 0 := by simp [Wd.maskV, ok_no h]
theorem ok_yes {w : Int} (h : 1 ≤ w ∧ w ≤ 16) : Wd.okB w = true := Wd.okB_iff.2 h
theorem sz_eq {k : Nat} (h : 1 ≤ k ∧ k ≤ 16) : IntKind.i64.wrap (1 * 2 ^ min (IntKind.u64.wrap (k : Int)).toNat IntKind.i64.bits) = Wd.sizeV (k : Int) := by
  rcases (by omega : k = 1 ∨ k = 2 ∨ k = 3 ∨ k = 4 ∨ k = 5 ∨ k = 6 ∨ k = 7 ∨ k = 8 ∨ k = 9 ∨ k = 10 ∨ k = 11 ∨ k = 12 ∨ k = 13 ∨ k = 14 ∨ k = 15 ∨ k = 16) with rfl | rfl | rfl | rfl | rfl | rfl | rfl | rfl | rfl | rfl | rfl | rfl | rfl | rfl | rfl | rfl <;> decide
theorem tmod_pos2 {a s : Int} (h : 0 < s) (h1 : -s < a) : (a + s).tmod s = (a + s) % s := Int.tmod_eq_emod_of_nonneg (by omega)
theorem size_y (k : Nat) (h : 1 ≤ k ∧ k ≤ 16) : Vc (vcFn Try.prog false 46 [.int .i64 k] [.bd false, .bd false] [] (.int .i64 (Wd.sizeV k)) []) := vc_by (cj (df ((k : Int) < 1)) (cj (df ((k : Int) > 16)) (cj (show (0 : Int) ≤ IntKind.wrap IntKind.u64 (k : Int) from by rcases (by omega : k = 1 ∨ k = 2 ∨ k = 3 ∨ k = 4 ∨ k = 5 ∨ k = 6 ∨ k = 7 ∨ k = 8 ∨ k = 9 ∨ k = 10 ∨ k = 11 ∨ k = 12 ∨ k = 13 ∨ k = 14 ∨ k = 15 ∨ k = 16) with rfl | rfl | rfl | rfl | rfl | rfl | rfl | rfl | rfl | rfl | rfl | rfl | rfl | rfl | rfl | rfl <;> decide) (cj (show IntKind.wrap IntKind.i64 ((1 : Int) * 2 ^ Min.min (k % (18446744073709551616 : Nat)) (64 : Nat)) = Wd.sizeV (k : Int) from (sz_eq h)) trivial)))) (by kernel_rfl)
theorem size_lo (w : Int) (h : w < 1) : Vc (vcFn Try.prog false 46 [.int .i64 w] [.bd true] [] (.int .i64 (Wd.sizeV w)) []) := vc_by (cj (dt (w < 1)) (cj (show (0 : Int) = Wd.sizeV w from (sizeV_no (by omega)).symm) trivial)) (by kernel_rfl)
theorem size_hi (w : Int) (h : 16 < w) : Vc (vcFn Try.prog false 46 [.int .i64 w] [.bd false, .bd true] [] (.int .i64 (Wd.sizeV w)) []) := vc_by (cj (df (w < 1)) (cj (dt (w > 16)) (cj (show (0 : Int) = Wd.sizeV w from (sizeV_no (by omega)).symm) trivial))) (by kernel_rfl)
theorem rsizeC (w : Int) : PureC Try.prog 46 [.int .i64 w] (.int .i64 (Wd.sizeV w)) [] := by
  by_cases h1 : w < 1
  · exact PureC.vc (size_lo w h1)
  · by_cases h2 : 16 < w
    · exact PureC.vc (size_hi w h2)
    · obtain ⟨k, rfl⟩ : ∃ k : Nat, w = (k : Int) := ⟨w.toNat, by omega⟩
      exact PureC.vc (size_y k (by omega))
theorem sB20 (w : Int) (h : 1 ≤ w ∧ w ≤ 16) : (Wd.sizeV w == (0 : Int)) = false := by have := Wd.sizeV_pos (ok_yes h); simp; omega
abbrev oB20 (w : Int) : Orc := .cl [.int .i64 w] (.int .i64 (Wd.sizeV w)) []
theorem mask_y (w n : Int) (h : 1 ≤ w ∧ w ≤ 16) : Vc (vcFn Try.prog false 36 [.int .i64 w, .int .i64 n] [oB20 w, .bd false] [] (.int .i64 (Wd.maskV w n)) []) := vc_by (cj (rf w) (cj (rsizeC w) (cj (sB20 w h) (cj (show Wd.sizeV w ≠ 0 from by have := Wd.sizeV_pos (ok_yes h); omega) (cj (show inK IntKind.i64 (Int.tmod n (Wd.sizeV w) + Wd.sizeV w) from by have h1 := Wd.tmod_mask (n := n) (ok_yes h); have := Wd.sizeV_bd w; exact in64 (by omega) (by omega)) (cj (show Wd.sizeV w ≠ 0 from by have := Wd.sizeV_pos (ok_yes h); omega) (cj (show Int.tmod (Int.tmod n (Wd.sizeV w) + Wd.sizeV w) (Wd.sizeV w) = Wd.maskV w n from by have h1 := Wd.tmod_mask (n := n) (ok_yes h); have h2 := Wd.sizeV_pos (ok_yes h); rw [tmod_pos2 (by omega) h1.2.1]; exact h1.1) trivial))))))) (by kernel_rfl)
theorem mask_n (w n : Int) (h : ¬ (1 ≤ w ∧ w ≤ 16)) : Vc (vcFn Try.prog false 36 [.int .i64 w, .int .i64 n] [oB20 w, .bd true] [] (.int .i64 (Wd.maskV w n)) []) := vc_by (cj (rf w) (cj (rsizeC w) (cj (show (Wd.sizeV w == (0 : Int)) = true from by rw [sizeV_no h]; rfl) (cj (show (0 : Int) = Wd.maskV w n from (maskV_no h).symm) trivial)))) (by kernel_rfl)
theorem rmaskC (w n : Int) : PureC Try.prog 36 [.int .i64 w, .int .i64 n] (.int .i64 (Wd.maskV w n)) [] := by
  by_cases h : 1 ≤ w ∧ w ≤ 16
  · exact PureC.vc (mask_y w n h)
  · exact PureC.vc (mask_n w n h)
theorem truth_true (b : Bool) (h : b = true) : Vc (vcFn Try.prog false 60 [.bool b] [.b true] [] (.int .i64 (Wd.tI b)) []) := vc_by (cj h (cj (show (1 : Int) = Wd.tI b from by rw [h]; rfl) trivial)) (by kernel_rfl)
theorem truth_false (b : Bool) (h : b = false) : Vc (vcFn Try.prog false 60 [.bool b] [.b false] [] (.int .i64 (Wd.tI b)) []) := vc_by (cj h (cj (show (0 : Int) = Wd.tI b from by rw [h]; rfl) trivial)) (by kernel_rfl)
theorem rtruthC (b : Bool) : PureC Try.prog 60 [.bool b] (.int .i64 (Wd.tI b)) [] := by
  cases h : b with
  | true => exact PureC.vc (truth_true true rfl)
  | false => exact PureC.vc (truth_false false rfl)
abbrev oB22 (w : Int) (b : Int) : Orc := .cl [.int .i64 w, .int .i64 b] (.int .i64 (Wd.maskV w b)) []
abbrev oB21 (w : Int) (a : Int) : Orc := .cl [.int .i64 w, .int .i64 a] (.int .i64 (Wd.maskV w a)) []
theorem do_1 (w a b : Int) (h : 1 ≤ w ∧ w ≤ 16) : Vc (vcFn Try.prog false 51 [.int .i64 w, .int .i64 1, .int .i64 a, .int .i64 b] [oB20 w, .bd false, oB21 w a, oB22 w b, .bd true, .cl [.int .i64 w, .int .i64 ((Wd.maskV w a) + (Wd.maskV w b))] (.int .i64 (Wd.maskV w ((Wd.maskV w a) + (Wd.maskV w b)))) []] [] (.tup [.int .i64 (Wd.doV w 1 a b), .bool (Wd.doB w 1)]) []) := vc_by (cj (rf w) (cj (rsizeC w) (cj (sB20 w h) (cj (rf w) (cj (rf a) (cj (rmaskC w a) (cj (rf w) (cj (rf b) (cj (rmaskC w b) (cj (e1 (1 : Int) 1) (cj (show inK IntKind.i64 (Wd.maskV w a + Wd.maskV w b) from by have h1 := Wd.maskV_bd w a; have h2 := Wd.maskV_bd w b; exact in64 (by omega) (by omega)) (cj (rf w) (cj (rf (Wd.maskV w a + Wd.maskV w b)) (cj (rmaskC w ((Wd.maskV w a) + (Wd.maskV w b))) (cj (rf (Wd.doV w (1 : Int) a b)) (cj (show true = Wd.doB w (1 : Int) from by simp [Wd.doB, ok_yes h, Wd.opB]) trivial)))))))))))))))) (by kernel_rfl)
theorem do_2 (w a b : Int) (h : 1 ≤ w ∧ w ≤ 16) : Vc (vcFn Try.prog false 51 [.int .i64 w, .int .i64 2, .int .i64 a, .int .i64 b] [oB20 w, .bd false, oB21 w a, oB22 w b, .bd false, .bd true, .cl [.int .i64 w, .int .i64 ((Wd.maskV w a) - (Wd.maskV w b))] (.int .i64 (Wd.maskV w ((Wd.maskV w a) - (Wd.maskV w b)))) []] [] (.tup [.int .i64 (Wd.doV w 2 a b), .bool (Wd.doB w 2)]) []) := vc_by (cj (rf w) (cj (rsizeC w) (cj (sB20 w h) (cj (rf w) (cj (rf a) (cj (rmaskC w a) (cj (rf w) (cj (rf b) (cj (rmaskC w b) (cj (e0 (2 : Int) 1) (cj (e1 (2 : Int) 2) (cj (show inK IntKind.i64 (Wd.maskV w a - Wd.maskV w b) from by have h1 := Wd.maskV_bd w a; have h2 := Wd.maskV_bd w b; exact in64 (by omega) (by omega)) (cj (rf w) (cj (rf (Wd.maskV w a - Wd.maskV w b)) (cj (rmaskC w ((Wd.maskV w a) - (Wd.maskV w b))) (cj (rf (Wd.doV w (2 : Int) a b)) (cj (show true = Wd.doB w (2 : Int) from by simp [Wd.doB, ok_yes h, Wd.opB]) trivial))))))))))))))))) (by kernel_rfl)
theorem do_3 (w a b : Int) (h : 1 ≤ w ∧ w ≤ 16) : Vc (vcFn Try.prog false 51 [.int .i64 w, .int .i64 3, .int .i64 a, .int .i64 b] [oB20 w, .bd false, oB21 w a, oB22 w b, .bd false, .bd false, .bd true] [] (.tup [.int .i64 (Wd.doV w 3 a b), .bool (Wd.doB w 3)]) []) := vc_by (cj (rf w) (cj (rsizeC w) (cj (sB20 w h) (cj (rf w) (cj (rf a) (cj (rmaskC w a) (cj (rf w) (cj (rf b) (cj (rmaskC w b) (cj (e0 (3 : Int) 1) (cj (e0 (3 : Int) 2) (cj (e1 (3 : Int) 3) (cj (show Go.bits Go.BinOp.and IntKind.i64 (Wd.maskV w a) (Wd.maskV w b) = Wd.doV w (3 : Int) a b from (Wd.ref3 (ok_yes h))) (cj (show true = Wd.doB w (3 : Int) from by simp [Wd.doB, ok_yes h, Wd.opB]) trivial)))))))))))))) (by kernel_rfl)
theorem do_4 (w a b : Int) (h : 1 ≤ w ∧ w ≤ 16) : Vc (vcFn Try.prog false 51 [.int .i64 w, .int .i64 4, .int .i64 a, .int .i64 b] [oB20 w, .bd false, oB21 w a, oB22 w b, .bd false, .bd false, .bd false, .bd true] [] (.tup [.int .i64 (Wd.doV w 4 a b), .bool (Wd.doB w 4)]) []) := vc_by (cj (rf w) (cj (rsizeC w) (cj (sB20 w h) (cj (rf w) (cj (rf a) (cj (rmaskC w a) (cj (rf w) (cj (rf b) (cj (rmaskC w b) (cj (e0 (4 : Int) 1) (cj (e0 (4 : Int) 2) (cj (e0 (4 : Int) 3) (cj (e1 (4 : Int) 4) (cj (show Go.bits Go.BinOp.or IntKind.i64 (Wd.maskV w a) (Wd.maskV w b) = Wd.doV w (4 : Int) a b from (Wd.ref4 (ok_yes h))) (cj (show true = Wd.doB w (4 : Int) from by simp [Wd.doB, ok_yes h, Wd.opB]) trivial))))))))))))))) (by kernel_rfl)
theorem do_5 (w a b : Int) (h : 1 ≤ w ∧ w ≤ 16) : Vc (vcFn Try.prog false 51 [.int .i64 w, .int .i64 5, .int .i64 a, .int .i64 b] [oB20 w, .bd false, oB21 w a, oB22 w b, .bd false, .bd false, .bd false, .bd false, .bd true] [] (.tup [.int .i64 (Wd.doV w 5 a b), .bool (Wd.doB w 5)]) []) := vc_by (cj (rf w) (cj (rsizeC w) (cj (sB20 w h) (cj (rf w) (cj (rf a) (cj (rmaskC w a) (cj (rf w) (cj (rf b) (cj (rmaskC w b) (cj (e0 (5 : Int) 1) (cj (e0 (5 : Int) 2) (cj (e0 (5 : Int) 3) (cj (e0 (5 : Int) 4) (cj (e1 (5 : Int) 5) (cj (show Go.bits Go.BinOp.xor IntKind.i64 (Wd.maskV w a) (Wd.maskV w b) = Wd.doV w (5 : Int) a b from (Wd.ref5 (ok_yes h))) (cj (show true = Wd.doB w (5 : Int) from by simp [Wd.doB, ok_yes h, Wd.opB]) trivial)))))))))))))))) (by kernel_rfl)
theorem u_wrap {x : Int} (h0 : 0 ≤ x) (h1 : x < 65536) : IntKind.u64.wrap x = x := by
  rw [IntKind.wrap_u64]; omega
theorem u_wrap_nn (x : Int) : 0 ≤ IntKind.u64.wrap x := by rw [IntKind.wrap_u64]; omega
theorem do_6f (w a b : Int) (h : 1 ≤ w ∧ w ≤ 16) (hf : w ≤ Wd.maskV w b) : Vc (vcFn Try.prog false 51 [.int .i64 w, .int .i64 6, .int .i64 a, .int .i64 b] [oB20 w, .bd false, oB21 w a, oB22 w b, .bd false, .bd false, .bd false, .bd false, .bd false, .bd true, .bd true] [] (.tup [.int .i64 (Wd.doV w 6 a b), .bool (Wd.doB w 6)]) []) := vc_by (cj (rf w) (cj (rsizeC w) (cj (show (Wd.sizeV w == (0 : Int)) = false from by have := Wd.sizeV_pos (ok_yes h); simp; omega) (cj (rf w) (cj (rf a) (cj (rmaskC w a) (cj (rf w) (cj (rf b) (cj (rmaskC w b) (cj (e0 (6 : Int) 1) (cj (e0 (6 : Int) 2) (cj (e0 (6 : Int) 3) (cj (e0 (6 : Int) 4) (cj (e0 (6 : Int) 5) (cj (e1 (6 : Int) 6) (cj (dt (Wd.maskV w b ≥ w)) (cj (show (0 : Int) = Wd.doV w (6 : Int) a b from (Wd.do6_far hf).symm) (cj (show true = Wd.doB w (6 : Int) from by simp [Wd.doB, ok_yes h, Wd.opB]) trivial)))))))))))))))))) (by kernel_rfl)
theorem do_6 (w a b : Int) (h : 1 ≤ w ∧ w ≤ 16) (hf : ¬ w ≤ Wd.maskV w b) : Vc (vcFn Try.prog false 51 [.int .i64 w, .int .i64 6, .int .i64 a, .int .i64 b] [oB20 w, .bd false, oB21 w a, oB22 w b, .bd false, .bd false, .bd false, .bd false, .bd false, .bd true, .bd false, .cl [.int .i64 w, .int .i64 (IntKind.i64.wrap ((Wd.maskV w a) * 2 ^ min (IntKind.u64.wrap (Wd.maskV w b)).toNat IntKind.i64.bits))] (.int .i64 (Wd.maskV w (IntKind.i64.wrap ((Wd.maskV w a) * 2 ^ min (IntKind.u64.wrap (Wd.maskV w b)).toNat IntKind.i64.bits)))) []] [] (.tup [.int .i64 (Wd.doV w 6 a b), .bool (Wd.doB w 6)]) []) := vc_by (cj (rf w) (cj (rsizeC w) (cj (show (Wd.sizeV w == (0 : Int)) = false from by have := Wd.sizeV_pos (ok_yes h); simp; omega) (cj (rf w) (cj (rf a) (cj (rmaskC w a) (cj (rf w) (cj (rf b) (cj (rmaskC w b) (cj (e0 (6 : Int) 1) (cj (e0 (6 : Int) 2) (cj (e0 (6 : Int) 3) (cj (e0 (6 : Int) 4) (cj (e0 (6 : Int) 5) (cj (e1 (6 : Int) 6) (cj (df (Wd.maskV w b ≥ w)) (cj (show (0 : Int) ≤ IntKind.wrap IntKind.u64 (Wd.maskV w b) from (u_wrap_nn _)) (cj (rf w) (cj (rf (IntKind.wrap IntKind.i64 (Wd.maskV w a * 2 ^ Min.min (Int.toNat (IntKind.wrap IntKind.u64 (Wd.maskV w b))) (64 : Nat)))) (cj (rmaskC w (IntKind.i64.wrap ((Wd.maskV w a) * 2 ^ min (IntKind.u64.wrap (Wd.maskV w b)).toNat IntKind.i64.bits))) (cj (show Wd.maskV w (IntKind.wrap IntKind.i64 (Wd.maskV w a * 2 ^ Min.min (Int.toNat (IntKind.wrap IntKind.u64 (Wd.maskV w b))) (64 : Nat))) = Wd.doV w (6 : Int) a b from by have h1 := Wd.maskV_bd w a; have h2 := Wd.maskV_bd w b; rw [u_wrap h2.1 h2.2]; have e := Wd.ref6 (w := w) (a := a) (b := b); rw [IntWalk.i64_left]; exact e) (cj (show true = Wd.doB w (6 : Int) from by simp [Wd.doB, ok_yes h, Wd.opB]) trivial)))))))))))))))))))))) (by kernel_rfl)
theorem do_7f (w a b : Int) (h : 1 ≤ w ∧ w ≤ 16) (hf : w ≤ Wd.maskV w b) : Vc (vcFn Try.prog false 51 [.int .i64 w, .int .i64 7, .int .i64 a, .int .i64 b] [oB20 w, .bd false, oB21 w a, oB22 w b, .bd false, .bd false, .bd false, .bd false, .bd false, .bd false, .bd true, .bd true] [] (.tup [.int .i64 (Wd.doV w 7 a b), .bool (Wd.doB w 7)]) []) := vc_by (cj (rf w) (cj (rsizeC w) (cj (show (Wd.sizeV w == (0 : Int)) = false from by have := Wd.sizeV_pos (ok_yes h); simp; omega) (cj (rf w) (cj (rf a) (cj (rmaskC w a) (cj (rf w) (cj (rf b) (cj (rmaskC w b) (cj (e0 (7 : Int) 1) (cj (e0 (7 : Int) 2) (cj (e0 (7 : Int) 3) (cj (e0 (7 : Int) 4) (cj (e0 (7 : Int) 5) (cj (e0 (7 : Int) 6) (cj (e1 (7 : Int) 7) (cj (dt (Wd.maskV w b ≥ w)) (cj (show (0 : Int) = Wd.doV w (7 : Int) a b from (Wd.do7_far (ok_yes h) hf).symm) (cj (show true = Wd.doB w (7 : Int) from by simp [Wd.doB, ok_yes h, Wd.opB]) trivial))))))))))))))))))) (by kernel_rfl)
theorem do_7 (w a b : Int) (h : 1 ≤ w ∧ w ≤ 16) (hf : ¬ w ≤ Wd.maskV w b) : Vc (vcFn Try.prog false 51 [.int .i64 w, .int .i64 7, .int .i64 a, .int .i64 b] [oB20 w, .bd false, oB21 w a, oB22 w b, .bd false, .bd false, .bd false, .bd false, .bd false, .bd false, .bd true, .bd false] [] (.tup [.int .i64 (Wd.doV w 7 a b), .bool (Wd.doB w 7)]) []) := vc_by (cj (rf w) (cj (rsizeC w) (cj (show (Wd.sizeV w == (0 : Int)) = false from by have := Wd.sizeV_pos (ok_yes h); simp; omega) (cj (rf w) (cj (rf a) (cj (rmaskC w a) (cj (rf w) (cj (rf b) (cj (rmaskC w b) (cj (e0 (7 : Int) 1) (cj (e0 (7 : Int) 2) (cj (e0 (7 : Int) 3) (cj (e0 (7 : Int) 4) (cj (e0 (7 : Int) 5) (cj (e0 (7 : Int) 6) (cj (e1 (7 : Int) 7) (cj (df (Wd.maskV w b ≥ w)) (cj (show (0 : Int) ≤ IntKind.wrap IntKind.u64 (Wd.maskV w b) from (u_wrap_nn _)) (cj (show Int.fdiv (Wd.maskV w a) ((2 : Int) ^ Min.min (Int.toNat (IntKind.wrap IntKind.u64 (Wd.maskV w b))) (64 : Nat)) = Wd.doV w (7 : Int) a b from by have h1 := Wd.maskV_bd w a; have h2 := Wd.maskV_bd w b; rw [u_wrap h2.1 h2.2, Int.fdiv_eq_ediv_of_nonneg _ (by have := Wd.pow_pos (min (Wd.maskV w b).toNat 64); omega)]; exact Wd.ref7' (ok_yes h)) (cj (show true = Wd.doB w (7 : Int) from by simp [Wd.doB, ok_yes h, Wd.opB]) trivial)))))))))))))))))))) (by kernel_rfl)
theorem do_8 (w a b : Int) (h : 1 ≤ w ∧ w ≤ 16) : Vc (vcFn Try.prog false 51 [.int .i64 w, .int .i64 8, .int .i64 a, .int .i64 b] [oB20 w, .bd false, oB21 w a, oB22 w b, .bd false, .bd false, .bd false, .bd false, .bd false, .bd false, .bd false, .bd true, .cl [.int .i64 w, .int .i64 ((Wd.maskV w a) * (Wd.maskV w b))] (.int .i64 (Wd.maskV w ((Wd.maskV w a) * (Wd.maskV w b)))) []] [] (.tup [.int .i64 (Wd.doV w 8 a b), .bool (Wd.doB w 8)]) []) := vc_by (cj (rf w) (cj (rsizeC w) (cj (sB20 w h) (cj (rf w) (cj (rf a) (cj (rmaskC w a) (cj (rf w) (cj (rf b) (cj (rmaskC w b) (cj (e0 (8 : Int) 1) (cj (e0 (8 : Int) 2) (cj (e0 (8 : Int) 3) (cj (e0 (8 : Int) 4) (cj (e0 (8 : Int) 5) (cj (e0 (8 : Int) 6) (cj (e0 (8 : Int) 7) (cj (e1 (8 : Int) 8) (cj (show inK IntKind.i64 (Wd.maskV w a * Wd.maskV w b) from by have h1 := Wd.maskV_bd w a; have h2 := Wd.maskV_bd w b; have h3 := Wd.mul_bd h1.1 h1.2 h2.1 h2.2; exact in64 (by omega) (by omega)) (cj (rf w) (cj (rf (Wd.maskV w a * Wd.maskV w b)) (cj (rmaskC w ((Wd.maskV w a) * (Wd.maskV w b))) (cj (rf (Wd.doV w (8 : Int) a b)) (cj (show true = Wd.doB w (8 : Int) from by simp [Wd.doB, ok_yes h, Wd.opB]) trivial))))))))))))))))))))))) (by kernel_rfl)
theorem do_9 (w a b : Int) (h : 1 ≤ w ∧ w ≤ 16) : Vc (vcFn Try.prog false 51 [.int .i64 w, .int .i64 9, .int .i64 a, .int .i64 b] [oB20 w, .bd false, oB21 w a, oB22 w b, .bd false, .bd false, .bd false, .bd false, .bd false, .bd false, .bd false, .bd false, .bd true, .cl [.bool (decide ((Wd.maskV w a) < (Wd.maskV w b)))] (.int .i64 (Wd.tI (decide ((Wd.maskV w a) < (Wd.maskV w b))))) []] [] (.tup [.int .i64 (Wd.doV w 9 a b), .bool (Wd.doB w 9)]) []) := vc_by (cj (rf w) (cj (rsizeC w) (cj (sB20 w h) (cj (rf w) (cj (rf a) (cj (rmaskC w a) (cj (rf w) (cj (rf b) (cj (rmaskC w b) (cj (e0 (9 : Int) 1) (cj (e0 (9 : Int) 2) (cj (e0 (9 : Int) 3) (cj (e0 (9 : Int) 4) (cj (e0 (9 : Int) 5) (cj (e0 (9 : Int) 6) (cj (e0 (9 : Int) 7) (cj (e0 (9 : Int) 8) (cj (e1 (9 : Int) 9) (cj (rf (decide (Wd.maskV w a < Wd.maskV w b))) (cj (show PureC Try.prog 60 [.bool (decide ((Wd.maskV w a) < (Wd.maskV w b)))] (.int .i64 (Wd.tI (decide ((Wd.maskV w a) < (Wd.maskV w b))))) [] from rtruthC _) (cj (show Wd.tI (decide (Wd.maskV w a < Wd.maskV w b)) = Wd.doV w (9 : Int) a b from (Wd.ref9 (ok_yes h))) (cj (show true = Wd.doB w (9 : Int) from by simp [Wd.doB, ok_yes h, Wd.opB]) trivial)))))))))))))))))))))) (by kernel_rfl)
theorem do_10 (w a b : Int) (h : 1 ≤ w ∧ w ≤ 16) : Vc (vcFn Try.prog false 51 [.int .i64 w, .int .i64 10, .int .i64 a, .int .i64 b] [oB20 w, .bd false, oB21 w a, oB22 w b, .bd false, .bd false, .bd false, .bd false, .bd false, .bd false, .bd false, .bd false, .bd false, .bd true, .cl [.bool ((Wd.maskV w a) == (Wd.maskV w b))] (.int .i64 (Wd.tI ((Wd.maskV w a) == (Wd.maskV w b)))) []] [] (.tup [.int .i64 (Wd.doV w 10 a b), .bool (Wd.doB w 10)]) []) := vc_by (cj (rf w) (cj (rsizeC w) (cj (sB20 w h) (cj (rf w) (cj (rf a) (cj (rmaskC w a) (cj (rf w) (cj (rf b) (cj (rmaskC w b) (cj (e0 (10 : Int) 1) (cj (e0 (10 : Int) 2) (cj (e0 (10 : Int) 3) (cj (e0 (10 : Int) 4) (cj (e0 (10 : Int) 5) (cj (e0 (10 : Int) 6) (cj (e0 (10 : Int) 7) (cj (e0 (10 : Int) 8) (cj (e0 (10 : Int) 9) (cj (e1 (10 : Int) 10) (cj (rf (Wd.maskV w a == Wd.maskV w b)) (cj (show PureC Try.prog 60 [.bool ((Wd.maskV w a) == (Wd.maskV w b))] (.int .i64 (Wd.tI ((Wd.maskV w a) == (Wd.maskV w b)))) [] from rtruthC _) (cj (show Wd.tI (Wd.maskV w a == Wd.maskV w b) = Wd.doV w (10 : Int) a b from (Wd.ref10 (ok_yes h))) (cj (show true = Wd.doB w (10 : Int) from by simp [Wd.doB, ok_yes h, Wd.opB]) trivial))))))))))))))))))))))) (by kernel_rfl)
theorem do_0 (w o a b : Int) (h : 1 ≤ w ∧ w ≤ 16) (ho : o < 1 ∨ 10 < o) : Vc (vcFn Try.prog false 51 [.int .i64 w, .int .i64 o, .int .i64 a, .int .i64 b] [oB20 w, .bd false, oB21 w a, oB22 w b, .bd false, .bd false, .bd false, .bd false, .bd false, .bd false, .bd false, .bd false, .bd false, .bd false] [] (.tup [.int .i64 (Wd.doV w o a b), .bool (Wd.doB w o)]) []) := vc_by (cj (rf w) (cj (rsizeC w) (cj (show (Wd.sizeV w == (0 : Int)) = false from by have := Wd.sizeV_pos (ok_yes h); simp; omega) (cj (rf w) (cj (rf a) (cj (rmaskC w a) (cj (rf w) (cj (rf b) (cj (rmaskC w b) (cj (show (o == (1 : Int)) = false from (beq_eq_false_iff_ne.2 (by omega))) (cj (show (o == (2 : Int)) = false from (beq_eq_false_iff_ne.2 (by omega))) (cj (show (o == (3 : Int)) = false from (beq_eq_false_iff_ne.2 (by omega))) (cj (show (o == (4 : Int)) = false from (beq_eq_false_iff_ne.2 (by omega))) (cj (show (o == (5 : Int)) = false from (beq_eq_false_iff_ne.2 (by omega))) (cj (show (o == (6 : Int)) = false from (beq_eq_false_iff_ne.2 (by omega))) (cj (show (o == (7 : Int)) = false from (beq_eq_false_iff_ne.2 (by omega))) (cj (show (o == (8 : Int)) = false from (beq_eq_false_iff_ne.2 (by omega))) (cj (show (o == (9 : Int)) = false from (beq_eq_false_iff_ne.2 (by omega))) (cj (show (o == (10 : Int)) = false from (beq_eq_false_iff_ne.2 (by omega))) (cj (show (0 : Int) = Wd.doV w o a b from (Wd.ref0 ho)) (cj (show false = Wd.doB w o from by simp [Wd.doB, Wd.opB_no ho]) trivial))))))))))))))))))))) (by kernel_rfl)
theorem do_n (w o a b : Int) (h : ¬ (1 ≤ w ∧ w ≤ 16)) : Vc (vcFn Try.prog false 51 [.int .i64 w, .int .i64 o, .int .i64 a, .int .i64 b] [oB20 w, .bd true] [] (.tup [.int .i64 (Wd.doV w o a b), .bool (Wd.doB w o)]) []) := vc_by (cj (rf w) (cj (rsizeC w) (cj (show (Wd.sizeV w == (0 : Int)) = true from by rw [sizeV_no h]; rfl) (cj (show (0 : Int) = Wd.doV w o a b from by simp [Wd.doV, Wd.maskV, ok_no h]) (cj (show false = Wd.doB w o from by simp [Wd.doB, ok_no h]) trivial))))) (by kernel_rfl)
theorem rdoC (w o a b : Int) : PureC Try.prog 51 [.int .i64 w, .int .i64 o, .int .i64 a, .int .i64 b] (.tup [.int .i64 (Wd.doV w o a b), .bool (Wd.doB w o)]) [] := by
  by_cases h : 1 ≤ w ∧ w ≤ 16
  · rcases (by omega : o = 1 ∨ o = 2 ∨ o = 3 ∨ o = 4 ∨ o = 5 ∨ o = 6 ∨ o = 7 ∨ o = 8 ∨ o = 9 ∨ o = 10 ∨ (o < 1 ∨ 10 < o)) with rfl | rfl | rfl | rfl | rfl | rfl | rfl | rfl | rfl | rfl | ho
    · exact PureC.vc (do_1 w a b h)
    · exact PureC.vc (do_2 w a b h)
    · exact PureC.vc (do_3 w a b h)
    · exact PureC.vc (do_4 w a b h)
    · exact PureC.vc (do_5 w a b h)
    · by_cases hf : w ≤ Wd.maskV w b
      · exact PureC.vc (do_6f w a b h hf)
      · exact PureC.vc (do_6 w a b h hf)
    · by_cases hf : w ≤ Wd.maskV w b
      · exact PureC.vc (do_7f w a b h hf)
      · exact PureC.vc (do_7 w a b h hf)
    · exact PureC.vc (do_8 w a b h)
    · exact PureC.vc (do_9 w a b h)
    · exact PureC.vc (do_10 w a b h)
    · exact PureC.vc (do_0 w o a b h ho)
  · exact PureC.vc (do_n w o a b h)
theorem rat_in (p : Pg) (pc : Int) (h0 : 0 ≤ pc) (h1 : pc < p.is.length) : Vc (vcFn Try.prog false 29 [.agg (pgA p), .int .i64 pc] [.fz, .bd false, .bd false] [] (.agg (inA (p.is.getD pc.toNat default))) []) := vc_by (cj (df (pc < 0)) (cj (df (pc ≥ (↑p.is.length : Int))) (cj (bi pc (↑p.is.length : Int)) (cj (rf ((p.is.getD (Int.toNat pc) default).kind)) (cj (rf ((p.is.getD (Int.toNat pc) default).op)) (cj (rf ((p.is.getD (Int.toNat pc) default).d)) (cj (rf ((p.is.getD (Int.toNat pc) default).a.reg)) (cj (rf ((p.is.getD (Int.toNat pc) default).a.n)) (cj (rf ((p.is.getD (Int.toNat pc) default).b.reg)) (cj (rf ((p.is.getD (Int.toNat pc) default).b.n)) (cj (rf ((p.is.getD (Int.toNat pc) default).nm)) (cj (rf ((p.is.getD (Int.toNat pc) default).tg)) trivial)))))))))))) (by kernel_rfl)
theorem zB20  {Z : Prop} (z : Z) : (RF (12 : Int) (RF (0 : Int) (RF (0 : Int) (RF false (RF (0 : Int) (RF false (RF (0 : Int) (RF (ByteArray.mk (Array.mk [])) (RF (0 : Int) Z))))))))) := ⟨rfl, rfl, rfl, rfl, rfl, rfl, rfl, rfl, rfl, z⟩
theorem rat_neg (p : Pg) (pc : Int) (h0 : ¬ 0 ≤ pc) : Vc (vcFn Try.prog false 29 [.agg (pgA p), .int .i64 pc] [.fz, .bd true] [] (.agg (inA { In0 with kind := 12 })) []) := vc_by (cj (dt (pc < 0)) (zB20 trivial)) (by kernel_rfl)
theorem rat_out (p : Pg) (pc : Int) (h0 : 0 ≤ pc) (h1 : ¬ pc < p.is.length) : Vc (vcFn Try.prog false 29 [.agg (pgA p), .int .i64 pc] [.fz, .bd false, .bd true] [] (.agg (inA { In0 with kind := 12 })) []) := vc_by (cj (df (pc < 0)) (cj (dt (pc ≥ (↑p.is.length : Int))) (zB20 trivial))) (by kernel_rfl)
theorem ratC (p : Pg) (pc : Int) : PureC Try.prog 29 [.agg (pgA p), .int .i64 pc] (.agg (inA (atI p pc))) [] := by
  by_cases h0 : 0 ≤ pc
  · by_cases h1 : pc < p.is.length
    · rw [atI_in h0 h1]; exact PureC.vc (rat_in p pc h0 h1)
    · rw [atI_out fun h => h1 h.2]; exact PureC.vc (rat_out p pc h0 h1)
  · rw [atI_out fun h => h0 h.1]; exact PureC.vc (rat_neg p pc h0)
end
end Go.Proofs.Ytgcedepjlgfcjaa.Px
namespace Go.Proofs.Ytgcedepjlgfcjaa.Px
section
open Go.RowKit Go.Proofs.Ytgcedepjlgfcjaa.Rx
structure En where
  pc : Int
  val : Int
  adr : Int
  frm : Int
  nxt : Int
  dn : Bool
  kn : Bool
  ft : Bool
  deriving DecidableEq
def En0 : En := ⟨0, 0, 0, 0, 0, false, false, false⟩
instance : Inhabited En := ⟨En0⟩
/-- an Ent's cells -/
def enA (e : En) : List AV := [.int .i64 e.pc, .int .i64 e.val, .int .i64 e.adr, .int .i64 e.frm, .int .i64 e.nxt, .bool e.dn, .bool e.kn, .bool e.ft]
def enC (e : En) (j : Nat) : AV := (enA e).getD j .junk
def enR (l : List En) : AV := .row 8 l.length (rowL enC l)
def enB (l : List En) : Blk := ⟨0, false, 41, .rows 8 l.length (rowL enC l)⟩
def enO (l : List En) : AV := .own 0 0 8 0 l.length
end
end Go.Proofs.Ytgcedepjlgfcjaa.Px
namespace Go.Proofs.Ytgcedepjlgfcjaa.Px
section
open Go.RowKit Go.Proofs.Ytgcedepjlgfcjaa.Rx
theorem rowL_take {l : List En} {k i j : Nat} (h : i < k) : rowL enC l i j = rowL enC (l.take k) i j := by
  unfold rowL
  rw [List.getD_eq_getElem?_getD, List.getD_eq_getElem?_getD, List.getElem?_take, if_pos h]
theorem take_get {l : List En} {c j : Nat} (h : j < c) : (l.take c).getD j default = l.getD j default := by
  rw [List.getD_eq_getElem?_getD, List.getD_eq_getElem?_getD, List.getElem?_take, if_pos h]
theorem at_in (p : Pg) (pc : Int) (h0 : 0 ≤ pc) (h1 : pc < p.is.length) : Vc (vcFn Try.prog false 32 [.agg (pgA p), .int .i64 pc] [.fz, .bd false, .bd false] [] (.agg (inA (p.is.getD pc.toNat default))) []) := vc_by (cj (df (pc < 0)) (cj (df (pc ≥ (↑p.is.length : Int))) (cj (bi pc (↑p.is.length : Int)) (cj (rf ((p.is.getD (Int.toNat pc) default).kind)) (cj (rf ((p.is.getD (Int.toNat pc) default).op)) (cj (rf ((p.is.getD (Int.toNat pc) default).d)) (cj (rf ((p.is.getD (Int.toNat pc) default).a.reg)) (cj (rf ((p.is.getD (Int.toNat pc) default).a.n)) (cj (rf ((p.is.getD (Int.toNat pc) default).b.reg)) (cj (rf ((p.is.getD (Int.toNat pc) default).b.n)) (cj (rf ((p.is.getD (Int.toNat pc) default).nm)) (cj (rf ((p.is.getD (Int.toNat pc) default).tg)) trivial)))))))))))) (by kernel_rfl)
theorem zL00  {Z : Prop} (z : Z) : (RF (12 : Int) (RF (0 : Int) (RF (0 : Int) (RF false (RF (0 : Int) (RF false (RF (0 : Int) (RF (ByteArray.mk (Array.mk [])) (RF (0 : Int) Z))))))))) := ⟨rfl, rfl, rfl, rfl, rfl, rfl, rfl, rfl, rfl, z⟩
theorem at_neg (p : Pg) (pc : Int) (h0 : ¬ 0 ≤ pc) : Vc (vcFn Try.prog false 32 [.agg (pgA p), .int .i64 pc] [.fz, .bd true] [] (.agg (inA { In0 with kind := 12 })) []) := vc_by (cj (dt (pc < 0)) (zL00 trivial)) (by kernel_rfl)
theorem at_out (p : Pg) (pc : Int) (h0 : 0 ≤ pc) (h1 : ¬ pc < p.is.length) : Vc (vcFn Try.prog false 32 [.agg (pgA p), .int .i64 pc] [.fz, .bd false, .bd true] [] (.agg (inA { In0 with kind := 12 })) []) := vc_by (cj (df (pc < 0)) (cj (dt (pc ≥ (↑p.is.length : Int))) (zL00 trivial))) (by kernel_rfl)
theorem atC (p : Pg) (pc : Int) : PureC Try.prog 32 [.agg (pgA p), .int .i64 pc] (.agg (inA (atI p pc))) [] := by
  by_cases h0 : 0 ≤ pc
  · by_cases h1 : pc < p.is.length
    · rw [atI_in h0 h1]; exact PureC.vc (at_in p pc h0 h1)
    · rw [atI_out fun h => h1 h.2]; exact PureC.vc (at_out p pc h0 h1)
  · rw [atI_out fun h => h0 h.1]; exact PureC.vc (at_neg p pc h0)
theorem cut_vc (l : List En) (n : Int) (k : Nat) (hE : (if (l.length : Int) < (if n < 0 then 0 else n) then (l.length : Int) else (if n < 0 then 0 else n)) = (k : Int)) (hkl : k ≤ l.length) (hb : l.length < 1000000) : Vc (vcFn Try.prog false 19 [enR l, .int .i64 n] [] [(0, 0)] (.own 0 0 8 0 (l.take k).length) [enB (l.take k)]) := vc_by (cj (show ((0 : Int) ≤ if (l.length : Int) < if n < 0 then (0 : Int) else n then (l.length : Int) else if n < 0 then (0 : Int) else n) ∧ (if (l.length : Int) < if n < 0 then (0 : Int) else n then (l.length : Int) else if n < 0 then (0 : Int) else n) ≤ (l.length : Int) from by rw [hE]; omega) (cj (show Int.toNat (if (l.length : Int) < if n < 0 then (0 : Int) else n then (l.length : Int) else if n < 0 then (0 : Int) else n) * 48 ≤ 140737488355328 ∧ Int.toNat (if (l.length : Int) < if n < 0 then (0 : Int) else n then (l.length : Int) else if n < 0 then (0 : Int) else n) ≤ 140737488355328 from by rw [hE, Int.toNat_natCast]; omega) (cj (show Int.toNat (if (l.length : Int) < if n < 0 then (0 : Int) else n then (l.length : Int) else if n < 0 then (0 : Int) else n) = (List.take k l).length from by rw [hE, List.length_take, Int.toNat_natCast]; omega) (cj (show ∀ (i : Nat), i < Int.toNat (if (l.length : Int) < if n < 0 then (0 : Int) else n then (l.length : Int) else if n < 0 then (0 : Int) else n) → ∀ (j : Nat), j < 8 → rowL enC l i j = rowL enC (List.take k l) i j from (fun i hi j hj => by rw [hE, Int.toNat_natCast] at hi; exact rowL_take hi)) (cj (rf (0 : Nat)) (cj (show Int.toNat (if (l.length : Int) < if n < 0 then (0 : Int) else n then (l.length : Int) else if n < 0 then (0 : Int) else n) = (List.take k l).length from by rw [hE, List.length_take, Int.toNat_natCast]; omega) trivial)))))) (by kernel_rfl)
theorem cutC (l : List En) (n : Int) (k : Nat) (hk : (k : Int) = min (max n 0) (l.length : Int)) (hb : l.length < 1000000) : PureC Try.prog 19 [enR l, .int .i64 n] (.own 0 0 8 0 (l.take k).length) [enB (l.take k)] := by
  refine PureC.vc (cut_vc l n k ?_ (by omega) hb)
  rw [hk]
  repeat' split
  all_goals omega
theorem cutF (l : List En) (n : Int) (k : Nat) (hk : (k : Int) = min (max n 0) (l.length : Int)) (hb : l.length < 1000000) : PureC Try.prog 19 [enR l, .int .i64 n] (enR (l.take k)) [] := (cutC l n k hk hb).frozen
end
end Go.Proofs.Ytgcedepjlgfcjaa.Px
namespace Go.Proofs.Ytgcedepjlgfcjaa
section
open Go.RowKit
/-- it answers v, and the world is as it was -/
def Ret (v : Value) (w : World) (e : Ending) (w' : World) : Prop := e = .returned v ∧ w = w'
theorem Ret.mk {v v' : Value} {w : World} (h : v' = v) : Ret v w (.returned v') w := ⟨by rw [h], rfl⟩
theorem Ret.b {X : Value} {a a' : Bool} {w : World} (hx : X = .bool a') (h : a' = a) : Ret (.bool a) w (.returned X) w := ⟨by rw [hx, h], rfl⟩
theorem Ret.i {X : Value} {k : IntKind} {a a' : Int} {w : World} (hx : X = .int k a') (h : a' = a) : Ret (.int k a) w (.returned X) w := ⟨by rw [hx, h], rfl⟩

theorem infoI : (Try.prog.info? 3).map (fun i => (i.zero, i.size, i.bytes)) = some (some (.int .i64 0), 1, 8) := by kernel_rfl
end
end Go.Proofs.Ytgcedepjlgfcjaa
namespace Go.Proofs.Ytgcedepjlgfcjaa
section
open Go.RowKit
theorem grow_own (w : World) (n cap : Nat) (h0 : n ≤ cap) (hc : cap ≤ maxLen) : (w.drew.alloc (.cells (Builtin.zeroCells #[.int .i64 0] n ++ Builtin.zeroCells #[.int .i64 0] (cap - n)) 3)).ownsRow w.heap.size 3 1 (.slice (some ⟨w.heap.size, 0, none⟩) 0 cap) 0 [] := by
  refine ⟨rfl, .inr ⟨w.heap.size, cap, Builtin.zeroCells #[.int .i64 0] n ++ Builtin.zeroCells #[.int .i64 0] (cap - n), rfl, Nat.le_refl _, ?_, by omega, hc, ?_, by simp⟩⟩
  · exact heap_alloc_new w.drew _
  · simp [Builtin.zeroCells]; omega
set_option maxHeartbeats 2000000 in
theorem grow_any (n : Nat) (w : World) (h0 : 0 < n) (hn : n ≤ 1000000) :
    Calls Try.prog 30 #[.slice none 0 0, .int .i64 n] w (fun e w' => ∃ v, e = .returned v ∧ w'.ownsRow w.heap.size 3 1 v 0 [] ∧ Below w.heap.size w w') := by
  obtain ⟨i0, hi0, hz0, hs0, hb0⟩ := info_parts infoI
  have hrun := Lib.run_append_nil_zeros (P := Try.prog) w 22 3 22 3 i0 (.int .i64 0) .i64 .i64 rfl rfl hi0 hz0 n h0 (by omega) (by omega) (by rw [hb0]; omega)
  have hge := grownCap_ge w n 0 3
  have hle := grownCap_le_maxLen w n 0 3 (by simp only [maxLen]; omega)
  go_enter Try.func30, Try.ntmps30
  go_wp2_with (at_builtin; refine Lib.wpList_append_run _ rfl _ _ _ _ rfl _ _ rfl rfl _ _ hrun ?_)
  go_ret
  refine ⟨_, rfl, ?_, ?_⟩
  · exact grow_own w n _ hge hle
  · exact upA (upD (up0 w) 1) _
/-- a slice of numbers: where it lies, its capacity, what it reads as -/
abbrev Part := Option Addr × Nat × List Int
def Part.v (p : Part) : Value := .slice p.1 p.2.2.length p.2.1
def tot : List Part → Nat
  | [] => 0
  | p :: l => p.2.2.length + tot l
def allP : List Part → List Int
  | [] => []
  | p :: l => p.2.2 ++ allP l
def pd : Part := (none, 0, [])
theorem tot_take {l : List Part} {k : Nat} (h : k < l.length) : tot (l.take (k + 1)) = tot (l.take k) + (l.getD k pd).2.2.length := by
  induction l generalizing k with
  | nil => simp at h
  | cons p l ih =>
    cases k with
    | zero => simp [tot]
    | succ k =>
      have := ih (k := k) (by simpa using h)
      simp only [List.take_succ_cons, tot, this, List.getD_cons_succ]
      omega
theorem allP_take {l : List Part} {k : Nat} (h : k < l.length) : allP (l.take (k + 1)) = allP (l.take k) ++ (l.getD k pd).2.2 := by
  induction l generalizing k with
  | nil => simp at h
  | cons p l ih =>
    cases k with
    | zero => simp [allP]
    | succ k =>
      have := ih (k := k) (by simpa using h)
      simp only [List.take_succ_cons, allP, this, List.getD_cons_succ, List.append_assoc]
theorem tot_le (l : List Part) (k : Nat) : tot (l.take k) ≤ tot l := by
  induction l generalizing k with
  | nil => simp
  | cons p l ih =>
    cases k with
    | zero => simp [tot]
    | succ k => simp only [List.take_succ_cons, tot]; have := ih k; omega
theorem allP_len (l : List Part) : (allP l).length = tot l := by
  induction l with
  | nil => rfl
  | cons p l ih => simp [allP, tot, ih]
theorem part_at {w : World} {B : Nat} {A : Option Addr} {l : List Part} (h : Rd w B A (l.map Part.v)) {k : Nat} (hk : k < l.length) :
    ∃ ad, A = some ad ∧ ad.block < B ∧ w.cell? (ad.add k) = some (.slice (l.getD k pd).1 (l.getD k pd).2.2.length (l.getD k pd).2.1) := by
  obtain ⟨ad, e, hb, hc⟩ := h (by simp; omega)
  refine ⟨ad, e, hb, hc k _ ?_⟩
  simp [List.getD, hk, Part.v]
set_option maxHeartbeats 2000000 in
theorem concat_any (A : Option Addr) (n c : Nat) (l : List Part) (w : World) (hn : n = l.length) (hr : Rd w w.heap.size A (l.map Part.v)) (hp : ∀ k, k < l.length → Rd w w.heap.size (l.getD k pd).1 ((l.getD k pd).2.2.map (Value.int .i64))) (h0 : 0 < tot l) (ht : tot l ≤ 1000000) (hl : l.length ≤ 1000) :
    Calls Try.prog 17 #[.slice A n c] w (RetOwn w.heap.size 3 ((allP l).map (Value.int .i64)) w) := by
  subst hn
  obtain ⟨i0, hi0, hz0, hs0, hb0⟩ := info_parts infoI
  go_enter Try.func17, Try.ntmps17
  go_wp2_with fail
  go_loopw [3, 11] (fun s i wr => ∃ k : Nat, k ≤ l.length ∧ i = .int .i64 k ∧ s = .int .i64 (tot (l.take k) : Nat) ∧ w = wr) (fun _ i _ => l.length - (intOf i).toNat)
  case atStart => exact ⟨0, by omega, rfl, rfl, rfl⟩
  case round =>
    obtain ⟨k, hk, rfl, rfl, rfl⟩ := hrel
    by_cases hlt : k < l.length
    · obtain ⟨ad, rfl, hb, hc⟩ := part_at hr hlt
      have h1 := tot_take hlt
      have h2 := tot_le l (k + 1)
      obtain ⟨⟨pa, pc, px⟩, hpd⟩ : ∃ p, l.getD k pd = p := ⟨_, rfl⟩
      rw [hpd] at hc h1
      simp only at hc h1
      clear hpd
      go_wp2_with fail
      go_round
      case rel =>
        refine ⟨k + 1, by omega, by go_num, ?_, by first | rfl | trivial⟩
        rw [h1]; go_num
      case measure => simp [intOf]; omega
    · obtain rfl : k = l.length := by omega
      rw [List.take_length]
      go_wp2_with (go_at_call 30; refine (grow_any _ _ h0 ht).mono ?_; rintro e w1 ⟨v1, rfl, hown1, hb1⟩)
      go_loopw [6, 27] (fun v i wr => ∃ k : Nat, k ≤ l.length ∧ i = .int .i64 k ∧ wr.ownsRow w.heap.size 3 1 v (tot (l.take k)) ((allP (l.take k)).map (Value.int .i64)) ∧ Below w.heap.size w wr) (fun _ i _ => l.length - (intOf i).toNat)
      case atStart => exact ⟨0, by omega, rfl, by simpa [tot, allP] using hown1, hb1⟩
      case round =>
        obtain ⟨k, hk, rfl, hown2, hb2⟩ := hrel
        have hs2 := hb2.size
        by_cases hlt : k < l.length
        · obtain ⟨ad, rfl, hb, hc⟩ := part_at (hr.below hb2 (Nat.le_refl _)) hlt
          have hrk := (hp k hlt).below hb2 (Nat.le_refl _)
          have h1 := tot_take hlt
          have h2 := tot_le l (k + 1)
          have h3 := allP_take hlt
          obtain ⟨⟨pa, pc, px⟩, hpd⟩ : ∃ p, l.getD k pd = p := ⟨_, rfl⟩
          rw [hpd] at hc h1 hrk h3
          simp only at hc h1 hrk h3
          have HA := Lib.hid h3
          clear hpd h3
          go_wp2_with (at_builtin; refine wp_appR _ rfl (.tmp 31) (.tmp 32) _ rfl w.heap.size 3 i0 _ 8 Try.underlying22 hi0 hz0 hs0 hb0 rfl _ _ _ rfl hown2 w.heap.size _ _ _ _ rfl (by rw [List.length_map]) hrk (ints_one _ _) (by omega) (by omega) hs2 ?_; intro v3 w3 hown3 hb3)
          go_round
          case rel =>
            refine ⟨k + 1, by omega, by go_num, ?_, hb2.trans hb3⟩
            rw [h1, HA.out, List.map_append]
            exact hown3
          case measure => simp [intOf]; omega
        · obtain rfl : k = l.length := by omega
          go_wp2
          go_ret
          rw [List.take_length] at hown2
          refine ⟨_, rfl, ?_, hb2⟩
          rw [List.length_map, allP_len]
          exact hown2
set_option maxHeartbeats 2000000 in
theorem clone_any (A : Option Addr) (n c : Nat) (xs : List Int) (w : World) (hn : n = xs.length) (hr : Rd w w.heap.size A (xs.map (Value.int .i64))) (hs : n ≤ 1000000) :
    Calls Try.prog 18 #[.slice A n c] w (RetOwn w.heap.size 3 (xs.map (Value.int .i64)) w) := by
  subst hn
  obtain ⟨i0, hi0, hz0, hs0, hb0⟩ := info_parts infoI
  cases A with
  | none =>
    have hx : xs = [] := by have := hr.none_nil; simpa using this
    subst hx
    have he : ∀ w : World, (binOp .eql 22 (.slice none 0 c) (.slice none 0 0)).run Try.prog w = .ok (.bool true) w := fun _ => rfl
    go_enter Try.func18, Try.ntmps18
    go_wp2_with fail
    go_ret
    exact ⟨_, rfl, World.ownsRow_nil _ _ _ _, up0 _⟩
  | some ad =>
    have hlit := own_lit1 w 3 _ rfl
    have he : ∀ w : World, (binOp .eql 22 (.slice (some ad) xs.length c) (.slice none 0 0)).run Try.prog w = .ok (.bool false) w := fun _ => rfl
    go_enter Try.func18, Try.ntmps18
    go_wp2_with (at_builtin; refine wp_appR _ rfl (.tmp 5) (.tmp 6) _ rfl w.heap.size 3 i0 _ 8 Try.underlying22 hi0 hz0 hs0 hb0 rfl _ 0 [] rfl hlit (w.alloc (.cells #[] 3)).heap.size (some ad) xs.length c (xs.map (Value.int .i64)) rfl (by simp) (hr.allocT _) (ints_one _ _) (by omega) (by omega) (by simp) ?_; intro v1 w1 hown1 hb1)
    go_ret
    refine ⟨_, rfl, ?_, (upA (up0 w) _).trans hb1⟩
    have := own_zero hown1
    rwa [List.length_map]
end
end Go.Proofs.Ytgcedepjlgfcjaa
namespace Go.Proofs.Ytgcedepjlgfcjaa.Px
section
open Go.RowKit Go.Proofs.Ytgcedepjlgfcjaa.Rx
/-- a slice that reads as these numbers -/
def PartOk (a : AV) (l : List Int) : Prop := (a = .nils ∧ l = []) ∨ ∃ g, a = .row 1 l.length g ∧ ∀ i, i < l.length → g i 0 = .int .i64 (l.getD i 0)
theorem PartOk.nil : PartOk .nils [] := .inl ⟨rfl, rfl⟩
theorem PartOk.row (l : List Int) : PartOk (.row 1 l.length (rowI l)) l := .inr ⟨_, rfl, fun _ _ => rfl⟩
theorem PartOk.rep {w : World} {R : Nat → Prop} {a : AV} {l : List Int} {v : Value} (h : PartOk a l) (hr : RepP w R a v) (hR : ∀ g, R g → g < w.heap.size) : ∃ A c, v = .slice A l.length c ∧ Rd w w.heap.size A (l.map (Value.int .i64)) := by
  rcases h with ⟨rfl, rfl⟩ | ⟨g, rfl, hg⟩
  · cases hr with
    | nils => exact ⟨none, 0, rfl, Rd.nil⟩
  · obtain ⟨A, c, e, _, _, h⟩ := hr.ints hR rfl hg
    exact ⟨A, c, e, h⟩
theorem one_arg {args : List AV} {vs : Array Value} {a : AV} (h : args = [a]) (hl : args.length = vs.size) {w : World} {R : Nat → Prop} (ha : ∀ (j : Nat) a v, args[j]? = some a → vs[j]? = some v → RepP w R a v) : ∃ v, vs = #[v] ∧ RepP w R a v := by
  subst h
  obtain ⟨vs⟩ := vs
  match vs, hl with
  | [v], _ => exact ⟨v, rfl, ha 0 a v rfl rfl⟩
theorem cloneC {a : AV} {l : List Int} (h : PartOk a l) (hl : l.length ≤ 1000000) : PureC Try.prog 18 [a] (.own 0 0 1 0 l.length) [blkI l] :=
  PureC.ofOwn (k := .i64) (l := l) rfl (fun _ _ => rfl) fun w R vs hR hn ha => by
    obtain ⟨v, rfl, hv⟩ := one_arg rfl hn ha
    obtain ⟨A, c, rfl, hr⟩ := h.rep hv hR
    exact clone_any A _ c l w rfl hr hl
def partV : Value → Option Addr × Nat
  | .slice A _ c => (A, c)
  | _ => (none, 0)
theorem allP_flat (l : List Part) : allP l = (l.map (·.2.2)).flatten := by
  induction l with
  | nil => rfl
  | cons p l ih => simp [allP, ih]
theorem concatC {f : Nat → Nat → AV} {L : List (List Int)} (h : ∀ i, i < L.length → PartOk (f i 0) (L.getD i [])) (h0 : 0 < L.flatten.length) (ht : L.flatten.length ≤ 1000000) (hL : L.length ≤ 1000) :
    PureC Try.prog 17 [.row 1 L.length f] (.own 0 0 1 0 L.flatten.length) [blkI L.flatten] :=
  PureC.ofOwn (k := .i64) (l := L.flatten) rfl (fun _ _ => rfl) fun w R vs hR hn ha => by
    obtain ⟨v, rfl, hv⟩ := one_arg rfl hn ha
    cases hv with
    | row A cap u hnc hc hA h1 hu =>
      let l : List Part := (List.range L.length).map fun i => ((partV (u i 0)).1, (partV (u i 0)).2, L.getD i [])
      have hll : l.length = L.length := by simp [l]
      have hfl : l.map (·.2.2) = L := by
        apply List.ext_getElem (by simp [l])
        intro i h1 h2
        simp [l, List.getD, h2]
      have hall : allP l = L.flatten := by rw [allP_flat, hfl]
      have hpt : ∀ i, i < L.length → l.getD i pd = ((partV (u i 0)).1, (partV (u i 0)).2, L.getD i []) := fun i hi => by
        simp [l, List.getD, hi]
      have hui : ∀ i, i < L.length → u i 0 = Part.v (l.getD i pd) ∧ Rd w w.heap.size (l.getD i pd).1 ((l.getD i pd).2.2.map (Value.int .i64)) := fun i hi => by
        obtain ⟨A', c', e, hr⟩ := (h i hi).rep (hu i hi 0 (by omega)) hR
        rw [hpt i hi, e]
        exact ⟨rfl, hr⟩
      have htot : tot l = L.flatten.length := by rw [← allP_len, hall]
      rw [← hall]
      refine concat_any A _ cap l w hll.symm (fun hl => ?_) (fun i hi => (hui i (by omega)).2) (by omega) (by omega) (by omega)
      rw [List.length_map, hll] at hl
      obtain ⟨g, o, rfl, hg, hcell⟩ := hA (by omega)
      refine ⟨⟨g, o, none⟩, rfl, hR g hg, fun j x hx => ?_⟩
      have hj : j < L.length := by
        have := (List.getElem?_eq_some_iff.1 hx).1
        simpa [hll] using this
      rw [show Addr.add ⟨g, o, none⟩ j = ⟨g, o + j, none⟩ from adr_mk g o j]
      have h4 := hcell j hj 0 (by omega)
      rw [show o + (j * 1 + 0) = o + j by omega] at h4
      rw [h4, (hui j hj).1]
      rw [List.getElem?_map, List.getElem?_eq_getElem (by omega), Option.map_some, Option.some.injEq] at hx
      rw [← hx]
      simp [List.getD, hj, hll]
theorem cloneF (l : List Int) (hl : l.length ≤ 1000000) : PureC Try.prog 18 [lR l] (lR l) [] := (cloneC (.row l) hl).frozen
def ac (ms : List Mm) (s : Nat) (k : Nat) : Sm := ⟨[(8, .int .i64 ms.length), (7, memR ms), (9, .int .i64 k), (3, .int .i64 s)], [], 0⟩
theorem ac_step (ms : List Mm) (s k : Nat) (hk : k < ms.length) (h64 : ms.length < 4611686018427387904) (hs : s + (ms.getD k default).n ≤ 16) : Vc (vcC Try.prog false (ntOf Try.prog 56) (lpC Try.prog 56 0) (ac ms s k) [.b true] .nrm [] (ac ms (s + (ms.getD k default).n) (k + 1))) := vc_by (cj (dt ((k : Int) < (ms.length : Int))) (cj (bi (k : Int) (ms.length : Int)) (cj (i6 ((16 : Int) - (s : Int))) (cj (i6 ((s : Int) + if (16 : Int) - (s : Int) < if (↑((ms.getD k default).n) : Int) < 0 then (0 : Int) else (↑((ms.getD k default).n) : Int) then (16 : Int) - (s : Int) else if (↑((ms.getD k default).n) : Int) < 0 then (0 : Int) else (↑((ms.getD k default).n) : Int))) (cj (i6 ((k : Int) + 1)) (cj (rf (ms.length : Int)) (cj (rf ms.length) (cj (rr ms.length 3 fun i j => rowL mmC ms i j) (cj (rf ((k : Int) + 1)) (cj (pv (((s : Int) + if (16 : Int) - (s : Int) < if (↑((ms.getD k default).n) : Int) < 0 then (0 : Int) else (↑((ms.getD k default).n) : Int) then (16 : Int) - (s : Int) else if (↑((ms.getD k default).n) : Int) < 0 then (0 : Int) else (↑((ms.getD k default).n) : Int)) = (↑(s + (ms.getD k default).n) : Int))) trivial)))))))))) (by kernel_rfl)
theorem ac_end (ms : List Mm) (s : Nat) : Vc (vcC Try.prog false (ntOf Try.prog 56) (lpC Try.prog 56 0) (ac ms s ms.length) [.b false] (.ext 0) [] (ac ms s ms.length)) := vc_by (cj (df ((ms.length : Int) < (ms.length : Int))) (cj (rf (ms.length : Int)) (cj (rf ms.length) (cj (rr ms.length 3 fun i j => rowL mmC ms i j) (cj (rf (ms.length : Int)) (cj (rf (s : Int)) trivial)))))) (by kernel_rfl)
theorem ac_loop (ms : List Mm) (h64 : ms.length < 4611686018427387904) (hs : sumN ms ≤ 16) : Ok Try.prog (ntOf Try.prog 56) (.loop (lpC Try.prog 56 0)) (ac ms 0 0).st (.ext 0) (ac ms (sumN ms) ms.length).st := by
  have := Ok.loop (P := Try.prog) (nt := ntOf Try.prog 56) (c := lpC Try.prog 56 0) (F := fun k => ac ms (sumN (ms.take k)) k) (m := ms.length) (x := .ext 0) (J := ac ms (sumN ms) ms.length) (fun k hk => by
    have h1 := sumN_take hk
    have h2 := sumN_take_le ms (k + 1)
    show Ok _ _ _ _ _ (ac ms (sumN (ms.take (k + 1))) (k + 1)).st
    rw [h1]
    exact Ok.vc (ac_step ms _ k hk h64 (by omega))) (by
    show Ok _ _ _ (ac ms (sumN (ms.take ms.length)) ms.length).st _ _
    rw [List.take_length]
    exact Ok.vc (ac_end ms _)) (by simp)
  simpa [sumN] using this
theorem acc_vc (W r0 r1 r2 r3 : Int) (ms : List Mm) (h64 : ms.length < 4611686018427387904) (hs : sumN ms ≤ 16) : Vc (vcFn Try.prog false 56 [.agg (progL W r0 r1 r2 r3 (memR ms))] [.lp [] (ac ms 0 0) (.ext 0) (ac ms (sumN ms) ms.length)] [] (.int .i64 (sumN ms)) []) := vc_by (cj (rf (ms.length : Int)) (cj (rf ms.length) (cj (rr ms.length 3 fun i j => rowL mmC ms i j) (cj (rf (0 : Int)) (cj (rf (0 : Int)) (cj (ac_loop ms h64 hs) (cj (rf (↑(sumN ms) : Int)) trivial))))))) (by kernel_rfl)
theorem archCells (W r0 r1 r2 r3 : Int) (ms : List Mm) (h64 : ms.length < 4611686018427387904) (hs : sumN ms ≤ 16) : PureC Try.prog 56 [.agg (progL W r0 r1 r2 r3 (memR ms))] (.int .i64 (sumN ms)) [] := PureC.vc (acc_vc W r0 r1 r2 r3 ms h64 hs)
end
end Go.Proofs.Ytgcedepjlgfcjaa.Px
namespace Go.Proofs.Ytgcedepjlgfcjaa.Px
section
open Go.RowKit Go.Proofs.Ytgcedepjlgfcjaa.Rx
/-- a machine -/
structure Cf where
  s : S8
  b : List En
  r : List Int
  e : Int
def rgA (s : S8) : List AV := [.int .i64 s.r0, .int .i64 s.r1, .int .i64 s.r2, .int .i64 s.r3]
def rgP (s : S8) : AV := .rptr 4 (fun q => (rgA s).getD q .junk) 0
def dstB (i : In) : Bool := i.kind == 1 || i.kind == 2 || i.kind == 4
/-- the instruction of one that is under way -/
def enI (p : Pg) (l : List En) (k : Nat) : In := atI p (l.getD k default).pc
def regF (p : Pg) (l : List En) (r : Int) : Nat → Option (Int × Bool)
  | 0 => none
  | k + 1 => if dstB (enI p l k) = true ∧ (enI p l k).d = r then some (if (l.getD k default).dn then ((l.getD k default).val, true) else (0, false)) else regF p l r k
/-- how many stand ahead of a place -/
def cl0 (i : Int) (n : Nat) : Nat := (min (max i 0) (n : Int)).toNat
def regV (p : Pg) (s : S8) (l : List En) (i r : Int) : Int × Bool := if 0 ≤ r ∧ r < 4 then (match regF p l r (cl0 i l.length) with | some x => x | none => (s.reg r, true)) else (0, false)
def valF (p : Pg) (s : S8) (l : List En) (i : Int) (v : Vl) : Int × Bool := if v.reg then regV p s l i v.n else (Wd.maskV p.W v.n, true)
def blkG (p : Pg) (l : List En) : Nat → Nat → Bool
  | _, 0 => false
  | k, j + 1 => ((enI p l k).kind == 10) || blkG p l (k + 1) j
def blkV (p : Pg) (l : List En) (i : Int) : Bool := blkG p l 0 (cl0 i l.length)
def rgS (p : Pg) (s : S8) (l : List En) (r i : Int) : Sm := ⟨[(5, pgP p), (6, rgP s), (2, enR l), (4, .int .i64 r), (12, .int .i64 i), (10, .int .i64 0), (11, .bool false)], [], 0⟩
def vbS (a b : Nat) (x : Int × Bool) : Sm := ⟨[(a, .int .i64 x.1), (b, .bool x.2)], [], 0⟩
def bkS (p : Pg) (l : List En) (i : Int) (k : Nat) : Sm := ⟨[(3, pgP p), (1, enR l), (2, .int .i64 i), (7, .int .i64 k), (6, .bool false)], [], 0⟩
def bS (a : Nat) (x : Bool) : Sm := ⟨[(a, .bool x)], [], 0⟩
theorem dstB_1 {i : In} (h : i.kind = 1) : dstB i = true := by simp [dstB, h]
theorem dstB_2 {i : In} (h : i.kind = 2) : dstB i = true := by simp [dstB, h]
theorem dstB_4 {i : In} (h : i.kind = 4) : dstB i = true := by simp [dstB, h]
theorem cl0_eq (i : Int) (n : Nat) : (if (n : Int) < (if i < 0 then 0 else i) then (n : Int) else (if i < 0 then 0 else i)) = (cl0 i n : Int) := by
  unfold cl0; rw [mx0, mnI]; omega
theorem cl0_le (i : Int) (n : Nat) : cl0 i n ≤ n := by unfold cl0; omega
theorem natm1 (k : Nat) : ((k + 1 : Nat) : Int) - 1 = (k : Int) := by omega
theorem dst_1 (i : In) (h : i.kind = 1) : Vc (vcFn Try.prog false 73 [.agg (inA i)] [.fz, .bd true] [] (.tup [.int .i64 i.d, .bool true]) []) := vc_by (cj (show (i.kind == (1 : Int)) = true from by rw [h]; decide) (cj (rf i.d) (cj (rf true) trivial))) (by kernel_rfl)
theorem dst_2 (i : In) (h : i.kind = 2) : Vc (vcFn Try.prog false 73 [.agg (inA i)] [.fz, .bd false, .bd true] [] (.tup [.int .i64 i.d, .bool true]) []) := vc_by (cj (show (i.kind == (1 : Int)) = false from by rw [h]; decide) (cj (show (i.kind == (2 : Int)) = true from by rw [h]; decide) (cj (rf i.d) (cj (rf true) trivial)))) (by kernel_rfl)
theorem dst_4 (i : In) (h : i.kind = 4) : Vc (vcFn Try.prog false 73 [.agg (inA i)] [.fz, .bd false, .bd false, .bd true] [] (.tup [.int .i64 i.d, .bool true]) []) := vc_by (cj (show (i.kind == (1 : Int)) = false from by rw [h]; decide) (cj (show (i.kind == (2 : Int)) = false from by rw [h]; decide) (cj (show (i.kind == (4 : Int)) = true from by rw [h]; decide) (cj (rf i.d) (cj (rf true) trivial))))) (by kernel_rfl)
theorem dst_0 (i : In) (h1 : i.kind ≠ 1) (h2 : i.kind ≠ 2) (h4 : i.kind ≠ 4) : Vc (vcFn Try.prog false 73 [.agg (inA i)] [.fz, .bd false, .bd false, .bd false] [] (.tup [.int .i64 0, .bool false]) []) := vc_by (cj (beq_eq_false_iff_ne.2 h1) (cj (beq_eq_false_iff_ne.2 h2) (cj (beq_eq_false_iff_ne.2 h4) (cj (rf (0 : Int)) (cj (rf false) trivial))))) (by kernel_rfl)
theorem dstC_t (i : In) (h : dstB i = true) : PureC Try.prog 73 [.agg (inA i)] (.tup [.int .i64 i.d, .bool true]) [] := by
  by_cases h1 : i.kind = 1
  · exact PureC.vc (dst_1 i h1)
  · by_cases h2 : i.kind = 2
    · exact PureC.vc (dst_2 i h2)
    · by_cases h4 : i.kind = 4
      · exact PureC.vc (dst_4 i h4)
      · exfalso; simp [dstB, h1, h2, h4] at h
theorem dstC_f (i : In) (h : dstB i = false) : PureC Try.prog 73 [.agg (inA i)] (.tup [.int .i64 0, .bool false]) [] :=
  PureC.vc (dst_0 i (fun e => by rw [dstB_1 e] at h; cases h) (fun e => by rw [dstB_2 e] at h; cases h) (fun e => by rw [dstB_4 e] at h; cases h))
theorem zM10 (l : List En) (r : Int) (k : Nat) {Z : Prop} (z : Z) : (RR l.length 8 (fun i j => rowL enC l i j) (RF r (RF ((k : Int) - 1) (RF (0 : Int) (RF false Z))))) := ⟨fun _ _ _ _ => rfl, rfl, rfl, rfl, rfl, z⟩
theorem zM11 (p : Pg) (s : S8) (l : List En) {Z : Prop} (z : Z) : (RF p.ls.length (RR p.ls.length 2 (fun i j => rowL lbC p.ls i j) (RF p.is.length (RR p.is.length 9 (fun i j => rowL inC p.is i j) (RF s.r0 (RF s.r1 (RF s.r2 (RF s.r3 (RF l.length Z))))))))) := ⟨rfl, fun _ _ _ _ => rfl, rfl, fun _ _ _ _ => rfl, rfl, rfl, rfl, rfl, rfl, z⟩
theorem zM12 (p : Pg) {Z : Prop} (z : Z) : (RF p.W (RF p.win (RF p.fuel (RF p.r0 (RF p.r1 (RF p.r2 (RF p.r3 (RF p.ms.length (RR p.ms.length 3 (fun i j => rowL mmC p.ms i j) Z))))))))) := ⟨rfl, rfl, rfl, rfl, rfl, rfl, rfl, rfl, fun _ _ _ _ => rfl, z⟩
theorem zM13 (p : Pg) (l : List En) (k : Nat) {Z : Prop} (z : Z) : (RF ((enI p l k).kind) (RF ((enI p l k).op) (RF ((enI p l k).d) (RF ((enI p l k).a.reg) (RF ((enI p l k).a.n) (RF ((enI p l k).b.reg) (RF ((enI p l k).b.n) (RF ((enI p l k).nm) (RF ((enI p l k).tg) Z))))))))) := ⟨rfl, rfl, rfl, rfl, rfl, rfl, rfl, rfl, rfl, z⟩
theorem zM14 (p : Pg) (l : List En) (k : Nat) {Z : Prop} (z : Z) : (RF p.ls.length (RR p.ls.length 2 (fun i j => rowL lbC p.ls i j) (RF p.is.length (RR p.is.length 9 (fun i j => rowL inC p.is i j) (RF ((l.getD k default).pc) Z))))) := ⟨rfl, fun _ _ _ _ => rfl, rfl, fun _ _ _ _ => rfl, rfl, z⟩
abbrev oM10 (p : Pg) (l : List En) (k : Nat) : Orc := .cl [.agg (pgA p), .int .i64 (l.getD k default).pc] (.agg (inA (enI p l k))) []
theorem rg_f (p : Pg) (s : S8) (l : List En) (r : Int) (k : Nat) (hk : k < l.length) (hb : l.length < 1000000) (h : dstB (enI p l k) = false) : Vc (vcC Try.prog false (ntOf Try.prog 59) (lpC Try.prog 59 0) (rgS p s l r k) [.bd true, oM10 p l k, .cl [.agg (inA (enI p l k))] (.tup [.int .i64 0, .bool false]) []] .nrm [] (rgS p s l r ((k : Int) - 1))) := vc_by (cj (dt ((k : Int) ≥ 0)) (cj (bi (k : Int) (l.length : Int)) (zM12 p (zM14 p l k (cj (ratC p (l.getD k default).pc) (zM13 p l k (cj (dstC_f (enI p l k) h) (cj (i6 ((k : Int) - 1)) (zM12 p (zM11 p s l (zM10 l r k trivial))))))))))) (by kernel_rfl)
abbrev oM11 (p : Pg) (l : List En) (k : Nat) : Orc := .cl [.agg (inA (enI p l k))] (.tup [.int .i64 (enI p l k).d, .bool true]) []
theorem rg_o (p : Pg) (s : S8) (l : List En) (r : Int) (k : Nat) (hk : k < l.length) (hb : l.length < 1000000) (h : dstB (enI p l k) = true) (hd : ¬ (enI p l k).d = r) : Vc (vcC Try.prog false (ntOf Try.prog 59) (lpC Try.prog 59 0) (rgS p s l r k) [.bd true, oM10 p l k, oM11 p l k, .bd false] .nrm [] (rgS p s l r ((k : Int) - 1))) := vc_by (cj (dt ((k : Int) ≥ 0)) (cj (bi (k : Int) (l.length : Int)) (zM12 p (zM14 p l k (cj (ratC p (l.getD k default).pc) (zM13 p l k (cj (dstC_t (enI p l k) h) (cj (beq_eq_false_iff_ne.2 hd) (cj (i6 ((k : Int) - 1)) (zM12 p (zM11 p s l (zM10 l r k trivial)))))))))))) (by kernel_rfl)
theorem rg_d (p : Pg) (s : S8) (l : List En) (r : Int) (k : Nat) (hk : k < l.length) (hb : l.length < 1000000) (h : dstB (enI p l k) = true) (hd : (enI p l k).d = r) (hn : (l.getD k default).dn = true) : Vc (vcC Try.prog false (ntOf Try.prog 59) (lpC Try.prog 59 0) (rgS p s l r k) [.bd true, oM10 p l k, oM11 p l k, .bd true, .lv (.bool true)] .ret [] (vbS 10 11 ((l.getD k default).val, true))) := vc_by (cj (dt ((k : Int) ≥ 0)) (cj (bi (k : Int) (l.length : Int)) (zM12 p (zM14 p l k (cj (ratC p (l.getD k default).pc) (zM13 p l k (cj (dstC_t (enI p l k) h) (cj (beq_iff_eq.2 hd) (cj (bi (k : Int) (l.length : Int)) (cj (congrArg (fun b => some (AV.bool b)) hn) (cj (bi (k : Int) (l.length : Int)) (cj (rf ((l.getD k default).val)) (cj (rf true) trivial))))))))))))) (by kernel_rfl)
theorem rg_w (p : Pg) (s : S8) (l : List En) (r : Int) (k : Nat) (hk : k < l.length) (hb : l.length < 1000000) (h : dstB (enI p l k) = true) (hd : (enI p l k).d = r) (hn : (l.getD k default).dn = false) : Vc (vcC Try.prog false (ntOf Try.prog 59) (lpC Try.prog 59 0) (rgS p s l r k) [.bd true, oM10 p l k, oM11 p l k, .bd true, .lv (.bool false)] .ret [] (vbS 10 11 (0, false))) := vc_by (cj (dt ((k : Int) ≥ 0)) (cj (bi (k : Int) (l.length : Int)) (zM12 p (zM14 p l k (cj (ratC p (l.getD k default).pc) (zM13 p l k (cj (dstC_t (enI p l k) h) (cj (beq_iff_eq.2 hd) (cj (bi (k : Int) (l.length : Int)) (cj (congrArg (fun b => some (AV.bool b)) hn) (cj (rf (0 : Int)) (cj (rf false) trivial)))))))))))) (by kernel_rfl)
theorem rg_end (p : Pg) (s : S8) (l : List En) (r : Int) : Vc (vcC Try.prog false (ntOf Try.prog 59) (lpC Try.prog 59 0) (rgS p s l r (-1)) [.b false] (.ext 0) [] (rgS p s l r (-1))) := vc_by (cj (df ((-1 : Int) ≥ 0)) (zM12 p (zM11 p s l (cj (rr l.length 8 fun i j => rowL enC l i j) (cj (rf r) (cj (rf (-1 : Int)) (cj (rf (0 : Int)) (cj (rf false) trivial)))))))) (by kernel_rfl)
theorem rg_find (p : Pg) (s : S8) (l : List En) (r : Int) (hb : l.length < 1000000) (x : Int × Bool) : ∀ k, k ≤ l.length → regF p l r k = some x → OkL Try.prog (ntOf Try.prog 59) (lpC Try.prog 59 0) (rgS p s l r ((k : Int) - 1)).st .ret (vbS 10 11 x).st
  | 0, _, h => by cases h
  | k + 1, hk, h => by
    rw [natm1]
    unfold regF at h
    cases hd : dstB (enI p l k) with
    | false =>
      rw [if_neg (by rw [hd]; simp)] at h
      exact OkL.step (Ok.vc (rg_f p s l r k (by omega) hb hd)) (rg_find p s l r hb x k (by omega) h)
    | true =>
      by_cases hr : (enI p l k).d = r
      · rw [if_pos ⟨hd, hr⟩] at h
        cases hn : (l.getD k default).dn with
        | true =>
          rw [if_pos hn, Option.some.injEq] at h
          subst h
          exact OkL.exit (Ok.vc (rg_d p s l r k (by omega) hb hd hr hn)) (by simp)
        | false =>
          rw [if_neg (by rw [hn]; simp), Option.some.injEq] at h
          subst h
          exact OkL.exit (Ok.vc (rg_w p s l r k (by omega) hb hd hr hn)) (by simp)
      · rw [if_neg fun e => hr e.2] at h
        exact OkL.step (Ok.vc (rg_o p s l r k (by omega) hb hd hr)) (rg_find p s l r hb x k (by omega) h)
theorem rg_none (p : Pg) (s : S8) (l : List En) (r : Int) (hb : l.length < 1000000) : ∀ k, k ≤ l.length → regF p l r k = none → OkL Try.prog (ntOf Try.prog 59) (lpC Try.prog 59 0) (rgS p s l r ((k : Int) - 1)).st (.ext 0) (rgS p s l r (-1)).st
  | 0, _, _ => OkL.exit (Ok.vc (rg_end p s l r)) (by simp)
  | k + 1, hk, h => by
    rw [natm1]
    unfold regF at h
    cases hd : dstB (enI p l k) with
    | false =>
      rw [if_neg (by rw [hd]; simp)] at h
      exact OkL.step (Ok.vc (rg_f p s l r k (by omega) hb hd)) (rg_none p s l r hb k (by omega) h)
    | true =>
      by_cases hr : (enI p l k).d = r
      · rw [if_pos ⟨hd, hr⟩] at h; cases h
      · rw [if_neg fun e => hr e.2] at h
        exact OkL.step (Ok.vc (rg_o p s l r k (by omega) hb hd hr)) (rg_none p s l r hb k (by omega) h)
theorem sM10 (l : List En) (i : Int) (n : Nat) (hE : (if (l.length : Int) < (if i < 0 then 0 else i) then (l.length : Int) else (if i < 0 then 0 else i)) = (n : Int)) : (if (l.length : Int) < if i < 0 then (0 : Int) else i then (l.length : Int) else if i < 0 then (0 : Int) else i) - 1 = (n : Int) - 1 := by rw [hE]
theorem reg_y (p : Pg) (s : S8) (l : List En) (i r : Int) (n : Nat) (x : Int × Bool) (hE : (if (l.length : Int) < (if i < 0 then 0 else i) then (l.length : Int) else (if i < 0 then 0 else i)) = (n : Int)) (hn : n < 1000000) (h0 : 0 ≤ r) (h3 : r < 4) (h : Ok Try.prog (ntOf Try.prog 59) (.loop (lpC Try.prog 59 0)) (rgS p s l r ((n : Int) - 1)).st .ret (vbS 10 11 x).st) : Vc (vcFn Try.prog false 59 [.agg (pgA p), .agg (rgA s), enR l, .int .i64 i, .int .i64 r] [.fz, .fz, .bd false, .bd false, .lp [] (rgS p s l r ((n : Int) - 1)) .ret (vbS 10 11 x)] [] (.tup [.int .i64 x.1, .bool x.2]) []) := vc_by (cj (df (r < 0)) (cj (df (r > 3)) (cj (show inK IntKind.i64 ((if (l.length : Int) < if i < 0 then (0 : Int) else i then (l.length : Int) else if i < 0 then (0 : Int) else i) - 1) from by rw [hE]; exact in64 (by omega) (by omega)) (zM12 p (zM11 p s l (cj (rr l.length 8 fun i j => rowL enC l i j) (cj (rf r) (cj (sM10 l i n hE) (cj (rf (0 : Int)) (cj (rf false) (cj h (cj (rf (Prod.fst x)) (cj (rf (Prod.snd x)) trivial))))))))))))) (by kernel_rfl)
theorem sM11 (l : List En) (i : Int) (n : Nat) (hE : (if (l.length : Int) < (if i < 0 then 0 else i) then (l.length : Int) else (if i < 0 then 0 else i)) = (n : Int)) (hn : n < 1000000) : inK IntKind.i64 ((if (l.length : Int) < if i < 0 then (0 : Int) else i then (l.length : Int) else if i < 0 then (0 : Int) else i) - 1) := by rw [hE]; exact in64 (by omega) (by omega)
theorem reg_n0 (p : Pg) (s : S8) (l : List En) (i : Int) (n : Nat) (hE : (if (l.length : Int) < (if i < 0 then 0 else i) then (l.length : Int) else (if i < 0 then 0 else i)) = (n : Int)) (hn : n < 1000000) (h : Ok Try.prog (ntOf Try.prog 59) (.loop (lpC Try.prog 59 0)) (rgS p s l 0 ((n : Int) - 1)).st (.ext 0) (rgS p s l 0 (-1)).st) : Vc (vcFn Try.prog false 59 [.agg (pgA p), .agg (rgA s), enR l, .int .i64 i, .int .i64 0] [.fz, .fz, .bd false, .bd false, .lp [] (rgS p s l 0 ((n : Int) - 1)) (.ext 0) (rgS p s l 0 (-1))] [] (.tup [.int .i64 s.r0, .bool true]) []) := vc_by (cj (df ((0 : Int) < 0)) (cj (df ((0 : Int) > 3)) (cj (sM11 l i n hE hn) (zM12 p (zM11 p s l (cj (rr l.length 8 fun i j => rowL enC l i j) (cj (rf (0 : Int)) (cj (sM10 l i n hE) (cj (rf (0 : Int)) (cj (rf false) (cj h (cj (rf s.r0) (cj (rf true) trivial))))))))))))) (by kernel_rfl)
theorem reg_n1 (p : Pg) (s : S8) (l : List En) (i : Int) (n : Nat) (hE : (if (l.length : Int) < (if i < 0 then 0 else i) then (l.length : Int) else (if i < 0 then 0 else i)) = (n : Int)) (hn : n < 1000000) (h : Ok Try.prog (ntOf Try.prog 59) (.loop (lpC Try.prog 59 0)) (rgS p s l 1 ((n : Int) - 1)).st (.ext 0) (rgS p s l 1 (-1)).st) : Vc (vcFn Try.prog false 59 [.agg (pgA p), .agg (rgA s), enR l, .int .i64 i, .int .i64 1] [.fz, .fz, .bd false, .bd false, .lp [] (rgS p s l 1 ((n : Int) - 1)) (.ext 0) (rgS p s l 1 (-1))] [] (.tup [.int .i64 s.r1, .bool true]) []) := vc_by (cj (df ((1 : Int) < 0)) (cj (df ((1 : Int) > 3)) (cj (sM11 l i n hE hn) (zM12 p (zM11 p s l (cj (rr l.length 8 fun i j => rowL enC l i j) (cj (rf (1 : Int)) (cj (sM10 l i n hE) (cj (rf (0 : Int)) (cj (rf false) (cj h (cj (rf s.r1) (cj (rf true) trivial))))))))))))) (by kernel_rfl)
theorem reg_n2 (p : Pg) (s : S8) (l : List En) (i : Int) (n : Nat) (hE : (if (l.length : Int) < (if i < 0 then 0 else i) then (l.length : Int) else (if i < 0 then 0 else i)) = (n : Int)) (hn : n < 1000000) (h : Ok Try.prog (ntOf Try.prog 59) (.loop (lpC Try.prog 59 0)) (rgS p s l 2 ((n : Int) - 1)).st (.ext 0) (rgS p s l 2 (-1)).st) : Vc (vcFn Try.prog false 59 [.agg (pgA p), .agg (rgA s), enR l, .int .i64 i, .int .i64 2] [.fz, .fz, .bd false, .bd false, .lp [] (rgS p s l 2 ((n : Int) - 1)) (.ext 0) (rgS p s l 2 (-1))] [] (.tup [.int .i64 s.r2, .bool true]) []) := vc_by (cj (df ((2 : Int) < 0)) (cj (df ((2 : Int) > 3)) (cj (sM11 l i n hE hn) (zM12 p (zM11 p s l (cj (rr l.length 8 fun i j => rowL enC l i j) (cj (rf (2 : Int)) (cj (sM10 l i n hE) (cj (rf (0 : Int)) (cj (rf false) (cj h (cj (rf s.r2) (cj (rf true) trivial))))))))))))) (by kernel_rfl)
theorem reg_n3 (p : Pg) (s : S8) (l : List En) (i : Int) (n : Nat) (hE : (if (l.length : Int) < (if i < 0 then 0 else i) then (l.length : Int) else (if i < 0 then 0 else i)) = (n : Int)) (hn : n < 1000000) (h : Ok Try.prog (ntOf Try.prog 59) (.loop (lpC Try.prog 59 0)) (rgS p s l 3 ((n : Int) - 1)).st (.ext 0) (rgS p s l 3 (-1)).st) : Vc (vcFn Try.prog false 59 [.agg (pgA p), .agg (rgA s), enR l, .int .i64 i, .int .i64 3] [.fz, .fz, .bd false, .bd false, .lp [] (rgS p s l 3 ((n : Int) - 1)) (.ext 0) (rgS p s l 3 (-1))] [] (.tup [.int .i64 s.r3, .bool true]) []) := vc_by (cj (df ((3 : Int) < 0)) (cj (df ((3 : Int) > 3)) (cj (sM11 l i n hE hn) (zM12 p (zM11 p s l (cj (rr l.length 8 fun i j => rowL enC l i j) (cj (rf (3 : Int)) (cj (sM10 l i n hE) (cj (rf (0 : Int)) (cj (rf false) (cj h (cj (rf s.r3) (cj (rf true) trivial))))))))))))) (by kernel_rfl)
theorem reg_lo (p : Pg) (s : S8) (l : List En) (i r : Int) (h : r < 0) : Vc (vcFn Try.prog false 59 [.agg (pgA p), .agg (rgA s), enR l, .int .i64 i, .int .i64 r] [.fz, .fz, .bd true] [] (.tup [.int .i64 0, .bool false]) []) := vc_by (cj (dt (r < 0)) (cj (rf (0 : Int)) (cj (rf false) trivial))) (by kernel_rfl)
theorem reg_hi (p : Pg) (s : S8) (l : List En) (i r : Int) (h : 3 < r) : Vc (vcFn Try.prog false 59 [.agg (pgA p), .agg (rgA s), enR l, .int .i64 i, .int .i64 r] [.fz, .fz, .bd false, .bd true] [] (.tup [.int .i64 0, .bool false]) []) := vc_by (cj (df (r < 0)) (cj (dt (r > 3)) (cj (rf (0 : Int)) (cj (rf false) trivial)))) (by kernel_rfl)
theorem rregC (p : Pg) (s : S8) (l : List En) (i r : Int) (hb : l.length < 1000000) : PureC Try.prog 59 [.agg (pgA p), .agg (rgA s), enR l, .int .i64 i, .int .i64 r] (.tup [.int .i64 (regV p s l i r).1, .bool (regV p s l i r).2]) [] := by
  have hE := cl0_eq i l.length
  have hle := cl0_le i l.length
  unfold regV
  by_cases hr : 0 ≤ r ∧ r < 4
  · rw [if_pos hr]
    cases h : regF p l r (cl0 i l.length) with
    | some x => exact PureC.vc (reg_y p s l i r _ x hE (by omega) hr.1 hr.2 (rg_find p s l r hb x _ hle h).ok)
    | none =>
      have hl := (rg_none p s l r hb _ hle h).ok
      obtain ⟨h0, h1⟩ := hr
      rcases four h0 h1 with rfl | rfl | rfl | rfl
      · exact PureC.vc (reg_n0 p s l i _ hE (by omega) hl)
      · exact PureC.vc (reg_n1 p s l i _ hE (by omega) hl)
      · exact PureC.vc (reg_n2 p s l i _ hE (by omega) hl)
      · exact PureC.vc (reg_n3 p s l i _ hE (by omega) hl)
  · rw [if_neg hr]
    by_cases h0 : r < 0
    · exact PureC.vc (reg_lo p s l i r h0)
    · exact PureC.vc (reg_hi p s l i r (by omega))
theorem val_r (p : Pg) (s : S8) (l : List En) (i n : Int) (hb : l.length < 1000000) : Vc (vcFn Try.prog false 50 [.agg (pgA p), .agg (rgA s), enR l, .int .i64 i, .agg [.bool true, .int .i64 n]] [.fz, .fz, .fz, .cl [.agg (pgA p), .agg (rgA s), enR l, .int .i64 i, .int .i64 n] (.tup [.int .i64 (regV p s l i n).1, .bool (regV p s l i n).2]) []] [] (.tup [.int .i64 (regV p s l i n).1, .bool (regV p s l i n).2]) []) := vc_by (zM12 p (zM11 p s l (cj (rr l.length 8 fun i j => rowL enC l i j) (cj (rf i) (cj (rf n) (cj (rregC p s l i n hb) (cj (rf (Prod.fst (regV p s l i n))) (cj (rf (Prod.snd (regV p s l i n))) trivial)))))))) (by kernel_rfl)
theorem val_n (p : Pg) (s : S8) (l : List En) (i n : Int) : Vc (vcFn Try.prog false 50 [.agg (pgA p), .agg (rgA s), enR l, .int .i64 i, .agg [.bool false, .int .i64 n]] [.fz, .fz, .fz, .cl [.int .i64 p.W, .int .i64 n] (.int .i64 (Wd.maskV p.W n)) []] [] (.tup [.int .i64 (Wd.maskV p.W n), .bool true]) []) := vc_by (cj (rf p.W) (cj (rf n) (cj (rmaskC p.W n) (cj (rf (Wd.maskV p.W n)) (cj (rf true) trivial))))) (by kernel_rfl)
theorem rvalC (p : Pg) (s : S8) (l : List En) (i : Int) (v : Vl) (hb : l.length < 1000000) : PureC Try.prog 50 [.agg (pgA p), .agg (rgA s), enR l, .int .i64 i, .agg (vlA v)] (.tup [.int .i64 (valF p s l i v).1, .bool (valF p s l i v).2]) [] := by
  obtain ⟨b, n⟩ := v
  cases b with
  | true => exact PureC.vc (val_r p s l i n hb)
  | false => exact PureC.vc (val_n p s l i n)
theorem bk_go (p : Pg) (l : List En) (i : Int) (k : Nat) (hk : (k : Int) < i) (hl : k < l.length) (hb : l.length < 1000000) (h : ((enI p l k).kind == 10) = false) : Vc (vcC Try.prog false (ntOf Try.prog 58) (lpC Try.prog 58 0) (bkS p l i k) [.bd true, .bd true, oM10 p l k, .bd false] .nrm [] (bkS p l i (k + 1))) := vc_by (cj (dt ((k : Int) < i)) (cj (dt ((k : Int) < (l.length : Int))) (cj (bi (k : Int) (l.length : Int)) (zM12 p (zM14 p l k (cj (ratC p (l.getD k default).pc) (cj h (cj (i6 ((k : Int) + 1)) (zM12 p (cj (rf p.ls.length) (cj (rr p.ls.length 2 fun i j => rowL lbC p.ls i j) (cj (rf p.is.length) (cj (rr p.is.length 9 fun i j => rowL inC p.is i j) (cj (rf l.length) (cj (rr l.length 8 fun i j => rowL enC l i j) (cj (rf i) (cj (rf ((k : Int) + 1)) (cj (rf false) trivial)))))))))))))))))) (by kernel_rfl)
theorem bk_yes (p : Pg) (l : List En) (i : Int) (k : Nat) (hk : (k : Int) < i) (hl : k < l.length) (hb : l.length < 1000000) (h : ((enI p l k).kind == 10) = true) : Vc (vcC Try.prog false (ntOf Try.prog 58) (lpC Try.prog 58 0) (bkS p l i k) [.bd true, .bd true, oM10 p l k, .bd true] .ret [] (bS 6 true)) := vc_by (cj (dt ((k : Int) < i)) (cj (dt ((k : Int) < (l.length : Int))) (cj (bi (k : Int) (l.length : Int)) (zM12 p (zM14 p l k (cj (ratC p (l.getD k default).pc) (cj h (cj (rf true) trivial)))))))) (by kernel_rfl)
theorem zM15 (p : Pg) (l : List En) (i : Int) (k : Nat) {Z : Prop} (z : Z) : (RF p.ls.length (RR p.ls.length 2 (fun i j => rowL lbC p.ls i j) (RF p.is.length (RR p.is.length 9 (fun i j => rowL inC p.is i j) (RF l.length (RR l.length 8 (fun i j => rowL enC l i j) (RF i (RF (k : Int) (RF false Z))))))))) := ⟨rfl, fun _ _ _ _ => rfl, rfl, fun _ _ _ _ => rfl, rfl, fun _ _ _ _ => rfl, rfl, rfl, rfl, z⟩
theorem bk_i (p : Pg) (l : List En) (i : Int) (k : Nat) (hk : ¬ (k : Int) < i) : Vc (vcC Try.prog false (ntOf Try.prog 58) (lpC Try.prog 58 0) (bkS p l i k) [.bd false] (.ext 0) [] (bkS p l i k)) := vc_by (cj (df ((k : Int) < i)) (zM12 p (zM15 p l i k trivial))) (by kernel_rfl)
theorem bk_l (p : Pg) (l : List En) (i : Int) (k : Nat) (hk : (k : Int) < i) (hl : ¬ k < l.length) : Vc (vcC Try.prog false (ntOf Try.prog 58) (lpC Try.prog 58 0) (bkS p l i k) [.bd true, .bd false] (.ext 0) [] (bkS p l i k)) := vc_by (cj (dt ((k : Int) < i)) (cj (df ((k : Int) < (l.length : Int))) (zM12 p (zM15 p l i k trivial)))) (by kernel_rfl)
theorem cl0_lt {i : Int} {n k : Nat} (h : k < cl0 i n) : (k : Int) < i ∧ k < n := by unfold cl0 at h; omega
theorem cl0_end (i : Int) (n : Nat) : ¬ ((cl0 i n : Nat) : Int) < i ∨ ¬ cl0 i n < n := by unfold cl0; omega
theorem bk_t (p : Pg) (l : List En) (i : Int) (hb : l.length < 1000000) : ∀ j k, k + j = cl0 i l.length → blkG p l k j = true → OkL Try.prog (ntOf Try.prog 58) (lpC Try.prog 58 0) (bkS p l i k).st .ret (bS 6 true).st
  | 0, k, _, h => by cases h
  | j + 1, k, hk, h => by
    have hl := cl0_lt (i := i) (n := l.length) (k := k) (by omega)
    cases hc : ((enI p l k).kind == 10) with
    | true => exact OkL.exit (Ok.vc (bk_yes p l i k hl.1 hl.2 hb hc)) (by simp)
    | false =>
      unfold blkG at h
      rw [hc, Bool.false_or] at h
      exact OkL.step (Ok.vc (bk_go p l i k hl.1 hl.2 hb hc)) (bk_t p l i hb j (k + 1) (by omega) h)
theorem bk_f (p : Pg) (l : List En) (i : Int) (hb : l.length < 1000000) : ∀ j k, k + j = cl0 i l.length → blkG p l k j = false → OkL Try.prog (ntOf Try.prog 58) (lpC Try.prog 58 0) (bkS p l i k).st (.ext 0) (bkS p l i (cl0 i l.length)).st
  | 0, k, hk, h => by
    obtain rfl : k = cl0 i l.length := by omega
    rcases cl0_end i l.length with h1 | h1
    · exact OkL.exit (Ok.vc (bk_i p l i _ h1)) (by simp)
    · by_cases h2 : ((cl0 i l.length : Nat) : Int) < i
      · exact OkL.exit (Ok.vc (bk_l p l i _ h2 h1)) (by simp)
      · exact OkL.exit (Ok.vc (bk_i p l i _ h2)) (by simp)
  | j + 1, k, hk, h => by
    have hl := cl0_lt (i := i) (n := l.length) (k := k) (by omega)
    unfold blkG at h
    rw [Bool.or_eq_false_iff] at h
    exact OkL.step (Ok.vc (bk_go p l i k hl.1 hl.2 hb h.1)) (bk_f p l i hb j (k + 1) (by omega) h.2)
theorem zM16 (p : Pg) (l : List En) (i : Int) {Z : Prop} (z : Z) : (RF p.ls.length (RR p.ls.length 2 (fun i j => rowL lbC p.ls i j) (RF p.is.length (RR p.is.length 9 (fun i j => rowL inC p.is i j) (RF l.length (RR l.length 8 (fun i j => rowL enC l i j) (RF i (RF (0 : Int) (RF false Z))))))))) := ⟨rfl, fun _ _ _ _ => rfl, rfl, fun _ _ _ _ => rfl, rfl, fun _ _ _ _ => rfl, rfl, rfl, rfl, z⟩
theorem blk_t (p : Pg) (l : List En) (i : Int) (h : Ok Try.prog (ntOf Try.prog 58) (.loop (lpC Try.prog 58 0)) (bkS p l i 0).st .ret (bS 6 true).st) : Vc (vcFn Try.prog false 58 [.agg (pgA p), enR l, .int .i64 i] [.fz, .lp [] (bkS p l i 0) .ret (bS 6 true)] [] (.bool true) []) := vc_by (zM12 p (zM16 p l i (cj h (cj (rf true) trivial)))) (by kernel_rfl)
theorem blk_f (p : Pg) (l : List En) (i : Int) (n : Nat) (h : Ok Try.prog (ntOf Try.prog 58) (.loop (lpC Try.prog 58 0)) (bkS p l i 0).st (.ext 0) (bkS p l i n).st) : Vc (vcFn Try.prog false 58 [.agg (pgA p), enR l, .int .i64 i] [.fz, .lp [] (bkS p l i 0) (.ext 0) (bkS p l i n)] [] (.bool false) []) := vc_by (zM12 p (zM16 p l i (cj h (cj (rf false) trivial)))) (by kernel_rfl)
theorem rblkC (p : Pg) (l : List En) (i : Int) (hb : l.length < 1000000) : PureC Try.prog 58 [.agg (pgA p), enR l, .int .i64 i] (.bool (blkV p l i)) [] := by
  unfold blkV
  cases h : blkG p l 0 (cl0 i l.length) with
  | true => exact PureC.vc (blk_t p l i (bk_t p l i hb _ 0 (by omega) h).ok)
  | false => exact PureC.vc (blk_f p l i _ (bk_f p l i hb _ 0 (by omega) h).ok)
end
end Go.Proofs.Ytgcedepjlgfcjaa.Px
namespace Go.Proofs.Ytgcedepjlgfcjaa.Px
section
open Go.RowKit Go.Proofs.Ytgcedepjlgfcjaa.Rx
def ldF (p : Pg) (l : List En) (a : Int) : Nat → Option (Int × Int × Bool)
  | 0 => none
  | k + 1 => if (enI p l k).kind = 3 ∧ (l.getD k default).kn = true ∧ (l.getD k default).adr = a then some (if (l.getD k default).dn then ((l.getD k default).val, (k : Int), true) else (0, 0, false)) else ldF p l a k
def ldV (p : Pg) (m : List Int) (l : List En) (i a : Int) : Int × Int × Bool := match ldF p l a (cl0 i l.length) with
  | some x => x
  | none => if 0 ≤ a ∧ a < m.length then (m.getD a.toNat 0, -1, true) else (0, -1, true)
def ldS (p : Pg) (m : List Int) (l : List En) (a i : Int) : Sm := ⟨[(5, pgP p), (1, lR m), (2, enR l), (4, .int .i64 a), (13, .int .i64 i), (10, .int .i64 0), (11, .int .i64 0), (12, .bool false)], [], 0⟩
def vvbS (a b c : Nat) (x : Int × Int × Bool) : Sm := ⟨[(a, .int .i64 x.1), (b, .int .i64 x.2.1), (c, .bool x.2.2)], [], 0⟩
def hzB (p : Pg) (l : List En) (i a : Int) (k : Nat) : Prop := (enI p l k).kind = 2 ∧ (l.getD k default).kn = true ∧ (l.getD k default).adr = a ∧ (l.getD k default).frm < i
instance (p : Pg) (l : List En) (i a : Int) (k : Nat) : Decidable (hzB p l i a k) := inferInstanceAs (Decidable (_ ∧ _))
/-- the first load that was passed wrongly, from k on, of j -/
def hzG (p : Pg) (l : List En) (i a : Int) : Nat → Nat → Option Nat
  | _, 0 => none
  | k, j + 1 => if hzB p l i a k then some k else hzG p l i a (k + 1) j
def hz0 (i : Int) (n : Nat) : Nat := (min (max i (-1)) (n : Int) + 1).toNat
def hzV (p : Pg) (l : List En) (i a : Int) : Int × Bool := match hzG p l i a (hz0 i l.length) (l.length - hz0 i l.length) with
  | some k => ((k : Int), true)
  | none => (0, false)
def hzS (p : Pg) (l : List En) (i a : Int) (k : Nat) : Sm := ⟨[(4, pgP p), (1, enR l), (2, .int .i64 i), (3, .int .i64 a), (10, .int .i64 k), (8, .int .i64 0), (9, .bool false)], [], 0⟩
theorem zM20 (k : Nat) {Z : Prop} (z : Z) : (RF ((k : Int) - 1) (RF (0 : Int) (RF (0 : Int) (RF false Z)))) := ⟨rfl, rfl, rfl, rfl, z⟩
theorem zM21 (p : Pg) (m : List Int) (l : List En) (a : Int) {Z : Prop} (z : Z) : (RF p.ls.length (RR p.ls.length 2 (fun i j => rowL lbC p.ls i j) (RF p.is.length (RR p.is.length 9 (fun i j => rowL inC p.is i j) (RF m.length (RR m.length 1 (fun i j => aI (m.getD i 0)) (RF l.length (RR l.length 8 (fun i j => rowL enC l i j) (RF a Z))))))))) := ⟨rfl, fun _ _ _ _ => rfl, rfl, fun _ _ _ _ => rfl, rfl, fun _ _ _ _ => rfl, rfl, fun _ _ _ _ => rfl, rfl, z⟩
theorem zM22 (p : Pg) {Z : Prop} (z : Z) : (RF p.W (RF p.win (RF p.fuel (RF p.r0 (RF p.r1 (RF p.r2 (RF p.r3 (RF p.ms.length (RR p.ms.length 3 (fun i j => rowL mmC p.ms i j) Z))))))))) := ⟨rfl, rfl, rfl, rfl, rfl, rfl, rfl, rfl, fun _ _ _ _ => rfl, z⟩
theorem zM23 (p : Pg) (l : List En) (k : Nat) {Z : Prop} (z : Z) : (RF p.ls.length (RR p.ls.length 2 (fun i j => rowL lbC p.ls i j) (RF p.is.length (RR p.is.length 9 (fun i j => rowL inC p.is i j) (RF ((l.getD k default).pc) Z))))) := ⟨rfl, fun _ _ _ _ => rfl, rfl, fun _ _ _ _ => rfl, rfl, z⟩
abbrev oM20 (p : Pg) (l : List En) (k : Nat) : Orc := .cl [.agg (pgA p), .int .i64 (l.getD k default).pc] (.agg (inA (enI p l k))) []
theorem ld_k (p : Pg) (m : List Int) (l : List En) (a : Int) (k : Nat) (hk : k < l.length) (hb : l.length < 1000000) (hk3 : ¬ (enI p l k).kind = 3) : Vc (vcC Try.prog false (ntOf Try.prog 49) (lpC Try.prog 49 0) (ldS p m l a k) [.bd true, oM20 p l k, .bd false] .nrm [] (ldS p m l a ((k : Int) - 1))) := vc_by (cj (dt ((k : Int) ≥ 0)) (cj (bi (k : Int) (l.length : Int)) (zM22 p (zM23 p l k (cj (ratC p (l.getD k default).pc) (cj (beq_eq_false_iff_ne.2 hk3) (cj (i6 ((k : Int) - 1)) (zM22 p (zM21 p m l a (zM20 k trivial)))))))))) (by kernel_rfl)
theorem ld_n (p : Pg) (m : List Int) (l : List En) (a : Int) (k : Nat) (hk : k < l.length) (hb : l.length < 1000000) (hk3 : (enI p l k).kind = 3) (hn : (l.getD k default).kn = false) : Vc (vcC Try.prog false (ntOf Try.prog 49) (lpC Try.prog 49 0) (ldS p m l a k) [.bd true, oM20 p l k, .bd true, .lv (.bool false)] .nrm [] (ldS p m l a ((k : Int) - 1))) := vc_by (cj (dt ((k : Int) ≥ 0)) (cj (bi (k : Int) (l.length : Int)) (zM22 p (zM23 p l k (cj (ratC p (l.getD k default).pc) (cj (beq_iff_eq.2 hk3) (cj (bi (k : Int) (l.length : Int)) (cj (congrArg (fun b => some (AV.bool b)) hn) (cj (i6 ((k : Int) - 1)) (zM22 p (zM21 p m l a (zM20 k trivial)))))))))))) (by kernel_rfl)
theorem ld_a (p : Pg) (m : List Int) (l : List En) (a : Int) (k : Nat) (hk : k < l.length) (hb : l.length < 1000000) (hk3 : (enI p l k).kind = 3) (hn : (l.getD k default).kn = true) (ha : ¬ (l.getD k default).adr = a) : Vc (vcC Try.prog false (ntOf Try.prog 49) (lpC Try.prog 49 0) (ldS p m l a k) [.bd true, oM20 p l k, .bd true, .lv (.bool true), .bd false] .nrm [] (ldS p m l a ((k : Int) - 1))) := vc_by (cj (dt ((k : Int) ≥ 0)) (cj (bi (k : Int) (l.length : Int)) (zM22 p (zM23 p l k (cj (ratC p (l.getD k default).pc) (cj (beq_iff_eq.2 hk3) (cj (bi (k : Int) (l.length : Int)) (cj (congrArg (fun b => some (AV.bool b)) hn) (cj (bi (k : Int) (l.length : Int)) (cj (beq_eq_false_iff_ne.2 ha) (cj (i6 ((k : Int) - 1)) (zM22 p (zM21 p m l a (zM20 k trivial)))))))))))))) (by kernel_rfl)
theorem ld_d (p : Pg) (m : List Int) (l : List En) (a : Int) (k : Nat) (hk : k < l.length) (hb : l.length < 1000000) (hk3 : (enI p l k).kind = 3) (hn : (l.getD k default).kn = true) (ha : (l.getD k default).adr = a) (hd : (l.getD k default).dn = true) : Vc (vcC Try.prog false (ntOf Try.prog 49) (lpC Try.prog 49 0) (ldS p m l a k) [.bd true, oM20 p l k, .bd true, .lv (.bool true), .bd true, .lv (.bool true)] .ret [] (vvbS 10 11 12 ((l.getD k default).val, (k : Int), true))) := vc_by (cj (dt ((k : Int) ≥ 0)) (cj (bi (k : Int) (l.length : Int)) (zM22 p (zM23 p l k (cj (ratC p (l.getD k default).pc) (cj (beq_iff_eq.2 hk3) (cj (bi (k : Int) (l.length : Int)) (cj (congrArg (fun b => some (AV.bool b)) hn) (cj (bi (k : Int) (l.length : Int)) (cj (beq_iff_eq.2 ha) (cj (bi (k : Int) (l.length : Int)) (cj (congrArg (fun b => some (AV.bool b)) hd) (cj (bi (k : Int) (l.length : Int)) (cj (rf ((l.getD k default).val)) (cj (rf (k : Int)) (cj (rf true) trivial)))))))))))))))) (by kernel_rfl)
theorem zM24  {Z : Prop} (z : Z) : (RF (0 : Int) (RF (0 : Int) (RF false Z))) := ⟨rfl, rfl, rfl, z⟩
theorem ld_w (p : Pg) (m : List Int) (l : List En) (a : Int) (k : Nat) (hk : k < l.length) (hb : l.length < 1000000) (hk3 : (enI p l k).kind = 3) (hn : (l.getD k default).kn = true) (ha : (l.getD k default).adr = a) (hd : (l.getD k default).dn = false) : Vc (vcC Try.prog false (ntOf Try.prog 49) (lpC Try.prog 49 0) (ldS p m l a k) [.bd true, oM20 p l k, .bd true, .lv (.bool true), .bd true, .lv (.bool false)] .ret [] (vvbS 10 11 12 (0, 0, false))) := vc_by (cj (dt ((k : Int) ≥ 0)) (cj (bi (k : Int) (l.length : Int)) (zM22 p (zM23 p l k (cj (ratC p (l.getD k default).pc) (cj (beq_iff_eq.2 hk3) (cj (bi (k : Int) (l.length : Int)) (cj (congrArg (fun b => some (AV.bool b)) hn) (cj (bi (k : Int) (l.length : Int)) (cj (beq_iff_eq.2 ha) (cj (bi (k : Int) (l.length : Int)) (cj (congrArg (fun b => some (AV.bool b)) hd) (zM24 trivial))))))))))))) (by kernel_rfl)
theorem ld_end (p : Pg) (m : List Int) (l : List En) (a : Int) : Vc (vcC Try.prog false (ntOf Try.prog 49) (lpC Try.prog 49 0) (ldS p m l a (-1)) [.b false] (.ext 0) [] (ldS p m l a (-1))) := vc_by (cj (df ((-1 : Int) ≥ 0)) (zM22 p (zM21 p m l a (cj (rf (-1 : Int)) (cj (rf (0 : Int)) (cj (rf (0 : Int)) (cj (rf false) trivial))))))) (by kernel_rfl)
theorem ld_find (p : Pg) (m : List Int) (l : List En) (a : Int) (hb : l.length < 1000000) (x : Int × Int × Bool) : ∀ k, k ≤ l.length → ldF p l a k = some x → OkL Try.prog (ntOf Try.prog 49) (lpC Try.prog 49 0) (ldS p m l a ((k : Int) - 1)).st .ret (vvbS 10 11 12 x).st
  | 0, _, h => by cases h
  | k + 1, hk, h => by
    rw [natm1]
    unfold ldF at h
    by_cases hk3 : (enI p l k).kind = 3
    · cases hn : (l.getD k default).kn with
      | false =>
        rw [if_neg (by rw [hn]; simp)] at h
        exact OkL.step (Ok.vc (ld_n p m l a k (by omega) hb hk3 hn)) (ld_find p m l a hb x k (by omega) h)
      | true =>
        by_cases ha : (l.getD k default).adr = a
        · rw [if_pos ⟨hk3, hn, ha⟩] at h
          cases hd : (l.getD k default).dn with
          | true =>
            rw [if_pos hd, Option.some.injEq] at h
            subst h
            exact OkL.exit (Ok.vc (ld_d p m l a k (by omega) hb hk3 hn ha hd)) (by simp)
          | false =>
            rw [if_neg (by rw [hd]; simp), Option.some.injEq] at h
            subst h
            exact OkL.exit (Ok.vc (ld_w p m l a k (by omega) hb hk3 hn ha hd)) (by simp)
        · rw [if_neg fun e => ha e.2.2] at h
          exact OkL.step (Ok.vc (ld_a p m l a k (by omega) hb hk3 hn ha)) (ld_find p m l a hb x k (by omega) h)
    · rw [if_neg fun e => hk3 e.1] at h
      exact OkL.step (Ok.vc (ld_k p m l a k (by omega) hb hk3)) (ld_find p m l a hb x k (by omega) h)
theorem ld_none (p : Pg) (m : List Int) (l : List En) (a : Int) (hb : l.length < 1000000) : ∀ k, k ≤ l.length → ldF p l a k = none → OkL Try.prog (ntOf Try.prog 49) (lpC Try.prog 49 0) (ldS p m l a ((k : Int) - 1)).st (.ext 0) (ldS p m l a (-1)).st
  | 0, _, _ => OkL.exit (Ok.vc (ld_end p m l a)) (by simp)
  | k + 1, hk, h => by
    rw [natm1]
    unfold ldF at h
    by_cases hk3 : (enI p l k).kind = 3
    · cases hn : (l.getD k default).kn with
      | false =>
        rw [if_neg (by rw [hn]; simp)] at h
        exact OkL.step (Ok.vc (ld_n p m l a k (by omega) hb hk3 hn)) (ld_none p m l a hb k (by omega) h)
      | true =>
        by_cases ha : (l.getD k default).adr = a
        · rw [if_pos ⟨hk3, hn, ha⟩] at h
          cases h
        · rw [if_neg fun e => ha e.2.2] at h
          exact OkL.step (Ok.vc (ld_a p m l a k (by omega) hb hk3 hn ha)) (ld_none p m l a hb k (by omega) h)
    · rw [if_neg fun e => hk3 e.1] at h
      exact OkL.step (Ok.vc (ld_k p m l a k (by omega) hb hk3)) (ld_none p m l a hb k (by omega) h)
theorem sM20 (l : List En) (i : Int) (n : Nat) (hE : (if (l.length : Int) < (if i < 0 then 0 else i) then (l.length : Int) else (if i < 0 then 0 else i)) = (n : Int)) : (if (l.length : Int) < if i < 0 then (0 : Int) else i then (l.length : Int) else if i < 0 then (0 : Int) else i) - 1 = (n : Int) - 1 := by rw [hE]
theorem load_y (p : Pg) (m : List Int) (l : List En) (i a : Int) (n : Nat) (x : Int × Int × Bool) (hE : (if (l.length : Int) < (if i < 0 then 0 else i) then (l.length : Int) else (if i < 0 then 0 else i)) = (n : Int)) (hn : n < 1000000) (h : Ok Try.prog (ntOf Try.prog 49) (.loop (lpC Try.prog 49 0)) (ldS p m l a ((n : Int) - 1)).st .ret (vvbS 10 11 12 x).st) : Vc (vcFn Try.prog false 49 [.agg (pgA p), lR m, enR l, .int .i64 i, .int .i64 a] [.fz, .lp [] (ldS p m l a ((n : Int) - 1)) .ret (vvbS 10 11 12 x)] [] (.tup [.int .i64 x.1, .int .i64 x.2.1, .bool x.2.2]) []) := vc_by (cj (show inK IntKind.i64 ((if (l.length : Int) < if i < 0 then (0 : Int) else i then (l.length : Int) else if i < 0 then (0 : Int) else i) - 1) from by rw [hE]; exact in64 (by omega) (by omega)) (zM22 p (zM21 p m l a (cj (sM20 l i n hE) (zM24 (cj h (cj (rf (Prod.fst x)) (cj (rf (Prod.fst (Prod.snd x))) (cj (rf (Prod.snd (Prod.snd x))) trivial))))))))) (by kernel_rfl)
theorem zM25  {Z : Prop} (z : Z) : (RF (0 : Int) (RF (-1 : Int) (RF true Z))) := ⟨rfl, rfl, rfl, z⟩
abbrev qM21 (p : Pg) (m : List Int) (l : List En) (a : Int) (n : Nat) : Prop := Ok Try.prog (ntOf Try.prog 49) (.loop (lpC Try.prog 49 0)) (ldS p m l a ((n : Int) - 1)).st (.ext 0) (ldS p m l a (-1)).st
theorem load_neg (p : Pg) (m : List Int) (l : List En) (i a : Int) (n : Nat) (hE : (if (l.length : Int) < (if i < 0 then 0 else i) then (l.length : Int) else (if i < 0 then 0 else i)) = (n : Int)) (hn : n < 1000000) (h : qM21 p m l a n) (ha : a < 0) : Vc (vcFn Try.prog false 49 [.agg (pgA p), lR m, enR l, .int .i64 i, .int .i64 a] [.fz, .lp [] (ldS p m l a ((n : Int) - 1)) (.ext 0) (ldS p m l a (-1)), .bd true] [] (.tup [.int .i64 0, .int .i64 (-1), .bool true]) []) := vc_by (cj (show inK IntKind.i64 ((if (l.length : Int) < if i < 0 then (0 : Int) else i then (l.length : Int) else if i < 0 then (0 : Int) else i) - 1) from by rw [hE]; exact in64 (by omega) (by omega)) (zM22 p (zM21 p m l a (cj (sM20 l i n hE) (zM24 (cj h (cj (dt (a < 0)) (zM25 trivial)))))))) (by kernel_rfl)
theorem load_out (p : Pg) (m : List Int) (l : List En) (i a : Int) (n : Nat) (hE : (if (l.length : Int) < (if i < 0 then 0 else i) then (l.length : Int) else (if i < 0 then 0 else i)) = (n : Int)) (hn : n < 1000000) (h : qM21 p m l a n) (h0 : 0 ≤ a) (ha : ¬ a < m.length) : Vc (vcFn Try.prog false 49 [.agg (pgA p), lR m, enR l, .int .i64 i, .int .i64 a] [.fz, .lp [] (ldS p m l a ((n : Int) - 1)) (.ext 0) (ldS p m l a (-1)), .bd false, .bd true] [] (.tup [.int .i64 0, .int .i64 (-1), .bool true]) []) := vc_by (cj (show inK IntKind.i64 ((if (l.length : Int) < if i < 0 then (0 : Int) else i then (l.length : Int) else if i < 0 then (0 : Int) else i) - 1) from by rw [hE]; exact in64 (by omega) (by omega)) (zM22 p (zM21 p m l a (cj (sM20 l i n hE) (zM24 (cj h (cj (df (a < 0)) (cj (dt (a ≥ (m.length : Int))) (zM25 trivial))))))))) (by kernel_rfl)
theorem load_in (p : Pg) (m : List Int) (l : List En) (i a : Int) (n : Nat) (hE : (if (l.length : Int) < (if i < 0 then 0 else i) then (l.length : Int) else (if i < 0 then 0 else i)) = (n : Int)) (hn : n < 1000000) (h : qM21 p m l a n) (h0 : 0 ≤ a) (ha : a < m.length) : Vc (vcFn Try.prog false 49 [.agg (pgA p), lR m, enR l, .int .i64 i, .int .i64 a] [.fz, .lp [] (ldS p m l a ((n : Int) - 1)) (.ext 0) (ldS p m l a (-1)), .bd false, .bd false] [] (.tup [.int .i64 (m.getD a.toNat 0), .int .i64 (-1), .bool true]) []) := vc_by (cj (show inK IntKind.i64 ((if (l.length : Int) < if i < 0 then (0 : Int) else i then (l.length : Int) else if i < 0 then (0 : Int) else i) - 1) from by rw [hE]; exact in64 (by omega) (by omega)) (zM22 p (zM21 p m l a (cj (sM20 l i n hE) (zM24 (cj h (cj (df (a < 0)) (cj (df (a ≥ (m.length : Int))) (cj (bi a (m.length : Int)) (cj (rf (m.getD (Int.toNat a) (0 : Int))) (cj (rf (-1 : Int)) (cj (rf true) trivial)))))))))))) (by kernel_rfl)
theorem rldC (p : Pg) (m : List Int) (l : List En) (i a : Int) (hb : l.length < 1000000) : PureC Try.prog 49 [.agg (pgA p), lR m, enR l, .int .i64 i, .int .i64 a] (.tup [.int .i64 (ldV p m l i a).1, .int .i64 (ldV p m l i a).2.1, .bool (ldV p m l i a).2.2]) [] := by
  have hE := cl0_eq i l.length
  have hle := cl0_le i l.length
  unfold ldV
  cases h : ldF p l a (cl0 i l.length) with
  | some x => exact PureC.vc (load_y p m l i a _ x hE (by omega) (ld_find p m l a hb x _ hle h).ok)
  | none =>
    have hl := (ld_none p m l a hb _ hle h).ok
    by_cases ha : 0 ≤ a ∧ a < m.length
    · rw [if_pos ha]
      exact PureC.vc (load_in p m l i a _ hE (by omega) hl ha.1 ha.2)
    · rw [if_neg ha]
      by_cases h0 : a < 0
      · exact PureC.vc (load_neg p m l i a _ hE (by omega) hl h0)
      · exact PureC.vc (load_out p m l i a _ hE (by omega) hl (by omega) (by omega))
theorem zM26 (p : Pg) (l : List En) (i : Int) (a : Int) (k : Nat) {Z : Prop} (z : Z) : (RF p.ls.length (RR p.ls.length 2 (fun i j => rowL lbC p.ls i j) (RF p.is.length (RR p.is.length 9 (fun i j => rowL inC p.is i j) (RF l.length (RR l.length 8 (fun i j => rowL enC l i j) (RF i (RF a (RF ((k : Int) + 1) Z))))))))) := ⟨rfl, fun _ _ _ _ => rfl, rfl, fun _ _ _ _ => rfl, rfl, fun _ _ _ _ => rfl, rfl, rfl, rfl, z⟩
theorem hz_k (p : Pg) (l : List En) (i a : Int) (k : Nat) (hk : k < l.length) (hb : l.length < 1000000) (hk3 : ¬ (enI p l k).kind = 2) : Vc (vcC Try.prog false (ntOf Try.prog 54) (lpC Try.prog 54 0) (hzS p l i a k) [.bd true, oM20 p l k, .bd false] .nrm [] (hzS p l i a (k + 1))) := vc_by (cj (dt ((k : Int) < (l.length : Int))) (cj (bi (k : Int) (l.length : Int)) (zM22 p (zM23 p l k (cj (ratC p (l.getD k default).pc) (cj (beq_eq_false_iff_ne.2 hk3) (cj (i6 ((k : Int) + 1)) (zM22 p (zM26 p l i a k (cj (rf (0 : Int)) (cj (rf false) trivial))))))))))) (by kernel_rfl)
theorem hz_n (p : Pg) (l : List En) (i a : Int) (k : Nat) (hk : k < l.length) (hb : l.length < 1000000) (hk3 : (enI p l k).kind = 2) (hn : (l.getD k default).kn = false) : Vc (vcC Try.prog false (ntOf Try.prog 54) (lpC Try.prog 54 0) (hzS p l i a k) [.bd true, oM20 p l k, .bd true, .lv (.bool false)] .nrm [] (hzS p l i a (k + 1))) := vc_by (cj (dt ((k : Int) < (l.length : Int))) (cj (bi (k : Int) (l.length : Int)) (zM22 p (zM23 p l k (cj (ratC p (l.getD k default).pc) (cj (beq_iff_eq.2 hk3) (cj (bi (k : Int) (l.length : Int)) (cj (congrArg (fun b => some (AV.bool b)) hn) (cj (i6 ((k : Int) + 1)) (zM22 p (zM26 p l i a k (cj (rf (0 : Int)) (cj (rf false) trivial))))))))))))) (by kernel_rfl)
theorem hz_a (p : Pg) (l : List En) (i a : Int) (k : Nat) (hk : k < l.length) (hb : l.length < 1000000) (hk3 : (enI p l k).kind = 2) (hn : (l.getD k default).kn = true) (ha : ¬ (l.getD k default).adr = a) : Vc (vcC Try.prog false (ntOf Try.prog 54) (lpC Try.prog 54 0) (hzS p l i a k) [.bd true, oM20 p l k, .bd true, .lv (.bool true), .bd false] .nrm [] (hzS p l i a (k + 1))) := vc_by (cj (dt ((k : Int) < (l.length : Int))) (cj (bi (k : Int) (l.length : Int)) (zM22 p (zM23 p l k (cj (ratC p (l.getD k default).pc) (cj (beq_iff_eq.2 hk3) (cj (bi (k : Int) (l.length : Int)) (cj (congrArg (fun b => some (AV.bool b)) hn) (cj (bi (k : Int) (l.length : Int)) (cj (beq_eq_false_iff_ne.2 ha) (cj (i6 ((k : Int) + 1)) (zM22 p (zM26 p l i a k (cj (rf (0 : Int)) (cj (rf false) trivial))))))))))))))) (by kernel_rfl)
theorem hz_f (p : Pg) (l : List En) (i a : Int) (k : Nat) (hk : k < l.length) (hb : l.length < 1000000) (hk3 : (enI p l k).kind = 2) (hn : (l.getD k default).kn = true) (ha : (l.getD k default).adr = a) (hf : ¬ (l.getD k default).frm < i) : Vc (vcC Try.prog false (ntOf Try.prog 54) (lpC Try.prog 54 0) (hzS p l i a k) [.bd true, oM20 p l k, .bd true, .lv (.bool true), .bd true, .bd false] .nrm [] (hzS p l i a (k + 1))) := vc_by (cj (dt ((k : Int) < (l.length : Int))) (cj (bi (k : Int) (l.length : Int)) (zM22 p (zM23 p l k (cj (ratC p (l.getD k default).pc) (cj (beq_iff_eq.2 hk3) (cj (bi (k : Int) (l.length : Int)) (cj (congrArg (fun b => some (AV.bool b)) hn) (cj (bi (k : Int) (l.length : Int)) (cj (beq_iff_eq.2 ha) (cj (bi (k : Int) (l.length : Int)) (cj (decide_eq_false hf) (cj (i6 ((k : Int) + 1)) (zM22 p (zM26 p l i a k (cj (rf (0 : Int)) (cj (rf false) trivial))))))))))))))))) (by kernel_rfl)
theorem hz_y (p : Pg) (l : List En) (i a : Int) (k : Nat) (hk : k < l.length) (hb : l.length < 1000000) (hk3 : (enI p l k).kind = 2) (hn : (l.getD k default).kn = true) (ha : (l.getD k default).adr = a) (hf : (l.getD k default).frm < i) : Vc (vcC Try.prog false (ntOf Try.prog 54) (lpC Try.prog 54 0) (hzS p l i a k) [.bd true, oM20 p l k, .bd true, .lv (.bool true), .bd true, .bd true] .ret [] (vbS 8 9 ((k : Int), true))) := vc_by (cj (dt ((k : Int) < (l.length : Int))) (cj (bi (k : Int) (l.length : Int)) (zM22 p (zM23 p l k (cj (ratC p (l.getD k default).pc) (cj (beq_iff_eq.2 hk3) (cj (bi (k : Int) (l.length : Int)) (cj (congrArg (fun b => some (AV.bool b)) hn) (cj (bi (k : Int) (l.length : Int)) (cj (beq_iff_eq.2 ha) (cj (bi (k : Int) (l.length : Int)) (cj (decide_eq_true hf) (cj (rf (k : Int)) (cj (rf true) trivial)))))))))))))) (by kernel_rfl)
theorem hz_end (p : Pg) (l : List En) (i a : Int) (k : Nat) (hk : ¬ k < l.length) : Vc (vcC Try.prog false (ntOf Try.prog 54) (lpC Try.prog 54 0) (hzS p l i a k) [.b false] (.ext 0) [] (hzS p l i a k)) := vc_by (cj (df ((k : Int) < (l.length : Int))) (zM22 p (cj (rf p.ls.length) (cj (rr p.ls.length 2 fun i j => rowL lbC p.ls i j) (cj (rf p.is.length) (cj (rr p.is.length 9 fun i j => rowL inC p.is i j) (cj (rf l.length) (cj (rr l.length 8 fun i j => rowL enC l i j) (cj (rf i) (cj (rf a) (cj (rf (k : Int)) (cj (rf (0 : Int)) (cj (rf false) trivial))))))))))))) (by kernel_rfl)
theorem hz_find (p : Pg) (l : List En) (i a : Int) (hb : l.length < 1000000) (q : Nat) : ∀ j k, k + j = max k l.length → hzG p l i a k j = some q → OkL Try.prog (ntOf Try.prog 54) (lpC Try.prog 54 0) (hzS p l i a k).st .ret (vbS 8 9 ((q : Int), true)).st
  | 0, k, _, h => by cases h
  | j + 1, k, hk, h => by
    unfold hzG at h
    by_cases hz : hzB p l i a k
    · rw [if_pos hz] at h
      obtain ⟨hk3, hn, ha, hf⟩ := hz
      rw [Option.some.injEq] at h
      subst h
      exact OkL.exit (Ok.vc (hz_y p l i a k (by omega) hb hk3 hn ha hf)) (by simp)
    · rw [if_neg hz] at h
      refine OkL.step ?_ (hz_find p l i a hb q j (k + 1) (by omega) h)
      by_cases hk3 : (enI p l k).kind = 2
      · cases hn : (l.getD k default).kn with
        | false => exact Ok.vc (hz_n p l i a k (by omega) hb hk3 hn)
        | true =>
          by_cases ha : (l.getD k default).adr = a
          · exact Ok.vc (hz_f p l i a k (by omega) hb hk3 hn ha fun hf => hz ⟨hk3, hn, ha, hf⟩)
          · exact Ok.vc (hz_a p l i a k (by omega) hb hk3 hn ha)
      · exact Ok.vc (hz_k p l i a k (by omega) hb hk3)
theorem hz_none (p : Pg) (l : List En) (i a : Int) (hb : l.length < 1000000) : ∀ j k, k + j = max k l.length → hzG p l i a k j = none → OkL Try.prog (ntOf Try.prog 54) (lpC Try.prog 54 0) (hzS p l i a k).st (.ext 0) (hzS p l i a (max k l.length)).st
  | 0, k, hk, _ => by
    rw [show max k l.length = k by omega]
    exact OkL.exit (Ok.vc (hz_end p l i a k (by omega))) (by simp)
  | j + 1, k, hk, h => by
    rw [show max k l.length = max (k + 1) l.length by omega]
    unfold hzG at h
    by_cases hz : hzB p l i a k
    · rw [if_pos hz] at h
      obtain ⟨hk3, hn, ha, hf⟩ := hz
      cases h
    · rw [if_neg hz] at h
      refine OkL.step ?_ (hz_none p l i a hb j (k + 1) (by omega) h)
      by_cases hk3 : (enI p l k).kind = 2
      · cases hn : (l.getD k default).kn with
        | false => exact Ok.vc (hz_n p l i a k (by omega) hb hk3 hn)
        | true =>
          by_cases ha : (l.getD k default).adr = a
          · exact Ok.vc (hz_f p l i a k (by omega) hb hk3 hn ha fun hf => hz ⟨hk3, hn, ha, hf⟩)
          · exact Ok.vc (hz_a p l i a k (by omega) hb hk3 hn ha)
      · exact Ok.vc (hz_k p l i a k (by omega) hb hk3)
theorem mxI (a b : Int) : (if a < b then b else a) = max a b := by split <;> omega
theorem hz0_eq (i : Int) (n : Nat) : (if (n : Int) < (if i < -1 then -1 else i) then (n : Int) else (if i < -1 then -1 else i)) + 1 = (hz0 i n : Int) := by
  unfold hz0; rw [mxI, mnI]; omega
theorem zM27 (p : Pg) (l : List En) (i : Int) (a : Int) {Z : Prop} (z : Z) : (RF p.ls.length (RR p.ls.length 2 (fun i j => rowL lbC p.ls i j) (RF p.is.length (RR p.is.length 9 (fun i j => rowL inC p.is i j) (RF l.length (RR l.length 8 (fun i j => rowL enC l i j) (RF i (RF a Z)))))))) := ⟨rfl, fun _ _ _ _ => rfl, rfl, fun _ _ _ _ => rfl, rfl, fun _ _ _ _ => rfl, rfl, rfl, z⟩
theorem haz_y (p : Pg) (l : List En) (i a : Int) (n : Nat) (q : Nat) (hE : (if (l.length : Int) < (if i < -1 then -1 else i) then (l.length : Int) else (if i < -1 then -1 else i)) + 1 = (n : Int)) (hn : n < 1000001) (h : Ok Try.prog (ntOf Try.prog 54) (.loop (lpC Try.prog 54 0)) (hzS p l i a n).st .ret (vbS 8 9 ((q : Int), true)).st) : Vc (vcFn Try.prog false 54 [.agg (pgA p), enR l, .int .i64 i, .int .i64 a] [.fz, .lp [] (hzS p l i a n) .ret (vbS 8 9 ((q : Int), true))] [] (.tup [.int .i64 q, .bool true]) []) := vc_by (cj (show inK IntKind.i64 ((if (l.length : Int) < if i < (-1 : Int) then (-1 : Int) else i then (l.length : Int) else if i < (-1 : Int) then (-1 : Int) else i) + 1) from by rw [hE]; exact in64 (by omega) (by omega)) (zM22 p (zM27 p l i a (cj (show (if (l.length : Int) < if i < (-1 : Int) then (-1 : Int) else i then (l.length : Int) else if i < (-1 : Int) then (-1 : Int) else i) + 1 = (n : Int) from by first | exact hE | rw [hE]) (cj (rf (0 : Int)) (cj (rf false) (cj h (cj (rf (q : Int)) (cj (rf true) trivial))))))))) (by kernel_rfl)
theorem haz_n (p : Pg) (l : List En) (i a : Int) (n : Nat) (N : Nat) (hE : (if (l.length : Int) < (if i < -1 then -1 else i) then (l.length : Int) else (if i < -1 then -1 else i)) + 1 = (n : Int)) (hn : n < 1000001) (h : Ok Try.prog (ntOf Try.prog 54) (.loop (lpC Try.prog 54 0)) (hzS p l i a n).st (.ext 0) (hzS p l i a N).st) : Vc (vcFn Try.prog false 54 [.agg (pgA p), enR l, .int .i64 i, .int .i64 a] [.fz, .lp [] (hzS p l i a n) (.ext 0) (hzS p l i a N)] [] (.tup [.int .i64 0, .bool false]) []) := vc_by (cj (show inK IntKind.i64 ((if (l.length : Int) < if i < (-1 : Int) then (-1 : Int) else i then (l.length : Int) else if i < (-1 : Int) then (-1 : Int) else i) + 1) from by rw [hE]; exact in64 (by omega) (by omega)) (zM22 p (zM27 p l i a (cj (show (if (l.length : Int) < if i < (-1 : Int) then (-1 : Int) else i then (l.length : Int) else if i < (-1 : Int) then (-1 : Int) else i) + 1 = (n : Int) from by first | exact hE | rw [hE]) (cj (rf (0 : Int)) (cj (rf false) (cj h (cj (rf (0 : Int)) (cj (rf false) trivial))))))))) (by kernel_rfl)
theorem rhzC (p : Pg) (l : List En) (i a : Int) (hb : l.length < 1000000) : PureC Try.prog 54 [.agg (pgA p), enR l, .int .i64 i, .int .i64 a] (.tup [.int .i64 (hzV p l i a).1, .bool (hzV p l i a).2]) [] := by
  have hE := hz0_eq i l.length
  have hle : hz0 i l.length ≤ l.length + 1 := by unfold hz0; omega
  unfold hzV
  cases h : hzG p l i a (hz0 i l.length) (l.length - hz0 i l.length) with
  | some q => exact PureC.vc (haz_y p l i a _ q hE (by omega) (hz_find p l i a hb q _ _ (by omega) h).ok)
  | none => exact PureC.vc (haz_n p l i a _ _ hE (by omega) (hz_none p l i a hb _ _ (by omega) h).ok)
end
end Go.Proofs.Ytgcedepjlgfcjaa.Px
