/- A state that is known as another. -/
import Derived.Test.YtdbnfdcjibgikaaRx13
set_option linter.unusedVariables false
set_option linter.unusedSimpArgs false
namespace Go.Proofs.Ytdbnfdcjibgikaa.Rx
open Go.RowKit
theorem lookO_mem {α : Type} : ∀ {l : List (Nat × α)} {k : Nat} {v : α}, lookO l k = some v → (k, v) ∈ l
  | [], k, v, h => by simp [lookO] at h
  | (j, x) :: l, k, v, h => by
    unfold lookO at h
    cases hb : Nat.beq k j with
    | true =>
      rw [hb] at h
      simp only [cond_true, Option.some.injEq] at h
      rw [Nat.eq_of_beq_eq_true hb, h]
      simp
    | false =>
      rw [hb] at h
      exact List.mem_cons_of_mem _ (lookO_mem h)
theorem nodupB_spec : ∀ {l : List Nat}, nodupB l = true → l.Nodup
  | [], _ => List.nodup_nil
  | a :: l, h => by
    unfold nodupB at h
    rw [Bool.and_eq_true] at h
    refine List.nodup_cons.2 ⟨fun hm => ?_, nodupB_spec h.2⟩
    have := List.all_eq_true.1 h.1 a hm
    simp at this
theorem inj_snd : ∀ {r : List (Nat × Nat)}, (r.map (·.2)).Nodup → ∀ {a b c : Nat}, (a, c) ∈ r → (b, c) ∈ r → a = b
  | [], _, a, b, c, h, _ => by simp at h
  | (x, y) :: r, hn, a, b, c, h, h' => by
    rw [List.map_cons, List.nodup_cons] at hn
    rcases List.mem_cons.1 h with e | e <;> rcases List.mem_cons.1 h' with e' | e'
    · cases e; cases e'; rfl
    · cases e
      exact absurd (List.mem_map.2 ⟨_, e', rfl⟩) hn.1
    · cases e'
      exact absurd (List.mem_map.2 ⟨_, e, rfl⟩) hn.1
    · exact inj_snd hn.2 e e'
section
variable {cx : Cx}
/-- the context behind the change of names -/
def Cx.ren (cx : Cx) (r : List (Nat × Nat)) (hI : Nat → Option Blk) : Cx :=
  ⟨cx.w, fun g => cx.R g ∨ ∃ id b c, cx.H id = some b ∧ cx.φ id = some (g, c) ∧ (∀ k, (k, id) ∉ r), fun id' => (lookO r id').bind cx.φ, hI, cx.B⟩
theorem ren_ext (hc : CRep cx) (r : List (Nat × Nat)) (hI : Nat → Option Blk) : Ext cx (cx.ren r hI) :=
  ⟨rfl, fun _ h => .inl h, fun g h => h.imp (fun x => x) fun ⟨id, b, c, h1, h2, _⟩ => ((hc.hb id b h1).at_ h2).2, rfl, rfl, rfl, Nat.le_refl _, fun _ _ _ => rfl⟩
theorem Rep.own_one {id g m off len : Nat} {v : Value} (h : Rep cx (.own id g m off len) v) : v.oneCell' = true := by
  cases h with
  | pure h => cases h
  | own _ _ ho => exact ho
theorem notin_of {r : List (Nat × Nat)} {id : Nat} (h : (r.all fun q => !(Nat.beq q.2 id)) = true) : ∀ k, (k, id) ∉ r := fun k hk => by
  have := List.all_eq_true.1 h _ hk
  simp at this
theorem leC_sound (hc : CRep cx) {r : List (Nat × Nat)} {hI : Nat → Option Blk} {a b : AV} {ps : List Prop} (h : leC cx.H hI r a b = some ps) (hp : ∀ p ∈ ps, p) 
    (hB : ∀ id id' b b', lookO r id' = some id → cx.H id = some b → hI id' = some b' → (∀ m n f, b.c = .rows m n f → ∃ f', b'.c = .rows m n f') ∧ (b.c.isBox = true → b'.c.isBox = true))
    (hN : ∀ id' b', lookO r id' = none → hI id' = some b' → ∃ m n f, b'.c = .rows m n f ∧ n = 0)
    {v : Value} (hr : Rep cx a v) : Rep (cx.ren r hI) b v := by
  have he := ren_ext hc r hI
  unfold leC at h
  split at h
  · exact .pure (.junk _)
  · split at h
    · split at h
      · rename_i hk
        subst hk
        simp only [Option.some.injEq] at h; subst h
        have e := hp _ (List.mem_singleton.2 rfl)
        subst e
        rw [hr.int_inv]
        exact .pure (.int _ _)
      · cases h
    · cases h
  · split at h
    · simp only [Option.some.injEq] at h; subst h
      have e := hp _ (List.mem_singleton.2 rfl)
      subst e
      rw [hr.bool_inv]
      exact .pure (.bool _)
    · cases h
  · split at h
    · simp only [Option.some.injEq] at h; subst h
      have e := hp _ (List.mem_singleton.2 rfl)
      subst e
      rw [hr.str_inv]
      exact .pure (.str _)
    · cases h
  · split at h
    · rw [hr.nilp_inv]; exact .pure .nilp
    · cases h
  · split at h
    · rw [hr.nils_inv]; exact .pure .nils
    · cases h
  · rename_i id' off'
    split at h
    · rename_i id off
      obtain ⟨i, hi, h⟩ := Option.bind_eq_some_iff.1 h
      obtain ⟨hb, _⟩ := bif_some h
      simp only [Bool.and_eq_true] at hb
      have e1 := Nat.eq_of_beq_eq_true hb.1.1
      have e2 := Nat.eq_of_beq_eq_true hb.1.2
      subst e1; subst e2
      obtain ⟨g, cap, b, h1, h2, h3, rfl⟩ := hr.bptr_inv
      obtain ⟨b', hb'⟩ := Option.isSome_iff_exists.1 hb.2
      refine .bptr (b := b') hb' ((hB _ _ _ _ hi h1 hb').2 h2) (g := g) (cap := cap) ?_
      show (lookO r id').bind cx.φ = _
      rw [hi]
      exact h3
    · cases h
  · rename_i id' g' m' off' len'
    split at h
    · split at h
      · rename_i g'' fz e m'' n'' f'' heq
        obtain ⟨hb, h'⟩ := bif_some h
        clear h
        simp only [Option.some.injEq] at h'; subst h'
        simp only [Bool.and_eq_true] at hb
        obtain ⟨⟨q1, q2⟩, q3⟩ := hb
        have e1 := hp (off' = 0) (by simp)
        have e2 := hp (len' = 0) (by simp)
        have e3 := Nat.eq_of_beq_eq_true q2
        have e4 := Nat.eq_of_beq_eq_true q3
        subst e1; subst e2; subst e3; subst e4
        have hn : lookO r id' = none := by
          cases hq : lookO r id' with
          | none => rfl
          | some x => rw [hq] at q1; simp at q1
        rw [hr.nils_inv]
        refine .own heq (Nat.le_refl _) rfl fun _ => ⟨n'', f'', rfl, by omega, .inl ⟨?_, rfl, rfl, rfl⟩⟩
        show (lookO r id').bind cx.φ = none
        rw [hn]; rfl
      · cases h
    · rename_i id g m off len
      obtain ⟨i, hi, h⟩ := Option.bind_eq_some_iff.1 h
      obtain ⟨hb, h⟩ := bif_some h
      simp only [Option.some.injEq] at h; subst h
      simp only [Bool.and_eq_true] at hb
      obtain ⟨⟨⟨q1, q2⟩, q3⟩, q4⟩ := hb
      have e1 := hp (off = off') (by simp)
      have e2 := hp (len = len') (by simp)
      have e3 := Nat.eq_of_beq_eq_true q1
      have e4 := Nat.eq_of_beq_eq_true q2
      subst e1; subst e2; subst e3; subst e4
      obtain ⟨b, h1, h2, h3⟩ := hr.own_inv
      have g1 := curG_some q3 h1
      unfold curG at q4
      split at q4
      · rename_i b' hb'
        have g2 := Nat.eq_of_beq_eq_true q4
        obtain ⟨n, f, k1, k2, k3⟩ := h3 g1
        obtain ⟨f', k4⟩ := (hB _ _ _ _ hi h1 hb').1 _ _ _ k1
        refine .own (b := b') hb' (by omega) hr.own_one fun _ => ⟨n, f', k4, k2, ?_⟩
        have hφ : (cx.ren r hI).φ id' = cx.φ i := by show (lookO r id').bind cx.φ = _; rw [hi]; rfl
        rw [hφ]
        exact k3
      · cases q4
    · cases h
  · rename_i m' n' f'
    split at h
    · simp only [Option.some.injEq] at h; subst h
      have e := hp _ (List.mem_singleton.2 rfl)
      subst e
      rw [hr.nils_inv]
      exact .pure (.row _ _ (fun _ _ => undef) (Nat.le_refl _) (Nat.zero_le _) (fun h => by simp at h) (fun i hi => by omega) (fun i hi => by omega))
    · rename_i m n f
      obtain ⟨hb, h'⟩ := bif_some h
      clear h
      have e := Nat.eq_of_beq_eq_true hb
      subst e
      simp only [Option.some.injEq] at h'; subst h'
      have e1 := hp (n = n') (by simp)
      subst e1
      have e2 := hp (∀ i, i < n → ∀ j, j < m → f i j = f' i j) (by simp)
      refine .pure ?_
      cases (hr.row_inv).ext hc he with
      | row A cap u hn hcap hA h1 hu => exact .row A cap u hn hcap hA h1 fun i hi j hj => by rw [← e2 i hi j hj]; exact hu i hi j hj
    · rename_i id g m off len
      split at h
      · rename_i g' fz e m'' n f heq
        obtain ⟨hb, h⟩ := bif_some h
        simp only [Option.some.injEq] at h; subst h
        simp only [Bool.and_eq_true] at hb
        obtain ⟨⟨⟨q1, q2⟩, q3⟩, q4⟩ := hb
        have e1 := Nat.eq_of_beq_eq_true q1
        have e2 := Nat.eq_of_beq_eq_true q2
        have e3 := Nat.eq_of_beq_eq_true q3
        subst e1; subst e2; subst e3
        have e4 := hp (len = n') (by simp)
        subst e4
        have e5 := hp (∀ i, i < len → ∀ j, j < m → f (i + off) j = f' i j) (by simp)
        obtain ⟨b, h1, h2, h3⟩ := hr.own_inv
        rw [heq] at h1
        cases h1
        obtain ⟨n2, f2, k1, k2, k3⟩ := h3 rfl
        cases k1
        rcases k3 with ⟨p1, rfl, rfl, rfl⟩ | ⟨gg, cap, p1, rfl⟩
        · exact .pure (.row _ _ (fun _ _ => undef) (Nat.le_refl _) (Nat.zero_le _) (fun h => by simp at h) (fun i hi => by omega) (fun i hi => by omega))
        · obtain ⟨cur, r1, r2, r3, r4, r5, r6, r7⟩ := rows_of hc heq rfl p1
          have hRg : (cx.ren r hI).R gg := by
            cases fz with
            | true => exact .inl r7
            | false =>
              simp only [Bool.false_or] at q4
              exact .inr ⟨id, _, cap, heq, p1, notin_of q4⟩
          refine .pure (.row _ _ (fun i j => (cur[(i + off) * m + j]?).getD undef) (by omega) (by omega) (fun _ => ⟨gg, off * m, rfl, hRg, fun i hi j hj => ?_⟩) (fun i hi j hj => ?_) (fun i hi j hj => ?_))
          · obtain ⟨u, hu, ho, hr⟩ := r5 (i + off) (by omega) j hj
            show cx.w.cell? _ = _
            rw [cell_of_row _ _ _ _ _ _ r1, show off * m + (i * m + j) = (i + off) * m + j by rw [Nat.add_mul]; omega, hu]
            rfl
          · obtain ⟨u, hu, ho, hr⟩ := r5 (i + off) (by omega) j hj
            simp only [hu, Option.getD_some]
            exact ho
          · obtain ⟨u, hu, ho, hr⟩ := r5 (i + off) (by omega) j hj
            simp only [hu, Option.getD_some]
            rw [← e5 i hi j hj]
            exact hr.ext hc he
      · cases h
    · cases h
  · split at h
    · rename_i m cs j
      obtain ⟨hb, h'⟩ := bif_some h
      clear h
      simp only [Option.some.injEq] at h'; subst h'
      rw [Bool.and_eq_true] at hb
      have e1 := Nat.eq_of_beq_eq_true hb.1
      have e2 := Nat.eq_of_beq_eq_true hb.2
      subst e1; subst e2
      have e := hp _ (List.mem_singleton.2 rfl)
      refine .pure ?_
      cases hr with
      | pure hr => cases hr.ext hc he with
        | rptr hR u h1 h2 h3 => exact .rptr hR u h1 h2 fun q hq => by rw [← e q hq]; exact h3 q hq
    · cases h
  · split at h
    · obtain ⟨hb, _⟩ := bif_some h
      have e := Nat.eq_of_beq_eq_true hb
      subst e
      obtain ⟨vs, rfl, hl, _⟩ := hr.clo_inv
      have : vs = #[] := Array.size_eq_zero_iff.1 (by rw [← hl]; rfl)
      subst this
      exact .pure (.clo rfl fun j a v ha _ => by simp at ha)
    · cases h
  · split at h
    · simp only [Option.some.injEq] at h; subst h
      have e := hp _ (List.mem_singleton.2 rfl)
      subst e
      cases hr with | pure hr => cases hr; exact .pure (.val _)
    · cases h
  · cases h
theorem leL_get {le : AV → AV → Option (List Prop)} : ∀ {l l' : List AV} {ps : List Prop}, leL le l l' = some ps → (∀ p ∈ ps, p) → l.length = l'.length ∧ ∀ (j : Nat) a b, l[j]? = some a → l'[j]? = some b → ∃ qs, le a b = some qs ∧ ∀ p ∈ qs, p
  | [], [], ps, h, hp => ⟨rfl, fun j a b ha _ => by simp at ha⟩
  | [], _ :: _, ps, h, hp => by simp [leL] at h
  | _ :: _, [], ps, h, hp => by simp [leL] at h
  | a :: l, b :: l', ps, h, hp => by
    unfold leL at h
    split at h
    · rename_i p q hpp hqq
      simp only [Option.some.injEq] at h; subst h
      obtain ⟨h1, h2⟩ := leL_get hqq (fun x hx => hp x (by simp [hx]))
      refine ⟨by simp [h1], fun j x y hx hy => ?_⟩
      cases j with
      | zero =>
        simp at hx hy
        subst hx; subst hy
        exact ⟨p, hpp, fun x hx => hp x (by simp [hx])⟩
      | succ j => exact h2 j x y (by simpa using hx) (by simpa using hy)
    · cases h
/-- what the change of names asks of blocks -/
structure RenOk (cx : Cx) (r : List (Nat × Nat)) (hI : Nat → Option Blk) : Prop where
  B : ∀ id id' b b', lookO r id' = some id → cx.H id = some b → hI id' = some b' → (∀ m n f, b.c = .rows m n f → ∃ f', b'.c = .rows m n f') ∧ (b.c.isBox = true → b'.c.isBox = true)
  N : ∀ id' b', lookO r id' = none → hI id' = some b' → ∃ m n f, b'.c = .rows m n f ∧ n = 0
theorem le1_sound (hc : CRep cx) {r : List (Nat × Nat)} {hI : Nat → Option Blk} (ho : RenOk cx r hI) {a b : AV} {ps : List Prop} (h : le1 cx.H hI r a b = some ps) (hp : ∀ p ∈ ps, p) {v : Value} (hr : Rep cx a v) : Rep (cx.ren r hI) b v := by
  unfold le1 at h
  split at h
  · split at h
    · rename_i cs' _ cs
      obtain ⟨h1, h2⟩ := leL_get h hp
      obtain ⟨vs, rfl, k1, k2, k3⟩ := hr.agg_inv
      refine .agg (by rw [← h1]; exact k1) k2 fun j x v hx hv => ?_
      have hlt : j < cs.length := by rw [h1]; exact (List.getElem?_eq_some_iff.1 hx).1
      obtain ⟨qs, q1, q2⟩ := h2 j cs[j] x (by simp [hlt]) hx
      exact leC_sound hc q1 q2 ho.B ho.N (k3 j _ v (by simp [hlt]) hv)
    · cases h
  · split at h
    · rename_i f' c cs' _ f cs
      obtain ⟨hb, h'⟩ := bif_some h
      clear h
      have e := Nat.eq_of_beq_eq_true hb
      subst e
      obtain ⟨h1, h2⟩ := leL_get h' hp
      obtain ⟨vs, rfl, k1, k3⟩ := hr.clo_inv
      refine .clo (by rw [← h1]; exact k1) fun j x v hx hv => ?_
      have hlt : j < cs.length := by rw [h1]; exact (List.getElem?_eq_some_iff.1 hx).1
      obtain ⟨qs, q1, q2⟩ := h2 j cs[j] x (by simp [hlt]) hx
      exact leC_sound hc q1 q2 ho.B ho.N (k3 j _ v (by simp [hlt]) hv)
    · cases h
  · exact leC_sound hc h hp ho.B ho.N hr
theorem leV_sound (hc : CRep cx) {r : List (Nat × Nat)} {hI : Nat → Option Blk} (ho : RenOk cx r hI) {a b : AV} {ps : List Prop} (h : leV cx.H hI r a b = some ps) (hp : ∀ p ∈ ps, p) {v : Value} (hr : Rep cx a v) : Rep (cx.ren r hI) b v := by
  unfold leV at h
  split at h
  · split at h
    · rename_i cs' _ cs
      obtain ⟨h1, h2⟩ := leL_get h hp
      obtain ⟨vs, rfl, k1, k3⟩ := hr.tup_inv
      refine .tup (by rw [← h1]; exact k1) fun j x v hx hv => ?_
      have hlt : j < cs.length := by rw [h1]; exact (List.getElem?_eq_some_iff.1 hx).1
      obtain ⟨qs, q1, q2⟩ := h2 j cs[j] x (by simp [hlt]) hx
      exact le1_sound hc ho q1 q2 (k3 j _ v (by simp [hlt]) hv)
    · cases h
  · exact le1_sound hc ho h hp hr
theorem leH_mem {hs hI : Nat → Option Blk} {r : List (Nat × Nat)} : ∀ {l : List (Nat × Blk)} {ps : List Prop}, leH hs hI r l = some ps → (∀ p ∈ ps, p) → ∀ id' b', (id', b') ∈ l →
    (∃ id b qs, lookO r id' = some id ∧ hs id = some b ∧ leB hs hI r (some b) b' = some qs ∧ ∀ p ∈ qs, p) ∨ (lookO r id' = none ∧ ∃ qs, leB hs hI r none b' = some qs ∧ ∀ p ∈ qs, p)
  | [], ps, h, hp, id', b', hm => by simp at hm
  | (k, x) :: l, ps, h, hp, id', b', hm => by
    unfold leH at h
    split at h
    · rename_i id hid
      split at h
      · rename_i b hb
        obtain ⟨p, hpp, h⟩ := Option.bind_eq_some_iff.1 h
        obtain ⟨q, hqq, rfl⟩ := Option.map_eq_some_iff.1 h
        rcases List.mem_cons.1 hm with e | e
        · cases e
          exact .inl ⟨id, b, p, hid, hb, hpp, fun x hx => hp x (by simp [hx])⟩
        · exact leH_mem hqq (fun x hx => hp x (by simp [hx])) _ _ e
      · cases h
    · rename_i hid
      obtain ⟨p, hpp, h⟩ := Option.bind_eq_some_iff.1 h
      obtain ⟨q, hqq, rfl⟩ := Option.map_eq_some_iff.1 h
      rcases List.mem_cons.1 hm with e | e
      · cases e
        exact .inr ⟨hid, p, hpp, fun x hx => hp x (by simp [hx])⟩
      · exact leH_mem hqq (fun x hx => hp x (by simp [hx])) _ _ e
theorem leE_mem {hs hI : Nat → Option Blk} {r : List (Nat × Nat)} {env : Nat → AV} : ∀ {l : List (Nat × AV)} {ps : List Prop}, leE hs hI r env l = some ps → (∀ p ∈ ps, p) → ∀ t, look .junk l t = .junk ∨ ∃ qs, leV hs hI r (env t) (look .junk l t) = some qs ∧ ∀ p ∈ qs, p
  | [], ps, h, hp, t => .inl rfl
  | (k, x) :: l, ps, h, hp, t => by
    unfold leE at h
    obtain ⟨p, hpp, h⟩ := Option.bind_eq_some_iff.1 h
    obtain ⟨q, hqq, rfl⟩ := Option.map_eq_some_iff.1 h
    unfold look
    cases hb : Nat.beq t k with
    | true =>
      have e := Nat.eq_of_beq_eq_true hb
      subst e
      exact .inr ⟨p, hpp, fun x hx => hp x (by simp [hx])⟩
    | false => exact leE_mem hqq (fun x hx => hp x (by simp [hx])) t
theorem leB_some {hs hI : Nat → Option Blk} {r : List (Nat × Nat)} {b b' : Blk} {ps : List Prop} (h : leB hs hI r (some b) b' = some ps) (hp : ∀ p ∈ ps, p) : b.e = b'.e ∧ b.frz = b'.frz ∧ ((∃ cs cs' qs, b.c = .box cs ∧ b'.c = .box cs' ∧ leL (leC hs hI r) cs cs' = some qs ∧ ∀ p ∈ qs, p) ∨
    ∃ m n f f', b.c = .rows m n f ∧ b'.c = .rows m n f' ∧ ∀ i, i < n → ∀ j, j < m → f i j = f' i j) := by
  unfold leB at h
  simp only at h
  obtain ⟨hb, h'⟩ := bif_some h
  clear h
  rw [Bool.and_eq_true] at hb
  refine ⟨Nat.eq_of_beq_eq_true hb.1, by simpa using hb.2, ?_⟩
  split at h'
  · rename_i cs' hc'
    split at h'
    · rename_i cs hc
      exact .inl ⟨cs, cs', ps, hc, hc', h', hp⟩
    · cases h'
  · rename_i m' n' f' hc'
    split at h'
    · rename_i m n f hc
      obtain ⟨hm, h2⟩ := bif_some h'
      simp only [Option.some.injEq] at h2; subst h2
      have e := Nat.eq_of_beq_eq_true hm
      subst e
      have e1 := hp (n = n') (by simp)
      subst e1
      exact .inr ⟨m, n, f, f', hc, hc', hp _ (by simp)⟩
    · cases h'
theorem leB_none {hs hI : Nat → Option Blk} {r : List (Nat × Nat)} {b' : Blk} {ps : List Prop} (h : leB hs hI r none b' = some ps) (hp : ∀ p ∈ ps, p) : ∃ m f, b'.c = .rows m 0 f ∧ b'.frz = false := by
  unfold leB at h
  split at h
  · split at h
    · rename_i m n f hc
      cases hf : b'.frz with
      | true => simp [hf] at h
      | false =>
        simp only [hf, cond_false, Option.some.injEq] at h; subst h
        have e := hp _ (List.mem_singleton.2 rfl)
        subst e
        exact ⟨m, f, hc, rfl⟩
    · cases h
  · rename_i heq; cases heq
theorem leS_sound (hc : CRep cx) {r : List (Nat × Nat)} {st : St} {I : Sm} {ps : List Prop} (hH : cx.H = st.heap) (h : leS r st I = some ps) (hp : ∀ p ∈ ps, p) {tmp : Nat → Value} (hr : ∀ t, Rep cx (st.env t) (tmp t)) :
    CRep (cx.ren r (lookO I.heap)) ∧ (∀ t, Rep (cx.ren r (lookO I.heap)) (I.st.env t) (tmp t)) ∧ (∀ i, (lookO I.heap i).isSome = true → i < I.next) := by
  unfold leS at h
  obtain ⟨hb, h'⟩ := bif_some h
  clear h
  simp only [Bool.and_eq_true] at hb
  obtain ⟨⟨⟨⟨b1, b2⟩, b3⟩, b4⟩, b5⟩ := hb
  obtain ⟨p, hpp, h⟩ := Option.bind_eq_some_iff.1 h'
  obtain ⟨q, hqq, rfl⟩ := Option.map_eq_some_iff.1 h
  rw [← hH] at hpp hqq
  have hHm := leH_mem hpp (fun x hx => hp x (by simp [hx]))
  have hEm := leE_mem hqq (fun x hx => hp x (by simp [hx]))
  have n1 := nodupB_spec b1
  have ho : RenOk cx r (lookO I.heap) := by
    refine ⟨fun id id' b b' hid hb hb' => ?_, fun id' b' hid hb' => ?_⟩
    · rcases hHm id' b' (lookO_mem hb') with ⟨i2, x, qs, k1, k2, k3, k4⟩ | ⟨k1, _⟩
      · rw [hid] at k1
        cases k1
        rw [hb] at k2
        cases k2
        obtain ⟨_, _, h3⟩ := leB_some k3 k4
        rcases h3 with ⟨cs, cs', _, c1, c2, _⟩ | ⟨m, n, f, f', c1, c2, _⟩
        · exact ⟨fun m n f e => (by rw [c1] at e; cases e), fun _ => (by rw [c2]; rfl)⟩
        · exact ⟨fun m n f e => (by rw [c1] at e; cases e; exact ⟨f', c2⟩), fun e => (by rw [c1] at e; cases e)⟩
      · rw [hid] at k1; cases k1
    · rcases hHm id' b' (lookO_mem hb') with ⟨i2, x, qs, k1, k2, k3, k4⟩ | ⟨k1, qs, k3, k4⟩
      · rw [hid] at k1; cases k1
      · obtain ⟨m, f, c1, _⟩ := leB_none k3 k4
        exact ⟨m, 0, f, c1, rfl⟩
  have he := ren_ext hc r (lookO I.heap)
  refine ⟨⟨fun id' b' hb' => ?_, fun i j g c c' hi hj h1 h2 => ?_, fun g hg => ?_, hc.blt⟩, fun t => ?_, fun i hi => ?_⟩
  · rcases hHm id' b' (lookO_mem hb') with ⟨id, b, qs, k1, k2, k3, k4⟩ | ⟨k1, qs, k3, k4⟩
    · obtain ⟨e1, e2, h3⟩ := leB_some k3 k4
      have hφ : (cx.ren r (lookO I.heap)).φ id' = cx.φ id := by show (lookO r id').bind cx.φ = _; rw [k1]; rfl
      have hfr : ∀ g c, cx.φ id = some (g, c) → (if b.frz then cx.R g else ¬ cx.R g) → (if b'.frz then (cx.ren r (lookO I.heap)).R g else ¬ (cx.ren r (lookO I.heap)).R g) := by
        intro g c hg hf
        rw [← e2]
        cases hfz : b.frz with
        | true => rw [hfz] at hf; exact .inl hf
        | false =>
          rw [hfz] at hf
          rintro (h | ⟨i2, x, c2, x1, x2, x3⟩)
          · exact hf h
          · have := hc.inj i2 id g c2 c (by rw [x1]; rfl) (by rw [k2]; rfl) x2 hg
            subst this
            exact x3 _ (lookO_mem k1)
      rcases h3 with ⟨cs, cs', qs', c1, c2, c3, c4⟩ | ⟨m, n, f, f', c1, c2, c3⟩
      · obtain ⟨g, cur, r1, r2, r3, r4, r5⟩ := box_of hc k2 c1
        obtain ⟨l1, l2⟩ := leL_get c3 c4
        unfold HB
        rw [c2]
        refine ⟨g, cur, hφ.trans r1, by rw [← e1]; exact r2, by rw [← l1]; exact r3.len.symm, fun j a ha => ?_, r4, hfr g 1 r1 r5⟩
        have hlt : j < cs.length := by rw [l1]; exact (List.getElem?_eq_some_iff.1 ha).1
        have hlt' : j < cur.size := by rw [← r3.len]; exact hlt
        obtain ⟨qs2, q1, q2⟩ := l2 j cs[j] a (by simp [hlt]) ha
        exact ⟨cur[j], Array.getElem?_eq_getElem hlt', r3.one _ _ (Array.getElem?_eq_getElem hlt'), leC_sound hc q1 q2 ho.B ho.N (r3.rep j _ _ (by simp [hlt]) (Array.getElem?_eq_getElem hlt'))⟩
      · have hold := hc.hb id b k2
        unfold HB at hold ⊢
        rw [c1] at hold
        rw [c2]
        rcases hold with ⟨p1, p2⟩ | ⟨g, cap, cur, p1, p2, p3, p4, p5, p6, p7, p8⟩
        · exact .inl ⟨hφ.trans p1, p2⟩
        · refine .inr ⟨g, cap, cur, hφ.trans p1, by rw [← e1]; exact p2, p3, p4, p5, fun i hi j hj => ?_, p7, hfr g cap p1 p8⟩
          obtain ⟨u, hu, ho', hr'⟩ := p6 i hi j hj
          exact ⟨u, hu, ho', by rw [← c3 i hi j hj]; exact hr'.ext hc he⟩
    · obtain ⟨m, f, c1, c2⟩ := leB_none k3 k4
      unfold HB
      rw [c1]
      refine .inl ⟨?_, rfl⟩
      show (lookO r id').bind cx.φ = none
      rw [k1]; rfl
  · have hx : ∀ i g c, ((lookO I.heap) i).isSome = true → (cx.ren r (lookO I.heap)).φ i = some (g, c) → ∃ id, (i, id) ∈ r ∧ (cx.H id).isSome = true ∧ cx.φ id = some (g, c) := by
      intro i g c hi h1
      have h1' : (lookO r i).bind cx.φ = some (g, c) := h1
      obtain ⟨id, hid, h2⟩ := Option.bind_eq_some_iff.1 h1'
      obtain ⟨b', hb'⟩ := Option.isSome_iff_exists.1 hi
      rcases hHm i b' (lookO_mem hb') with ⟨i2, b, qs, k1, k2, k3, k4⟩ | ⟨k1, _⟩
      · rw [hid] at k1
        cases k1
        exact ⟨id, lookO_mem hid, by rw [k2]; rfl, h2⟩
      · rw [hid] at k1; cases k1
    obtain ⟨i1, m1, s1, f1⟩ := hx i g c hi h1
    obtain ⟨i2, m2, s2, f2⟩ := hx j g c' hj h2
    have := hc.inj i1 i2 g c c' s1 s2 f1 f2
    subst this
    exact inj_snd n1 m1 m2
  · rcases hg with hg | ⟨id, b, c, h1, h2, _⟩
    · exact hc.rlt g hg
    · exact ((hc.hb id b h1).at_ h2).1
  · rcases hEm t with e | ⟨qs, q1, q2⟩
    · show Rep _ (look .junk I.env t) _
      rw [e]
      exact .pure (.junk _)
    · exact leV_sound hc ho q1 q2 (hr t)
  · obtain ⟨b', hb'⟩ := Option.isSome_iff_exists.1 hi
    have := List.all_eq_true.1 b4 _ (lookO_mem hb')
    simpa [Nat.blt_eq] using this
end
end Go.Proofs.Ytdbnfdcjibgikaa.Rx
