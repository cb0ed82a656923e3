/- Merged: Rx30, ItBw, R1, R2, R3, R4, R5, R6, R7. -/
import Derived.Test.YtjfdffjdjbakbaaMaC
import Derived.RangeFuncBound
import Derived.RangeFuncCalls
import Derived.WalkKit
import Derived.OwnWalkIn
import Derived.TacticsInMore
import Derived.LoopNIn
import Derived.LoopIn
set_option linter.unusedVariables false
set_option linter.unusedSimpArgs false
set_option maxRecDepth 100000
namespace Go.Proofs.Ytjfdffjdjbakbaa.Rx
section
open Go.RowKit
section
variable {P : Program}
/-- **one round, from one context between rounds to the next** -/
theorem Btw.round {nt : Nat} {ps : List Nat} {xk : List AV} {assign body : Code} {I : Sm} {Hk Hk' : List (Nat × Blk)} {x : X} (hr : Rnd P nt ps xk assign body I Hk x Hk') {cx0 : Cx} {a : Act} {l D fn : Nat} {pa : Array Tmp} {W : World} {cx : Cx}
    (h : Btw P cx0 I a nt l D (recOf' fn a pa assign body D .ready none) Hk W cx) (hB : ¬ cx.B l) (hBD : ¬ cx.B D) (hne : D ≠ l) (hkeep : (I.env.all fun q => keepA q.2) = true) (hps : ps = pa.toList) (hlt : ∀ p ∈ ps, p < nt)
    {us : Array Value} (hl1 : xk.length = us.size) (hl2 : xk.length = ps.length) (hu : ∀ (j : Nat) a u, xk[j]? = some a → us[j]? = some u → Rep cx a u) {m : Nat} {jump : Option Code} (hj : jump = match x with | .nrm => none | .ext id => some (.exit id) | .ret => some .ret) :
    YieldAt Fence.wide m P l us W fun e W' => e = .returned (.bool jump.isNone) ∧ ∃ cx', Btw P cx0 I a nt l D (recOf' fn a pa assign body D (if jump.isNone then .ready else .done) jump) Hk' W' cx' ∧ cx'.B = cx.B := by
  have hw := h.w
  subst hw
  letI : Dfs := nil0
  obtain ⟨st1, st2, r, qs, hP1, hP2, hbx, hle, hqs⟩ := hr
  have hs := h.s
  have hy := run_yield (P := P) (args := us) h.hl (by show us.size = pa.size; rw [← hl1, hl2, hps, Array.length_toList])
  refine ⟨fn, _, assign, body, hy, roundIn_of_wpIn trivial ?_⟩
  clear hy
  -- the round's first state
  have ha0 : (({ tmps := (pa.zip us).foldl (fun t q => t.setIfInBounds q.1 q.2) a.tmps, defers := [] } : Act)).tmps.size = nt := by
    show ((pa.zip us).foldl (fun t q => t.setIfInBounds q.1 q.2) a.tmps).size = nt
    rw [← Array.foldl_toList, fold_size]
    exact hs.sz
  have hs1 : @SRep nil0 cx ⟨envP I.st.env ps xk, lookO Hk, I.next⟩ { tmps := (pa.zip us).foldl (fun t q => t.setIfInBounds q.1 q.2) a.tmps, defers := [] } nt := by
    refine @SRep.mk nil0 _ _ _ _ hs.H (@SRep.c nil0 _ _ _ _ hs) (fun t => ?_) hs.lt ha0 rfl
    show Rep cx _ (((pa.zip us).foldl (fun t q => t.setIfInBounds q.1 q.2) a.tmps).getD t undef)
    rw [← Array.foldl_toList, Array.toList_zip, ← hps]
    exact envP_rep ps xk us.toList I.st.env a.tmps (by simpa using hl1) (by rw [← hl2, hl1, Array.length_toList]) (fun p hp => by rw [hs.sz]; exact hlt p hp) (fun t => @SRep.env nil0 _ _ _ _ hs t) (fun j a u h1 h2 => hu j a u h1 (by simpa using h2)) t
  have hS : ∀ E ∈ [l, D], ¬ cx.R E ∧ ∃ o, cx.w.heap[E]? = some o ∧ o.isCells = false := fun E hE => by
    rcases List.mem_cons.1 hE with rfl | hE
    · exact ⟨h.hR, _, h.hl, rfl⟩
    · rw [List.mem_singleton.1 hE]; exact ⟨h.hRD, _, h.hD, rfl⟩
  refine hP1 l m (cx.plus [l, D]) _ (@SRep.plus nil0 _ _ _ _ hs1 [l, D] fun E hE => (hS E hE).2) _ (by rintro ⟨_, _, h⟩; exact h) fun cxa aa hsa hta => ?_
  have ka := plus_keeps hta.ext hS
  have kl := ka l (by simp); have kD := ka D (by simp)
  have hal : cxa.w.heap[l]? = some (.loop (recOf' fn a pa assign body D .ready none)) := kl.1.trans h.hl
  have haD : cxa.w.heap[D]? = some (.deferred (some [])) := kD.1.trans h.hD
  have hsa' : @SRep nil0 (cxa.back cx) st1 aa nt := @SRep.back nil0 _ _ _ _ _ hsa fun g hg => by rw [hta.ext.B]; exact .inl hg
  refine ⟨_, run_beginRound hal rfl, ?_⟩
  -- the record is busy
  have hlt1 : l < cxa.w.heap.size := (Array.getElem?_eq_some_iff.1 hal).1
  have hsb : @SRep nil0 ((cxa.back cx).poke l (.loop (recOf' fn a pa assign body D .busy none))) st1 aa nt := @SRep.poke nil0 _ _ _ _ hsa' l _ _ hal rfl kl.2 hB
  have hbl : (cxa.w.putObj l (.loop (recOf' fn a pa assign body D .busy none))).heap[l]? = some (.loop (recOf' fn a pa assign body D .busy none)) := World.putObj_heap_same hlt1
  have hbD : (cxa.w.putObj l (.loop (recOf' fn a pa assign body D .busy none))).heap[D]? = some (.deferred (some [])) := (World.putObj_heap_other hne).trans haD
  have hS2 : ∀ E ∈ [l, D], ¬ ((cxa.back cx).poke l (.loop (recOf' fn a pa assign body D .busy none))).R E ∧ ∃ o, ((cxa.back cx).poke l (.loop (recOf' fn a pa assign body D .busy none))).w.heap[E]? = some o ∧ o.isCells = false := fun E hE => by
    rcases List.mem_cons.1 hE with rfl | hE
    · exact ⟨kl.2, _, hbl, rfl⟩
    · rw [List.mem_singleton.1 hE]; exact ⟨kD.2, _, hbD, rfl⟩
  have hstb : Stab cx ((cxa.back cx).poke l (.loop (recOf' fn a pa assign body D .busy none))) := hta.back.trans (poke_stab _ kl.2 hB)
  refine hP2 l m (((cxa.back cx).poke l (.loop (recOf' fn a pa assign body D .busy none))).plus [l, D]) _ (@SRep.plus nil0 _ _ _ _ hsb [l, D] fun E hE => (hS2 E hE).2) _ (by rintro ⟨_, _, h⟩; exact h) fun cxc ac hsc htc => ?_
  -- what is known is named anew
  obtain ⟨m1, m2, m3⟩ := leS_sound (@SRep.c nil0 _ _ _ _ hsc) (@SRep.H nil0 _ _ _ _ hsc) hle hqs (@SRep.env nil0 _ _ _ _ hsc)
  have hre := ren_ext (@SRep.c nil0 _ _ _ _ hsc) r (lookO Hk')
  have hed : Ext (((cxa.back cx).poke l (.loop (recOf' fn a pa assign body D .busy none))).plus [l, D]) (cxc.ren r (lookO Hk')) := htc.ext.trans hre
  have kc := plus_keeps hed hS2
  have ml := kc l (by simp); have mD := kc D (by simp)
  have hcl : cxc.w.heap[l]? = some (.loop (recOf' fn a pa assign body D .busy none)) := ml.1.trans hbl
  have hcD : cxc.w.heap[D]? = some (.deferred (some [])) := mD.1.trans hbD
  have hbst : BSt cx ((cxc.ren r (lookO Hk')).back ((cxa.back cx).poke l (.loop (recOf' fn a pa assign body D .busy none)))) := by
    refine ⟨hstb.ext.trans hed.back, fun id b hb hx => ?_⟩
    obtain ⟨b1, h1, h2, h3⟩ := hstb.bst.box id b hb hx
    obtain ⟨b2, h4, h5, h6⟩ := htc.bst.box id b1 h1 h2
    have hb' : lookO Hk id = some b := by rw [← hb, @SRep.H nil0 _ _ _ _ hs]
    obtain ⟨q1, b', q2, q3⟩ := boxOk_some hbx hb' hx
    refine ⟨b', q2, q3, ?_⟩
    show (lookO r id).bind cxc.φ = cx.φ id
    rw [q1]
    exact h6.trans h3
  have hsd : @SRep nil0 ((cxc.ren r (lookO Hk')).back ((cxa.back cx).poke l (.loop (recOf' fn a pa assign body D .busy none)))) ⟨I.st.env, lookO Hk', I.next⟩ a nt := by
    have hB2 : ∀ g, cx.B g → (cxc.ren r (lookO Hk')).B g := fun g hg => by rw [hed.B]; exact .inl hg
    have hc2 : @SRep nil0 (cxc.ren r (lookO Hk')) ⟨fun _ => .junk, lookO Hk', I.next⟩ ac nt := @SRep.mk nil0 _ _ _ _ rfl m1 (fun t => .pure (.junk _)) m3 (@SRep.sz nil0 _ _ _ _ hsc) (@SRep.df nil0 _ _ _ _ hsc)
    have hc3 := @SRep.back nil0 ((cxa.back cx).poke l (.loop (recOf' fn a pa assign body D .busy none))) _ _ _ _ hc2 hB2
    refine @SRep.mk nil0 _ _ _ _ rfl (@SRep.c nil0 _ _ _ _ hc3) (fun t => ?_) m3 (@SRep.sz nil0 _ _ _ _ hs) (@SRep.df nil0 _ _ _ _ hs)
    refine (@SRep.env nil0 _ _ _ _ hs t).keep ?_ (@SRep.c nil0 _ _ _ _ hs) hbst
    show keepA (look .junk I.env t) = true
    have : ∀ (L : List (Nat × AV)), (L.all fun q => keepA q.2) = true → keepA (look .junk L t) = true := fun L => by
      induction L with
      | nil => intro _; rfl
      | cons q L ih =>
        obtain ⟨k, v⟩ := q
        intro hL
        rw [List.all_cons, Bool.and_eq_true] at hL
        rw [look]
        cases Nat.beq t k with
        | true => exact hL.1
        | false => exact ih hL.2
    exact this I.env hkeep
  have hbtw : Btw P cx0 I a nt l D (recOf' fn a pa assign body D .busy none) Hk' cxc.w ((cxc.ren r (lookO Hk')).back ((cxa.back cx).poke l (.loop (recOf' fn a pa assign body D .busy none)))) :=
    ⟨rfl, hsd, h.bst.trans hbst.ext, hcl, ml.2, hcD, mD.2⟩
  have hend := run_endRound (P := P) jump hcl
  have hfin : e_post P l jump cxc.w (fun e W' => e = .returned (.bool jump.isNone) ∧ ∃ cx', Btw P cx0 I a nt l D (recOf' fn a pa assign body D (if jump.isNone then .ready else .done) jump) Hk' W' cx' ∧ cx'.B = cx.B) :=
    ⟨_, _, hend, rfl, _, hbtw.turn hB hne _, rfl⟩
  subst hj
  cases x with
  | nrm => exact hfin
  | ext id => exact hfin
  | ret => exact hfin
/-- **A loop over a function: m rounds that go on, and one that leaves, or none.** -/
theorem Ok.range {nt : Nat} {g : Operand} {pa : Array Tmp} {assign body : Code} {gf : FuncId} {caps : List AV} {N m : Nat} {xs : Nat → List AV} {I : Sm} {F : Nat → List (Nat × Blk)} {x : X} {G : List (Nat × Blk)}
    (hg : evalA I.st.env g = .clo gf caps) (hcb : caps.all baseA = true) (hkeep : (I.env.all fun q => keepA q.2) = true) (hfo : fnOk P gf = true) (hit : IterC P gf caps N xs) (hpl : ∀ k, (xs k).length = pa.size) (hlt : ∀ p ∈ pa.toList, p < nt) (hF0 : F 0 = I.heap) (hm : m ≤ N)
    (hr : ∀ k, k < m → Rnd P nt pa.toList (xs k) assign body I (F k) .nrm (F (k + 1)))
    (hend : (m = N ∧ x = .nrm ∧ G = F N) ∨ (m < N ∧ x ≠ .nrm ∧ Rnd P nt pa.toList (xs m) assign body I (F m) x G)) : Ok P nt (.rangeFunc g pa assign body) I.st x (⟨I.env, G, I.next⟩ : Sm).st := by
  intro d cx a hs Q hQ
  obtain ⟨fo, g1, g2, g3⟩ := fnOk_some hfo
  obtain ⟨bd, hbd⟩ := Option.isSome_iff_exists.1 g2
  have hge := rep_eval hs.env g
  rw [hg] at hge
  obtain ⟨vs, hv, hvl, hvr⟩ := hge.clo_inv
  refine (wpIn_wide (n := 2)).1 (wpIn_rangeFunc ?_)
  intro fn hfn
  obtain ⟨l, hl⟩ : ∃ l, l = cx.w.heap.size + 1 := ⟨_, rfl⟩
  obtain ⟨D, hD⟩ : ∃ D, D = cx.w.heap.size := ⟨_, rfl⟩
  obtain ⟨a0, ha0⟩ : ∃ a0 : Act, a0 = { tmps := a.tmps, defers := [] } := ⟨_, rfl⟩
  have hat : a0.tmps = a.tmps := by rw [ha0]
  obtain ⟨W1, hW1⟩ : ∃ W1, (cx.w.alloc (.deferred (some []))).alloc (.loop (recOf' fn a0 pa assign body D .ready none)) = W1 := ⟨_, rfl⟩
  have hb1 : Below cx.w.heap.size cx.w W1 := by rw [← hW1]; exact (((Below.refl _ _).alloc (Nat.le_refl _) _).alloc (by simp) _)
  have hW1l : W1.heap[l]? = some (.loop (recOf' fn a0 pa assign body D .ready none)) := by
    rw [← hW1, hl]; have := World.alloc_heap_new (cx.w.alloc (.deferred (some []))) (.loop (recOf' fn a0 pa assign body D .ready none)); rwa [World.size_alloc] at this
  have hW1D : W1.heap[D]? = some (.deferred (some [])) := by
    rw [← hW1, hD]; exact (Below.heap_alloc _ _ _ (by simp)).trans (World.alloc_heap_new cx.w _)
  have hne : D ≠ l := by omega
  have hnB : ∀ c : Cx, c.B = cx.B → ¬ c.B l ∧ ¬ c.B D := fun c e => by
    rw [e]
    exact ⟨fun h => by have := hs.c.blt l h; omega, fun h => by have := hs.c.blt D h; omega⟩
  have hs0 : @SRep nil0 cx ⟨I.st.env, lookO I.heap, I.next⟩ a0 nt := @SRep.mk nil0 _ _ _ _ hs.H hs.c (by rw [ha0]; exact hs.env) hs.lt (by rw [ha0]; exact hs.sz) (by rw [ha0]; rfl)
  have h0 : Btw P cx I a0 nt l D (recOf' fn a0 pa assign body D .ready none) (F 0) W1 ⟨W1, cx.R, cx.φ, cx.H, cx.B⟩ := by
    obtain ⟨k1, k2⟩ := below_keep hs.c hb1
    rw [hF0]
    exact ⟨rfl, SRep.moved hs0 k1 k2, k2.ext, hW1l, fun h => by have := hs.c.rlt l h; omega, hW1D, fun h => by have := hs.c.rlt D h; omega⟩
  refine ⟨l, [{ target := .collected D, args := #[] }], W1, { target := .fn (.func gf) vs, args := #[.func (.yield l) #[] #[]] }, W1, gf, #[.func (.yield l) #[] #[]] ++ vs, W1, ?_, ?_, ?_, ?_, by simp [Fence.wide], ?_⟩
  · rw [← hW1, hl, hD, ha0]; exact run_enterLoop_outer _ _ _ _ _
  · simp only [resolve, hv]
    simp [go_sem]
  · intro f' hf'; trivial
  · simp [invoke, go_sem, callFunc, g1, hbd, g3]
  have hfin : ∀ (st0 : LoopState) (pe : Option Code) (H : List (Nat × Blk)) (W2 : World) (c : Cx), Btw P cx I a0 nt l D (recOf' fn a0 pa assign body D st0 pe) H W2 c → c.B = cx.B → H = G →
      Q x.to { a with defers := [{ target := .collected D, args := #[] }] ++ a.defers } (W2.putObj l (.loop { recOf' fn a0 pa assign body D st0 pe with state := .exhausted })) := by
    intro st0 pe H W2 c hb hcB hH
    subst hH
    have ht := hb.turn (hnB c hcB).1 hne { recOf' fn a0 pa assign body D st0 pe with state := .exhausted }
    have hw : (c.poke l (.loop { recOf' fn a0 pa assign body D st0 pe with state := .exhausted })).w = W2.putObj l (.loop { recOf' fn a0 pa assign body D st0 pe with state := .exhausted }) := by
      show c.w.putObj l _ = _
      rw [hb.w]
    rw [← hw]
    have htmp := ht.s
    refine hQ ⟨D :: d.l⟩ (c.poke l (.loop { recOf' fn a0 pa assign body D st0 pe with state := .exhausted })) _ (@SRep.mk ⟨D :: d.l⟩ _ _ _ _ (@SRep.H nil0 _ _ _ _ htmp) (@SRep.c nil0 _ _ _ _ htmp) (fun t => ?_) (@SRep.lt nil0 _ _ _ _ htmp) ?_ ?_) ⟨ht.bst, fun e => (by cases e), [D], rfl, by simp, fun E hE => ?_⟩
    · show Rep _ _ (a.tmps.getD t undef)
      rw [← hat]
      exact @SRep.env nil0 _ _ _ _ htmp t
    · show a.tmps.size = nt
      rw [← hat]
      exact @SRep.sz nil0 _ _ _ _ htmp
    · show [_] ++ a.defers = _
      rw [hs.df]
      rfl
    · rw [List.mem_singleton.1 hE]
      exact ⟨by omega, ht.hRD, by rw [hw]; exact ht.hD⟩
  refine (hit cx.w cx.R vs hs.c.rlt hvl (fun j b v h1 h2 => (hvr j b v h1 h2).base (List.all_eq_true.1 hcb b (List.mem_of_getElem? h1))) (2 - 1) l
    (fun k W => k ≤ m ∧ ∃ c, Btw P cx I a0 nt l D (recOf' fn a0 pa assign body D .ready none) (F k) W c ∧ c.B = cx.B)
    (fun W => m < N ∧ ∃ c, Btw P cx I a0 nt l D (recOf' fn a0 pa assign body D .done (match x with | .nrm => none | .ext id => some (.exit id) | .ret => some .ret)) G W c ∧ c.B = cx.B)
    (fun k W W' ⟨hk, c, hb, hcB⟩ hbl => ⟨hk, _, hb.below hbl, hcB⟩)
    (fun k W ⟨hk, c, hb, hcB⟩ g hg => by rw [← hb.w]; exact hb.bst.block g (hs.c.rlt g hg) (.inr hg)) ?_ W1 ⟨Nat.zero_le _, _, h0, rfl⟩).mono ?_
  · rintro k W us ⟨hk, c, hb, hcB⟩ hkN hul hu
    obtain ⟨hBl, hBD⟩ := hnB c hcB
    have hus : ∀ (j : Nat) a u, (xs k)[j]? = some a → us[j]? = some u → Rep c a u := fun j b u h1 h2 => by
      have := hu j b u h1 h2
      rw [← hb.w] at this
      exact .pure (this.mono (fun g hg => hb.bst.R g hg) fun _ _ => rfl)
    have hpl' : (xs k).length = pa.toList.length := by rw [Array.length_toList]; exact hpl k
    by_cases hkm : k < m
    · obtain ⟨f1, f2, f3, f4, f5, f6⟩ := hb.round (hr k hkm) hBl hBD hne hkeep rfl hlt hul hpl' hus (m := 2 - 1 - 1) (jump := none) rfl
      refine ⟨f1, f2, f3, f4, f5, f6.mono ?_⟩
      rintro e W' ⟨rfl, c', k1, k2⟩
      exact .inl ⟨rfl, hkm, c', k1, k2.trans hcB⟩
    · obtain rfl : k = m := by omega
      rcases hend with ⟨h1, _⟩ | ⟨h1, h2, h3⟩
      · omega
      · obtain ⟨f1, f2, f3, f4, f5, f6⟩ := hb.round h3 hBl hBD hne hkeep rfl hlt hul hpl' hus (m := 2 - 1 - 1) rfl
        refine ⟨f1, f2, f3, f4, f5, f6.mono ?_⟩
        rintro e W' ⟨rfl, c', k1, k2⟩
        right
        cases x with
        | nrm => exact absurd rfl h2
        | ext id => exact ⟨rfl, h1, c', k1, k2.trans hcB⟩
        | ret => exact ⟨rfl, h1, c', k1, k2.trans hcB⟩
  · rintro e W2 ⟨⟨v, rfl⟩, (⟨hN, c, hb, hcB⟩ | ⟨hlt', c, hb, hcB⟩)⟩
    · rcases hend with ⟨h1, h2, h3⟩ | ⟨h1, _⟩
      · have := hfin _ _ _ _ c hb hcB h3.symm
        rw [h2] at this
        exact ⟨none, _, run_endLoop hb.hl (by simp [recOf']), this⟩
      · omega
    · have := hfin _ _ _ _ c hb hcB rfl
      rcases hend with ⟨h1, _⟩ | ⟨h1, h2, h3⟩
      · omega
      cases x with
      | nrm => exact absurd rfl h2
      | ext id => exact ⟨some (.exit id), _, run_endLoop hb.hl (by simp [recOf']), wpIn_exit this⟩
      | ret => exact ⟨some .ret, _, run_endLoop hb.hl (by simp [recOf']), wpIn_ret this⟩
end
/-- the loops over functions of a text -/
def rfs : Code → List Code
  | .seq a b => rfs a ++ rfs b
  | .cond _ a b => rfs a ++ rfs b
  | .block _ c => rfs c
  | .loop c => rfs c
  | .rangeFunc g ps a b => .rangeFunc g ps a b :: rfs b
  | _ => []
def rfC (P : Program) (f : FuncId) (k : Nat) : Code := (rfs (codeOf P f)).getD k .skip
def isRf : Code → Bool
  | .rangeFunc .. => true
  | _ => false
def rfG : Code → Operand
  | .rangeFunc g _ _ _ => g
  | _ => .tmp 0
def rfP : Code → Array Tmp
  | .rangeFunc _ ps _ _ => ps
  | _ => #[]
def rfA : Code → Code
  | .rangeFunc _ _ a _ => a
  | _ => .skip
def rfB : Code → Code
  | .rangeFunc _ _ _ b => b
  | _ => .skip
theorem rf_eq {c : Code} (h : isRf c = true) : c = .rangeFunc (rfG c) (rfP c) (rfA c) (rfB c) := by
  cases c <;> first | rfl | cases h
theorem Ok.rangeC {P : Program} {nt : Nat} {c : Code} {gf : FuncId} {caps : List AV} {N m : Nat} {xs : Nat → List AV} {I : Sm} {F : Nat → List (Nat × Blk)} {x : X} {G : List (Nat × Blk)} (hc : isRf c = true)
    (hg : evalA I.st.env (rfG c) = .clo gf caps) (hcb : caps.all baseA = true) (hkeep : (I.env.all fun q => keepA q.2) = true) (hfo : fnOk P gf = true) (hit : IterC P gf caps N xs) (hpl : ∀ k, (xs k).length = (rfP c).size) (hlt : ((rfP c).toList.all fun p => Nat.blt p nt) = true) (hF0 : F 0 = I.heap) (hm : m ≤ N)
    (hr : ∀ k, k < m → Rnd P nt (rfP c).toList (xs k) (rfA c) (rfB c) I (F k) .nrm (F (k + 1)))
    (hend : (m = N ∧ x = .nrm ∧ G = F N) ∨ (m < N ∧ x ≠ .nrm ∧ Rnd P nt (rfP c).toList (xs m) (rfA c) (rfB c) I (F m) x G)) : Ok P nt c I.st x (⟨I.env, G, I.next⟩ : Sm).st := by
  have h := Ok.range (P := P) (nt := nt) (g := rfG c) (assign := rfA c) (body := rfB c) hg hcb hkeep hfo hit hpl (fun p hp => by have := List.all_eq_true.1 hlt p hp; rwa [Nat.blt_eq] at this) hF0 hm hr hend
  rw [← rf_eq hc] at h
  exact h
end
end Go.Proofs.Ytjfdffjdjbakbaa.Rx
namespace Go.Proofs.Ytjfdffjdjbakbaa
section
open Go.RowKit Rx
attribute [local go_sem] Oper.semAt_some
theorem wpListIn_loadA {F : Fence} {n s : Nat} {P : Program} {w : World} {ops : Array Oper} {rest : List Oper} {o : Oper} {a : Act} {Q : Exit → Act → World → Prop} (hgd : o.guard = none) (t : TypeId) (x : Operand) (ho : o.op = .load t x) (g off : Nat) (hx : a.eval x = .pointer (some ⟨g, off, none⟩))
    (hs : szOf P t = some s) (hg : aggOf P t = some true) (us : List Value) (hl : us.length = s) (hc : ∀ (j : Nat) u, us[j]? = some u → w.cell? ⟨g, off + j, none⟩ = some u) (hK : wpListIn F n P ops Q rest (a.put o.dst (.agg us.toArray)) w) : wpListIn F n P ops Q (o :: rest) a w := by
  refine wpListIn_plain hgd fun K hK' => ?_
  have hrun := run_loadAgg (P := P) hs hg us hl hc
  unfold Oper.wpIn
  refine ⟨?_, ?_⟩
  · simp [Oper.about, ho]
  · rw [Oper.semAt_plain F _ _ (by rw [ho]; intro c hc'; cases hc')]
    simp [execOp, ho, hx, hrun, Result.andThen]
    exact hK' _ _ hK
set_option maxRecDepth 100000 in
set_option maxHeartbeats 4000000 in
theorem backward_iter (n l gS oS len cap : Nat) (A : Option Addr) (u : Nat → Nat → Value) (b off : Nat) (hlen : len ≤ 1000000) (hA : 0 < len → A = some ⟨b, off, none⟩) (J : Nat → World → Prop) (Jx : World → Prop)
    (hJ : ∀ k W, J k W → W.cell? ⟨gS, oS, none⟩ = some (.slice A len cap) ∧ ∀ i, i < len → ∀ j, j < 8 → W.cell? ⟨b, off + (i * 8 + j), none⟩ = some (u i j))
    (hY : ∀ k W, J k W → k < len → YieldAt Fence.wide (n - 1) Try.prog l #[.int .i64 ((len - 1 - k : Nat) : Int), .agg #[u (len - 1 - k) 0, u (len - 1 - k) 1, u (len - 1 - k) 2, u (len - 1 - k) 3, u (len - 1 - k) 4, u (len - 1 - k) 5, u (len - 1 - k) 6, u (len - 1 - k) 7]] W fun e W' =>
      (e = .returned (.bool true) ∧ J (k + 1) W') ∨ (e = .returned (.bool false) ∧ Jx W'))
    (W : World) (h0 : J 0 W) : CallsIn Fence.wide n Try.prog 37 #[.func (.yield l) #[] #[], .pointer (some ⟨gS, oS, none⟩)] W fun e W' => (∃ v, e = .returned v) ∧ (J len W' ∨ Jx W') := by
  refine callsIn_of_wp Try.func37 rfl trivial ?_ rfl
  simp only [Try.ntmps37, List.size_toArray, List.length_cons, List.length_nil, Nat.reduceAdd, Nat.reduceSub, Array.replicate_succ, Array.replicate_zero, List.push_toArray, List.append_toArray, List.nil_append, List.cons_append]
  have hS := (hJ 0 W h0).1
  have hw1 : IntKind.i64.wrap ((len : Int) - 1) = (len : Int) - 1 := IntWalk.i64_in _ (by omega)
  gi_wp2
  gi_loopw [3] (fun i wr => ∃ k : Nat, k ≤ len ∧ i = .int .i64 ((len : Int) - 1 - k) ∧ J k wr) (fun i _ => (intOf i + 1).toNat)
  case atStart => exact ⟨0, Nat.zero_le _, by simp, h0⟩
  case round =>
    obtain ⟨k, hk, rfl, hJs⟩ := hrel
    have hSk := (hJ k wr hJs).1
    by_cases hlt : k < len
    · obtain ⟨m, hm⟩ : ∃ m, len - 1 - k = m := ⟨_, rfl⟩
      have hmi : (len : Int) - 1 - k = (m : Int) := by omega
      have hml : m < len := by omega
      have hA' := hA (by omega)
      subst hA'
      have hcs := (hJ k wr hJs).2 m hml
      obtain ⟨fn, tmps, assign, body, hy, hR⟩ := hY k wr hJs hlt
      rw [hm] at hy
      rw [hmi]
      have h01 : (0 : Int) ≤ (m : Int) := Int.natCast_nonneg m
      have h02 : (m : Int) < (len : Int) := by omega
      have hw2 : IntKind.i64.wrap ((m : Int) - 1) = (m : Int) - 1 := IntWalk.i64_in _ (by omega)
      clear hJ hY hA hmi
      gi_wp2_with (refine wpListIn_loadA rfl 36 _ rfl b (off + m * 8) (by first | rfl | (simp [Act.eval, adr_mk]; done)) (s := 8) (by kernel_rfl) (by kernel_rfl) [u m 0, u m 1, u m 2, u m 3, u m 4, u m 5, u m 6, u m 7] rfl (fun j v hv => ?_) ?_; · match j, hv with
        | 0, rfl => rw [Nat.add_assoc]; exact hcs 0 (by omega)
        | 1, rfl => rw [Nat.add_assoc]; exact hcs 1 (by omega)
        | 2, rfl => rw [Nat.add_assoc]; exact hcs 2 (by omega)
        | 3, rfl => rw [Nat.add_assoc]; exact hcs 3 (by omega)
        | 4, rfl => rw [Nat.add_assoc]; exact hcs 4 (by omega)
        | 5, rfl => rw [Nat.add_assoc]; exact hcs 5 (by omega)
        | 6, rfl => rw [Nat.add_assoc]; exact hcs 6 (by omega)
        | 7, rfl => rw [Nat.add_assoc]; exact hcs 7 (by omega))
      refine ⟨fun h => absurd h (by simp [Fence.wide]), ?_⟩
      refine hR.mono ?_
      rintro e W3 (⟨rfl, hJ3⟩ | ⟨rfl, hJx3⟩)
      · gi_wp2
        go_roundw
        case rel => exact ⟨k + 1, by omega, by congr 1; omega, hJ3⟩
        case measure => simp [intOf]
      · gi_wp2
        refine bodyPost_ret (results_none rfl _ _ _) rfl ?_
        exact ⟨⟨_, rfl⟩, .inr hJx3⟩
    · obtain rfl : k = len := by omega
      rw [show (k : Int) - 1 - k = -1 by omega]
      gi_wp2
      go_end0
      exact ⟨⟨_, rfl⟩, .inl hJs⟩
namespace Px
/-- what the iterator has caught -/
def bkP (l : List En) : AV := .rptr 1 (fun q => [enR l].getD q .junk) 0
def bkX (l : List En) (k : Nat) : List AV := [.int .i64 ((l.length - 1 - k : Nat) : Int), .agg (enA (l.getD (l.length - 1 - k) default))]
theorem bkC (l : List En) (hb : l.length ≤ 1000000) : IterC Try.prog 37 [bkP l] l.length (bkX l) := by
  intro w R vs hR hl hv n lp J Jx hJb hJR hY W hW
  obtain ⟨vs⟩ := vs
  match vs, hl, hv with
  | [v], _, hv =>
    have h0 := hv 0 _ v rfl rfl
    cases h0 with
    | @rptr _ _ g o _ hRg uu h1 h2 h3 =>
      have h4 := h3 0 (by omega)
      have h5 := h1 0 (by omega)
      obtain ⟨sv, hsv⟩ : ∃ sv, sv = uu 0 := ⟨_, rfl⟩
      rw [← hsv] at h4 h5
      cases h4 with
      | @row _ _ _ A cap u hn hc hA k1 k2 =>
        have hcell : ∀ (k : Nat) (W : World) (a : Addr) (x : Value), J k W → R a.block → w.cell? a = some x → W.cell? a = some x := fun k W a x hk ha hx => (World.cell?_of_block (hJR k W hk a.block ha)).trans hx
        obtain ⟨b, off, hbo⟩ : ∃ b off, 0 < l.length → A = some ⟨b, off, none⟩ ∧ R b ∧ ∀ i, i < l.length → ∀ j, j < 8 → w.cell? ⟨b, off + (i * 8 + j), none⟩ = some (u i j) := by
          by_cases h : 0 < l.length
          · obtain ⟨b, off, q1, q2, q3⟩ := hA (by omega)
            exact ⟨b, off, fun _ => ⟨q1, q2, q3⟩⟩
          · exact ⟨0, 0, fun h' => absurd h' h⟩
        refine backward_iter n lp g (o + 0) l.length cap A u b off hb (fun h => (hbo h).1) J Jx (fun k W hk => ⟨hcell k W _ _ hk hRg h5, fun i hi j hj => ?_⟩) (fun k W hk hkl => hY k W _ hk hkl rfl fun j a x ha hx => ?_) W hW
        · obtain ⟨q1, q2, q3⟩ := hbo (by omega)
          exact hcell k W _ _ hk q2 (q3 i hi j hj)
        · match j, ha, hx with
          | 0, ha, hx => cases ha; cases hx; exact .int _ _
          | 1, ha, hx =>
            cases ha; cases hx
            have hm : l.length - 1 - k < l.length := by omega
            have hu : ∀ j, j < 8 → RepP W R (enC (l.getD (l.length - 1 - k) default) j) (u (l.length - 1 - k) j) := fun j hj => (k2 _ hm j hj).mono (fun _ h => h) fun g hg => hJR k W hk g hg
            have hone : ∀ j, j < 8 → (u (l.length - 1 - k) j).oneCell' = true := fun j hj => k1 _ hm j hj
            refine .agg rfl (fun j v hv => ?_) fun j a v ha hv => ?_
            · match j, hv with
              | 0, rfl => exact hone 0 (by omega)
              | 1, rfl => exact hone 1 (by omega)
              | 2, rfl => exact hone 2 (by omega)
              | 3, rfl => exact hone 3 (by omega)
              | 4, rfl => exact hone 4 (by omega)
              | 5, rfl => exact hone 5 (by omega)
              | 6, rfl => exact hone 6 (by omega)
              | 7, rfl => exact hone 7 (by omega)
            · match j, ha, hv with
              | 0, rfl, rfl => exact hu 0 (by omega)
              | 1, rfl, rfl => exact hu 1 (by omega)
              | 2, rfl, rfl => exact hu 2 (by omega)
              | 3, rfl, rfl => exact hu 3 (by omega)
              | 4, rfl, rfl => exact hu 4 (by omega)
              | 5, rfl, rfl => exact hu 5 (by omega)
              | 6, rfl, rfl => exact hu 6 (by omega)
              | 7, rfl, rfl => exact hu 7 (by omega)
end Px
end
end Go.Proofs.Ytjfdffjdjbakbaa
namespace Go.Proofs.Ytjfdffjdjbakbaa.Px
section
open Go.RowKit Go.Proofs.Ytjfdffjdjbakbaa.Rx
def putB (p : Pg) (r : Int) (e : En) : Bool := dstB (atI p e.pc) && ((atI p e.pc).d == r)
def rI (p : Pg) (s : S8) (r : Int) (l : List En) : Sm := ⟨[(5, pgP p), (6, rgP s), (9, .rptr 1 (fun q => [AV.int .i64 r].getD q .junk) 0), (10, .bptr 0 0), (11, .bptr 1 0), (23, .clo 37 [bkP l])], [(0, ⟨0, false, 3, .box [.int .i64 0]⟩), (1, ⟨0, false, 4, .box [.bool false]⟩)], 2⟩
def rG (a : Int) (b : Bool) : List (Nat × Blk) := [(0, ⟨0, false, 3, .box [.int .i64 a]⟩), (1, ⟨0, false, 4, .box [.bool b]⟩)]
def rJ (p : Pg) (s : S8) (r : Int) (l : List En) (a : Int) (b : Bool) : Sm := ⟨(rI p s r l).env, rG a b, 2⟩
theorem ldst_1 (i : In) (h : i.kind = 1) : Vc (vcFn Try.prog false 14 [.agg (inA i)] [.fz, .bd true] [] (.tup [.int .i64 i.d, .bool true]) []) := vc_by (cj (show (i.kind == (1 : Int)) = true from by rw [h]; decide) (cj (rf i.d) (cj (rf true) trivial))) (by kernel_rfl)
theorem ldst_2 (i : In) (h : i.kind = 2) : Vc (vcFn Try.prog false 14 [.agg (inA i)] [.fz, .bd false, .bd true] [] (.tup [.int .i64 i.d, .bool true]) []) := vc_by (cj (show (i.kind == (1 : Int)) = false from by rw [h]; decide) (cj (show (i.kind == (2 : Int)) = true from by rw [h]; decide) (cj (rf i.d) (cj (rf true) trivial)))) (by kernel_rfl)
theorem ldst_4 (i : In) (h : i.kind = 4) : Vc (vcFn Try.prog false 14 [.agg (inA i)] [.fz, .bd false, .bd false, .bd true] [] (.tup [.int .i64 i.d, .bool true]) []) := vc_by (cj (show (i.kind == (1 : Int)) = false from by rw [h]; decide) (cj (show (i.kind == (2 : Int)) = false from by rw [h]; decide) (cj (show (i.kind == (4 : Int)) = true from by rw [h]; decide) (cj (rf i.d) (cj (rf true) trivial))))) (by kernel_rfl)
theorem ldst_0 (i : In) (h1 : i.kind ≠ 1) (h2 : i.kind ≠ 2) (h4 : i.kind ≠ 4) : Vc (vcFn Try.prog false 14 [.agg (inA i)] [.fz, .bd false, .bd false, .bd false] [] (.tup [.int .i64 0, .bool false]) []) := vc_by (cj (beq_eq_false_iff_ne.2 h1) (cj (beq_eq_false_iff_ne.2 h2) (cj (beq_eq_false_iff_ne.2 h4) (cj (rf (0 : Int)) (cj (rf false) trivial))))) (by kernel_rfl)
theorem ldstC_t (i : In) (h : dstB i = true) : PureC Try.prog 14 [.agg (inA i)] (.tup [.int .i64 i.d, .bool true]) [] := by
  by_cases h1 : i.kind = 1
  · exact PureC.vc (ldst_1 i h1)
  · by_cases h2 : i.kind = 2
    · exact PureC.vc (ldst_2 i h2)
    · by_cases h4 : i.kind = 4
      · exact PureC.vc (ldst_4 i h4)
      · exfalso; simp [dstB, h1, h2, h4] at h
theorem ldstC_f (i : In) (h : dstB i = false) : PureC Try.prog 14 [.agg (inA i)] (.tup [.int .i64 0, .bool false]) [] :=
  PureC.vc (ldst_0 i (fun e => by rw [dstB_1 e] at h; cases h) (fun e => by rw [dstB_2 e] at h; cases h) (fun e => by rw [dstB_4 e] at h; cases h))
theorem zR10 (p : Pg) (e : En) {Z : Prop} (z : Z) : (RF ((atI p e.pc).kind) (RF ((atI p e.pc).op) (RF ((atI p e.pc).d) (RF ((atI p e.pc).a.reg) (RF ((atI p e.pc).a.n) (RF ((atI p e.pc).b.reg) (RF ((atI p e.pc).b.n) (RF ((atI p e.pc).nm) (RF ((atI p e.pc).tg) Z))))))))) := ⟨rfl, rfl, rfl, rfl, rfl, rfl, rfl, rfl, rfl, z⟩
theorem zR11 (p : Pg) (e : En) {Z : Prop} (z : Z) : (RF p.ls.length (RR p.ls.length 2 (fun i j => rowL lbC p.ls i j) (RF p.is.length (RR p.is.length 9 (fun i j => rowL inC p.is i j) (RF e.pc Z))))) := ⟨rfl, fun _ _ _ _ => rfl, rfl, fun _ _ _ _ => rfl, rfl, z⟩
theorem zR12 (p : Pg) {Z : Prop} (z : Z) : (RF p.W (RF p.win (RF p.fuel (RF p.r0 (RF p.r1 (RF p.r2 (RF p.r3 (RF p.ms.length (RR p.ms.length 3 (fun i j => rowL mmC p.ms i j) Z))))))))) := ⟨rfl, rfl, rfl, rfl, rfl, rfl, rfl, rfl, fun _ _ _ _ => rfl, z⟩
theorem puts_t (p : Pg) (r : Int) (e : En) (h : dstB (atI p e.pc) = true) : Vc (vcFn Try.prog false 21 [.agg (pgA p), .agg (enA e), .int .i64 r] [.fz, .fz, .cl [.agg (pgA p), .int .i64 e.pc] (.agg (inA (atI p e.pc))) [], .cl [.agg (inA (atI p e.pc))] (.tup [.int .i64 (atI p e.pc).d, .bool true]) []] [] (.bool ((atI p e.pc).d == r)) []) := vc_by (zR12 p (zR11 p e (cj (atC p e.pc) (zR10 p e (cj (ldstC_t (atI p e.pc) h) (cj (rf ((atI p e.pc).d == r)) trivial)))))) (by kernel_rfl)
theorem puts_f (p : Pg) (r : Int) (e : En) (h : dstB (atI p e.pc) = false) : Vc (vcFn Try.prog false 21 [.agg (pgA p), .agg (enA e), .int .i64 r] [.fz, .fz, .cl [.agg (pgA p), .int .i64 e.pc] (.agg (inA (atI p e.pc))) [], .cl [.agg (inA (atI p e.pc))] (.tup [.int .i64 0, .bool false]) []] [] (.bool false) []) := vc_by (zR12 p (zR11 p e (cj (atC p e.pc) (zR10 p e (cj (ldstC_f (atI p e.pc) h) (cj (rf false) trivial)))))) (by kernel_rfl)
theorem putsC (p : Pg) (r : Int) (e : En) (b : Bool) (h : putB p r e = b) : PureC Try.prog 21 [.agg (pgA p), .agg (enA e), .int .i64 r] (.bool b) [] := by
  subst h
  unfold putB
  cases hd : dstB (atI p e.pc) with
  | true => rw [Bool.true_and]; exact PureC.vc (puts_t p r e hd)
  | false => rw [Bool.false_and]; exact PureC.vc (puts_f p r e hd)
theorem told_t (e : En) (h : e.dn = true) : Vc (vcFn Try.prog false 22 [.agg (enA e)] [.fz, .b false] [] (.tup [.int .i64 e.val, .bool true]) []) := vc_by (cj (show (!e.dn) = false from by rw [h]; rfl) (cj (rf e.val) (cj (rf true) trivial))) (by kernel_rfl)
theorem told_f (e : En) (h : e.dn = false) : Vc (vcFn Try.prog false 22 [.agg (enA e)] [.fz, .b true] [] (.tup [.int .i64 0, .bool false]) []) := vc_by (cj (show (!e.dn) = true from by rw [h]; rfl) (cj (rf (0 : Int)) (cj (rf false) trivial))) (by kernel_rfl)
theorem toldC (e : En) : PureC Try.prog 22 [.agg (enA e)] (.tup [.int .i64 (if e.dn then e.val else 0), .bool e.dn]) [] := by
  cases h : e.dn with
  | true => exact PureC.vc (told_t e h)
  | false => exact PureC.vc (told_f e h)
theorem zR13 (r : Int) (e : En) {Z : Prop} (z : Z) : (RF e.dn (RF e.kn (RF e.ft (RF r Z)))) := ⟨rfl, rfl, rfl, rfl, z⟩
theorem zR14 (p : Pg) (e : En) {Z : Prop} (z : Z) : (RF p.ls.length (RR p.ls.length 2 (fun i j => rowL lbC p.ls i j) (RF p.is.length (RR p.is.length 9 (fun i j => rowL inC p.is i j) (RF e.pc (RF e.val (RF e.adr (RF e.frm (RF e.nxt Z))))))))) := ⟨rfl, fun _ _ _ _ => rfl, rfl, fun _ _ _ _ => rfl, rfl, rfl, rfl, rfl, rfl, z⟩
theorem rd_no (p : Pg) (s : S8) (r : Int) (l : List En) (j : Int) (e : En) (h : PureC Try.prog 21 [.agg (pgA p), .agg (enA e), .int .i64 r] (.bool false) []) : Vc (vcRnd Try.prog false (ntOf Try.prog 7) (rfP (rfC Try.prog 7 0)).toList [.int .i64 j, .agg (enA e)] (rfA (rfC Try.prog 7 0)) (rfB (rfC Try.prog 7 0)) (rI p s r l) (rG 0 false) [.cl [.agg (pgA p), .agg (enA e), .int .i64 r] (.bool false) []] .nrm [(0, 0), (1, 1)] (rG 0 false)) := vc_by (zR12 p (zR14 p e (zR13 r e (cj h (cj (rf (0 : Int)) (cj (rf false) trivial)))))) (by kernel_rfl)
theorem rd_yes (p : Pg) (s : S8) (r : Int) (l : List En) (j : Int) (e : En) (h : PureC Try.prog 21 [.agg (pgA p), .agg (enA e), .int .i64 r] (.bool true) []) (h2 : PureC Try.prog 22 [.agg (enA e)] (.tup [.int .i64 (if e.dn then e.val else 0), .bool e.dn]) []) : Vc (vcRnd Try.prog false (ntOf Try.prog 7) (rfP (rfC Try.prog 7 0)).toList [.int .i64 j, .agg (enA e)] (rfA (rfC Try.prog 7 0)) (rfB (rfC Try.prog 7 0)) (rI p s r l) (rG 0 false) [.cl [.agg (pgA p), .agg (enA e), .int .i64 r] (.bool true) [], .cl [.agg (enA e)] (.tup [.int .i64 (if e.dn then e.val else 0), .bool e.dn]) []] .ret [(0, 0), (1, 1)] (rG (if e.dn then e.val else 0) e.dn)) := vc_by (zR12 p (zR14 p e (zR13 r e (cj h (cj (rf e.pc) (cj (rf e.val) (cj (rf e.adr) (cj (rf e.frm) (cj (rf e.nxt) (cj (rf e.dn) (cj (rf e.kn) (cj (rf e.ft) (cj h2 (cj (rf (if e.dn = true then e.val else (0 : Int))) (cj (rf e.dn) trivial))))))))))))))) (by kernel_rfl)
end
end Go.Proofs.Ytjfdffjdjbakbaa.Px
namespace Go.Proofs.Ytjfdffjdjbakbaa.Px
section
open Go.RowKit Go.Proofs.Ytjfdffjdjbakbaa.Rx
theorem putB_iff {p : Pg} {r : Int} {e : En} : putB p r e = true ↔ (dstB (atI p e.pc) = true ∧ (atI p e.pc).d = r) := by
  unfold putB
  rw [Bool.and_eq_true, beq_iff_eq]
theorem regF_cases (p : Pg) (l : List En) (r : Int) : ∀ c, (regF p l r c = none ∧ ∀ j, j < c → putB p r (l.getD j default) = false) ∨
    ∃ q, q < c ∧ putB p r (l.getD q default) = true ∧ (∀ j, q < j → j < c → putB p r (l.getD j default) = false) ∧ regF p l r c = some (if (l.getD q default).dn then ((l.getD q default).val, true) else (0, false))
  | 0 => .inl ⟨rfl, fun j hj => by omega⟩
  | c + 1 => by
    unfold regF
    by_cases h : putB p r (l.getD c default) = true
    · rw [if_pos (show dstB (enI p l c) = true ∧ (enI p l c).d = r from putB_iff.1 h)]
      exact .inr ⟨c, by omega, h, fun j h1 h2 => by omega, rfl⟩
    · rw [if_neg (show ¬ (dstB (enI p l c) = true ∧ (enI p l c).d = r) from fun e => h (putB_iff.2 e))]
      have hf : putB p r (l.getD c default) = false := by simpa using h
      rcases regF_cases p l r c with ⟨h1, h2⟩ | ⟨q, h1, h2, h3, h4⟩
      · refine .inl ⟨h1, fun j hj => ?_⟩
        by_cases e : j = c
        · rw [e]; exact hf
        · exact h2 j (by omega)
      · refine .inr ⟨q, by omega, h2, fun j hj1 hj2 => ?_, h4⟩
        by_cases e : j = c
        · rw [e]; exact hf
        · exact h3 j hj1 (by omega)
theorem reg_rnd_no (p : Pg) (s : S8) (r : Int) (l : List En) (k : Nat) (h : putB p r (l.getD (l.length - 1 - k) default) = false) : Rnd Try.prog (ntOf Try.prog 7) (rfP (rfC Try.prog 7 0)).toList (bkX l k) (rfA (rfC Try.prog 7 0)) (rfB (rfC Try.prog 7 0)) (rI p s r l) (rG 0 false) .nrm (rG 0 false) :=
  Rnd.vc (rd_no p s r l _ _ (putsC p r _ false h))
theorem reg_rnd_yes (p : Pg) (s : S8) (r : Int) (l : List En) (k : Nat) (h : putB p r (l.getD (l.length - 1 - k) default) = true) : Rnd Try.prog (ntOf Try.prog 7) (rfP (rfC Try.prog 7 0)).toList (bkX l k) (rfA (rfC Try.prog 7 0)) (rfB (rfC Try.prog 7 0)) (rI p s r l) (rG 0 false) .ret
    (rG (if (l.getD (l.length - 1 - k) default).dn then (l.getD (l.length - 1 - k) default).val else 0) (l.getD (l.length - 1 - k) default).dn) :=
  Rnd.vc (rd_yes p s r l _ _ (putsC p r _ true h) (toldC _))
theorem reg_none (p : Pg) (s : S8) (r : Int) (l : List En) (hb : l.length ≤ 1000000) (h : ∀ j, j < l.length → putB p r (l.getD j default) = false) : Ok Try.prog (ntOf Try.prog 7) (rfC Try.prog 7 0) (rI p s r l).st .nrm (rJ p s r l 0 false).st :=
  Ok.rangeC (by kernel_rfl) rfl rfl rfl (by kernel_rfl) (bkC l hb) (fun _ => by kernel_rfl) (by kernel_rfl) (F := fun _ => rG 0 false) rfl (Nat.le_refl _) (fun k hk => reg_rnd_no p s r l k (h _ (by omega))) (.inl ⟨rfl, rfl, rfl⟩)
theorem reg_find (p : Pg) (s : S8) (r : Int) (l : List En) (hb : l.length ≤ 1000000) (q : Nat) (hq : q < l.length) (h : putB p r (l.getD q default) = true) (hn : ∀ j, q < j → j < l.length → putB p r (l.getD j default) = false) (v : Int) (b : Bool) (hv : v = if (l.getD q default).dn then (l.getD q default).val else 0) (hd : b = (l.getD q default).dn) : Ok Try.prog (ntOf Try.prog 7) (rfC Try.prog 7 0) (rI p s r l).st .ret (rJ p s r l v b).st := by
  subst hv; subst hd
  have e : l.length - 1 - (l.length - 1 - q) = q := by omega
  have hy := reg_rnd_yes p s r l (l.length - 1 - q) (by rw [e]; exact h)
  rw [e] at hy
  exact Ok.rangeC (m := l.length - 1 - q) (by kernel_rfl) rfl rfl rfl (by kernel_rfl) (bkC l hb) (fun _ => by kernel_rfl) (by kernel_rfl) (F := fun _ => rG 0 false) rfl (by omega) (fun k hk => reg_rnd_no p s r l k (hn _ (by omega) (by omega))) (.inr ⟨by omega, (by simp), hy⟩)
theorem zR20 (p : Pg) (s : S8) {Z : Prop} (z : Z) : (RF p.ms.length (RR p.ms.length 3 (fun i j => rowL mmC p.ms i j) (RF p.ls.length (RR p.ls.length 2 (fun i j => rowL lbC p.ls i j) (RF p.is.length (RR p.is.length 9 (fun i j => rowL inC p.is i j) (RF s.r0 (RF s.r1 (RF s.r2 Z))))))))) := ⟨rfl, fun _ _ _ _ => rfl, rfl, fun _ _ _ _ => rfl, rfl, fun _ _ _ _ => rfl, rfl, rfl, rfl, z⟩
theorem zR21 (p : Pg) {Z : Prop} (z : Z) : (RF (0 : Int) (RF false (RF p.W (RF p.win (RF p.fuel (RF p.r0 (RF p.r1 (RF p.r2 (RF p.r3 Z))))))))) := ⟨rfl, rfl, rfl, rfl, rfl, rfl, rfl, rfl, rfl, z⟩
theorem zR22 (l : List En) (i : Int) {Z : Prop} (z : Z) : (RF l.length (RR l.length 8 (fun i j => rowL enC l i j) (RF i Z))) := ⟨rfl, fun _ _ _ _ => rfl, rfl, z⟩
abbrev qR20 (l : List En) (lt : List En) (i : Int) : Prop := PureC Try.prog 20 [enR l, .int .i64 i] (enR lt) []
theorem lreg_y (p : Pg) (s : S8) (l lt : List En) (i r : Int) (v : Int) (b : Bool) (hc : qR20 l lt i) (h0 : 0 ≤ r) (h3 : r < 4) (h : Ok Try.prog (ntOf Try.prog 7) (rfC Try.prog 7 0) (rI p s r lt).st .ret (rJ p s r lt v b).st) : Vc (vcFn Try.prog false 7 [.agg (pgA p), .agg (rgA s), enR l, .int .i64 i, .int .i64 r] [.fv, .fv, .fv, .bd false, .bd false, .cl [enR l, .int .i64 i] (enR lt) [], .fv, .lp [(0, 0), (1, 1)] (rI p s r lt) .ret (rJ p s r lt v b)] [] (.tup [.int .i64 v, .bool b]) []) := vc_by (cj (df (r < 0)) (cj (df (r ≥ 4)) (zR22 l i (cj hc (zR21 p (zR20 p s (cj (rf s.r3) (cj (rf r) (cj (rf lt.length) (cj (rr lt.length 8 fun i j => rowL enC lt i j) (cj h (cj (rf v) (cj (rf b) trivial))))))))))))) (by kernel_rfl)
theorem lreg_n0 (p : Pg) (s : S8) (l lt : List En) (i : Int) (hc : qR20 l lt i) (h : Ok Try.prog (ntOf Try.prog 7) (rfC Try.prog 7 0) (rI p s 0 lt).st .nrm (rJ p s 0 lt 0 false).st) : Vc (vcFn Try.prog false 7 [.agg (pgA p), .agg (rgA s), enR l, .int .i64 i, .int .i64 0] [.fv, .fv, .fv, .bd false, .bd false, .cl [enR l, .int .i64 i] (enR lt) [], .fv, .lp [(0, 0), (1, 1)] (rI p s 0 lt) .nrm (rJ p s 0 lt 0 false)] [] (.tup [.int .i64 s.r0, .bool true]) []) := vc_by (cj (df ((0 : Int) < 0)) (cj (df ((0 : Int) ≥ 4)) (zR22 l i (cj hc (zR21 p (zR20 p s (cj (rf s.r3) (cj (rf (0 : Int)) (cj (rf lt.length) (cj (rr lt.length 8 fun i j => rowL enC lt i j) (cj h (cj (rf s.r0) (cj (rf true) trivial))))))))))))) (by kernel_rfl)
theorem lreg_n1 (p : Pg) (s : S8) (l lt : List En) (i : Int) (hc : qR20 l lt i) (h : Ok Try.prog (ntOf Try.prog 7) (rfC Try.prog 7 0) (rI p s 1 lt).st .nrm (rJ p s 1 lt 0 false).st) : Vc (vcFn Try.prog false 7 [.agg (pgA p), .agg (rgA s), enR l, .int .i64 i, .int .i64 1] [.fv, .fv, .fv, .bd false, .bd false, .cl [enR l, .int .i64 i] (enR lt) [], .fv, .lp [(0, 0), (1, 1)] (rI p s 1 lt) .nrm (rJ p s 1 lt 0 false)] [] (.tup [.int .i64 s.r1, .bool true]) []) := vc_by (cj (df ((1 : Int) < 0)) (cj (df ((1 : Int) ≥ 4)) (zR22 l i (cj hc (zR21 p (zR20 p s (cj (rf s.r3) (cj (rf (1 : Int)) (cj (rf lt.length) (cj (rr lt.length 8 fun i j => rowL enC lt i j) (cj h (cj (rf s.r1) (cj (rf true) trivial))))))))))))) (by kernel_rfl)
theorem lreg_n2 (p : Pg) (s : S8) (l lt : List En) (i : Int) (hc : qR20 l lt i) (h : Ok Try.prog (ntOf Try.prog 7) (rfC Try.prog 7 0) (rI p s 2 lt).st .nrm (rJ p s 2 lt 0 false).st) : Vc (vcFn Try.prog false 7 [.agg (pgA p), .agg (rgA s), enR l, .int .i64 i, .int .i64 2] [.fv, .fv, .fv, .bd false, .bd false, .cl [enR l, .int .i64 i] (enR lt) [], .fv, .lp [(0, 0), (1, 1)] (rI p s 2 lt) .nrm (rJ p s 2 lt 0 false)] [] (.tup [.int .i64 s.r2, .bool true]) []) := vc_by (cj (df ((2 : Int) < 0)) (cj (df ((2 : Int) ≥ 4)) (zR22 l i (cj hc (zR21 p (zR20 p s (cj (rf s.r3) (cj (rf (2 : Int)) (cj (rf lt.length) (cj (rr lt.length 8 fun i j => rowL enC lt i j) (cj h (cj (rf s.r2) (cj (rf true) trivial))))))))))))) (by kernel_rfl)
theorem lreg_n3 (p : Pg) (s : S8) (l lt : List En) (i : Int) (hc : qR20 l lt i) (h : Ok Try.prog (ntOf Try.prog 7) (rfC Try.prog 7 0) (rI p s 3 lt).st .nrm (rJ p s 3 lt 0 false).st) : Vc (vcFn Try.prog false 7 [.agg (pgA p), .agg (rgA s), enR l, .int .i64 i, .int .i64 3] [.fv, .fv, .fv, .bd false, .bd false, .cl [enR l, .int .i64 i] (enR lt) [], .fv, .lp [(0, 0), (1, 1)] (rI p s 3 lt) .nrm (rJ p s 3 lt 0 false)] [] (.tup [.int .i64 s.r3, .bool true]) []) := vc_by (cj (df ((3 : Int) < 0)) (cj (df ((3 : Int) ≥ 4)) (zR22 l i (cj hc (zR21 p (zR20 p s (cj (rf s.r3) (cj (rf (3 : Int)) (cj (rf lt.length) (cj (rr lt.length 8 fun i j => rowL enC lt i j) (cj h (cj (rf s.r3) (cj (rf true) trivial))))))))))))) (by kernel_rfl)
theorem lreg_lo (p : Pg) (s : S8) (l : List En) (i r : Int) (h : r < 0) : Vc (vcFn Try.prog false 7 [.agg (pgA p), .agg (rgA s), enR l, .int .i64 i, .int .i64 r] [.fv, .fv, .fv, .bd true] [] (.tup [.int .i64 0, .bool false]) []) := vc_by (cj (dt (r < 0)) (cj (rf (0 : Int)) (cj (rf false) trivial))) (by kernel_rfl)
theorem lreg_hi (p : Pg) (s : S8) (l : List En) (i r : Int) (h : 3 < r) : Vc (vcFn Try.prog false 7 [.agg (pgA p), .agg (rgA s), enR l, .int .i64 i, .int .i64 r] [.fv, .fv, .fv, .bd false, .bd true] [] (.tup [.int .i64 0, .bool false]) []) := vc_by (cj (df (r < 0)) (cj (dt (r ≥ 4)) (cj (rf (0 : Int)) (cj (rf false) trivial)))) (by kernel_rfl)
theorem take_get {l : List En} {c j : Nat} (h : j < c) : (l.take c).getD j default = l.getD j default := by
  rw [List.getD_eq_getElem?_getD, List.getD_eq_getElem?_getD, List.getElem?_take, if_pos h]
theorem lregC (p : Pg) (s : S8) (l : List En) (i r : Int) (hb : l.length < 1000000) : PureC Try.prog 7 [.agg (pgA p), .agg (rgA s), enR l, .int .i64 i, .int .i64 r] (.tup [.int .i64 (regV p s l i r).1, .bool (regV p s l i r).2]) [] := by
  have hle := cl0_le i l.length
  have hc := cutF l i (cl0 i l.length) (by unfold cl0; omega) hb
  have hlen : (l.take (cl0 i l.length)).length = cl0 i l.length := by rw [List.length_take]; omega
  unfold regV
  by_cases hr : 0 ≤ r ∧ r < 4
  · rw [if_pos hr]
    rcases regF_cases p l r (cl0 i l.length) with ⟨h1, h2⟩ | ⟨q, h1, h2, h3, h4⟩
    · rw [h1]
      have hl := fun r' (e : r' = r) => reg_none p s r' (l.take (cl0 i l.length)) (by omega) fun j hj => by rw [take_get (by omega), e]; exact h2 j (by omega)
      obtain ⟨h0, h1⟩ := hr
      rcases four h0 h1 with rfl | rfl | rfl | rfl
      · exact PureC.vc (lreg_n0 p s l _ i hc (hl _ rfl))
      · exact PureC.vc (lreg_n1 p s l _ i hc (hl _ rfl))
      · exact PureC.vc (lreg_n2 p s l _ i hc (hl _ rfl))
      · exact PureC.vc (lreg_n3 p s l _ i hc (hl _ rfl))
    · rw [h4]
      cases hd : (l.getD q default).dn with
      | true => exact PureC.vc (lreg_y p s l _ i r (l.getD q default).val true hc hr.1 hr.2 (reg_find p s r _ (by omega) q (by omega) (by rw [take_get (by omega)]; exact h2) (fun j a b => by rw [take_get (by omega)]; exact h3 j a (by omega)) _ _ (by rw [take_get (by omega), hd]; rfl) (by rw [take_get (by omega), hd])))
      | false => exact PureC.vc (lreg_y p s l _ i r 0 false hc hr.1 hr.2 (reg_find p s r _ (by omega) q (by omega) (by rw [take_get (by omega)]; exact h2) (fun j a b => by rw [take_get (by omega)]; exact h3 j a (by omega)) _ _ (by rw [take_get (by omega), hd]; rfl) (by rw [take_get (by omega), hd])))
  · rw [if_neg hr]
    by_cases h0 : r < 0
    · exact PureC.vc (lreg_lo p s l i r h0)
    · exact PureC.vc (lreg_hi p s l i r (by omega))
theorem zR23 (p : Pg) {Z : Prop} (z : Z) : (RF p.W (RF p.win (RF p.fuel (RF p.r0 (RF p.r1 (RF p.r2 (RF p.r3 (RF p.ms.length (RR p.ms.length 3 (fun i j => rowL mmC p.ms i j) Z))))))))) := ⟨rfl, rfl, rfl, rfl, rfl, rfl, rfl, rfl, fun _ _ _ _ => rfl, z⟩
theorem lval_r (p : Pg) (s : S8) (l : List En) (i n : Int) (h : PureC Try.prog 7 [.agg (pgA p), .agg (rgA s), enR l, .int .i64 i, .int .i64 n] (.tup [.int .i64 (regV p s l i n).1, .bool (regV p s l i n).2]) []) : Vc (vcFn Try.prog false 8 [.agg (pgA p), .agg (rgA s), enR l, .int .i64 i, .agg [.bool true, .int .i64 n]] [.fz, .fz, .fz, .cl [.agg (pgA p), .agg (rgA s), enR l, .int .i64 i, .int .i64 n] (.tup [.int .i64 (regV p s l i n).1, .bool (regV p s l i n).2]) []] [] (.tup [.int .i64 (regV p s l i n).1, .bool (regV p s l i n).2]) []) := vc_by (zR23 p (cj (rf p.ls.length) (cj (rr p.ls.length 2 fun i j => rowL lbC p.ls i j) (cj (rf p.is.length) (cj (rr p.is.length 9 fun i j => rowL inC p.is i j) (cj (rf s.r0) (cj (rf s.r1) (cj (rf s.r2) (cj (rf s.r3) (cj (rf l.length) (cj (rr l.length 8 fun i j => rowL enC l i j) (cj (rf i) (cj (rf n) (cj h (cj (rf (Prod.fst (regV p s l i n))) (cj (rf (Prod.snd (regV p s l i n))) trivial)))))))))))))))) (by kernel_rfl)
theorem lval_n (p : Pg) (s : S8) (l : List En) (i n : Int) : Vc (vcFn Try.prog false 8 [.agg (pgA p), .agg (rgA s), enR l, .int .i64 i, .agg [.bool false, .int .i64 n]] [.fz, .fz, .fz, .cl [.int .i64 p.W, .int .i64 n] (.int .i64 (Wd.maskV p.W n)) []] [] (.tup [.int .i64 (Wd.maskV p.W n), .bool true]) []) := vc_by (cj (rf p.W) (cj (rf n) (cj (maskC p.W n) (cj (rf (Wd.maskV p.W n)) (cj (rf true) trivial))))) (by kernel_rfl)
theorem lvlC (p : Pg) (s : S8) (l : List En) (i : Int) (v : Vl) (hb : l.length < 1000000) : PureC Try.prog 8 [.agg (pgA p), .agg (rgA s), enR l, .int .i64 i, .agg (vlA v)] (.tup [.int .i64 (valF p s l i v).1, .bool (valF p s l i v).2]) [] := by
  obtain ⟨b, n⟩ := v
  cases b with
  | true => exact PureC.vc (lval_r p s l i n (lregC p s l i n hb))
  | false => exact PureC.vc (lval_n p s l i n)
theorem blk1_vc (p : Pg) (e : En) : Vc (vcFn Try.prog false 25 [.agg (enA e), pgP p] [.fv, .cl [.agg (pgA p), .int .i64 e.pc] (.agg (inA (atI p e.pc))) []] [] (.bool ((atI p e.pc).kind == 10)) []) := vc_by (zR23 p (cj (rf p.ls.length) (cj (rr p.ls.length 2 fun i j => rowL lbC p.ls i j) (cj (rf p.is.length) (cj (rr p.is.length 9 fun i j => rowL inC p.is i j) (cj (rf e.pc) (cj (atC p e.pc) (cj (rf ((atI p e.pc).kind == (10 : Int))) trivial)))))))) (by kernel_rfl)
def ixS (p : Pg) (l : List En) (k : Nat) : Sm := ⟨[(0, enR l), (1, (.clo 25 [pgP p])), (7, .int .i64 l.length), (8, .int .i64 k), (4, .int .i64 0)], [], 0⟩
def ixJ (k : Int) : Sm := ⟨[(4, .int .i64 k)], [], 0⟩
def fnc (p : Pg) (e : En) : Bool := (atI p e.pc).kind == 10
theorem zR24 (p : Pg) (l : List En) {Z : Prop} (z : Z) : (RF l.length (RR l.length 8 (fun i j => rowL enC l i j) (RF p.W (RF p.win (RF p.fuel (RF p.r0 (RF p.r1 (RF p.r2 (RF p.r3 Z))))))))) := ⟨rfl, fun _ _ _ _ => rfl, rfl, rfl, rfl, rfl, rfl, rfl, rfl, z⟩
theorem zR25 (p : Pg) {Z : Prop} (z : Z) : (RR p.ls.length 2 (fun i j => rowL lbC p.ls i j) (RF p.is.length (RR p.is.length 9 (fun i j => rowL inC p.is i j) Z))) := ⟨fun _ _ _ _ => rfl, rfl, fun _ _ _ _ => rfl, z⟩
theorem zR26 (p : Pg) {Z : Prop} (z : Z) : (RF p.win (RF p.fuel (RF p.r0 (RF p.r1 (RF p.r2 (RF p.r3 (RF p.ms.length (RR p.ms.length 3 (fun i j => rowL mmC p.ms i j) (RF p.ls.length Z))))))))) := ⟨rfl, rfl, rfl, rfl, rfl, rfl, rfl, fun _ _ _ _ => rfl, rfl, z⟩
theorem zR27 (p : Pg) (l : List En) (k : Nat) {Z : Prop} (z : Z) : (RF ((l.getD k default).pc) (RF ((l.getD k default).val) (RF ((l.getD k default).adr) (RF ((l.getD k default).frm) (RF ((l.getD k default).nxt) (RF ((l.getD k default).dn) (RF ((l.getD k default).kn) (RF ((l.getD k default).ft) (RF p.W Z))))))))) := ⟨rfl, rfl, rfl, rfl, rfl, rfl, rfl, rfl, rfl, z⟩
theorem ix_go (p : Pg) (l : List En) (k : Nat) (hk : k < l.length) (hb : l.length < 1000000) (h : PureC Try.prog 25 [.agg (enA (l.getD k default)), pgP p] (.bool false) []) : Vc (vcC Try.prog false (ntOf Try.prog 41) (lpC Try.prog 41 0) (ixS p l k) [.bd true, .cl [.agg (enA (l.getD k default)), pgP p] (.bool false) []] .nrm [] (ixS p l (k + 1))) := vc_by (cj (dt ((k : Int) < (l.length : Int))) (cj (bi (k : Int) (l.length : Int)) (zR27 p l k (zR26 p (zR25 p (cj h (cj (i6 ((k : Int) + 1)) (zR24 p l (cj (rf p.ms.length) (cj (rr p.ms.length 3 fun i j => rowL mmC p.ms i j) (cj (rf p.ls.length) (cj (rr p.ls.length 2 fun i j => rowL lbC p.ls i j) (cj (rf p.is.length) (cj (rr p.is.length 9 fun i j => rowL inC p.is i j) (cj (rf (l.length : Int)) (cj (rf ((k : Int) + 1)) (cj (rf (0 : Int)) trivial))))))))))))))))) (by kernel_rfl)
theorem ix_yes (p : Pg) (l : List En) (k : Nat) (hk : k < l.length) (hb : l.length < 1000000) (h : PureC Try.prog 25 [.agg (enA (l.getD k default)), pgP p] (.bool true) []) : Vc (vcC Try.prog false (ntOf Try.prog 41) (lpC Try.prog 41 0) (ixS p l k) [.bd true, .cl [.agg (enA (l.getD k default)), pgP p] (.bool true) []] .ret [] (ixJ k)) := vc_by (cj (dt ((k : Int) < (l.length : Int))) (cj (bi (k : Int) (l.length : Int)) (zR27 p l k (zR26 p (zR25 p (cj h (cj (rf (k : Int)) trivial))))))) (by kernel_rfl)
theorem ix_end (p : Pg) (l : List En) : Vc (vcC Try.prog false (ntOf Try.prog 41) (lpC Try.prog 41 0) (ixS p l l.length) [.bd false] (.ext 0) [] (ixS p l l.length)) := vc_by (cj (df ((l.length : Int) < (l.length : Int))) (zR24 p l (cj (rf p.ms.length) (cj (rr p.ms.length 3 fun i j => rowL mmC p.ms i j) (cj (rf p.ls.length) (cj (rr p.ls.length 2 fun i j => rowL lbC p.ls i j) (cj (rf p.is.length) (cj (rr p.is.length 9 fun i j => rowL inC p.is i j) (cj (rf (l.length : Int)) (cj (rf (l.length : Int)) (cj (rf (0 : Int)) trivial))))))))))) (by kernel_rfl)
end
end Go.Proofs.Ytjfdffjdjbakbaa.Px
namespace Go.Proofs.Ytjfdffjdjbakbaa.Px
section
open Go.RowKit Go.Proofs.Ytjfdffjdjbakbaa.Rx
theorem zR30 (p : Pg) (l : List En) {Z : Prop} (z : Z) : (RF p.ms.length (RR p.ms.length 3 (fun i j => rowL mmC p.ms i j) (RF p.ls.length (RR p.ls.length 2 (fun i j => rowL lbC p.ls i j) (RF p.is.length (RR p.is.length 9 (fun i j => rowL inC p.is i j) (RF (l.length : Int) (RF (0 : Int) (RF (0 : Int) Z))))))))) := ⟨rfl, fun _ _ _ _ => rfl, rfl, fun _ _ _ _ => rfl, rfl, fun _ _ _ _ => rfl, rfl, rfl, rfl, z⟩
theorem zR31 (p : Pg) (l : List En) {Z : Prop} (z : Z) : (RF l.length (RR l.length 8 (fun i j => rowL enC l i j) (RF p.W (RF p.win (RF p.fuel (RF p.r0 (RF p.r1 (RF p.r2 (RF p.r3 Z))))))))) := ⟨rfl, fun _ _ _ _ => rfl, rfl, rfl, rfl, rfl, rfl, rfl, rfl, z⟩
theorem ixf_n (p : Pg) (l : List En) (h : Ok Try.prog (ntOf Try.prog 41) (.loop (lpC Try.prog 41 0)) (ixS p l 0).st (.ext 0) (ixS p l l.length).st) : Vc (vcFn Try.prog false 41 [enR l, (.clo 25 [pgP p])] [.lp [] (ixS p l 0) (.ext 0) (ixS p l l.length)] [] (.int .i64 (-1)) []) := vc_by (zR31 p l (zR30 p l (cj h (cj (rf (-1 : Int)) trivial)))) (by kernel_rfl)
theorem ixf_y (p : Pg) (l : List En) (k : Int) (h : Ok Try.prog (ntOf Try.prog 41) (.loop (lpC Try.prog 41 0)) (ixS p l 0).st .ret (ixJ k).st) : Vc (vcFn Try.prog false 41 [enR l, (.clo 25 [pgP p])] [.lp [] (ixS p l 0) .ret (ixJ k)] [] (.int .i64 k) []) := vc_by (zR31 p l (zR30 p l (cj h (cj (rf k) trivial)))) (by kernel_rfl)
theorem zR32 (p : Pg) {Z : Prop} (z : Z) : (RF p.ms.length (RR p.ms.length 3 (fun i j => rowL mmC p.ms i j) (RF p.ls.length (RR p.ls.length 2 (fun i j => rowL lbC p.ls i j) (RF p.is.length (RR p.is.length 9 (fun i j => rowL inC p.is i j) Z)))))) := ⟨rfl, fun _ _ _ _ => rfl, rfl, fun _ _ _ _ => rfl, rfl, fun _ _ _ _ => rfl, z⟩
theorem cof_n (p : Pg) (l : List En) (h : PureC Try.prog 41 [enR l, (.clo 25 [pgP p])] (.int .i64 (-1)) []) : Vc (vcFn Try.prog false 24 [enR l, (.clo 25 [pgP p])] [.cl [enR l, (.clo 25 [pgP p])] (.int .i64 (-1)) []] [] (.bool false) []) := vc_by (zR31 p l (zR32 p (cj h (cj (df ((-1 : Int) ≥ 0)) trivial)))) (by kernel_rfl)
theorem cof_y (p : Pg) (l : List En) (k : Int) (h0 : 0 ≤ k) (h : PureC Try.prog 41 [enR l, (.clo 25 [pgP p])] (.int .i64 k) []) : Vc (vcFn Try.prog false 24 [enR l, (.clo 25 [pgP p])] [.cl [enR l, (.clo 25 [pgP p])] (.int .i64 k) [], .bd true] [] (.bool true) []) := vc_by (zR31 p l (zR32 p (cj h (cj (dt (k ≥ 0)) (cj (rf true) trivial))))) (by kernel_rfl)
theorem lblk_vc (p : Pg) (l lt : List En) (i : Int) (b : Bool) (hc : PureC Try.prog 20 [enR l, .int .i64 i] (enR lt) []) (h : PureC Try.prog 24 [enR lt, (.clo 25 [pgP p])] (.bool b) []) : Vc (vcFn Try.prog false 10 [.agg (pgA p), enR l, .int .i64 i] [.fz, .cl [enR l, .int .i64 i] (enR lt) [], .cl [enR lt, (.clo 25 [pgP p])] (.bool b) []] [] (.bool b) []) := vc_by (cj (rf l.length) (cj (rr l.length 8 fun i j => rowL enC l i j) (cj (rf i) (cj hc (cj (rf lt.length) (cj (rr lt.length 8 fun i j => rowL enC lt i j) (cj (rf p.W) (cj (rf p.win) (cj (rf p.fuel) (cj (rf p.r0) (cj (rf p.r1) (cj (rf p.r2) (cj (rf p.r3) (cj (rf p.ms.length) (cj (rr p.ms.length 3 fun i j => rowL mmC p.ms i j) (cj (rf p.ls.length) (cj (rr p.ls.length 2 fun i j => rowL lbC p.ls i j) (cj (rf p.is.length) (cj (rr p.is.length 9 fun i j => rowL inC p.is i j) (cj h (cj (rf b) trivial))))))))))))))))))))) (by kernel_rfl)
theorem fn1 (p : Pg) (e : En) (b : Bool) (h : fnc p e = b) : PureC Try.prog 25 [.agg (enA e), pgP p] (.bool b) [] := by
  have := PureC.vc (blk1_vc p e)
  rw [show ((atI p e.pc).kind == 10) = b from h] at this
  exact this
theorem ix_none (p : Pg) (l : List En) (hb : l.length < 1000000) (h : ∀ j, j < l.length → fnc p (l.getD j default) = false) : ∀ j k, k + j = l.length → OkL Try.prog (ntOf Try.prog 41) (lpC Try.prog 41 0) (ixS p l k).st (.ext 0) (ixS p l l.length).st
  | 0, k, hk => by
    obtain rfl : k = l.length := by omega
    exact OkL.exit (Ok.vc (ix_end p l)) (by simp)
  | j + 1, k, hk => OkL.step (Ok.vc (ix_go p l k (by omega) hb (fn1 p _ false (h k (by omega))))) (ix_none p l hb h j (k + 1) (by omega))
theorem ix_some (p : Pg) (l : List En) (hb : l.length < 1000000) (q : Nat) (hq : q < l.length) (h : fnc p (l.getD q default) = true) (hn : ∀ j, j < q → fnc p (l.getD j default) = false) : ∀ j k, k + j = q → OkL Try.prog (ntOf Try.prog 41) (lpC Try.prog 41 0) (ixS p l k).st .ret (ixJ q).st
  | 0, k, hk => by
    obtain rfl : k = q := by omega
    exact OkL.exit (Ok.vc (ix_yes p l k hq hb (fn1 p _ true h))) (by simp)
  | j + 1, k, hk => OkL.step (Ok.vc (ix_go p l k (by omega) hb (fn1 p _ false (hn k (by omega))))) (ix_some p l hb q hq h hn j (k + 1) (by omega))
theorem coC (p : Pg) (l : List En) (hb : l.length < 1000000) : ((∀ j, j < l.length → fnc p (l.getD j default) = false) ∧ PureC Try.prog 24 [enR l, (.clo 25 [pgP p])] (.bool false) []) ∨ ((∃ q, q < l.length ∧ fnc p (l.getD q default) = true) ∧ PureC Try.prog 24 [enR l, (.clo 25 [pgP p])] (.bool true) []) := by
  by_cases h : ∃ q, q < l.length ∧ fnc p (l.getD q default) = true
  · have hmin : ∃ q, q < l.length ∧ fnc p (l.getD q default) = true ∧ ∀ j, j < q → fnc p (l.getD j default) = false := by
      obtain ⟨q, h1, h2⟩ := h
      induction q using Nat.strongRecOn with
      | ind q ih =>
        by_cases h3 : ∃ j, j < q ∧ fnc p (l.getD j default) = true
        · obtain ⟨j, h4, h5⟩ := h3
          exact ih j h4 (by omega) h5
        · refine ⟨q, h1, h2, fun j hj => ?_⟩
          cases hf : fnc p (l.getD j default) with
          | false => rfl
          | true => exact absurd ⟨j, hj, hf⟩ h3
    obtain ⟨q, h1, h2, h3⟩ := hmin
    exact .inr ⟨⟨q, h1, h2⟩, PureC.vc (cof_y p l q (by omega) (PureC.vc (ixf_y p l q (ix_some p l hb q h1 h2 h3 q 0 (by omega)).ok)))⟩
  · have hf : ∀ j, j < l.length → fnc p (l.getD j default) = false := fun j hj => by
      cases hf : fnc p (l.getD j default) with
      | false => rfl
      | true => exact absurd ⟨j, hj, hf⟩ h
    exact .inl ⟨hf, PureC.vc (cof_n p l (PureC.vc (ixf_n p l (ix_none p l hb hf l.length 0 (by omega)).ok)))⟩
theorem blkG_iff (p : Pg) (l : List En) : ∀ j k, blkG p l k j = true ↔ ∃ q, k ≤ q ∧ q < k + j ∧ fnc p (l.getD q default) = true
  | 0, k => ⟨fun h => (by cases h), fun ⟨q, h1, h2, _⟩ => (by omega)⟩
  | j + 1, k => by
    have ih := blkG_iff p l j (k + 1)
    unfold blkG
    rw [Bool.or_eq_true]
    constructor
    · rintro (h | h)
      · exact ⟨k, Nat.le_refl _, by omega, h⟩
      · obtain ⟨q, h1, h2, h3⟩ := ih.1 h
        exact ⟨q, by omega, by omega, h3⟩
    · rintro ⟨q, h1, h2, h3⟩
      by_cases e : q = k
      · subst e; exact .inl h3
      · exact .inr (ih.2 ⟨q, by omega, by omega, h3⟩)
theorem lblkC (p : Pg) (l : List En) (i : Int) (hb : l.length < 1000000) : PureC Try.prog 10 [.agg (pgA p), enR l, .int .i64 i] (.bool (blkV p l i)) [] := by
  have hle := cl0_le i l.length
  have hc := cutF l i (cl0 i l.length) (by unfold cl0; omega) hb
  have hlen : (l.take (cl0 i l.length)).length = cl0 i l.length := by rw [List.length_take]; omega
  unfold blkV
  rcases coC p (l.take (cl0 i l.length)) (by omega) with ⟨h1, h2⟩ | ⟨⟨q, h1, h3⟩, h2⟩
  · have e : blkG p l 0 (cl0 i l.length) = false := by
      cases hb : blkG p l 0 (cl0 i l.length) with
      | false => rfl
      | true =>
        obtain ⟨q, _, k1, k2⟩ := (blkG_iff p l _ 0).1 hb
        have := h1 q (by omega)
        rw [take_get (by omega), k2] at this
        cases this
    rw [e]
    exact PureC.vc (lblk_vc p l _ i false hc h2)
  · have e : blkG p l 0 (cl0 i l.length) = true := (blkG_iff p l _ 0).2 ⟨q, by omega, by omega, by rw [take_get (by omega)] at h3; exact h3⟩
    rw [e]
    exact PureC.vc (lblk_vc p l _ i true hc h2)
end
end Go.Proofs.Ytjfdffjdjbakbaa.Px
namespace Go.Proofs.Ytjfdffjdjbakbaa.Px
section
open Go.RowKit Go.Proofs.Ytjfdffjdjbakbaa.Rx
def vZ : Vl := ⟨false, 0⟩
def isK : List In := [⟨1, 1, 1, vZ, vZ, ⟨#[]⟩, 0⟩, ⟨10, 0, 0, vZ, vZ, ⟨#[]⟩, 0⟩, ⟨3, 0, 1, vZ, vZ, ⟨#[]⟩, 0⟩]
def pK : Pg := ⟨2, 0, 0, 0, 0, 0, 0, [], [], isK⟩
def sK : S8 := ⟨0, 2, 0, 0, [], [], 0⟩
def sZ : S8 := ⟨0, 0, 0, 0, [], [], 0⟩
def lK : List En := [⟨0, 3, 0, 0, 0, true, false, false⟩, ⟨0, 0, 0, 0, 0, false, false, false⟩, ⟨1, 0, 0, 0, 0, false, false, false⟩, ⟨2, 0, 0, 0, 0, false, false, false⟩]
theorem sR40  : ∀ (i : Nat), i < 3 → ∀ (j : Nat), j < 9 → List.getD [aI (1 : Int), aI (1 : Int), aI (1 : Int), AV.bool false, aI (0 : Int), AV.bool false, aI (0 : Int), AV.str (ByteArray.mk (Array.mk [])), aI (0 : Int), aI (10 : Int), aI (0 : Int), aI (0 : Int), AV.bool false, aI (0 : Int), AV.bool false, aI (0 : Int), AV.str (ByteArray.mk (Array.mk [])), aI (0 : Int), aI (3 : Int), aI (0 : Int), aI (1 : Int), AV.bool false, aI (0 : Int), AV.bool false, aI (0 : Int), AV.str (ByteArray.mk (Array.mk [])), aI (0 : Int)] (i * 9 + j) AV.junk = rowL inC [In.mk (1 : Int) (1 : Int) (1 : Int) vZ vZ (ByteArray.mk (Array.mk [])) (0 : Int), In.mk (10 : Int) (0 : Int) (0 : Int) vZ vZ (ByteArray.mk (Array.mk [])) (0 : Int), In.mk (3 : Int) (0 : Int) (1 : Int) vZ vZ (ByteArray.mk (Array.mk [])) (0 : Int)] i j := (fun i hi j hj => match i, hi, j, hj with | 0, _, 0, _ => rfl | 0, _, 1, _ => rfl | 0, _, 2, _ => rfl | 0, _, 3, _ => rfl | 0, _, 4, _ => rfl | 0, _, 5, _ => rfl | 0, _, 6, _ => rfl | 0, _, 7, _ => rfl | 0, _, 8, _ => rfl | 1, _, 0, _ => rfl | 1, _, 1, _ => rfl | 1, _, 2, _ => rfl | 1, _, 3, _ => rfl | 1, _, 4, _ => rfl | 1, _, 5, _ => rfl | 1, _, 6, _ => rfl | 1, _, 7, _ => rfl | 1, _, 8, _ => rfl | 2, _, 0, _ => rfl | 2, _, 1, _ => rfl | 2, _, 2, _ => rfl | 2, _, 3, _ => rfl | 2, _, 4, _ => rfl | 2, _, 5, _ => rfl | 2, _, 6, _ => rfl | 2, _, 7, _ => rfl | 2, _, 8, _ => rfl)
theorem sR41  : ∀ (i : Nat), i < 4 → ∀ (j : Nat), j < 8 → List.getD [aI (0 : Int), aI (3 : Int), aI (0 : Int), aI (0 : Int), aI (0 : Int), AV.bool true, AV.bool false, AV.bool false, aI (0 : Int), aI (0 : Int), aI (0 : Int), aI (0 : Int), aI (0 : Int), AV.bool false, AV.bool false, AV.bool false, aI (1 : Int), aI (0 : Int), aI (0 : Int), aI (0 : Int), aI (0 : Int), AV.bool false, AV.bool false, AV.bool false, aI (2 : Int), aI (0 : Int), aI (0 : Int), aI (0 : Int), aI (0 : Int), AV.bool false, AV.bool false, AV.bool false] (i * 8 + j) AV.junk = rowL enC [En.mk (0 : Int) (3 : Int) (0 : Int) (0 : Int) (0 : Int) true false false, En.mk (0 : Int) (0 : Int) (0 : Int) (0 : Int) (0 : Int) false false false, En.mk (1 : Int) (0 : Int) (0 : Int) (0 : Int) (0 : Int) false false false, En.mk (2 : Int) (0 : Int) (0 : Int) (0 : Int) (0 : Int) false false false] i j := (fun i hi j hj => match i, hi, j, hj with | 0, _, 0, _ => rfl | 0, _, 1, _ => rfl | 0, _, 2, _ => rfl | 0, _, 3, _ => rfl | 0, _, 4, _ => rfl | 0, _, 5, _ => rfl | 0, _, 6, _ => rfl | 0, _, 7, _ => rfl | 1, _, 0, _ => rfl | 1, _, 1, _ => rfl | 1, _, 2, _ => rfl | 1, _, 3, _ => rfl | 1, _, 4, _ => rfl | 1, _, 5, _ => rfl | 1, _, 6, _ => rfl | 1, _, 7, _ => rfl | 2, _, 0, _ => rfl | 2, _, 1, _ => rfl | 2, _, 2, _ => rfl | 2, _, 3, _ => rfl | 2, _, 4, _ => rfl | 2, _, 5, _ => rfl | 2, _, 6, _ => rfl | 2, _, 7, _ => rfl | 3, _, 0, _ => rfl | 3, _, 1, _ => rfl | 3, _, 2, _ => rfl | 3, _, 3, _ => rfl | 3, _, 4, _ => rfl | 3, _, 5, _ => rfl | 3, _, 6, _ => rfl | 3, _, 7, _ => rfl)
theorem zR40  {Z : Prop} (z : Z) : (RF (2 : Int) (RF (0 : Int) (RF (0 : Int) (RF (0 : Int) (RF (0 : Int) (RF (0 : Int) (RF (0 : Int) (RF (0 : Nat) (RF (0 : Nat) Z))))))))) := ⟨rfl, rfl, rfl, rfl, rfl, rfl, rfl, rfl, rfl, z⟩
theorem zR41  {Z : Prop} (z : Z) : (RF (0 : Int) (RF (2 : Int) (RF (0 : Int) (RF (0 : Int) (RF (4 : Nat) Z))))) := ⟨rfl, rfl, rfl, rfl, rfl, z⟩
theorem awake_vc (r1 : PureC Try.prog 7 [.agg (pgA pK), .agg (rgA sK), enR lK, .int .i64 1, .int .i64 1] (.tup [.int .i64 3, .bool true]) []) (r2 : PureC Try.prog 7 [.agg (pgA pK), .agg (rgA sK), enR lK, .int .i64 2, .int .i64 1] (.tup [.int .i64 0, .bool false]) []) (r3 : PureC Try.prog 7 [.agg (pgA pK), .agg (rgA sK), enR lK, .int .i64 0, .int .i64 1] (.tup [.int .i64 2, .bool true]) []) (r4 : PureC Try.prog 8 [.agg (pgA pK), .agg (rgA sZ), enR lK, .int .i64 4, .agg (vlA ⟨false, 7⟩)] (.tup [.int .i64 3, .bool true]) []) (r5 : PureC Try.prog 14 [.agg (inA ⟨3, 0, 1, vZ, vZ, ⟨#[]⟩, 0⟩)] (.tup [.int .i64 0, .bool false]) []) (b1 : PureC Try.prog 10 [.agg (pgA pK), enR lK, .int .i64 3] (.bool true) []) (b2 : PureC Try.prog 10 [.agg (pgA pK), enR lK, .int .i64 2] (.bool false) []) : Vc (vcFn Try.prog false 9 [] [.fv, .fz, .cl [.agg (pgA pK), .agg (rgA sK), enR lK, .int .i64 1, .int .i64 1] (.tup [.int .i64 3, .bool true]) [], .cl [.agg (pgA pK), .agg (rgA sK), enR lK, .int .i64 2, .int .i64 1] (.tup [.int .i64 0, .bool false]) [], .cl [.agg (pgA pK), .agg (rgA sK), enR lK, .int .i64 0, .int .i64 1] (.tup [.int .i64 2, .bool true]) [], .cl [.agg (pgA pK), .agg (rgA sZ), enR lK, .int .i64 4, .agg (vlA ⟨false, 7⟩)] (.tup [.int .i64 3, .bool true]) [], .cl [.agg (inA ⟨3, 0, 1, vZ, vZ, ⟨#[]⟩, 0⟩)] (.tup [.int .i64 0, .bool false]) [], .cl [.agg (pgA pK), enR lK, .int .i64 3] (.bool true) [], .cl [.agg (pgA pK), enR lK, .int .i64 2] (.bool false) []] [] (.bool true) []) := vc_by (zR40 (cj (rf (3 : Nat)) (cj (sR40 ) (zR41 (cj (sR41 ) (cj (rf (1 : Int)) (cj (rf (1 : Int)) (cj r1 (zR40 (cj (rf (3 : Nat)) (cj (sR40 ) (zR41 (cj (sR41 ) (cj (rf (2 : Int)) (cj (rf (1 : Int)) (cj r2 (zR40 (cj (rf (3 : Nat)) (cj (sR40 ) (zR41 (cj (sR41 ) (cj (rf (0 : Int)) (cj (rf (1 : Int)) (cj r3 (zR40 (cj (rf (3 : Nat)) (cj (sR40 ) (cj (rf (0 : Int)) (cj (rf (0 : Int)) (cj (rf (0 : Int)) (cj (rf (0 : Int)) (cj (rf (4 : Nat)) (cj (sR41 ) (cj (rf (4 : Int)) (cj (rf false) (cj (rf (7 : Int)) (cj r4 (cj (pv ((0 : Int) ≤ 2 ∧ (2 : Int) < ((3 : Nat) : Int))) (cj (rf (3 : Int)) (cj (rf (0 : Int)) (cj (rf (1 : Int)) (cj (rf false) (cj (rf (0 : Int)) (cj (rf false) (cj (rf (0 : Int)) (cj (rf (ByteArray.mk (Array.mk []))) (cj (rf (0 : Int)) (cj r5 (zR40 (cj (rf (3 : Nat)) (cj (sR40 ) (cj (rf (4 : Nat)) (cj (sR41 ) (cj (rf (3 : Int)) (cj b1 (zR40 (cj (rf (3 : Nat)) (cj (sR40 ) (cj (rf (4 : Nat)) (cj (sR41 ) (cj (rf (2 : Int)) (cj b2 (cj (rf true) trivial))))))))))))))))))))))))))))))))))))))))))))))))))))))))))))))) (by kernel_rfl)
theorem awR (i r v : Int) (b : Bool) (s : S8) (h : regV pK s lK i r = (v, b)) : PureC Try.prog 7 [.agg (pgA pK), .agg (rgA s), enR lK, .int .i64 i, .int .i64 r] (.tup [.int .i64 v, .bool b]) [] := by
  have h1 := lregC pK s lK i r (by decide)
  rw [h] at h1
  exact h1
theorem awB (i : Int) (b : Bool) (h : blkV pK lK i = b) : PureC Try.prog 10 [.agg (pgA pK), enR lK, .int .i64 i] (.bool b) [] := by
  have h1 := lblkC pK lK i (by decide)
  rw [h] at h1
  exact h1
theorem awV : PureC Try.prog 8 [.agg (pgA pK), .agg (rgA sZ), enR lK, .int .i64 4, .agg (vlA ⟨false, 7⟩)] (.tup [.int .i64 3, .bool true]) [] := lvlC pK sZ lK 4 ⟨false, 7⟩ (by decide)
theorem awakeC10 : PureC Try.prog 9 [] (.bool true) [] := PureC.vc (awake_vc (awR 1 1 3 true sK (by decide)) (awR 2 1 0 false sK (by decide)) (awR 0 1 2 true sK (by decide)) awV (ldstC_f ⟨3, 0, 1, vZ, vZ, ⟨#[]⟩, 0⟩ (by decide)) (awB 3 true (by decide)) (awB 2 false (by decide)))
end
end Go.Proofs.Ytjfdffjdjbakbaa.Px
namespace Go.Proofs.Ytjfdffjdjbakbaa.Px
section
open Go.RowKit Go.Proofs.Ytjfdffjdjbakbaa.Rx
def isL : List In := [⟨1, 1, 0, vZ, vZ, ⟨#[]⟩, 0⟩, ⟨1, 1, 1, vZ, vZ, ⟨#[]⟩, 0⟩, ⟨1, 1, 2, vZ, vZ, ⟨#[]⟩, 0⟩, ⟨1, 1, 3, vZ, vZ, ⟨#[]⟩, 0⟩]
def pL : Pg := ⟨8, 6, 0, 0, 0, 0, 0, [], [], isL⟩
def sL : S8 := ⟨11, 12, 13, 14, [], [], 0⟩
def shI (x : Int) (k : Nat) : Int := bits .and .i64 (Int.fdiv x (2 ^ min (IntKind.wrap .u64 (k : Int)).toNat IntKind.i64.bits)) 1
def eV (rs : List Int) (dn : Int) (k : Nat) (v : Int) : En := ⟨bits .and .i64 (rs.getD k 0) 3, v, 0, 0, 0, (shI dn k == 1), false, false⟩
def eL (rs vs : List Int) (dn : Int) (k : Nat) : En := eV rs dn k (if k < vs.length then bits .and .i64 (vs.getD k 0) 255 else 0)
def lL (rs vs : List Int) (dn : Int) : Nat → List En
  | 0 => []
  | k + 1 => lL rs vs dn k ++ [eL rs vs dn k]
def pBx : Blk := ⟨0, false, 28, .box (pgA pL)⟩
def cBx : Blk := ⟨0, false, 23, .box (rgA sL)⟩
def l2S (rs vs : List Int) (dn r0 a0 : Int) (l : List En) (k : Nat) : Sm := ⟨[(0, lR rs), (1, .int .i64 dn), (2, lR vs), (3, .int .i64 r0), (4, .int .i64 a0), (11, .bptr 0 0), (13, .own 1 0 8 0 l.length), (14, .int .i64 k)], [(0, pBx), (1, enB l)], 2⟩
def l3S (l : List En) (r a : Int) (last : Int) (k : Nat) : Sm := ⟨[(3, .int .i64 r), (4, .int .i64 a), (11, .bptr 0 0), (16, .bptr 1 0), (13, enR l), (17, .int .i64 last), (18, .int .i64 k)], [(0, pBx), (1, cBx)], 2⟩
/-- the last of the first k that stands at r -/
def lastL (l : List En) (r : Int) : Nat → Int
  | 0 => -1
  | k + 1 => if (l.getD k default).pc = r then (k : Int) else lastL l r k
theorem lL_len (rs vs : List Int) (dn : Int) : ∀ k, (lL rs vs dn k).length = k
  | 0 => rfl
  | k + 1 => by rw [lL, List.length_append, lL_len rs vs dn k]; rfl
theorem zR50 (rs : List Int) (vs : List Int) (dn : Int) (r0 : Int) (a0 : Int) {Z : Prop} (z : Z) : (RF rs.length (RR rs.length 1 (fun i j => aI (rs.getD i 0)) (RF dn (RF vs.length (RR vs.length 1 (fun i j => aI (vs.getD i 0)) (RF r0 (RF a0 (RF (0 : Nat) Z)))))))) := ⟨rfl, fun _ _ _ _ => rfl, rfl, rfl, fun _ _ _ _ => rfl, rfl, rfl, rfl, z⟩
theorem zR51  {Z : Prop} (z : Z) : (RF (0 : Nat) (RR 0 2 (fun i j => rowL lbC [] i j) (RF (4 : Nat) (RR 4 9 (fun i j => rowL inC [In.mk (1 : Int) (1 : Int) (0 : Int) vZ vZ (ByteArray.mk (Array.mk [])) (0 : Int), In.mk (1 : Int) (1 : Int) (1 : Int) vZ vZ (ByteArray.mk (Array.mk [])) (0 : Int), In.mk (1 : Int) (1 : Int) (2 : Int) vZ vZ (ByteArray.mk (Array.mk [])) (0 : Int), In.mk (1 : Int) (1 : Int) (3 : Int) vZ vZ (ByteArray.mk (Array.mk [])) (0 : Int)] i j) Z)))) := ⟨rfl, fun _ _ _ _ => rfl, rfl, fun _ _ _ _ => rfl, z⟩
theorem zR52  {Z : Prop} (z : Z) : (RF (8 : Int) (RF (6 : Int) (RF (0 : Int) (RF (0 : Int) (RF (0 : Int) (RF (0 : Int) (RF (0 : Int) (RF (0 : Nat) (RR 0 3 (fun i j => rowL mmC [] i j) Z))))))))) := ⟨rfl, rfl, rfl, rfl, rfl, rfl, rfl, rfl, fun _ _ _ _ => rfl, z⟩
theorem l2_in (rs vs : List Int) (dn r0 a0 : Int) (l : List En) (k : Nat) (hk : k < rs.length) (h12 : k < 12) (hl : l.length = k) (hv : k < vs.length) : Vc (vcC Try.prog false (ntOf Try.prog 3) (lpC Try.prog 3 1) (l2S rs vs dn r0 a0 l k) [.bd true, .bd true, .b true, .b true, .b true, .fv] .nrm [(0, 0), (1, 1)] (l2S rs vs dn r0 a0 (l ++ [eV rs dn k (bits .and .i64 (vs.getD k 0) 255)]) (k + 1))) := vc_by (cj (dt ((k : Int) < (rs.length : Int))) (cj (dt ((k : Int) < 12)) (cj (rf true) (cj (rf true) (cj (bi (k : Int) (rs.length : Int)) (cj (show (0 : Int) ≤ IntKind.wrap IntKind.u64 (k : Int) from (u_wrap_nn _)) (cj (dt ((k : Int) < (vs.length : Int))) (cj (bi (k : Int) (vs.length : Int)) (cj (ap l.length 1 48) (cj (i6 ((k : Int) + 1)) (zR52 (zR51 (cj (show l.length + 1 = (l ++ [eV rs dn k (Go.bits Go.BinOp.and IntKind.i64 (vs.getD k 0) (255 : Int))]).length from by rw [List.length_append]; rfl) (cj (show ∀ (i : Nat), i < l.length + 1 → ∀ (j : Nat), j < 8 → (bif Nat.blt i l.length then rowL enC l i j else List.getD [aI (Go.bits Go.BinOp.and IntKind.i64 (rs.getD k 0) (3 : Int)), aI (Go.bits Go.BinOp.and IntKind.i64 (vs.getD k 0) (255 : Int)), aI (0 : Int), aI (0 : Int), aI (0 : Int), AV.bool (Go.bits Go.BinOp.and IntKind.i64 (Int.fdiv dn ((2 : Int) ^ Min.min (k % (18446744073709551616 : Nat)) (64 : Nat))) (1 : Int) == (1 : Int)), AV.bool false, AV.bool false] ((i - l.length) * 8 + j) AV.junk) = rowL enC (l ++ [eV rs dn k (Go.bits Go.BinOp.and IntKind.i64 (vs.getD k 0) (255 : Int))]) i j from (fun i hi j hj => row_if (fun h => (rowL_left h).symm) (fun h => by obtain rfl : i = _ := Nat.le_antisymm (Nat.lt_succ_iff.mp hi) (Nat.not_lt.mp h); rw [rowL_last, Nat.sub_self]; match j, hj with | 0, _ => rfl | 1, _ => rfl | 2, _ => rfl | 3, _ => rfl | 4, _ => rfl | 5, _ => rfl | 6, _ => rfl | 7, _ => rfl))) (zR50 rs vs dn r0 a0 (cj (show l.length + 1 = (l ++ [eV rs dn k (Go.bits Go.BinOp.and IntKind.i64 (vs.getD k 0) (255 : Int))]).length from by rw [List.length_append]; rfl) (cj (rf ((k : Int) + 1)) trivial))))))))))))))))) (by kernel_rfl)
theorem l2_out (rs vs : List Int) (dn r0 a0 : Int) (l : List En) (k : Nat) (hk : k < rs.length) (h12 : k < 12) (hl : l.length = k) (hv : ¬ k < vs.length) : Vc (vcC Try.prog false (ntOf Try.prog 3) (lpC Try.prog 3 1) (l2S rs vs dn r0 a0 l k) [.bd true, .bd true, .b true, .b true, .b false, .fv] .nrm [(0, 0), (1, 1)] (l2S rs vs dn r0 a0 (l ++ [eV rs dn k 0]) (k + 1))) := vc_by (cj (dt ((k : Int) < (rs.length : Int))) (cj (dt ((k : Int) < 12)) (cj (rf true) (cj (rf true) (cj (bi (k : Int) (rs.length : Int)) (cj (show (0 : Int) ≤ IntKind.wrap IntKind.u64 (k : Int) from (u_wrap_nn _)) (cj (df ((k : Int) < (vs.length : Int))) (cj (ap l.length 1 48) (cj (i6 ((k : Int) + 1)) (zR52 (zR51 (cj (show l.length + 1 = (l ++ [eV rs dn k (0 : Int)]).length from by rw [List.length_append]; rfl) (cj (show ∀ (i : Nat), i < l.length + 1 → ∀ (j : Nat), j < 8 → (bif Nat.blt i l.length then rowL enC l i j else List.getD [aI (Go.bits Go.BinOp.and IntKind.i64 (rs.getD k 0) (3 : Int)), aI (0 : Int), aI (0 : Int), aI (0 : Int), aI (0 : Int), AV.bool (Go.bits Go.BinOp.and IntKind.i64 (Int.fdiv dn ((2 : Int) ^ Min.min (k % (18446744073709551616 : Nat)) (64 : Nat))) (1 : Int) == (1 : Int)), AV.bool false, AV.bool false] ((i - l.length) * 8 + j) AV.junk) = rowL enC (l ++ [eV rs dn k (0 : Int)]) i j from (fun i hi j hj => row_if (fun h => (rowL_left h).symm) (fun h => by obtain rfl : i = _ := Nat.le_antisymm (Nat.lt_succ_iff.mp hi) (Nat.not_lt.mp h); rw [rowL_last, Nat.sub_self]; match j, hj with | 0, _ => rfl | 1, _ => rfl | 2, _ => rfl | 3, _ => rfl | 4, _ => rfl | 5, _ => rfl | 6, _ => rfl | 7, _ => rfl))) (zR50 rs vs dn r0 a0 (cj (show l.length + 1 = (l ++ [eV rs dn k (0 : Int)]).length from by rw [List.length_append]; rfl) (cj (rf ((k : Int) + 1)) trivial)))))))))))))))) (by kernel_rfl)
theorem zR53 (vs : List Int) (r0 : Int) (a0 : Int) (l : List En) (k : Nat) {Z : Prop} (z : Z) : (RF vs.length (RR vs.length 1 (fun i j => aI (vs.getD i 0)) (RF r0 (RF a0 (RF (0 : Nat) (RF l.length (RF (k : Int) Z))))))) := ⟨rfl, fun _ _ _ _ => rfl, rfl, rfl, rfl, rfl, rfl, z⟩
theorem zR54 (rs : List Int) (dn : Int) (l : List En) {Z : Prop} (z : Z) : (RF (0 : Nat) (RR 0 2 (fun i j => rowL lbC [] i j) (RF (4 : Nat) (RR 4 9 (fun i j => rowL inC [In.mk (1 : Int) (1 : Int) (0 : Int) vZ vZ (ByteArray.mk (Array.mk [])) (0 : Int), In.mk (1 : Int) (1 : Int) (1 : Int) vZ vZ (ByteArray.mk (Array.mk [])) (0 : Int), In.mk (1 : Int) (1 : Int) (2 : Int) vZ vZ (ByteArray.mk (Array.mk [])) (0 : Int), In.mk (1 : Int) (1 : Int) (3 : Int) vZ vZ (ByteArray.mk (Array.mk [])) (0 : Int)] i j) (RF l.length (RR l.length 8 (fun i j => rowL enC l i j) (RF rs.length (RR rs.length 1 (fun i j => aI (rs.getD i 0)) (RF dn Z))))))))) := ⟨rfl, fun _ _ _ _ => rfl, rfl, fun _ _ _ _ => rfl, rfl, fun _ _ _ _ => rfl, rfl, fun _ _ _ _ => rfl, rfl, z⟩
theorem l2_end (rs vs : List Int) (dn r0 a0 : Int) (l : List En) (k : Nat) (hk : ¬ k < rs.length) : Vc (vcC Try.prog false (ntOf Try.prog 3) (lpC Try.prog 3 1) (l2S rs vs dn r0 a0 l k) [.bd false] (.ext 2) [(0, 0), (1, 1)] (l2S rs vs dn r0 a0 l k)) := vc_by (cj (df ((k : Int) < (rs.length : Int))) (zR52 (zR54 rs dn l (zR53 vs r0 a0 l k trivial)))) (by kernel_rfl)
theorem l2_end12 (rs vs : List Int) (dn r0 a0 : Int) (l : List En) (k : Nat) (hk : k < rs.length) (h12 : ¬ k < 12) : Vc (vcC Try.prog false (ntOf Try.prog 3) (lpC Try.prog 3 1) (l2S rs vs dn r0 a0 l k) [.bd true, .bd false] (.ext 2) [(0, 0), (1, 1)] (l2S rs vs dn r0 a0 l k)) := vc_by (cj (dt ((k : Int) < (rs.length : Int))) (cj (df ((k : Int) < 12)) (zR52 (zR54 rs dn l (zR53 vs r0 a0 l k trivial))))) (by kernel_rfl)
theorem zR55 (r : Int) {Z : Prop} (z : Z) : (RF (0 : Nat) (RR 0 2 (fun i j => rowL lbC [] i j) (RF (4 : Nat) (RR 4 9 (fun i j => rowL inC [In.mk (1 : Int) (1 : Int) (0 : Int) vZ vZ (ByteArray.mk (Array.mk [])) (0 : Int), In.mk (1 : Int) (1 : Int) (1 : Int) vZ vZ (ByteArray.mk (Array.mk [])) (0 : Int), In.mk (1 : Int) (1 : Int) (2 : Int) vZ vZ (ByteArray.mk (Array.mk [])) (0 : Int), In.mk (1 : Int) (1 : Int) (3 : Int) vZ vZ (ByteArray.mk (Array.mk [])) (0 : Int)] i j) (RF (11 : Int) (RF (12 : Int) (RF (13 : Int) (RF (14 : Int) (RF r Z))))))))) := ⟨rfl, fun _ _ _ _ => rfl, rfl, fun _ _ _ _ => rfl, rfl, rfl, rfl, rfl, rfl, z⟩
theorem l3_hit (l : List En) (r a last : Int) (k : Nat) (hk : k < l.length) (ha : (k : Int) < a) (hb : l.length < 100) (h : (l.getD k default).pc = r) : Vc (vcC Try.prog false (ntOf Try.prog 3) (lpC Try.prog 3 2) (l3S l r a last k) [.bd true, .bd true, .b true, .b true, .bd true] .nrm [(0, 0), (1, 1)] (l3S l r a k (k + 1))) := vc_by (cj (dt ((k : Int) < a)) (cj (dt ((k : Int) < (l.length : Int))) (cj (rf true) (cj (rf true) (cj (bi (k : Int) (l.length : Int)) (cj (beq_iff_eq.2 h) (cj (i6 ((k : Int) + 1)) (zR52 (zR55 r (cj (rf a) (cj (rf l.length) (cj (rr l.length 8 fun i j => rowL enC l i j) (cj (rf (k : Int)) (cj (rf ((k : Int) + 1)) trivial)))))))))))))) (by kernel_rfl)
theorem l3_mis (l : List En) (r a last : Int) (k : Nat) (hk : k < l.length) (ha : (k : Int) < a) (hb : l.length < 100) (h : ¬ (l.getD k default).pc = r) : Vc (vcC Try.prog false (ntOf Try.prog 3) (lpC Try.prog 3 2) (l3S l r a last k) [.bd true, .bd true, .b true, .b true, .bd false] .nrm [(0, 0), (1, 1)] (l3S l r a last (k + 1))) := vc_by (cj (dt ((k : Int) < a)) (cj (dt ((k : Int) < (l.length : Int))) (cj (rf true) (cj (rf true) (cj (bi (k : Int) (l.length : Int)) (cj (beq_eq_false_iff_ne.2 h) (cj (i6 ((k : Int) + 1)) (zR52 (zR55 r (cj (rf a) (cj (rf l.length) (cj (rr l.length 8 fun i j => rowL enC l i j) (cj (rf last) (cj (rf ((k : Int) + 1)) trivial)))))))))))))) (by kernel_rfl)
theorem zR56 (l : List En) (a : Int) (last : Int) (k : Nat) {Z : Prop} (z : Z) : (RF a (RF l.length (RR l.length 8 (fun i j => rowL enC l i j) (RF last (RF (k : Int) Z))))) := ⟨rfl, rfl, fun _ _ _ _ => rfl, rfl, rfl, z⟩
theorem l3_enda (l : List En) (r a last : Int) (k : Nat) (ha : ¬ (k : Int) < a) : Vc (vcC Try.prog false (ntOf Try.prog 3) (lpC Try.prog 3 2) (l3S l r a last k) [.bd false] (.ext 4) [(0, 0), (1, 1)] (l3S l r a last k)) := vc_by (cj (df ((k : Int) < a)) (zR52 (zR55 r (zR56 l a last k trivial)))) (by kernel_rfl)
theorem l3_endl (l : List En) (r a last : Int) (k : Nat) (ha : (k : Int) < a) (hk : ¬ k < l.length) : Vc (vcC Try.prog false (ntOf Try.prog 3) (lpC Try.prog 3 2) (l3S l r a last k) [.bd true, .bd false] (.ext 4) [(0, 0), (1, 1)] (l3S l r a last k)) := vc_by (cj (dt ((k : Int) < a)) (cj (df ((k : Int) < (l.length : Int))) (zR52 (zR55 r (zR56 l a last k trivial))))) (by kernel_rfl)
theorem l2_loop (rs vs : List Int) (dn r0 a0 : Int) (n : Nat) (hn : n = min rs.length 12) : Ok Try.prog (ntOf Try.prog 3) (.loop (lpC Try.prog 3 1)) (l2S rs vs dn r0 a0 [] 0).st (.ext 2) (l2S rs vs dn r0 a0 (lL rs vs dn n) n).st := by
  refine Ok.loop (P := Try.prog) (nt := ntOf Try.prog 3) (c := lpC Try.prog 3 1) (F := fun k => l2S rs vs dn r0 a0 (lL rs vs dn k) k) (m := n) (x := .ext 2) (J := l2S rs vs dn r0 a0 (lL rs vs dn n) n) (fun k hk => ?_) ?_ (by simp)
  · show Ok _ _ _ _ _ (l2S rs vs dn r0 a0 (lL rs vs dn k ++ [eV rs dn k (if k < vs.length then bits .and .i64 (vs.getD k 0) 255 else 0)]) (k + 1)).st
    by_cases hv : k < vs.length
    · rw [if_pos hv]; exact Ok.vc (l2_in rs vs dn r0 a0 _ k (by omega) (by omega) (lL_len rs vs dn k) hv)
    · rw [if_neg hv]; exact Ok.vc (l2_out rs vs dn r0 a0 _ k (by omega) (by omega) (lL_len rs vs dn k) hv)
  · by_cases h : n < rs.length
    · exact Ok.vc (l2_end12 rs vs dn r0 a0 _ n h (by omega))
    · exact Ok.vc (l2_end rs vs dn r0 a0 _ n h)
theorem l3_loop (l : List En) (r a : Int) (hb : l.length < 100) : ∀ j k, k + j = cl0 a l.length → OkL Try.prog (ntOf Try.prog 3) (lpC Try.prog 3 2) (l3S l r a (lastL l r k) k).st (.ext 4) (l3S l r a (lastL l r (cl0 a l.length)) (cl0 a l.length)).st
  | 0, k, hk => by
    obtain rfl : k = cl0 a l.length := by omega
    rcases cl0_end a l.length with h | h
    · exact OkL.exit (Ok.vc (l3_enda l r a _ _ h)) (by simp)
    · by_cases h2 : ((cl0 a l.length : Nat) : Int) < a
      · exact OkL.exit (Ok.vc (l3_endl l r a _ _ h2 h)) (by simp)
      · exact OkL.exit (Ok.vc (l3_enda l r a _ _ h2)) (by simp)
  | j + 1, k, hk => by
    have hl := cl0_lt (i := a) (n := l.length) (k := k) (by omega)
    have ih := l3_loop l r a hb j (k + 1) (by omega)
    by_cases h : (l.getD k default).pc = r
    · rw [show lastL l r (k + 1) = (k : Int) from if_pos h] at ih
      exact OkL.step (Ok.vc (l3_hit l r a _ k hl.2 hl.1 hb h)) ih
    · rw [show lastL l r (k + 1) = lastL l r k from if_neg h] at ih
      exact OkL.step (Ok.vc (l3_mis l r a _ k hl.2 hl.1 hb h)) ih
end
end Go.Proofs.Ytjfdffjdjbakbaa.Px
namespace Go.Proofs.Ytjfdffjdjbakbaa.Px
section
open Go.RowKit Go.Proofs.Ytjfdffjdjbakbaa.Rx
theorem sR60  : ∀ (i : Nat), i < 4 → ∀ (j : Nat), j < 9 → (bif Nat.blt (i + 0) (3 : Nat) then bif Nat.blt (i + 0) (2 : Nat) then bif Nat.blt (i + 0) (1 : Nat) then List.getD [aI (1 : Int), aI (1 : Int), aI (0 : Int), AV.bool false, aI (0 : Int), AV.bool false, aI (0 : Int), AV.str (ByteArray.mk (Array.mk [])), aI (0 : Int)] ((i + 0) * 9 + j) AV.junk else List.getD [aI (1 : Int), aI (1 : Int), aI ((0 : Int) + 1), AV.bool false, aI (0 : Int), AV.bool false, aI (0 : Int), AV.str (ByteArray.mk (Array.mk [])), aI (0 : Int)] ((i + 0 - 1) * 9 + j) AV.junk else List.getD [aI (1 : Int), aI (1 : Int), aI ((0 : Int) + 1 + 1), AV.bool false, aI (0 : Int), AV.bool false, aI (0 : Int), AV.str (ByteArray.mk (Array.mk [])), aI (0 : Int)] ((i + 0 - 2) * 9 + j) AV.junk else List.getD [aI (1 : Int), aI (1 : Int), aI ((0 : Int) + 1 + 1 + 1), AV.bool false, aI (0 : Int), AV.bool false, aI (0 : Int), AV.str (ByteArray.mk (Array.mk [])), aI (0 : Int)] ((i + 0 - 3) * 9 + j) AV.junk) = rowL inC [In.mk (1 : Int) (1 : Int) (0 : Int) vZ vZ (ByteArray.mk (Array.mk [])) (0 : Int), In.mk (1 : Int) (1 : Int) (1 : Int) vZ vZ (ByteArray.mk (Array.mk [])) (0 : Int), In.mk (1 : Int) (1 : Int) (2 : Int) vZ vZ (ByteArray.mk (Array.mk [])) (0 : Int), In.mk (1 : Int) (1 : Int) (3 : Int) vZ vZ (ByteArray.mk (Array.mk [])) (0 : Int)] i j := (fun i hi j hj => match i, hi, j, hj with | 0, _, 0, _ => rfl | 0, _, 1, _ => rfl | 0, _, 2, _ => rfl | 0, _, 3, _ => rfl | 0, _, 4, _ => rfl | 0, _, 5, _ => rfl | 0, _, 6, _ => rfl | 0, _, 7, _ => rfl | 0, _, 8, _ => rfl | 1, _, 0, _ => rfl | 1, _, 1, _ => rfl | 1, _, 2, _ => rfl | 1, _, 3, _ => rfl | 1, _, 4, _ => rfl | 1, _, 5, _ => rfl | 1, _, 6, _ => rfl | 1, _, 7, _ => rfl | 1, _, 8, _ => rfl | 2, _, 0, _ => rfl | 2, _, 1, _ => rfl | 2, _, 2, _ => rfl | 2, _, 3, _ => rfl | 2, _, 4, _ => rfl | 2, _, 5, _ => rfl | 2, _, 6, _ => rfl | 2, _, 7, _ => rfl | 2, _, 8, _ => rfl | 3, _, 0, _ => rfl | 3, _, 1, _ => rfl | 3, _, 2, _ => rfl | 3, _, 3, _ => rfl | 3, _, 4, _ => rfl | 3, _, 5, _ => rfl | 3, _, 6, _ => rfl | 3, _, 7, _ => rfl | 3, _, 8, _ => rfl)
theorem zR60 (rs : List Int) (vs : List Int) (dn : Int) (r : Int) (a : Int) (n : Nat) {Z : Prop} (z : Z) : (RR ((lL rs vs dn n).length) 8 (fun i j => rowL enC (lL rs vs dn n) i j) (RF a (RF false (RF (300 + r) Z)))) := ⟨fun _ _ _ _ => rfl, rfl, rfl, rfl, z⟩
theorem zR61 (rs : List Int) (vs : List Int) (dn : Int) (n : Nat) {Z : Prop} (z : Z) : (RF (0 : Nat) (RR 0 2 (fun i j => rowL lbC [] i j) (RF (4 : Nat) (RR 4 9 (fun i j => rowL inC [In.mk (1 : Int) (1 : Int) (0 : Int) vZ vZ (ByteArray.mk (Array.mk [])) (0 : Int), In.mk (1 : Int) (1 : Int) (1 : Int) vZ vZ (ByteArray.mk (Array.mk [])) (0 : Int), In.mk (1 : Int) (1 : Int) (2 : Int) vZ vZ (ByteArray.mk (Array.mk [])) (0 : Int), In.mk (1 : Int) (1 : Int) (3 : Int) vZ vZ (ByteArray.mk (Array.mk [])) (0 : Int)] i j) (RF (11 : Int) (RF (12 : Int) (RF (13 : Int) (RF (14 : Int) (RF ((lL rs vs dn n).length) Z))))))))) := ⟨rfl, fun _ _ _ _ => rfl, rfl, fun _ _ _ _ => rfl, rfl, rfl, rfl, rfl, rfl, z⟩
theorem zR62  {Z : Prop} (z : Z) : (RF (8 : Int) (RF (6 : Int) (RF (0 : Int) (RF (0 : Int) (RF (0 : Int) (RF (0 : Int) (RF (0 : Int) (RF (0 : Nat) (RR 0 3 (fun i j => rowL mmC [] i j) Z))))))))) := ⟨rfl, rfl, rfl, rfl, rfl, rfl, rfl, rfl, fun _ _ _ _ => rfl, z⟩
theorem zR63 (rs : List Int) (vs : List Int) (dn : Int) (r : Int) (a : Int) (n : Nat) {Z : Prop} (z : Z) : (RR ((lL rs vs dn n).length) 8 (fun i j => rowL enC (lL rs vs dn n) i j) (RF a (RF true (RF r Z)))) := ⟨fun _ _ _ _ => rfl, rfl, rfl, rfl, z⟩
theorem zR64 (rs : List Int) (vs : List Int) (dn : Int) (r : Int) (a : Int) (n : Nat) {Z : Prop} (z : Z) : (RR ((lL rs vs dn n).length) 8 (fun i j => rowL enC (lL rs vs dn n) i j) (RF a (RF r Z))) := ⟨fun _ _ _ _ => rfl, rfl, rfl, z⟩
theorem zR65 (rs : List Int) (vs : List Int) (dn : Int) (n : Nat) {Z : Prop} (z : Z) : (RF ((lL rs vs dn n).length) (RR ((lL rs vs dn n).length) 8 (fun i j => rowL enC (lL rs vs dn n) i j) (RF (-1 : Int) (RF (0 : Int) Z)))) := ⟨rfl, fun _ _ _ _ => rfl, rfl, rfl, z⟩
theorem zR66  {Z : Prop} (z : Z) : (RF (0 : Nat) (RR 0 2 (fun i j => rowL lbC [] i j) (RF (4 : Nat) (RR 4 9 (fun i j => rowL inC [In.mk (1 : Int) (1 : Int) (0 : Int) vZ vZ (ByteArray.mk (Array.mk [])) (0 : Int), In.mk (1 : Int) (1 : Int) (1 : Int) vZ vZ (ByteArray.mk (Array.mk [])) (0 : Int), In.mk (1 : Int) (1 : Int) (2 : Int) vZ vZ (ByteArray.mk (Array.mk [])) (0 : Int), In.mk (1 : Int) (1 : Int) (3 : Int) vZ vZ (ByteArray.mk (Array.mk [])) (0 : Int)] i j) (RF (11 : Int) (RF (12 : Int) (RF (13 : Int) (RF (14 : Int) Z)))))))) := ⟨rfl, fun _ _ _ _ => rfl, rfl, fun _ _ _ _ => rfl, rfl, rfl, rfl, rfl, z⟩
theorem zR67 (rs : List Int) (vs : List Int) (dn : Int) (r0 : Int) (a0 : Int) {Z : Prop} (z : Z) : (RF (0 : Nat) (RF rs.length (RR rs.length 1 (fun i j => aI (rs.getD i 0)) (RF dn (RF vs.length (RR vs.length 1 (fun i j => aI (vs.getD i 0)) (RF r0 (RF a0 (RF (0 : Nat) Z))))))))) := ⟨rfl, rfl, fun _ _ _ _ => rfl, rfl, rfl, fun _ _ _ _ => rfl, rfl, rfl, rfl, z⟩
theorem zR68  {Z : Prop} (z : Z) : (RF (8 : Int) (RF (6 : Int) (RF (0 : Int) (RF (0 : Int) (RF (0 : Int) (RF (0 : Int) (RF (0 : Int) (RF (0 : Nat) (RF (0 : Nat) Z))))))))) := ⟨rfl, rfl, rfl, rfl, rfl, rfl, rfl, rfl, rfl, z⟩
abbrev qR60 (rs : List Int) (vs : List Int) (dn : Int) (r0 : Int) (a0 : Int) (n : Nat) : Prop := Ok Try.prog (ntOf Try.prog 3) (.loop (lpC Try.prog 3 1)) (l2S rs vs dn r0 a0 [] 0).st (.ext 2) (l2S rs vs dn r0 a0 (lL rs vs dn n) n).st
abbrev qR61 (rs : List Int) (vs : List Int) (dn : Int) (r : Int) (a : Int) (n : Nat) : Prop := PureC Try.prog 8 [.agg (pgA pL), .agg (rgA sL), enR (lL rs vs dn n), .int .i64 a, .agg (vlA ⟨false, 300 + r⟩)] (.tup [.int .i64 (44 + r), .bool true]) []
abbrev oR62 (rs : List Int) (vs : List Int) (dn : Int) (r : Int) (a : Int) (n : Nat) : Orc := .cl [.agg (pgA pL), .agg (rgA sL), enR (lL rs vs dn n), .int .i64 a, .agg (vlA ⟨false, 300 + r⟩)] (.tup [.int .i64 (44 + r), .bool true]) []
theorem rl_none (rs vs : List Int) (dn r0 a0 r a : Int) (n c : Nat) (hr : bits .and .i64 r0 3 = r) (ha : bits .and .i64 a0 15 = a) (hr0 : 0 ≤ r) (hr3 : r < 4) (hn : n < 100) (h2 : qR60 rs vs dn r0 a0 n) (h3 : Ok Try.prog (ntOf Try.prog 3) (.loop (lpC Try.prog 3 2)) (l3S (lL rs vs dn n) r a (-1) 0).st (.ext 4) (l3S (lL rs vs dn n) r a (-1) c).st) (hR : PureC Try.prog 7 [.agg (pgA pL), .agg (rgA sL), enR (lL rs vs dn n), .int .i64 a, .int .i64 r] (.tup [.int .i64 (11 + r), .bool true]) []) (hV : PureC Try.prog 8 [.agg (pgA pL), .agg (rgA sL), enR (lL rs vs dn n), .int .i64 a, .agg (vlA ⟨true, r⟩)] (.tup [.int .i64 (11 + r), .bool true]) []) (hN : qR61 rs vs dn r a n) : Vc (vcFn Try.prog false 3 [lR rs, .int .i64 dn, lR vs, .int .i64 r0, .int .i64 a0] [.it 5, .fv, .fv, .fv, .fv, .lp [(0, 0)] (l2S rs vs dn r0 a0 [] 0) (.ext 2) (l2S rs vs dn r0 a0 (lL rs vs dn n) n), .lp [(0, 0), (1, 2)] (l3S (lL rs vs dn n) r a (-1) 0) (.ext 4) (l3S (lL rs vs dn n) r a (-1) c), .cl [.agg (pgA pL), .agg (rgA sL), enR (lL rs vs dn n), .int .i64 a, .int .i64 r] (.tup [.int .i64 (11 + r), .bool true]) [], .cl [.agg (pgA pL), .agg (rgA sL), enR (lL rs vs dn n), .int .i64 a, .agg (vlA ⟨true, r⟩)] (.tup [.int .i64 (11 + r), .bool true]) [], oR62 rs vs dn r a n, .bd false, .bd false, .bd false, .bd true, .bd true, .cl [] (.bool true) []] [] (.bool true) []) := vc_by (cj (pv ((80 : Nat) ≤ 140737488355328 ∧ (1 : Nat) ≤ 140737488355328)) (cj (i6 ((0 : Int) + 1)) (cj (pv ((0 : Nat) = 0 ∧ (1 : Nat) = 1 ∧ (160 : Nat) ≤ 140737488355328 ∧ (2 : Nat) ≤ 140737488355328)) (cj (i6 ((0 : Int) + 1 + 1)) (cj (pv ((0 : Nat) = 0 ∧ (2 : Nat) = 2 ∧ (240 : Nat) ≤ 140737488355328 ∧ (3 : Nat) ≤ 140737488355328)) (cj (i6 ((0 : Int) + 1 + 1 + 1)) (cj (pv ((0 : Nat) = 0 ∧ (3 : Nat) = 3 ∧ (320 : Nat) ≤ 140737488355328 ∧ (4 : Nat) ≤ 140737488355328)) (cj (i6 ((0 : Int) + 1 + 1 + 1 + 1)) (zR68 (cj (rf (4 : Nat)) (cj (sR60 ) (zR67 rs vs dn r0 a0 (cj (rf (0 : Nat)) (cj (rf (0 : Int)) (cj h2 (zR62 (zR66 (cj hr (cj ha (zR65 rs vs dn n (cj h3 (zR62 (zR61 rs vs dn n (zR64 rs vs dn r a n (cj hR (zR62 (zR61 rs vs dn n (zR63 rs vs dn r a n (cj hV (cj (i6 ((300 : Int) + r)) (zR62 (zR61 rs vs dn n (zR60 rs vs dn r a n (cj hN (cj (show ((11 : Int) + r != (11 : Int) + r) = false from by simp) (cj (rf false) (cj (i6 ((44 : Int) + r)) (cj (show ((44 : Int) + r != (44 : Int) + r) = false from by simp) (cj (dt ((-1 : Int) < 0)) (cj (i6 ((11 : Int) + r)) (cj (show ((11 : Int) + r == (11 : Int) + r) = true from by simp) (cj awakeC10 (cj (rf true) trivial))))))))))))))))))))))))))))))))))))))))))) (by kernel_rfl)
abbrev qR63 (rs : List Int) (vs : List Int) (dn : Int) (r : Int) (a : Int) (n : Nat) (c : Nat) (q : Nat) : Prop := Ok Try.prog (ntOf Try.prog 3) (.loop (lpC Try.prog 3 2)) (l3S (lL rs vs dn n) r a (-1) 0).st (.ext 4) (l3S (lL rs vs dn n) r a (q : Int) c).st
theorem rl_t (rs vs : List Int) (dn r0 a0 r a : Int) (n c : Nat) (q : Nat) (hr : bits .and .i64 r0 3 = r) (ha : bits .and .i64 a0 15 = a) (hr0 : 0 ≤ r) (hr3 : r < 4) (hn : n < 100) (hq : q < (lL rs vs dn n).length) (hq2 : (lL rs vs dn n).length < 100) (hd : ((lL rs vs dn n).getD q default).dn = true) (h2 : qR60 rs vs dn r0 a0 n) (h3 : qR63 rs vs dn r a n c q) (hR : PureC Try.prog 7 [.agg (pgA pL), .agg (rgA sL), enR (lL rs vs dn n), .int .i64 a, .int .i64 r] (.tup [.int .i64 ((lL rs vs dn n).getD q default).val, .bool true]) []) (hV : PureC Try.prog 8 [.agg (pgA pL), .agg (rgA sL), enR (lL rs vs dn n), .int .i64 a, .agg (vlA ⟨true, r⟩)] (.tup [.int .i64 ((lL rs vs dn n).getD q default).val, .bool true]) []) (hN : qR61 rs vs dn r a n) : Vc (vcFn Try.prog false 3 [lR rs, .int .i64 dn, lR vs, .int .i64 r0, .int .i64 a0] [.it 5, .fv, .fv, .fv, .fv, .lp [(0, 0)] (l2S rs vs dn r0 a0 [] 0) (.ext 2) (l2S rs vs dn r0 a0 (lL rs vs dn n) n), .lp [(0, 0), (1, 2)] (l3S (lL rs vs dn n) r a (-1) 0) (.ext 4) (l3S (lL rs vs dn n) r a (q : Int) c), .cl [.agg (pgA pL), .agg (rgA sL), enR (lL rs vs dn n), .int .i64 a, .int .i64 r] (.tup [.int .i64 ((lL rs vs dn n).getD q default).val, .bool true]) [], .cl [.agg (pgA pL), .agg (rgA sL), enR (lL rs vs dn n), .int .i64 a, .agg (vlA ⟨true, r⟩)] (.tup [.int .i64 ((lL rs vs dn n).getD q default).val, .bool true]) [], oR62 rs vs dn r a n, .bd false, .bd false, .bd false, .bd false, .lv (.bool true), .bd true, .bd true, .cl [] (.bool true) []] [] (.bool true) []) := vc_by (cj (pv ((80 : Nat) ≤ 140737488355328 ∧ (1 : Nat) ≤ 140737488355328)) (cj (i6 ((0 : Int) + 1)) (cj (pv ((0 : Nat) = 0 ∧ (1 : Nat) = 1 ∧ (160 : Nat) ≤ 140737488355328 ∧ (2 : Nat) ≤ 140737488355328)) (cj (i6 ((0 : Int) + 1 + 1)) (cj (pv ((0 : Nat) = 0 ∧ (2 : Nat) = 2 ∧ (240 : Nat) ≤ 140737488355328 ∧ (3 : Nat) ≤ 140737488355328)) (cj (i6 ((0 : Int) + 1 + 1 + 1)) (cj (pv ((0 : Nat) = 0 ∧ (3 : Nat) = 3 ∧ (320 : Nat) ≤ 140737488355328 ∧ (4 : Nat) ≤ 140737488355328)) (cj (i6 ((0 : Int) + 1 + 1 + 1 + 1)) (zR68 (cj (rf (4 : Nat)) (cj (sR60 ) (zR67 rs vs dn r0 a0 (cj (rf (0 : Nat)) (cj (rf (0 : Int)) (cj h2 (zR62 (zR66 (cj hr (cj ha (zR65 rs vs dn n (cj h3 (zR62 (zR61 rs vs dn n (zR64 rs vs dn r a n (cj hR (zR62 (zR61 rs vs dn n (zR63 rs vs dn r a n (cj hV (cj (i6 ((300 : Int) + r)) (zR62 (zR61 rs vs dn n (zR60 rs vs dn r a n (cj hN (cj (show ((List.getD (lL rs vs dn n) q default).val != (List.getD (lL rs vs dn n) q default).val) = false from by simp) (cj (rf false) (cj (i6 ((44 : Int) + r)) (cj (show ((44 : Int) + r != (44 : Int) + r) = false from by simp) (cj (df ((q : Int) < 0)) (cj (bi (q : Int) (↑((lL rs vs dn n).length) : Int)) (cj (congrArg (fun b => some (AV.bool b)) hd) (cj (rf true) (cj (bi (q : Int) (↑((lL rs vs dn n).length) : Int)) (cj (show ((List.getD (lL rs vs dn n) q default).val == (List.getD (lL rs vs dn n) q default).val) = true from by simp) (cj awakeC10 (cj (rf true) trivial)))))))))))))))))))))))))))))))))))))))))))))) (by kernel_rfl)
theorem rl_f (rs vs : List Int) (dn r0 a0 r a : Int) (n c : Nat) (q : Nat) (hr : bits .and .i64 r0 3 = r) (ha : bits .and .i64 a0 15 = a) (hr0 : 0 ≤ r) (hr3 : r < 4) (hn : n < 100) (hq : q < (lL rs vs dn n).length) (hq2 : (lL rs vs dn n).length < 100) (hd : ((lL rs vs dn n).getD q default).dn = false) (h2 : qR60 rs vs dn r0 a0 n) (h3 : qR63 rs vs dn r a n c q) (hR : PureC Try.prog 7 [.agg (pgA pL), .agg (rgA sL), enR (lL rs vs dn n), .int .i64 a, .int .i64 r] (.tup [.int .i64 0, .bool false]) []) (hV : PureC Try.prog 8 [.agg (pgA pL), .agg (rgA sL), enR (lL rs vs dn n), .int .i64 a, .agg (vlA ⟨true, r⟩)] (.tup [.int .i64 0, .bool false]) []) (hN : qR61 rs vs dn r a n) : Vc (vcFn Try.prog false 3 [lR rs, .int .i64 dn, lR vs, .int .i64 r0, .int .i64 a0] [.it 5, .fv, .fv, .fv, .fv, .lp [(0, 0)] (l2S rs vs dn r0 a0 [] 0) (.ext 2) (l2S rs vs dn r0 a0 (lL rs vs dn n) n), .lp [(0, 0), (1, 2)] (l3S (lL rs vs dn n) r a (-1) 0) (.ext 4) (l3S (lL rs vs dn n) r a (q : Int) c), .cl [.agg (pgA pL), .agg (rgA sL), enR (lL rs vs dn n), .int .i64 a, .int .i64 r] (.tup [.int .i64 0, .bool false]) [], .cl [.agg (pgA pL), .agg (rgA sL), enR (lL rs vs dn n), .int .i64 a, .agg (vlA ⟨true, r⟩)] (.tup [.int .i64 0, .bool false]) [], oR62 rs vs dn r a n, .bd false, .bd false, .bd false, .bd false, .lv (.bool false), .bd true, .bd true, .cl [] (.bool true) []] [] (.bool true) []) := vc_by (cj (pv ((80 : Nat) ≤ 140737488355328 ∧ (1 : Nat) ≤ 140737488355328)) (cj (i6 ((0 : Int) + 1)) (cj (pv ((0 : Nat) = 0 ∧ (1 : Nat) = 1 ∧ (160 : Nat) ≤ 140737488355328 ∧ (2 : Nat) ≤ 140737488355328)) (cj (i6 ((0 : Int) + 1 + 1)) (cj (pv ((0 : Nat) = 0 ∧ (2 : Nat) = 2 ∧ (240 : Nat) ≤ 140737488355328 ∧ (3 : Nat) ≤ 140737488355328)) (cj (i6 ((0 : Int) + 1 + 1 + 1)) (cj (pv ((0 : Nat) = 0 ∧ (3 : Nat) = 3 ∧ (320 : Nat) ≤ 140737488355328 ∧ (4 : Nat) ≤ 140737488355328)) (cj (i6 ((0 : Int) + 1 + 1 + 1 + 1)) (zR68 (cj (rf (4 : Nat)) (cj (sR60 ) (zR67 rs vs dn r0 a0 (cj (rf (0 : Nat)) (cj (rf (0 : Int)) (cj h2 (zR62 (zR66 (cj hr (cj ha (zR65 rs vs dn n (cj h3 (zR62 (zR61 rs vs dn n (zR64 rs vs dn r a n (cj hR (zR62 (zR61 rs vs dn n (zR63 rs vs dn r a n (cj hV (cj (i6 ((300 : Int) + r)) (zR62 (zR61 rs vs dn n (zR60 rs vs dn r a n (cj hN (cj (rf false) (cj (rf false) (cj (i6 ((44 : Int) + r)) (cj (show ((44 : Int) + r != (44 : Int) + r) = false from by simp) (cj (df ((q : Int) < 0)) (cj (bi (q : Int) (↑((lL rs vs dn n).length) : Int)) (cj (congrArg (fun b => some (AV.bool b)) hd) (cj (rf true) (cj (rf true) (cj awakeC10 (cj (rf true) trivial))))))))))))))))))))))))))))))))))))))))))))) (by kernel_rfl)
theorem regL_cases (l : List En) (r : Int) (hr0 : 0 ≤ r) (hr3 : r < 4) (hp : ∀ j, j < l.length → 0 ≤ (l.getD j default).pc ∧ (l.getD j default).pc < 4) : ∀ c, c ≤ l.length → (regF pL l r c = none ∧ lastL l r c = -1) ∨ ∃ q, q < c ∧ lastL l r c = (q : Int) ∧ regF pL l r c = some (if (l.getD q default).dn then ((l.getD q default).val, true) else (0, false))
  | 0, _ => .inl ⟨rfl, rfl⟩
  | c + 1, hc => by
    have hpc := hp c (by omega)
    have hi : dstB (enI pL l c) = true ∧ (enI pL l c).d = (l.getD c default).pc := by
      obtain ⟨h0, h1⟩ := hpc
      have : ∀ x : Int, 0 ≤ x → x < 4 → dstB (atI pL x) = true ∧ (atI pL x).d = x := fun x h0 h1 => by
        rcases four h0 h1 with rfl | rfl | rfl | rfl <;> decide
      exact this _ h0 h1
    unfold regF lastL
    by_cases h : (l.getD c default).pc = r
    · rw [if_pos ⟨hi.1, hi.2.trans h⟩, if_pos h]
      exact .inr ⟨c, by omega, rfl, rfl⟩
    · rw [if_neg fun e => h (hi.2.symm.trans e.2), if_neg h]
      rcases regL_cases l r hr0 hr3 hp c (by omega) with h1 | ⟨q, h1, h2⟩
      · exact .inl h1
      · exact .inr ⟨q, by omega, h2⟩
theorem lL_pc (rs vs : List Int) (dn : Int) : ∀ n, ∀ x ∈ lL rs vs dn n, 0 ≤ x.pc ∧ x.pc < 4
  | 0, x, hx => by cases hx
  | n + 1, x, hx => by
    rcases List.mem_append.1 hx with h | h
    · exact lL_pc rs vs dn n x h
    · rw [List.mem_singleton.1 h]
      have := Wd.bits_mask (rs.getD n 0) 2 (by omega)
      show 0 ≤ bits .and .i64 (rs.getD n 0) 3 ∧ bits .and .i64 (rs.getD n 0) 3 < 4
      rw [show (3 : Int) = 2 ^ 2 - 1 from rfl, this]
      omega
theorem sL_reg {r : Int} (h0 : 0 ≤ r) (h1 : r < 4) : sL.reg r = 11 + r := by
  rcases four h0 h1 with rfl | rfl | rfl | rfl <;> rfl
theorem resoLastC (rs vs : List Int) (dn r0 a0 : Int) : PureC Try.prog 3 [lR rs, .int .i64 dn, lR vs, .int .i64 r0, .int .i64 a0] (.bool true) [] := by
  obtain ⟨r, hr⟩ : ∃ r, bits .and .i64 r0 3 = r := ⟨_, rfl⟩
  obtain ⟨a, ha⟩ : ∃ a, bits .and .i64 a0 15 = a := ⟨_, rfl⟩
  obtain ⟨n, hn⟩ : ∃ n, n = min rs.length 12 := ⟨_, rfl⟩
  have hr1 := Wd.bits_mask r0 2 (by omega)
  rw [show (2 : Int) ^ 2 - 1 = 3 from rfl, hr] at hr1
  have hr0 : 0 ≤ r := by omega
  have hr3 : r < 4 := by omega
  have hlen := lL_len rs vs dn n
  have h2 := l2_loop rs vs dn r0 a0 n hn
  have h3 := (l3_loop (lL rs vs dn n) r a (by omega) (cl0 a (lL rs vs dn n).length) 0 (by omega)).ok
  have hR := lregC pL sL (lL rs vs dn n) a r (by omega)
  have hV := lvlC pL sL (lL rs vs dn n) a ⟨true, r⟩ (by omega)
  have hN := lvlC pL sL (lL rs vs dn n) a ⟨false, 300 + r⟩ (by omega)
  have hm : Wd.maskV pL.W (300 + r) = 44 + r := by
    rcases four hr0 hr3 with rfl | rfl | rfl | rfl <;> decide
  have eN : valF pL sL (lL rs vs dn n) a ⟨false, 300 + r⟩ = (44 + r, true) := by unfold valF; rw [if_neg (by simp), hm]
  rw [eN] at hN
  have eV : valF pL sL (lL rs vs dn n) a ⟨true, r⟩ = regV pL sL (lL rs vs dn n) a r := by unfold valF; rw [if_pos rfl]
  rw [eV] at hV
  have hle := cl0_le a (lL rs vs dn n).length
  rw [show lastL (lL rs vs dn n) r 0 = -1 from rfl] at h3
  rcases regL_cases (lL rs vs dn n) r hr0 hr3 (fun j hj => lL_pc rs vs dn n _ (by rw [List.getD_eq_getElem?_getD, List.getElem?_eq_getElem hj]; exact List.getElem_mem hj)) (cl0 a (lL rs vs dn n).length) hle with ⟨e1, e2⟩ | ⟨q, e0, e2, e1⟩
  · have eR : regV pL sL (lL rs vs dn n) a r = (11 + r, true) := by unfold regV; rw [if_pos ⟨hr0, hr3⟩, e1, sL_reg hr0 hr3]
    rw [eR] at hR hV
    rw [e2] at h3
    exact PureC.vc (rl_none rs vs dn r0 a0 r a n _ hr ha hr0 hr3 (by omega) h2 h3 hR hV hN)
  · have eR : regV pL sL (lL rs vs dn n) a r = (if ((lL rs vs dn n).getD q default).dn then (((lL rs vs dn n).getD q default).val, true) else (0, false)) := by unfold regV; rw [if_pos ⟨hr0, hr3⟩, e1]
    rw [eR] at hR hV
    rw [e2] at h3
    cases hd : ((lL rs vs dn n).getD q default).dn with
    | true =>
      rw [hd, if_pos rfl] at hR hV
      exact PureC.vc (rl_t rs vs dn r0 a0 r a n _ q hr ha hr0 hr3 (by omega) (by omega) (by omega) hd h2 h3 hR hV hN)
    | false =>
      rw [hd, if_neg (by simp)] at hR hV
      exact PureC.vc (rl_f rs vs dn r0 a0 r a n _ q hr ha hr0 hr3 (by omega) (by omega) (by omega) hd h2 h3 hR hV hN)
theorem walk_ResoLast (A0 : Option Addr) (c0 : Nat) (z0 : List Int) (a1 : Int) (A2 : Option Addr) (c2 : Nat) (z2 : List Int) (a3 a4 : Int) (W : World) (hc0 : z0.length ≤ c0) (hm0 : c0 ≤ maxLen) (hr0 : Rd W W.heap.size A0 (z0.map (Value.int .i64)))
    (hc2 : z2.length ≤ c2) (hm2 : c2 ≤ maxLen) (hr2 : Rd W W.heap.size A2 (z2.map (Value.int .i64))) : Calls Try.prog 3 #[.slice A0 z0.length c0, .int .i64 a1, .slice A2 z2.length c2, .int .i64 a3, .int .i64 a4] W (RetB (.bool true) W) :=
  (resoLastC z0 z2 a1 a3 a4).lawB (R := fun g => g < W.heap.size) (fun _ h => h) rfl (fun j x v hx hv => match j, hx, hv with
    | 0, rfl, rfl => .ofRd hr0 hc0 hm0
    | 1, rfl, rfl => .int _ _
    | 2, rfl, rfl => .ofRd hr2 hc2 hm2
    | 3, rfl, rfl => .int _ _
    | 4, rfl, rfl => .int _ _)
end
end Go.Proofs.Ytjfdffjdjbakbaa.Px
namespace Go.Proofs.Ytjfdffjdjbakbaa.Px
section
open Go.RowKit Go.Proofs.Ytjfdffjdjbakbaa.Rx
def isF : List In := [⟨1, 1, 0, vZ, vZ, ⟨#[]⟩, 0⟩, ⟨10, 0, 0, vZ, vZ, ⟨#[]⟩, 0⟩]
def pF : Pg := ⟨1, 0, 0, 0, 0, 0, 0, [], [], isF⟩
def eF (w : Int) (k : Nat) : En := ⟨shI w k, 0, 0, 0, 0, (bits .and .i64 (Int.fdiv w (2 ^ min (IntKind.wrap .u64 ((k : Int) + 16)).toNat IntKind.i64.bits)) 1 == 1), false, false⟩
def lF (w : Int) : Nat → List En
  | 0 => []
  | k + 1 => lF w k ++ [eF w k]
def fBx : Blk := ⟨0, false, 28, .box (pgA pF)⟩
def f1S (w n a0 : Int) (l : List En) (k : Nat) : Sm := ⟨[(0, .int .i64 w), (1, .int .i64 n), (2, .int .i64 a0), (7, .bptr 0 0), (8, .own 1 0 8 0 l.length), (9, .int .i64 k)], [(0, fBx), (1, enB l)], 2⟩
def f2S (w n a : Int) (l : List En) (b : Bool) (k : Nat) : Sm := ⟨[(0, .int .i64 w), (1, .int .i64 n), (2, .int .i64 a), (7, .bptr 0 0), (8, enR l), (10, .bool b), (11, .int .i64 k)], [(0, fBx)], 1⟩
def wantF (w : Int) : Nat → Bool
  | 0 => false
  | k + 1 => wantF w k || (shI w k == 1)
theorem lF_len (w : Int) : ∀ k, (lF w k).length = k
  | 0 => rfl
  | k + 1 => by rw [lF, List.length_append, lF_len w k]; rfl
theorem sR70 (k : Nat) : (0 : Int) ≤ IntKind.wrap IntKind.u64 (k : Int) := (u_wrap_nn _)
theorem zR70  {Z : Prop} (z : Z) : (RF (1 : Int) (RF (0 : Int) (RF (0 : Int) (RF (0 : Int) (RF (0 : Int) (RF (0 : Int) (RF (0 : Int) (RF (0 : Nat) (RR 0 3 (fun i j => rowL mmC [] i j) Z))))))))) := ⟨rfl, rfl, rfl, rfl, rfl, rfl, rfl, rfl, fun _ _ _ _ => rfl, z⟩
theorem f1_step (w n a0 : Int) (l : List En) (k : Nat) (hk : (k : Int) < n) (hn : n < 100) (hl : l.length = k) : Vc (vcC Try.prog false (ntOf Try.prog 4) (lpC Try.prog 4 0) (f1S w n a0 l k) [.bd true, .fv] .nrm [(0, 0), (1, 1)] (f1S w n a0 (l ++ [eF w k]) (k + 1))) := vc_by (cj (dt ((k : Int) < n)) (cj (sR70 k) (cj (i6 ((k : Int) + 16)) (cj (show (0 : Int) ≤ IntKind.wrap IntKind.u64 ((k : Int) + 16) from (u_wrap_nn _)) (cj (ap l.length 1 48) (cj (i6 ((k : Int) + 1)) (zR70 (cj (rf (0 : Nat)) (cj (rr 0 2 fun i j => rowL lbC [] i j) (cj (rf (2 : Nat)) (cj (rr 2 9 fun i j => rowL inC [In.mk (1 : Int) (1 : Int) (0 : Int) vZ vZ (ByteArray.mk (Array.mk [])) (0 : Int), In.mk (10 : Int) (0 : Int) (0 : Int) vZ vZ (ByteArray.mk (Array.mk [])) (0 : Int)] i j) (cj (show l.length + 1 = (l ++ [eF w k]).length from by rw [List.length_append]; rfl) (cj (show ∀ (i : Nat), i < l.length + 1 → ∀ (j : Nat), j < 8 → (bif Nat.blt i l.length then rowL enC l i j else List.getD [aI (Go.bits Go.BinOp.and IntKind.i64 (Int.fdiv w ((2 : Int) ^ Min.min (k % (18446744073709551616 : Nat)) (64 : Nat))) (1 : Int)), aI (0 : Int), aI (0 : Int), aI (0 : Int), aI (0 : Int), AV.bool (Go.bits Go.BinOp.and IntKind.i64 (Int.fdiv w ((2 : Int) ^ Min.min ((k + nat_lit 16) % (18446744073709551616 : Nat)) (64 : Nat))) (1 : Int) == (1 : Int)), AV.bool false, AV.bool false] ((i - l.length) * 8 + j) AV.junk) = rowL enC (l ++ [eF w k]) i j from (fun i hi j hj => row_if (fun h => (rowL_left h).symm) (fun h => by obtain rfl : i = _ := Nat.le_antisymm (Nat.lt_succ_iff.mp hi) (Nat.not_lt.mp h); rw [rowL_last, Nat.sub_self]; match j, hj with | 0, _ => rfl | 1, _ => rfl | 2, _ => rfl | 3, _ => rfl | 4, _ => rfl | 5, _ => rfl | 6, _ => rfl | 7, _ => rfl))) (cj (rf w) (cj (rf n) (cj (rf a0) (cj (rf (0 : Nat)) (cj (show l.length + 1 = (l ++ [eF w k]).length from by rw [List.length_append]; rfl) (cj (rf ((k : Int) + 1)) trivial))))))))))))))))))) (by kernel_rfl)
theorem f1_end (w n a0 : Int) (l : List En) (k : Nat) (hk : ¬ (k : Int) < n) : Vc (vcC Try.prog false (ntOf Try.prog 4) (lpC Try.prog 4 0) (f1S w n a0 l k) [.bd false] (.ext 0) [(0, 0), (1, 1)] (f1S w n a0 l k)) := vc_by (cj (df ((k : Int) < n)) (zR70 (cj (rf (0 : Nat)) (cj (rr 0 2 fun i j => rowL lbC [] i j) (cj (rf (2 : Nat)) (cj (rr 2 9 fun i j => rowL inC [In.mk (1 : Int) (1 : Int) (0 : Int) vZ vZ (ByteArray.mk (Array.mk [])) (0 : Int), In.mk (10 : Int) (0 : Int) (0 : Int) vZ vZ (ByteArray.mk (Array.mk [])) (0 : Int)] i j) (cj (rf l.length) (cj (rr l.length 8 fun i j => rowL enC l i j) (cj (rf w) (cj (rf n) (cj (rf a0) (cj (rf (0 : Nat)) (cj (rf l.length) (cj (rf (k : Int)) trivial)))))))))))))) (by kernel_rfl)
theorem zR71 (w : Int) (n : Int) (a : Int) (l : List En) {Z : Prop} (z : Z) : (RF (0 : Nat) (RR 0 2 (fun i j => rowL lbC [] i j) (RF (2 : Nat) (RR 2 9 (fun i j => rowL inC [In.mk (1 : Int) (1 : Int) (0 : Int) vZ vZ (ByteArray.mk (Array.mk [])) (0 : Int), In.mk (10 : Int) (0 : Int) (0 : Int) vZ vZ (ByteArray.mk (Array.mk [])) (0 : Int)] i j) (RF w (RF n (RF a (RF l.length (RR l.length 8 (fun i j => rowL enC l i j) Z))))))))) := ⟨rfl, fun _ _ _ _ => rfl, rfl, fun _ _ _ _ => rfl, rfl, rfl, rfl, rfl, fun _ _ _ _ => rfl, z⟩
theorem f2_t (w n a : Int) (l : List En) (k : Nat) (ha : (k : Int) < a) (hk : (k : Int) < n) (hn : n < 100) : Vc (vcC Try.prog false (ntOf Try.prog 4) (lpC Try.prog 4 1) (f2S w n a l true k) [.bd true, .bd true, .b true, .b true] .nrm [(0, 0)] (f2S w n a l true (k + 1))) := vc_by (cj (dt ((k : Int) < a)) (cj (dt ((k : Int) < n)) (cj (rf true) (cj (rf true) (cj (i6 ((k : Int) + 1)) (zR70 (zR71 w n a l (cj (rf true) (cj (rf ((k : Int) + 1)) trivial))))))))) (by kernel_rfl)
theorem f2_ftrue (w n a : Int) (l : List En) (k : Nat) (ha : (k : Int) < a) (hk : (k : Int) < n) (hn : n < 100) (h : (shI w k == 1) = true) : Vc (vcC Try.prog false (ntOf Try.prog 4) (lpC Try.prog 4 1) (f2S w n a l false k) [.bd true, .bd true, .b true, .b true, .bd true] .nrm [(0, 0)] (f2S w n a l true (k + 1))) := vc_by (cj (dt ((k : Int) < a)) (cj (dt ((k : Int) < n)) (cj (rf true) (cj (rf true) (cj (sR70 k) (cj h (cj (i6 ((k : Int) + 1)) (zR70 (zR71 w n a l (cj (rf true) (cj (rf ((k : Int) + 1)) trivial))))))))))) (by kernel_rfl)
theorem f2_ffalse (w n a : Int) (l : List En) (k : Nat) (ha : (k : Int) < a) (hk : (k : Int) < n) (hn : n < 100) (h : (shI w k == 1) = false) : Vc (vcC Try.prog false (ntOf Try.prog 4) (lpC Try.prog 4 1) (f2S w n a l false k) [.bd true, .bd true, .b true, .b true, .bd false] .nrm [(0, 0)] (f2S w n a l false (k + 1))) := vc_by (cj (dt ((k : Int) < a)) (cj (dt ((k : Int) < n)) (cj (rf true) (cj (rf true) (cj (sR70 k) (cj h (cj (i6 ((k : Int) + 1)) (zR70 (zR71 w n a l (cj (rf false) (cj (rf ((k : Int) + 1)) trivial))))))))))) (by kernel_rfl)
theorem f2_enda (w n a : Int) (l : List En) (k : Nat) (b : Bool) (ha : ¬ (k : Int) < a) : Vc (vcC Try.prog false (ntOf Try.prog 4) (lpC Try.prog 4 1) (f2S w n a l b k) [.bd false] (.ext 2) [(0, 0)] (f2S w n a l b k)) := vc_by (cj (df ((k : Int) < a)) (zR70 (zR71 w n a l (cj (rf b) (cj (rf (k : Int)) trivial))))) (by kernel_rfl)
theorem f2_endn (w n a : Int) (l : List En) (k : Nat) (b : Bool) (ha : (k : Int) < a) (hk : ¬ (k : Int) < n) : Vc (vcC Try.prog false (ntOf Try.prog 4) (lpC Try.prog 4 1) (f2S w n a l b k) [.bd true, .bd false] (.ext 2) [(0, 0)] (f2S w n a l b k)) := vc_by (cj (dt ((k : Int) < a)) (cj (df ((k : Int) < n)) (zR70 (zR71 w n a l (cj (rf b) (cj (rf (k : Int)) trivial)))))) (by kernel_rfl)
theorem f1_loop (w a0 : Int) (N : Nat) (hN : N < 100) : Ok Try.prog (ntOf Try.prog 4) (.loop (lpC Try.prog 4 0)) (f1S w N a0 [] 0).st (.ext 0) (f1S w N a0 (lF w N) N).st :=
  Ok.loop (P := Try.prog) (nt := ntOf Try.prog 4) (c := lpC Try.prog 4 0) (F := fun k => f1S w N a0 (lF w k) k) (m := N) (x := .ext 0) (J := f1S w N a0 (lF w N) N) (fun k hk => Ok.vc (f1_step w N a0 _ k (by omega) (by omega) (lF_len w k))) (Ok.vc (f1_end w N a0 _ N (by omega))) (by simp)
theorem f2_loop (w a : Int) (l : List En) (N : Nat) (hN : N < 100) : ∀ j k, k + j = cl0 a N → OkL Try.prog (ntOf Try.prog 4) (lpC Try.prog 4 1) (f2S w N a l (wantF w k) k).st (.ext 2) (f2S w N a l (wantF w (cl0 a N)) (cl0 a N)).st
  | 0, k, hk => by
    obtain rfl : k = cl0 a N := by omega
    rcases cl0_end a N with h | h
    · exact OkL.exit (Ok.vc (f2_enda w N a l _ _ h)) (by simp)
    · by_cases h2 : ((cl0 a N : Nat) : Int) < a
      · exact OkL.exit (Ok.vc (f2_endn w N a l _ _ h2 (by omega))) (by simp)
      · exact OkL.exit (Ok.vc (f2_enda w N a l _ _ h2)) (by simp)
  | j + 1, k, hk => by
    have hl := cl0_lt (i := a) (n := N) (k := k) (by omega)
    have ih := f2_loop w a l N hN j (k + 1) (by omega)
    rw [show wantF w (k + 1) = (wantF w k || (shI w k == 1)) from rfl] at ih
    cases hw : wantF w k with
    | true =>
      rw [hw, Bool.true_or] at ih
      exact OkL.step (Ok.vc (f2_t w N a l k hl.1 (by omega) (by omega))) ih
    | false =>
      rw [hw, Bool.false_or] at ih
      cases h : (shI w k == 1) with
      | true => rw [h] at ih; exact OkL.step (Ok.vc (f2_ftrue w N a l k hl.1 (by omega) (by omega) h)) ih
      | false => rw [h] at ih; exact OkL.step (Ok.vc (f2_ffalse w N a l k hl.1 (by omega) (by omega) h)) ih
theorem fen_vc (w n0 a0 a : Int) (N : Nat) (b : Bool) (hn : bits .and .i64 n0 15 = N) (ha : bits .and .i64 a0 31 - 4 = a) (hi : inK .i64 a) (h1 : Ok Try.prog (ntOf Try.prog 4) (.loop (lpC Try.prog 4 0)) (f1S w N a0 [] 0).st (.ext 0) (f1S w N a0 (lF w N) N).st) (h2 : Ok Try.prog (ntOf Try.prog 4) (.loop (lpC Try.prog 4 1)) (f2S w N a (lF w N) false 0).st (.ext 2) (f2S w N a (lF w N) b (cl0 a N)).st) (hB : PureC Try.prog 10 [.agg (pgA pF), enR (lF w N), .int .i64 a] (.bool b) []) : Vc (vcFn Try.prog false 4 [.int .i64 w, .int .i64 n0, .int .i64 a0] [.fv, .lp [(0, 0)] (f1S w N a0 [] 0) (.ext 0) (f1S w N a0 (lF w N) N), .lp [(0, 0)] (f2S w N a (lF w N) false 0) (.ext 2) (f2S w N a (lF w N) b (cl0 a N)), .cl [.agg (pgA pF), enR (lF w N), .int .i64 a] (.bool b) [], .bd true, .cl [] (.bool true) []] [] (.bool true) []) := vc_by (cj (rf (1 : Int)) (cj (rf (0 : Int)) (cj (rf (0 : Int)) (cj (rf (0 : Int)) (cj (rf (0 : Int)) (cj (rf (0 : Int)) (cj (rf (0 : Int)) (cj (rf (0 : Nat)) (cj (rf (0 : Nat)) (cj (rf (2 : Nat)) (cj (show ∀ (i : Nat), i < 2 → ∀ (j : Nat), j < 9 → List.getD [aI (1 : Int), aI (1 : Int), aI (0 : Int), AV.bool false, aI (0 : Int), AV.bool false, aI (0 : Int), AV.str (ByteArray.mk (Array.mk [])), aI (0 : Int), aI (10 : Int), aI (0 : Int), aI (0 : Int), AV.bool false, aI (0 : Int), AV.bool false, aI (0 : Int), AV.str (ByteArray.mk (Array.mk [])), aI (0 : Int)] (i * 9 + j) AV.junk = rowL inC [In.mk (1 : Int) (1 : Int) (0 : Int) vZ vZ (ByteArray.mk (Array.mk [])) (0 : Int), In.mk (10 : Int) (0 : Int) (0 : Int) vZ vZ (ByteArray.mk (Array.mk [])) (0 : Int)] i j from (fun i hi j hj => match i, hi, j, hj with | 0, _, 0, _ => rfl | 0, _, 1, _ => rfl | 0, _, 2, _ => rfl | 0, _, 3, _ => rfl | 0, _, 4, _ => rfl | 0, _, 5, _ => rfl | 0, _, 6, _ => rfl | 0, _, 7, _ => rfl | 0, _, 8, _ => rfl | 1, _, 0, _ => rfl | 1, _, 1, _ => rfl | 1, _, 2, _ => rfl | 1, _, 3, _ => rfl | 1, _, 4, _ => rfl | 1, _, 5, _ => rfl | 1, _, 6, _ => rfl | 1, _, 7, _ => rfl | 1, _, 8, _ => rfl)) (cj (rf (0 : Nat)) (cj (rf w) (cj hn (cj (rf a0) (cj (rf (0 : Nat)) (cj (rf (0 : Nat)) (cj (rf (0 : Int)) (cj h1 (cj (show inK IntKind.i64 (Go.bits Go.BinOp.and IntKind.i64 a0 (31 : Int) - 4) from by rw [ha]; exact hi) (zR70 (cj (rf (0 : Nat)) (cj (rr 0 2 fun i j => rowL lbC [] i j) (cj (rf (2 : Nat)) (cj (rr 2 9 fun i j => rowL inC [In.mk (1 : Int) (1 : Int) (0 : Int) vZ vZ (ByteArray.mk (Array.mk [])) (0 : Int), In.mk (10 : Int) (0 : Int) (0 : Int) vZ vZ (ByteArray.mk (Array.mk [])) (0 : Int)] i j) (cj (rf w) (cj (rf (N : Int)) (cj ha (cj (rf ((lF w N).length)) (cj (rr ((lF w N).length) 8 fun i j => rowL enC (lF w N) i j) (cj (rf false) (cj (rf (0 : Int)) (cj h2 (zR70 (cj (rf (0 : Nat)) (cj (rr 0 2 fun i j => rowL lbC [] i j) (cj (rf (2 : Nat)) (cj (rr 2 9 fun i j => rowL inC [In.mk (1 : Int) (1 : Int) (0 : Int) vZ vZ (ByteArray.mk (Array.mk [])) (0 : Int), In.mk (10 : Int) (0 : Int) (0 : Int) vZ vZ (ByteArray.mk (Array.mk [])) (0 : Int)] i j) (cj (rf ((lF w N).length)) (cj (rr ((lF w N).length) 8 fun i j => rowL enC (lF w N) i j) (cj (rf a) (cj hB (cj (show (b == b) = true from by simp) (cj awakeC10 (cj (rf true) trivial))))))))))))))))))))))))))))))))))))))))))))) (by kernel_rfl)
theorem sh_01 (w : Int) (k : Nat) : shI w k = 0 ∨ shI w k = 1 := by
  have := Wd.bits_mask (Int.fdiv w (2 ^ min (IntKind.wrap .u64 (k : Int)).toNat IntKind.i64.bits)) 1 (by omega)
  unfold shI
  rw [show (2 : Int) ^ 1 - 1 = 1 from rfl] at this
  rw [this]
  omega
theorem fnc_F (w : Int) (k : Nat) : fnc pF (eF w k) = (shI w k == 1) := by
  show ((atI pF (shI w k)).kind == 10) = (shI w k == 1)
  rcases sh_01 w k with h | h <;> rw [h] <;> decide
theorem lF_get (w : Int) : ∀ n k, k < n → (lF w n).getD k default = eF w k
  | 0, k, h => by omega
  | n + 1, k, h => by
    have hl := lF_len w n
    rw [lF, List.getD_eq_getElem?_getD]
    by_cases e : k < n
    · rw [List.getElem?_append_left (by omega), ← List.getD_eq_getElem?_getD]
      exact lF_get w n k e
    · obtain rfl : k = n := by omega
      rw [List.getElem?_append_right (by omega), hl, Nat.sub_self]
      rfl
theorem want_iff (w : Int) : ∀ k, wantF w k = true ↔ ∃ q, q < k ∧ (shI w q == 1) = true
  | 0 => ⟨fun h => (by cases h), fun ⟨q, h, _⟩ => (by omega)⟩
  | k + 1 => by
    have ih := want_iff w k
    unfold wantF
    rw [Bool.or_eq_true, ih]
    constructor
    · rintro (⟨q, h1, h2⟩ | h)
      · exact ⟨q, by omega, h2⟩
      · exact ⟨k, by omega, h⟩
    · rintro ⟨q, h1, h2⟩
      by_cases e : q = k
      · subst e; exact .inr h2
      · exact .inl ⟨q, by omega, h2⟩
theorem blk_want (w a : Int) (N : Nat) : blkV pF (lF w N) a = wantF w (cl0 a N) := by
  have hl := lF_len w N
  have hle := cl0_le a N
  unfold blkV
  rw [hl, Bool.eq_iff_iff, blkG_iff, want_iff]
  constructor
  · rintro ⟨q, _, h2, h3⟩
    rw [lF_get w N q (by omega), fnc_F] at h3
    exact ⟨q, by omega, h3⟩
  · rintro ⟨q, h2, h3⟩
    exact ⟨q, by omega, by omega, by rw [lF_get w N q (by omega), fnc_F]; exact h3⟩
theorem resoFencesC (w n0 a0 : Int) : PureC Try.prog 4 [.int .i64 w, .int .i64 n0, .int .i64 a0] (.bool true) [] := by
  have h1 := Wd.bits_mask n0 4 (by omega)
  have h2 := Wd.bits_mask a0 5 (by omega)
  rw [show (2 : Int) ^ 4 - 1 = 15 from rfl] at h1
  rw [show (2 : Int) ^ 5 - 1 = 31 from rfl] at h2
  obtain ⟨N, hN⟩ : ∃ N : Nat, bits .and .i64 n0 15 = N := ⟨(bits .and .i64 n0 15).toNat, by omega⟩
  obtain ⟨a, ha⟩ : ∃ a, bits .and .i64 a0 31 - 4 = a := ⟨_, rfl⟩
  have hB := lblkC pF (lF w N) a (by rw [lF_len]; omega)
  have hl := (f2_loop w a (lF w N) N (by omega) (cl0 a N) 0 (by omega)).ok
  rw [blk_want] at hB
  exact PureC.vc (fen_vc w n0 a0 a N _ hN ha (in64 (by omega) (by omega)) (f1_loop w a0 N (by omega)) hl hB)
theorem walk_ResoFences (a0 a1 a2 : Int) (W : World) : Calls Try.prog 4 #[.int .i64 a0, .int .i64 a1, .int .i64 a2] W (RetB (.bool true) W) :=
  (resoFencesC a0 a1 a2).lawB (R := fun g => g < W.heap.size) (fun _ h => h) rfl (fun j x v hx hv => match j, hx, hv with
    | 0, rfl, rfl => .int _ _
    | 1, rfl, rfl => .int _ _
    | 2, rfl, rfl => .int _ _)
end
end Go.Proofs.Ytjfdffjdjbakbaa.Px
