/- Merged: Rx30, ItBw, O1, O2, O3, O4, O5, O6, O7. -/
import Derived.Test.YtdnmfgnpflhcpaaMaC
import Derived.RangeFuncBound
import Derived.RangeFuncCalls
import Derived.WalkKit
import Derived.OwnWalkIn
import Derived.TacticsInMore
import Derived.LoopNIn
import Derived.LoopIn
set_option linter.unusedVariables false
set_option linter.unusedSimpArgs false
set_option maxRecDepth 100000
namespace Go.Proofs.Ytdnmfgnpflhcpaa.Rx
section
open Go.RowKit
section
variable {P : Program}
/-- **one round, from one context between rounds to the next** -/
theorem Btw.round {nt : Nat} {ps : List Nat} {xk : List AV} {assign body : Code} {I : Sm} {Hk Hk' : List (Nat × Blk)} {x : X} (hr : Rnd P nt ps xk assign body I Hk x Hk') {cx0 : Cx} {a : Act} {l D fn : Nat} {pa : Array Tmp} {W : World} {cx : Cx}
    (h : Btw P cx0 I a nt l D (recOf' fn a pa assign body D .ready none) Hk W cx) (hB : ¬ cx.B l) (hBD : ¬ cx.B D) (hne : D ≠ l) (hkeep : (I.env.all fun q => keepA q.2) = true) (hps : ps = pa.toList) (hlt : ∀ p ∈ ps, p < nt)
    {us : Array Value} (hl1 : xk.length = us.size) (hl2 : xk.length = ps.length) (hu : ∀ (j : Nat) a u, xk[j]? = some a → us[j]? = some u → Rep cx a u) {m : Nat} {jump : Option Code} (hj : jump = match x with | .nrm => none | .ext id => some (.exit id) | .ret => some .ret) :
    YieldAt Fence.wide m P l us W fun e W' => e = .returned (.bool jump.isNone) ∧ ∃ cx', Btw P cx0 I a nt l D (recOf' fn a pa assign body D (if jump.isNone then .ready else .done) jump) Hk' W' cx' ∧ cx'.B = cx.B := by
  have hw := h.w
  subst hw
  letI : Dfs := nil0
  obtain ⟨st1, st2, r, qs, hP1, hP2, hbx, hle, hqs⟩ := hr
  have hs := h.s
  have hy := run_yield (P := P) (args := us) h.hl (by show us.size = pa.size; rw [← hl1, hl2, hps, Array.length_toList])
  refine ⟨fn, _, assign, body, hy, roundIn_of_wpIn trivial ?_⟩
  clear hy
  -- the round's first state
  have ha0 : (({ tmps := (pa.zip us).foldl (fun t q => t.setIfInBounds q.1 q.2) a.tmps, defers := [] } : Act)).tmps.size = nt := by
    show ((pa.zip us).foldl (fun t q => t.setIfInBounds q.1 q.2) a.tmps).size = nt
    rw [← Array.foldl_toList, fold_size]
    exact hs.sz
  have hs1 : @SRep nil0 cx ⟨envP I.st.env ps xk, lookO Hk, I.next⟩ { tmps := (pa.zip us).foldl (fun t q => t.setIfInBounds q.1 q.2) a.tmps, defers := [] } nt := by
    refine @SRep.mk nil0 _ _ _ _ hs.H (@SRep.c nil0 _ _ _ _ hs) (fun t => ?_) hs.lt ha0 rfl
    show Rep cx _ (((pa.zip us).foldl (fun t q => t.setIfInBounds q.1 q.2) a.tmps).getD t undef)
    rw [← Array.foldl_toList, Array.toList_zip, ← hps]
    exact envP_rep ps xk us.toList I.st.env a.tmps (by simpa using hl1) (by rw [← hl2, hl1, Array.length_toList]) (fun p hp => by rw [hs.sz]; exact hlt p hp) (fun t => @SRep.env nil0 _ _ _ _ hs t) (fun j a u h1 h2 => hu j a u h1 (by simpa using h2)) t
  have hS : ∀ E ∈ [l, D], ¬ cx.R E ∧ ∃ o, cx.w.heap[E]? = some o ∧ o.isCells = false := fun E hE => by
    rcases List.mem_cons.1 hE with rfl | hE
    · exact ⟨h.hR, _, h.hl, rfl⟩
    · rw [List.mem_singleton.1 hE]; exact ⟨h.hRD, _, h.hD, rfl⟩
  refine hP1 l m (cx.plus [l, D]) _ (@SRep.plus nil0 _ _ _ _ hs1 [l, D] fun E hE => (hS E hE).2) _ (by rintro ⟨_, _, h⟩; exact h) fun cxa aa hsa hta => ?_
  have ka := plus_keeps hta.ext hS
  have kl := ka l (by simp); have kD := ka D (by simp)
  have hal : cxa.w.heap[l]? = some (.loop (recOf' fn a pa assign body D .ready none)) := kl.1.trans h.hl
  have haD : cxa.w.heap[D]? = some (.deferred (some [])) := kD.1.trans h.hD
  have hsa' : @SRep nil0 (cxa.back cx) st1 aa nt := @SRep.back nil0 _ _ _ _ _ hsa fun g hg => by rw [hta.ext.B]; exact .inl hg
  refine ⟨_, run_beginRound hal rfl, ?_⟩
  -- the record is busy
  have hlt1 : l < cxa.w.heap.size := (Array.getElem?_eq_some_iff.1 hal).1
  have hsb : @SRep nil0 ((cxa.back cx).poke l (.loop (recOf' fn a pa assign body D .busy none))) st1 aa nt := @SRep.poke nil0 _ _ _ _ hsa' l _ _ hal rfl kl.2 hB
  have hbl : (cxa.w.putObj l (.loop (recOf' fn a pa assign body D .busy none))).heap[l]? = some (.loop (recOf' fn a pa assign body D .busy none)) := World.putObj_heap_same hlt1
  have hbD : (cxa.w.putObj l (.loop (recOf' fn a pa assign body D .busy none))).heap[D]? = some (.deferred (some [])) := (World.putObj_heap_other hne).trans haD
  have hS2 : ∀ E ∈ [l, D], ¬ ((cxa.back cx).poke l (.loop (recOf' fn a pa assign body D .busy none))).R E ∧ ∃ o, ((cxa.back cx).poke l (.loop (recOf' fn a pa assign body D .busy none))).w.heap[E]? = some o ∧ o.isCells = false := fun E hE => by
    rcases List.mem_cons.1 hE with rfl | hE
    · exact ⟨kl.2, _, hbl, rfl⟩
    · rw [List.mem_singleton.1 hE]; exact ⟨kD.2, _, hbD, rfl⟩
  have hstb : Stab cx ((cxa.back cx).poke l (.loop (recOf' fn a pa assign body D .busy none))) := hta.back.trans (poke_stab _ kl.2 hB)
  refine hP2 l m (((cxa.back cx).poke l (.loop (recOf' fn a pa assign body D .busy none))).plus [l, D]) _ (@SRep.plus nil0 _ _ _ _ hsb [l, D] fun E hE => (hS2 E hE).2) _ (by rintro ⟨_, _, h⟩; exact h) fun cxc ac hsc htc => ?_
  -- what is known is named anew
  obtain ⟨m1, m2, m3⟩ := leS_sound (@SRep.c nil0 _ _ _ _ hsc) (@SRep.H nil0 _ _ _ _ hsc) hle hqs (@SRep.env nil0 _ _ _ _ hsc)
  have hre := ren_ext (@SRep.c nil0 _ _ _ _ hsc) r (lookO Hk')
  have hed : Ext (((cxa.back cx).poke l (.loop (recOf' fn a pa assign body D .busy none))).plus [l, D]) (cxc.ren r (lookO Hk')) := htc.ext.trans hre
  have kc := plus_keeps hed hS2
  have ml := kc l (by simp); have mD := kc D (by simp)
  have hcl : cxc.w.heap[l]? = some (.loop (recOf' fn a pa assign body D .busy none)) := ml.1.trans hbl
  have hcD : cxc.w.heap[D]? = some (.deferred (some [])) := mD.1.trans hbD
  have hbst : BSt cx ((cxc.ren r (lookO Hk')).back ((cxa.back cx).poke l (.loop (recOf' fn a pa assign body D .busy none)))) := by
    refine ⟨hstb.ext.trans hed.back, fun id b hb hx => ?_⟩
    obtain ⟨b1, h1, h2, h3⟩ := hstb.bst.box id b hb hx
    obtain ⟨b2, h4, h5, h6⟩ := htc.bst.box id b1 h1 h2
    have hb' : lookO Hk id = some b := by rw [← hb, @SRep.H nil0 _ _ _ _ hs]
    obtain ⟨q1, b', q2, q3⟩ := boxOk_some hbx hb' hx
    refine ⟨b', q2, q3, ?_⟩
    show (lookO r id).bind cxc.φ = cx.φ id
    rw [q1]
    exact h6.trans h3
  have hsd : @SRep nil0 ((cxc.ren r (lookO Hk')).back ((cxa.back cx).poke l (.loop (recOf' fn a pa assign body D .busy none)))) ⟨I.st.env, lookO Hk', I.next⟩ a nt := by
    have hB2 : ∀ g, cx.B g → (cxc.ren r (lookO Hk')).B g := fun g hg => by rw [hed.B]; exact .inl hg
    have hc2 : @SRep nil0 (cxc.ren r (lookO Hk')) ⟨fun _ => .junk, lookO Hk', I.next⟩ ac nt := @SRep.mk nil0 _ _ _ _ rfl m1 (fun t => .pure (.junk _)) m3 (@SRep.sz nil0 _ _ _ _ hsc) (@SRep.df nil0 _ _ _ _ hsc)
    have hc3 := @SRep.back nil0 ((cxa.back cx).poke l (.loop (recOf' fn a pa assign body D .busy none))) _ _ _ _ hc2 hB2
    refine @SRep.mk nil0 _ _ _ _ rfl (@SRep.c nil0 _ _ _ _ hc3) (fun t => ?_) m3 (@SRep.sz nil0 _ _ _ _ hs) (@SRep.df nil0 _ _ _ _ hs)
    refine (@SRep.env nil0 _ _ _ _ hs t).keep ?_ (@SRep.c nil0 _ _ _ _ hs) hbst
    show keepA (look .junk I.env t) = true
    have : ∀ (L : List (Nat × AV)), (L.all fun q => keepA q.2) = true → keepA (look .junk L t) = true := fun L => by
      induction L with
      | nil => intro _; rfl
      | cons q L ih =>
        obtain ⟨k, v⟩ := q
        intro hL
        rw [List.all_cons, Bool.and_eq_true] at hL
        rw [look]
        cases Nat.beq t k with
        | true => exact hL.1
        | false => exact ih hL.2
    exact this I.env hkeep
  have hbtw : Btw P cx0 I a nt l D (recOf' fn a pa assign body D .busy none) Hk' cxc.w ((cxc.ren r (lookO Hk')).back ((cxa.back cx).poke l (.loop (recOf' fn a pa assign body D .busy none)))) :=
    ⟨rfl, hsd, h.bst.trans hbst.ext, hcl, ml.2, hcD, mD.2⟩
  have hend := run_endRound (P := P) jump hcl
  have hfin : e_post P l jump cxc.w (fun e W' => e = .returned (.bool jump.isNone) ∧ ∃ cx', Btw P cx0 I a nt l D (recOf' fn a pa assign body D (if jump.isNone then .ready else .done) jump) Hk' W' cx' ∧ cx'.B = cx.B) :=
    ⟨_, _, hend, rfl, _, hbtw.turn hB hne _, rfl⟩
  subst hj
  cases x with
  | nrm => exact hfin
  | ext id => exact hfin
  | ret => exact hfin
/-- **A loop over a function: m rounds that go on, and one that leaves, or none.** -/
theorem Ok.range {nt : Nat} {g : Operand} {pa : Array Tmp} {assign body : Code} {gf : FuncId} {caps : List AV} {N m : Nat} {xs : Nat → List AV} {I : Sm} {F : Nat → List (Nat × Blk)} {x : X} {G : List (Nat × Blk)}
    (hg : evalA I.st.env g = .clo gf caps) (hcb : caps.all baseA = true) (hkeep : (I.env.all fun q => keepA q.2) = true) (hfo : fnOk P gf = true) (hit : IterC P gf caps N xs) (hpl : ∀ k, (xs k).length = pa.size) (hlt : ∀ p ∈ pa.toList, p < nt) (hF0 : F 0 = I.heap) (hm : m ≤ N)
    (hr : ∀ k, k < m → Rnd P nt pa.toList (xs k) assign body I (F k) .nrm (F (k + 1)))
    (hend : (m = N ∧ x = .nrm ∧ G = F N) ∨ (m < N ∧ x ≠ .nrm ∧ Rnd P nt pa.toList (xs m) assign body I (F m) x G)) : Ok P nt (.rangeFunc g pa assign body) I.st x (⟨I.env, G, I.next⟩ : Sm).st := by
  intro d cx a hs Q hQ
  obtain ⟨fo, g1, g2, g3⟩ := fnOk_some hfo
  obtain ⟨bd, hbd⟩ := Option.isSome_iff_exists.1 g2
  have hge := rep_eval hs.env g
  rw [hg] at hge
  obtain ⟨vs, hv, hvl, hvr⟩ := hge.clo_inv
  refine (wpIn_wide (n := 2)).1 (wpIn_rangeFunc ?_)
  intro fn hfn
  obtain ⟨l, hl⟩ : ∃ l, l = cx.w.heap.size + 1 := ⟨_, rfl⟩
  obtain ⟨D, hD⟩ : ∃ D, D = cx.w.heap.size := ⟨_, rfl⟩
  obtain ⟨a0, ha0⟩ : ∃ a0 : Act, a0 = { tmps := a.tmps, defers := [] } := ⟨_, rfl⟩
  have hat : a0.tmps = a.tmps := by rw [ha0]
  obtain ⟨W1, hW1⟩ : ∃ W1, (cx.w.alloc (.deferred (some []))).alloc (.loop (recOf' fn a0 pa assign body D .ready none)) = W1 := ⟨_, rfl⟩
  have hb1 : Below cx.w.heap.size cx.w W1 := by rw [← hW1]; exact (((Below.refl _ _).alloc (Nat.le_refl _) _).alloc (by simp) _)
  have hW1l : W1.heap[l]? = some (.loop (recOf' fn a0 pa assign body D .ready none)) := by
    rw [← hW1, hl]; have := World.alloc_heap_new (cx.w.alloc (.deferred (some []))) (.loop (recOf' fn a0 pa assign body D .ready none)); rwa [World.size_alloc] at this
  have hW1D : W1.heap[D]? = some (.deferred (some [])) := by
    rw [← hW1, hD]; exact (Below.heap_alloc _ _ _ (by simp)).trans (World.alloc_heap_new cx.w _)
  have hne : D ≠ l := by omega
  have hnB : ∀ c : Cx, c.B = cx.B → ¬ c.B l ∧ ¬ c.B D := fun c e => by
    rw [e]
    exact ⟨fun h => by have := hs.c.blt l h; omega, fun h => by have := hs.c.blt D h; omega⟩
  have hs0 : @SRep nil0 cx ⟨I.st.env, lookO I.heap, I.next⟩ a0 nt := @SRep.mk nil0 _ _ _ _ hs.H hs.c (by rw [ha0]; exact hs.env) hs.lt (by rw [ha0]; exact hs.sz) (by rw [ha0]; rfl)
  have h0 : Btw P cx I a0 nt l D (recOf' fn a0 pa assign body D .ready none) (F 0) W1 ⟨W1, cx.R, cx.φ, cx.H, cx.B⟩ := by
    obtain ⟨k1, k2⟩ := below_keep hs.c hb1
    rw [hF0]
    exact ⟨rfl, SRep.moved hs0 k1 k2, k2.ext, hW1l, fun h => by have := hs.c.rlt l h; omega, hW1D, fun h => by have := hs.c.rlt D h; omega⟩
  refine ⟨l, [{ target := .collected D, args := #[] }], W1, { target := .fn (.func gf) vs, args := #[.func (.yield l) #[] #[]] }, W1, gf, #[.func (.yield l) #[] #[]] ++ vs, W1, ?_, ?_, ?_, ?_, by simp [Fence.wide], ?_⟩
  · rw [← hW1, hl, hD, ha0]; exact run_enterLoop_outer _ _ _ _ _
  · simp only [resolve, hv]
    simp [go_sem]
  · intro f' hf'; trivial
  · simp [invoke, go_sem, callFunc, g1, hbd, g3]
  have hfin : ∀ (st0 : LoopState) (pe : Option Code) (H : List (Nat × Blk)) (W2 : World) (c : Cx), Btw P cx I a0 nt l D (recOf' fn a0 pa assign body D st0 pe) H W2 c → c.B = cx.B → H = G →
      Q x.to { a with defers := [{ target := .collected D, args := #[] }] ++ a.defers } (W2.putObj l (.loop { recOf' fn a0 pa assign body D st0 pe with state := .exhausted })) := by
    intro st0 pe H W2 c hb hcB hH
    subst hH
    have ht := hb.turn (hnB c hcB).1 hne { recOf' fn a0 pa assign body D st0 pe with state := .exhausted }
    have hw : (c.poke l (.loop { recOf' fn a0 pa assign body D st0 pe with state := .exhausted })).w = W2.putObj l (.loop { recOf' fn a0 pa assign body D st0 pe with state := .exhausted }) := by
      show c.w.putObj l _ = _
      rw [hb.w]
    rw [← hw]
    have htmp := ht.s
    refine hQ ⟨D :: d.l⟩ (c.poke l (.loop { recOf' fn a0 pa assign body D st0 pe with state := .exhausted })) _ (@SRep.mk ⟨D :: d.l⟩ _ _ _ _ (@SRep.H nil0 _ _ _ _ htmp) (@SRep.c nil0 _ _ _ _ htmp) (fun t => ?_) (@SRep.lt nil0 _ _ _ _ htmp) ?_ ?_) ⟨ht.bst, fun e => (by cases e), [D], rfl, by simp, fun E hE => ?_⟩
    · show Rep _ _ (a.tmps.getD t undef)
      rw [← hat]
      exact @SRep.env nil0 _ _ _ _ htmp t
    · show a.tmps.size = nt
      rw [← hat]
      exact @SRep.sz nil0 _ _ _ _ htmp
    · show [_] ++ a.defers = _
      rw [hs.df]
      rfl
    · rw [List.mem_singleton.1 hE]
      exact ⟨by omega, ht.hRD, by rw [hw]; exact ht.hD⟩
  refine (hit cx.w cx.R vs hs.c.rlt hvl (fun j b v h1 h2 => (hvr j b v h1 h2).base (List.all_eq_true.1 hcb b (List.mem_of_getElem? h1))) (2 - 1) l
    (fun k W => k ≤ m ∧ ∃ c, Btw P cx I a0 nt l D (recOf' fn a0 pa assign body D .ready none) (F k) W c ∧ c.B = cx.B)
    (fun W => m < N ∧ ∃ c, Btw P cx I a0 nt l D (recOf' fn a0 pa assign body D .done (match x with | .nrm => none | .ext id => some (.exit id) | .ret => some .ret)) G W c ∧ c.B = cx.B)
    (fun k W W' ⟨hk, c, hb, hcB⟩ hbl => ⟨hk, _, hb.below hbl, hcB⟩)
    (fun k W ⟨hk, c, hb, hcB⟩ g hg => by rw [← hb.w]; exact hb.bst.block g (hs.c.rlt g hg) (.inr hg)) ?_ W1 ⟨Nat.zero_le _, _, h0, rfl⟩).mono ?_
  · rintro k W us ⟨hk, c, hb, hcB⟩ hkN hul hu
    obtain ⟨hBl, hBD⟩ := hnB c hcB
    have hus : ∀ (j : Nat) a u, (xs k)[j]? = some a → us[j]? = some u → Rep c a u := fun j b u h1 h2 => by
      have := hu j b u h1 h2
      rw [← hb.w] at this
      exact .pure (this.mono (fun g hg => hb.bst.R g hg) fun _ _ => rfl)
    have hpl' : (xs k).length = pa.toList.length := by rw [Array.length_toList]; exact hpl k
    by_cases hkm : k < m
    · obtain ⟨f1, f2, f3, f4, f5, f6⟩ := hb.round (hr k hkm) hBl hBD hne hkeep rfl hlt hul hpl' hus (m := 2 - 1 - 1) (jump := none) rfl
      refine ⟨f1, f2, f3, f4, f5, f6.mono ?_⟩
      rintro e W' ⟨rfl, c', k1, k2⟩
      exact .inl ⟨rfl, hkm, c', k1, k2.trans hcB⟩
    · obtain rfl : k = m := by omega
      rcases hend with ⟨h1, _⟩ | ⟨h1, h2, h3⟩
      · omega
      · obtain ⟨f1, f2, f3, f4, f5, f6⟩ := hb.round h3 hBl hBD hne hkeep rfl hlt hul hpl' hus (m := 2 - 1 - 1) rfl
        refine ⟨f1, f2, f3, f4, f5, f6.mono ?_⟩
        rintro e W' ⟨rfl, c', k1, k2⟩
        right
        cases x with
        | nrm => exact absurd rfl h2
        | ext id => exact ⟨rfl, h1, c', k1, k2.trans hcB⟩
        | ret => exact ⟨rfl, h1, c', k1, k2.trans hcB⟩
  · rintro e W2 ⟨⟨v, rfl⟩, (⟨hN, c, hb, hcB⟩ | ⟨hlt', c, hb, hcB⟩)⟩
    · rcases hend with ⟨h1, h2, h3⟩ | ⟨h1, _⟩
      · have := hfin _ _ _ _ c hb hcB h3.symm
        rw [h2] at this
        exact ⟨none, _, run_endLoop hb.hl (by simp [recOf']), this⟩
      · omega
    · have := hfin _ _ _ _ c hb hcB rfl
      rcases hend with ⟨h1, _⟩ | ⟨h1, h2, h3⟩
      · omega
      cases x with
      | nrm => exact absurd rfl h2
      | ext id => exact ⟨some (.exit id), _, run_endLoop hb.hl (by simp [recOf']), wpIn_exit this⟩
      | ret => exact ⟨some .ret, _, run_endLoop hb.hl (by simp [recOf']), wpIn_ret this⟩
end
/-- the loops over functions of a text -/
def rfs : Code → List Code
  | .seq a b => rfs a ++ rfs b
  | .cond _ a b => rfs a ++ rfs b
  | .block _ c => rfs c
  | .loop c => rfs c
  | .rangeFunc g ps a b => .rangeFunc g ps a b :: rfs b
  | _ => []
def rfC (P : Program) (f : FuncId) (k : Nat) : Code := (rfs (codeOf P f)).getD k .skip
def isRf : Code → Bool
  | .rangeFunc .. => true
  | _ => false
def rfG : Code → Operand
  | .rangeFunc g _ _ _ => g
  | _ => .tmp 0
def rfP : Code → Array Tmp
  | .rangeFunc _ ps _ _ => ps
  | _ => #[]
def rfA : Code → Code
  | .rangeFunc _ _ a _ => a
  | _ => .skip
def rfB : Code → Code
  | .rangeFunc _ _ _ b => b
  | _ => .skip
theorem rf_eq {c : Code} (h : isRf c = true) : c = .rangeFunc (rfG c) (rfP c) (rfA c) (rfB c) := by
  cases c <;> first | rfl | cases h
theorem Ok.rangeC {P : Program} {nt : Nat} {c : Code} {gf : FuncId} {caps : List AV} {N m : Nat} {xs : Nat → List AV} {I : Sm} {F : Nat → List (Nat × Blk)} {x : X} {G : List (Nat × Blk)} (hc : isRf c = true)
    (hg : evalA I.st.env (rfG c) = .clo gf caps) (hcb : caps.all baseA = true) (hkeep : (I.env.all fun q => keepA q.2) = true) (hfo : fnOk P gf = true) (hit : IterC P gf caps N xs) (hpl : ∀ k, (xs k).length = (rfP c).size) (hlt : ((rfP c).toList.all fun p => Nat.blt p nt) = true) (hF0 : F 0 = I.heap) (hm : m ≤ N)
    (hr : ∀ k, k < m → Rnd P nt (rfP c).toList (xs k) (rfA c) (rfB c) I (F k) .nrm (F (k + 1)))
    (hend : (m = N ∧ x = .nrm ∧ G = F N) ∨ (m < N ∧ x ≠ .nrm ∧ Rnd P nt (rfP c).toList (xs m) (rfA c) (rfB c) I (F m) x G)) : Ok P nt c I.st x (⟨I.env, G, I.next⟩ : Sm).st := by
  have h := Ok.range (P := P) (nt := nt) (g := rfG c) (assign := rfA c) (body := rfB c) hg hcb hkeep hfo hit hpl (fun p hp => by have := List.all_eq_true.1 hlt p hp; rwa [Nat.blt_eq] at this) hF0 hm hr hend
  rw [← rf_eq hc] at h
  exact h
end
end Go.Proofs.Ytdnmfgnpflhcpaa.Rx
namespace Go.Proofs.Ytdnmfgnpflhcpaa
section
open Go.RowKit Rx
attribute [local go_sem] Oper.semAt_some
theorem wpListIn_loadA {F : Fence} {n s : Nat} {P : Program} {w : World} {ops : Array Oper} {rest : List Oper} {o : Oper} {a : Act} {Q : Exit → Act → World → Prop} (hgd : o.guard = none) (t : TypeId) (x : Operand) (ho : o.op = .load t x) (g off : Nat) (hx : a.eval x = .pointer (some ⟨g, off, none⟩))
    (hs : szOf P t = some s) (hg : aggOf P t = some true) (us : List Value) (hl : us.length = s) (hc : ∀ (j : Nat) u, us[j]? = some u → w.cell? ⟨g, off + j, none⟩ = some u) (hK : wpListIn F n P ops Q rest (a.put o.dst (.agg us.toArray)) w) : wpListIn F n P ops Q (o :: rest) a w := by
  refine wpListIn_plain hgd fun K hK' => ?_
  have hrun := run_loadAgg (P := P) hs hg us hl hc
  unfold Oper.wpIn
  refine ⟨?_, ?_⟩
  · simp [Oper.about, ho]
  · rw [Oper.semAt_plain F _ _ (by rw [ho]; intro c hc'; cases hc')]
    simp [execOp, ho, hx, hrun, Result.andThen]
    exact hK' _ _ hK
set_option maxRecDepth 100000 in
set_option maxHeartbeats 4000000 in
theorem backward_iter (n l gS oS len cap : Nat) (A : Option Addr) (u : Nat → Nat → Value) (b off : Nat) (hlen : len ≤ 1000000) (hA : 0 < len → A = some ⟨b, off, none⟩) (J : Nat → World → Prop) (Jx : World → Prop)
    (hJ : ∀ k W, J k W → W.cell? ⟨gS, oS, none⟩ = some (.slice A len cap) ∧ ∀ i, i < len → ∀ j, j < 8 → W.cell? ⟨b, off + (i * 8 + j), none⟩ = some (u i j))
    (hY : ∀ k W, J k W → k < len → YieldAt Fence.wide (n - 1) Try.prog l #[.int .i64 ((len - 1 - k : Nat) : Int), .agg #[u (len - 1 - k) 0, u (len - 1 - k) 1, u (len - 1 - k) 2, u (len - 1 - k) 3, u (len - 1 - k) 4, u (len - 1 - k) 5, u (len - 1 - k) 6, u (len - 1 - k) 7]] W fun e W' =>
      (e = .returned (.bool true) ∧ J (k + 1) W') ∨ (e = .returned (.bool false) ∧ Jx W'))
    (W : World) (h0 : J 0 W) : CallsIn Fence.wide n Try.prog 25 #[.func (.yield l) #[] #[], .pointer (some ⟨gS, oS, none⟩)] W fun e W' => (∃ v, e = .returned v) ∧ (J len W' ∨ Jx W') := by
  refine callsIn_of_wp Try.func25 rfl trivial ?_ rfl
  simp only [Try.ntmps25, List.size_toArray, List.length_cons, List.length_nil, Nat.reduceAdd, Nat.reduceSub, Array.replicate_succ, Array.replicate_zero, List.push_toArray, List.append_toArray, List.nil_append, List.cons_append]
  have hS := (hJ 0 W h0).1
  have hw1 : IntKind.i64.wrap ((len : Int) - 1) = (len : Int) - 1 := IntWalk.i64_in _ (by omega)
  gi_wp2
  gi_loopw [3] (fun i wr => ∃ k : Nat, k ≤ len ∧ i = .int .i64 ((len : Int) - 1 - k) ∧ J k wr) (fun i _ => (intOf i + 1).toNat)
  case atStart => exact ⟨0, Nat.zero_le _, by simp, h0⟩
  case round =>
    obtain ⟨k, hk, rfl, hJs⟩ := hrel
    have hSk := (hJ k wr hJs).1
    by_cases hlt : k < len
    · obtain ⟨m, hm⟩ : ∃ m, len - 1 - k = m := ⟨_, rfl⟩
      have hmi : (len : Int) - 1 - k = (m : Int) := by omega
      have hml : m < len := by omega
      have hA' := hA (by omega)
      subst hA'
      have hcs := (hJ k wr hJs).2 m hml
      obtain ⟨fn, tmps, assign, body, hy, hR⟩ := hY k wr hJs hlt
      rw [hm] at hy
      rw [hmi]
      have h01 : (0 : Int) ≤ (m : Int) := Int.natCast_nonneg m
      have h02 : (m : Int) < (len : Int) := by omega
      have hw2 : IntKind.i64.wrap ((m : Int) - 1) = (m : Int) - 1 := IntWalk.i64_in _ (by omega)
      clear hJ hY hA hmi
      gi_wp2_with (refine wpListIn_loadA rfl 38 _ rfl b (off + m * 8) (by first | rfl | (simp [Act.eval, adr_mk]; done)) (s := 8) (by kernel_rfl) (by kernel_rfl) [u m 0, u m 1, u m 2, u m 3, u m 4, u m 5, u m 6, u m 7] rfl (fun j v hv => ?_) ?_; · match j, hv with
        | 0, rfl => rw [Nat.add_assoc]; exact hcs 0 (by omega)
        | 1, rfl => rw [Nat.add_assoc]; exact hcs 1 (by omega)
        | 2, rfl => rw [Nat.add_assoc]; exact hcs 2 (by omega)
        | 3, rfl => rw [Nat.add_assoc]; exact hcs 3 (by omega)
        | 4, rfl => rw [Nat.add_assoc]; exact hcs 4 (by omega)
        | 5, rfl => rw [Nat.add_assoc]; exact hcs 5 (by omega)
        | 6, rfl => rw [Nat.add_assoc]; exact hcs 6 (by omega)
        | 7, rfl => rw [Nat.add_assoc]; exact hcs 7 (by omega))
      refine ⟨fun h => absurd h (by simp [Fence.wide]), ?_⟩
      refine hR.mono ?_
      rintro e W3 (⟨rfl, hJ3⟩ | ⟨rfl, hJx3⟩)
      · gi_wp2
        go_roundw
        case rel => exact ⟨k + 1, by omega, by congr 1; omega, hJ3⟩
        case measure => simp [intOf]
      · gi_wp2
        refine bodyPost_ret (results_none rfl _ _ _) rfl ?_
        exact ⟨⟨_, rfl⟩, .inr hJx3⟩
    · obtain rfl : k = len := by omega
      rw [show (k : Int) - 1 - k = -1 by omega]
      gi_wp2
      go_end0
      exact ⟨⟨_, rfl⟩, .inl hJs⟩
namespace Px
/-- what the iterator has caught -/
def bkP (l : List En) : AV := .rptr 1 (fun q => [enR l].getD q .junk) 0
def bkX (l : List En) (k : Nat) : List AV := [.int .i64 ((l.length - 1 - k : Nat) : Int), .agg (enA (l.getD (l.length - 1 - k) default))]
theorem bkC (l : List En) (hb : l.length ≤ 1000000) : IterC Try.prog 25 [bkP l] l.length (bkX l) := by
  intro w R vs hR hl hv n lp J Jx hJb hJR hY W hW
  obtain ⟨vs⟩ := vs
  match vs, hl, hv with
  | [v], _, hv =>
    have h0 := hv 0 _ v rfl rfl
    cases h0 with
    | @rptr _ _ g o _ hRg uu h1 h2 h3 =>
      have h4 := h3 0 (by omega)
      have h5 := h1 0 (by omega)
      obtain ⟨sv, hsv⟩ : ∃ sv, sv = uu 0 := ⟨_, rfl⟩
      rw [← hsv] at h4 h5
      cases h4 with
      | @row _ _ _ A cap u hn hc hA k1 k2 =>
        have hcell : ∀ (k : Nat) (W : World) (a : Addr) (x : Value), J k W → R a.block → w.cell? a = some x → W.cell? a = some x := fun k W a x hk ha hx => (World.cell?_of_block (hJR k W hk a.block ha)).trans hx
        obtain ⟨b, off, hbo⟩ : ∃ b off, 0 < l.length → A = some ⟨b, off, none⟩ ∧ R b ∧ ∀ i, i < l.length → ∀ j, j < 8 → w.cell? ⟨b, off + (i * 8 + j), none⟩ = some (u i j) := by
          by_cases h : 0 < l.length
          · obtain ⟨b, off, q1, q2, q3⟩ := hA (by omega)
            exact ⟨b, off, fun _ => ⟨q1, q2, q3⟩⟩
          · exact ⟨0, 0, fun h' => absurd h' h⟩
        refine backward_iter n lp g (o + 0) l.length cap A u b off hb (fun h => (hbo h).1) J Jx (fun k W hk => ⟨hcell k W _ _ hk hRg h5, fun i hi j hj => ?_⟩) (fun k W hk hkl => hY k W _ hk hkl rfl fun j a x ha hx => ?_) W hW
        · obtain ⟨q1, q2, q3⟩ := hbo (by omega)
          exact hcell k W _ _ hk q2 (q3 i hi j hj)
        · match j, ha, hx with
          | 0, ha, hx => cases ha; cases hx; exact .int _ _
          | 1, ha, hx =>
            cases ha; cases hx
            have hm : l.length - 1 - k < l.length := by omega
            have hu : ∀ j, j < 8 → RepP W R (enC (l.getD (l.length - 1 - k) default) j) (u (l.length - 1 - k) j) := fun j hj => (k2 _ hm j hj).mono (fun _ h => h) fun g hg => hJR k W hk g hg
            have hone : ∀ j, j < 8 → (u (l.length - 1 - k) j).oneCell' = true := fun j hj => k1 _ hm j hj
            refine .agg rfl (fun j v hv => ?_) fun j a v ha hv => ?_
            · match j, hv with
              | 0, rfl => exact hone 0 (by omega)
              | 1, rfl => exact hone 1 (by omega)
              | 2, rfl => exact hone 2 (by omega)
              | 3, rfl => exact hone 3 (by omega)
              | 4, rfl => exact hone 4 (by omega)
              | 5, rfl => exact hone 5 (by omega)
              | 6, rfl => exact hone 6 (by omega)
              | 7, rfl => exact hone 7 (by omega)
            · match j, ha, hv with
              | 0, rfl, rfl => exact hu 0 (by omega)
              | 1, rfl, rfl => exact hu 1 (by omega)
              | 2, rfl, rfl => exact hu 2 (by omega)
              | 3, rfl, rfl => exact hu 3 (by omega)
              | 4, rfl, rfl => exact hu 4 (by omega)
              | 5, rfl, rfl => exact hu 5 (by omega)
              | 6, rfl, rfl => exact hu 6 (by omega)
              | 7, rfl, rfl => exact hu 7 (by omega)
end Px
end
end Go.Proofs.Ytdnmfgnpflhcpaa
namespace Go.Proofs.Ytdnmfgnpflhcpaa.Px
section
open Go.RowKit Go.Proofs.Ytdnmfgnpflhcpaa.Rx
def hitB (p : Pg) (k a : Int) (e : En) : Bool := bif e.kn && (e.adr == a) then (atI p e.pc).kind == k else false
def ceV (m : List Int) (a : Int) : Int := if 0 ≤ a ∧ a < m.length then m.getD a.toNat 0 else 0
def oG (v j : Int) (b : Bool) : List (Nat × Blk) := [(0, ⟨0, false, 3, .box [.int .i64 v]⟩), (1, ⟨0, false, 3, .box [.int .i64 j]⟩), (2, ⟨0, false, 4, .box [.bool b]⟩)]
def oI (p : Pg) (m : List Int) (a : Int) (l : List En) : Sm := ⟨[(5, pgP p), (1, lR m), (9, .rptr 1 (fun q => [AV.int .i64 a].getD q .junk) 0), (10, .bptr 0 0), (11, .bptr 1 0), (12, .bptr 2 0), (18, .clo 25 [bkP l])], oG 0 0 false, 3⟩
def oJ (p : Pg) (m : List Int) (a : Int) (l : List En) (v j : Int) (b : Bool) : Sm := ⟨(oI p m a l).env, oG v j b, 3⟩
theorem go_n (p : Pg) (k a : Int) (e : En) (hn : e.kn = false) : Vc (vcFn Try.prog false 14 [.agg (pgA p), .agg (enA e), .int .i64 k, .int .i64 a] [.fz, .fz, .lv (.bool false)] [] (.bool false) []) := vc_by (cj (congrArg (fun b => some (AV.bool b)) hn) (cj (rf false) trivial)) (by kernel_rfl)
theorem go_a (p : Pg) (k a : Int) (e : En) (hn : e.kn = true) (ha : ¬ e.adr = a) : Vc (vcFn Try.prog false 14 [.agg (pgA p), .agg (enA e), .int .i64 k, .int .i64 a] [.fz, .fz, .lv (.bool true), .bd false] [] (.bool false) []) := vc_by (cj (congrArg (fun b => some (AV.bool b)) hn) (cj (beq_eq_false_iff_ne.2 ha) (cj (rf false) trivial))) (by kernel_rfl)
theorem zO10 (p : Pg) {Z : Prop} (z : Z) : (RF p.W (RF p.win (RF p.fuel (RF p.r0 (RF p.r1 (RF p.r2 (RF p.r3 (RF p.ms.length (RR p.ms.length 3 (fun i j => rowL mmC p.ms i j) Z))))))))) := ⟨rfl, rfl, rfl, rfl, rfl, rfl, rfl, rfl, fun _ _ _ _ => rfl, z⟩
theorem go_k (p : Pg) (k a : Int) (e : En) (hn : e.kn = true) (ha : e.adr = a) : Vc (vcFn Try.prog false 14 [.agg (pgA p), .agg (enA e), .int .i64 k, .int .i64 a] [.fz, .fz, .lv (.bool true), .bd true, .cl [.agg (pgA p), .int .i64 e.pc] (.agg (inA (atI p e.pc))) []] [] (.bool ((atI p e.pc).kind == k)) []) := vc_by (cj (congrArg (fun b => some (AV.bool b)) hn) (cj (beq_iff_eq.2 ha) (zO10 p (cj (rf p.ls.length) (cj (rr p.ls.length 2 fun i j => rowL lbC p.ls i j) (cj (rf p.is.length) (cj (rr p.is.length 9 fun i j => rowL inC p.is i j) (cj (rf e.pc) (cj (atC p e.pc) (cj (rf ((atI p e.pc).kind == k)) trivial)))))))))) (by kernel_rfl)
theorem hitC (p : Pg) (k a : Int) (e : En) (b : Bool) (h : hitB p k a e = b) : PureC Try.prog 14 [.agg (pgA p), .agg (enA e), .int .i64 k, .int .i64 a] (.bool b) [] := by
  subst h
  unfold hitB
  cases hn : e.kn with
  | false => rw [Bool.false_and]; exact PureC.vc (go_n p k a e hn)
  | true =>
    rw [Bool.true_and]
    by_cases ha : e.adr = a
    · rw [beq_iff_eq.2 ha]; exact PureC.vc (go_k p k a e hn ha)
    · rw [beq_eq_false_iff_ne.2 ha]; exact PureC.vc (go_a p k a e hn ha)
theorem hitB_iff {p : Pg} {k a : Int} {e : En} : hitB p k a e = true ↔ (atI p e.pc).kind = k ∧ e.kn = true ∧ e.adr = a := by
  unfold hitB
  cases hn : e.kn with
  | false => simp
  | true =>
    by_cases ha : e.adr = a
    · rw [beq_iff_eq.2 ha]; simp [ha]
    · rw [beq_eq_false_iff_ne.2 ha]; simp [ha]
theorem sto_t (e : En) (j : Int) (h : e.dn = true) : Vc (vcFn Try.prog false 15 [.agg (enA e), .int .i64 j] [.fz, .b false] [] (.tup [.int .i64 e.val, .int .i64 j, .bool true]) []) := vc_by (cj (show (!e.dn) = false from by rw [h]; rfl) (cj (rf e.val) (cj (rf j) (cj (rf true) trivial)))) (by kernel_rfl)
theorem zO11  {Z : Prop} (z : Z) : (RF (0 : Int) (RF (0 : Int) (RF false Z))) := ⟨rfl, rfl, rfl, z⟩
theorem sto_f (e : En) (j : Int) (h : e.dn = false) : Vc (vcFn Try.prog false 15 [.agg (enA e), .int .i64 j] [.fz, .b true] [] (.tup [.int .i64 0, .int .i64 0, .bool false]) []) := vc_by (cj (show (!e.dn) = true from by rw [h]; rfl) (zO11 trivial)) (by kernel_rfl)
theorem ce_neg (m : List Int) (a : Int) (h : a < 0) : Vc (vcFn Try.prog false 16 [lR m, .int .i64 a] [.bd true] [] (.int .i64 0) []) := vc_by (cj (dt (a < 0)) (cj (rf (0 : Int)) trivial)) (by kernel_rfl)
theorem ce_out (m : List Int) (a : Int) (h0 : 0 ≤ a) (h : ¬ a < m.length) : Vc (vcFn Try.prog false 16 [lR m, .int .i64 a] [.bd false, .bd true] [] (.int .i64 0) []) := vc_by (cj (df (a < 0)) (cj (dt (a ≥ (m.length : Int))) (cj (rf (0 : Int)) trivial))) (by kernel_rfl)
theorem ce_in (m : List Int) (a : Int) (h0 : 0 ≤ a) (h : a < m.length) : Vc (vcFn Try.prog false 16 [lR m, .int .i64 a] [.bd false, .bd false] [] (.int .i64 (m.getD a.toNat 0)) []) := vc_by (cj (df (a < 0)) (cj (df (a ≥ (m.length : Int))) (cj (bi a (m.length : Int)) (cj (rf (m.getD (Int.toNat a) (0 : Int))) trivial)))) (by kernel_rfl)
theorem stoC (e : En) (j : Int) : PureC Try.prog 15 [.agg (enA e), .int .i64 j] (.tup [.int .i64 (if e.dn then e.val else 0), .int .i64 (if e.dn then j else 0), .bool e.dn]) [] := by
  cases h : e.dn with
  | true => exact PureC.vc (sto_t e j h)
  | false => exact PureC.vc (sto_f e j h)
theorem ceC (m : List Int) (a : Int) : PureC Try.prog 16 [lR m, .int .i64 a] (.int .i64 (ceV m a)) [] := by
  unfold ceV
  by_cases h0 : 0 ≤ a
  · by_cases h : a < m.length
    · rw [if_pos ⟨h0, h⟩]; exact PureC.vc (ce_in m a h0 h)
    · rw [if_neg fun e => h e.2]; exact PureC.vc (ce_out m a h0 h)
  · rw [if_neg fun e => h0 e.1]; exact PureC.vc (ce_neg m a (by omega))
theorem zO12 (a : Int) (e : En) {Z : Prop} (z : Z) : (RF e.dn (RF e.kn (RF e.ft (RF (3 : Int) (RF a Z))))) := ⟨rfl, rfl, rfl, rfl, rfl, z⟩
theorem zO13 (p : Pg) (e : En) {Z : Prop} (z : Z) : (RF p.ls.length (RR p.ls.length 2 (fun i j => rowL lbC p.ls i j) (RF p.is.length (RR p.is.length 9 (fun i j => rowL inC p.is i j) (RF e.pc (RF e.val (RF e.adr (RF e.frm (RF e.nxt Z))))))))) := ⟨rfl, fun _ _ _ _ => rfl, rfl, fun _ _ _ _ => rfl, rfl, rfl, rfl, rfl, rfl, z⟩
theorem rd_no (p : Pg) (m : List Int) (a : Int) (l : List En) (j : Int) (e : En) (h : PureC Try.prog 14 [.agg (pgA p), .agg (enA e), .int .i64 3, .int .i64 a] (.bool false) []) : Vc (vcRnd Try.prog false (ntOf Try.prog 6) (rfP (rfC Try.prog 6 0)).toList [.int .i64 j, .agg (enA e)] (rfA (rfC Try.prog 6 0)) (rfB (rfC Try.prog 6 0)) (oI p m a l) (oG 0 0 false) [.cl [.agg (pgA p), .agg (enA e), .int .i64 3, .int .i64 a] (.bool false) []] .nrm [(0, 0), (1, 1), (2, 2)] (oG 0 0 false)) := vc_by (zO10 p (zO13 p e (zO12 a e (cj h (zO11 trivial))))) (by kernel_rfl)
theorem rd_yes (p : Pg) (m : List Int) (a : Int) (l : List En) (j : Int) (e : En) (h : PureC Try.prog 14 [.agg (pgA p), .agg (enA e), .int .i64 3, .int .i64 a] (.bool true) []) (h2 : PureC Try.prog 15 [.agg (enA e), .int .i64 j] (.tup [.int .i64 (if e.dn then e.val else 0), .int .i64 (if e.dn then j else 0), .bool e.dn]) []) : Vc (vcRnd Try.prog false (ntOf Try.prog 6) (rfP (rfC Try.prog 6 0)).toList [.int .i64 j, .agg (enA e)] (rfA (rfC Try.prog 6 0)) (rfB (rfC Try.prog 6 0)) (oI p m a l) (oG 0 0 false) [.cl [.agg (pgA p), .agg (enA e), .int .i64 3, .int .i64 a] (.bool true) [], .cl [.agg (enA e), .int .i64 j] (.tup [.int .i64 (if e.dn then e.val else 0), .int .i64 (if e.dn then j else 0), .bool e.dn]) []] .ret [(0, 0), (1, 1), (2, 2)] (oG (if e.dn then e.val else 0) (if e.dn then j else 0) e.dn)) := vc_by (zO10 p (zO13 p e (zO12 a e (cj h (cj (rf e.pc) (cj (rf e.val) (cj (rf e.adr) (cj (rf e.frm) (cj (rf e.nxt) (cj (rf e.dn) (cj (rf e.kn) (cj (rf e.ft) (cj (rf j) (cj h2 (cj (rf (if e.dn = true then e.val else (0 : Int))) (cj (rf (if e.dn = true then j else (0 : Int))) (cj (rf e.dn) trivial))))))))))))))))) (by kernel_rfl)
end
end Go.Proofs.Ytdnmfgnpflhcpaa.Px
namespace Go.Proofs.Ytdnmfgnpflhcpaa.Px
section
open Go.RowKit Go.Proofs.Ytdnmfgnpflhcpaa.Rx
theorem take_get {l : List En} {c j : Nat} (h : j < c) : (l.take c).getD j default = l.getD j default := by
  rw [List.getD_eq_getElem?_getD, List.getD_eq_getElem?_getD, List.getElem?_take, if_pos h]
theorem ldF_cases (p : Pg) (l : List En) (a : Int) : ∀ c, (ldF p l a c = none ∧ ∀ j, j < c → hitB p 3 a (l.getD j default) = false) ∨
    ∃ q, q < c ∧ hitB p 3 a (l.getD q default) = true ∧ (∀ j, q < j → j < c → hitB p 3 a (l.getD j default) = false) ∧ ldF p l a c = some (if (l.getD q default).dn then ((l.getD q default).val, (q : Int), true) else (0, 0, false))
  | 0 => .inl ⟨rfl, fun j hj => by omega⟩
  | c + 1 => by
    unfold ldF
    by_cases h : hitB p 3 a (l.getD c default) = true
    · rw [if_pos (show (enI p l c).kind = 3 ∧ _ from hitB_iff.1 h)]
      exact .inr ⟨c, by omega, h, fun j h1 h2 => by omega, rfl⟩
    · rw [if_neg (show ¬ ((enI p l c).kind = 3 ∧ _) from fun e => h (hitB_iff.2 e))]
      have hf : hitB p 3 a (l.getD c default) = false := by simpa using h
      rcases ldF_cases p l a c with ⟨h1, h2⟩ | ⟨q, h1, h2, h3, h4⟩
      · refine .inl ⟨h1, fun j hj => ?_⟩
        by_cases e : j = c
        · rw [e]; exact hf
        · exact h2 j (by omega)
      · refine .inr ⟨q, by omega, h2, fun j hj1 hj2 => ?_, h4⟩
        by_cases e : j = c
        · rw [e]; exact hf
        · exact h3 j hj1 (by omega)
theorem ld_rnd_no (p : Pg) (m : List Int) (a : Int) (l : List En) (k : Nat) (h : hitB p 3 a (l.getD (l.length - 1 - k) default) = false) : Rnd Try.prog (ntOf Try.prog 6) (rfP (rfC Try.prog 6 0)).toList (bkX l k) (rfA (rfC Try.prog 6 0)) (rfB (rfC Try.prog 6 0)) (oI p m a l) (oG 0 0 false) .nrm (oG 0 0 false) :=
  Rnd.vc (rd_no p m a l _ _ (hitC p 3 a _ false h))
theorem ld_rnd_yes (p : Pg) (m : List Int) (a : Int) (l : List En) (k : Nat) (h : hitB p 3 a (l.getD (l.length - 1 - k) default) = true) : Rnd Try.prog (ntOf Try.prog 6) (rfP (rfC Try.prog 6 0)).toList (bkX l k) (rfA (rfC Try.prog 6 0)) (rfB (rfC Try.prog 6 0)) (oI p m a l) (oG 0 0 false) .ret
    (oG (if (l.getD (l.length - 1 - k) default).dn then (l.getD (l.length - 1 - k) default).val else 0) (if (l.getD (l.length - 1 - k) default).dn then ((l.length - 1 - k : Nat) : Int) else 0) (l.getD (l.length - 1 - k) default).dn) :=
  Rnd.vc (rd_yes p m a l _ _ (hitC p 3 a _ true h) (stoC _ _))
theorem lld_none (p : Pg) (m : List Int) (a : Int) (l : List En) (hb : l.length ≤ 1000000) (h : ∀ j, j < l.length → hitB p 3 a (l.getD j default) = false) : Ok Try.prog (ntOf Try.prog 6) (rfC Try.prog 6 0) (oI p m a l).st .nrm (oJ p m a l 0 0 false).st :=
  Ok.rangeC (by kernel_rfl) rfl rfl rfl (by kernel_rfl) (bkC l hb) (fun _ => by kernel_rfl) (by kernel_rfl) (F := fun _ => oG 0 0 false) rfl (Nat.le_refl _) (fun k hk => ld_rnd_no p m a l k (h _ (by omega))) (.inl ⟨rfl, rfl, rfl⟩)
theorem lld_find (p : Pg) (m : List Int) (a : Int) (l : List En) (hb : l.length ≤ 1000000) (q : Nat) (hq : q < l.length) (h : hitB p 3 a (l.getD q default) = true) (hn : ∀ j, q < j → j < l.length → hitB p 3 a (l.getD j default) = false) (v j : Int) (b : Bool) (hv : v = if (l.getD q default).dn then (l.getD q default).val else 0) (hj : j = if (l.getD q default).dn then (q : Int) else 0) (hd : b = (l.getD q default).dn) : Ok Try.prog (ntOf Try.prog 6) (rfC Try.prog 6 0) (oI p m a l).st .ret (oJ p m a l v j b).st := by
  subst hv; subst hd; subst hj
  have e : l.length - 1 - (l.length - 1 - q) = q := by omega
  have hy := ld_rnd_yes p m a l (l.length - 1 - q) (by rw [e]; exact h)
  rw [e] at hy
  exact Ok.rangeC (m := l.length - 1 - q) (by kernel_rfl) rfl rfl rfl (by kernel_rfl) (bkC l hb) (fun _ => by kernel_rfl) (by kernel_rfl) (F := fun _ => oG 0 0 false) rfl (by omega) (fun k hk => ld_rnd_no p m a l k (hn _ (by omega) (by omega))) (.inr ⟨by omega, (by simp), hy⟩)
theorem zO20 (lt : List En) (a : Int) {Z : Prop} (z : Z) : (RF a (RF lt.length (RR lt.length 8 (fun i j => rowL enC lt i j) Z))) := ⟨rfl, rfl, fun _ _ _ _ => rfl, z⟩
theorem zO21 (p : Pg) (m : List Int) {Z : Prop} (z : Z) : (RF p.r3 (RF p.ms.length (RR p.ms.length 3 (fun i j => rowL mmC p.ms i j) (RF p.ls.length (RR p.ls.length 2 (fun i j => rowL lbC p.ls i j) (RF p.is.length (RR p.is.length 9 (fun i j => rowL inC p.is i j) (RF m.length (RR m.length 1 (fun i j => aI (m.getD i 0)) Z))))))))) := ⟨rfl, rfl, fun _ _ _ _ => rfl, rfl, fun _ _ _ _ => rfl, rfl, fun _ _ _ _ => rfl, rfl, fun _ _ _ _ => rfl, z⟩
theorem zO22 (p : Pg) {Z : Prop} (z : Z) : (RF (0 : Int) (RF (0 : Int) (RF false (RF p.W (RF p.win (RF p.fuel (RF p.r0 (RF p.r1 (RF p.r2 Z))))))))) := ⟨rfl, rfl, rfl, rfl, rfl, rfl, rfl, rfl, rfl, z⟩
theorem zO23 (l : List En) (i : Int) {Z : Prop} (z : Z) : (RF l.length (RR l.length 8 (fun i j => rowL enC l i j) (RF i Z))) := ⟨rfl, fun _ _ _ _ => rfl, rfl, z⟩
theorem lld_y (p : Pg) (m : List Int) (l lt : List En) (i a : Int) (v j : Int) (b : Bool) (hc : PureC Try.prog 13 [enR l, .int .i64 i] (enR lt) []) (h : Ok Try.prog (ntOf Try.prog 6) (rfC Try.prog 6 0) (oI p m a lt).st .ret (oJ p m a lt v j b).st) : Vc (vcFn Try.prog false 6 [.agg (pgA p), lR m, enR l, .int .i64 i, .int .i64 a] [.fv, .fv, .cl [enR l, .int .i64 i] (enR lt) [], .fv, .lp [(0, 0), (1, 1), (2, 2)] (oI p m a lt) .ret (oJ p m a lt v j b)] [] (.tup [.int .i64 v, .int .i64 j, .bool b]) []) := vc_by (zO23 l i (cj hc (zO22 p (zO21 p m (zO20 lt a (cj h (cj (rf v) (cj (rf j) (cj (rf b) trivial))))))))) (by kernel_rfl)
theorem lld_n (p : Pg) (m : List Int) (l lt : List En) (i a : Int) (hc : PureC Try.prog 13 [enR l, .int .i64 i] (enR lt) []) (h : Ok Try.prog (ntOf Try.prog 6) (rfC Try.prog 6 0) (oI p m a lt).st .nrm (oJ p m a lt 0 0 false).st) : Vc (vcFn Try.prog false 6 [.agg (pgA p), lR m, enR l, .int .i64 i, .int .i64 a] [.fv, .fv, .cl [enR l, .int .i64 i] (enR lt) [], .fv, .lp [(0, 0), (1, 1), (2, 2)] (oI p m a lt) .nrm (oJ p m a lt 0 0 false), .cl [lR m, .int .i64 a] (.int .i64 (ceV m a)) []] [] (.tup [.int .i64 (ceV m a), .int .i64 (-1), .bool true]) []) := vc_by (zO23 l i (cj hc (zO22 p (zO21 p m (zO20 lt a (cj h (cj (rf m.length) (cj (rr m.length 1 fun i j => aI (m.getD i 0)) (cj (rf a) (cj (ceC m a) (cj (rf (ceV m a)) (cj (rf (-1 : Int)) (cj (rf true) trivial))))))))))))) (by kernel_rfl)
theorem ce_ldV (m : List Int) (a : Int) : (if 0 ≤ a ∧ a < m.length then (m.getD a.toNat 0, (-1 : Int), true) else (0, -1, true)) = (ceV m a, -1, true) := by
  unfold ceV
  by_cases h : 0 ≤ a ∧ a < m.length
  · rw [if_pos h, if_pos h]
  · rw [if_neg h, if_neg h]
theorem lldC (p : Pg) (m : List Int) (l : List En) (i a : Int) (hb : l.length < 1000000) : PureC Try.prog 6 [.agg (pgA p), lR m, enR l, .int .i64 i, .int .i64 a] (.tup [.int .i64 (ldV p m l i a).1, .int .i64 (ldV p m l i a).2.1, .bool (ldV p m l i a).2.2]) [] := by
  have hle := cl0_le i l.length
  have hc := cutF l i (cl0 i l.length) (by unfold cl0; omega) hb
  have hlen : (l.take (cl0 i l.length)).length = cl0 i l.length := by rw [List.length_take]; omega
  unfold ldV
  rcases ldF_cases p l a (cl0 i l.length) with ⟨h1, h2⟩ | ⟨q, h1, h2, h3, h4⟩
  · rw [h1]
    dsimp only
    rw [ce_ldV]
    exact PureC.vc (lld_n p m l _ i a hc (lld_none p m a _ (by omega) fun j hj => by rw [take_get (by omega)]; exact h2 j (by omega)))
  · rw [h4]
    dsimp only
    have hl := fun v j b hv hj hd => lld_find p m a (l.take (cl0 i l.length)) (by omega) q (by omega) (by rw [take_get (by omega)]; exact h2) (fun j a b => by rw [take_get (by omega)]; exact h3 j a (by omega)) v j b hv hj hd
    rw [take_get (by omega)] at hl
    cases hd : (l.getD q default).dn with
    | true => exact PureC.vc (lld_y p m l _ i a (l.getD q default).val q true hc (hl _ _ _ (by rw [hd]; rfl) (by rw [hd]; rfl) hd.symm))
    | false => exact PureC.vc (lld_y p m l _ i a 0 0 false hc (hl _ _ _ (by rw [hd]; rfl) (by rw [hd]; rfl) hd.symm))
def hzLB (p : Pg) (l : List En) (i a : Int) (k : Nat) : Prop := i < (k : Int) ∧ hzB p l i a k
instance (p : Pg) (l : List En) (i a : Int) (k : Nat) : Decidable (hzLB p l i a k) := inferInstanceAs (Decidable (_ ∧ _))
def hzL (p : Pg) (l : List En) (i a : Int) : Nat → Nat → Option Nat
  | _, 0 => none
  | k, j + 1 => if hzLB p l i a k then some k else hzL p l i a (k + 1) j
def lzS (p : Pg) (l : List En) (i a : Int) (k : Nat) : Sm := ⟨[(4, pgP p), (12, enR l), (2, .int .i64 i), (3, .int .i64 a), (13, .int .i64 l.length), (14, .int .i64 k)], [], 0⟩
theorem zO24 (p : Pg) (l : List En) (i : Int) (a : Int) {Z : Prop} (z : Z) : (RF p.ls.length (RR p.ls.length 2 (fun i j => rowL lbC p.ls i j) (RF p.is.length (RR p.is.length 9 (fun i j => rowL inC p.is i j) (RF l.length (RR l.length 8 (fun i j => rowL enC l i j) (RF i (RF a (RF (l.length : Int) Z))))))))) := ⟨rfl, fun _ _ _ _ => rfl, rfl, fun _ _ _ _ => rfl, rfl, fun _ _ _ _ => rfl, rfl, rfl, rfl, z⟩
theorem zO25 (p : Pg) {Z : Prop} (z : Z) : (RF p.W (RF p.win (RF p.fuel (RF p.r0 (RF p.r1 (RF p.r2 (RF p.r3 (RF p.ms.length (RR p.ms.length 3 (fun i j => rowL mmC p.ms i j) Z))))))))) := ⟨rfl, rfl, rfl, rfl, rfl, rfl, rfl, rfl, fun _ _ _ _ => rfl, z⟩
theorem lz_k (p : Pg) (l : List En) (i a : Int) (k : Nat) (hk : k < l.length) (hb : l.length < 1000000) (hi : ¬ i < (k : Int)) : Vc (vcC Try.prog false (ntOf Try.prog 8) (lpC Try.prog 8 0) (lzS p l i a k) [.bd true, .bd false] .nrm [] (lzS p l i a (k + 1))) := vc_by (cj (dt ((k : Int) < (l.length : Int))) (cj (bi (k : Int) (l.length : Int)) (cj (df ((k : Int) > i)) (cj (i6 ((k : Int) + 1)) (zO25 p (zO24 p l i a (cj (rf ((k : Int) + 1)) trivial))))))) (by kernel_rfl)
theorem lz_f (p : Pg) (l : List En) (i a : Int) (k : Nat) (hk : k < l.length) (hb : l.length < 1000000) (hi : i < (k : Int)) (hf : ¬ (l.getD k default).frm < i) : Vc (vcC Try.prog false (ntOf Try.prog 8) (lpC Try.prog 8 0) (lzS p l i a k) [.bd true, .bd true, .bd false] .nrm [] (lzS p l i a (k + 1))) := vc_by (cj (dt ((k : Int) < (l.length : Int))) (cj (bi (k : Int) (l.length : Int)) (cj (dt ((k : Int) > i)) (cj (decide_eq_false hf) (cj (i6 ((k : Int) + 1)) (zO25 p (zO24 p l i a (cj (rf ((k : Int) + 1)) trivial)))))))) (by kernel_rfl)
theorem zO26 (l : List En) (a : Int) (k : Nat) {Z : Prop} (z : Z) : (RF ((l.getD k default).dn) (RF ((l.getD k default).kn) (RF ((l.getD k default).ft) (RF (2 : Int) (RF a Z))))) := ⟨rfl, rfl, rfl, rfl, rfl, z⟩
theorem zO27 (p : Pg) (l : List En) (k : Nat) {Z : Prop} (z : Z) : (RF p.ls.length (RR p.ls.length 2 (fun i j => rowL lbC p.ls i j) (RF p.is.length (RR p.is.length 9 (fun i j => rowL inC p.is i j) (RF ((l.getD k default).pc) (RF ((l.getD k default).val) (RF ((l.getD k default).adr) (RF ((l.getD k default).frm) (RF ((l.getD k default).nxt) Z))))))))) := ⟨rfl, fun _ _ _ _ => rfl, rfl, fun _ _ _ _ => rfl, rfl, rfl, rfl, rfl, rfl, z⟩
theorem lz_g (p : Pg) (l : List En) (i a : Int) (k : Nat) (hk : k < l.length) (hb : l.length < 1000000) (hi : i < (k : Int)) (hf : (l.getD k default).frm < i) (h : PureC Try.prog 14 [.agg (pgA p), .agg (enA (l.getD k default)), .int .i64 2, .int .i64 a] (.bool false) []) : Vc (vcC Try.prog false (ntOf Try.prog 8) (lpC Try.prog 8 0) (lzS p l i a k) [.bd true, .bd true, .bd true, .cl [.agg (pgA p), .agg (enA (l.getD k default)), .int .i64 2, .int .i64 a] (.bool false) []] .nrm [] (lzS p l i a (k + 1))) := vc_by (cj (dt ((k : Int) < (l.length : Int))) (cj (bi (k : Int) (l.length : Int)) (cj (dt ((k : Int) > i)) (cj (decide_eq_true hf) (zO25 p (zO27 p l k (zO26 l a k (cj h (cj (i6 ((k : Int) + 1)) (zO25 p (zO24 p l i a (cj (rf ((k : Int) + 1)) trivial)))))))))))) (by kernel_rfl)
theorem lz_y (p : Pg) (l : List En) (i a : Int) (k : Nat) (hk : k < l.length) (hb : l.length < 1000000) (hi : i < (k : Int)) (hf : (l.getD k default).frm < i) (h : PureC Try.prog 14 [.agg (pgA p), .agg (enA (l.getD k default)), .int .i64 2, .int .i64 a] (.bool true) []) : Vc (vcC Try.prog false (ntOf Try.prog 8) (lpC Try.prog 8 0) (lzS p l i a k) [.bd true, .bd true, .bd true, .cl [.agg (pgA p), .agg (enA (l.getD k default)), .int .i64 2, .int .i64 a] (.bool true) []] .ret [] (vbS 8 9 ((k : Int), true))) := vc_by (cj (dt ((k : Int) < (l.length : Int))) (cj (bi (k : Int) (l.length : Int)) (cj (dt ((k : Int) > i)) (cj (decide_eq_true hf) (zO25 p (zO27 p l k (zO26 l a k (cj h (cj (rf (k : Int)) (cj (rf true) trivial)))))))))) (by kernel_rfl)
theorem lz_end (p : Pg) (l : List En) (i a : Int) : Vc (vcC Try.prog false (ntOf Try.prog 8) (lpC Try.prog 8 0) (lzS p l i a l.length) [.bd false] (.ext 0) [] (lzS p l i a l.length)) := vc_by (cj (df ((l.length : Int) < (l.length : Int))) (zO25 p (zO24 p l i a (cj (rf (l.length : Int)) trivial)))) (by kernel_rfl)
theorem lz_find (p : Pg) (l : List En) (i a : Int) (hb : l.length < 1000000) (q : Nat) : ∀ j k, k + j = l.length → hzL p l i a k j = some q → OkL Try.prog (ntOf Try.prog 8) (lpC Try.prog 8 0) (lzS p l i a k).st .ret (vbS 8 9 ((q : Int), true)).st
  | 0, k, _, h => by cases h
  | j + 1, k, hk, h => by
    unfold hzL at h
    by_cases hz : hzLB p l i a k
    · rw [if_pos hz] at h
      obtain ⟨hi, hk3, hn, ha, hf⟩ := hz
      have hg : hitB p 2 a (l.getD k default) = true := hitB_iff.2 ⟨hk3, hn, ha⟩
      rw [Option.some.injEq] at h
      subst h
      exact OkL.exit (Ok.vc (lz_y p l i a k (by omega) hb hi hf (hitC p 2 a _ true hg))) (by simp)
    · rw [if_neg hz] at h
      refine OkL.step ?_ (lz_find p l i a hb q j (k + 1) (by omega) h)
      by_cases hi : i < (k : Int)
      · by_cases hf : (l.getD k default).frm < i
        · cases hg : hitB p 2 a (l.getD k default) with
          | false => exact Ok.vc (lz_g p l i a k (by omega) hb hi hf (hitC p 2 a _ false hg))
          | true => exact absurd ⟨hi, (hitB_iff.1 hg).1, (hitB_iff.1 hg).2.1, (hitB_iff.1 hg).2.2, hf⟩ hz
        · exact Ok.vc (lz_f p l i a k (by omega) hb hi hf)
      · exact Ok.vc (lz_k p l i a k (by omega) hb hi)
theorem lz_none (p : Pg) (l : List En) (i a : Int) (hb : l.length < 1000000) : ∀ j k, k + j = l.length → hzL p l i a k j = none → OkL Try.prog (ntOf Try.prog 8) (lpC Try.prog 8 0) (lzS p l i a k).st (.ext 0) (lzS p l i a l.length).st
  | 0, k, hk, _ => by
    obtain rfl : k = l.length := by omega
    exact OkL.exit (Ok.vc (lz_end p l i a)) (by simp)
  | j + 1, k, hk, h => by
    unfold hzL at h
    by_cases hz : hzLB p l i a k
    · rw [if_pos hz] at h
      obtain ⟨hi, hk3, hn, ha, hf⟩ := hz
      have hg : hitB p 2 a (l.getD k default) = true := hitB_iff.2 ⟨hk3, hn, ha⟩
      cases h
    · rw [if_neg hz] at h
      refine OkL.step ?_ (lz_none p l i a hb j (k + 1) (by omega) h)
      by_cases hi : i < (k : Int)
      · by_cases hf : (l.getD k default).frm < i
        · cases hg : hitB p 2 a (l.getD k default) with
          | false => exact Ok.vc (lz_g p l i a k (by omega) hb hi hf (hitC p 2 a _ false hg))
          | true => exact absurd ⟨hi, (hitB_iff.1 hg).1, (hitB_iff.1 hg).2.1, (hitB_iff.1 hg).2.2, hf⟩ hz
        · exact Ok.vc (lz_f p l i a k (by omega) hb hi hf)
      · exact Ok.vc (lz_k p l i a k (by omega) hb hi)
theorem hzL_low (p : Pg) (l : List En) (i a : Int) (n : Nat) : ∀ j k, k + j = n → hzL p l i a k j = if k < hz0 i n then hzG p l i a (hz0 i n) (n - hz0 i n) else hzG p l i a k j
  | 0, k, hk => by
    by_cases h : k < hz0 i n
    · rw [if_pos h, show n - hz0 i n = 0 by omega]; rfl
    · rw [if_neg h]; rfl
  | j + 1, k, hk => by
    have ih := hzL_low p l i a n j (k + 1) (by omega)
    unfold hzL
    by_cases h : k < hz0 i n
    · rw [if_pos h]
      have hi : ¬ i < (k : Int) := by unfold hz0 at h; omega
      rw [if_neg fun e => hi e.1, ih]
      by_cases h2 : k + 1 < hz0 i n
      · rw [if_pos h2]
      · rw [if_neg h2, show hz0 i n = k + 1 by omega, show n - (k + 1) = j by omega]
    · rw [if_neg h]
      have hi : i < (k : Int) := by unfold hz0 at h; omega
      rw [if_neg (by omega)] at ih
      rw [ih, show hzG p l i a k (j + 1) = if hzB p l i a k then some k else hzG p l i a (k + 1) j from rfl]
      by_cases hz : hzB p l i a k
      · rw [if_pos hz, if_pos ⟨hi, hz⟩]
      · rw [if_neg hz, if_neg fun e => hz e.2]
theorem hzL_eq (p : Pg) (l : List En) (i a : Int) : hzL p l i a 0 l.length = hzG p l i a (hz0 i l.length) (l.length - hz0 i l.length) := by
  rw [hzL_low p l i a l.length l.length 0 (by omega)]
  by_cases h : 0 < hz0 i l.length
  · rw [if_pos h]
  · rw [if_neg h, show hz0 i l.length = 0 by omega]; rfl
theorem lhaz_y (p : Pg) (l : List En) (i a : Int) (q : Nat) (h : Ok Try.prog (ntOf Try.prog 8) (.loop (lpC Try.prog 8 0)) (lzS p l i a 0).st .ret (vbS 8 9 ((q : Int), true)).st) : Vc (vcFn Try.prog false 8 [.agg (pgA p), enR l, .int .i64 i, .int .i64 a] [.fv, .lp [] (lzS p l i a 0) .ret (vbS 8 9 ((q : Int), true))] [] (.tup [.int .i64 q, .bool true]) []) := vc_by (zO25 p (zO24 p l i a (cj (rf (0 : Int)) (cj h (cj (rf (q : Int)) (cj (rf true) trivial)))))) (by kernel_rfl)
theorem lhaz_n (p : Pg) (l : List En) (i a : Int) (h : Ok Try.prog (ntOf Try.prog 8) (.loop (lpC Try.prog 8 0)) (lzS p l i a 0).st (.ext 0) (lzS p l i a l.length).st) : Vc (vcFn Try.prog false 8 [.agg (pgA p), enR l, .int .i64 i, .int .i64 a] [.fv, .lp [] (lzS p l i a 0) (.ext 0) (lzS p l i a l.length)] [] (.tup [.int .i64 0, .bool false]) []) := vc_by (zO25 p (zO24 p l i a (cj (rf (0 : Int)) (cj h (cj (rf (0 : Int)) (cj (rf false) trivial)))))) (by kernel_rfl)
theorem lhzC (p : Pg) (l : List En) (i a : Int) (hb : l.length < 1000000) : PureC Try.prog 8 [.agg (pgA p), enR l, .int .i64 i, .int .i64 a] (.tup [.int .i64 (hzV p l i a).1, .bool (hzV p l i a).2]) [] := by
  unfold hzV
  rw [← hzL_eq]
  cases h : hzL p l i a 0 l.length with
  | some q => exact PureC.vc (lhaz_y p l i a q (lz_find p l i a hb q _ _ (by omega) h).ok)
  | none => exact PureC.vc (lhaz_n p l i a (lz_none p l i a hb _ _ (by omega) h).ok)
end
end Go.Proofs.Ytdnmfgnpflhcpaa.Px
namespace Go.Proofs.Ytdnmfgnpflhcpaa.Px
section
open Go.RowKit Go.Proofs.Ytdnmfgnpflhcpaa.Rx
def vZ : Vl := ⟨false, 0⟩
def mM (n : Nat) : List Mm := [⟨⟨#[109]⟩, false, n⟩]
def iS : In := ⟨3, 0, 0, vZ, vZ, ⟨#[]⟩, 0⟩
def iL : In := ⟨2, 0, 0, vZ, vZ, ⟨#[]⟩, 0⟩
def pK : Pg := ⟨2, 0, 0, 0, 0, 0, 0, mM 2, [], [iS, iL]⟩
def lK : List En := [⟨0, 3, 1, 0, 0, true, true, false⟩, ⟨0, 0, 0, 0, 0, false, false, false⟩, ⟨1, 0, 1, 0, 0, false, true, false⟩, ⟨0, 0, 1, 0, 0, false, true, false⟩]
theorem sO30  : ∀ (i : Nat), i < 1 → ∀ (j : Nat), j < 3 → List.getD [AV.str (ByteArray.mk (Array.mk [(109 : UInt8)])), AV.bool false, aI (2 : Int)] (i * 3 + j) AV.junk = rowL mmC [Mm.mk (ByteArray.mk (Array.mk [(109 : UInt8)])) false (2 : Nat)] i j := (fun i hi j hj => match i, hi, j, hj with | 0, _, 0, _ => rfl | 0, _, 1, _ => rfl | 0, _, 2, _ => rfl)
theorem sO31  : ∀ (i : Nat), i < 2 → ∀ (j : Nat), j < 9 → List.getD [aI (3 : Int), aI (0 : Int), aI (0 : Int), AV.bool false, aI (0 : Int), AV.bool false, aI (0 : Int), AV.str (ByteArray.mk (Array.mk [])), aI (0 : Int), aI (2 : Int), aI (0 : Int), aI (0 : Int), AV.bool false, aI (0 : Int), AV.bool false, aI (0 : Int), AV.str (ByteArray.mk (Array.mk [])), aI (0 : Int)] (i * 9 + j) AV.junk = rowL inC [iS, iL] i j := (fun i hi j hj => match i, hi, j, hj with | 0, _, 0, _ => rfl | 0, _, 1, _ => rfl | 0, _, 2, _ => rfl | 0, _, 3, _ => rfl | 0, _, 4, _ => rfl | 0, _, 5, _ => rfl | 0, _, 6, _ => rfl | 0, _, 7, _ => rfl | 0, _, 8, _ => rfl | 1, _, 0, _ => rfl | 1, _, 1, _ => rfl | 1, _, 2, _ => rfl | 1, _, 3, _ => rfl | 1, _, 4, _ => rfl | 1, _, 5, _ => rfl | 1, _, 6, _ => rfl | 1, _, 7, _ => rfl | 1, _, 8, _ => rfl)
theorem sO32  : ∀ (i : Nat), i < 2 → ∀ (j : Nat), j < 1 → List.getD [aI (7 : Int), aI (8 : Int)] (i * 1 + j) AV.junk = aI (List.getD [(7 : Int), (8 : Int)] i (0 : Int)) := (fun i hi j hj => match i, hi, j, hj with | 0, _, 0, _ => rfl | 1, _, 0, _ => rfl)
theorem sO33  : ∀ (i : Nat), i < 4 → ∀ (j : Nat), j < 8 → List.getD [aI (0 : Int), aI (3 : Int), aI (1 : Int), aI (0 : Int), aI (0 : Int), AV.bool true, AV.bool true, AV.bool false, aI (0 : Int), aI (0 : Int), aI (0 : Int), aI (0 : Int), aI (0 : Int), AV.bool false, AV.bool false, AV.bool false, aI (1 : Int), aI (0 : Int), aI (1 : Int), aI (0 : Int), aI (0 : Int), AV.bool false, AV.bool true, AV.bool false, aI (0 : Int), aI (0 : Int), aI (1 : Int), aI (0 : Int), aI (0 : Int), AV.bool false, AV.bool true, AV.bool false] (i * 8 + j) AV.junk = rowL enC [En.mk (0 : Int) (3 : Int) (1 : Int) (0 : Int) (0 : Int) true true false, En.mk (0 : Int) (0 : Int) (0 : Int) (0 : Int) (0 : Int) false false false, En.mk (1 : Int) (0 : Int) (1 : Int) (0 : Int) (0 : Int) false true false, En.mk (0 : Int) (0 : Int) (1 : Int) (0 : Int) (0 : Int) false true false] i j := (fun i hi j hj => match i, hi, j, hj with | 0, _, 0, _ => rfl | 0, _, 1, _ => rfl | 0, _, 2, _ => rfl | 0, _, 3, _ => rfl | 0, _, 4, _ => rfl | 0, _, 5, _ => rfl | 0, _, 6, _ => rfl | 0, _, 7, _ => rfl | 1, _, 0, _ => rfl | 1, _, 1, _ => rfl | 1, _, 2, _ => rfl | 1, _, 3, _ => rfl | 1, _, 4, _ => rfl | 1, _, 5, _ => rfl | 1, _, 6, _ => rfl | 1, _, 7, _ => rfl | 2, _, 0, _ => rfl | 2, _, 1, _ => rfl | 2, _, 2, _ => rfl | 2, _, 3, _ => rfl | 2, _, 4, _ => rfl | 2, _, 5, _ => rfl | 2, _, 6, _ => rfl | 2, _, 7, _ => rfl | 3, _, 0, _ => rfl | 3, _, 1, _ => rfl | 3, _, 2, _ => rfl | 3, _, 3, _ => rfl | 3, _, 4, _ => rfl | 3, _, 5, _ => rfl | 3, _, 6, _ => rfl | 3, _, 7, _ => rfl)
theorem zO30  {Z : Prop} (z : Z) : (RF (2 : Int) (RF (0 : Int) (RF (0 : Int) (RF (0 : Int) (RF (0 : Int) (RF (0 : Int) (RF (0 : Int) (RF (1 : Nat) Z)))))))) := ⟨rfl, rfl, rfl, rfl, rfl, rfl, rfl, rfl, z⟩
theorem awake_vc (r1 : PureC Try.prog 6 [.agg (pgA pK), lR [7, 8], enR lK, .int .i64 2, .int .i64 1] (.tup [.int .i64 3, .int .i64 0, .bool true]) []) (r2 : PureC Try.prog 6 [.agg (pgA pK), lR [7, 8], enR lK, .int .i64 2, .int .i64 0] (.tup [.int .i64 7, .int .i64 (-1), .bool true]) []) (r3 : PureC Try.prog 6 [.agg (pgA pK), lR [7, 8], enR lK, .int .i64 4, .int .i64 1] (.tup [.int .i64 0, .int .i64 0, .bool false]) []) (r4 : PureC Try.prog 8 [.agg (pgA pK), enR lK, .int .i64 1, .int .i64 1] (.tup [.int .i64 2, .bool true]) []) (r5 : PureC Try.prog 8 [.agg (pgA pK), enR lK, .int .i64 0, .int .i64 1] (.tup [.int .i64 0, .bool false]) []) : Vc (vcFn Try.prog false 7 [] [.fv, .fv, .fz, .fv, .cl [.agg (pgA pK), lR [7, 8], enR lK, .int .i64 2, .int .i64 1] (.tup [.int .i64 3, .int .i64 0, .bool true]) [], .fv, .cl [.agg (pgA pK), lR [7, 8], enR lK, .int .i64 2, .int .i64 0] (.tup [.int .i64 7, .int .i64 (-1), .bool true]) [], .fv, .cl [.agg (pgA pK), lR [7, 8], enR lK, .int .i64 4, .int .i64 1] (.tup [.int .i64 0, .int .i64 0, .bool false]) [], .cl [.agg (pgA pK), enR lK, .int .i64 1, .int .i64 1] (.tup [.int .i64 2, .bool true]) [], .cl [.agg (pgA pK), enR lK, .int .i64 0, .int .i64 1] (.tup [.int .i64 0, .bool false]) []] [] (.bool true) []) := vc_by (zO30 (cj (sO30 ) (cj (rf (0 : Nat)) (cj (rf (2 : Nat)) (cj (sO31 ) (cj (rf (2 : Nat)) (cj (sO32 ) (cj (rf (4 : Nat)) (cj (sO33 ) (cj (rf (2 : Int)) (cj (rf (1 : Int)) (cj r1 (zO30 (cj (sO30 ) (cj (rf (0 : Nat)) (cj (rf (2 : Nat)) (cj (sO31 ) (cj (rf (2 : Nat)) (cj (sO32 ) (cj (rf (4 : Nat)) (cj (sO33 ) (cj (rf (2 : Int)) (cj (rf (0 : Int)) (cj r2 (zO30 (cj (sO30 ) (cj (rf (0 : Nat)) (cj (rf (2 : Nat)) (cj (sO31 ) (cj (rf (2 : Nat)) (cj (sO32 ) (cj (rf (4 : Nat)) (cj (sO33 ) (cj (rf (4 : Int)) (cj (rf (1 : Int)) (cj r3 (zO30 (cj (sO30 ) (cj (rf (0 : Nat)) (cj (rf (2 : Nat)) (cj (sO31 ) (cj (rf (4 : Nat)) (cj (sO33 ) (cj (rf (1 : Int)) (cj (rf (1 : Int)) (cj r4 (zO30 (cj (sO30 ) (cj (rf (0 : Nat)) (cj (rf (2 : Nat)) (cj (sO31 ) (cj (rf (4 : Nat)) (cj (sO33 ) (cj (rf (0 : Int)) (cj (rf (1 : Int)) (cj r5 (cj (rf true) trivial))))))))))))))))))))))))))))))))))))))))))))))))))))))))) (by kernel_rfl)
theorem awL (i a v r : Int) (b : Bool) (h : ldV pK [7, 8] lK i a = (v, r, b)) : PureC Try.prog 6 [.agg (pgA pK), lR [7, 8], enR lK, .int .i64 i, .int .i64 a] (.tup [.int .i64 v, .int .i64 r, .bool b]) [] := by
  have h1 := lldC pK [7, 8] lK i a (by decide)
  rw [h] at h1
  exact h1
theorem awH (i a v : Int) (b : Bool) (h : hzV pK lK i a = (v, b)) : PureC Try.prog 8 [.agg (pgA pK), enR lK, .int .i64 i, .int .i64 a] (.tup [.int .i64 v, .bool b]) [] := by
  have h1 := lhzC pK lK i a (by decide)
  rw [h] at h1
  exact h1
theorem awakeC11 : PureC Try.prog 7 [] (.bool true) [] := PureC.vc (awake_vc (awL 2 1 3 0 true (by decide)) (awL 2 0 7 (-1) true (by decide)) (awL 4 1 0 0 false (by decide)) (awH 1 1 2 true (by decide)) (awH 0 1 0 false (by decide)))
end
end Go.Proofs.Ytdnmfgnpflhcpaa.Px
namespace Go.Proofs.Ytdnmfgnpflhcpaa.Px
section
open Go.RowKit Go.Proofs.Ytdnmfgnpflhcpaa.Rx
def pM : Pg := ⟨4, 0, 0, 0, 0, 0, 0, mM 4, [], [iS]⟩
def shI (x : Int) (k : Nat) : Int := bits .and .i64 (Int.fdiv x (2 ^ min (IntKind.wrap .u64 (k : Int)).toNat IntKind.i64.bits)) 1
def eV (rs : List Int) (tl dn : Int) (k : Nat) (v : Int) : En := ⟨0, v, bits .and .i64 (rs.getD k 0) 3, 0, 0, (shI dn k == 1), (shI tl k == 1), false⟩
def eL (rs vs : List Int) (tl dn : Int) (k : Nat) : En := eV rs tl dn k (if k < vs.length then bits .and .i64 (vs.getD k 0) 15 else 0)
def lL (rs vs : List Int) (tl dn : Int) : Nat → List En
  | 0 => []
  | k + 1 => lL rs vs tl dn k ++ [eL rs vs tl dn k]
def pBx : Blk := ⟨0, false, 34, .box (pgA pM)⟩
def l2S (rs vs : List Int) (tl dn a0 t0 : Int) (l : List En) (k : Nat) : Sm := ⟨[(0, lR rs), (1, .int .i64 tl), (2, .int .i64 dn), (3, lR vs), (4, .int .i64 a0), (5, .int .i64 t0), (13, .bptr 0 0), (14, .own 1 0 8 0 l.length), (15, .int .i64 k)], [(0, pBx), (1, enB l)], 2⟩
def l3S (l : List En) (a i : Int) (last : Int) (k : Nat) : Sm := ⟨[(4, .int .i64 a), (5, .int .i64 i), (13, .bptr 0 0), (14, enR l), (17, .int .i64 last), (18, .int .i64 k)], [(0, pBx)], 1⟩
/-- the last of the first k that is told, at a -/
def lastL (l : List En) (a : Int) : Nat → Int
  | 0 => -1
  | k + 1 => if (l.getD k default).kn = true ∧ (l.getD k default).adr = a then (k : Int) else lastL l a k
theorem lL_len (rs vs : List Int) (tl dn : Int) : ∀ k, (lL rs vs tl dn k).length = k
  | 0 => rfl
  | k + 1 => by rw [lL, List.length_append, lL_len rs vs tl dn k]; rfl
theorem sO40 (k : Nat) : (0 : Int) ≤ IntKind.wrap IntKind.u64 (k : Int) := (u_wrap_nn _)
theorem zO40 (rs : List Int) (vs : List Int) (tl : Int) (dn : Int) (a0 : Int) (t0 : Int) {Z : Prop} (z : Z) : (RF rs.length (RR rs.length 1 (fun i j => aI (rs.getD i 0)) (RF tl (RF dn (RF vs.length (RR vs.length 1 (fun i j => aI (vs.getD i 0)) (RF a0 (RF t0 (RF (0 : Nat) Z))))))))) := ⟨rfl, fun _ _ _ _ => rfl, rfl, rfl, rfl, fun _ _ _ _ => rfl, rfl, rfl, rfl, z⟩
theorem zO41  {Z : Prop} (z : Z) : (RF (0 : Nat) (RR 0 2 (fun i j => rowL lbC [] i j) (RF (1 : Nat) (RR 1 9 (fun i j => rowL inC [iS] i j) Z)))) := ⟨rfl, fun _ _ _ _ => rfl, rfl, fun _ _ _ _ => rfl, z⟩
theorem zO42  {Z : Prop} (z : Z) : (RF (4 : Int) (RF (0 : Int) (RF (0 : Int) (RF (0 : Int) (RF (0 : Int) (RF (0 : Int) (RF (0 : Int) (RF (1 : Nat) (RR 1 3 (fun i j => rowL mmC [Mm.mk (ByteArray.mk (Array.mk [(109 : UInt8)])) false (4 : Nat)] i j) Z))))))))) := ⟨rfl, rfl, rfl, rfl, rfl, rfl, rfl, rfl, fun _ _ _ _ => rfl, z⟩
theorem l2_in (rs vs : List Int) (tl dn a0 t0 : Int) (l : List En) (k : Nat) (hk : k < rs.length) (h12 : k < 12) (hl : l.length = k) (hv : k < vs.length) : Vc (vcC Try.prog false (ntOf Try.prog 3) (lpC Try.prog 3 0) (l2S rs vs tl dn a0 t0 l k) [.bd true, .bd true, .b true, .b true, .b true, .fv] .nrm [(0, 0), (1, 1)] (l2S rs vs tl dn a0 t0 (l ++ [eV rs tl dn k (bits .and .i64 (vs.getD k 0) 15)]) (k + 1))) := vc_by (cj (dt ((k : Int) < (rs.length : Int))) (cj (dt ((k : Int) < 12)) (cj (rf true) (cj (rf true) (cj (bi (k : Int) (rs.length : Int)) (cj (sO40 k) (cj (sO40 k) (cj (dt ((k : Int) < (vs.length : Int))) (cj (bi (k : Int) (vs.length : Int)) (cj (ap l.length 1 48) (cj (i6 ((k : Int) + 1)) (zO42 (zO41 (cj (show l.length + 1 = (l ++ [eV rs tl dn k (Go.bits Go.BinOp.and IntKind.i64 (vs.getD k 0) (15 : Int))]).length from by rw [List.length_append]; rfl) (cj (show ∀ (i : Nat), i < l.length + 1 → ∀ (j : Nat), j < 8 → (bif Nat.blt i l.length then rowL enC l i j else List.getD [aI (0 : Int), aI (Go.bits Go.BinOp.and IntKind.i64 (vs.getD k 0) (15 : Int)), aI (Go.bits Go.BinOp.and IntKind.i64 (rs.getD k 0) (3 : Int)), aI (0 : Int), aI (0 : Int), AV.bool (Go.bits Go.BinOp.and IntKind.i64 (Int.fdiv dn ((2 : Int) ^ Min.min (k % (18446744073709551616 : Nat)) (64 : Nat))) (1 : Int) == (1 : Int)), AV.bool (Go.bits Go.BinOp.and IntKind.i64 (Int.fdiv tl ((2 : Int) ^ Min.min (k % (18446744073709551616 : Nat)) (64 : Nat))) (1 : Int) == (1 : Int)), AV.bool false] ((i - l.length) * 8 + j) AV.junk) = rowL enC (l ++ [eV rs tl dn k (Go.bits Go.BinOp.and IntKind.i64 (vs.getD k 0) (15 : Int))]) i j from (fun i hi j hj => row_if (fun h => (rowL_left h).symm) (fun h => by obtain rfl : i = _ := Nat.le_antisymm (Nat.lt_succ_iff.mp hi) (Nat.not_lt.mp h); rw [rowL_last, Nat.sub_self]; match j, hj with | 0, _ => rfl | 1, _ => rfl | 2, _ => rfl | 3, _ => rfl | 4, _ => rfl | 5, _ => rfl | 6, _ => rfl | 7, _ => rfl))) (zO40 rs vs tl dn a0 t0 (cj (show l.length + 1 = (l ++ [eV rs tl dn k (Go.bits Go.BinOp.and IntKind.i64 (vs.getD k 0) (15 : Int))]).length from by rw [List.length_append]; rfl) (cj (rf ((k : Int) + 1)) trivial)))))))))))))))))) (by kernel_rfl)
theorem l2_out (rs vs : List Int) (tl dn a0 t0 : Int) (l : List En) (k : Nat) (hk : k < rs.length) (h12 : k < 12) (hl : l.length = k) (hv : ¬ k < vs.length) : Vc (vcC Try.prog false (ntOf Try.prog 3) (lpC Try.prog 3 0) (l2S rs vs tl dn a0 t0 l k) [.bd true, .bd true, .b true, .b true, .b false, .fv] .nrm [(0, 0), (1, 1)] (l2S rs vs tl dn a0 t0 (l ++ [eV rs tl dn k 0]) (k + 1))) := vc_by (cj (dt ((k : Int) < (rs.length : Int))) (cj (dt ((k : Int) < 12)) (cj (rf true) (cj (rf true) (cj (bi (k : Int) (rs.length : Int)) (cj (sO40 k) (cj (sO40 k) (cj (df ((k : Int) < (vs.length : Int))) (cj (ap l.length 1 48) (cj (i6 ((k : Int) + 1)) (zO42 (zO41 (cj (show l.length + 1 = (l ++ [eV rs tl dn k (0 : Int)]).length from by rw [List.length_append]; rfl) (cj (show ∀ (i : Nat), i < l.length + 1 → ∀ (j : Nat), j < 8 → (bif Nat.blt i l.length then rowL enC l i j else List.getD [aI (0 : Int), aI (0 : Int), aI (Go.bits Go.BinOp.and IntKind.i64 (rs.getD k 0) (3 : Int)), aI (0 : Int), aI (0 : Int), AV.bool (Go.bits Go.BinOp.and IntKind.i64 (Int.fdiv dn ((2 : Int) ^ Min.min (k % (18446744073709551616 : Nat)) (64 : Nat))) (1 : Int) == (1 : Int)), AV.bool (Go.bits Go.BinOp.and IntKind.i64 (Int.fdiv tl ((2 : Int) ^ Min.min (k % (18446744073709551616 : Nat)) (64 : Nat))) (1 : Int) == (1 : Int)), AV.bool false] ((i - l.length) * 8 + j) AV.junk) = rowL enC (l ++ [eV rs tl dn k (0 : Int)]) i j from (fun i hi j hj => row_if (fun h => (rowL_left h).symm) (fun h => by obtain rfl : i = _ := Nat.le_antisymm (Nat.lt_succ_iff.mp hi) (Nat.not_lt.mp h); rw [rowL_last, Nat.sub_self]; match j, hj with | 0, _ => rfl | 1, _ => rfl | 2, _ => rfl | 3, _ => rfl | 4, _ => rfl | 5, _ => rfl | 6, _ => rfl | 7, _ => rfl))) (zO40 rs vs tl dn a0 t0 (cj (show l.length + 1 = (l ++ [eV rs tl dn k (0 : Int)]).length from by rw [List.length_append]; rfl) (cj (rf ((k : Int) + 1)) trivial))))))))))))))))) (by kernel_rfl)
theorem zO43 (vs : List Int) (dn : Int) (a0 : Int) (t0 : Int) (l : List En) (k : Nat) {Z : Prop} (z : Z) : (RF dn (RF vs.length (RR vs.length 1 (fun i j => aI (vs.getD i 0)) (RF a0 (RF t0 (RF (0 : Nat) (RF l.length (RF (k : Int) Z)))))))) := ⟨rfl, rfl, fun _ _ _ _ => rfl, rfl, rfl, rfl, rfl, rfl, z⟩
theorem zO44 (rs : List Int) (tl : Int) (l : List En) {Z : Prop} (z : Z) : (RF (0 : Nat) (RR 0 2 (fun i j => rowL lbC [] i j) (RF (1 : Nat) (RR 1 9 (fun i j => rowL inC [iS] i j) (RF l.length (RR l.length 8 (fun i j => rowL enC l i j) (RF rs.length (RR rs.length 1 (fun i j => aI (rs.getD i 0)) (RF tl Z))))))))) := ⟨rfl, fun _ _ _ _ => rfl, rfl, fun _ _ _ _ => rfl, rfl, fun _ _ _ _ => rfl, rfl, fun _ _ _ _ => rfl, rfl, z⟩
theorem l2_end (rs vs : List Int) (tl dn a0 t0 : Int) (l : List En) (k : Nat) (hk : ¬ k < rs.length) : Vc (vcC Try.prog false (ntOf Try.prog 3) (lpC Try.prog 3 0) (l2S rs vs tl dn a0 t0 l k) [.bd false] (.ext 0) [(0, 0), (1, 1)] (l2S rs vs tl dn a0 t0 l k)) := vc_by (cj (df ((k : Int) < (rs.length : Int))) (zO42 (zO44 rs tl l (zO43 vs dn a0 t0 l k trivial)))) (by kernel_rfl)
theorem l2_end12 (rs vs : List Int) (tl dn a0 t0 : Int) (l : List En) (k : Nat) (hk : k < rs.length) (h12 : ¬ k < 12) : Vc (vcC Try.prog false (ntOf Try.prog 3) (lpC Try.prog 3 0) (l2S rs vs tl dn a0 t0 l k) [.bd true, .bd false] (.ext 0) [(0, 0), (1, 1)] (l2S rs vs tl dn a0 t0 l k)) := vc_by (cj (dt ((k : Int) < (rs.length : Int))) (cj (df ((k : Int) < 12)) (zO42 (zO44 rs tl l (zO43 vs dn a0 t0 l k trivial))))) (by kernel_rfl)
theorem zO45 (l : List En) (a : Int) (i : Int) (last : Int) {Z : Prop} (z : Z) : (RF (0 : Nat) (RR 0 2 (fun i j => rowL lbC [] i j) (RF (1 : Nat) (RR 1 9 (fun i j => rowL inC [iS] i j) (RF a (RF i (RF l.length (RR l.length 8 (fun i j => rowL enC l i j) (RF last Z))))))))) := ⟨rfl, fun _ _ _ _ => rfl, rfl, fun _ _ _ _ => rfl, rfl, rfl, rfl, fun _ _ _ _ => rfl, rfl, z⟩
theorem l3_n (l : List En) (a i last : Int) (k : Nat) (hk : k < l.length) (ha : (k : Int) < i) (hb : l.length < 100) (hn : (l.getD k default).kn = false) : Vc (vcC Try.prog false (ntOf Try.prog 3) (lpC Try.prog 3 1) (l3S l a i last k) [.bd true, .bd true, .b true, .b true, .lv (.bool false)] .nrm [(0, 0)] (l3S l a i last (k + 1))) := vc_by (cj (dt ((k : Int) < i)) (cj (dt ((k : Int) < (l.length : Int))) (cj (rf true) (cj (rf true) (cj (bi (k : Int) (l.length : Int)) (cj (congrArg (fun b => some (AV.bool b)) hn) (cj (i6 ((k : Int) + 1)) (zO42 (zO45 l a i last (cj (rf ((k : Int) + 1)) trivial)))))))))) (by kernel_rfl)
theorem l3_mis (l : List En) (a i last : Int) (k : Nat) (hk : k < l.length) (ha : (k : Int) < i) (hb : l.length < 100) (hn : (l.getD k default).kn = true) (h : ¬ (l.getD k default).adr = a) : Vc (vcC Try.prog false (ntOf Try.prog 3) (lpC Try.prog 3 1) (l3S l a i last k) [.bd true, .bd true, .b true, .b true, .lv (.bool true), .bd false] .nrm [(0, 0)] (l3S l a i last (k + 1))) := vc_by (cj (dt ((k : Int) < i)) (cj (dt ((k : Int) < (l.length : Int))) (cj (rf true) (cj (rf true) (cj (bi (k : Int) (l.length : Int)) (cj (congrArg (fun b => some (AV.bool b)) hn) (cj (bi (k : Int) (l.length : Int)) (cj (beq_eq_false_iff_ne.2 h) (cj (i6 ((k : Int) + 1)) (zO42 (zO45 l a i last (cj (rf ((k : Int) + 1)) trivial)))))))))))) (by kernel_rfl)
theorem l3_hit (l : List En) (a i last : Int) (k : Nat) (hk : k < l.length) (ha : (k : Int) < i) (hb : l.length < 100) (hn : (l.getD k default).kn = true) (h : (l.getD k default).adr = a) : Vc (vcC Try.prog false (ntOf Try.prog 3) (lpC Try.prog 3 1) (l3S l a i last k) [.bd true, .bd true, .b true, .b true, .lv (.bool true), .bd true] .nrm [(0, 0)] (l3S l a i k (k + 1))) := vc_by (cj (dt ((k : Int) < i)) (cj (dt ((k : Int) < (l.length : Int))) (cj (rf true) (cj (rf true) (cj (bi (k : Int) (l.length : Int)) (cj (congrArg (fun b => some (AV.bool b)) hn) (cj (bi (k : Int) (l.length : Int)) (cj (beq_iff_eq.2 h) (cj (i6 ((k : Int) + 1)) (zO42 (cj (rf (0 : Nat)) (cj (rr 0 2 fun i j => rowL lbC [] i j) (cj (rf (1 : Nat)) (cj (rr 1 9 fun i j => rowL inC [iS] i j) (cj (rf a) (cj (rf i) (cj (rf l.length) (cj (rr l.length 8 fun i j => rowL enC l i j) (cj (rf (k : Int)) (cj (rf ((k : Int) + 1)) trivial)))))))))))))))))))) (by kernel_rfl)
theorem l3_enda (l : List En) (a i last : Int) (k : Nat) (ha : ¬ (k : Int) < i) : Vc (vcC Try.prog false (ntOf Try.prog 3) (lpC Try.prog 3 1) (l3S l a i last k) [.bd false] (.ext 2) [(0, 0)] (l3S l a i last k)) := vc_by (cj (df ((k : Int) < i)) (zO42 (zO45 l a i last (cj (rf (k : Int)) trivial)))) (by kernel_rfl)
theorem l3_endl (l : List En) (a i last : Int) (k : Nat) (ha : (k : Int) < i) (hk : ¬ k < l.length) : Vc (vcC Try.prog false (ntOf Try.prog 3) (lpC Try.prog 3 1) (l3S l a i last k) [.bd true, .bd false] (.ext 2) [(0, 0)] (l3S l a i last k)) := vc_by (cj (dt ((k : Int) < i)) (cj (df ((k : Int) < (l.length : Int))) (zO42 (zO45 l a i last (cj (rf (k : Int)) trivial))))) (by kernel_rfl)
theorem l2_loop (rs vs : List Int) (tl dn a0 t0 : Int) (n : Nat) (hn : n = min rs.length 12) : Ok Try.prog (ntOf Try.prog 3) (.loop (lpC Try.prog 3 0)) (l2S rs vs tl dn a0 t0 [] 0).st (.ext 0) (l2S rs vs tl dn a0 t0 (lL rs vs tl dn n) n).st := by
  refine Ok.loop (P := Try.prog) (nt := ntOf Try.prog 3) (c := lpC Try.prog 3 0) (F := fun k => l2S rs vs tl dn a0 t0 (lL rs vs tl dn k) k) (m := n) (x := .ext 0) (J := l2S rs vs tl dn a0 t0 (lL rs vs tl dn n) n) (fun k hk => ?_) ?_ (by simp)
  · show Ok _ _ _ _ _ (l2S rs vs tl dn a0 t0 (lL rs vs tl dn k ++ [eV rs tl dn k (if k < vs.length then bits .and .i64 (vs.getD k 0) 15 else 0)]) (k + 1)).st
    by_cases hv : k < vs.length
    · rw [if_pos hv]; exact Ok.vc (l2_in rs vs tl dn a0 t0 _ k (by omega) (by omega) (lL_len rs vs tl dn k) hv)
    · rw [if_neg hv]; exact Ok.vc (l2_out rs vs tl dn a0 t0 _ k (by omega) (by omega) (lL_len rs vs tl dn k) hv)
  · by_cases h : n < rs.length
    · exact Ok.vc (l2_end12 rs vs tl dn a0 t0 _ n h (by omega))
    · exact Ok.vc (l2_end rs vs tl dn a0 t0 _ n h)
theorem l3_loop (l : List En) (a i : Int) (hb : l.length < 100) : ∀ j k, k + j = cl0 i l.length → OkL Try.prog (ntOf Try.prog 3) (lpC Try.prog 3 1) (l3S l a i (lastL l a k) k).st (.ext 2) (l3S l a i (lastL l a (cl0 i l.length)) (cl0 i l.length)).st
  | 0, k, hk => by
    obtain rfl : k = cl0 i l.length := by omega
    rcases cl0_end i l.length with h | h
    · exact OkL.exit (Ok.vc (l3_enda l a i _ _ h)) (by simp)
    · by_cases h2 : ((cl0 i l.length : Nat) : Int) < i
      · exact OkL.exit (Ok.vc (l3_endl l a i _ _ h2 h)) (by simp)
      · exact OkL.exit (Ok.vc (l3_enda l a i _ _ h2)) (by simp)
  | j + 1, k, hk => by
    have hl := cl0_lt (i := i) (n := l.length) (k := k) (by omega)
    have ih := l3_loop l a i hb j (k + 1) (by omega)
    cases hn : (l.getD k default).kn with
    | false =>
      rw [show lastL l a (k + 1) = lastL l a k from if_neg fun e => by rw [hn] at e; exact absurd e.1 (by simp)] at ih
      exact OkL.step (Ok.vc (l3_n l a i _ k hl.2 hl.1 hb hn)) ih
    | true =>
      by_cases h : (l.getD k default).adr = a
      · rw [show lastL l a (k + 1) = (k : Int) from if_pos ⟨hn, h⟩] at ih
        exact OkL.step (Ok.vc (l3_hit l a i _ k hl.2 hl.1 hb hn h)) ih
      · rw [show lastL l a (k + 1) = lastL l a k from if_neg fun e => h e.2] at ih
        exact OkL.step (Ok.vc (l3_mis l a i _ k hl.2 hl.1 hb hn h)) ih
end
end Go.Proofs.Ytdnmfgnpflhcpaa.Px
namespace Go.Proofs.Ytdnmfgnpflhcpaa.Px
section
open Go.RowKit Go.Proofs.Ytdnmfgnpflhcpaa.Rx
theorem sO50 (t0 : Int) (i : Int) (hi : bits .and .i64 t0 15 = i) : ∀ (i : Nat), i < 1 → ∀ (j : Nat), j < 3 → List.getD [AV.str (ByteArray.mk (Array.mk [(109 : UInt8)])), AV.bool false, aI (4 : Int)] (i * 3 + j) AV.junk = rowL mmC [Mm.mk (ByteArray.mk (Array.mk [(109 : UInt8)])) false (4 : Nat)] i j := (fun i hi j hj => match i, hi, j, hj with | 0, _, 0, _ => rfl | 0, _, 1, _ => rfl | 0, _, 2, _ => rfl)
theorem sO51 (t0 : Int) (i : Int) (hi : bits .and .i64 t0 15 = i) : ∀ (i : Nat), i < 1 → ∀ (j : Nat), j < 9 → List.getD [aI (3 : Int), aI (0 : Int), aI (0 : Int), AV.bool false, aI (0 : Int), AV.bool false, aI (0 : Int), AV.str (ByteArray.mk (Array.mk [])), aI (0 : Int)] (i * 9 + j) AV.junk = rowL inC [iS] i j := (fun i hi j hj => match i, hi, j, hj with | 0, _, 0, _ => rfl | 0, _, 1, _ => rfl | 0, _, 2, _ => rfl | 0, _, 3, _ => rfl | 0, _, 4, _ => rfl | 0, _, 5, _ => rfl | 0, _, 6, _ => rfl | 0, _, 7, _ => rfl | 0, _, 8, _ => rfl)
theorem sO52 (t0 : Int) (i : Int) (hi : bits .and .i64 t0 15 = i) : ∀ (i : Nat), i < 4 → ∀ (j : Nat), j < 1 → List.getD [aI (5 : Int), aI (6 : Int), aI (7 : Int), aI (8 : Int)] (i * 1 + j) AV.junk = aI (List.getD [(5 : Int), (6 : Int), (7 : Int), (8 : Int)] i (0 : Int)) := (fun i hi j hj => match i, hi, j, hj with | 0, _, 0, _ => rfl | 1, _, 0, _ => rfl | 2, _, 0, _ => rfl | 3, _, 0, _ => rfl)
theorem zO50 (rs : List Int) (vs : List Int) (tl : Int) (dn : Int) (a : Int) (i : Int) (n : Nat) {Z : Prop} (z : Z) : (RF ((lL rs vs tl dn n).length) (RR ((lL rs vs tl dn n).length) 8 (fun i j => rowL enC (lL rs vs tl dn n) i j) (RF i (RF a Z)))) := ⟨rfl, fun _ _ _ _ => rfl, rfl, rfl, z⟩
theorem zO51  {Z : Prop} (z : Z) : (RF (0 : Nat) (RR 0 2 (fun i j => rowL lbC [] i j) (RF (1 : Nat) (RR 1 9 (fun i j => rowL inC [iS] i j) (RF (4 : Nat) Z))))) := ⟨rfl, fun _ _ _ _ => rfl, rfl, fun _ _ _ _ => rfl, rfl, z⟩
theorem zO52  {Z : Prop} (z : Z) : (RF (4 : Int) (RF (0 : Int) (RF (0 : Int) (RF (0 : Int) (RF (0 : Int) (RF (0 : Int) (RF (0 : Int) (RF (1 : Nat) (RR 1 3 (fun i j => rowL mmC [Mm.mk (ByteArray.mk (Array.mk [(109 : UInt8)])) false (4 : Nat)] i j) Z))))))))) := ⟨rfl, rfl, rfl, rfl, rfl, rfl, rfl, rfl, fun _ _ _ _ => rfl, z⟩
theorem zO53 (rs : List Int) (vs : List Int) (tl : Int) (dn : Int) (n : Nat) {Z : Prop} (z : Z) : (RF ((lL rs vs tl dn n).length) (RR ((lL rs vs tl dn n).length) 8 (fun i j => rowL enC (lL rs vs tl dn n) i j) (RF (-1 : Int) (RF (0 : Int) Z)))) := ⟨rfl, fun _ _ _ _ => rfl, rfl, rfl, z⟩
theorem zO54  {Z : Prop} (z : Z) : (RF (0 : Nat) (RR 0 2 (fun i j => rowL lbC [] i j) (RF (1 : Nat) (RR 1 9 (fun i j => rowL inC [iS] i j) Z)))) := ⟨rfl, fun _ _ _ _ => rfl, rfl, fun _ _ _ _ => rfl, z⟩
theorem zO55  {Z : Prop} (z : Z) : (RF (0 : Nat) (RF (0 : Nat) (RF (0 : Int) Z))) := ⟨rfl, rfl, rfl, z⟩
theorem zO56 (rs : List Int) (vs : List Int) (tl : Int) (dn : Int) (a0 : Int) (t0 : Int) {Z : Prop} (z : Z) : (RF (0 : Nat) (RF rs.length (RR rs.length 1 (fun i j => aI (rs.getD i 0)) (RF tl (RF dn (RF vs.length (RR vs.length 1 (fun i j => aI (vs.getD i 0)) (RF a0 (RF t0 Z))))))))) := ⟨rfl, rfl, fun _ _ _ _ => rfl, rfl, rfl, rfl, fun _ _ _ _ => rfl, rfl, rfl, z⟩
theorem zO57  {Z : Prop} (z : Z) : (RF (4 : Int) (RF (0 : Int) (RF (0 : Int) (RF (0 : Int) (RF (0 : Int) (RF (0 : Int) (RF (0 : Int) (RF (1 : Nat) Z)))))))) := ⟨rfl, rfl, rfl, rfl, rfl, rfl, rfl, rfl, z⟩
abbrev qO50 (rs : List Int) (vs : List Int) (tl : Int) (dn : Int) (a0 : Int) (t0 : Int) (n : Nat) : Prop := Ok Try.prog (ntOf Try.prog 3) (.loop (lpC Try.prog 3 0)) (l2S rs vs tl dn a0 t0 [] 0).st (.ext 0) (l2S rs vs tl dn a0 t0 (lL rs vs tl dn n) n).st
theorem ml_none (rs vs : List Int) (tl dn a0 t0 a i : Int) (n c : Nat) (ha : bits .and .i64 a0 3 = a) (hi : bits .and .i64 t0 15 = i) (h0 : 0 ≤ a) (h4 : a < 4) (hn : n < 100) (h2 : qO50 rs vs tl dn a0 t0 n) (h3 : Ok Try.prog (ntOf Try.prog 3) (.loop (lpC Try.prog 3 1)) (l3S (lL rs vs tl dn n) a i (-1) 0).st (.ext 2) (l3S (lL rs vs tl dn n) a i (-1) c).st) (hR : PureC Try.prog 6 [.agg (pgA pM), lR [5, 6, 7, 8], enR (lL rs vs tl dn n), .int .i64 i, .int .i64 a] (.tup [.int .i64 (5 + a), .int .i64 (-1), .bool true]) []) : Vc (vcFn Try.prog false 3 [lR rs, .int .i64 tl, .int .i64 dn, lR vs, .int .i64 a0, .int .i64 t0] [.fv, .fv, .lp [(0, 0)] (l2S rs vs tl dn a0 t0 [] 0) (.ext 0) (l2S rs vs tl dn a0 t0 (lL rs vs tl dn n) n), .lp [(0, 0)] (l3S (lL rs vs tl dn n) a i (-1) 0) (.ext 2) (l3S (lL rs vs tl dn n) a i (-1) c), .fv, .cl [.agg (pgA pM), lR [5, 6, 7, 8], enR (lL rs vs tl dn n), .int .i64 i, .int .i64 a] (.tup [.int .i64 (5 + a), .int .i64 (-1), .bool true]) [], .bd true, .bd true, .bd true, .cl [] (.bool true) []] [] (.bool true) []) := vc_by (zO57 (cj (sO50 t0 i hi) (cj (rf (0 : Nat)) (cj (rf (1 : Nat)) (cj (sO51 t0 i hi) (zO56 rs vs tl dn a0 t0 (zO55 (cj h2 (zO52 (zO54 (cj ha (cj hi (zO53 rs vs tl dn n (cj h3 (zO52 (zO51 (cj (sO52 t0 i hi) (zO50 rs vs tl dn a i n (cj hR (cj (dt ((-1 : Int) < 0)) (cj (rf true) (cj (i6 ((5 : Int) + a)) (cj (show ((5 : Int) + a == (5 : Int) + a) = true from by simp) (cj awakeC11 (cj (rf true) trivial))))))))))))))))))))))))) (by kernel_rfl)
abbrev qO51 (rs : List Int) (vs : List Int) (tl : Int) (dn : Int) (a : Int) (i : Int) (n : Nat) (c : Nat) (q : Nat) : Prop := Ok Try.prog (ntOf Try.prog 3) (.loop (lpC Try.prog 3 1)) (l3S (lL rs vs tl dn n) a i (-1) 0).st (.ext 2) (l3S (lL rs vs tl dn n) a i (q : Int) c).st
theorem ml_t (rs vs : List Int) (tl dn a0 t0 a i : Int) (n c : Nat) (q : Nat) (ha : bits .and .i64 a0 3 = a) (hi : bits .and .i64 t0 15 = i) (h0 : 0 ≤ a) (h4 : a < 4) (hn : n < 100) (hq : q < (lL rs vs tl dn n).length) (hq2 : (lL rs vs tl dn n).length < 100) (hd : ((lL rs vs tl dn n).getD q default).dn = true) (h2 : qO50 rs vs tl dn a0 t0 n) (h3 : qO51 rs vs tl dn a i n c q) (hR : PureC Try.prog 6 [.agg (pgA pM), lR [5, 6, 7, 8], enR (lL rs vs tl dn n), .int .i64 i, .int .i64 a] (.tup [.int .i64 ((lL rs vs tl dn n).getD q default).val, .int .i64 (q : Int), .bool true]) []) : Vc (vcFn Try.prog false 3 [lR rs, .int .i64 tl, .int .i64 dn, lR vs, .int .i64 a0, .int .i64 t0] [.fv, .fv, .lp [(0, 0)] (l2S rs vs tl dn a0 t0 [] 0) (.ext 0) (l2S rs vs tl dn a0 t0 (lL rs vs tl dn n) n), .lp [(0, 0)] (l3S (lL rs vs tl dn n) a i (-1) 0) (.ext 2) (l3S (lL rs vs tl dn n) a i (q : Int) c), .fv, .cl [.agg (pgA pM), lR [5, 6, 7, 8], enR (lL rs vs tl dn n), .int .i64 i, .int .i64 a] (.tup [.int .i64 ((lL rs vs tl dn n).getD q default).val, .int .i64 (q : Int), .bool true]) [], .bd false, .lv (.bool true), .bd true, .bd true, .bd true, .cl [] (.bool true) []] [] (.bool true) []) := vc_by (zO57 (cj (sO50 t0 i hi) (cj (rf (0 : Nat)) (cj (rf (1 : Nat)) (cj (sO51 t0 i hi) (zO56 rs vs tl dn a0 t0 (zO55 (cj h2 (zO52 (zO54 (cj ha (cj hi (zO53 rs vs tl dn n (cj h3 (zO52 (zO51 (cj (sO52 t0 i hi) (zO50 rs vs tl dn a i n (cj hR (cj (df ((q : Int) < 0)) (cj (bi (q : Int) (↑((lL rs vs tl dn n).length) : Int)) (cj (congrArg (fun b => some (AV.bool b)) hd) (cj (rf true) (cj (show ((q : Int) == (q : Int)) = true from by simp) (cj (bi (q : Int) (↑((lL rs vs tl dn n).length) : Int)) (cj (show ((List.getD (lL rs vs tl dn n) q default).val == (List.getD (lL rs vs tl dn n) q default).val) = true from by simp) (cj awakeC11 (cj (rf true) trivial)))))))))))))))))))))))))))) (by kernel_rfl)
theorem ml_f (rs vs : List Int) (tl dn a0 t0 a i : Int) (n c : Nat) (q : Nat) (ha : bits .and .i64 a0 3 = a) (hi : bits .and .i64 t0 15 = i) (h0 : 0 ≤ a) (h4 : a < 4) (hn : n < 100) (hq : q < (lL rs vs tl dn n).length) (hq2 : (lL rs vs tl dn n).length < 100) (hd : ((lL rs vs tl dn n).getD q default).dn = false) (h2 : qO50 rs vs tl dn a0 t0 n) (h3 : qO51 rs vs tl dn a i n c q) (hR : PureC Try.prog 6 [.agg (pgA pM), lR [5, 6, 7, 8], enR (lL rs vs tl dn n), .int .i64 i, .int .i64 a] (.tup [.int .i64 0, .int .i64 0, .bool false]) []) : Vc (vcFn Try.prog false 3 [lR rs, .int .i64 tl, .int .i64 dn, lR vs, .int .i64 a0, .int .i64 t0] [.fv, .fv, .lp [(0, 0)] (l2S rs vs tl dn a0 t0 [] 0) (.ext 0) (l2S rs vs tl dn a0 t0 (lL rs vs tl dn n) n), .lp [(0, 0)] (l3S (lL rs vs tl dn n) a i (-1) 0) (.ext 2) (l3S (lL rs vs tl dn n) a i (q : Int) c), .fv, .cl [.agg (pgA pM), lR [5, 6, 7, 8], enR (lL rs vs tl dn n), .int .i64 i, .int .i64 a] (.tup [.int .i64 0, .int .i64 0, .bool false]) [], .bd false, .lv (.bool false), .bd true, .bd true, .cl [] (.bool true) []] [] (.bool true) []) := vc_by (zO57 (cj (sO50 t0 i hi) (cj (rf (0 : Nat)) (cj (rf (1 : Nat)) (cj (sO51 t0 i hi) (zO56 rs vs tl dn a0 t0 (zO55 (cj h2 (zO52 (zO54 (cj ha (cj hi (zO53 rs vs tl dn n (cj h3 (zO52 (zO51 (cj (sO52 t0 i hi) (zO50 rs vs tl dn a i n (cj hR (cj (df ((q : Int) < 0)) (cj (bi (q : Int) (↑((lL rs vs tl dn n).length) : Int)) (cj (congrArg (fun b => some (AV.bool b)) hd) (cj (rf true) (cj (rf true) (cj awakeC11 (cj (rf true) trivial)))))))))))))))))))))))))) (by kernel_rfl)
theorem ldL_cases (l : List En) (a : Int) (hp : ∀ j, j < l.length → (l.getD j default).pc = 0) : ∀ c, c ≤ l.length → (ldF pM l a c = none ∧ lastL l a c = -1) ∨ ∃ q, q < c ∧ lastL l a c = (q : Int) ∧ ldF pM l a c = some (if (l.getD q default).dn then ((l.getD q default).val, (q : Int), true) else (0, 0, false))
  | 0, _ => .inl ⟨rfl, rfl⟩
  | c + 1, hc => by
    have hi : (enI pM l c).kind = 3 := by
      show (atI pM (l.getD c default).pc).kind = 3
      rw [hp c (by omega)]; rfl
    unfold ldF lastL
    by_cases h : (l.getD c default).kn = true ∧ (l.getD c default).adr = a
    · rw [if_pos ⟨hi, h⟩, if_pos h]
      exact .inr ⟨c, by omega, rfl, rfl⟩
    · rw [if_neg fun e => h e.2, if_neg h]
      rcases ldL_cases l a hp c (by omega) with h1 | ⟨q, h1, h2⟩
      · exact .inl h1
      · exact .inr ⟨q, by omega, h2⟩
theorem lL_pc (rs vs : List Int) (tl dn : Int) : ∀ n, ∀ x ∈ lL rs vs tl dn n, x.pc = 0
  | 0, x, hx => by cases hx
  | n + 1, x, hx => by
    rcases List.mem_append.1 hx with h | h
    · exact lL_pc rs vs tl dn n x h
    · rw [List.mem_singleton.1 h]; rfl
theorem m58 {a : Int} (h0 : 0 ≤ a) (h1 : a < 4) : [(5 : Int), 6, 7, 8].getD a.toNat 0 = 5 + a := by
  rcases four h0 h1 with rfl | rfl | rfl | rfl <;> rfl
theorem memoLastC (rs vs : List Int) (tl dn a0 t0 : Int) : PureC Try.prog 3 [lR rs, .int .i64 tl, .int .i64 dn, lR vs, .int .i64 a0, .int .i64 t0] (.bool true) [] := by
  obtain ⟨a, ha⟩ : ∃ a, bits .and .i64 a0 3 = a := ⟨_, rfl⟩
  obtain ⟨i, hi⟩ : ∃ i, bits .and .i64 t0 15 = i := ⟨_, rfl⟩
  obtain ⟨n, hn⟩ : ∃ n, n = min rs.length 12 := ⟨_, rfl⟩
  have ha1 := Wd.bits_mask a0 2 (by omega)
  rw [show (2 : Int) ^ 2 - 1 = 3 from rfl, ha] at ha1
  have h0 : 0 ≤ a := by omega
  have h4 : a < 4 := by omega
  have hlen := lL_len rs vs tl dn n
  have h2 := l2_loop rs vs tl dn a0 t0 n hn
  have h3 := (l3_loop (lL rs vs tl dn n) a i (by omega) (cl0 i (lL rs vs tl dn n).length) 0 (by omega)).ok
  have hR := lldC pM [5, 6, 7, 8] (lL rs vs tl dn n) i a (by omega)
  have hle := cl0_le i (lL rs vs tl dn n).length
  rw [show lastL (lL rs vs tl dn n) a 0 = -1 from rfl] at h3
  rcases ldL_cases (lL rs vs tl dn n) a (fun j hj => lL_pc rs vs tl dn n _ (by rw [List.getD_eq_getElem?_getD, List.getElem?_eq_getElem hj]; exact List.getElem_mem hj)) (cl0 i (lL rs vs tl dn n).length) hle with ⟨e1, e2⟩ | ⟨q, e0, e2, e1⟩
  · have eR : ldV pM [5, 6, 7, 8] (lL rs vs tl dn n) i a = (5 + a, -1, true) := by
      unfold ldV
      rw [e1]
      dsimp only
      rw [if_pos ⟨h0, h4⟩, m58 h0 h4]
    rw [eR] at hR
    rw [e2] at h3
    exact PureC.vc (ml_none rs vs tl dn a0 t0 a i n _ ha hi h0 h4 (by omega) h2 h3 hR)
  · have eR : ldV pM [5, 6, 7, 8] (lL rs vs tl dn n) i a = (if ((lL rs vs tl dn n).getD q default).dn then (((lL rs vs tl dn n).getD q default).val, (q : Int), true) else (0, 0, false)) := by unfold ldV; rw [e1]
    rw [eR] at hR
    rw [e2] at h3
    cases hd : ((lL rs vs tl dn n).getD q default).dn with
    | true =>
      rw [hd, if_pos rfl] at hR
      exact PureC.vc (ml_t rs vs tl dn a0 t0 a i n _ q ha hi h0 h4 (by omega) (by omega) (by omega) hd h2 h3 hR)
    | false =>
      rw [hd, if_neg (by simp)] at hR
      exact PureC.vc (ml_f rs vs tl dn a0 t0 a i n _ q ha hi h0 h4 (by omega) (by omega) (by omega) hd h2 h3 hR)
theorem walk_MemoLast (A0 : Option Addr) (c0 : Nat) (z0 : List Int) (a1 a2 : Int) (A3 : Option Addr) (c3 : Nat) (z3 : List Int) (a4 a5 : Int) (W : World) (hc0 : z0.length ≤ c0) (hm0 : c0 ≤ maxLen) (hr0 : Rd W W.heap.size A0 (z0.map (Value.int .i64)))
    (hc3 : z3.length ≤ c3) (hm3 : c3 ≤ maxLen) (hr3 : Rd W W.heap.size A3 (z3.map (Value.int .i64))) : Calls Try.prog 3 #[.slice A0 z0.length c0, .int .i64 a1, .int .i64 a2, .slice A3 z3.length c3, .int .i64 a4, .int .i64 a5] W (RetB (.bool true) W) :=
  (memoLastC z0 z3 a1 a2 a4 a5).lawB (R := fun g => g < W.heap.size) (fun _ h => h) rfl (fun j x v hx hv => match j, hx, hv with
    | 0, rfl, rfl => .ofRd hr0 hc0 hm0
    | 1, rfl, rfl => .int _ _
    | 2, rfl, rfl => .int _ _
    | 3, rfl, rfl => .ofRd hr3 hc3 hm3
    | 4, rfl, rfl => .int _ _
    | 5, rfl, rfl => .int _ _)
end
end Go.Proofs.Ytdnmfgnpflhcpaa.Px
namespace Go.Proofs.Ytdnmfgnpflhcpaa.Px
section
open Go.RowKit Go.Proofs.Ytdnmfgnpflhcpaa.Rx
def pH : Pg := ⟨4, 0, 0, 0, 0, 0, 0, mM 4, [], [iS, iL]⟩
def eF (rs : List Int) (tl : Int) (k : Nat) (v : Int) : En := ⟨1, 0, bits .and .i64 (rs.getD k 0) 3, v, 0, false, (shI tl k == 1), false⟩
def frH (fs : List Int) (k : Nat) : Int := if k < fs.length then bits .and .i64 (fs.getD k 0) 7 - 1 else -1
def eH (rs fs : List Int) (tl : Int) (k : Nat) : En := eF rs tl k (frH fs k)
def lH (N : Nat) (rs fs : List Int) (tl : Int) : Nat → List En
  | 0 => List.replicate (N + 1) En0
  | k + 1 => lH N rs fs tl k ++ [eH rs fs tl k]
def cH (N : Nat) (a : Int) (e : En) : Bool := e.kn && (e.adr == a) && decide (e.frm < (N : Int))
def wH (N : Nat) (rs fs : List Int) (tl a : Int) : Nat → Int
  | 0 => -1
  | k + 1 => if wH N rs fs tl a k < 0 ∧ cH N a (eH rs fs tl k) = true then (N : Int) + 1 + k else wH N rs fs tl a k
def pHx : Blk := ⟨0, false, 34, .box (pgA pH)⟩
def hS (N : Nat) (rs fs : List Int) (tl a : Int) (l : List En) (w : Int) (k : Nat) : Sm := ⟨[(0, lR rs), (1, .int .i64 tl), (2, lR fs), (3, .int .i64 (N : Int)), (4, .int .i64 a), (11, .bptr 0 0), (12, .own 1 0 8 0 l.length), (13, .int .i64 w), (14, .int .i64 k)], [(0, pHx), (1, enB l)], 2⟩
theorem lH_len (N : Nat) (rs fs : List Int) (tl : Int) : ∀ k, (lH N rs fs tl k).length = N + 1 + k
  | 0 => List.length_replicate
  | k + 1 => by rw [lH, List.length_append, lH_len N rs fs tl k]; rfl
theorem b7 (x : Int) : 0 ≤ bits .and .i64 x 7 ∧ bits .and .i64 x 7 < 8 := by
  have := Wd.bits_mask x 3 (by omega)
  rw [show (2 : Int) ^ 3 - 1 = 7 from rfl] at this
  rw [this]
  omega
theorem sO60 (k : Nat) : (0 : Int) ≤ IntKind.wrap IntKind.u64 (k : Int) := (u_wrap_nn _)
theorem sO61 (rs : List Int) (fs : List Int) (tl : Int) (l : List En) (k : Nat) : l.length + 1 = (l ++ [eF rs tl k (Go.bits Go.BinOp.and IntKind.i64 (fs.getD k 0) (7 : Int) - 1)]).length := by rw [List.length_append]; rfl
theorem sO62 (rs : List Int) (fs : List Int) (tl : Int) (l : List En) (k : Nat) : ∀ (i : Nat), i < l.length + 1 → ∀ (j : Nat), j < 8 → (bif Nat.blt i l.length then rowL enC l i j else List.getD [aI (1 : Int), aI (0 : Int), aI (Go.bits Go.BinOp.and IntKind.i64 (rs.getD k 0) (3 : Int)), aI (Go.bits Go.BinOp.and IntKind.i64 (fs.getD k 0) (7 : Int) - 1), aI (0 : Int), AV.bool false, AV.bool (Go.bits Go.BinOp.and IntKind.i64 (Int.fdiv tl ((2 : Int) ^ Min.min (k % (18446744073709551616 : Nat)) (64 : Nat))) (1 : Int) == (1 : Int)), AV.bool false] ((i - l.length) * 8 + j) AV.junk) = rowL enC (l ++ [eF rs tl k (Go.bits Go.BinOp.and IntKind.i64 (fs.getD k 0) (7 : Int) - 1)]) i j := (fun i hi j hj => row_if (fun h => (rowL_left h).symm) (fun h => by obtain rfl : i = _ := Nat.le_antisymm (Nat.lt_succ_iff.mp hi) (Nat.not_lt.mp h); rw [rowL_last, Nat.sub_self]; match j, hj with | 0, _ => rfl | 1, _ => rfl | 2, _ => rfl | 3, _ => rfl | 4, _ => rfl | 5, _ => rfl | 6, _ => rfl | 7, _ => rfl))
theorem zO60 (N : Nat) (rs : List Int) (fs : List Int) (tl : Int) (a : Int) {Z : Prop} (z : Z) : (RF rs.length (RR rs.length 1 (fun i j => aI (rs.getD i 0)) (RF tl (RF fs.length (RR fs.length 1 (fun i j => aI (fs.getD i 0)) (RF (N : Int) (RF a (RF (0 : Nat) Z)))))))) := ⟨rfl, fun _ _ _ _ => rfl, rfl, rfl, fun _ _ _ _ => rfl, rfl, rfl, rfl, z⟩
theorem zO61  {Z : Prop} (z : Z) : (RF (0 : Nat) (RR 0 2 (fun i j => rowL lbC [] i j) (RF (2 : Nat) (RR 2 9 (fun i j => rowL inC [iS, iL] i j) Z)))) := ⟨rfl, fun _ _ _ _ => rfl, rfl, fun _ _ _ _ => rfl, z⟩
theorem zO62  {Z : Prop} (z : Z) : (RF (4 : Int) (RF (0 : Int) (RF (0 : Int) (RF (0 : Int) (RF (0 : Int) (RF (0 : Int) (RF (0 : Int) (RF (1 : Nat) (RR 1 3 (fun i j => rowL mmC [Mm.mk (ByteArray.mk (Array.mk [(109 : UInt8)])) false (4 : Nat)] i j) Z))))))))) := ⟨rfl, rfl, rfl, rfl, rfl, rfl, rfl, rfl, fun _ _ _ _ => rfl, z⟩
theorem h_iw (N : Nat) (rs fs : List Int) (tl a : Int) (l : List En) (w : Int) (k : Nat) (hk : k < rs.length) (h10 : k < 10) (hN : N < 4) (hl : l.length = N + 1 + k) (hv : k < fs.length) (hw : ¬ w < 0) : Vc (vcC Try.prog false (ntOf Try.prog 4) (lpC Try.prog 4 0) (hS N rs fs tl a l w k) [.bd true, .bd true, .b true, .b true, .b true, .fv, .bd false] .nrm [(0, 0), (1, 1)] (hS N rs fs tl a (l ++ [(eF rs tl k (bits .and .i64 (fs.getD k 0) 7 - 1))]) w (k + 1))) := vc_by (cj (dt ((k : Int) < (rs.length : Int))) (cj (dt ((k : Int) < 10)) (cj (rf true) (cj (rf true) (cj (bi (k : Int) (rs.length : Int)) (cj (sO60 k) (cj (dt ((k : Int) < (fs.length : Int))) (cj (bi (k : Int) (fs.length : Int)) (cj (show inK IntKind.i64 (Go.bits Go.BinOp.and IntKind.i64 (fs.getD k 0) (7 : Int) - 1) from by have := b7 (fs.getD k 0); exact in64 (by omega) (by omega)) (cj (ap l.length 1 48) (cj (df (w < 0)) (cj (i6 ((k : Int) + 1)) (zO62 (zO61 (cj (sO61 rs fs tl l k) (cj (sO62 rs fs tl l k) (zO60 N rs fs tl a (cj (sO61 rs fs tl l k) (cj (rf w) (cj (rf ((k : Int) + 1)) trivial)))))))))))))))))))) (by kernel_rfl)
theorem h_in (N : Nat) (rs fs : List Int) (tl a : Int) (l : List En) (w : Int) (k : Nat) (hk : k < rs.length) (h10 : k < 10) (hN : N < 4) (hl : l.length = N + 1 + k) (hv : k < fs.length) (hw : w < 0) (hn : (shI tl k == 1) = false) : Vc (vcC Try.prog false (ntOf Try.prog 4) (lpC Try.prog 4 0) (hS N rs fs tl a l w k) [.bd true, .bd true, .b true, .b true, .b true, .fv, .bd true, .lv (.bool false)] .nrm [(0, 0), (1, 1)] (hS N rs fs tl a (l ++ [(eF rs tl k (bits .and .i64 (fs.getD k 0) 7 - 1))]) w (k + 1))) := vc_by (cj (dt ((k : Int) < (rs.length : Int))) (cj (dt ((k : Int) < 10)) (cj (rf true) (cj (rf true) (cj (bi (k : Int) (rs.length : Int)) (cj (sO60 k) (cj (dt ((k : Int) < (fs.length : Int))) (cj (bi (k : Int) (fs.length : Int)) (cj (show inK IntKind.i64 (Go.bits Go.BinOp.and IntKind.i64 (fs.getD k 0) (7 : Int) - 1) from by have := b7 (fs.getD k 0); exact in64 (by omega) (by omega)) (cj (ap l.length 1 48) (cj (dt (w < 0)) (cj (congrArg (fun b => some (AV.bool b)) hn) (cj (i6 ((k : Int) + 1)) (zO62 (zO61 (cj (sO61 rs fs tl l k) (cj (sO62 rs fs tl l k) (zO60 N rs fs tl a (cj (sO61 rs fs tl l k) (cj (rf w) (cj (rf ((k : Int) + 1)) trivial))))))))))))))))))))) (by kernel_rfl)
theorem h_ia (N : Nat) (rs fs : List Int) (tl a : Int) (l : List En) (w : Int) (k : Nat) (hk : k < rs.length) (h10 : k < 10) (hN : N < 4) (hl : l.length = N + 1 + k) (hv : k < fs.length) (hw : w < 0) (hn : (shI tl k == 1) = true) (ha : ¬ bits .and .i64 (rs.getD k 0) 3 = a) : Vc (vcC Try.prog false (ntOf Try.prog 4) (lpC Try.prog 4 0) (hS N rs fs tl a l w k) [.bd true, .bd true, .b true, .b true, .b true, .fv, .bd true, .lv (.bool true), .bd false] .nrm [(0, 0), (1, 1)] (hS N rs fs tl a (l ++ [(eF rs tl k (bits .and .i64 (fs.getD k 0) 7 - 1))]) w (k + 1))) := vc_by (cj (dt ((k : Int) < (rs.length : Int))) (cj (dt ((k : Int) < 10)) (cj (rf true) (cj (rf true) (cj (bi (k : Int) (rs.length : Int)) (cj (sO60 k) (cj (dt ((k : Int) < (fs.length : Int))) (cj (bi (k : Int) (fs.length : Int)) (cj (show inK IntKind.i64 (Go.bits Go.BinOp.and IntKind.i64 (fs.getD k 0) (7 : Int) - 1) from by have := b7 (fs.getD k 0); exact in64 (by omega) (by omega)) (cj (ap l.length 1 48) (cj (dt (w < 0)) (cj (congrArg (fun b => some (AV.bool b)) hn) (cj (beq_eq_false_iff_ne.2 ha) (cj (i6 ((k : Int) + 1)) (zO62 (zO61 (cj (sO61 rs fs tl l k) (cj (sO62 rs fs tl l k) (zO60 N rs fs tl a (cj (sO61 rs fs tl l k) (cj (rf w) (cj (rf ((k : Int) + 1)) trivial)))))))))))))))))))))) (by kernel_rfl)
theorem h_if (N : Nat) (rs fs : List Int) (tl a : Int) (l : List En) (w : Int) (k : Nat) (hk : k < rs.length) (h10 : k < 10) (hN : N < 4) (hl : l.length = N + 1 + k) (hv : k < fs.length) (hw : w < 0) (hn : (shI tl k == 1) = true) (ha : bits .and .i64 (rs.getD k 0) 3 = a) (hf : ¬ (bits .and .i64 (fs.getD k 0) 7 - 1) < (N : Int)) : Vc (vcC Try.prog false (ntOf Try.prog 4) (lpC Try.prog 4 0) (hS N rs fs tl a l w k) [.bd true, .bd true, .b true, .b true, .b true, .fv, .bd true, .lv (.bool true), .bd true, .bd false] .nrm [(0, 0), (1, 1)] (hS N rs fs tl a (l ++ [(eF rs tl k (bits .and .i64 (fs.getD k 0) 7 - 1))]) w (k + 1))) := vc_by (cj (dt ((k : Int) < (rs.length : Int))) (cj (dt ((k : Int) < 10)) (cj (rf true) (cj (rf true) (cj (bi (k : Int) (rs.length : Int)) (cj (sO60 k) (cj (dt ((k : Int) < (fs.length : Int))) (cj (bi (k : Int) (fs.length : Int)) (cj (show inK IntKind.i64 (Go.bits Go.BinOp.and IntKind.i64 (fs.getD k 0) (7 : Int) - 1) from by have := b7 (fs.getD k 0); exact in64 (by omega) (by omega)) (cj (ap l.length 1 48) (cj (dt (w < 0)) (cj (congrArg (fun b => some (AV.bool b)) hn) (cj (beq_iff_eq.2 ha) (cj (decide_eq_false hf) (cj (i6 ((k : Int) + 1)) (zO62 (zO61 (cj (sO61 rs fs tl l k) (cj (sO62 rs fs tl l k) (zO60 N rs fs tl a (cj (sO61 rs fs tl l k) (cj (rf w) (cj (rf ((k : Int) + 1)) trivial))))))))))))))))))))))) (by kernel_rfl)
theorem h_iy (N : Nat) (rs fs : List Int) (tl a : Int) (l : List En) (w : Int) (k : Nat) (hk : k < rs.length) (h10 : k < 10) (hN : N < 4) (hl : l.length = N + 1 + k) (hv : k < fs.length) (hw : w < 0) (hn : (shI tl k == 1) = true) (ha : bits .and .i64 (rs.getD k 0) 3 = a) (hf : (bits .and .i64 (fs.getD k 0) 7 - 1) < (N : Int)) : Vc (vcC Try.prog false (ntOf Try.prog 4) (lpC Try.prog 4 0) (hS N rs fs tl a l w k) [.bd true, .bd true, .b true, .b true, .b true, .fv, .bd true, .lv (.bool true), .bd true, .bd true] .nrm [(0, 0), (1, 1)] (hS N rs fs tl a (l ++ [(eF rs tl k (bits .and .i64 (fs.getD k 0) 7 - 1))]) ((N : Int) + 1 + k) (k + 1))) := vc_by (cj (dt ((k : Int) < (rs.length : Int))) (cj (dt ((k : Int) < 10)) (cj (rf true) (cj (rf true) (cj (bi (k : Int) (rs.length : Int)) (cj (sO60 k) (cj (dt ((k : Int) < (fs.length : Int))) (cj (bi (k : Int) (fs.length : Int)) (cj (show inK IntKind.i64 (Go.bits Go.BinOp.and IntKind.i64 (fs.getD k 0) (7 : Int) - 1) from by have := b7 (fs.getD k 0); exact in64 (by omega) (by omega)) (cj (ap l.length 1 48) (cj (dt (w < 0)) (cj (congrArg (fun b => some (AV.bool b)) hn) (cj (beq_iff_eq.2 ha) (cj (decide_eq_true hf) (cj (i6 ((N : Int) + 1)) (cj (i6 ((N : Int) + 1 + (k : Int))) (cj (i6 ((k : Int) + 1)) (zO62 (zO61 (cj (sO61 rs fs tl l k) (cj (sO62 rs fs tl l k) (zO60 N rs fs tl a (cj (sO61 rs fs tl l k) (cj (rf ((N : Int) + 1 + (k : Int))) (cj (rf ((k : Int) + 1)) trivial))))))))))))))))))))))))) (by kernel_rfl)
theorem sO63 (rs : List Int) (tl : Int) (l : List En) (k : Nat) : l.length + 1 = (l ++ [eF rs tl k (-1 : Int)]).length := by rw [List.length_append]; rfl
theorem sO64 (rs : List Int) (tl : Int) (l : List En) (k : Nat) : ∀ (i : Nat), i < l.length + 1 → ∀ (j : Nat), j < 8 → (bif Nat.blt i l.length then rowL enC l i j else List.getD [aI (1 : Int), aI (0 : Int), aI (Go.bits Go.BinOp.and IntKind.i64 (rs.getD k 0) (3 : Int)), aI (-1 : Int), aI (0 : Int), AV.bool false, AV.bool (Go.bits Go.BinOp.and IntKind.i64 (Int.fdiv tl ((2 : Int) ^ Min.min (k % (18446744073709551616 : Nat)) (64 : Nat))) (1 : Int) == (1 : Int)), AV.bool false] ((i - l.length) * 8 + j) AV.junk) = rowL enC (l ++ [eF rs tl k (-1 : Int)]) i j := (fun i hi j hj => row_if (fun h => (rowL_left h).symm) (fun h => by obtain rfl : i = _ := Nat.le_antisymm (Nat.lt_succ_iff.mp hi) (Nat.not_lt.mp h); rw [rowL_last, Nat.sub_self]; match j, hj with | 0, _ => rfl | 1, _ => rfl | 2, _ => rfl | 3, _ => rfl | 4, _ => rfl | 5, _ => rfl | 6, _ => rfl | 7, _ => rfl))
theorem h_ow (N : Nat) (rs fs : List Int) (tl a : Int) (l : List En) (w : Int) (k : Nat) (hk : k < rs.length) (h10 : k < 10) (hN : N < 4) (hl : l.length = N + 1 + k) (hv : ¬ k < fs.length) (hw : ¬ w < 0) : Vc (vcC Try.prog false (ntOf Try.prog 4) (lpC Try.prog 4 0) (hS N rs fs tl a l w k) [.bd true, .bd true, .b true, .b true, .b false, .fv, .bd false] .nrm [(0, 0), (1, 1)] (hS N rs fs tl a (l ++ [(eF rs tl k (-1))]) w (k + 1))) := vc_by (cj (dt ((k : Int) < (rs.length : Int))) (cj (dt ((k : Int) < 10)) (cj (rf true) (cj (rf true) (cj (bi (k : Int) (rs.length : Int)) (cj (sO60 k) (cj (df ((k : Int) < (fs.length : Int))) (cj (ap l.length 1 48) (cj (df (w < 0)) (cj (i6 ((k : Int) + 1)) (zO62 (zO61 (cj (sO63 rs tl l k) (cj (sO64 rs tl l k) (zO60 N rs fs tl a (cj (sO63 rs tl l k) (cj (rf w) (cj (rf ((k : Int) + 1)) trivial)))))))))))))))))) (by kernel_rfl)
theorem h_on (N : Nat) (rs fs : List Int) (tl a : Int) (l : List En) (w : Int) (k : Nat) (hk : k < rs.length) (h10 : k < 10) (hN : N < 4) (hl : l.length = N + 1 + k) (hv : ¬ k < fs.length) (hw : w < 0) (hn : (shI tl k == 1) = false) : Vc (vcC Try.prog false (ntOf Try.prog 4) (lpC Try.prog 4 0) (hS N rs fs tl a l w k) [.bd true, .bd true, .b true, .b true, .b false, .fv, .bd true, .lv (.bool false)] .nrm [(0, 0), (1, 1)] (hS N rs fs tl a (l ++ [(eF rs tl k (-1))]) w (k + 1))) := vc_by (cj (dt ((k : Int) < (rs.length : Int))) (cj (dt ((k : Int) < 10)) (cj (rf true) (cj (rf true) (cj (bi (k : Int) (rs.length : Int)) (cj (sO60 k) (cj (df ((k : Int) < (fs.length : Int))) (cj (ap l.length 1 48) (cj (dt (w < 0)) (cj (congrArg (fun b => some (AV.bool b)) hn) (cj (i6 ((k : Int) + 1)) (zO62 (zO61 (cj (sO63 rs tl l k) (cj (sO64 rs tl l k) (zO60 N rs fs tl a (cj (sO63 rs tl l k) (cj (rf w) (cj (rf ((k : Int) + 1)) trivial))))))))))))))))))) (by kernel_rfl)
theorem h_oa (N : Nat) (rs fs : List Int) (tl a : Int) (l : List En) (w : Int) (k : Nat) (hk : k < rs.length) (h10 : k < 10) (hN : N < 4) (hl : l.length = N + 1 + k) (hv : ¬ k < fs.length) (hw : w < 0) (hn : (shI tl k == 1) = true) (ha : ¬ bits .and .i64 (rs.getD k 0) 3 = a) : Vc (vcC Try.prog false (ntOf Try.prog 4) (lpC Try.prog 4 0) (hS N rs fs tl a l w k) [.bd true, .bd true, .b true, .b true, .b false, .fv, .bd true, .lv (.bool true), .bd false] .nrm [(0, 0), (1, 1)] (hS N rs fs tl a (l ++ [(eF rs tl k (-1))]) w (k + 1))) := vc_by (cj (dt ((k : Int) < (rs.length : Int))) (cj (dt ((k : Int) < 10)) (cj (rf true) (cj (rf true) (cj (bi (k : Int) (rs.length : Int)) (cj (sO60 k) (cj (df ((k : Int) < (fs.length : Int))) (cj (ap l.length 1 48) (cj (dt (w < 0)) (cj (congrArg (fun b => some (AV.bool b)) hn) (cj (beq_eq_false_iff_ne.2 ha) (cj (i6 ((k : Int) + 1)) (zO62 (zO61 (cj (sO63 rs tl l k) (cj (sO64 rs tl l k) (zO60 N rs fs tl a (cj (sO63 rs tl l k) (cj (rf w) (cj (rf ((k : Int) + 1)) trivial)))))))))))))))))))) (by kernel_rfl)
theorem h_oy (N : Nat) (rs fs : List Int) (tl a : Int) (l : List En) (w : Int) (k : Nat) (hk : k < rs.length) (h10 : k < 10) (hN : N < 4) (hl : l.length = N + 1 + k) (hv : ¬ k < fs.length) (hw : w < 0) (hn : (shI tl k == 1) = true) (ha : bits .and .i64 (rs.getD k 0) 3 = a) (hf : (-1) < (N : Int)) : Vc (vcC Try.prog false (ntOf Try.prog 4) (lpC Try.prog 4 0) (hS N rs fs tl a l w k) [.bd true, .bd true, .b true, .b true, .b false, .fv, .bd true, .lv (.bool true), .bd true, .bd true] .nrm [(0, 0), (1, 1)] (hS N rs fs tl a (l ++ [(eF rs tl k (-1))]) ((N : Int) + 1 + k) (k + 1))) := vc_by (cj (dt ((k : Int) < (rs.length : Int))) (cj (dt ((k : Int) < 10)) (cj (rf true) (cj (rf true) (cj (bi (k : Int) (rs.length : Int)) (cj (sO60 k) (cj (df ((k : Int) < (fs.length : Int))) (cj (ap l.length 1 48) (cj (dt (w < 0)) (cj (congrArg (fun b => some (AV.bool b)) hn) (cj (beq_iff_eq.2 ha) (cj (dt ((-1 : Int) < (N : Int))) (cj (i6 ((N : Int) + 1)) (cj (i6 ((N : Int) + 1 + (k : Int))) (cj (i6 ((k : Int) + 1)) (zO62 (zO61 (cj (sO63 rs tl l k) (cj (sO64 rs tl l k) (zO60 N rs fs tl a (cj (sO63 rs tl l k) (cj (rf ((N : Int) + 1 + (k : Int))) (cj (rf ((k : Int) + 1)) trivial))))))))))))))))))))))) (by kernel_rfl)
theorem zO63 (N : Nat) (fs : List Int) (a : Int) (l : List En) (w : Int) (k : Nat) {Z : Prop} (z : Z) : (RF fs.length (RR fs.length 1 (fun i j => aI (fs.getD i 0)) (RF (N : Int) (RF a (RF (0 : Nat) (RF l.length (RF w (RF (k : Int) Z)))))))) := ⟨rfl, fun _ _ _ _ => rfl, rfl, rfl, rfl, rfl, rfl, rfl, z⟩
theorem zO64 (rs : List Int) (tl : Int) (l : List En) {Z : Prop} (z : Z) : (RF (0 : Nat) (RR 0 2 (fun i j => rowL lbC [] i j) (RF (2 : Nat) (RR 2 9 (fun i j => rowL inC [iS, iL] i j) (RF l.length (RR l.length 8 (fun i j => rowL enC l i j) (RF rs.length (RR rs.length 1 (fun i j => aI (rs.getD i 0)) (RF tl Z))))))))) := ⟨rfl, fun _ _ _ _ => rfl, rfl, fun _ _ _ _ => rfl, rfl, fun _ _ _ _ => rfl, rfl, fun _ _ _ _ => rfl, rfl, z⟩
theorem h_end (N : Nat) (rs fs : List Int) (tl a : Int) (l : List En) (w : Int) (k : Nat) (hk : ¬ k < rs.length) : Vc (vcC Try.prog false (ntOf Try.prog 4) (lpC Try.prog 4 0) (hS N rs fs tl a l w k) [.bd false] (.ext 0) [(0, 0), (1, 1)] (hS N rs fs tl a l w k)) := vc_by (cj (df ((k : Int) < (rs.length : Int))) (zO62 (zO64 rs tl l (zO63 N fs a l w k trivial)))) (by kernel_rfl)
theorem h_end10 (N : Nat) (rs fs : List Int) (tl a : Int) (l : List En) (w : Int) (k : Nat) (hk : k < rs.length) (h10 : ¬ k < 10) : Vc (vcC Try.prog false (ntOf Try.prog 4) (lpC Try.prog 4 0) (hS N rs fs tl a l w k) [.bd true, .bd false] (.ext 0) [(0, 0), (1, 1)] (hS N rs fs tl a l w k)) := vc_by (cj (dt ((k : Int) < (rs.length : Int))) (cj (df ((k : Int) < 10)) (zO62 (zO64 rs tl l (zO63 N fs a l w k trivial))))) (by kernel_rfl)
end
end Go.Proofs.Ytdnmfgnpflhcpaa.Px
namespace Go.Proofs.Ytdnmfgnpflhcpaa.Px
section
open Go.RowKit Go.Proofs.Ytdnmfgnpflhcpaa.Rx
theorem rep_row (N i j : Nat) (hi : i < N) : rowL enC (List.replicate N En0) i j = enC En0 j := by
  unfold rowL
  rw [List.getD_eq_getElem?_getD, List.getElem?_replicate, if_pos hi]; rfl
theorem sO70  : ∀ (i : Nat), i < 1 → ∀ (j : Nat), j < 3 → List.getD [AV.str (ByteArray.mk (Array.mk [(109 : UInt8)])), AV.bool false, aI (4 : Int)] (i * 3 + j) AV.junk = rowL mmC [Mm.mk (ByteArray.mk (Array.mk [(109 : UInt8)])) false (4 : Nat)] i j := (fun i hi j hj => match i, hi, j, hj with | 0, _, 0, _ => rfl | 0, _, 1, _ => rfl | 0, _, 2, _ => rfl)
theorem sO71  : ∀ (i : Nat), i < 2 → ∀ (j : Nat), j < 9 → List.getD [aI (3 : Int), aI (0 : Int), aI (0 : Int), AV.bool false, aI (0 : Int), AV.bool false, aI (0 : Int), AV.str (ByteArray.mk (Array.mk [])), aI (0 : Int), aI (2 : Int), aI (0 : Int), aI (0 : Int), AV.bool false, aI (0 : Int), AV.bool false, aI (0 : Int), AV.str (ByteArray.mk (Array.mk [])), aI (0 : Int)] (i * 9 + j) AV.junk = rowL inC [iS, iL] i j := (fun i hi j hj => match i, hi, j, hj with | 0, _, 0, _ => rfl | 0, _, 1, _ => rfl | 0, _, 2, _ => rfl | 0, _, 3, _ => rfl | 0, _, 4, _ => rfl | 0, _, 5, _ => rfl | 0, _, 6, _ => rfl | 0, _, 7, _ => rfl | 0, _, 8, _ => rfl | 1, _, 0, _ => rfl | 1, _, 1, _ => rfl | 1, _, 2, _ => rfl | 1, _, 3, _ => rfl | 1, _, 4, _ => rfl | 1, _, 5, _ => rfl | 1, _, 6, _ => rfl | 1, _, 7, _ => rfl | 1, _, 8, _ => rfl)
theorem zO70 (N : Nat) (rs : List Int) (fs : List Int) (tl : Int) (a : Int) (n : Nat) {Z : Prop} (z : Z) : (RF (0 : Nat) (RR 0 2 (fun i j => rowL lbC [] i j) (RF (2 : Nat) (RR 2 9 (fun i j => rowL inC [iS, iL] i j) (RF ((lH N rs fs tl n).length) (RR ((lH N rs fs tl n).length) 8 (fun i j => rowL enC (lH N rs fs tl n) i j) (RF (N : Int) (RF a Z)))))))) := ⟨rfl, fun _ _ _ _ => rfl, rfl, fun _ _ _ _ => rfl, rfl, fun _ _ _ _ => rfl, rfl, rfl, z⟩
theorem zO71  {Z : Prop} (z : Z) : (RF (4 : Int) (RF (0 : Int) (RF (0 : Int) (RF (0 : Int) (RF (0 : Int) (RF (0 : Int) (RF (0 : Int) (RF (1 : Nat) (RR 1 3 (fun i j => rowL mmC [Mm.mk (ByteArray.mk (Array.mk [(109 : UInt8)])) false (4 : Nat)] i j) Z))))))))) := ⟨rfl, rfl, rfl, rfl, rfl, rfl, rfl, rfl, fun _ _ _ _ => rfl, z⟩
theorem zO72 (rs : List Int) (fs : List Int) (tl : Int) {Z : Prop} (z : Z) : (RF rs.length (RR rs.length 1 (fun i j => aI (rs.getD i 0)) (RF tl (RF fs.length (RR fs.length 1 (fun i j => aI (fs.getD i 0)) Z))))) := ⟨rfl, fun _ _ _ _ => rfl, rfl, rfl, fun _ _ _ _ => rfl, z⟩
theorem zO73  {Z : Prop} (z : Z) : (RF (4 : Int) (RF (0 : Int) (RF (0 : Int) (RF (0 : Int) (RF (0 : Int) (RF (0 : Int) (RF (0 : Int) (RF (1 : Nat) Z)))))))) := ⟨rfl, rfl, rfl, rfl, rfl, rfl, rfl, rfl, z⟩
theorem mh_n (N : Nat) (rs fs : List Int) (l0 : List En) (tl n0 a0 a : Int) (n : Nat) (e0 : l0 = List.replicate (N + 1) En0) (hN : bits .and .i64 n0 3 = (N : Int)) (ha : bits .and .i64 a0 3 = a) (h4 : N < 4) (h2 : Ok Try.prog (ntOf Try.prog 4) (.loop (lpC Try.prog 4 0)) (hS N rs fs tl a l0 (-1) 0).st (.ext 0) (hS N rs fs tl a (lH N rs fs tl n) (-1) n).st) (hR : PureC Try.prog 8 [.agg (pgA pH), enR (lH N rs fs tl n), .int .i64 (N : Int), .int .i64 a] (.tup [.int .i64 0, .bool false]) []) : Vc (vcFn Try.prog false 4 [lR rs, .int .i64 tl, lR fs, .int .i64 n0, .int .i64 a0] [.fv, .fv, .lp [(0, 0), (1, 1)] (hS N rs fs tl a l0 (-1) 0) (.ext 0) (hS N rs fs tl a (lH N rs fs tl n) (-1) n), .cl [.agg (pgA pH), enR (lH N rs fs tl n), .int .i64 (N : Int), .int .i64 a] (.tup [.int .i64 0, .bool false]) [], .bd false, .bd true, .bd true, .cl [] (.bool true) []] [] (.bool true) []) := vc_by (cj (i6 (Go.bits Go.BinOp.and IntKind.i64 n0 (3 : Int) + 1)) (cj (pv ((0 : Int) ≤ Go.bits Go.BinOp.and IntKind.i64 n0 (3 : Int) + 1 ∧ Go.bits Go.BinOp.and IntKind.i64 n0 (3 : Int) + 1 ≤ Go.bits Go.BinOp.and IntKind.i64 n0 (3 : Int) + 1 ∧ (Go.bits Go.BinOp.and IntKind.i64 n0 (3 : Int) + 1) * ((48 : Nat) : Int) ≤ 140737488355328 ∧ Go.bits Go.BinOp.and IntKind.i64 n0 (3 : Int) + 1 ≤ 140737488355328)) (zO73 (cj (sO70 ) (cj (rf (0 : Nat)) (cj (rf (2 : Nat)) (cj (sO71 ) (cj (show Int.toNat (Go.bits Go.BinOp.and IntKind.i64 n0 (3 : Int) + 1) = l0.length from by rw [hN, e0, List.length_replicate]; omega) (cj (show ∀ (i : Nat), i < Int.toNat (Go.bits Go.BinOp.and IntKind.i64 n0 (3 : Int) + 1) → ∀ (j : Nat), j < 8 → List.getD [aI (0 : Int), aI (0 : Int), aI (0 : Int), aI (0 : Int), aI (0 : Int), AV.bool false, AV.bool false, AV.bool false] j AV.junk = rowL enC l0 i j from (fun i hi j hj => by rw [e0, rep_row _ _ _ (by rw [hN] at hi; omega)]; rfl)) (zO72 rs fs tl (cj (pv (Go.bits Go.BinOp.and IntKind.i64 n0 (3 : Int) = (N : Int))) (cj ha (cj (rf (0 : Nat)) (cj (show Int.toNat (Go.bits Go.BinOp.and IntKind.i64 n0 (3 : Int) + 1) = l0.length from by rw [hN, e0, List.length_replicate]; omega) (cj (rf (-1 : Int)) (cj (rf (0 : Int)) (cj h2 (zO71 (zO70 N rs fs tl a n (cj hR (cj (df ((-1 : Int) ≥ 0)) (cj (rf true) (cj (rf true) (cj awakeC11 (cj (rf true) trivial))))))))))))))))))))))))) (by kernel_rfl)
theorem mh_y (N : Nat) (rs fs : List Int) (l0 : List En) (tl n0 a0 a : Int) (n : Nat) (w : Int) (e0 : l0 = List.replicate (N + 1) En0) (hN : bits .and .i64 n0 3 = (N : Int)) (ha : bits .and .i64 a0 3 = a) (h4 : N < 4) (hw : 0 ≤ w) (h2 : Ok Try.prog (ntOf Try.prog 4) (.loop (lpC Try.prog 4 0)) (hS N rs fs tl a l0 (-1) 0).st (.ext 0) (hS N rs fs tl a (lH N rs fs tl n) w n).st) (hR : PureC Try.prog 8 [.agg (pgA pH), enR (lH N rs fs tl n), .int .i64 (N : Int), .int .i64 a] (.tup [.int .i64 w, .bool true]) []) : Vc (vcFn Try.prog false 4 [lR rs, .int .i64 tl, lR fs, .int .i64 n0, .int .i64 a0] [.fv, .fv, .lp [(0, 0), (1, 1)] (hS N rs fs tl a l0 (-1) 0) (.ext 0) (hS N rs fs tl a (lH N rs fs tl n) w n), .cl [.agg (pgA pH), enR (lH N rs fs tl n), .int .i64 (N : Int), .int .i64 a] (.tup [.int .i64 w, .bool true]) [], .bd true, .bd true, .bd true, .cl [] (.bool true) []] [] (.bool true) []) := vc_by (cj (i6 (Go.bits Go.BinOp.and IntKind.i64 n0 (3 : Int) + 1)) (cj (pv ((0 : Int) ≤ Go.bits Go.BinOp.and IntKind.i64 n0 (3 : Int) + 1 ∧ Go.bits Go.BinOp.and IntKind.i64 n0 (3 : Int) + 1 ≤ Go.bits Go.BinOp.and IntKind.i64 n0 (3 : Int) + 1 ∧ (Go.bits Go.BinOp.and IntKind.i64 n0 (3 : Int) + 1) * ((48 : Nat) : Int) ≤ 140737488355328 ∧ Go.bits Go.BinOp.and IntKind.i64 n0 (3 : Int) + 1 ≤ 140737488355328)) (zO73 (cj (sO70 ) (cj (rf (0 : Nat)) (cj (rf (2 : Nat)) (cj (sO71 ) (cj (show Int.toNat (Go.bits Go.BinOp.and IntKind.i64 n0 (3 : Int) + 1) = l0.length from by rw [hN, e0, List.length_replicate]; omega) (cj (show ∀ (i : Nat), i < Int.toNat (Go.bits Go.BinOp.and IntKind.i64 n0 (3 : Int) + 1) → ∀ (j : Nat), j < 8 → List.getD [aI (0 : Int), aI (0 : Int), aI (0 : Int), aI (0 : Int), aI (0 : Int), AV.bool false, AV.bool false, AV.bool false] j AV.junk = rowL enC l0 i j from (fun i hi j hj => by rw [e0, rep_row _ _ _ (by rw [hN] at hi; omega)]; rfl)) (zO72 rs fs tl (cj (pv (Go.bits Go.BinOp.and IntKind.i64 n0 (3 : Int) = (N : Int))) (cj ha (cj (rf (0 : Nat)) (cj (show Int.toNat (Go.bits Go.BinOp.and IntKind.i64 n0 (3 : Int) + 1) = l0.length from by rw [hN, e0, List.length_replicate]; omega) (cj (rf (-1 : Int)) (cj (rf (0 : Int)) (cj h2 (zO71 (zO70 N rs fs tl a n (cj hR (cj (dt (w ≥ 0)) (cj (rf true) (cj (show (w == w) = true from by simp) (cj awakeC11 (cj (rf true) trivial))))))))))))))))))))))))) (by kernel_rfl)
theorem lH_get (N : Nat) (rs fs : List Int) (tl : Int) (k : Nat) : ∀ n, k < n → (lH N rs fs tl n).getD (N + 1 + k) default = eH rs fs tl k
  | 0, h => by omega
  | n + 1, h => by
    have hl := lH_len N rs fs tl n
    rw [lH, List.getD_eq_getElem?_getD]
    by_cases e : k < n
    · rw [List.getElem?_append_left (by omega), ← List.getD_eq_getElem?_getD]
      exact lH_get N rs fs tl k n e
    · obtain rfl : k = n := by omega
      rw [List.getElem?_append_right (by omega), hl, Nat.sub_self]
      rfl
theorem wH_stay (N : Nat) (rs fs : List Int) (tl a : Int) (k : Nat) (h : 0 ≤ wH N rs fs tl a k) : ∀ j, wH N rs fs tl a (k + j) = wH N rs fs tl a k
  | 0 => rfl
  | j + 1 => by
    have ih := wH_stay N rs fs tl a k h j
    rw [show wH N rs fs tl a (k + (j + 1)) = if wH N rs fs tl a (k + j) < 0 ∧ cH N a (eH rs fs tl (k + j)) = true then (N : Int) + 1 + ((k + j : Nat) : Int) else wH N rs fs tl a (k + j) from rfl, if_neg fun e => by rw [ih] at e; omega, ih]
theorem hzB_H (N : Nat) (rs fs : List Int) (tl a : Int) (n k : Nat) (h : k < n) : hzB pH (lH N rs fs tl n) (N : Int) a (N + 1 + k) ↔ cH N a (eH rs fs tl k) = true := by
  have e : enI pH (lH N rs fs tl n) (N + 1 + k) = iL := by
    show atI pH ((lH N rs fs tl n).getD (N + 1 + k) default).pc = iL
    rw [lH_get N rs fs tl k n h]; rfl
  unfold hzB cH
  rw [e, lH_get N rs fs tl k n h, Bool.and_eq_true, Bool.and_eq_true, beq_iff_eq, decide_eq_true_iff, and_assoc]
  exact ⟨fun h => h.2, fun h => ⟨rfl, h⟩⟩
theorem hz_w (N : Nat) (rs fs : List Int) (tl a : Int) (n : Nat) : ∀ j k, k + j = n → wH N rs fs tl a k = -1 → (hzG pH (lH N rs fs tl n) N a (N + 1 + k) j = none ∧ wH N rs fs tl a n = -1) ∨ ∃ q : Nat, hzG pH (lH N rs fs tl n) N a (N + 1 + k) j = some q ∧ wH N rs fs tl a n = (q : Int)
  | 0, k, hk, hw => by
    obtain rfl : k = n := by omega
    exact .inl ⟨rfl, hw⟩
  | j + 1, k, hk, hw => by
    have hB := hzB_H N rs fs tl a n k (by omega)
    have e := show wH N rs fs tl a (k + 1) = if wH N rs fs tl a k < 0 ∧ cH N a (eH rs fs tl k) = true then (N : Int) + 1 + k else wH N rs fs tl a k from rfl
    unfold hzG
    by_cases hc : cH N a (eH rs fs tl k) = true
    · rw [if_pos ⟨by omega, hc⟩] at e
      have := wH_stay N rs fs tl a (k + 1) (by omega) j
      rw [show k + 1 + j = n by omega, e] at this
      exact .inr ⟨N + 1 + k, if_pos (hB.2 hc), by rw [this]; omega⟩
    · rw [if_neg fun x => hc x.2] at e
      rw [if_neg fun x => hc (hB.1 x)]
      exact hz_w N rs fs tl a n j (k + 1) (by omega) (by omega)
theorem h_loop (N : Nat) (rs fs : List Int) (tl a : Int) (n : Nat) (hn : n = min rs.length 10) (hN : N < 4) : Ok Try.prog (ntOf Try.prog 4) (.loop (lpC Try.prog 4 0)) (hS N rs fs tl a (lH N rs fs tl 0) (-1) 0).st (.ext 0) (hS N rs fs tl a (lH N rs fs tl n) (wH N rs fs tl a n) n).st := by
  refine Ok.loop (P := Try.prog) (nt := ntOf Try.prog 4) (c := lpC Try.prog 4 0) (F := fun k => hS N rs fs tl a (lH N rs fs tl k) (wH N rs fs tl a k) k) (m := n) (x := .ext 0) (J := hS N rs fs tl a (lH N rs fs tl n) (wH N rs fs tl a n) n) (fun k hk => ?_) ?_ (by simp)
  · have hl := lH_len N rs fs tl k
    show Ok _ _ _ _ _ (hS N rs fs tl a (lH N rs fs tl k ++ [eF rs tl k (frH fs k)]) (if wH N rs fs tl a k < 0 ∧ cH N a (eF rs tl k (frH fs k)) = true then (N : Int) + 1 + k else wH N rs fs tl a k) (k + 1)).st
    generalize wH N rs fs tl a k = w
    generalize lH N rs fs tl k = l at hl ⊢
    unfold frH
    by_cases hv : k < fs.length
    · rw [if_pos hv]
      by_cases hw : w < 0
      · cases hn : (shI tl k == 1) with
        | false => rw [if_neg fun e => by rw [show cH N a (eF rs tl k (bits .and .i64 (fs.getD k 0) 7 - 1)) = (((shI tl k == 1) && _) && _) from rfl, hn] at e; exact absurd e.2 (by simp)]; exact Ok.vc (h_in N rs fs tl a l w k (by omega) (by omega) hN hl hv hw hn)
        | true =>
          by_cases ha : bits .and .i64 (rs.getD k 0) 3 = a
          · by_cases hf : bits .and .i64 (fs.getD k 0) 7 - 1 < (N : Int)
            · rw [if_pos ⟨hw, (show (((shI tl k == 1) && (bits .and .i64 (rs.getD k 0) 3 == a)) && decide (bits .and .i64 (fs.getD k 0) 7 - 1 < (N : Int))) = true by rw [hn, beq_iff_eq.2 ha, decide_eq_true hf]; rfl)⟩]
              exact Ok.vc (h_iy N rs fs tl a l w k (by omega) (by omega) hN hl hv hw hn ha hf)
            · rw [if_neg fun e => by rw [show cH N a (eF rs tl k (bits .and .i64 (fs.getD k 0) 7 - 1)) = (_ && decide (bits .and .i64 (fs.getD k 0) 7 - 1 < (N : Int))) from rfl, decide_eq_false hf, Bool.and_false] at e; exact absurd e.2 (by simp)]
              exact Ok.vc (h_if N rs fs tl a l w k (by omega) (by omega) hN hl hv hw hn ha hf)
          · rw [if_neg fun e => by rw [show cH N a (eF rs tl k (bits .and .i64 (fs.getD k 0) 7 - 1)) = ((_ && (bits .and .i64 (rs.getD k 0) 3 == a)) && _) from rfl, beq_eq_false_iff_ne.2 ha, Bool.and_false] at e; exact absurd e.2 (by simp)]
            exact Ok.vc (h_ia N rs fs tl a l w k (by omega) (by omega) hN hl hv hw hn ha)
      · rw [if_neg fun e => hw e.1]
        exact Ok.vc (h_iw N rs fs tl a l w k (by omega) (by omega) hN hl hv hw)
    · rw [if_neg hv]
      by_cases hw : w < 0
      · cases hn : (shI tl k == 1) with
        | false => rw [if_neg fun e => by rw [show cH N a (eF rs tl k (-1)) = (((shI tl k == 1) && _) && _) from rfl, hn] at e; exact absurd e.2 (by simp)]; exact Ok.vc (h_on N rs fs tl a l w k (by omega) (by omega) hN hl hv hw hn)
        | true =>
          by_cases ha : bits .and .i64 (rs.getD k 0) 3 = a
          · have hf : (-1 : Int) < (N : Int) := by omega
            rw [if_pos ⟨hw, (show (((shI tl k == 1) && (bits .and .i64 (rs.getD k 0) 3 == a)) && decide ((-1 : Int) < (N : Int))) = true by rw [hn, beq_iff_eq.2 ha, decide_eq_true hf]; rfl)⟩]
            exact Ok.vc (h_oy N rs fs tl a l w k (by omega) (by omega) hN hl hv hw hn ha hf)
          · rw [if_neg fun e => by rw [show cH N a (eF rs tl k (-1)) = ((_ && (bits .and .i64 (rs.getD k 0) 3 == a)) && _) from rfl, beq_eq_false_iff_ne.2 ha, Bool.and_false] at e; exact absurd e.2 (by simp)]
            exact Ok.vc (h_oa N rs fs tl a l w k (by omega) (by omega) hN hl hv hw hn ha)
      · rw [if_neg fun e => hw e.1]
        exact Ok.vc (h_ow N rs fs tl a l w k (by omega) (by omega) hN hl hv hw)
  · by_cases h : n < rs.length
    · exact Ok.vc (h_end10 N rs fs tl a _ _ n h (by omega))
    · exact Ok.vc (h_end N rs fs tl a _ _ n h)
theorem memoHazardsC (rs fs : List Int) (tl n0 a0 : Int) : PureC Try.prog 4 [lR rs, .int .i64 tl, lR fs, .int .i64 n0, .int .i64 a0] (.bool true) [] := by
  obtain ⟨a, ha⟩ : ∃ a, bits .and .i64 a0 3 = a := ⟨_, rfl⟩
  have h1 := Wd.bits_mask n0 2 (by omega)
  rw [show (2 : Int) ^ 2 - 1 = 3 from rfl] at h1
  obtain ⟨N, hN⟩ : ∃ N : Nat, bits .and .i64 n0 3 = N := ⟨(bits .and .i64 n0 3).toNat, by omega⟩
  obtain ⟨n, hn⟩ : ∃ n, n = min rs.length 10 := ⟨_, rfl⟩
  have h2 := h_loop N rs fs tl a n hn (by omega)
  have hlen := lH_len N rs fs tl n
  have hR := lhzC pH (lH N rs fs tl n) N a (by omega)
  have hz : hz0 (N : Int) (lH N rs fs tl n).length = N + 1 := by unfold hz0; omega
  unfold hzV at hR
  rw [hz, hlen, show N + 1 + n - (N + 1) = n by omega] at hR
  rcases hz_w N rs fs tl a n n 0 (by omega) rfl with ⟨e1, e2⟩ | ⟨q, e1, e2⟩
  · rw [Nat.add_zero] at e1
    rw [e1] at hR
    rw [e2] at h2
    exact PureC.vc (mh_n N rs fs _ tl n0 a0 a n rfl hN ha (by omega) h2 hR)
  · rw [Nat.add_zero] at e1
    rw [e1] at hR
    rw [e2] at h2
    exact PureC.vc (mh_y N rs fs _ tl n0 a0 a n q rfl hN ha (by omega) (by omega) h2 hR)
theorem walk_MemoHazards (A0 : Option Addr) (c0 : Nat) (z0 : List Int) (a1 : Int) (A2 : Option Addr) (c2 : Nat) (z2 : List Int) (a3 a4 : Int) (W : World) (hc0 : z0.length ≤ c0) (hm0 : c0 ≤ maxLen) (hr0 : Rd W W.heap.size A0 (z0.map (Value.int .i64)))
    (hc2 : z2.length ≤ c2) (hm2 : c2 ≤ maxLen) (hr2 : Rd W W.heap.size A2 (z2.map (Value.int .i64))) : Calls Try.prog 4 #[.slice A0 z0.length c0, .int .i64 a1, .slice A2 z2.length c2, .int .i64 a3, .int .i64 a4] W (RetB (.bool true) W) :=
  (memoHazardsC z0 z2 a1 a3 a4).lawB (R := fun g => g < W.heap.size) (fun _ h => h) rfl (fun j x v hx hv => match j, hx, hv with
    | 0, rfl, rfl => .ofRd hr0 hc0 hm0
    | 1, rfl, rfl => .int _ _
    | 2, rfl, rfl => .ofRd hr2 hc2 hm2
    | 3, rfl, rfl => .int _ _
    | 4, rfl, rfl => .int _ _)
end
end Go.Proofs.Ytdnmfgnpflhcpaa.Px
