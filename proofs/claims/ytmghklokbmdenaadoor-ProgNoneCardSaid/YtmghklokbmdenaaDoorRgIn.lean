/- A region within a round of a range over a function, by its plain walk; the law of such a loop over an iterator that keeps a cell of its own. -/
import Derived.RangeFuncNested
import Derived.RangeFuncLeaves
import Derived.OwnWalkIn
import Derived.TacticsInMore
import Derived.Deep.RegionHeld3
import Derived.Test.YtmghklokbmdenaaDoorMgMem
set_option linter.unusedVariables false
set_option linter.unusedSimpArgs false
namespace Go.Proofs.YtmghklokbmdenaaDoor
open Go.RowKit
section
variable {P : Program} {ops : Array Oper} {Q : Exit → Act → World → Prop} {r n : Nat}
theorem upon_in {o : Oper} {a : Act} {K K' : Act → World → Prop} (hK : ∀ a w, K a w → K' a w) (res : Result Next) (h : o.upon P a K Q res) : o.uponIn (Fence.wide.inRound r) n P a K' Q res := by
  cases res with
  | ok x w' =>
    cases x <;> simp only [Oper.upon, Oper.uponIn] at h ⊢
    case value => exact hK _ _ h
    case skip => exact hK _ _ h
    case defer => exact hK _ _ h
    case enter f args => exact ⟨by simp [Fence.wide, Fence.inRound], CallsIn.inRound r (callsIn_wide.2 (h.mono fun e w'' he => by cases e <;> first | exact hK _ _ he | exact he))⟩
    case row row args => exact ⟨by simp [Fence.wide, Fence.inRound], fun c cs _ => let ⟨v, w'', q, s⟩ := h c cs; ⟨v, w'', hK _ _ q, stepsIn_wide.2 s⟩⟩
    all_goals exact h
  | halt x w' => cases x <;> simp only [Oper.upon, Oper.uponIn] at h ⊢ <;> exact h
/-- no operation is a defer -/
def noDefer (ops : Array Oper) : Bool := ops.toList.all fun o => match o.op with | .defer _ => false | _ => true
theorem noDefer_op {i : Nat} {o : Oper} (h : noDefer ops = true) (ho : ops[i]? = some o) : ∀ c, o.op ≠ .defer c := fun c e => by
  unfold noDefer at h
  rw [List.all_eq_true] at h
  have := h o (by have := Array.mem_of_getElem? ho; simpa using this)
  rw [e] at this
  simp at this
theorem wpOpsIn_of (hL : ¬ LetsOut Q) (hd : noDefer ops = true) : ∀ (l : List Nat) (a : Act) (w : World), wpOps P ops Q l a w → wpOpsIn (Fence.wide.inRound r) n P ops Q l a w
  | [], a, w, h => h
  | i :: l, a, w, h => by
    unfold wpOps at h
    unfold wpOpsIn
    cases ho : ops[i]? with
    | none => rw [ho] at h; exact wpOpsIn_of hL hd l a w h
    | some o =>
      rw [ho] at h
      simp only at h ⊢
      split
      · rename_i hw
        rw [if_pos hw] at h
        rcases h with h | h
        · refine ⟨fun f _ => trivial, ?_⟩
          rw [show Oper.semAt (Fence.wide.inRound r).round a.eval o = execOp a.eval o from Oper.semAt_eq _ _ _ (noDefer_op hd ho)]
          exact upon_in (fun a w => wpOpsIn_of hL hd l a w) _ h
        · exact absurd h.2 hL
      · rename_i hw
        rw [if_neg hw] at h
        exact ⟨fun f _ => trivial, wpOpsIn_of hL hd l _ w h⟩
/-- a region in the text's order -/
theorem wpIn_plain {id : Nat} {a : Act} {w : World} (hL : ¬ LetsOut Q) (hd : noDefer ops = true) (h : wpList P ops Q ops.toList a w) : (Code.region id ops false).wpIn (Fence.wide.inRound r) n P Q a w :=
  wpIn_region (wpOpsIn_of hL hd _ a w (by rw [List.range_eq_range', ← Array.length_toList, wpOps_eq_wpList ops.toList 0 (by simp)]; exact h))
theorem wpIn_plain_lit {id : Nat} {l : List Oper} {a : Act} {w : World} (hL : ¬ LetsOut Q) (hd : noDefer l.toArray = true) (h : wpList P l.toArray Q l a w) : (Code.region id l.toArray false).wpIn (Fence.wide.inRound r) n P Q a w :=
  wpIn_plain hL hd (by simpa using h)
/-- a region, by its plain walk, whatever its way -/
theorem wpIn_reg {id : Nat} {d : Bool} {a : Act} {w : World} (hL : ¬ LetsOut Q) (hd : noDefer ops = true) (h : ∀ K : Exit → Act → World → Prop, (∀ e a w, Q e a w → K e a w) → wpOps P ops K (List.range ops.size) a w) (hdr : d = false) : (Code.region id ops d).wpIn (Fence.wide.inRound r) n P Q a w := by
  subst hdr
  exact wpIn_region (wpOpsIn_of hL hd _ a w (h Q (fun _ _ _ h => h)))
/-- a region that draws its order -/
theorem wpIn_any {id : Nat} {a : Act} {w : World} (hL : ¬ LetsOut Q) (hd : noDefer ops = true) (hm : P.follows .mixedOrders = true)
    (h : wpAny P .any ops Q ops.size (Array.replicate ops.size false) a { w with drawn := w.drawn + 1 }) : (Code.region id ops true).wpIn (Fence.wide.inRound r) n P Q a w :=
  wpIn_region_draw fun t => by
    simp only [Region.schedule, hm, Bool.true_or, if_true]
    exact wpOpsIn_of hL hd _ a _ (wpAny_sound ops.size t _ a _ h)
theorem wpIn_heldR {S : World → Prop} {id : Nat} {a : Act} {w : World} (hL : ¬ LetsOut Q) (hd : noDefer ops = true) (hm : P.follows .mixedOrders = true) (hS : S w.drew)
    (h : S w.drew → wpAnyH P .any ops (NoPanic Q) S ops.size (Array.replicate ops.size false) a w.drew) : (Code.region id ops true).wpIn (Fence.wide.inRound r) n P Q a w :=
  wpIn_mono (wpIn_any (Q := NoPanic Q) (fun h => hL (by obtain ⟨a, w, h⟩ := h; exact ⟨a, w, h⟩)) hd hm (wpAny_of_held _ _ _ _ (h hS))) NoPanic.imp
end
section
variable {P : Program} {w : World} {a : Act} {Q : Exit → Act → World → Prop} {g : Operand} {ps : Array Tmp} {assign body : Code}
/-- a loop's record -/
def recOf (fn : FuncId) (a : Act) (ps : Array Tmp) (assign body : Code) (D : Nat) (st : LoopState) (pe : Option Code) : Loop := { state := st, pending := pe, fn, tmps := a.tmps, params := ps, assign, body, defers := D }
/-- **a loop over an iterator that yields N values, one by one** -/
theorem range_law (n : Nat) {gf : Nat} {lb : Array Value} (hg : a.eval g = .func (.func gf) #[] lb) (eg : ∀ args w, (callFunc gf args).run P w = .ok (.enter gf args) w) (hps : ps.size = 1)
    (N : Nat) (x : Nat → Value) (U : Nat → World → World → Prop) (I I2 : Nat → World → Prop) (Ix : Code → World → Prop) (a₁ : Nat → Act)
    (hseq : ∀ (J : Nat → World → Prop) (Jx : World → Prop) (W : World) (l : Nat), (∀ k W, J k W → ∃ W', I k W' ∧ ∀ p : Nat, p < w.heap.size → W.heap[p]? = W'.heap[p]?) →
      (∀ k W W2, J k W → k < N → U k W W2 → YieldAt Fence.wide (n - 1 - 1) P l #[x k] W2 fun e W' => (e = .returned (.bool true) ∧ J (k + 1) W') ∨ (e = .returned (.bool false) ∧ Jx W')) →
      J 0 W → CallsIn Fence.wide (n - 1) P gf (#[.func (.yield l) #[] #[]] ++ lb) W fun e W' => (∃ v, e = .returned v) ∧ (J N W' ∨ Jx W'))
    (hI0 : I 0 w) (hIa : ∀ W o, w.heap.size ≤ W.heap.size → I 0 W → I 0 (W.alloc o)) (hIp : ∀ k W o, I k W → (∃ r, W.heap[w.heap.size + 1]? = some (.loop r)) → I k (W.putObj (w.heap.size + 1) (.loop o)))
    (hIx : ∀ c W o, Ix c W → (∃ r, W.heap[w.heap.size + 1]? = some (.loop r)) → Ix c (W.putObj (w.heap.size + 1) (.loop o)))
    (hU : ∀ k W W2, U k W W2 → I k W → (∀ p : Nat, w.heap.size ≤ p → W2.heap[p]? = W.heap[p]?)) (hU2 : ∀ k W W2 o, U k W W2 → I k W → (∃ r, W2.heap[w.heap.size + 1]? = some (.loop r)) → I2 k (W2.putObj (w.heap.size + 1) (.loop o)))
    (hassign : ∀ (k : Nat) (W : World) (K : Act → World → Prop), K (a₁ k) W →
      assign.wpIn (Fence.wide.inRound (w.heap.size + 1)) (n - 1 - 1) P (Exit.then K (fun _ _ _ => False)) { tmps := (ps.zip #[x k]).foldl (fun t (p, v) => t.setIfInBounds p v) a.tmps, defers := [] } W)
    (hbody : ∀ (k : Nat) (W : World), I2 k W → k < N → w.heap.size + 1 < W.heap.size → (∃ r, W.heap[w.heap.size + 1]? = some (.loop r)) → body.wpIn (Fence.wide.inRound (w.heap.size + 1)) (n - 1 - 1) P (fun e _ W' => W'.heap[w.heap.size + 1]? = W.heap[w.heap.size + 1]? ∧ W'.heap[w.heap.size]? = W.heap[w.heap.size]? ∧
      match e with
      | .normal => I (k + 1) W'
      | .ret => Ix .ret W'
      | _ => False) (a₁ k) W)
    (hdone : ∀ (W : World), I N W → W.heap[w.heap.size]? = some (.deferred (some [])) → Q .normal { a with defers := { target := .collected w.heap.size, args := #[] } :: a.defers } W)
    (hstop : ∀ (W : World), Ix .ret W → W.heap[w.heap.size]? = some (.deferred (some [])) → Code.ret.wpIn Fence.wide n P Q { a with defers := { target := .collected w.heap.size, args := #[] } :: a.defers } W) :
    (Code.rangeFunc g ps assign body).wp P Q a w := by
  refine (wpIn_wide (n := n)).1 ?_
  refine wpIn_rangeFunc ?_
  intro fn hfn
  obtain ⟨rec, hrec⟩ : ∃ rec : LoopState → Option Code → Loop, rec = recOf fn a ps assign body w.heap.size := ⟨_, rfl⟩
  obtain ⟨W1, hW1⟩ : ∃ W1, (w.alloc (.deferred (some []))).alloc (.loop (rec .ready none)) = W1 := ⟨_, rfl⟩
  have hL1 : W1.heap[w.heap.size + 1]? = some (.loop (rec .ready none)) := by
    rw [← hW1]; have := World.alloc_heap_new (w.alloc (.deferred (some []))) (.loop (rec .ready none)); rwa [World.size_alloc] at this
  have hK1 : W1.heap[w.heap.size]? = some (.deferred (some [])) := by
    rw [← hW1]; exact (Below.heap_alloc _ _ _ (by simp)).trans (World.alloc_heap_new w _)
  have hI1 : I 0 W1 := by rw [← hW1]; exact hIa _ _ (by simp) (hIa _ _ (Nat.le_refl _) hI0)
  refine ⟨w.heap.size + 1, [{ target := .collected w.heap.size, args := #[] }], W1, { target := .fn (.func gf) lb, args := #[.func (.yield (w.heap.size + 1)) #[] #[]] }, W1, gf,
    #[.func (.yield (w.heap.size + 1)) #[] #[]] ++ lb, W1, ?_, ?_, ?_, ?_, by simp [Fence.wide], ?_⟩
  · rw [← hW1, hrec]; exact run_enterLoop_outer _ _ _ _ _
  · simp only [resolve, hg]
    simp [go_sem]
  · intro f' hf'; trivial
  · simp [invoke, go_sem, eg]
  · have hput : ∀ (W : World) o (p : Nat), p < w.heap.size → (W.putObj (w.heap.size + 1) o).heap[p]? = W.heap[p]? := fun W o p hp => World.putObj_heap_other (by omega)
    refine (hseq (fun k W => I k W ∧ W.heap[w.heap.size + 1]? = some (.loop (rec .ready none)) ∧ W.heap[w.heap.size]? = some (.deferred (some [])))
      (fun W => Ix .ret W ∧ W.heap[w.heap.size + 1]? = some (.loop (rec .done (some .ret))) ∧ W.heap[w.heap.size]? = some (.deferred (some [])))
      W1 (w.heap.size + 1) (fun k W hk => ⟨W, hk.1, fun p _ => rfl⟩) ?_ ⟨hI1, hL1, hK1⟩).mono ?_
    · rintro k W W2 ⟨hi, hl, hk⟩ hlen hu
      have hl' : W2.heap[w.heap.size + 1]? = some (.loop (rec .ready none)) := (hU k W W2 hu hi _ (by omega)).trans hl
      have hk' : W2.heap[w.heap.size]? = some (.deferred (some [])) := (hU k W W2 hu hi _ (Nat.le_refl _)).trans hk
      have hlt : w.heap.size + 1 < W2.heap.size := (Array.getElem?_eq_some_iff.1 hl').1
      have hy := run_yield (P := P) (args := #[x k]) hl' (by rw [hrec]; exact hps.symm)
      rw [hrec] at hy
      refine ⟨fn, _, assign, body, hy, roundIn_of_wpIn hfn (hassign k W2 _ ?_)⟩
      clear hy
      refine ⟨_, run_beginRound hl' (by rw [hrec]; rfl), ?_⟩
      have hl2 : (W2.putObj (w.heap.size + 1) (.loop { rec .ready none with state := .busy })).heap[w.heap.size + 1]? = some (.loop { rec .ready none with state := .busy }) := World.putObj_heap_same hlt
      have hk2 : (W2.putObj (w.heap.size + 1) (.loop { rec .ready none with state := .busy })).heap[w.heap.size]? = some (.deferred (some [])) := (World.putObj_heap_other (by omega)).trans hk'
      refine wpIn_mono (hbody k _ (hU2 k W W2 _ hu hi ⟨_, hl'⟩) hlen (by simpa using hlt) ⟨_, hl2⟩) ?_
      have fin : ∀ (jump : Option Code) (W3 : World), W3.heap[w.heap.size + 1]? = some (.loop { rec .ready none with state := .busy }) → W3.heap[w.heap.size]? = some (.deferred (some [])) →
          (Instr.endRound (w.heap.size + 1) jump).run P W3 = .ok (.bool jump.isNone) (W3.putObj (w.heap.size + 1) (.loop (rec (if jump.isNone then .ready else .done) jump))) ∧
          (W3.putObj (w.heap.size + 1) (.loop (rec (if jump.isNone then .ready else .done) jump))).heap[w.heap.size + 1]? = some (.loop (rec (if jump.isNone then .ready else .done) jump)) ∧
          (W3.putObj (w.heap.size + 1) (.loop (rec (if jump.isNone then .ready else .done) jump))).heap[w.heap.size]? = some (.deferred (some [])) := fun jump W3 h3 h4 => by
        have := run_endRound (P := P) jump h3
        rw [hrec] at this ⊢
        exact ⟨this, World.putObj_heap_same (Array.getElem?_eq_some_iff.1 h3).1, (World.putObj_heap_other (by omega)).trans h4⟩
      rintro e a3 W3 ⟨p1, p2, hp⟩
      have h3 := p1.trans hl2
      have h4 := p2.trans hk2
      cases e with
      | normal =>
        obtain ⟨hr, hl4, hk4⟩ := fin none W3 h3 h4
        exact ⟨_, _, hr, .inl ⟨rfl, hIp _ _ _ hp ⟨_, h3⟩, hl4, hk4⟩⟩
      | ret =>
        obtain ⟨hr, hl4, hk4⟩ := fin (some .ret) W3 h3 h4
        exact ⟨_, _, hr, .inr ⟨rfl, hIx _ _ _ hp ⟨_, h3⟩, hl4, hk4⟩⟩
      | exit id => exact hp.elim
      | goto t => exact hp.elim
      | panic ch => exact hp.elim
      | outgrown => exact hp.elim
    · rintro e W2 ⟨⟨v, rfl⟩, (⟨hi, hl, hk⟩ | ⟨hi, hl, hk⟩)⟩
      · exact ⟨none, _, by have := run_endLoop (P := P) hl (by rw [hrec]; simp [recOf]); rw [hrec] at this; exact this, hdone _ (hIp _ _ _ hi ⟨_, hl⟩) ((World.putObj_heap_other (by omega)).trans hk)⟩
      · exact ⟨some .ret, _, by have := run_endLoop (P := P) hl (by rw [hrec]; simp [recOf]); rw [hrec] at this; exact this, hstop _ (hIx _ _ _ hi ⟨_, hl⟩) ((World.putObj_heap_other (by omega)).trans hk)⟩
/-- the same, one loop variable at slot p, handed on to slot t -/
theorem range_law1 (n : Nat) {p t : Tmp} {gf : Nat} {lb : Array Value} (hg : a.eval g = .func (.func gf) #[] lb) (eg : ∀ args w, (callFunc gf args).run P w = .ok (.enter gf args) w)
    (N : Nat) (x : Nat → Value) (U : Nat → World → World → Prop) (I I2 : Nat → World → Prop) (Ix : World → Prop)
    (hseq : ∀ (J : Nat → World → Prop) (Jx : World → Prop) (W : World) (l : Nat), (∀ k W, J k W → ∃ W', I k W' ∧ ∀ p : Nat, p < w.heap.size → W.heap[p]? = W'.heap[p]?) →
      (∀ k W W2, J k W → k < N → U k W W2 → YieldAt Fence.wide (n - 1 - 1) P l #[x k] W2 fun e W' => (e = .returned (.bool true) ∧ J (k + 1) W') ∨ (e = .returned (.bool false) ∧ Jx W')) →
      J 0 W → CallsIn Fence.wide (n - 1) P gf (#[.func (.yield l) #[] #[]] ++ lb) W fun e W' => (∃ v, e = .returned v) ∧ (J N W' ∨ Jx W'))
    (hI0 : I 0 w) (hIa : ∀ W o, w.heap.size ≤ W.heap.size → I 0 W → I 0 (W.alloc o)) (hIp : ∀ k W o, I k W → (∃ r, W.heap[w.heap.size + 1]? = some (.loop r)) → I k (W.putObj (w.heap.size + 1) (.loop o)))
    (hIx : ∀ W o, Ix W → (∃ r, W.heap[w.heap.size + 1]? = some (.loop r)) → Ix (W.putObj (w.heap.size + 1) (.loop o)))
    (hU : ∀ k W W2, U k W W2 → I k W → (∀ p : Nat, w.heap.size ≤ p → W2.heap[p]? = W.heap[p]?)) (hU2 : ∀ k W W2 o, U k W W2 → I k W → (∃ r, W2.heap[w.heap.size + 1]? = some (.loop r)) → I2 k (W2.putObj (w.heap.size + 1) (.loop o)))
    (hassign : ∀ (k : Nat) (W : World) (K : Act → World → Prop), K { tmps := (a.tmps.setIfInBounds p (x k)).setIfInBounds t (x k), defers := [] } W →
      assign.wpIn (Fence.wide.inRound (w.heap.size + 1)) (n - 1 - 1) P (Exit.then K (fun _ _ _ => False)) { tmps := a.tmps.setIfInBounds p (x k), defers := [] } W)
    (hbody : ∀ (k : Nat) (W : World), I2 k W → k < N → w.heap.size + 1 < W.heap.size → (∃ r, W.heap[w.heap.size + 1]? = some (.loop r)) → body.wpIn (Fence.wide.inRound (w.heap.size + 1)) (n - 1 - 1) P (fun e _ W' => W'.heap[w.heap.size + 1]? = W.heap[w.heap.size + 1]? ∧ W'.heap[w.heap.size]? = W.heap[w.heap.size]? ∧
      match e with
      | .normal => I (k + 1) W'
      | .ret => Ix W'
      | _ => False) { tmps := (a.tmps.setIfInBounds p (x k)).setIfInBounds t (x k), defers := [] } W)
    (hdone : ∀ (W : World), I N W → W.heap[w.heap.size]? = some (.deferred (some [])) → Q .normal { a with defers := { target := .collected w.heap.size, args := #[] } :: a.defers } W)
    (hstop : ∀ (W : World), Ix W → W.heap[w.heap.size]? = some (.deferred (some [])) → Q .ret { a with defers := { target := .collected w.heap.size, args := #[] } :: a.defers } W) :
    (Code.rangeFunc g #[p] assign body).wp P Q a w :=
  range_law (ps := #[p]) n hg eg rfl N x U I I2 (fun _ => Ix) (fun k => { tmps := (a.tmps.setIfInBounds p (x k)).setIfInBounds t (x k), defers := [] }) hseq hI0 hIa hIp (fun _ => hIx) hU hU2 (fun k W K hK => by
    have e : (#[p].zip #[x k]).foldl (fun t (p, v) => t.setIfInBounds p v) a.tmps = a.tmps.setIfInBounds p (x k) := by
      rw [show (#[p].zip #[x k]) = #[(p, x k)] by rw [List.zip_toArray]; rfl]
      rfl
    rw [e]; exact hassign k W K hK) hbody hdone (fun W h1 h2 => wpIn_ret (hstop W h1 h2))
end
end Go.Proofs.YtmghklokbmdenaaDoor
