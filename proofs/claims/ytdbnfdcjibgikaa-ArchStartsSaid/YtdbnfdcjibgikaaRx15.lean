/- Regions in the order of the text, code, functions: carried out abstractly. -/
import Derived.Test.YtdbnfdcjibgikaaRx14
set_option linter.unusedVariables false
set_option linter.unusedSimpArgs false
namespace Go.Proofs.Ytdbnfdcjibgikaa.Rx
open Go.RowKit
def putE (env : Nat → AV) (dst : Option Tmp) (v : AV) : Nat → AV := match dst with
  | some d => upd env d v
  | none => env
abbrev CallF := FuncId → List AV → (Nat → Option Blk) → Nat → List Orc → Option Res
/-- what an operation that was passed over leaves -/
def undA : AV := .val undef
/-- is the operation wanted? -/
def guardA (ops : Array Oper) (o : Oper) (env : Nat → AV) (orc : List Orc) : Option (Bool × List Orc × List Prop) :=
  match o.guard with
  | none => some (true, orc, [])
  | some (j, want) => match (ops[j]?).bind (·.dst) with
    | none => none
    | some d => match env d with
      | .bool b => match orc with
        | .b t :: orc => some (t == want, orc, [b = t])
        | orc => match b with
          | true => some (want, orc, [])
          | false => some (!want, orc, [])
      | .val (.tuple _) => some (false, orc, [])
      | _ => none
def dstOk (nt : Nat) : Option Tmp → Bool
  | none => true
  | some d => Nat.blt d nt
section
variable (P : Program)
def evOps (md : Bool) (call : CallF) (nt : Nat) (ops : Array Oper) : List Nat → St → List Orc → Option (St × List Orc × List Prop)
  | [], st, orc => some (st, orc, [])
  | i :: rest, st, orc => match ops[i]? with
    | none => none
    | some o => bif dstOk nt o.dst then (guardA ops o st.env orc).bind fun g => match g.1 with
      | false => (evOps md call nt ops rest ⟨putE st.env o.dst undA, st.heap, st.next⟩ g.2.1).map fun q => (q.1, q.2.1, g.2.2 ++ q.2.2)
      | true => (evOp P md call o.op (evalA st.env) st.heap st.next g.2.1).bind fun r =>
        (evOps md call nt ops rest ⟨putE st.env o.dst r.v, r.heap, r.next⟩ r.orc).map fun q => (q.1, q.2.1, g.2.2 ++ r.cs ++ q.2.2) else none
/-- a state in memory -/
structure SRep (cx : Cx) (st : St) (a : Act) (nt : Nat) : Prop where
  H : cx.H = st.heap
  c : CRep cx
  env : ∀ t, Rep cx (st.env t) (a.tmps.getD t undef)
  lt : ∀ i, (st.heap i).isSome = true → i < st.next
  sz : a.tmps.size = nt
  df : a.defers = []
/-- a call has done what was foretold -/
def CallOk (call : CallF) : Prop :=
  ∀ f args h next orc r, call f args h next orc = some r → (∀ p ∈ r.cs, p) → ∀ cx, cx.H = h → CRep cx → (∀ i, (h i).isSome = true → i < next) → ∀ vs : Array Value, args.length = vs.size → (∀ (j : Nat) a v, args[j]? = some a → vs[j]? = some v → Rep cx a v) →
    (∃ fn, P.funcs[f]? = some fn ∧ fn.body.isSome = true ∧ fn.name ≠ "runtime.NumGoroutine") ∧
    Calls P f vs cx.w fun e w' => ∃ z cx', e = .returned z ∧ w' = cx'.w ∧ cx'.H = r.heap ∧ CRep cx' ∧ Stab cx cx' ∧ Rep cx' r.v z ∧ (∀ i, (r.heap i).isSome = true → i < r.next)
end
section
variable {P : Program} {cx : Cx}
theorem put_get {a : Act} {nt : Nat} (hs : a.tmps.size = nt) {dst : Option Tmp} (hd : dstOk nt dst = true) (v : Value) (t : Nat) : (a.put dst v).tmps.getD t undef = match dst with | some d => if t = d then v else a.tmps.getD t undef | none => a.tmps.getD t undef := by
  cases dst with
  | none => rfl
  | some d =>
    have hlt : d < a.tmps.size := by rw [hs]; exact Nat.blt_eq ▸ hd
    show (a.tmps.setIfInBounds d v).getD t undef = _
    rw [Array.getD_eq_getD_getElem?, Array.getElem?_setIfInBounds]
    by_cases e : t = d
    · subst e
      simp [hlt]
    · have e' : ¬ d = t := fun h => e h.symm
      simp only [e', if_false, e]
      rw [Array.getD_eq_getD_getElem?]
theorem SRep.put {cx cx' : Cx} {st : St} {a : Act} {nt : Nat} (h : SRep cx st a nt) (hst : Stab cx cx') (hc : CRep cx') {heap : Nat → Option Blk} {next : Nat} (hH : cx'.H = heap) (hlt : ∀ i, (heap i).isSome = true → i < next) {dst : Option Tmp} (hd : dstOk nt dst = true) {v : AV} {z : Value} (hr : Rep cx' v z) :
    SRep cx' ⟨putE st.env dst v, heap, next⟩ (a.put dst z) nt := by
  refine ⟨hH, hc, fun t => ?_, hlt, ?_, ?_⟩
  · rw [put_get h.sz hd]
    cases dst with
    | none => exact (h.env t).stab h.c hst
    | some d =>
      show Rep cx' (upd st.env d v t) _
      by_cases e : t = d
      · subst e
        rw [upd_same]
        simpa using hr
      · rw [upd_other _ _ _ _ e]
        simp only [e, if_false]
        exact (h.env t).stab h.c hst
  · cases dst with
    | none => exact h.sz
    | some d => show (a.tmps.setIfInBounds d z).size = nt; rw [Array.size_setIfInBounds]; exact h.sz
  · cases dst <;> exact h.df
/-- one operation that is no call, its operands as they are known -/
theorem evOp_base {md : Bool} {call : CallF} {o : Oper} {env : Nat → AV} {h0 : Nat → Option Blk} {next : Nat} {a : Act} {orc : List Orc} {r : Res} (h : evOp P md call o.op (evalA env) h0 next orc = some r) (hcls : clsOf P o.op ≠ .call) (hp : ∀ p ∈ r.cs, p) (hH : cx.H = h0) (hc : CRep cx)
    (henv : ∀ t, Rep cx (env t) (a.tmps.getD t undef)) (hnone : cx.H next = none)
    {K : Act → World → Prop} {Q : Exit → Act → World → Prop} (hK : ∀ cx' z, cx'.H = r.heap → CRep cx' → Stab cx cx' → Rep cx' r.v z → NewIds cx.H next r.heap r.next → K (a.put o.dst z) cx'.w) : o.wp P a cx.w K Q := by
  have hre := fun x => rep_eval henv x
  have hdone : ∀ D : Done P o a cx next r, o.wp P a cx.w K Q := by
    rintro ⟨n, z, cx', h1, h2, h3, h4, h5, h6, h7⟩
    have hk := hK cx' z h3 h4 h5 h6 h7
    unfold Oper.wp
    rw [h1]
    rcases h2 with rfl | ⟨rfl, rfl⟩
    · exact hk
    · exact hk
  subst hH
  unfold evOp at h
  split at h
  · obtain ⟨q, hq, rfl⟩ := Option.map_eq_some_iff.1 h
    obtain ⟨z, h1, h2⟩ := evPure_sound hq hp hre cx.w
    exact hdone ⟨_, z, cx, h1, .inl rfl, rfl, hc, Stab.refl cx, h2, .same fun _ h => h⟩
  · obtain ⟨q, hq, rfl⟩ := Option.map_eq_some_iff.1 h
    obtain ⟨z, h1, h2⟩ := evRead_sound hq hp hc hre
    exact hdone ⟨_, z, cx, h1, .inl rfl, rfl, hc, Stab.refl cx, h2, .same fun _ h => h⟩
  · exact hdone (evMake_sound h hp hc hnone hre)
  · exact hdone (evWrite_sound h hp hc hnone hre)
  · rename_i hcl
    exact absurd hcl hcls
/-- one operation that is a call -/
theorem evCall_base {md : Bool} {call : CallF} {o : Oper} {env : Nat → AV} {h0 : Nat → Option Blk} {next : Nat} {a : Act} {orc : List Orc} {r : Res} (h : evOp P md call o.op (evalA env) h0 next orc = some r) (hcls : clsOf P o.op = .call) (henv : ∀ t, Rep cx (env t) (a.tmps.getD t undef)) :
    ∃ f avs vs, call f avs h0 next orc = some r ∧ (∃ fo args at_, o.op = .call { callee := .value fo, args := args, argTypes := at_ } ∧ ∃ caps, evalA env fo = .clo f caps ∧ avs = args.toList.map (evalA env) ++ caps) ∧ avs.length = vs.size ∧ (∀ (j : Nat) x v, avs[j]? = some x → vs[j]? = some v → Rep cx x v) ∧
      ∀ K Q, (∃ fn, P.funcs[f]? = some fn ∧ fn.body.isSome = true ∧ fn.name ≠ "runtime.NumGoroutine") → Calls P f vs cx.w (fun e w' => ∃ z, e = .returned z ∧ K (a.put o.dst z) w') → o.wp P a cx.w K Q := by
  have hre := fun x => rep_eval henv x
  unfold evOp at h
  split at h
  · rename_i hcl; rw [hcls] at hcl; cases hcl
  · rename_i hcl; rw [hcls] at hcl; cases hcl
  · rename_i hcl; rw [hcls] at hcl; cases hcl
  · rename_i hcl; rw [hcls] at hcl; cases hcl
  · split at h
    · rename_i f args at_ ho
      split at h
      · rename_i f' caps hf
        have hfr := hre f
        rw [hf] at hfr
        obtain ⟨vs, hv, hl, hR⟩ := hfr.clo_inv
        refine ⟨f', args.toList.map (evalA env) ++ caps, (args.map a.eval) ++ vs, h, ⟨f, args, at_, ho, caps, hf, rfl⟩, by simp [hl], ?_, ?_⟩
        · intro j x v hx hv
          by_cases hj : j < args.size
          · rw [List.getElem?_append_left (by simpa using hj), List.getElem?_map, Array.getElem?_toList] at hx
            rw [Array.getElem?_append_left (by simpa using hj), Array.getElem?_map] at hv
            obtain ⟨y, hy, rfl⟩ := Option.map_eq_some_iff.1 hx
            rw [hy] at hv
            cases hv
            exact hre y
          · rw [List.getElem?_append_right (by simpa using Nat.le_of_not_lt hj)] at hx
            rw [Array.getElem?_append_right (by simpa using Nat.le_of_not_lt hj)] at hv
            simp only [List.length_map, Array.length_toList] at hx
            simp only [Array.size_map] at hv
            exact hR _ x v hx hv
        · rintro K Q ⟨fn, g1, g2, g3⟩ hcl
          have hex : (execOp a.eval o).run P cx.w = .ok (.enter f' ((args.map a.eval) ++ vs)) cx.w := by
            obtain ⟨bd, hbd⟩ := Option.isSome_iff_exists.1 g2
            simp [execOp, ho, resolve, hv, Deferred.ofValue, invoke, callFunc, g1, hbd, g3]
          unfold Oper.wp
          rw [hex, Oper.upon_enter]
          refine hcl.mono ?_
          rintro e w' ⟨z, rfl, hk⟩
          exact hk
      · cases h
    · cases h
/-- one operation, in the walk's own words -/
theorem evOp_sound {md : Bool} {call : CallF} (hcall : CallOk P call) {o : Oper} {st : St} {a : Act} {nt : Nat} {orc : List Orc} {r : Res} (h : evOp P md call o.op (evalA st.env) st.heap st.next orc = some r) (hp : ∀ p ∈ r.cs, p) (hs : SRep cx st a nt) (hd : dstOk nt o.dst = true)
    {K : Act → World → Prop} {Q : Exit → Act → World → Prop} (hK : ∀ cx' a', SRep cx' ⟨putE st.env o.dst r.v, r.heap, r.next⟩ a' nt → Stab cx cx' → K a' cx'.w) : o.wp P a cx.w K Q := by
  by_cases hcls : clsOf P o.op = .call
  · obtain ⟨f, avs, vs, h1, _, h3, h4, h5⟩ := evCall_base (cx := cx) (a := a) h hcls hs.env
    obtain ⟨k1, k2⟩ := hcall f avs _ _ _ r h1 hp cx hs.H hs.c hs.lt vs h3 h4
    refine h5 K Q k1 (k2.mono ?_)
    rintro e w' ⟨z, cx', rfl, rfl, m3, m4, m5, m6, m7⟩
    exact ⟨z, rfl, hK cx' _ (hs.put m5 m4 m3 m7 hd m6) m5⟩
  · exact evOp_base h hcls hp hs.H hs.c hs.env (by rw [hs.H]; exact none_next hs.lt) fun cx' z h3 h4 h5 h6 h7 =>
      hK cx' _ (hs.put h5 h4 h3 (by rw [hs.H] at h7; exact h7.lt hs.lt) hd h6) h5
theorem guardA_sound {ops : Array Oper} {o : Oper} {st : St} {a : Act} {nt : Nat} {orc : List Orc} {g : Bool × List Orc × List Prop} (h : guardA ops o st.env orc = some g) (hp : ∀ p ∈ g.2.2, p) (hs : SRep cx st a nt) : Region.wanted o (yielded ops a.tmps) = g.1 := by
  unfold guardA at h
  unfold Region.wanted
  split at h
  · rename_i hg
    simp only [Option.some.injEq] at h; subst h
    rw [hg]
  · rename_i j want hg
    rw [hg]
    split at h
    · cases h
    · rename_i d hd
      split at h
      · rename_i b hb
        have hr := hs.env d
        rw [hb] at hr
        have hv := hr.bool_inv
        have hlt : d < a.tmps.size := by
          rcases Nat.lt_or_ge d a.tmps.size with h1 | h1
          · exact h1
          · rw [Array.getD_eq_getD_getElem?, Array.getElem?_eq_none h1] at hv
            cases hv
        have hy : yielded ops a.tmps j = some b := by
          unfold yielded
          rw [hd]
          have : a.tmps[d]? = some (.bool b) := by
            rw [Array.getElem?_eq_getElem hlt]
            rw [Array.getD_eq_getD_getElem?, Array.getElem?_eq_getElem hlt] at hv
            simpa using hv
          simp [this]
        simp only [hy]
        split at h
        · rename_i t orc'
          simp only [Option.some.injEq] at h; subst h
          have e := hp (b = t) (by simp)
          subst e
          cases b <;> cases want <;> rfl
        · split at h
          · simp only [Option.some.injEq] at h; subst h
            cases want <;> rfl
          · simp only [Option.some.injEq] at h; subst h
            cases want <;> rfl
      · rename_i vs hb
        simp only [Option.some.injEq] at h; subst h
        have hr := hs.env d
        rw [hb] at hr
        have hv : a.tmps.getD d undef = .tuple vs := by
          generalize a.tmps.getD d undef = z at hr
          cases hr with
          | pure h => cases h; rfl
        have hy : yielded ops a.tmps j = none := by
          unfold yielded
          rw [hd]
          rw [Array.getD_eq_getD_getElem?] at hv
          cases hx : a.tmps[d]? with
          | none => simp [hx]
          | some x =>
            rw [hx] at hv
            simp only [Option.getD_some] at hv
            subst hv
            simp [hx]
        simp only [hy]
        rfl
      · cases h
theorem evOps_sound {md : Bool} {call : CallF} (hcall : CallOk P call) {nt : Nat} {ops : Array Oper} {Q : Exit → Act → World → Prop} : ∀ (l : List Nat) {st : St} {orc : List Orc} {q : St × List Orc × List Prop} {cx : Cx} {a : Act}, evOps P md call nt ops l st orc = some q → (∀ p ∈ q.2.2, p) → SRep cx st a nt →
    (∀ cx' a', SRep cx' q.1 a' nt → Stab cx cx' → Q .normal a' cx'.w) → wpOps P ops Q l a cx.w
  | [], st, orc, q, cx, a, h, hp, hs, hQ => by
    simp only [evOps, Option.some.injEq] at h; subst h
    exact hQ cx a hs (Stab.refl cx)
  | i :: rest, st, orc, q, cx, a, h, hp, hs, hQ => by
    unfold evOps at h
    unfold wpOps
    split at h
    · cases h
    · rename_i o ho
      rw [ho]
      obtain ⟨hd, h1⟩ := bif_some h
      clear h
      obtain ⟨g, hg, h2⟩ := Option.bind_eq_some_iff.1 h1
      clear h1
      simp only
      split at h2
      · rename_i hgf
        obtain ⟨q', hq', rfl⟩ := Option.map_eq_some_iff.1 h2
        have hw := guardA_sound hg (fun p hp' => hp p (by simp [hp'])) hs
        rw [hgf] at hw
        rw [hw]
        simp only [Bool.false_eq_true, if_false]
        have hs' : SRep cx ⟨putE st.env o.dst undA, st.heap, st.next⟩ (a.put o.dst undef) nt := hs.put (Stab.refl cx) hs.c hs.H hs.lt hd (.pure (.val _))
        exact evOps_sound hcall rest hq' (fun p hp' => hp p (by simp [hp'])) hs' hQ
      · rename_i hgt
        obtain ⟨r, hr, h3⟩ := Option.bind_eq_some_iff.1 h2
        obtain ⟨q', hq', rfl⟩ := Option.map_eq_some_iff.1 h3
        have hw := guardA_sound hg (fun p hp' => hp p (by simp [hp'])) hs
        rw [hgt] at hw
        rw [hw]
        simp only [if_true]
        refine .inl (evOp_sound hcall hr (fun p hp' => hp p (by simp [hp'])) hs hd fun cx1 a1 hs1 hst1 => ?_)
        exact evOps_sound hcall rest hq' (fun p hp' => hp p (by simp [hp'])) hs1 fun cx2 a2 hs2 hst2 => hQ cx2 a2 hs2 (hst1.trans hst2)
end
end Go.Proofs.Ytdbnfdcjibgikaa.Rx
