/- Operations that look at their operands alone do in memory what they do abstractly. -/
import Derived.Test.YtdbnfdcjibgikaaRx3
import Derived.ChangeKeysEq
import Derived.Laws.StructEq
set_option linter.unusedVariables false
set_option linter.unusedSimpArgs false
namespace Go.Proofs.Ytdbnfdcjibgikaa.Rx
open Go.RowKit
theorem chk_some {md : Bool} {p : Prop} [d : Decidable p] {cs : List Prop} (h : chk md p = some cs) (hc : ∀ q ∈ cs, q) : p := by
  unfold chk at h
  cases md
  · simp at h
    subst h
    exact hc p (by simp)
  · cases d with
    | isTrue hp => exact hp
    | isFalse hn => simp at h
theorem chk_true {p : Prop} [d : Decidable p] {cs : List Prop} (h : chk true p = some cs) : p := by
  unfold chk at h
  cases d with
  | isTrue hp => exact hp
  | isFalse hn => simp at h
theorem guardO_some {b : Bool} {u : Unit} (h : guardO b = some u) : b = true := by
  cases b
  · simp [guardO] at h
  · rfl
theorem bif_some {α : Type} {b : Bool} {x : Option α} {y : α} (h : (bif b then x else none) = some y) : b = true ∧ x = some y := by
  cases b
  · simp at h
  · exact ⟨rfl, h⟩
section
variable {cx : Cx} {v : Value}
theorem Rep.int_inv {k : IntKind} {n : Int} (h : Rep cx (.int k n) v) : v = .int k n := by
  cases h with | pure h => cases h; rfl
theorem Rep.bool_inv {b : Bool} (h : Rep cx (.bool b) v) : v = .bool b := by
  cases h with | pure h => cases h; rfl
theorem Rep.str_inv {s : ByteArray} (h : Rep cx (.str s) v) : v = .string s := by
  cases h with | pure h => cases h; rfl
theorem Rep.nilp_inv (h : Rep cx .nilp v) : v = .pointer none := by
  cases h with | pure h => cases h; rfl
theorem Rep.nils_inv (h : Rep cx .nils v) : v = .slice none 0 0 := by
  cases h with | pure h => cases h; rfl
theorem Rep.row_inv {m n : Nat} {f : Nat → Nat → AV} (h : Rep cx (.row m n f) v) : RepP cx.w cx.R (.row m n f) v := by
  cases h with | pure h => exact h
theorem Rep.bptr_inv {id off : Nat} (h : Rep cx (.bptr id off) v) : ∃ g cap b, cx.H id = some b ∧ b.c.isBox = true ∧ cx.φ id = some (g, cap) ∧ v = .pointer (some ⟨g, off, none⟩) := by
  cases h with
  | pure h => cases h
  | bptr hb hc hg => exact ⟨_, _, _, hb, hc, hg, rfl⟩
theorem Rep.eptr_inv {id gen m i j : Nat} (h : Rep cx (.eptr id gen m i j) v) : ∃ b, cx.H id = some b ∧ gen ≤ b.gen ∧ (b.gen = gen → EltV cx id b m i j v) := by
  cases h with
  | pure h => cases h
  | eptr hb hle ho h => exact ⟨_, hb, hle, h⟩
theorem Rep.own_inv {id gen m off len : Nat} (h : Rep cx (.own id gen m off len) v) : ∃ b, cx.H id = some b ∧ gen ≤ b.gen ∧ (b.gen = gen → OwnV cx id b m off len v) := by
  cases h with
  | pure h => cases h
  | own hb hle ho h => exact ⟨_, hb, hle, h⟩
theorem Rep.rptr_inv {m j : Nat} {cs : Nat → AV} (h : Rep cx (.rptr m cs j) v) : ∃ (g o : Nat) (u : Nat → Value), v = .pointer (some ⟨g, o + j, none⟩) ∧ cx.R g ∧ (∀ q, q < m → cx.w.cell? ⟨g, o + q, none⟩ = some (u q)) ∧ (∀ q, q < m → (u q).oneCell' = true) ∧
    ∀ q, q < m → RepP cx.w cx.R (cs q) (u q) := by
  cases h with
  | pure h => cases h with
    | rptr hR u h1 h2 h3 => exact ⟨_, _, u, rfl, hR, h1, h2, h3⟩
theorem Rep.agg_inv {cs : List AV} (h : Rep cx (.agg cs) v) : ∃ vs : Array Value, v = .agg vs ∧ cs.length = vs.size ∧ (∀ (j : Nat) v, vs[j]? = some v → v.oneCell' = true) ∧ ∀ (j : Nat) a v, cs[j]? = some a → vs[j]? = some v → Rep cx a v := by
  cases h with
  | pure h => cases h with
    | agg hl h1 h => exact ⟨_, rfl, hl, h1, fun j a v ha hv => .pure (h j a v ha hv)⟩
  | agg hl h1 h => exact ⟨_, rfl, hl, h1, h⟩
theorem Rep.tup_inv {cs : List AV} (h : Rep cx (.tup cs) v) : ∃ vs : Array Value, v = .tuple vs ∧ cs.length = vs.size ∧ ∀ (j : Nat) a v, cs[j]? = some a → vs[j]? = some v → Rep cx a v := by
  cases h with
  | pure h => cases h with
    | tup hl h => exact ⟨_, rfl, hl, fun j a v ha hv => .pure (h j a v ha hv)⟩
  | tup hl h => exact ⟨_, rfl, hl, h⟩
theorem Rep.clo_inv {f : FuncId} {cs : List AV} (h : Rep cx (.clo f cs) v) : ∃ vs : Array Value, v = .func (.func f) #[] vs ∧ cs.length = vs.size ∧ ∀ (j : Nat) a v, cs[j]? = some a → vs[j]? = some v → Rep cx a v := by
  cases h with
  | pure h => cases h with
    | clo hl h => exact ⟨_, rfl, hl, fun j a v ha hv => .pure (h j a v ha hv)⟩
  | clo hl h => exact ⟨_, rfl, hl, h⟩
theorem Rep.cells {a : AV} {l : List AV} (hl : a.cells = some l) (h : Rep cx a v) : l.length = v.cells.size ∧ (∀ (j : Nat) u, v.cells[j]? = some u → u.oneCell' = true) ∧ ∀ (j : Nat) x u, l[j]? = some x → v.cells[j]? = some u → Rep cx x u := by
  by_cases hg : ∃ cs, a = .agg cs
  · obtain ⟨cs, rfl⟩ := hg
    obtain ⟨vs, rfl, h1, h2, h3⟩ := h.agg_inv
    simp only [AV.cells, Option.some.injEq] at hl
    subst hl
    exact ⟨h1, h2, h3⟩
  · have hone : v.oneCell' = true ∧ l = [a] := by
      cases h with
      | pure h =>
        cases h <;> first
          | (simp only [AV.cells, Option.some.injEq] at hl; exact ⟨rfl, hl.symm⟩)
          | exact absurd ⟨_, rfl⟩ hg
          | (simp only [AV.cells] at hl; obtain ⟨h1, h2⟩ := bif_some hl; exact ⟨h1, by simpa using h2.symm⟩)
          | cases hl
      | bptr => simp only [AV.cells, Option.some.injEq] at hl; exact ⟨rfl, hl.symm⟩
      | eptr _ _ ho => simp only [AV.cells, Option.some.injEq] at hl; exact ⟨ho, hl.symm⟩
      | own _ _ ho => simp only [AV.cells, Option.some.injEq] at hl; exact ⟨ho, hl.symm⟩
      | agg => exact absurd ⟨_, rfl⟩ hg
      | tup => cases hl
      | clo => simp only [AV.cells, Option.some.injEq] at hl; exact ⟨rfl, hl.symm⟩
    obtain ⟨h1, rfl⟩ := hone
    have hv : v.cells = #[v] := by cases v <;> first | rfl | cases h1
    rw [hv]
    refine ⟨rfl, fun j u hj => ?_, fun j x u hj hu => ?_⟩
    · match j, hj with
      | 0, hj => simp at hj; rw [← hj]; exact h1
    · match j, hj, hu with
      | 0, hj, hu => simp at hj hu; rw [← hj, ← hu]; exact h
end
theorem repP_ofCell (w : World) (R : Nat → Prop) (v : Value) : RepP w R (AV.ofCell v) v := by
  unfold AV.ofCell
  split
  · exact .int _ _
  · exact .bool _
  · exact .str _
  · exact .nilp
  · exact .nils
  · exact .val _
theorem rep_ofVal (cx : Cx) (v : Value) : Rep cx (AV.ofVal v) v := by
  unfold AV.ofVal
  split
  · rename_i cs
    cases hall : cs.toList.all (·.oneCell') with
    | false => exact .pure (.junk _)
    | true =>
      simp only [cond_true]
      refine .pure (.agg (by simp) (fun j v hv => ?_) fun j a v ha hv => ?_)
      · have := List.all_eq_true.1 hall v (by rw [Array.mem_toList_iff]; exact Array.mem_of_getElem? hv)
        simpa using this
      · simp only [List.getElem?_map, Array.getElem?_toList, hv, Option.map_some, Option.some.injEq] at ha
        subst ha
        exact repP_ofCell _ _ _
  · exact .pure (.junk _)
  · rename_i f first caps
    cases hall : first.isEmpty && caps.isEmpty with
    | false => exact .pure (.junk _)
    | true =>
      simp only [Bool.and_eq_true, Array.isEmpty_iff] at hall
      obtain ⟨rfl, rfl⟩ := hall
      exact .pure (.clo rfl fun j a v ha _ => by simp at ha)
  · exact .pure (repP_ofCell _ _ _)
/-- the operands of an activation are as the state has them -/
theorem rep_eval {cx : Cx} {env : Nat → AV} {a : Act} (h : ∀ t, Rep cx (env t) (a.tmps.getD t undef)) (x : Operand) : Rep cx (evalA env x) (a.eval x) := by
  cases x with
  | tmp t => exact h t
  | const v => exact rep_ofVal cx v
  | global g => exact .pure (.junk _)
  | func f => exact .pure (.clo rfl fun j a v ha _ => by simp at ha)
section
variable {P : Program}
theorem szOf_some {t : TypeId} {s : Nat} (h : szOf P t = some s) : ∃ i, P.info? t = some i ∧ i.size = s := by
  unfold szOf at h
  cases hi : P.info? t with
  | none => rw [hi] at h; cases h
  | some i => rw [hi] at h; exact ⟨i, rfl, by simpa using h⟩
theorem run_sizeOf' {t : TypeId} {s : Nat} (h : szOf P t = some s) (w : World) : (sizeOf t).run P w = .ok s w := by
  obtain ⟨i, hi, rfl⟩ := szOf_some h
  simp [sizeOf, typeInfo, hi]
theorem run_isAgg' {t : TypeId} {g : Bool} (h : aggOf P t = some g) (w : World) : (isAgg t).run P w = .ok g w := by
  unfold aggOf at h
  cases hu : P.underlying t with
  | none => rw [hu] at h; cases h
  | some d =>
    rw [hu] at h
    simp only [Option.map_some, Option.some.injEq] at h
    subst h
    unfold isAgg
    rw [Sem.run_bind, run_underlying hu w]
    cases d <;> rfl
theorem run_partA {cx : Cx} {t : TypeId} {cs : List AV} {off : Nat} {a : AV} {vs : Array Value} (h : partA P t cs off = some a) (hl : cs.length = vs.size) (h1 : ∀ (j : Nat) v, vs[j]? = some v → v.oneCell' = true)
    (hr : ∀ (j : Nat) a v, cs[j]? = some a → vs[j]? = some v → Rep cx a v) (w : World) : ∃ u, (part t vs off).run P w = .ok u w ∧ Rep cx a u := by
  unfold partA at h
  cases hs : szOf P t with
  | none => simp [hs] at h
  | some s =>
    cases hg : aggOf P t with
    | none => simp [hs, hg] at h
    | some g =>
      simp only [hs, hg, Option.bind_eq_bind, Option.bind_some] at h
      cases g with
      | true =>
        simp only [if_true] at h
        obtain ⟨u, hu, h⟩ := Option.bind_eq_some_iff.1 h
        have hle := guardO_some hu
        rw [Nat.ble_eq] at hle
        simp only [Option.some.injEq] at h
        subst h
        refine ⟨.agg (vs.extract off (off + s)), ?_, .agg ?_ ?_ ?_⟩
        · simp [part, run_isAgg' hg, run_sizeOf' hs]
        · simp; omega
        · intro j v hv
          rw [Array.getElem?_extract] at hv
          split at hv
          · exact h1 _ _ hv
          · cases hv
        · intro j a v ha hv
          rw [Array.getElem?_extract] at hv
          split at hv
          · rw [List.getElem?_take] at ha
            split at ha
            · rw [List.getElem?_drop] at ha
              exact hr _ _ _ ha hv
            · cases ha
          · cases hv
      | false =>
        simp only [Bool.false_eq_true, if_false] at h
        have hlt : off < vs.size := by rw [← hl]; exact (List.getElem?_eq_some_iff.1 h).1
        refine ⟨vs[off], ?_, hr off _ _ h (by simp [hlt])⟩
        simp [part, run_isAgg' hg, hlt]
theorem run_eqFs {cx : Cx} {d : Nat} {eq : TypeId → AV → AV → Option Bool} (IH : ∀ t x y r u v, eq t x y = some r → Rep cx x u → Rep cx y v → ∀ w, (Op.equalIn d t u v).run P w = .ok r w)
    {xs ys : List AV} {us vs : Array Value} (hx : Rep cx (.agg xs) (.agg us)) (hy : Rep cx (.agg ys) (.agg vs)) :
    ∀ (fs : List Field) (r : Bool), eqFs P eq xs ys fs = some r → ∀ w, (Op.eqFields d us vs fs).run P w = .ok r w
  | [], r, h, w => by
    simp only [eqFs, Option.some.injEq] at h
    subst h
    simp [Op.eqFields]
  | f :: fs, r, h, w => by
    unfold eqFs at h
    cases hn : f.name == "_" with
    | true => simp [hn] at h
    | false =>
      simp only [hn, cond_false] at h
      obtain ⟨a, ha, h⟩ := Option.bind_eq_some_iff.1 h
      obtain ⟨b, hb, h⟩ := Option.bind_eq_some_iff.1 h
      obtain ⟨q, hq, h⟩ := Option.bind_eq_some_iff.1 h
      obtain ⟨q', hq', h⟩ := Option.map_eq_some_iff.1 h
      obtain ⟨us', e1, x1, x2, x3⟩ := hx.agg_inv
      obtain ⟨vs', e2, y1, y2, y3⟩ := hy.agg_inv
      cases e1; cases e2
      obtain ⟨u, hu, ru⟩ := run_partA ha x1 x2 x3 w
      obtain ⟨v, hv, rv⟩ := run_partA hb y1 y2 y3 w
      have hr := IH _ _ _ _ _ _ hq ru rv w
      have hn' : f.name ≠ "_" := by simpa using hn
      have ih := run_eqFs IH hx hy fs q' hq' w
      subst h
      simp only [Op.eqFields, hn', ne_eq, not_false_eq_true, if_true, Sem.run_bind, hu, hv, hr, Result.andThen_ok]
      cases q
      · simp
      · simpa using ih
theorem run_eqIs {cx : Cx} {d : Nat} {eq : TypeId → AV → AV → Option Bool} (IH : ∀ t x y r u v, eq t x y = some r → Rep cx x u → Rep cx y v → ∀ w, (Op.equalIn d t u v).run P w = .ok r w)
    {e : TypeId} {c : Nat} {xs ys : List AV} {us vs : Array Value} (hx : Rep cx (.agg xs) (.agg us)) (hy : Rep cx (.agg ys) (.agg vs)) :
    ∀ (is : List Nat) (r : Bool), eqIs P eq e c xs ys is = some r → ∀ w, (Op.eqItems d e c us vs is).run P w = .ok r w
  | [], r, h, w => by
    simp only [eqIs, Option.some.injEq] at h
    subst h
    simp [Op.eqItems]
  | i :: is, r, h, w => by
    unfold eqIs at h
    obtain ⟨a, ha, h⟩ := Option.bind_eq_some_iff.1 h
    obtain ⟨b, hb, h⟩ := Option.bind_eq_some_iff.1 h
    obtain ⟨q, hq, h⟩ := Option.bind_eq_some_iff.1 h
    obtain ⟨q', hq', h⟩ := Option.map_eq_some_iff.1 h
    obtain ⟨us', e1, x1, x2, x3⟩ := hx.agg_inv
    obtain ⟨vs', e2, y1, y2, y3⟩ := hy.agg_inv
    cases e1; cases e2
    obtain ⟨u, hu, ru⟩ := run_partA ha x1 x2 x3 w
    obtain ⟨v, hv, rv⟩ := run_partA hb y1 y2 y3 w
    have hr := IH _ _ _ _ _ _ hq ru rv w
    have ih := run_eqIs IH hx hy is q' hq' w
    subst h
    simp only [Op.eqItems, Sem.run_bind, hu, hv, hr, Result.andThen_ok]
    cases q
    · simp
    · simpa using ih
theorem run_eqT {cx : Cx} : ∀ (d : Nat) (t : TypeId) (x y : AV) (r : Bool) (u v : Value), eqT P d t x y = some r → Rep cx x u → Rep cx y v → ∀ w, (Op.equalIn d t u v).run P w = .ok r w
  | 0, t, x, y, r, u, v, h, hx, hy, w => by simp [eqT] at h
  | d + 1, t, x, y, r, u, v, h, hx, hy, w => by
    unfold eqT at h
    split at h
    · rename_i hu
      split at h
      · have e1 := hx.bool_inv; have e2 := hy.bool_inv
        subst e1; subst e2
        simp only [Option.some.injEq] at h
        subst h
        exact run_equalIn_bool' w d t _ _ hu
      · cases h
    · rename_i hu
      split at h
      · have e1 := hx.int_inv; have e2 := hy.int_inv
        subst e1; subst e2
        split at h
        · rename_i hk
          subst hk
          simp only [Option.some.injEq] at h
          subst h
          exact run_equalIn_int w d t _ _ _ _ hu
        · cases h
      · cases h
    · rename_i hu
      split at h
      · have e1 := hx.str_inv; have e2 := hy.str_inv
        subst e1; subst e2
        simp only [Option.some.injEq] at h
        subst h
        exact run_equalIn_string w d t _ _ hu
      · cases h
    · rename_i fs hu
      split at h
      · obtain ⟨us, rfl, _⟩ := hx.agg_inv
        obtain ⟨vs, rfl, _⟩ := hy.agg_inv
        cases hp : P.stoodInHeld t with
        | true => simp [hp] at h
        | false =>
          simp only [hp, cond_false] at h
          have hfo : P.fieldsOf t = fs := by unfold Program.fieldsOf; rw [hu]
          rw [run_equalIn_struct w d t us vs (by rw [hfo]; exact hu) hp, hfo]
          exact run_eqFs (fun t x y r u v h hx hy w => run_eqT d t x y r u v h hx hy w) hx hy _ r h w
      · cases h
    · rename_i n e hu
      split at h
      · obtain ⟨us, rfl, _⟩ := hx.agg_inv
        obtain ⟨vs, rfl, _⟩ := hy.agg_inv
        obtain ⟨hi, h⟩ := bif_some h
        obtain ⟨i, hi⟩ := Option.isSome_iff_exists.1 hi
        rw [run_equalIn_array w d us vs hu hi]
        exact run_eqIs (fun t x y r u v h hx hy w => run_eqT d t x y r u v h hx hy w) hx hy _ r h w
      · cases h
    · cases h
end
end Go.Proofs.Ytdbnfdcjibgikaa.Rx
