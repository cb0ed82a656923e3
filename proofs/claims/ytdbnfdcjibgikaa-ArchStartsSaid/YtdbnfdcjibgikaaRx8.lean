/- The pure operations and those that read, whole. -/
import Derived.Test.YtdbnfdcjibgikaaRx7
set_option linter.unusedVariables false
set_option linter.unusedSimpArgs false
namespace Go.Proofs.Ytdbnfdcjibgikaa.Rx
open Go.RowKit
section
variable {P : Program} {cx : Cx}
theorem run_minL {k : IntKind} : ∀ (l : List AV) (vs : List Value) (x n : Int), minL k x l = some n → l.length = vs.length → (∀ (j : Nat) a v, l[j]? = some a → vs[j]? = some v → Rep cx a v) → ∀ w, (vs.foldlM Builtin.min2 (.int k x)).run P w = .ok (.int k n) w
  | [], vs, x, n, h, hl, hr, w => by
    obtain rfl : vs = [] := List.eq_nil_of_length_eq_zero (by simpa using hl.symm)
    simp only [minL, Option.some.injEq] at h
    subst h
    simp
  | a :: l, vs, x, n, h, hl, hr, w => by
    cases vs with
    | nil => simp at hl
    | cons v vs =>
      unfold minL at h
      split at h
      · rename_i heq; cases heq
      · rename_i k' y l' heq
        cases heq
        split at h
        · rename_i hk
          subst hk
          have e := (hr 0 _ v rfl rfl).int_inv
          subst e
          have ih := run_minL l vs _ n h (by simpa using hl) (fun j a v ha hv => hr (j + 1) a v (by simpa using ha) (by simpa using hv)) w
          simp only [List.foldlM_cons, Sem.run_bind, Builtin.min2, Sem.run_pure, Result.andThen_ok]
          exact ih
        · cases h
      · cases h
theorem run_maxL {k : IntKind} : ∀ (l : List AV) (vs : List Value) (x n : Int), maxL k x l = some n → l.length = vs.length → (∀ (j : Nat) a v, l[j]? = some a → vs[j]? = some v → Rep cx a v) → ∀ w, (vs.foldlM Builtin.max2 (.int k x)).run P w = .ok (.int k n) w
  | [], vs, x, n, h, hl, hr, w => by
    obtain rfl : vs = [] := List.eq_nil_of_length_eq_zero (by simpa using hl.symm)
    simp only [maxL, Option.some.injEq] at h
    subst h
    simp
  | a :: l, vs, x, n, h, hl, hr, w => by
    cases vs with
    | nil => simp at hl
    | cons v vs =>
      unfold maxL at h
      split at h
      · rename_i heq; cases heq
      · rename_i k' y l' heq
        cases heq
        split at h
        · rename_i hk
          subst hk
          have e := (hr 0 _ v rfl rfl).int_inv
          subst e
          have ih := run_maxL l vs _ n h (by simpa using hl) (fun j a v ha hv => hr (j + 1) a v (by simpa using ha) (by simpa using hv)) w
          simp only [List.foldlM_cons, Sem.run_bind, Builtin.max2, Sem.run_pure, Result.andThen_ok]
          exact ih
        · cases h
      · cases h
theorem zeroA_some {t : TypeId} {z : List AV} (h : zeroA P t = some z) : ∃ i zv, P.info? t = some i ∧ i.zero = some zv ∧ zv.cells.size = i.size ∧ RL cx z zv.cells ∧ z = zv.cells.toList.map .ofCell := by
  unfold zeroA at h
  obtain ⟨i, hi, h⟩ := Option.bind_eq_some_iff.1 h
  obtain ⟨zv, hz, h⟩ := Option.bind_eq_some_iff.1 h
  obtain ⟨hb, h⟩ := bif_some h
  simp only [Option.some.injEq] at h
  subst h
  rw [Bool.and_eq_true] at hb
  refine ⟨i, zv, hi, hz, Nat.eq_of_beq_eq_true hb.2, ⟨by simp, fun j v hv => ?_, fun j a v ha hv => ?_⟩, rfl⟩
  · exact List.all_eq_true.1 hb.1 v (by rw [Array.mem_toList_iff]; exact Array.mem_of_getElem? hv)
  · simp only [List.getElem?_map, Array.getElem?_toList, hv, Option.map_some, Option.some.injEq] at ha
    subst ha
    exact .pure (repP_ofCell _ _ _)
theorem parts_rep {ρ : Operand → AV} {a : Act} (hr : ∀ x, Rep cx (ρ x) (a.eval x)) (parts : Array (Nat × Operand)) : ∀ (j : Nat) p q, (parts.toList.map fun p => (p.1, ρ p.2))[j]? = some p → ((parts.map fun (i, x) => (i, a.eval x)).toList)[j]? = some q → p.1 = q.1 ∧ Rep cx p.2 q.2 := by
  intro j p q hp hq
  simp only [List.getElem?_map, Array.toList_map, Array.getElem?_toList] at hp hq
  cases h : parts[j]? with
  | none => rw [h] at hp; cases hp
  | some y =>
    rw [h] at hp hq
    simp only [Option.map_some, Option.some.injEq] at hp hq
    subst hp; subst hq
    exact ⟨rfl, hr _⟩
theorem evPure_sound {md : Bool} {o : Oper} {ρ : Operand → AV} {a : Act} {orc : List Orc} {r : Pu} (h : evPure P md o.op ρ orc = some r) (hc : ∀ p ∈ r.cs, p) (hr : ∀ x, Rep cx (ρ x) (a.eval x)) (w : World) :
    ∃ z, (execOp a.eval o).run P w = .ok (.value z) w ∧ Rep cx r.v z := by
  unfold evPure at h
  split at h
  · rename_i x ho
    simp only [Option.some.injEq] at h; subst h
    exact ⟨_, by simp [execOp, ho], hr x⟩
  · rename_i x ho
    simp only [Option.some.injEq] at h; subst h
    exact ⟨_, by simp [execOp, ho], hr x⟩
  · rename_i c x y ho
    obtain ⟨b, hb, hR⟩ := run_pickA h hc (hr c) (hr x) (hr y)
    exact ⟨_, by simp [execOp, ho, hb, asBool], hR⟩
  · rename_i x ho
    have hx := hr x
    split at h
    · rename_i heq
      rw [heq] at hx
      simp only [Option.some.injEq] at h; subst h
      obtain ⟨g, cap, b, h1, h2, h3, hv⟩ := hx.bptr_inv
      exact ⟨a.eval x, by simp [execOp, ho, hv], hx⟩
    · rename_i heq
      rw [heq] at hx
      simp only [Option.some.injEq] at h; subst h
      obtain ⟨g, o', u, hv, _⟩ := hx.rptr_inv
      exact ⟨a.eval x, by simp [execOp, ho, hv], hx⟩
    · rename_i heq
      rw [heq] at hx
      simp only [Option.some.injEq] at h; subst h
      obtain ⟨vs, hv, _⟩ := hx.clo_inv
      exact ⟨a.eval x, by simp [execOp, ho, hv], hx⟩
    · cases h
  · rename_i op t x y yt ho
    obtain ⟨z, h1, h2, h3⟩ := run_binA h hc (hr x) (hr y) x y w
    exact ⟨z, by simp [execOp, ho, h1, h2], h3⟩
  · rename_i op t x ho
    obtain ⟨z, h1, h2⟩ := run_unA (P := P) h hc (hr x) w
    exact ⟨z, by simp [execOp, ho, h1], h2⟩
  · rename_i src dst x ho
    obtain ⟨v, hv, rfl⟩ := Option.map_eq_some_iff.1 h
    obtain ⟨z, h1, h2⟩ := run_convertA hv (hr x) w
    exact ⟨z, by simp [execOp, ho, h1], h2⟩
  · rename_i t x k ho
    have hx := hr x
    split at h
    · rename_i cs heq
      rw [heq] at hx
      obtain ⟨q, hq, h⟩ := Option.bind_eq_some_iff.1 h
      obtain ⟨v, hv, rfl⟩ := Option.map_eq_some_iff.1 h
      obtain ⟨z, h1, h2⟩ := run_field hq hv hx w
      exact ⟨z, by simp [execOp, ho, h1], h2⟩
    · cases h
  · rename_i t x q ho
    obtain ⟨z, h1, h2⟩ := run_indexA h hc (hr x) (hr q) w
    exact ⟨z, by simp [execOp, ho, h1], h2⟩
  · rename_i x k ho
    have hx := hr x
    split at h
    · rename_i vs heq
      rw [heq] at hx
      obtain ⟨v, hv, rfl⟩ := Option.map_eq_some_iff.1 h
      obtain ⟨us, hu, hl, hR⟩ := hx.tup_inv
      have hlt : k < us.size := by rw [← hl]; exact (List.getElem?_eq_some_iff.1 hv).1
      exact ⟨us[k], by simp [execOp, ho, hu, Instr.extract, hlt], hR k _ _ hv (by simp [hlt])⟩
    · cases h
  · rename_i f first caps ho
    obtain ⟨hb, h⟩ := bif_some h
    simp only [Option.some.injEq] at h; subst h
    rw [Array.isEmpty_iff] at hb
    subst hb
    refine ⟨.func (.func f) #[] (caps.map a.eval), by simp [execOp, ho, Instr.makeFunc], .clo (by simp) fun j x v hx hv => ?_⟩
    simp only [List.getElem?_map, Array.getElem?_toList, Array.getElem?_map] at hx hv
    cases hc' : caps[j]? with
    | none => rw [hc'] at hx; cases hx
    | some y =>
      rw [hc'] at hx hv
      simp only [Option.map_some, Option.some.injEq] at hx hv
      subst hx; subst hv
      exact hr _
  · rename_i t parts ho
    obtain ⟨z, hz, h⟩ := Option.bind_eq_some_iff.1 h
    obtain ⟨i, zv, hi, hzz, hsz, hL, _⟩ := zeroA_some (cx := cx) hz
    split at h
    · rename_i fs hu
      obtain ⟨pl, hpl, h⟩ := Option.bind_eq_some_iff.1 h
      obtain ⟨cs, hcs, rfl⟩ := Option.map_eq_some_iff.1 h
      obtain ⟨us, h1, h2⟩ := run_fillA _ _ hcs hL (by simp) (parts_rep hr parts)
      refine ⟨.agg us, ?_, h2.agg⟩
      have hb : P.built t (parts.map fun (i, x) => (i, a.eval x)).toList = some us := by
        unfold Program.built
        simp only [hi, hu, hzz, hpl]
        simpa using h1
      simp [execOp, ho, run_build w t _ us hb]
    · rename_i n e hu
      obtain ⟨s, hs, h⟩ := Option.bind_eq_some_iff.1 h
      obtain ⟨cs, hcs, rfl⟩ := Option.map_eq_some_iff.1 h
      obtain ⟨us, h1, h2⟩ := run_fillA _ _ hcs hL (by simp) (parts_rep hr parts)
      refine ⟨.agg us, ?_, h2.agg⟩
      obtain ⟨ie, hie, rfl⟩ := szOf_some hs
      have hb : P.built t (parts.map fun (i, x) => (i, a.eval x)).toList = some us := by
        unfold Program.built
        simp only [hi, hu, hzz, hie]
        exact h1
      simp [execOp, ho, run_build w t _ us hb]
    · cases h
  · rename_i args at_ ho
    split at h
    · rename_i k x l heq
      obtain ⟨n, hn, rfl⟩ := Option.map_eq_some_iff.1 h
      cases hargs : args.toList with
      | nil => rw [hargs] at heq; cases heq
      | cons q qs =>
        rw [hargs] at heq
        simp only [List.map_cons, List.cons.injEq] at heq
        obtain ⟨e1, e2⟩ := heq
        have hq := hr q
        rw [e1] at hq
        have e := hq.int_inv
        have hm := run_minL (P := P) (cx := cx) l (qs.map a.eval) x n hn (by rw [← e2]; simp) (fun j y v hy hv => by
          rw [← e2] at hy
          simp only [List.getElem?_map] at hy hv
          cases hj : qs[j]? with
          | none => rw [hj] at hy; cases hy
          | some z =>
            rw [hj] at hy hv
            simp only [Option.map_some, Option.some.injEq] at hy hv
            subst hy; subst hv
            exact hr _) w
        refine ⟨_, ?_, rep_int _ _⟩
        simp [execOp, ho, resolve, invoke, builtin, Builtin.min_, hargs, e, hm]
    · cases h
  · rename_i args at_ ho
    split at h
    · rename_i k x l heq
      obtain ⟨n, hn, rfl⟩ := Option.map_eq_some_iff.1 h
      cases hargs : args.toList with
      | nil => rw [hargs] at heq; cases heq
      | cons q qs =>
        rw [hargs] at heq
        simp only [List.map_cons, List.cons.injEq] at heq
        obtain ⟨e1, e2⟩ := heq
        have hq := hr q
        rw [e1] at hq
        have e := hq.int_inv
        have hm := run_maxL (P := P) (cx := cx) l (qs.map a.eval) x n hn (by rw [← e2]; simp) (fun j y v hy hv => by
          rw [← e2] at hy
          simp only [List.getElem?_map] at hy hv
          cases hj : qs[j]? with
          | none => rw [hj] at hy; cases hy
          | some z =>
            rw [hj] at hy hv
            simp only [Option.map_some, Option.some.injEq] at hy hv
            subst hy; subst hv
            exact hr _) w
        refine ⟨_, ?_, rep_int _ _⟩
        simp [execOp, ho, resolve, invoke, builtin, Builtin.max_, hargs, e, hm]
    · cases h
  · cases h
end
end Go.Proofs.Ytdbnfdcjibgikaa.Rx
