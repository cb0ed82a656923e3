/- Operations that look at their operands alone, one by one. -/
import Derived.Test.YtdbnfdcjibgikaaRx4
set_option linter.unusedVariables false
set_option linter.unusedSimpArgs false
namespace Go.Proofs.Ytdbnfdcjibgikaa.Rx
open Go.RowKit
theorem wrap_inK {k : IntKind} {n : Int} (h : inK k n) : k.wrap n = n := by
  unfold inK IntKind.min IntKind.max at h
  unfold IntKind.wrap
  cases k <;> simp [IntKind.signed, IntKind.bits] at h ⊢ <;> omega
section
variable {P : Program} {cx : Cx}
theorem arith_some {md : Bool} {k : IntKind} {n : Int} {orc : List Orc} {r : Pu} (h : arith md k n orc = some r) (hc : ∀ p ∈ r.cs, p) : r.v = .int k (k.wrap n) := by
  unfold arith at h
  split at h
  · simp only [Option.some.injEq] at h; subst h; rfl
  · obtain ⟨p, hp, rfl⟩ := Option.map_eq_some_iff.1 h
    have := wrap_inK (chk_some hp hc)
    simp only [this]
theorem rep_int (k : IntKind) (n : Int) : Rep cx (.int k n) (.int k n) := .pure (.int k n)
theorem rep_bool (b : Bool) : Rep cx (.bool b) (.bool b) := .pure (.bool b)
theorem run_binI {md : Bool} {op : BinOp} {k : IntKind} {a b : Int} {orc : List Orc} {r : Pu} (h : binI md op k a b orc = some r) (hc : ∀ p ∈ r.cs, p) (t : TypeId) (w : World) :
    ∃ u, (binOp op t (.int k a) (.int k b)).run P w = .ok u w ∧ Rep cx r.v u := by
  unfold binI at h
  split at h
  · have e := arith_some h hc
    exact ⟨_, by rw [binOp_add]; rfl, by rw [e]; exact rep_int _ _⟩
  · have e := arith_some h hc
    exact ⟨_, by rw [binOp_sub]; rfl, by rw [e]; exact rep_int _ _⟩
  · have e := arith_some h hc
    exact ⟨_, by rw [binOp_mul]; rfl, by rw [e]; exact rep_int _ _⟩
  · obtain ⟨p, hp, h⟩ := Option.bind_eq_some_iff.1 h
    obtain ⟨q, hq, rfl⟩ := Option.map_eq_some_iff.1 h
    have hb := chk_some hp (fun x hx => hc x (by simp [hx]))
    have e := arith_some hq (fun x hx => hc x (by simp [hx]))
    refine ⟨_, ?_, by simp only [e]; exact rep_int _ _⟩
    rw [binOp_quo, Op.intDiv, if_neg hb]
    rfl
  · obtain ⟨p, hp, rfl⟩ := Option.map_eq_some_iff.1 h
    have hb := chk_some hp hc
    refine ⟨_, ?_, rep_int _ _⟩
    rw [binOp_rem, Op.intDiv, if_neg hb]
    rfl
  all_goals first
    | (simp only [Option.some.injEq] at h; subst h; exact ⟨_, by first | (rw [binOp_and]; rfl) | (rw [binOp_or]; rfl) | (rw [binOp_xor]; rfl) | (rw [binOp_andNot]; rfl), rep_int _ _⟩)
    | (simp only [Option.some.injEq] at h; subst h; exact ⟨_, by first | (rw [binOp_eql]; rfl) | (rw [binOp_neq]; rfl) | (rw [binOp_lss]; rfl) | (rw [binOp_leq]; rfl) | (rw [binOp_gtr]; rfl) | (rw [binOp_geq]; rfl), rep_bool _⟩)
    | cases h
theorem run_binS {md : Bool} {op : BinOp} {k yk : IntKind} {a b : Int} {orc : List Orc} {r : Pu} (h : binS md op k a b orc = some r) (hc : ∀ p ∈ r.cs, p) (t : TypeId) (w : World) :
    ∃ u, (binOp op t (.int k a) (.int yk b)).run P w = .ok u w ∧ Rep cx r.v u := by
  unfold binS at h
  split at h
  · obtain ⟨p, hp, rfl⟩ := Option.map_eq_some_iff.1 h
    have hb := chk_some hp hc
    refine ⟨_, ?_, rep_int _ _⟩
    rw [binOp_shl, Op.shift, if_neg (by omega)]
    rfl
  · obtain ⟨p, hp, rfl⟩ := Option.map_eq_some_iff.1 h
    have hb := chk_some hp hc
    refine ⟨_, ?_, rep_int _ _⟩
    rw [binOp_shr, Op.shift, if_neg (by omega)]
    rfl
  · cases h
theorem run_binA {md : Bool} {op : BinOp} {t : TypeId} {x y : AV} {orc : List Orc} {r : Pu} (h : binA P md op t x y orc = some r) (hc : ∀ p ∈ r.cs, p) {u v : Value} (hx : Rep cx x u) (hy : Rep cx y v) (X Y : Operand) (w : World) :
    ∃ z, (eqGuard op t X Y u v).run P w = .ok () w ∧ (binOp op t u v).run P w = .ok z w ∧ Rep cx r.v z := by
  unfold binA at h
  split at h
  · have e1 := hx.int_inv; have e2 := hy.int_inv
    subst e1; subst e2
    rename_i k a k' b
    cases hsh : isSh op with
    | true =>
      simp only [hsh, cond_true] at h
      obtain ⟨z, h1, h2⟩ := run_binS (P := P) (cx := cx) (yk := k') h hc t w
      exact ⟨z, by rw [eqGuard_at_int]; rfl, h1, h2⟩
    | false =>
      simp only [hsh, cond_false] at h
      split at h
      · rename_i hk
        subst hk
        obtain ⟨z, h1, h2⟩ := run_binI (P := P) (cx := cx) h hc t w
        exact ⟨z, by rw [eqGuard_at_int]; rfl, h1, h2⟩
      · cases h
  · have e1 := hx.bool_inv; have e2 := hy.bool_inv
    subst e1; subst e2
    split at h
    · rename_i hu
      split at h
      · simp only [Option.some.injEq] at h; subst h
        exact ⟨_, by rw [eqGuard_at_bool]; rfl, run_eql_bool w t _ _ hu, rep_bool _⟩
      · simp only [Option.some.injEq] at h; subst h
        exact ⟨_, by rw [eqGuard_at_bool]; rfl, run_neq_bool w t _ _ hu, rep_bool _⟩
      · cases h
    · cases h
  · have e1 := hx.str_inv; have e2 := hy.str_inv
    subst e1; subst e2
    split at h
    · obtain ⟨p, hp, rfl⟩ := Option.map_eq_some_iff.1 h
      have hb := chk_some hp hc
      refine ⟨_, by rw [eqGuard_at_string]; rfl, ?_, .pure (.str _)⟩
      simp only [binOp, Op.stringOp]
      rw [if_neg (by rw [IntKind.max_i64]; omega)]
      rfl
    · simp only [Option.some.injEq] at h; subst h
      exact ⟨_, by rw [eqGuard_at_string]; rfl, rfl, rep_bool _⟩
    · simp only [Option.some.injEq] at h; subst h
      exact ⟨_, by rw [eqGuard_at_string]; rfl, rfl, rep_bool _⟩
    · cases h
  · cases hg : P.eqGuardType P.depth t with
    | true => simp [hg] at h
    | false =>
      simp only [hg, cond_false] at h
      obtain ⟨q, hq, h⟩ := Option.bind_eq_some_iff.1 h
      obtain ⟨us, rfl, _⟩ := hx.agg_inv
      obtain ⟨vs, rfl, _⟩ := hy.agg_inv
      have hr := run_eqT 10000 _ _ _ _ _ _ hq hx hy w
      split at h
      · simp only [Option.some.injEq] at h; subst h
        exact ⟨_, run_eqGuard_agg w _ t X Y us vs hg, by rw [run_eql_struct, hr]; rfl, rep_bool _⟩
      · simp only [Option.some.injEq] at h; subst h
        exact ⟨_, run_eqGuard_agg w _ t X Y us vs hg, by rw [run_neq_struct, hr]; rfl, rep_bool _⟩
      · cases h
  · cases h
theorem run_unA {md : Bool} {op : UnOp} {x : AV} {orc : List Orc} {r : Pu} (h : unA md op x orc = some r) (hc : ∀ p ∈ r.cs, p) {u : Value} (hx : Rep cx x u) (w : World) :
    ∃ z, (Op.unary op u).run P w = .ok z w ∧ Rep cx r.v z := by
  unfold unA at h
  split at h
  · have e1 := hx.bool_inv
    subst e1
    simp only [Option.some.injEq] at h; subst h
    exact ⟨_, rfl, rep_bool _⟩
  · have e1 := hx.int_inv
    subst e1
    have e := arith_some h hc
    exact ⟨_, rfl, by rw [e]; exact rep_int _ _⟩
  · cases h
theorem run_pickA {c x y : AV} {orc : List Orc} {r : Pu} (h : pickA c x y orc = some r) (hc : ∀ p ∈ r.cs, p) {u v z : Value} (h1 : Rep cx c u) (h2 : Rep cx x v) (h3 : Rep cx y z) :
    ∃ b, u = .bool b ∧ Rep cx r.v (if b then v else z) := by
  unfold pickA at h
  split at h
  · rename_i b
    refine ⟨b, h1.bool_inv, ?_⟩
    split at h
    · rename_i t orc
      simp only [Option.some.injEq] at h; subst h
      have hb := hc (b = t) (by simp)
      subst hb
      cases b
      · exact h3
      · exact h2
    · split at h
      · simp only [Option.some.injEq] at h; subst h
        have e1 := h2.bool_inv; have e2 := h3.bool_inv
        subst e1; subst e2
        cases b <;> exact rep_bool _
      · split at h
        · simp only [Option.some.injEq] at h; subst h
          exact h2
        · simp only [Option.some.injEq] at h; subst h
          exact h3
  · cases h
theorem run_intO {d : Int} {a : Act} {ρ : Operand → AV} {x : Option Operand} {n : Int} (h : intO d ρ x = some n) (hr : ∀ x, Rep cx (ρ x) (a.eval x)) : (x = none ∧ n = d) ∨ ∃ q k, x = some q ∧ a.eval q = .int k n := by
  unfold intO at h
  split at h
  · exact .inl ⟨rfl, by simpa using h.symm⟩
  · rename_i q
    split at h
    · rename_i k m hq
      simp only [Option.some.injEq] at h
      subst h
      have := hr q
      rw [hq] at this
      exact .inr ⟨q, k, rfl, this.int_inv⟩
    · cases h
end
end Go.Proofs.Ytdbnfdcjibgikaa.Rx
