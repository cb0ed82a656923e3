import Derived.Test.YtlfldlnohmobmaaGreatMbA
import Derived.Test.YtlfldlnohmobmaaGreatMbJ
/- What may be done, and told, out of order, what comes of it, what is observed, and what is dropped, is as the document says. Conditions: none. -/


set_option linter.unusedVariables false
set_option linter.unusedSimpArgs false
namespace Go.Proofs.YtlfldlnohmobmaaGreat.execTells
open Go.ChangeShapes Go.WideShapes Go.ChangeAt Go.RowKit Go.Proofs.YtlfldlnohmobmaaGreat

set_option maxRecDepth 100000 in
theorem lifted(os : Os)(started : os.Started)(H : Type)(enc : TypeId × Value -> H) :
    ReturnsInHanded {} Tryz.checked os 4 .any (Rows.execTellsSpec.pre6 enc Tryz.prog Tryz.f4 Rows.execTellsRow.domain false) (Rows.execTellsSpec.post enc Tryz.prog Tryz.f4 false true false false) := by
  refine returnsInHanded_of_change_sized (C := Tryz.checked) own started (by kernel_rfl) Tryz.func4
    (ChangeSpec.witness6 (enc := enc) (C := Tryz.checked) false ⟨#[], #[.slice none 0 0,.slice none 0 0,.slice none 0 0,.int .i64 0], []⟩ 8 (by kernel_rfl) (by kernel_rfl) (by kernel_rfl) (by kernel_rfl)) ?_
  intro W base args ds gs before hval0 hW hcnd hsz0 _
  have hsz : (DataW.weightsEach Tryz.prog (Tryz.f4.params.toList ++ Rows.execTellsSpec.plain.varTypes Tryz.prog) (ds ++ gs)).all (· <= reachBytes) = true := hsz0
  clear hsz0
  have hval : ∀(j : Nat) t v, Tryz.f4.params[j]? = some t -> args[j]? = some v -> Value.okWide Tryz.prog W .any base t v := hval0
  have hW' := hW
  obtain⟨p, q, hA0, hV, rfl, hfz, hnd⟩ := hW
  have hA : DataW.TrodAll enc Tryz.prog W 0 (fun _ => true) true Tryz.f4.params.toList args.toList ds p := hA0
  rw[Tryz.params4] at hA hval hsz
  obtain⟨v0, vs0, d0, ds0, p0, q0, hargs, rfl, rfl, h0, r0⟩ := trodAll_cons hA
  obtain⟨v1, vs1, d1, ds1, p1, q1, rfl, rfl, rfl, h1, r1⟩ := trodAll_cons r0
  obtain⟨v2, vs2, d2, ds2, p2, q2, rfl, rfl, rfl, h2, r2⟩ := trodAll_cons r1
  obtain⟨v3, vs3, d3, ds3, p3, q3, rfl, rfl, rfl, h3, r3⟩ := trodAll_cons r2
  obtain⟨rfl, rfl, rfl⟩ := trodAll_nil r3
  obtain rfl : args = #[v0, v1, v2, v3] := by cases args; simp_all
  obtain⟨rfl, rfl⟩ := trodVars_none hV
  obtain⟨A0, c0, z0, rfl, hc0, hm0, hr0, w0⟩ := eM Tryz.underlying22 Tryz.underlying3 (by kernel_rfl) (of_decide_eq_true (by kernel_rfl)) hsz (j := 0) rfl rfl (hval 0 22 v0 rfl rfl) h0
  obtain⟨A1, c1, z1, rfl, hc1, hm1, hr1, w1⟩ := eM Tryz.underlying22 Tryz.underlying3 (by kernel_rfl) (of_decide_eq_true (by kernel_rfl)) hsz (j := 1) rfl rfl (hval 1 22 v1 rfl rfl) h1
  obtain⟨A2, c2, z2, rfl, hc2, hm2, hr2, w2⟩ := eM Tryz.underlying22 Tryz.underlying3 (by kernel_rfl) (of_decide_eq_true (by kernel_rfl)) hsz (j := 2) rfl rfl (hval 2 22 v2 rfl rfl) h2
  obtain⟨a3, rfl, rfl, rfl, w3⟩ := open_int Tryz.underlying3 (hval 3 3 v3 rfl rfl) h3
  clear hA0 hval0
  have hwalk : Calls Tryz.prog 4 #[.slice A0 z0.length c0,.slice A1 z1.length c1,.slice A2 z2.length c2,.int .i64 a3] W (RetB (.bool true) W) := (Px.walk_ExecTells A0 c0 z0 A1 c1 z1 A2 c2 z2 a3 W hc0 (b8 hm0 (by simp only[maxLen]; omega)) hr0 hc1 (b8 hm1 (by simp only[maxLen]; omega)) hr1 hc2 (b8 hm2 (by simp only[maxLen]; omega)) hr2)
  refine hwalk.mono fun e W' hret => ?_
  obtain⟨he, hb⟩ := hret
  subst he
  exact⟨_, rfl, ny (tb := 4) pS (by rw[Tryz.params4]; decide +kernel) (by kernel_rfl) Tryz.underlying4 rfl hW' rfl hb⟩

theorem proved : Rows.ExecTellsSaid :=
  OpenClaim.holds_of_wide 4 Tryz.f4 rfl rfl rfl rfl rfl rfl rfl ⟨rfl, rfl, rfl, rfl, rfl⟩ rfl rfl rfl rfl rfl (by kernel_rfl) Tryz.func4 (by kernel_rfl)
    (of_decide_eq_true (by kernel_rfl)) (by unfold Func.isWrapper; first | (rw[aq (by decide +kernel)]; kernel_rfl) | (rw[an (by decide +kernel)]; exact⟨rfl, rfl⟩))
    (fun os started H enc _ => lifted os started H enc)
end Go.Proofs.YtlfldlnohmobmaaGreat.execTells
