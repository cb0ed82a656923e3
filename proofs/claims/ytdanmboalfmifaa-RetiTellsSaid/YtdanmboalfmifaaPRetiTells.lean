import Derived.Test.YtdanmboalfmifaaMbA
import Derived.Test.YtdanmboalfmifaaMbH
/- What may be committed, and what comes of it, is as the document says. Conditions: none. -/


set_option linter.unusedVariables false
set_option linter.unusedSimpArgs false
namespace Go.Proofs.Ytdanmboalfmifaa.retiTells
open Go.ChangeShapes Go.WideShapes Go.ChangeAt Go.RowKit Go.Proofs.Ytdanmboalfmifaa

set_option maxRecDepth 100000 in
theorem lifted(os : Os)(started : os.Started)(H : Type)(enc : TypeId × Value -> H) :
    ReturnsInHanded {} Try.checked os 6 .any (Rows.retiTellsSpec.pre6 enc Try.prog Try.f6 Rows.retiTellsRow.domain false) (Rows.retiTellsSpec.post enc Try.prog Try.f6 false true false false) := by
  refine returnsInHanded_of_change_sized (C := Try.checked) own started (by kernel_rfl) Try.func6
    (ChangeSpec.witness6 (enc := enc) (C := Try.checked) false ⟨#[], #[.slice none 0 0,.slice none 0 0,.slice none 0 0], []⟩ 8 (by kernel_rfl) (by kernel_rfl) (by kernel_rfl) (by kernel_rfl)) ?_
  intro W base args ds gs before hval0 hW hcnd hsz0 _
  have hsz : (DataW.weightsEach Try.prog (Try.f6.params.toList ++ Rows.retiTellsSpec.plain.varTypes Try.prog) (ds ++ gs)).all (· <= reachBytes) = true := hsz0
  clear hsz0
  have hval : ∀(j : Nat) t v, Try.f6.params[j]? = some t -> args[j]? = some v -> Value.okWide Try.prog W .any base t v := hval0
  have hW' := hW
  obtain⟨p, q, hA0, hV, rfl, hfz, hnd⟩ := hW
  have hA : DataW.TrodAll enc Try.prog W 0 (fun _ => true) true Try.f6.params.toList args.toList ds p := hA0
  rw[Try.params6] at hA hval hsz
  obtain⟨v0, vs0, d0, ds0, p0, q0, hargs, rfl, rfl, h0, r0⟩ := trodAll_cons hA
  obtain⟨v1, vs1, d1, ds1, p1, q1, rfl, rfl, rfl, h1, r1⟩ := trodAll_cons r0
  obtain⟨v2, vs2, d2, ds2, p2, q2, rfl, rfl, rfl, h2, r2⟩ := trodAll_cons r1
  obtain⟨rfl, rfl, rfl⟩ := trodAll_nil r2
  obtain rfl : args = #[v0, v1, v2] := by cases args; simp_all
  obtain⟨rfl, rfl⟩ := trodVars_none hV
  obtain⟨A0, c0, z0, rfl, hc0, hm0, hr0, w0⟩ := ej Try.underlying38 Try.underlying3 (by kernel_rfl) (of_decide_eq_true (by kernel_rfl)) hsz (j := 0) rfl rfl (hval 0 38 v0 rfl rfl) h0
  obtain⟨A1, c1, z1, rfl, hc1, hm1, hr1, w1⟩ := ej Try.underlying38 Try.underlying3 (by kernel_rfl) (of_decide_eq_true (by kernel_rfl)) hsz (j := 1) rfl rfl (hval 1 38 v1 rfl rfl) h1
  obtain⟨A2, c2, z2, rfl, hc2, hm2, hr2, w2⟩ := ej Try.underlying38 Try.underlying3 (by kernel_rfl) (of_decide_eq_true (by kernel_rfl)) hsz (j := 2) rfl rfl (hval 2 38 v2 rfl rfl) h2
  clear hA0 hval0
  have hwalk : Calls Try.prog 6 #[.slice A0 z0.length c0,.slice A1 z1.length c1,.slice A2 z2.length c2] W (RetB (.bool true) W) := (Px.walk_RetiTells A0 c0 z0 A1 c1 z1 A2 c2 z2 W hc0 (bF hm0 (by simp only[maxLen]; omega)) hr0 hc1 (bF hm1 (by simp only[maxLen]; omega)) hr1 hc2 (bF hm2 (by simp only[maxLen]; omega)) hr2)
  refine hwalk.mono fun e W' hret => ?_
  obtain⟨he, hb⟩ := hret
  subst he
  exact⟨_, rfl, mn (tb := 4) oE (by rw[Try.params6]; decide +kernel) (by kernel_rfl) Try.underlying4 rfl hW' rfl hb⟩

theorem proved : Rows.RetiTellsSaid :=
  OpenClaim.holds_of_wide 6 Try.f6 rfl rfl rfl rfl rfl rfl rfl ⟨rfl, rfl, rfl, rfl, rfl⟩ rfl rfl rfl rfl rfl (by kernel_rfl) Try.func6 (by kernel_rfl)
    (of_decide_eq_true (by kernel_rfl)) (by unfold Func.isWrapper; first | (rw[ai (by decide +kernel)]; kernel_rfl) | (rw[ah (by decide +kernel)]; exact⟨rfl, rfl⟩))
    (fun os started H enc _ => lifted os started H enc)
end Go.Proofs.Ytdanmboalfmifaa.retiTells
