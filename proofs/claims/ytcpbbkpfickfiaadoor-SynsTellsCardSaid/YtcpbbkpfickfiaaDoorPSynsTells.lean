/- SynsTells: whatever the bytes, the pieces, the line and the Item, the call returns true, and what was handed in reads as it did; conditions: the library variables and the two tables that the row lists hold what their initialisers lay. -/
import Derived.Test.YtcpbbkpfickfiaaDoorCards
import Derived.Test.YtcpbbkpfickfiaaDoorTie
import Derived.Test.YtcpbbkpfickfiaaDoorDoor
import Derived.Test.YtcpbbkpfickfiaaDoorShell
import Derived.Test.YtcpbbkpfickfiaaDoorSnTellA
import Derived.Test.YtcpbbkpfickfiaaDoorSnLaid
set_option linter.unusedVariables false
set_option linter.unusedSimpArgs false
namespace Go.Proofs.YtcpbbkpfickfiaaDoor.synsTells
open Go.ChangeShapes Go.WideShapes Go.ChangeAt Go.RowKit

set_option maxRecDepth 100000 in
theorem lifted (os : Os) (started : os.Started) (H : Type) (enc : TypeId × Value → H) :
    ReturnsInHanded {} Tryd.checked os 6 .any (fun w args => (Rows.synsTellsSpec.pre enc Tryd.prog Tryd.f6 [] false w args ∧ laidMetH Tryd.prog Rows.synsTellsRow.laid w) ∧ sizedMet enc Tryd.prog Tryd.f6 (OpenSpec.ofChange Rows.synsTellsSpec) false w args) (Rows.synsTellsSpec.post enc Tryd.prog Tryd.f6 false true false false) := by
  refine returnsInHanded_of_change_and (C := Tryd.checked) (X := fun w _ => laidMetH Tryd.prog Rows.synsTellsRow.laid w) (fun _ _ _ hh h => h.of_heap hh) own started (by kernel_rfl) Tryd.func6
    (ChangeSpec.witness_shaped (enc := enc) (C := Tryd.checked) (os := os) (X := fun w _ => laidMetH Tryd.prog Rows.synsTellsRow.laid w) false (World.doorLaid Tryd.prog doorSteps os) #[.slice none 0 0, .slice none 0 0, .slice none 0 0, .agg #[.int .i64 0, .int .i64 0, .bool false, .string .empty, .int .i64 0, .int .i64 0, .int .i64 0, .bool false, .int .i64 0, .bool false, .int .i64 0, .string .empty, .int .i64 0]] 8 rfl (World.shaped_of_RefB (by kernel_rfl) (by kernel_rfl)) (by kernel_rfl) (by kernel_rfl) (by kernel_rfl) (door_met os _)) ?_
  intro W base args ds gs before hval0 hW hcnd hsz0 hL _
  have hsz : (DataW.weightsEach Tryd.prog (Tryd.f6.params.toList ++ Rows.synsTellsSpec.plain.varTypes Tryd.prog) (ds ++ gs)).all (· ≤ reachBytes) = true := hsz0
  clear hsz0
  have hval : ∀ (j : Nat) t v, Tryd.f6.params[j]? = some t → args[j]? = some v → Value.okWide Tryd.prog W .any base t v := hval0
  have hW' := hW
  obtain ⟨p, q, hA0, hV, rfl, hfz, hnd⟩ := hW
  have hA : DataW.TrodAll enc Tryd.prog W 0 (fun _ => true) true Tryd.f6.params.toList args.toList ds p := hA0
  rw [Tryd.params6] at hA hval hsz
  obtain ⟨v0, vs0, d0, ds0, p0, q0, hargs, rfl, rfl, h0, r0⟩ := trodAll_cons hA
  obtain ⟨v1, vs1, d1, ds1, p1, q1, rfl, rfl, rfl, h1, r1⟩ := trodAll_cons r0
  obtain ⟨v2, vs2, d2, ds2, p2, q2, rfl, rfl, rfl, h2, r2⟩ := trodAll_cons r1
  obtain ⟨v3, vs3, d3, ds3, p3, q3, rfl, rfl, rfl, h3, r3⟩ := trodAll_cons r2
  obtain ⟨rfl, rfl, rfl⟩ := trodAll_nil r3
  obtain rfl : args = #[v0, v1, v2, v3] := by cases args; simp_all
  obtain ⟨rfl, rfl⟩ := trodVars_none hV
  obtain ⟨A0, c0, z0, rfl, hc0, hm0, hr0, w0⟩ := open_row Tryd.underlying44 Tryd.underlying5 (by kernel_rfl) (of_decide_eq_true (by kernel_rfl)) hsz (j := 0) rfl rfl (hval 0 44 v0 rfl rfl) h0
  obtain ⟨A1, c1, z1, rfl, hc1, hm1, hr1, w1⟩ := open_row Tryd.underlying35 Tryd.underlying3 (by kernel_rfl) (of_decide_eq_true (by kernel_rfl)) hsz (j := 1) rfl rfl (hval 1 35 v1 rfl rfl) h1
  obtain ⟨A2, c2, z2, rfl, hc2, hm2, hr2, w2⟩ := open_row Tryd.underlying35 Tryd.underlying3 (by kernel_rfl) (of_decide_eq_true (by kernel_rfl)) hsz (j := 2) rfl rfl (hval 2 35 v2 rfl rfl) h2
  obtain ⟨it3, rfl, b3, e3, m3, n3⟩ := open_item hsz (j := 3) rfl rfl (hval 3 29 v3 rfl rfl) h3
  clear hA0 hval0
  have hwalk : Calls Tryd.prog 6 #[.slice A0 z0.length c0, .slice A1 z1.length c1, .slice A2 z2.length c2, ItV it3] W (RetB (.bool true) W) := (walk_SynsTells A0 c0 z0 A1 c1 z1 A2 c2 z2 it3 W (Sn.tab_of hL) b3 e3 m3 n3 hr0 hr1 hr2)
  refine hwalk.mono fun e W' hret => ?_
  obtain ⟨he, hb⟩ := hret
  subst he
  exact ⟨_, rfl, law_post (tb := 4) laidOut (by rw [Tryd.params6]; decide +kernel) (by kernel_rfl) Tryd.underlying4 rfl hW' rfl hb⟩

theorem row_holds : Rows.SynsTellsSaid :=
  OpenClaim.holds_of_wide 6 Tryd.f6 rfl rfl rfl rfl rfl rfl rfl ⟨rfl, rfl, rfl, rfl, rfl⟩ rfl rfl rfl rfl rfl (by kernel_rfl) Tryd.func6 (by kernel_rfl)
    (of_decide_eq_true (by kernel_rfl)) (by unfold Func.isWrapper; first | (rw [if_pos (by decide +kernel)]; kernel_rfl) | (rw [if_neg (by decide +kernel)]; exact ⟨rfl, rfl⟩))
    (fun os started H enc _ => lifted os started H enc)
theorem proved : Rows.SynsTellsCardSaid :=
  Claim7.holds_tied_plain_at .later [] [.data, .data, .data, .sentinel, .sentinel, .data, .data] true (true, "184d67ee336c639bfc62d61718a32aa79c6b6e3f8118ede80c236ab81a152832") true
    row_holds (fun _ h => by cases h) (by kernel_rfl) (fun _ h => by cases h) synsTells_row_tie rfl ⟨rfl, rfl⟩ (by kernel_rfl) rfl
    (fun f fn hf hfn => by
      obtain rfl : f = 6 := Option.some.inj ((show Tryd.prog.funcNamed "augury/augurylaw5.SynsTells" = some 6 by kernel_rfl).symm.trans hf) |>.symm
      obtain rfl : fn = Tryd.f6 := (Option.some.inj (Tryd.func6.symm.trans hfn)).symm
      exact ⟨by kernel_rfl, fun j t ht => by
        rw [Tryd.params6] at ht
        have hm : t ∈ [44, 35, 35, 29] := by simpa using Array.mem_of_getElem? ht
        have hall : ([44, 35, 35, 29].all fun u => !Tryd.prog.wantsStandIn u) = true := by kernel_rfl
        exact (show Tryd.prog.wantsStandIn t = false by simpa using List.all_eq_true.1 hall t hm)⟩)
    (by kernel_rfl)
end Go.Proofs.YtcpbbkpfickfiaaDoor.synsTells
