/- The contract of the statements' own check of what the document fixes (augurylaw3.awake): it is true. -/
import Derived.Test.YtlmchkajlecmeaaOsTwo
import Derived.Lib.SlBytesConst
set_option linter.unusedVariables false
set_option linter.unusedSimpArgs false
namespace Go.Proofs.Ytlmchkajlecmeaa
open Go.RowKit
theorem bB (x : Int) (h : 0 ≤ x ∧ x < 256) : Cd.isB [x] := fun y hy => by simp at hy; subst hy; exact h
theorem two_alloc {W w : World} {Z : Nat → Prop} {P Q : SetP} (h : Two W Z w P Q) (hP : Stable P) (hQ : Stable Q) (o : Obj) : Two W Z (w.alloc o) P Q := h.up hP hQ (upA (up0 w) o)
set_option maxRecDepth 100000 in
set_option maxHeartbeats 4000000 in
theorem awake3 (w : World) : Calls Try.prog 8 #[] w (RetB (.bool true) w) := by
  have kc : ∀ (w : World) (g : Nat) (C : Array Value) (n c : Nat), g = w.heap.size → (convert 25 25 (.slice (some ⟨g, 0, none⟩) n c)).run Try.prog (w.alloc (.cells C 5)) = .ok (.slice (some ⟨g, 0, none⟩) n c) (w.alloc (.cells C 5 (C.size, C.size + 1))) := fun w g C n c hg => by
    rw [hg]; exact Lib.run_convert_bytes_const (P := Try.prog) w 25 5 C n c Try.underlying25 Try.underlying5
  go_enter Try.func8, Try.ntmps8
  go_wp2_with fail
  refine (new_one 2 w w (up0 w)).mono ?_
  rintro e w1 ⟨g, rfl, h1⟩
  go_wp2_with fail
  refine ((two_alloc h1 (cs_st _ _ _) no_st _).add no_st (key := [98]) rfl (Rd.litG _ #[.int .u8 98] _ _ _ (by simp)) (bB 98 (by decide)) (by simp) (h1.fresh (Nat.le_refl _))).mono ?_
  rintro e w2 ⟨rfl, h2, _⟩
  rw [show ansV (mostOf 2) [] [98] = .tuple #[.int .i64 0, .bool true, .bool true] from by unfold ansV; rw [show Os.ans (mostOf 2) [] [98] = (0, true, true) by decide]]
  rw [show Os.put (mostOf 2) [] [98] = [[98]] by decide] at h2
  go_wp2_with fail
  refine ((two_alloc h2 (cs_st _ _ _) no_st _).add no_st (key := [97]) rfl (Rd.litG _ #[.int .u8 97] _ _ _ (by simp)) (bB 97 (by decide)) (by simp) (h2.fresh (Nat.le_refl _))).mono ?_
  rintro e w3 ⟨rfl, h3, _⟩
  rw [show ansV (mostOf 2) [[98]] [97] = .tuple #[.int .i64 1, .bool true, .bool true] from by unfold ansV; rw [show Os.ans (mostOf 2) [[98]] [97] = (1, true, true) by decide]]
  rw [show Os.put (mostOf 2) [[98]] [97] = [[98], [97]] by decide] at h3
  go_wp2_with fail
  refine ((two_alloc h3 (cs_st _ _ _) no_st _).add no_st (key := [98]) rfl (Rd.litG _ #[.int .u8 98] _ _ _ (by simp)) (bB 98 (by decide)) (by simp) (h3.fresh (Nat.le_refl _))).mono ?_
  rintro e w4 ⟨rfl, h4, _⟩
  rw [show ansV (mostOf 2) [[98], [97]] [98] = .tuple #[.int .i64 0, .bool false, .bool true] from by unfold ansV; rw [show Os.ans (mostOf 2) [[98], [97]] [98] = (0, false, true) by decide]]
  rw [show Os.put (mostOf 2) [[98], [97]] [98] = [[98], [97]] by decide] at h4
  go_wp2_with fail
  refine ((two_alloc h4 (cs_st _ _ _) no_st _).add no_st (key := [99]) rfl (Rd.litG _ #[.int .u8 99] _ _ _ (by simp)) (bB 99 (by decide)) (by simp) (h4.fresh (Nat.le_refl _))).mono ?_
  rintro e w5 ⟨rfl, h5, _⟩
  rw [show ansV (mostOf 2) [[98], [97]] [99] = .tuple #[.int .i64 0, .bool false, .bool false] from by unfold ansV; rw [show Os.ans (mostOf 2) [[98], [97]] [99] = (0, false, false) by decide]]
  rw [show Os.put (mostOf 2) [[98], [97]] [99] = [[98], [97]] by decide] at h5
  go_wp2_with fail
  refine (h5.at_ 1).mono ?_
  intro e w6 h6
  unfold AtPost at h6
  rw [if_pos (by decide)] at h6
  obtain ⟨A6, c6, rfl, hc6, hm6, ho6, hr6, hb6⟩ := h6
  have h6 := h5.up (cs_st _ _ _) no_st hb6
  rw [show Os.keyAt [[98], [97]] (Int.toNat 1) = [97] by decide] at *
  have k6 : (convert 25 9 (.slice A6 1 c6)).run Try.prog w6 = .ok (.string ⟨#[97]⟩) w6 := conv_any (n := 1) hr6 rfl 25 5 9 Try.underlying25 Try.underlying5 Try.underlying9
  clear ho6
  go_wp2_with fail
  refine ((two_alloc h6.wide (cs_st _ _ _) no_st _).rank no_st (key := [98]) rfl (Rd.litG _ #[.int .u8 98] _ _ _ (by simp)) (bB 98 (by decide)) (by simp) (h6.wide.fresh (Nat.le_refl _))).mono ?_
  rintro e w7 ⟨rfl, h7, _⟩
  rw [show Os.rk [[98], [97]] [98] = 1 by decide]
  go_wp2_with fail
  refine ((two_alloc h7 (cs_st _ _ _) no_st _).rank no_st (key := [122, 122]) rfl (Rd.litG _ #[.int .u8 122, .int .u8 122] _ _ _ (by simp)) (fun y hy => by simp at hy; subst hy; decide) (by simp) (h7.fresh (Nat.le_refl _))).mono ?_
  rintro e w8 ⟨rfl, h8, _⟩
  rw [show Os.rk [[98], [97]] [122, 122] = 2 by decide]
  go_wp2_with fail
  refine h8.len.mono ?_
  rintro e w9 ⟨rfl, rfl⟩
  go_wp2_with fail
  refine ((two_alloc h8 (cs_st _ _ _) no_st _).has (key := [97]) rfl (Rd.litG _ #[.int .u8 97] _ _ _ (by simp)) (bB 97 (by decide)) (by simp)).mono ?_
  rintro e w9 ⟨rfl, q9, rfl⟩
  rw [show (Os.idx [[98], [97]] [97]).isSome = true by decide]
  go_wp2_with fail
  have h9 := two_alloc ((two_alloc h8 (cs_st _ _ _) no_st (.cells #[.int .u8 97] 5 (1, 2))).up (cs_st _ _ _) no_st (upD (up0 _) q9)) (cs_st _ _ _) no_st (.cells #[.int .u8 99] 5 (1, 2))
  refine (h9.has (key := [99]) rfl (Rd.litG _ #[.int .u8 99] _ _ _ (by simp)) (bB 99 (by decide)) (by simp)).mono ?_
  rintro e w9 ⟨rfl, q10, rfl⟩
  rw [show (Os.idx [[98], [97]] [99]).isSome = false by decide]
  go_wp2_with fail
  go_ret
  exact RetB.b rfl rfl (upD h9.below q10)
end Go.Proofs.Ytlmchkajlecmeaa
