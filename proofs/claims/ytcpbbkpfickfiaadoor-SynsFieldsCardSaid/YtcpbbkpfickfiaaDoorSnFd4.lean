/- The walk of SynsFields where the kind is 4. -/
import Derived.Test.YtcpbbkpfickfiaaDoorSnFdB
set_option linter.unusedVariables false
set_option linter.unusedSimpArgs false
namespace Go.Proofs.YtcpbbkpfickfiaaDoor
open Go.RowKit
set_option maxRecDepth 100000 in
set_option maxHeartbeats 20000000 in
theorem walkF_4 (op d a b kind : Int) (w : World) (T : Sn.Tab w) (hk : bits .and .i64 kind 7 = 4) : Calls Tryd.prog 4 #[.int .i64 op, .int .i64 d, .int .i64 a, .int .i64 b, .int .i64 kind] w (RetB (.bool true) w) := by
  obtain ⟨q, hq', mq⟩ := mod_of op 10 (by decide)
  have hq : q < 10 := by omega
  obtain ⟨r, hr, mr⟩ := and3_of d
  have nq := and255_nn op
  have HT := Lib.hid T
  have hmf := hmf
  have n1 := heap_alloc_new w (.cells flOps 9)
  clear T
  go_enter Tryd.func4, Tryd.ntmps4
  go_wp2_with fail
  have e1 : (w.alloc (.cells flOps 9)).heap.size = w.heap.size + 1 := by simp
  have e2 : ((w.alloc (.cells flOps 9)).alloc (.cells rgRow 9)).heap.size = w.heap.size + 1 + 1 := by simp
  have ho3 : (((w.alloc (.cells flOps 9)).alloc (.cells rgRow 9)).alloc (.cells #[.slice (some ⟨w.heap.size + 1, 0, none⟩) 4 4] 34)).heap[w.heap.size]? = some (.cells flOps 9 (0, 0)) := (heap_alloc_old _ _ (by omega)).trans ((heap_alloc_old _ _ (by omega)).trans n1)
  have hg3 : (((w.alloc (.cells flOps 9)).alloc (.cells rgRow 9)).alloc (.cells #[.slice (some ⟨w.heap.size + 1, 0, none⟩) 4 4] 34)).heap[w.heap.size + 1]? = some (.cells rgRow 9 (0, 0)) := (heap_alloc_old _ _ (by omega)).trans (by have := heap_alloc_new (w.alloc (.cells flOps 9)) (.cells rgRow 9); rwa [e1] at this)
  have hb3 : (((w.alloc (.cells flOps 9)).alloc (.cells rgRow 9)).alloc (.cells #[.slice (some ⟨w.heap.size + 1, 0, none⟩) 4 4] 34)).heap[w.heap.size + 1 + 1]? = some (.cells #[.slice (some ⟨w.heap.size + 1, 0, none⟩) 4 4] 34 (0, 0)) := by have := heap_alloc_new ((w.alloc (.cells flOps 9)).alloc (.cells rgRow 9)) (.cells #[.slice (some ⟨w.heap.size + 1, 0, none⟩) 4 4] 34); rwa [e2] at this
  have hw3 := upA (upA (upA (up0 w) (.cells flOps 9)) (.cells rgRow 9)) (.cells #[.slice (some ⟨w.heap.size + 1, 0, none⟩) 4 4] 34)
  clear n1 e1 e2
  generalize (((w.alloc (.cells flOps 9)).alloc (.cells rgRow 9)).alloc (.cells #[.slice (some ⟨w.heap.size + 1, 0, none⟩) 4 4] 34)) = W3 at *
  have l1 := (Array.getElem?_eq_some_iff.1 ho3).1
  have l2 := (Array.getElem?_eq_some_iff.1 hg3).1
  have l3 := (Array.getElem?_eq_some_iff.1 hb3).1
  refine (flv_any a _ _ _ _ _ (cell_of_row _ _ 0 _ _ _ hb3) hg3).mono ?_
  rintro e w5 ⟨rfl, hb5⟩
  have s5 := hb5.size
  have hw5 := upT hw3 hb5
  have ho5 := (hb5.block _ l1).trans ho3
  have hg5 := (hb5.block _ l2).trans hg3
  have hx5 := (hb5.block _ l3).trans hb3
  go_wp2_with fail
  have hz5 := heap_alloc_new w5 (.cells #[.bool (flV a).reg, .int .i64 (flV a).n] 25)
  have ho6 := (heap_alloc_old w5 (.cells #[.bool (flV a).reg, .int .i64 (flV a).n] 25) (by omega)).trans ho5
  have hg6 := (heap_alloc_old w5 (.cells #[.bool (flV a).reg, .int .i64 (flV a).n] 25) (by omega)).trans hg5
  have hx6 := (heap_alloc_old w5 (.cells #[.bool (flV a).reg, .int .i64 (flV a).n] 25) (by omega)).trans hx5
  have hw6 := upA hw5 (.cells #[.bool (flV a).reg, .int .i64 (flV a).n] 25)
  have s6 : w5.heap.size < (w5.alloc (.cells #[.bool (flV a).reg, .int .i64 (flV a).n] 25)).heap.size := by simp
  generalize w5.alloc (.cells #[.bool (flV a).reg, .int .i64 (flV a).n] 25) = W6 at *
  refine (flv_any b _ _ _ _ _ (cell_of_row _ _ 0 _ _ _ hx6) hg6).mono ?_
  rintro e w7 ⟨rfl, hb7⟩
  have s7 := hb7.size
  have hw7 := upT hw6 hb7
  have hz7 := (hb7.block _ s6).trans hz5
  have ho7 := (hb7.block _ (by omega)).trans ho6
  have hg7 := (hb7.block _ (by omega)).trans hg6
  have hx7 := (hb7.block _ (by omega)).trans hx6
  go_wp2_with fail
  have hy8 := heap_alloc_new w7 (.cells #[.bool (flV b).reg, .int .i64 (flV b).n] 25)
  have ho8 := (heap_alloc_old w7 (.cells #[.bool (flV b).reg, .int .i64 (flV b).n] 25) (by omega)).trans ho7
  have hg8 := (heap_alloc_old w7 (.cells #[.bool (flV b).reg, .int .i64 (flV b).n] 25) (by omega)).trans hg7
  have hx8 := (heap_alloc_old w7 (.cells #[.bool (flV b).reg, .int .i64 (flV b).n] 25) (by omega)).trans hx7
  have hz8 := (heap_alloc_old w7 (.cells #[.bool (flV b).reg, .int .i64 (flV b).n] 25) (by omega)).trans hz7
  have hw8 := upA hw7 (.cells #[.bool (flV b).reg, .int .i64 (flV b).n] 25)
  have s8 : w7.heap.size < (w7.alloc (.cells #[.bool (flV b).reg, .int .i64 (flV b).n] 25)).heap.size := by simp
  generalize w7.alloc (.cells #[.bool (flV b).reg, .int .i64 (flV b).n] 25) = W8 at *
  have ta := flT_len a; have tb := flT_len b
  obtain ⟨go_, so_⟩ := flOps_at q hq
  obtain ⟨gr_, sr_⟩ := rgRow_at r hr
  have c1 : W8.cell? ⟨w.heap.size, q, none⟩ = some (.string (strOfNums (Sy.opT ((q : Int) + 1)))) := by rw [cell_of_row _ _ _ _ _ _ ho8]; exact go_
  have c2 : W8.cell? ⟨w.heap.size + 1, r, none⟩ = some (.string (strOfNums (Sy.rT r))) := by rw [cell_of_row _ _ _ _ _ _ hg8]; exact gr_
  have c3 := cell_of_row _ _ 0 _ _ _ hx8
  have c4 := cell_of_row _ _ 0 _ _ _ hz8; have c5 := cell_of_row _ _ 1 _ _ _ hz8
  have c6 := cell_of_row _ _ 0 _ _ _ hy8; have c7 := cell_of_row _ _ 1 _ _ _ hy8
  have e1 : w.heap.size < W8.heap.size := by omega
  have e2 : w.heap.size + 1 < W8.heap.size := by omega
  have e5 : w5.heap.size < W8.heap.size := by omega
  have e3 : w.heap.size + 1 + 1 < W8.heap.size := by omega
  try simp only [mq]
  clear hb5 hb7 hz5 hz7 ho3 ho5 ho6 ho7 hg3 hg5 hg6 hg7 hb3 hx5 hx6 hx7
  have okA := flV_ok a; have okB := flV_ok b
  have OKA := Lib.hid okA; have OKB := Lib.hid okB
  clear okA okB
  generalize flV a = VA at *
  generalize flV b = VB at *
  generalize hSO : strOfNums (Sy.opT ((q : Int) + 1)) = SO at *
  generalize hSR : strOfNums (Sy.rT (r : Int)) = SR at *
  generalize hSA : strOfNums (Sy.vT VA) = SA at *
  generalize hSB : strOfNums (Sy.vT VB) = SB at *
  have HSO := Lib.hid hSO; have HSR := Lib.hid hSR; have HSA := Lib.hid hSA; have HSB := Lib.hid hSB
  clear hSO hSR hSA hSB
  go_region
  clear c1 c2 c3 c4 c5 c6 c7
  obtain ⟨I, hI⟩ : ∃ I, I = Obj.cells #[.int .i64 1, .int .i64 ((q : Int) + 1), .int .i64 r, .bool VA.reg, .int .i64 VA.n, .bool VB.reg, .int .i64 VB.n, .string { data := #[] }, .int .i64 0] 27 := ⟨_, rfl⟩
  rw [← hI]
  have hi9 : (W8.alloc I).drew.heap[W8.heap.size]? = some (Obj.cells #[.int .i64 1, .int .i64 ((q : Int) + 1), .int .i64 r, .bool VA.reg, .int .i64 VA.n, .bool VB.reg, .int .i64 VB.n, .string { data := #[] }, .int .i64 0] 27) := (heap_alloc_new W8 I).trans (congrArg some hI)
  have ho9 := (heap_alloc_old W8 I e1).trans ho8
  have hg9 := (heap_alloc_old W8 I e2).trans hg8
  have hx9 := (heap_alloc_old W8 I e3).trans hx8
  have hz9 := (heap_alloc_old W8 I e5).trans hz8
  have hy9 := (heap_alloc_old W8 I s8).trans hy8
  change (W8.alloc I).drew.heap[_]? = _ at ho9 hg9 hx9 hz9 hy9
  have s9 : W8.heap.size < (W8.alloc I).drew.heap.size := by show W8.heap.size < (W8.alloc I).heap.size; simp
  have hw9 : Below w.heap.size w (W8.alloc I).drew := (upA hw8 I).drew
  generalize (W8.alloc I).drew = W9 at *
  have f1 : w.heap.size < W9.heap.size := by omega
  have f2 : w.heap.size + 1 < W9.heap.size := by omega
  have f3 : w.heap.size + 1 + 1 < W9.heap.size := by omega
  have f5 : w5.heap.size < W9.heap.size := by omega
  have f7 : w7.heap.size < W9.heap.size := by omega
  have c1 : W9.cell? ⟨w.heap.size, q, none⟩ = some (.string SO) := by rw [cell_of_row _ _ _ _ _ _ ho9]; exact go_
  have c2 : W9.cell? ⟨w.heap.size + 1, r, none⟩ = some (.string SR) := by rw [cell_of_row _ _ _ _ _ _ hg9]; exact gr_
  have c3 := cell_of_row _ _ 0 _ _ _ hx9
  have c4 := cell_of_row _ _ 0 _ _ _ hz9; have c5 := cell_of_row _ _ 1 _ _ _ hz9
  have c6 := cell_of_row _ _ 0 _ _ _ hy9; have c7 := cell_of_row _ _ 1 _ _ _ hy9
  have n1 := Nat.ne_of_lt e1; have n2 := Nat.ne_of_lt e2; have n3 := Nat.ne_of_lt e3; have n5 := Nat.ne_of_lt e5; have n8 := Nat.ne_of_lt s8
  have r0 : (0 : Int) ≤ (r : Int) := by omega
  have r1 : (r : Int) < 4 := by omega
  have q0 : (0 : Int) ≤ (q : Int) := by omega
  clear ho9 hg9 hx9 hz9 hy9
  have hR : Sy.okR (r : Int) := ⟨by omega, by omega⟩
  have hO : Sy.okO ((q : Int) + 1) := ⟨by omega, by omega⟩
  have HR := Lib.hid hR; have HO := Lib.hid hO
  clear hR hO
  clear hmf l1 l2 l3 s5 s6 s7 s8 s9 hw3 hw5 hw6 hw7 hw8 f1 f2 f3 f5 f7 e2 e3 e5 mq mr nq hI
  have hwq : IntKind.i64.wrap ((q : Int) + 1) = (q : Int) + 1 := IntWalk.i64_in _ (by omega)
  go_wp2_with fail
  refine wp_region_noPanic ?_
  refine wp_region_held_drew (S := fun w' => w'.cell? ⟨w.heap.size, q, none⟩ = some (.string SO) ∧ w'.cell? ⟨w5.heap.size, 0, none⟩ = some (.bool VA.reg) ∧ w'.cell? ⟨w5.heap.size, 1, none⟩ = some (.int .i64 VA.n) ∧ w'.cell? ⟨w7.heap.size, 0, none⟩ = some (.bool VB.reg) ∧ w'.cell? ⟨w7.heap.size, 1, none⟩ = some (.int .i64 VB.n)) (by kernel_rfl) ?_ (fun hHeld => ?_)
  · exact ⟨c1, c4, c5, c6, c7⟩
  refine wpAnyH_take (i := 0) (oi := _) (v := ?_) rfl (by kernel_rfl) (by kernel_rfl) (by kernel_rfl) (fun _ _ _ h => h) (Or.inl ⟨by kernel_rfl, ?_⟩) (by assumption) ?_
  rotate_left
  · (intro w hSw; (try dsimp only at hSw); go_simp; try (with_reducible rfl))
  (try simp only [List.getElem_toArray, List.getElem_cons_succ, List.getElem_cons_zero, Act.put, List.setIfInBounds_toArray, List.set_cons_zero, List.set_cons_succ])
  refine wpAnyH_take (i := 1) (oi := _) (v := ?_) rfl (by kernel_rfl) (by kernel_rfl) (by kernel_rfl) (fun _ _ _ h => h) (Or.inl ⟨by kernel_rfl, ?_⟩) (by assumption) ?_
  rotate_left
  · (intro w hSw; (try dsimp only at hSw); go_simp; try (with_reducible rfl))
  (try simp only [List.getElem_toArray, List.getElem_cons_succ, List.getElem_cons_zero, Act.put, List.setIfInBounds_toArray, List.set_cons_zero, List.set_cons_succ])
  refine wpAnyH_take (i := 2) (oi := _) (v := ?_) rfl (by kernel_rfl) (by kernel_rfl) (by kernel_rfl) (fun _ _ _ h => h) (Or.inl ⟨by kernel_rfl, ?_⟩) (by assumption) ?_
  rotate_left
  · (intro w hSw; (try dsimp only at hSw); go_simp; try (with_reducible rfl))
  (try simp only [List.getElem_toArray, List.getElem_cons_succ, List.getElem_cons_zero, Act.put, List.setIfInBounds_toArray, List.set_cons_zero, List.set_cons_succ])
  refine wpAnyH_take (i := 3) (oi := _) (v := ?_) rfl (by kernel_rfl) (by kernel_rfl) (by kernel_rfl) (fun _ _ _ h => h) (Or.inl ⟨by kernel_rfl, ?_⟩) (by assumption) ?_
  rotate_left
  · (intro w hSw; (try dsimp only at hSw); go_simp; try (with_reducible rfl))
  (try simp only [List.getElem_toArray, List.getElem_cons_succ, List.getElem_cons_zero, Act.put, List.setIfInBounds_toArray, List.set_cons_zero, List.set_cons_succ])
  refine wpAnyH_take (i := 6) (oi := _) (v := ?_) rfl (by kernel_rfl) (by kernel_rfl) (by kernel_rfl) (fun _ _ _ h => h) (Or.inl ⟨by kernel_rfl, ?_⟩) (by assumption) ?_
  rotate_left
  · (intro w hSw; (try dsimp only at hSw); go_simp; try (with_reducible rfl))
  (try simp only [List.getElem_toArray, List.getElem_cons_succ, List.getElem_cons_zero, Act.put, List.setIfInBounds_toArray, List.set_cons_zero, List.set_cons_succ])
  refine wpAnyH_take (i := 9) (oi := _) (v := ?_) rfl (by kernel_rfl) (by kernel_rfl) (by kernel_rfl) (fun _ _ _ h => h) (Or.inl ⟨by kernel_rfl, ?_⟩) (by assumption) ?_
  rotate_left
  · (intro w hSw; (try dsimp only at hSw); go_simp; try (with_reducible rfl))
  (try simp only [List.getElem_toArray, List.getElem_cons_succ, List.getElem_cons_zero, Act.put, List.setIfInBounds_toArray, List.set_cons_zero, List.set_cons_succ])
  refine wpAnyH_take (i := 12) (oi := _) (v := ?_) rfl (by kernel_rfl) (by kernel_rfl) (by kernel_rfl) (fun _ _ _ h => h) (Or.inl ⟨by kernel_rfl, ?_⟩) (by assumption) ?_
  rotate_left
  · (intro w hSw; (try dsimp only at hSw); go_simp; try (with_reducible rfl))
  (try simp only [List.getElem_toArray, List.getElem_cons_succ, List.getElem_cons_zero, Act.put, List.setIfInBounds_toArray, List.set_cons_zero, List.set_cons_succ])
  refine wpAnyH_take (i := 13) (oi := _) (v := ?_) rfl (by kernel_rfl) (by kernel_rfl) (by kernel_rfl) (fun _ _ _ h => h) (Or.inl ⟨by kernel_rfl, ?_⟩) (by assumption) ?_
  rotate_left
  · (intro w hSw; (try dsimp only at hSw); go_simp; try (with_reducible rfl))
  (try simp only [List.getElem_toArray, List.getElem_cons_succ, List.getElem_cons_zero, Act.put, List.setIfInBounds_toArray, List.set_cons_zero, List.set_cons_succ])
  refine wpAnyH_take (i := 14) (oi := _) (v := ?_) rfl (by kernel_rfl) (by kernel_rfl) (by kernel_rfl) (fun _ _ _ h => h) (Or.inl ⟨by kernel_rfl, ?_⟩) (by assumption) ?_
  rotate_left
  · (intro w hSw; (try dsimp only at hSw); go_simp; try (with_reducible rfl))
  (try simp only [List.getElem_toArray, List.getElem_cons_succ, List.getElem_cons_zero, Act.put, List.setIfInBounds_toArray, List.set_cons_zero, List.set_cons_succ])
  refine wpAnyH_take (i := 15) (oi := _) (v := ?_) rfl (by kernel_rfl) (by kernel_rfl) (by kernel_rfl) (fun _ _ _ h => h) (Or.inl ⟨by kernel_rfl, ?_⟩) (by assumption) ?_
  rotate_left
  · (intro w hSw; (try dsimp only at hSw); go_simp; try (with_reducible rfl))
  (try simp only [List.getElem_toArray, List.getElem_cons_succ, List.getElem_cons_zero, Act.put, List.setIfInBounds_toArray, List.set_cons_zero, List.set_cons_succ])
  refine wpAnyH_take (i := 4) (oi := _) (v := ?_) rfl (by kernel_rfl) (by kernel_rfl) (by kernel_rfl) (fun _ _ _ h => h) (Or.inl ⟨by kernel_rfl, ?_⟩) (by assumption) ?_
  rotate_left
  · (intro w hSw; (try dsimp only at hSw); go_simp; (try rw [if_neg (by first | omega | (simp only [ByteArray.size_append]; omega) | (simp only [ByteArray.size_append, ByteArray.size]; simp; omega))]); try (with_reducible rfl))
  (try simp only [List.getElem_toArray, List.getElem_cons_succ, List.getElem_cons_zero, Act.put, List.setIfInBounds_toArray, List.set_cons_zero, List.set_cons_succ])
  refine wpAnyH_take (i := 5) (oi := _) (v := ?_) rfl (by kernel_rfl) (by kernel_rfl) (by kernel_rfl) (fun _ _ _ h => h) (Or.inl ⟨by kernel_rfl, ?_⟩) (by assumption) ?_
  rotate_left
  · (intro w hSw; (try dsimp only at hSw); go_simp; (try rw [if_neg (by first | omega | (simp only [ByteArray.size_append]; omega) | (simp only [ByteArray.size_append, ByteArray.size]; simp; omega))]); try (with_reducible rfl))
  (try simp only [List.getElem_toArray, List.getElem_cons_succ, List.getElem_cons_zero, Act.put, List.setIfInBounds_toArray, List.set_cons_zero, List.set_cons_succ])
  refine wpAnyH_take (i := 7) (oi := _) (v := ?_) rfl (by kernel_rfl) (by kernel_rfl) (by kernel_rfl) (fun _ _ _ h => h) (Or.inl ⟨by kernel_rfl, ?_⟩) (by assumption) ?_
  rotate_left
  · (intro w hSw; (try dsimp only at hSw); go_simp; (try rw [if_neg (by first | omega | (simp only [ByteArray.size_append]; omega) | (simp only [ByteArray.size_append, ByteArray.size]; simp; omega))]); try (with_reducible rfl))
  (try simp only [List.getElem_toArray, List.getElem_cons_succ, List.getElem_cons_zero, Act.put, List.setIfInBounds_toArray, List.set_cons_zero, List.set_cons_succ])
  refine wpAnyH_take (i := 8) (oi := _) (v := ?_) rfl (by kernel_rfl) (by kernel_rfl) (by kernel_rfl) (fun _ _ _ h => h) (Or.inl ⟨by kernel_rfl, ?_⟩) (by assumption) ?_
  rotate_left
  · (intro w hSw; (try dsimp only at hSw); go_simp; (try rw [if_neg (by first | omega | (simp only [ByteArray.size_append]; omega) | (simp only [ByteArray.size_append, ByteArray.size]; simp; omega))]); try (with_reducible rfl))
  (try simp only [List.getElem_toArray, List.getElem_cons_succ, List.getElem_cons_zero, Act.put, List.setIfInBounds_toArray, List.set_cons_zero, List.set_cons_succ])
  refine wpAnyH_take (i := 10) (oi := _) (v := ?_) rfl (by kernel_rfl) (by kernel_rfl) (by kernel_rfl) (fun _ _ _ h => h) (Or.inl ⟨by kernel_rfl, ?_⟩) (by assumption) ?_
  rotate_left
  · (intro w hSw; (try dsimp only at hSw); go_simp; (try rw [if_neg (by first | omega | (simp only [ByteArray.size_append]; omega) | (simp only [ByteArray.size_append, ByteArray.size]; simp; omega))]); try (with_reducible rfl))
  (try simp only [List.getElem_toArray, List.getElem_cons_succ, List.getElem_cons_zero, Act.put, List.setIfInBounds_toArray, List.set_cons_zero, List.set_cons_succ])
  refine wpAnyH_take (i := 11) (oi := _) (v := ?_) rfl (by kernel_rfl) (by kernel_rfl) (by kernel_rfl) (fun _ _ _ h => h) (Or.inl ⟨by kernel_rfl, ?_⟩) (by assumption) ?_
  rotate_left
  · (intro w hSw; (try dsimp only at hSw); go_simp; (try rw [if_neg (by first | omega | (simp only [ByteArray.size_append]; omega) | (simp only [ByteArray.size_append, ByteArray.size]; simp; omega))]); try (with_reducible rfl))
  (try simp only [List.getElem_toArray, List.getElem_cons_succ, List.getElem_cons_zero, Act.put, List.setIfInBounds_toArray, List.set_cons_zero, List.set_cons_succ])
  refine wpAnyH_take (i := 16) (oi := _) (v := ?_) rfl (by kernel_rfl) (by kernel_rfl) (by kernel_rfl) (fun _ _ _ h => h) (Or.inl ⟨by kernel_rfl, ?_⟩) (by assumption) ?_
  rotate_left
  · (intro w hSw; (try dsimp only at hSw); go_simp; try (with_reducible rfl))
  (try simp only [List.getElem_toArray, List.getElem_cons_succ, List.getElem_cons_zero, Act.put, List.setIfInBounds_toArray, List.set_cons_zero, List.set_cons_succ])
  refine wpAnyH_take (i := 17) (oi := _) (v := ?_) rfl (by kernel_rfl) (by kernel_rfl) (by kernel_rfl) (fun _ _ _ h => h) (Or.inl ⟨by kernel_rfl, ?_⟩) (by assumption) ?_
  rotate_left
  · (intro w hSw; (try dsimp only at hSw); go_simp; try (with_reducible rfl))
  (try simp only [List.getElem_toArray, List.getElem_cons_succ, List.getElem_cons_zero, Act.put, List.setIfInBounds_toArray, List.set_cons_zero, List.set_cons_succ])
  refine wpAnyH_ready (rs := [18]) (by kernel_rfl) (by simp) ?_
  refine AllReadyH.cons (o := _) rfl (fun K hK => ?_) AllReadyH.nil
  refine step_storeFl rfl _ _ rfl W8.heap.size 5 ((q : Int) + 1) 0 VA VB { data := #[116, 104, 101, 114, 101] } 0 rfl rfl _ _ (show W9.drew.heap[W8.heap.size]? = _ from hi9) rfl ?_
  first | refine hK.out _ _ ?_ (fun hHeld => ?_) | (go_wp2_with fail; refine hK.out _ _ ?_ (fun hHeld => ?_))
  · exact ⟨(cell_setRow_other _ _ _ _ n1).trans c1, (cell_setRow_other _ _ _ _ n5).trans c4, (cell_setRow_other _ _ _ _ n5).trans c5, (cell_setRow_other _ _ _ _ n8).trans c6, (cell_setRow_other _ _ _ _ n8).trans c7⟩
  clear hK K
  (try simp only [List.getElem_toArray, List.getElem_cons_succ, List.getElem_cons_zero, Act.put, List.setIfInBounds_toArray, List.set_cons_zero, List.set_cons_succ])
  refine wpAnyH_done (by kernel_rfl) ?_ _
  refine NoPanic.normal ?_
  (try go_simp)
  clear hHeld
  have hbc : Below w.heap.size w (W9.drew.setRow W8.heap.size (InsC 5 ((q : Int) + 1) 0 VA VB { data := #[116, 104, 101, 114, 101] } 0)) := upS hw9.drew _ (by omega) _
  obtain ⟨i, hi⟩ : ∃ i : Sy.In, i = ⟨5, (q : Int) + 1, 0, VA, VB, [116, 104, 101, 114, 101], 0⟩ := ⟨_, rfl⟩
  have hic : (W9.drew.setRow W8.heap.size (InsC 5 ((q : Int) + 1) 0 VA VB { data := #[116, 104, 101, 114, 101] } 0)).heap[W8.heap.size]? = some (.cells (InsC i.kind i.op i.d i.a i.b (strOfNums i.name) i.target) 27 (0, 0)) := by
    rw [hi]
    exact setRow_heap _ _ _ _ _ _ (show W9.drew.heap[W8.heap.size]? = _ from hi9)
  generalize W9.drew.setRow W8.heap.size (InsC 5 ((q : Int) + 1) 0 VA VB { data := #[116, 104, 101, 114, 101] } 0) = wc at *
  have hok : Sy.Ok ⟨7, 0, false, [], i⟩ := by rw [hi]; exact .ins (.br HO.out OKA.out OKB.out there_ok)
  have hnl : i.name.length ≤ 5 := by rw [hi]; simp
  have hline : ({ data := #[98, 114, 32] } : ByteArray) ++ SO ++ ({ data := #[32] } : ByteArray) ++ SA ++ ({ data := #[44, 32] } : ByteArray) ++ SB ++ ({ data := #[44, 32, 116, 104, 101, 114, 101] } : ByteArray) = strOfNums (Sy.text ⟨7, 0, false, [], i⟩) := by rw [hi, ← HSA.out, ← HSB.out, ← HSO.out]; exact fl_br q _ _
  simp only [hline]
  clear hline hi hi9 hw9 c1 c2 c3 c4 c5 c6 c7 n1 n2 n3 n5 n8 so_ sr_ ta tb go_ gr_ e1
  have h64 := ok_64 hok
  have hA := ok_Asc hok
  have hS : Short ⟨7, 0, false, [], i⟩ := ⟨by simp, by show i.name.length ≤ _; omega⟩
  have hal := fun W TT => awake5 W TT
  have HPA := Lib.hid (fun W TT => parse_ok_ _ ⟨7, 0, false, [], i⟩ (fl_textP hok) (fl_textL hok h64 hS) W TT)
  have HPR := Lib.hid (fun W TT => print_ok_ ⟨7, 0, false, [], i⟩ _ (Sy.print_ok hok) h64 hS hA W TT)
  have hS0 : strOfNums [] = { data := #[] } := rfl
  have heql : ∀ W : World, (binOp .eql 29 (.agg #[.int .i64 7, .int .i64 0, .bool false, .string { data := #[] }, .int .i64 i.kind, .int .i64 i.op, .int .i64 i.d, .bool i.a.reg, .int .i64 i.a.n, .bool i.b.reg, .int .i64 i.b.n, .string (strOfNums i.name), .int .i64 i.target]) (.agg #[.int .i64 7, .int .i64 0, .bool false, .string { data := #[] }, .int .i64 i.kind, .int .i64 i.op, .int .i64 i.d, .bool i.a.reg, .int .i64 i.a.n, .bool i.b.reg, .int .i64 i.b.n, .string (strOfNums i.name), .int .i64 i.target])).run Tryd.prog W = .ok (.bool true) W := fun W => by
    have := eql_it ⟨7, 0, false, [], i⟩ ⟨7, 0, false, [], i⟩ W hA.a hA.a hA.b hA.b
    rw [decide_eq_true rfl] at this
    exact this
  clear hok h64 hA hS hnl hS0
  generalize Sy.text ⟨7, 0, false, [], i⟩ = tx at *
  go_wp2_with fail
  refine (HPA.out _ (HT.out.below hbc)).mono ?_
  rintro e w3 ⟨rfl, hb3⟩
  have d3 := upT hbc hb3
  have i3 := (hb3.block _ (Array.getElem?_eq_some_iff.1 hic).1).trans hic
  go_wp2_with (first
    | (refine wp_storeNew rfl _ _ rfl ⟨7, 0, false, [], i⟩ rfl rfl ?_; intro W3 hI3 hc3 hz3; have d4 := upT d3 hc3; have i4 := (hc3.block _ (Array.getElem?_eq_some_iff.1 i3).1).trans i3)
    | (refine wp_loadIt rfl _ rfl w3.heap.size rfl ⟨7, 0, false, [], i⟩ _ _ hI3 ?_))
  refine (HPR.out _ (HT.out.below d4)).mono ?_
  rintro e wq5 ⟨rfl, hbq5⟩
  have d5 := upT d4 hbq5
  have i5 := (hbq5.block _ (Array.getElem?_eq_some_iff.1 i4).1).trans i4
  have r5 := (hbq5.block w3.heap.size (Array.getElem?_eq_some_iff.1 hI3).1).trans hI3
  have cj0 : wq5.cell? ⟨w3.heap.size, 0, none⟩ = some (.int .i64 7) := cell_of_row _ _ 0 _ _ _ r5
  have cj1 : wq5.cell? ⟨w3.heap.size, 1, none⟩ = some (.int .i64 0) := cell_of_row _ _ 1 _ _ _ r5
  have cj2 : wq5.cell? ⟨w3.heap.size, 2, none⟩ = some (.bool false) := cell_of_row _ _ 2 _ _ _ r5
  have cj3 : wq5.cell? ⟨w3.heap.size, 3, none⟩ = some (.string { data := #[] }) := cell_of_row _ _ 3 _ _ _ r5
  have cj4 : wq5.cell? ⟨w3.heap.size, 4, none⟩ = some (.int .i64 i.kind) := cell_of_row _ _ 4 _ _ _ r5
  have cj5 : wq5.cell? ⟨w3.heap.size, 5, none⟩ = some (.int .i64 i.op) := cell_of_row _ _ 5 _ _ _ r5
  have cj6 : wq5.cell? ⟨w3.heap.size, 6, none⟩ = some (.int .i64 i.d) := cell_of_row _ _ 6 _ _ _ r5
  have cj7 : wq5.cell? ⟨w3.heap.size, 7, none⟩ = some (.bool i.a.reg) := cell_of_row _ _ 7 _ _ _ r5
  have cj8 : wq5.cell? ⟨w3.heap.size, 8, none⟩ = some (.int .i64 i.a.n) := cell_of_row _ _ 8 _ _ _ r5
  have cj9 : wq5.cell? ⟨w3.heap.size, 9, none⟩ = some (.bool i.b.reg) := cell_of_row _ _ 9 _ _ _ r5
  have cj10 : wq5.cell? ⟨w3.heap.size, 10, none⟩ = some (.int .i64 i.b.n) := cell_of_row _ _ 10 _ _ _ r5
  have cj11 : wq5.cell? ⟨w3.heap.size, 11, none⟩ = some (.string (strOfNums i.name)) := cell_of_row _ _ 11 _ _ _ r5
  have cj12 : wq5.cell? ⟨w3.heap.size, 12, none⟩ = some (.int .i64 i.target) := cell_of_row _ _ 12 _ _ _ r5
  have cq0 : wq5.cell? ⟨W8.heap.size, 0, none⟩ = some (.int .i64 i.kind) := cell_of_row _ _ 0 _ _ _ i5
  have cq1 : wq5.cell? ⟨W8.heap.size, 1, none⟩ = some (.int .i64 i.op) := cell_of_row _ _ 1 _ _ _ i5
  have cq2 : wq5.cell? ⟨W8.heap.size, 2, none⟩ = some (.int .i64 i.d) := cell_of_row _ _ 2 _ _ _ i5
  have cq3 : wq5.cell? ⟨W8.heap.size, 3, none⟩ = some (.bool i.a.reg) := cell_of_row _ _ 3 _ _ _ i5
  have cq4 : wq5.cell? ⟨W8.heap.size, 4, none⟩ = some (.int .i64 i.a.n) := cell_of_row _ _ 4 _ _ _ i5
  have cq5 : wq5.cell? ⟨W8.heap.size, 5, none⟩ = some (.bool i.b.reg) := cell_of_row _ _ 5 _ _ _ i5
  have cq6 : wq5.cell? ⟨W8.heap.size, 6, none⟩ = some (.int .i64 i.b.n) := cell_of_row _ _ 6 _ _ _ i5
  have cq7 : wq5.cell? ⟨W8.heap.size, 7, none⟩ = some (.string (strOfNums i.name)) := cell_of_row _ _ 7 _ _ _ i5
  have cq8 : wq5.cell? ⟨W8.heap.size, 8, none⟩ = some (.int .i64 i.target) := cell_of_row _ _ 8 _ _ _ i5
  clear hb3 hI3 hc3 hz3 hbq5 r5 i5 i4 i3 hic d3 d4 hbc
  go_wp2_with (go_at_call 9; refine (hal _ (HT.out.below d5)).mono ?_; rintro e w9 ⟨rfl, hb9⟩)
  go_ret
  exact ⟨rfl, upT d5 hb9⟩

end Go.Proofs.YtcpbbkpfickfiaaDoor
