/- Contracts of auguryref4's ops, op, reg and Word. -/
import Derived.Test.YtmghklokbmdenaaDoorMgSy
import Derived.Test.YtmghklokbmdenaaDoorMgMem
set_option linter.unusedVariables false
set_option linter.unusedSimpArgs false
namespace Go.Proofs.YtmghklokbmdenaaDoor
open Go.RowKit
abbrev opRow : Array Value := #[.string ⟨#[]⟩, .string ⟨#[97, 100, 100]⟩, .string ⟨#[115, 117, 98]⟩, .string ⟨#[97, 110, 100]⟩, .string ⟨#[111, 114]⟩, .string ⟨#[120, 111, 114]⟩, .string ⟨#[115, 104, 108]⟩, .string ⟨#[115, 104, 114]⟩, .string ⟨#[109, 117, 108]⟩, .string ⟨#[108, 116]⟩, .string ⟨#[101, 113]⟩]
theorem op_cell {W : World} {b : Nat} (hb : W.heap[b]? = some (.cells opRow 9 (0, 0))) (k : Nat) (h : k < 10) : ∃ x, Sy.ops[k]? = some x ∧ W.cell? ⟨b, k + 1, none⟩ = some (.string (strOfNums x)) ∧ (∀ y ∈ x, 0 ≤ y ∧ y < 256) := by
  rw [cell_of_row _ _ _ _ _ _ hb]
  rcases (by omega : k = 0 ∨ k = 1 ∨ k = 2 ∨ k = 3 ∨ k = 4 ∨ k = 5 ∨ k = 6 ∨ k = 7 ∨ k = 8 ∨ k = 9) with rfl | rfl | rfl | rfl | rfl | rfl | rfl | rfl | rfl | rfl
  all_goals exact ⟨_, rfl, rfl, by decide⟩
namespace Sy
theorem opF_hit : ∀ (l : List (List Int)) (a : Int) (t : List Int) (k : Nat), l[k]? = some t → (∀ j : Nat, j < k → l[j]? ≠ some t) → opF a l t = a + k
  | [], a, t, k, h, _ => by simp at h
  | x :: l, a, t, 0, h, _ => by
    simp at h
    simp [opF, h]
  | x :: l, a, t, k + 1, h, hn => by
    have h0 : x ≠ t := by have := hn 0 (by omega); simpa using this
    rw [opF, if_neg h0, opF_hit l (a + 1) t k (by simpa using h) (fun j hj => by have := hn (j + 1) (by omega); simpa using this)]
    omega
theorem opF_miss : ∀ (l : List (List Int)) (a : Int) (t : List Int), (∀ j : Nat, l[j]? ≠ some t) → opF a l t = 0
  | [], a, t, _ => rfl
  | x :: l, a, t, hn => by
    have h0 : x ≠ t := by have := hn 0; simpa using this
    rw [opF, if_neg h0, opF_miss l (a + 1) t (fun j => by have := hn (j + 1); simpa using this)]
end Sy
theorem str_beq2 {xs ys : List Int} (hx : ∀ y ∈ xs, 0 ≤ y ∧ y < 256) (hy : ∀ y ∈ ys, 0 ≤ y ∧ y < 256) : ((strOfNums xs).toList == (strOfNums ys).toList) = decide (xs = ys) := by
  rw [Lib.strOfNums_toList, Lib.strOfNums_toList, Bool.eq_iff_iff, beq_iff_eq, decide_eq_true_eq]
  exact ⟨Cd.bytesOf_inj hx hy, fun h => by rw [h]⟩
theorem str_inj {xs ys : List Int} (hx : ∀ y ∈ xs, 0 ≤ y ∧ y < 256) (hy : ∀ y ∈ ys, 0 ≤ y ∧ y < 256) (h : strOfNums xs = strOfNums ys) : xs = ys := by
  have e : (strOfNums xs).data.toList = (strOfNums ys).data.toList := by rw [h]
  rw [strOfNums_data, strOfNums_data] at e
  have key : ∀ (xs ys : List Int), (∀ y ∈ xs, 0 ≤ y ∧ y < 256) → (∀ y ∈ ys, 0 ≤ y ∧ y < 256) → xs.map (fun n => UInt8.ofNat n.toNat) = ys.map (fun n => UInt8.ofNat n.toNat) → xs = ys := by
    intro xs
    induction xs with
    | nil => intro ys _ _ h; cases ys with | nil => rfl | cons y ys => simp at h
    | cons x xs ih =>
      intro ys h1 h2 h
      cases ys with
      | nil => simp at h
      | cons y ys =>
        simp only [List.map_cons, List.cons.injEq] at h
        have hx := h1 x (by simp)
        have hy := h2 y (by simp)
        have e1 : (UInt8.ofNat x.toNat).toNat = (UInt8.ofNat y.toNat).toNat := by rw [h.1]
        simp at e1
        have e2 : x = y := by omega
        rw [e2, ih ys (fun z hz => h1 z (by simp [hz])) (fun z hz => h2 z (by simp [hz])) h.2]
  exact key xs ys hx hy e
abbrev woRow : Array Value := #[.string ⟨#[119, 105, 100, 116, 104]⟩, .string ⟨#[119, 105, 110, 100, 111, 119]⟩, .string ⟨#[102, 117, 101, 108]⟩, .string ⟨#[112, 117, 98, 108, 105, 99]⟩, .string ⟨#[115, 101, 99, 114, 101, 116]⟩, .string ⟨#[109, 111, 118]⟩, .string ⟨#[108, 111, 97, 100]⟩, .string ⟨#[115, 116, 111, 114, 101]⟩, .string ⟨#[99, 109, 111, 118]⟩, .string ⟨#[98, 114]⟩, .string ⟨#[106, 109, 112]⟩, .string ⟨#[99, 97, 108, 108]⟩, .string ⟨#[105, 110, 100]⟩, .string ⟨#[114, 101, 116]⟩, .string ⟨#[102, 101, 110, 99, 101]⟩, .string ⟨#[104, 97, 108, 116]⟩]
theorem wo_cell {W : World} {b : Nat} (hb : W.heap[b]? = some (.cells woRow 9 (0, 0))) (k : Nat) (h : k < 16) : ∃ x, Sy.words[k]? = some x ∧ W.cell? ⟨b, k, none⟩ = some (.string (strOfNums x)) ∧ (∀ y ∈ x, 0 ≤ y ∧ y < 256) := by
  rw [cell_of_row _ _ _ _ _ _ hb]
  rcases (by omega : k = 0 ∨ k = 1 ∨ k = 2 ∨ k = 3 ∨ k = 4 ∨ k = 5 ∨ k = 6 ∨ k = 7 ∨ k = 8 ∨ k = 9 ∨ k = 10 ∨ k = 11 ∨ k = 12 ∨ k = 13 ∨ k = 14 ∨ k = 15) with rfl | rfl | rfl | rfl | rfl | rfl | rfl | rfl | rfl | rfl | rfl | rfl | rfl | rfl | rfl | rfl
  all_goals exact ⟨_, rfl, rfl, by decide⟩
end Go.Proofs.YtmghklokbmdenaaDoor
