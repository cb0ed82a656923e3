/- Contracts of auguryref4's letter, digit and Number. -/
import Derived.Test.YtcpbbkpfickfiaaDoorLxSigns
import Derived.Test.YtcpbbkpfickfiaaDoorLxMath2
set_option linter.unusedVariables false
set_option linter.unusedSimpArgs false
namespace Go.Proofs.YtcpbbkpfickfiaaDoor
open Go.RowKit
theorem rletter_any (c : Int) (w : World) : Calls Tryd.prog 33 #[.int .i32 c] w (Ret (.bool (Lx.lower c)) w) := by
  have key : (97 ≤ c ∧ c ≤ 122 ∧ Lx.lower c = true) ∨ (c < 97 ∧ Lx.lower c = false) ∨ (97 ≤ c ∧ 122 < c ∧ Lx.lower c = false) := by unfold Lx.lower; simp; omega
  rcases key with ⟨h1, h2, h3⟩ | ⟨h1, h3⟩ | ⟨h1, h2, h3⟩
  all_goals
    rw [h3]
    clear h3
    go_enter Tryd.func33, Tryd.ntmps33
    go_wp2
    all_goals first | (exfalso; omega) | skip
    all_goals
      go_ret
      exact ⟨by first | rfl | (simp; omega), rfl⟩
theorem rdigit_any (c : Int) (w : World) : Calls Tryd.prog 34 #[.int .i32 c] w (Ret (.bool (Lx.dig c)) w) := by
  have key : (48 ≤ c ∧ c ≤ 57 ∧ Lx.dig c = true) ∨ (c < 48 ∧ Lx.dig c = false) ∨ (48 ≤ c ∧ 57 < c ∧ Lx.dig c = false) := by unfold Lx.dig; simp; omega
  rcases key with ⟨h1, h2, h3⟩ | ⟨h1, h3⟩ | ⟨h1, h2, h3⟩
  all_goals
    rw [h3]
    clear h3
    go_enter Tryd.func34, Tryd.ntmps34
    go_wp2
    all_goals first | (exfalso; omega) | skip
    all_goals
      go_ret
      exact ⟨by first | rfl | (simp; omega), rfl⟩
namespace Lx
theorem getD_mem {l : List Int} {j : Nat} (h : j < l.length) : l.getD j 0 ∈ l := by simp [List.getD, h]
/-- how a number goes on at its j-th digit -/
theorem digs_next {q : List Int} (h0 : 0 < q.length) (hd : dig (q.getD 0 0) = true) {j : Nat} (hj : j ≤ (digs q).length) :
    (j < (digs q).length ∧ j < q.length ∧ dig (q.getD j 0) = true ∧ j < 5 ∧ (j = 0 ∨ q.getD 0 0 ≠ 48) ∧ (digs q).getD j 0 = q.getD j 0) ∨
    (j = (digs q).length ∧ 0 < j ∧ (q.length ≤ j ∨ j < q.length ∧ (dig (q.getD j 0) = false ∨ dig (q.getD j 0) = true ∧ (5 ≤ j ∨ j < 5 ∧ q.getD 0 0 = 48)))) := by
  cases q with
  | nil => simp at h0
  | cons c r =>
    have hc : dig c = true := by simpa using hd
    rw [digs_cons] at *
    by_cases h48 : c = 48
    · rw [if_pos h48] at *
      simp only [List.length_singleton] at hj
      rcases Nat.lt_or_ge j 1 with h1 | h1
      · obtain rfl : j = 0 := by omega
        left
        simp [hc]
      · obtain rfl : j = 1 := by omega
        right
        refine ⟨rfl, by omega, ?_⟩
        rcases Nat.lt_or_ge 1 (c :: r).length with h2 | h2
        · right
          refine ⟨h2, ?_⟩
          cases hx : dig ((c :: r).getD 1 0)
          · exact .inl rfl
          · exact .inr ⟨rfl, .inr ⟨by omega, by simp [h48]⟩⟩
        · exact .inl h2
    · rw [if_neg h48] at *
      have hpre := List.takeWhile_prefix dig (l := (c :: r).take 5)
      have hle := hpre.length_le
      rw [List.length_take] at hle
      have hpos : 0 < (((c :: r).take 5).takeWhile dig).length := by simp [hc]
      rcases Nat.lt_or_ge j (((c :: r).take 5).takeWhile dig).length with h1 | h1
      · left
        have hjq : j < (c :: r).length := by omega
        have hj5 : j < 5 := by omega
        have e : (((c :: r).take 5).takeWhile dig).getD j 0 = (c :: r).getD j 0 := by
          obtain ⟨z, hz⟩ := hpre
          have e1 : ((c :: r).take 5)[j]? = (((c :: r).take 5).takeWhile dig)[j]? := by
            conv => lhs; rw [← hz]
            rw [List.getElem?_append_left h1]
          rw [List.getElem?_take, if_pos hj5] at e1
          simp only [List.getD, e1]
        have hall := takeWhile_all (p := dig) (a := (c :: r).take 5) ((((c :: r).take 5).takeWhile dig).getD j 0) (getD_mem h1)
        rw [e] at hall
        exact ⟨h1, hjq, hall, hj5, .inr (by simpa using h48), e⟩
      · right
        have hje : j = (((c :: r).take 5).takeWhile dig).length := by omega
        refine ⟨hje, by omega, ?_⟩
        rcases Nat.lt_or_ge j (c :: r).length with h2 | h2
        · right
          refine ⟨h2, ?_⟩
          cases hx : dig ((c :: r).getD j 0)
          · exact .inl rfl
          · right
            refine ⟨rfl, .inl ?_⟩
            apply Classical.byContradiction
            intro h5
            have h5' : j < 5 := by omega
            have hjt : j < ((c :: r).take 5).length := by rw [List.length_take]; omega
            obtain ⟨z, hz⟩ := hpre
            have hz2 : z ≠ [] := fun e => by
              rw [e, List.append_nil] at hz
              have := congrArg List.length hz
              omega
            obtain ⟨y, ys, rfl⟩ := List.exists_cons_of_ne_nil hz2
            have e1 : ((c :: r).take 5)[j]? = some y := by
              rw [← hz, hje, List.getElem?_append_right (Nat.le_refl _), Nat.sub_self]
              rfl
            rw [List.getElem?_take, if_pos h5'] at e1
            have ey : (c :: r).getD j 0 = y := by simp only [List.getD, e1]; rfl
            rw [ey] at hx
            have : ((c :: r).take 5).takeWhile dig = ((c :: r).take 5).takeWhile dig ++ [y] ++ ys.takeWhile dig := by
              conv => lhs; rw [← hz]
              rw [List.takeWhile_append_of_pos (takeWhile_all (p := dig) (a := (c :: r).take 5))]
              simp [hx]
            have := congrArg List.length this
            simp only [List.length_append, List.length_singleton] at this
            omega
        · exact .inl h2
theorem val_snoc (t : List Int) (c : Int) : val (t ++ [c]) = 10 * val t + (c - 48) := by simp [val, List.foldl_append]
end Lx
end Go.Proofs.YtcpbbkpfickfiaaDoor
