/- Plain facts of reading a text line by line. -/
import Derived.Test.YtmghklokbmdenaaDoorPgAim
import Derived.Test.YtmghklokbmdenaaDoorPgLn
import Derived.Test.YtmghklokbmdenaaDoorSnFacts
set_option linter.unusedVariables false
set_option linter.unusedSimpArgs false
namespace Go.Proofs.YtmghklokbmdenaaDoor
namespace Pg
theorem run_app (b : List (List UInt8)) : ∀ (a : List (List UInt8)) (r : Rs) (k : Nat), run r k (a ++ b) = match run r k a with
    | .error e => .error e
    | .ok r' => run r' (k + a.length) b
  | [], r, k => rfl
  | l :: a, r, k => by
    rw [List.cons_append, run, run]
    cases item l with
    | error m => rfl
    | ok i =>
      simp only
      cases add r i k with
      | none => rfl
      | some r' =>
        simp only
        rw [run_app b a r' (k + 1), List.length_cons, Nat.add_assoc, Nat.add_comm 1]
/-- a line of its own behind those ahead of it -/
theorem run_next {ls : List (List UInt8)} {k : Nat} {x : List UInt8} {r : Rs} (hx : ls[k]? = some x) (h : run r0 0 (ls.take k) = .ok r) :
    (∀ m, item x = .error m → run r0 0 ls = .error (k, m)) ∧ (∀ i, item x = .ok i → (add r i k = none → run r0 0 ls = .error (k, 0)) ∧ ∀ r', add r i k = some r' → run r0 0 (ls.take (k + 1)) = .ok r') := by
  have hk : k < ls.length := (List.getElem?_eq_some_iff.1 hx).1
  have hlen : (ls.take k).length = k := by rw [List.length_take]; omega
  have hd : ls.drop k = x :: ls.drop (k + 1) := by
    rw [List.drop_eq_getElem_cons hk]
    rw [(List.getElem?_eq_some_iff.1 hx).2]
  have e : run r0 0 ls = run r k (x :: ls.drop (k + 1)) := by
    conv => lhs; rw [← List.take_append_drop k ls, hd]
    rw [run_app, h]
    simp only
    rw [hlen, Nat.zero_add]
  refine ⟨fun m hm => ?_, fun i hi => ⟨fun ha => ?_, fun r' ha => ?_⟩⟩
  · rw [e, run, hm]
  · rw [e, run, hi]
    simp only [ha]
  · rw [List.take_add_one, hx, run_app, h]
    simp only [Option.toList_some]
    rw [hlen, Nat.zero_add, run, hi]
    simp only [ha]
    rfl
theorem trim_cut {x : List UInt8} : Lib.trimSuffix (x ++ [10]) [10] = x := by
  unfold Lib.trimSuffix Lib.hasSuffix
  simp
theorem trim_end {x : List UInt8} (h : ∀ b ∈ x, b ≠ 10) : Lib.trimSuffix x [10] = x := by
  unfold Lib.trimSuffix
  split
  · rename_i hs
    unfold Lib.hasSuffix at hs
    exfalso
    have hm : (10 : UInt8) ∈ x := by
      simp at hs
      obtain ⟨t, ht⟩ := hs
      rw [← ht]; simp
    exact h 10 hm rfl
  · rfl
theorem lines_step {l : List UInt8} (h : l ≠ []) : lines l = Lib.trimSuffix (headL l) [10] :: lines (tailL l) := by
  rcases cut_at l with ⟨x, r, h1, h2, _⟩ | ⟨h1, _⟩
  · subst h1
    obtain ⟨e1, e2⟩ := head_cut (r := r) h2
    rw [e1, e2, lines_app x r h2, trim_cut]
  · obtain ⟨e1, e2⟩ := head_end h1 h
    rw [e1, e2, lines_end l h1 h, trim_end h1]
    rfl
theorem lines_len (n : Nat) : ∀ d : List UInt8, d.length ≤ n → (lines d).length = (raws d).length ∧ (raws d).length ≤ d.length := by
  induction n with
  | zero =>
    intro d hd
    have : d = [] := List.eq_nil_of_length_eq_zero (by omega)
    subst this
    exact ⟨rfl, Nat.le_refl _⟩
  | succ n ih =>
    intro d hd
    by_cases h : d = []
    · subst h; exact ⟨rfl, Nat.le_refl _⟩
    · obtain ⟨e1, e2⟩ := raws_step h
      have hl : (tailL d).length + 1 ≤ d.length := by
        unfold tailL
        rw [List.length_drop]
        have : 0 < d.length := by
          cases d with
          | nil => exact absurd rfl h
          | cons a d => simp
        omega
      obtain ⟨i1, i2⟩ := ih (tailL d) (by omega)
      rw [lines_step h, e1]
      simp only [List.length_cons]
      omega
theorem lines_rest (d : List UInt8) : ∀ k, k ≤ (raws d).length → lines (restK k d) = (lines d).drop k
  | 0, _ => rfl
  | k + 1, h => by
    have ih := lines_rest d k (by omega)
    have hne : restK k d ≠ [] := (rest_ne (by omega)).2 (by omega)
    have := lines_step hne
    rw [ih] at this
    show lines (tailL (restK k d)) = _
    have e2 : (lines d).drop (k + 1) = ((lines d).drop k).tail := by rw [List.tail_drop]
    rw [e2, this, List.tail_cons]
theorem line_at {d : List UInt8} {k : Nat} (h : k < (raws d).length) : (lines d)[k]? = some (Lib.trimSuffix (headL (restK k d)) [10]) := by
  have h1 := lines_rest d k (by omega)
  have hne : restK k d ≠ [] := (rest_ne (by omega)).2 h
  rw [lines_step hne] at h1
  have := congrArg (fun l => l[0]?) h1
  simp only [List.getElem?_cons_zero, List.getElem?_drop, Nat.add_zero] at this
  exact this.symm
theorem head_short {l : List UInt8} : (headL l).length ≤ l.length := by
  by_cases h : l = []
  · subst h; exact Nat.le_refl _
  · rcases cut_at l with ⟨x, r, h1, h2, _⟩ | ⟨h1, _⟩
    · subst h1
      rw [(head_cut (r := r) h2).1]
      simp
    · rw [(head_end h1 h).1]
      exact Nat.le_refl _
theorem trim_short (l : List UInt8) : (Lib.trimSuffix l [10]).length ≤ l.length := by
  unfold Lib.trimSuffix
  split
  · rw [List.length_take]; omega
  · exact Nat.le_refl _
theorem item_short {l : List UInt8} {i : Sy.It} (h : item l = .ok i) : i.name.length ≤ l.length ∧ i.ins.name.length ≤ l.length := by
  have h1 := Sn.parse_short h
  have h2 := Lx.runes_len ⟨l.toArray⟩
  have h3 : (⟨l.toArray⟩ : ByteArray).size = l.length := by simp [ByteArray.size]
  omega
/-- what grows line by line -/
structure Few (r : Rs) (k N : Nat) : Prop where
  cnt : r.p.mems.length + r.p.labels.length ≤ k
  ins : ∀ i ∈ r.p.ins, i.name.length ≤ N
theorem add_few {r r' : Rs} {i : Sy.It} {ln k N : Nat} (h : Few r k N) (hi : i.ins.name.length ≤ N) (ha : add r i ln = some r') : Few r' (k + 1) N := by
  obtain ⟨h1, h2⟩ := h
  have hins : ∀ j ∈ r.p.ins ++ [i.ins], j.name.length ≤ N := fun j hj => by
    rcases List.mem_append.1 hj with hj | hj
    · exact h2 j hj
    · rw [List.mem_singleton] at hj; subst hj; exact hi
  unfold add at ha
  repeat' split at ha
  all_goals first
    | (cases ha; done)
    | (injection ha with ha; subst ha; first | exact ⟨by simp only [List.length_append, List.length_cons, List.length_nil]; omega, h2⟩ | exact ⟨Nat.le_trans h1 (Nat.le_succ _), hins⟩ | exact ⟨Nat.le_trans h1 (Nat.le_succ _), h2⟩)
theorem run_few {N : Nat} : ∀ (ls : List (List UInt8)) (r r' : Rs) (k c : Nat), (∀ l ∈ ls, l.length ≤ N) → Few r c N → run r k ls = .ok r' → Few r' (c + ls.length) N
  | [], r, r', k, c, _, h, e => by injection e with e; subst e; exact h
  | l :: ls, r, r', k, c, hl, h, e => by
    rw [run] at e
    cases hi : item l with
    | error m => rw [hi] at e; cases e
    | ok i =>
      rw [hi] at e
      simp only at e
      cases ha : add r i k with
      | none => rw [ha] at e; cases e
      | some q =>
        rw [ha] at e
        have := run_few ls q r' (k + 1) (c + 1) (fun x hx => hl x (by simp [hx])) (add_few h (Nat.le_trans (item_short hi).2 (hl l (by simp))) ha) e
        rw [List.length_cons, show c + (ls.length + 1) = c + 1 + ls.length by omega]
        exact this
theorem lines_short (n : Nat) : ∀ d : List UInt8, d.length ≤ n → ∀ l ∈ lines d, l.length ≤ d.length := by
  induction n with
  | zero =>
    intro d hd l hl
    have : d = [] := List.eq_nil_of_length_eq_zero (by omega)
    subst this
    cases hl
  | succ n ih =>
    intro d hd l hl
    by_cases h : d = []
    · subst h; cases hl
    · rw [lines_step h] at hl
      have h1 := (raws_step h).2
      have hp : 0 < d.length := by
        cases d with
        | nil => exact absurd rfl h
        | cons a d => simp
      have h2 : (tailL d).length + 1 ≤ d.length := by
        unfold tailL
        rw [List.length_drop]
        omega
      rcases List.mem_cons.1 hl with rfl | hl
      · exact Nat.le_trans (trim_short _) head_short
      · have := ih (tailL d) (by omega) l hl
        omega
theorem few0 (N : Nat) : Few r0 0 N := ⟨Nat.le_refl _, fun i hi => by cases hi⟩
end Pg
end Go.Proofs.YtmghklokbmdenaaDoor
