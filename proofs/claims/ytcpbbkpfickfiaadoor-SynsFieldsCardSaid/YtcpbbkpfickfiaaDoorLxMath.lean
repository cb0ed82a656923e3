/- Plain facts of reading a line of runes into signs. -/
import Derived.Test.YtcpbbkpfickfiaaDoorRows
set_option linter.unusedVariables false
set_option linter.unusedSimpArgs false
namespace Go.Proofs.YtcpbbkpfickfiaaDoor
namespace Lx
def lower (c : Int) : Bool := decide (97 ≤ c ∧ c ≤ 122)
def dig (c : Int) : Bool := decide (48 ≤ c ∧ c ≤ 57)
def word (c : Int) : Bool := lower c || dig c
def blank (c : Int) : Bool := decide (c = 32 ∨ c = 9)
def sgn (c : Int) : Bool := decide (c = 44 ∨ c = 58 ∨ c = 91 ∨ c = 93 ∨ c = 43)
structure Tk where
  kind : Int
  text : List Int
  n : Int
  at_ : Nat
/-- a number's digits, from its first on -/
def digs : List Int → List Int
  | [] => []
  | c :: r => if c = 48 then [c] else ((c :: r).take 5).takeWhile dig
def val (t : List Int) : Int := t.foldl (fun n c => 10 * n + (c - 48)) 0
def cons (t : Tk) : Except Nat (List Tk) → Except Nat (List Tk)
  | .ok l => .ok (t :: l)
  | .error e => .error e
def stops (r : List Int) : Bool := match r with | [] => true | d :: _ => !word d
def lxF : Nat → Nat → List Int → Except Nat (List Tk)
  | 0, a, r => .ok []
  | f + 1, a, [] => .ok []
  | f + 1, a, c :: r =>
    if c = 59 then .ok []
    else if blank c = true then lxF f (a + 1) r
    else if lower c = true then cons ⟨1, (c :: r).takeWhile word, 0, a⟩ (lxF f (a + ((c :: r).takeWhile word).length) ((c :: r).drop ((c :: r).takeWhile word).length))
    else if dig c = true then
      if stops ((c :: r).drop (digs (c :: r)).length) = true then cons ⟨2, digs (c :: r), val (digs (c :: r)), a⟩ (lxF f (a + (digs (c :: r)).length) ((c :: r).drop (digs (c :: r)).length))
      else .error (a + (digs (c :: r)).length)
    else if sgn c = true then cons ⟨3, [c], 0, a⟩ (lxF f (a + 1) r)
    else .error a
/-- what the document says of a line of runes, from a place on -/
def lxA (a : Nat) (r : List Int) : Except Nat (List Tk) := lxF r.length a r
theorem digs_cons (c : Int) (r : List Int) : digs (c :: r) = if c = 48 then [c] else ((c :: r).take 5).takeWhile dig := rfl
theorem digs_pos {c : Int} {r : List Int} (h : dig c = true) : 0 < (digs (c :: r)).length := by
  rw [digs_cons]
  split
  · simp
  · simp [h]
theorem digs_le (r : List Int) : (digs r).length ≤ r.length := by
  cases r with
  | nil => simp [digs]
  | cons c r =>
    rw [digs_cons]
    split
    · simp
    · refine Nat.le_trans (List.takeWhile_prefix dig).length_le ?_
      rw [List.length_take]
      exact Nat.min_le_right _ _
theorem name_pos {c : Int} {r : List Int} (h : lower c = true) : 0 < ((c :: r).takeWhile word).length := by simp [word, h]
theorem name_le (r : List Int) : (r.takeWhile word).length ≤ r.length := (List.takeWhile_prefix word).length_le
theorem lxF_two : ∀ (n f g a : Nat) (r : List Int), r.length ≤ n → r.length ≤ f → r.length ≤ g → lxF f a r = lxF g a r
  | n, f, g, a, [], _, _, _ => by cases f <;> cases g <;> rfl
  | 0, f, g, a, c :: r, h, _, _ => by simp at h
  | n + 1, 0, g, a, c :: r, _, h, _ => by simp at h
  | n + 1, f + 1, 0, a, c :: r, _, _, h => by simp at h
  | n + 1, f + 1, g + 1, a, c :: r, h1, h2, h3 => by
    simp only [List.length_cons] at h1 h2 h3
    have e1 := lxF_two n f g (a + 1) r (by omega) (by omega) (by omega)
    have e2 : lower c = true → lxF f (a + ((c :: r).takeWhile word).length) ((c :: r).drop ((c :: r).takeWhile word).length) = lxF g (a + ((c :: r).takeWhile word).length) ((c :: r).drop ((c :: r).takeWhile word).length) := fun hc => by
      have hp := name_pos (r := r) hc
      have hl : ((c :: r).drop ((c :: r).takeWhile word).length).length ≤ r.length := by rw [List.length_drop]; simp only [List.length_cons]; omega
      exact lxF_two n f g _ _ (by omega) (by omega) (by omega)
    have e3 : dig c = true → lxF f (a + (digs (c :: r)).length) ((c :: r).drop (digs (c :: r)).length) = lxF g (a + (digs (c :: r)).length) ((c :: r).drop (digs (c :: r)).length) := fun hc => by
      have hp := digs_pos (r := r) hc
      have hl : ((c :: r).drop (digs (c :: r)).length).length ≤ r.length := by rw [List.length_drop]; simp only [List.length_cons]; omega
      exact lxF_two n f g _ _ (by omega) (by omega) (by omega)
    unfold lxF
    split
    · rfl
    split
    · exact e1
    split
    · rename_i hc; rw [e2 hc]
    split
    · rename_i hc; rw [e3 hc]
    · rw [e1]
theorem lxF_fuel (f : Nat) (a : Nat) (r : List Int) (h : r.length ≤ f) : lxF f a r = lxF r.length a r := lxF_two f f r.length a r h h (Nat.le_refl _)
theorem lxA_nil (a : Nat) : lxA a [] = .ok [] := rfl
theorem lxA_semi (a : Nat) (r : List Int) : lxA a (59 :: r) = .ok [] := rfl
theorem lxA_blank {a : Nat} {c : Int} {r : List Int} (h : blank c = true) : lxA a (c :: r) = lxA (a + 1) r := by
  have h0 : c ≠ 59 := by intro e; subst e; simp [blank] at h
  show lxF (r.length + 1) a (c :: r) = _
  unfold lxF
  rw [if_neg h0, if_pos h]
  rfl
theorem lxA_name {a : Nat} {c : Int} {r : List Int} (h : lower c = true) : lxA a (c :: r) = cons ⟨1, (c :: r).takeWhile word, 0, a⟩ (lxA (a + ((c :: r).takeWhile word).length) ((c :: r).drop ((c :: r).takeWhile word).length)) := by
  have h9 : 97 ≤ c ∧ c ≤ 122 := by simpa [lower] using h
  have h0 : c ≠ 59 := by omega
  have h1 : blank c = false := by simp [blank]; omega
  have hp := name_pos (r := r) h
  show lxF (r.length + 1) a (c :: r) = _
  unfold lxF
  rw [if_neg h0, if_neg (by simp [h1]), if_pos h]
  rw [lxF_fuel r.length _ _ (by rw [List.length_drop]; simp only [List.length_cons]; omega)]
  rfl
theorem lxA_num {a : Nat} {c : Int} {r : List Int} (h : dig c = true) (hs : stops ((c :: r).drop (digs (c :: r)).length) = true) : lxA a (c :: r) = cons ⟨2, digs (c :: r), val (digs (c :: r)), a⟩ (lxA (a + (digs (c :: r)).length) ((c :: r).drop (digs (c :: r)).length)) := by
  have h9 : 48 ≤ c ∧ c ≤ 57 := by simpa [dig] using h
  have h0 : c ≠ 59 := by omega
  have h1 : blank c = false := by simp [blank]; omega
  have h2 : lower c = false := by simp [lower]; omega
  have hp := digs_pos (r := r) h
  show lxF (r.length + 1) a (c :: r) = _
  unfold lxF
  rw [if_neg h0, if_neg (by simp [h1]), if_neg (by simp [h2]), if_pos h, if_pos hs]
  rw [lxF_fuel r.length _ _ (by rw [List.length_drop]; simp only [List.length_cons]; omega)]
  rfl
theorem lxA_nums {a : Nat} {c : Int} {r : List Int} (h : dig c = true) (hs : stops ((c :: r).drop (digs (c :: r)).length) = false) : lxA a (c :: r) = .error (a + (digs (c :: r)).length) := by
  have h9 : 48 ≤ c ∧ c ≤ 57 := by simpa [dig] using h
  have h0 : c ≠ 59 := by omega
  have h1 : blank c = false := by simp [blank]; omega
  have h2 : lower c = false := by simp [lower]; omega
  show lxF (r.length + 1) a (c :: r) = _
  unfold lxF
  rw [if_neg h0, if_neg (by simp [h1]), if_neg (by simp [h2]), if_pos h, if_neg (by simp [hs])]
theorem lxA_sign {a : Nat} {c : Int} {r : List Int} (h : sgn c = true) : lxA a (c :: r) = cons ⟨3, [c], 0, a⟩ (lxA (a + 1) r) := by
  have h9 : c = 44 ∨ c = 58 ∨ c = 91 ∨ c = 93 ∨ c = 43 := by simpa [sgn] using h
  have h0 : c ≠ 59 := by omega
  have h1 : blank c = false := by simp [blank]; omega
  have h2 : lower c = false := by simp [lower]; omega
  have h3 : dig c = false := by simp [dig]; omega
  show lxF (r.length + 1) a (c :: r) = _
  unfold lxF
  rw [if_neg h0, if_neg (by simp [h1]), if_neg (by simp [h2]), if_neg (by simp [h3]), if_pos h]
  rfl
theorem lxA_bad {a : Nat} {c : Int} {r : List Int} (h0 : c ≠ 59) (h1 : blank c = false) (h2 : lower c = false) (h3 : dig c = false) (h4 : sgn c = false) : lxA a (c :: r) = .error a := by
  show lxF (r.length + 1) a (c :: r) = _
  unfold lxF
  rw [if_neg h0, if_neg (by simp [h1]), if_neg (by simp [h2]), if_neg (by simp [h3]), if_neg (by simp [h4])]
end Lx
end Go.Proofs.YtcpbbkpfickfiaaDoor
