/- Plain facts of the lines that LexrPlaces writes. -/
import Derived.Test.YtfjeehhglacppaaDoorLxTok
set_option linter.unusedVariables false
set_option linter.unusedSimpArgs false
namespace Go.Proofs.YtfjeehhglacppaaDoor
namespace Lx
/-- blanks, tabs and spaces by turns -/
def bl : Nat → List Int
  | 0 => []
  | n + 1 => bl n ++ [if n % 2 = 0 then 32 else 9]
def ab : Nat → List Int
  | 0 => []
  | n + 1 => ab n ++ [97, 98, 44]
def tk (a : Nat) : Nat → List Tk
  | 0 => []
  | n + 1 => tk a n ++ [⟨1, [97, 98], 0, a + 3 * n⟩, ⟨3, [44], 0, a + 3 * n + 2⟩]
theorem bl_len : ∀ n, (bl n).length = n
  | 0 => rfl
  | n + 1 => by simp [bl, bl_len n]
theorem ab_len : ∀ n, (ab n).length = 3 * n
  | 0 => rfl
  | n + 1 => by simp [ab, ab_len n]; omega
theorem tk_len (a : Nat) : ∀ n, (tk a n).length = 2 * n
  | 0 => rfl
  | n + 1 => by simp [tk, tk_len a n]; omega
theorem bl_blank : ∀ n, ∀ x ∈ bl n, blank x = true
  | 0, x, h => by simp [bl] at h
  | n + 1, x, h => by
    simp only [bl, List.mem_append, List.mem_singleton] at h
    rcases h with h | h
    · exact bl_blank n x h
    · rw [h]; split <;> decide
theorem lxA_blankL : ∀ (b : List Int) (a : Nat) (r : List Int), (∀ x ∈ b, blank x = true) → lxA a (b ++ r) = lxA (a + b.length) r
  | [], a, r, _ => rfl
  | c :: b, a, r, h => by
    have h1 : lxA a (c :: (b ++ r)) = lxA (a + 1) (b ++ r) := lxA_blank (h c (by simp))
    rw [List.cons_append, h1, lxA_blankL b (a + 1) r (fun x hx => h x (by simp [hx]))]
    congr 1
    simp
    omega
def gl : List Tk → Except Nat (List Tk) → Except Nat (List Tk)
  | ts, .ok l => .ok (ts ++ l)
  | _, .error e => .error e
theorem gl_cons (ts : List Tk) (t : Tk) (R : Except Nat (List Tk)) : gl ts (cons t R) = gl (ts ++ [t]) R := by cases R <;> simp [gl, cons]
theorem lxA_one (a : Nat) (r : List Int) : lxA a ([97, 98, 44] ++ r) = cons ⟨1, [97, 98], 0, a⟩ (cons ⟨3, [44], 0, a + 2⟩ (lxA (a + 3) r)) := by
  have h1 : lxA a (97 :: 98 :: 44 :: r) = cons ⟨1, [97, 98], 0, a⟩ (lxA (a + 2) (44 :: r)) := by
    rw [lxA_name (by decide)]
    have e : (97 :: 98 :: 44 :: r : List Int).takeWhile word = [97, 98] := by
      rw [List.takeWhile_cons, if_pos (by decide), List.takeWhile_cons, if_pos (by decide), List.takeWhile_cons, if_neg (by decide)]
    rw [e]
    rfl
  show lxA a (97 :: 98 :: 44 :: r) = _
  rw [h1, lxA_sign (by decide)]
theorem lxA_ab : ∀ (n a : Nat) (r : List Int), lxA a (ab n ++ r) = gl (tk a n) (lxA (a + 3 * n) r)
  | 0, a, r => by simp [ab, tk]; cases lxA a r <;> rfl
  | n + 1, a, r => by
    rw [ab, List.append_assoc, lxA_ab n a, lxA_one, gl_cons, gl_cons, tk, List.append_assoc]
    congr 2
/-- the line of so many blanks and signs -/
def ln (b n : Nat) : List Int := bl b ++ ab n
theorem lxA_ln (b n : Nat) (r : List Int) : lxA 0 (ln b n ++ r) = gl (tk b n) (lxA (b + 3 * n) r) := by
  rw [ln, List.append_assoc, lxA_blankL _ _ _ (bl_blank b), bl_len, Nat.zero_add, lxA_ab]
theorem tk_at (a : Nat) : ∀ (n i : Nat), i < 2 * n → ∃ t, (tk a n)[i]? = some t ∧ t.kind = (if i % 2 = 0 then 1 else 3) ∧ t.at_ = a + i / 2 * 3 + i % 2 * 2
  | 0, i, h => by omega
  | n + 1, i, h => by
    rcases Nat.lt_or_ge i (2 * n) with h1 | h1
    · obtain ⟨t, ht, h2, h3⟩ := tk_at a n i h1
      exact ⟨t, by rw [tk, List.getElem?_append_left (by rw [tk_len]; exact h1)]; exact ht, h2, h3⟩
    · rw [tk]
      rw [List.getElem?_append_right (by rw [tk_len]; exact h1), tk_len]
      rcases (by omega : i = 2 * n ∨ i = 2 * n + 1) with rfl | rfl
      · exact ⟨_, by rw [Nat.sub_self]; rfl, by simp, by simp; omega⟩
      · exact ⟨_, by rw [Nat.add_sub_cancel_left]; rfl, by rw [if_neg (by omega)], by show a + 3 * n + 2 = _; omega⟩
theorem ln_ascii (b n : Nat) : ∀ x ∈ ln b n, 0 ≤ x ∧ x < 128 := by
  have hb : ∀ n, ∀ x ∈ bl n, 0 ≤ x ∧ x < 128 := fun n x h => by
    have := bl_blank n x h
    have : x = 32 ∨ x = 9 := by simpa [blank] using this
    omega
  have ha : ∀ n, ∀ x ∈ ab n, 0 ≤ x ∧ x < 128 := by
    intro n
    induction n with
    | zero => intro x h; simp [ab] at h
    | succ n ih =>
      intro x h
      simp only [ab, List.mem_append, List.mem_cons, List.not_mem_nil, or_false] at h
      rcases h with h | h | h | h
      · exact ih x h
      · omega
      · omega
      · omega
  intro x h
  rcases List.mem_append.1 h with h | h
  · exact hb b x h
  · exact ha n x h
/-- the line, and what comes behind it -/
theorem line_of (b n : Nat) (t : ByteArray) : lxA 0 (runes (strOfNums (ln b n) ++ t)) = gl (tk b n) (lxA (b + 3 * n) (runes t)) := by
  rw [runesF_app _ _ (ln_ascii b n), lxA_ln]
theorem line_ok (b n : Nat) : lxA 0 (runes (strOfNums (ln b n))) = .ok (tk b n) := by
  have h := line_of b n ⟨#[]⟩
  have e : strOfNums (ln b n) ++ (⟨#[]⟩ : ByteArray) = strOfNums (ln b n) := by
    apply ByteArray.ext
    apply Array.toList_inj.1
    rw [ByteArray.data_append]
    simp
  rw [e] at h
  rw [h, show runes ⟨#[]⟩ = [] from rfl, lxA_nil]
  simp [gl]
end Lx
def pBad : List ByteArray := [⟨#[195, 169]⟩, ⟨#[255]⟩, ⟨#[240, 157, 132, 158]⟩, ⟨#[33]⟩, ⟨#[0]⟩, ⟨#[90]⟩]
/-- what comes behind a wrong rune, or a comment with one -/
theorem bad_of (q : Nat) (h : q < 6) : ∃ s : ByteArray, pBad[q]? = some s ∧ s.size ≤ 4 ∧ (∀ a, Lx.lxA a (Lx.runes (s ++ ⟨#[195, 169]⟩)) = .error a) := by
  have key : ∀ (s : ByteArray) (c : Int) (r : List Int), Lx.runes (s ++ ⟨#[195, 169]⟩) = c :: r → c ≠ 59 → Lx.blank c = false → Lx.lower c = false → Lx.dig c = false → Lx.sgn c = false → ∀ a, Lx.lxA a (Lx.runes (s ++ ⟨#[195, 169]⟩)) = .error a := by
    intro s c r e h1 h2 h3 h4 h5 a
    rw [e]
    exact Lx.lxA_bad h1 h2 h3 h4 h5
  rcases (by omega : q = 0 ∨ q = 1 ∨ q = 2 ∨ q = 3 ∨ q = 4 ∨ q = 5) with rfl | rfl | rfl | rfl | rfl | rfl
  · exact ⟨_, rfl, by decide, key _ 233 [233] (by kernel_rfl) (by decide) (by decide) (by decide) (by decide) (by decide)⟩
  · exact ⟨_, rfl, by decide, key _ 65533 [233] (by kernel_rfl) (by decide) (by decide) (by decide) (by decide) (by decide)⟩
  · exact ⟨_, rfl, by decide, key _ 119070 [233] (by kernel_rfl) (by decide) (by decide) (by decide) (by decide) (by decide)⟩
  · exact ⟨_, rfl, by decide, key _ 33 [233] (by kernel_rfl) (by decide) (by decide) (by decide) (by decide) (by decide)⟩
  · exact ⟨_, rfl, by decide, key _ 0 [233] (by kernel_rfl) (by decide) (by decide) (by decide) (by decide) (by decide)⟩
  · exact ⟨_, rfl, by decide, key _ 90 [233] (by kernel_rfl) (by decide) (by decide) (by decide) (by decide) (by decide)⟩
theorem semi_of (s : ByteArray) (a : Nat) : Lx.lxA a (Lx.runes (⟨#[59]⟩ ++ s)) = .ok [] := by
  have h := Lx.runesF_app [59] s (fun x hx => by simp at hx; omega)
  have e : strOfNums [59] = ⟨#[59]⟩ := rfl
  rw [e] at h
  rw [h]
  exact Lx.lxA_semi _ _
theorem strOf_app' (a b : List Int) : strOfNums a ++ strOfNums b = strOfNums (a ++ b) := by
  apply ByteArray.ext
  apply Array.toList_inj.1
  rw [ByteArray.data_append, Array.toList_append, strOfNums_data, strOfNums_data, strOfNums_data, List.map_append]
theorem bytes_assoc (a b c : ByteArray) : a ++ b ++ c = a ++ (b ++ c) := by
  apply ByteArray.ext
  apply Array.toList_inj.1
  simp [ByteArray.data_append, List.append_assoc]
end Go.Proofs.YtfjeehhglacppaaDoor
