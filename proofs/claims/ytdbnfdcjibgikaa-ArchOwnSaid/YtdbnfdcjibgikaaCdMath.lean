/- Plain arithmetic of rows of numbers in bytes: the bytes of a row, the row of bytes, and back. -/
import Derived.Test.YtdbnfdcjibgikaaRows
import Derived.Lib.Bytes
import Derived.Lib.Bytealg
set_option linter.unusedVariables false
set_option linter.unusedSimpArgs false
namespace Go.Proofs.Ytdbnfdcjibgikaa
namespace Cd
/-- a number that takes one byte -/
def nrB (n : Int) : Bool := decide (-1 ≤ n) && decide (n ≤ 253)
theorem nrB_iff {n : Int} : nrB n = true ↔ -1 ≤ n ∧ n ≤ 253 := by simp [nrB]
theorem nrB_not {n : Int} : nrB n = false ↔ n < -1 ∨ 253 < n := by
  cases h : nrB n
  · simp [nrB] at h; simp; omega
  · have := nrB_iff.1 h; simp; omega
/-- byte k of eight, the highest first -/
def byteAt (n : Int) (k : Nat) : Int := n % 18446744073709551616 / 2 ^ (8 * (7 - k)) % 256
def eight (n : Int) : List Int := (List.range 8).map (byteAt n)
def putN (n : Int) : List Int := if nrB n = true then [n + 1] else 255 :: eight n
def putL : List Int → List Int
  | [] => []
  | n :: l => putN n ++ putL l
def numOf (ys : List Int) : Int := ys.foldl (fun u x => u * 256 + x) 0
def toI (u : Int) : Int := if u < 9223372036854775808 then u else u - 18446744073709551616
/-- the first number of some bytes, and how many tell it -/
def fst1 : List Int → Option (Int × Nat)
  | [] => none
  | b :: r => if b = 255 then (if r.length < 8 then none else if nrB (toI (numOf (r.take 8))) = true then none else some (toI (numOf (r.take 8)), 9)) else some (b - 1, 1)
def getF : Nat → List Int → Option (List Int)
  | 0, _ => some []
  | f + 1, b => if b = [] then some [] else match fst1 b with
    | none => none
    | some (n, k) => (getF f (b.drop k)).map (n :: ·)
def getL (b : List Int) : Option (List Int) := getF b.length b

def isB (xs : List Int) : Prop := ∀ x ∈ xs, 0 ≤ x ∧ x < 256
def isI (xs : List Int) : Prop := ∀ x ∈ xs, -9223372036854775808 ≤ x ∧ x < 9223372036854775808

theorem fst1_size {b : List Int} {n : Int} {k : Nat} (h : fst1 b = some (n, k)) : 1 ≤ k ∧ k ≤ b.length ∧ (k = 1 ∨ k = 9) := by
  cases b with
  | nil => simp [fst1] at h
  | cons x r =>
    simp only [fst1] at h
    split at h
    · split at h
      · cases h
      · split at h
        · cases h
        · simp at h; simp; omega
    · simp at h; simp; omega
theorem getF_fuel : ∀ (f : Nat) (b : List Int), b.length ≤ f → getF f b = getF b.length b := by
  intro f
  induction f using Nat.strongRecOn with
  | ind f ih =>
    intro b hb
    cases b with
    | nil => cases f <;> simp [getF]
    | cons x r =>
      cases f with
      | zero => simp at hb
      | succ f =>
        simp only [List.length_cons, getF, reduceCtorEq, if_false]
        cases h : fst1 (x :: r) with
        | none => rfl
        | some p =>
          obtain ⟨n, k⟩ := p
          have hk := fst1_size h
          simp only [List.length_cons] at hk hb
          have hd : ((x :: r).drop k).length ≤ r.length := by rw [List.length_drop]; simp; omega
          have e1 := ih f (by omega) ((x :: r).drop k) (by omega)
          have e2 := ih r.length (by omega) ((x :: r).drop k) hd
          simp only [e1, e2]
theorem getL_nil : getL [] = some [] := rfl
theorem getL_none {b : List Int} (hb : b ≠ []) (h : fst1 b = none) : getL b = none := by
  cases b with
  | nil => exact absurd rfl hb
  | cons x r => simp [getL, getF, h]
theorem getL_step {b : List Int} {n : Int} {k : Nat} (h : fst1 b = some (n, k)) : getL b = (getL (b.drop k)).map (n :: ·) := by
  cases b with
  | nil => simp [fst1] at h
  | cons x r =>
    have hk := fst1_size h
    have hd : ((x :: r).drop k).length ≤ r.length := by rw [List.length_drop]; simp at hk ⊢; omega
    unfold getL
    rw [← getF_fuel r.length _ hd]
    simp [getF, h]
/-- what has been read so far, and what is left -/
theorem getL_acc {b rest acc : List Int} {n : Int} {k : Nat} (hg : getL b = (getL rest).map (acc ++ ·)) (h : fst1 rest = some (n, k)) : getL b = (getL (rest.drop k)).map ((acc ++ [n]) ++ ·) := by
  rw [hg, getL_step h, Option.map_map]
  congr 1
  funext l
  simp
theorem getF_len : ∀ (f : Nat) (b l : List Int), b.length ≤ f → getF f b = some l → l.length ≤ b.length
  | 0, b, l, hb, h => by simp [getF] at h; subst h; simp
  | f + 1, b, l, hb, h => by
    unfold getF at h
    split at h
    · simp at h; subst h; simp
    · cases hf : fst1 b with
      | none => rw [hf] at h; cases h
      | some p =>
        obtain ⟨n, k⟩ := p
        rw [hf] at h
        have hk := fst1_size hf
        have hd : (b.drop k).length ≤ f := by rw [List.length_drop]; omega
        cases hg : getF f (b.drop k) with
        | none => simp [hg] at h
        | some m =>
          simp [hg] at h
          subst h
          have := getF_len f (b.drop k) m hd hg
          rw [List.length_drop] at this
          simp; omega
theorem getL_len {b l : List Int} (h : getL b = some l) : l.length ≤ b.length := getF_len _ _ _ (Nat.le_refl _) h
theorem pow256 (k : Nat) : (2 : Int) ^ (8 * k) = 256 ^ k := by rw [Int.pow_mul]; rfl
theorem numOf_snoc (ys : List Int) (x : Int) : numOf (ys ++ [x]) = numOf ys * 256 + x := by simp [numOf, List.foldl_append]
theorem rev_ind {α : Type} {P : List α → Prop} (h0 : P []) (h1 : ∀ l x, P l → P (l ++ [x])) (l : List α) : P l := by
  have h : ∀ (n : Nat) (l : List α), l.length = n → P l := by
    intro n
    induction n with
    | zero => intro l hl; rw [List.length_eq_zero_iff.1 hl]; exact h0
    | succ n ih =>
      intro l hl
      have hne : l ≠ [] := by rintro rfl; simp at hl
      rw [← List.dropLast_concat_getLast hne]
      exact h1 _ _ (ih _ (by simp [hl]))
  exact h _ l rfl
theorem numOf_bd {ys : List Int} (h : isB ys) : 0 ≤ numOf ys ∧ numOf ys < 256 ^ ys.length := by
  revert h
  refine rev_ind (P := fun ys => isB ys → 0 ≤ numOf ys ∧ numOf ys < 256 ^ ys.length) (fun _ => by simp [numOf]) ?_ ys
  · intro ys x ih h
    have h1 := ih (fun y hy => h y (by simp [hy]))
    have h2 := h x (by simp)
    rw [numOf_snoc, List.length_append, List.length_singleton, Int.pow_succ]
    omega
theorem eight_len (n : Int) : (eight n).length = 8 := by simp [eight]
theorem byteAt_bd (n : Int) (k : Nat) : 0 ≤ byteAt n k ∧ byteAt n k < 256 := by unfold byteAt; omega
theorem eight_isB (n : Int) : isB (eight n) := by
  intro x hx
  obtain ⟨k, _, rfl⟩ := List.mem_map.1 hx
  exact byteAt_bd n k
theorem putN_isB {n : Int} : isB (putN n) := by
  intro x hx
  unfold putN at hx
  split at hx
  · rename_i h; have := nrB_iff.1 h; simp at hx; omega
  · rcases List.mem_cons.1 hx with h | h
    · omega
    · exact eight_isB n x h
theorem putL_isB : ∀ (l : List Int), isB (putL l)
  | [] => fun x hx => by simp [putL] at hx
  | n :: l => fun x hx => by
    rcases List.mem_append.1 hx with h | h
    · exact putN_isB x h
    · exact putL_isB l x h
theorem numOf_eight {n : Int} : numOf (eight n) = n % 18446744073709551616 := by
  simp only [numOf, eight, byteAt, List.range, List.range.loop, List.map_cons, List.map_nil, List.foldl_cons, List.foldl_nil]
  simp only [Nat.reduceSub, Nat.reduceMul, Int.reducePow]
  omega
theorem toI_mod {n : Int} (h1 : -9223372036854775808 ≤ n) (h2 : n < 9223372036854775808) : toI (n % 18446744073709551616) = n := by unfold toI; omega
theorem putN_len (n : Int) : (putN n).length = if nrB n = true then 1 else 9 := by
  unfold putN; split <;> simp [eight_len]
theorem fst1_put {n : Int} (h1 : -9223372036854775808 ≤ n) (h2 : n < 9223372036854775808) (r : List Int) : fst1 (putN n ++ r) = some (n, (putN n).length) := by
  unfold putN
  cases h : nrB n
  · simp only [Bool.false_eq_true, if_false, List.cons_append, fst1, if_true]
    have hl : (eight n ++ r).take 8 = eight n := by rw [List.take_append_of_le_length (by rw [eight_len]; omega), List.take_of_length_le (by rw [eight_len]; omega)]
    rw [hl, numOf_eight, toI_mod h1 h2, if_neg (by simp [eight_len]), if_neg (by simp [h])]
    simp [eight_len]
  · have hh := nrB_iff.1 h
    simp only [if_true, List.cons_append, List.nil_append, fst1]
    rw [if_neg (by omega)]
    simp
theorem get_put : ∀ {l : List Int}, isI l → getL (putL l) = some l
  | [], _ => rfl
  | n :: l, h => by
    have hn := h n (by simp)
    have ih := get_put (l := l) (fun x hx => h x (by simp [hx]))
    have h1 := fst1_put hn.1 hn.2 (putL l)
    show getL (putN n ++ putL l) = _
    rw [getL_step h1]
    simp [ih]
theorem put_inj {l m : List Int} (hl : isI l) (hm : isI m) : putL l = putL m ↔ l = m := by
  constructor
  · intro h
    have := get_put hl
    rw [h, get_put hm] at this
    simpa using this.symm
  · rintro rfl; rfl
theorem putL_append (l m : List Int) : putL (l ++ m) = putL l ++ putL m := by
  induction l with
  | nil => rfl
  | cons n l ih => simp [putL, ih]
theorem putL_snoc (l : List Int) (n : Int) : putL (l ++ [n]) = putL l ++ putN n := by rw [putL_append]; simp [putL]
theorem putL_len_le (l : List Int) : (putL l).length ≤ 9 * l.length := by
  induction l with
  | nil => simp [putL]
  | cons n l ih =>
    have := putN_len n
    simp only [putL, List.length_append, List.length_cons]
    split at this <;> omega
/-- how many bytes, as it is counted -/
def cnt (l : List Int) : Int := l.foldl (fun c n => if n < -1 ∨ 253 < n then c + 9 else c + 1) 0
theorem cnt_snoc (l : List Int) (n : Int) : cnt (l ++ [n]) = if n < -1 ∨ 253 < n then cnt l + 9 else cnt l + 1 := by simp [cnt, List.foldl_append]
theorem cnt_eq (l : List Int) : cnt l = ((putL l).length : Int) := by
  refine rev_ind (P := fun l => cnt l = ((putL l).length : Int)) rfl ?_ l
  · intro l n ih
    rw [cnt_snoc, putL_snoc, List.length_append, putN_len, ih]
    cases h : nrB n
    · have := nrB_not.1 h; rw [if_pos this]; simp
    · have := nrB_iff.1 h; rw [if_neg (by omega)]; simp
theorem isB_append {a b : List Int} (ha : isB a) (hb : isB b) : isB (a ++ b) := fun x hx => (List.mem_append.1 hx).elim (ha x) (hb x)
/-- order: a shorter one first; of one length by bytes -/
def lessB (a b : List Int) : Bool := if a.length = b.length then decide (Lib.compareBytes (Lib.bytesOf a) (Lib.bytesOf b) < 0) else decide (a.length < b.length)
theorem cmp_self : ∀ l : List UInt8, Lib.compareBytes l l = 0
  | [] => rfl
  | a :: l => by simp [Lib.compareBytes, cmp_self l]
theorem cmp_lt_trans : ∀ {a b c : List UInt8}, Lib.compareBytes a b < 0 → Lib.compareBytes b c < 0 → Lib.compareBytes a c < 0
  | [], [], _, h, _ => by simp [Lib.compareBytes] at h
  | [], _ :: _, [], _, h => by simp [Lib.compareBytes] at h
  | [], _ :: _, _ :: _, _, _ => by simp [Lib.compareBytes]
  | _ :: _, [], _, h, _ => by simp [Lib.compareBytes] at h
  | _ :: _, _ :: _, [], _, h => by simp [Lib.compareBytes] at h
  | x :: a, y :: b, z :: c, h1, h2 => by
    simp only [Lib.compareBytes] at h1 h2 ⊢
    have ih := cmp_lt_trans (a := a) (b := b) (c := c)
    simp only [UInt8.lt_iff_toNat_lt] at h1 h2 ⊢
    split at h1
    · split at h2
      · rw [if_pos (by omega)]; decide
      · split at h2
        · simp at h2
        · rw [if_pos (by omega)]; decide
    · split at h1
      · simp at h1
      · split at h2
        · rw [if_pos (by omega)]; decide
        · split at h2
          · simp at h2
          · rw [if_neg (by omega), if_neg (by omega)]; exact ih h1 h2
theorem cmp_eq_zero : ∀ {a b : List UInt8}, Lib.compareBytes a b = 0 → a = b
  | [], [], _ => rfl
  | [], _ :: _, h => by simp [Lib.compareBytes] at h
  | _ :: _, [], h => by simp [Lib.compareBytes] at h
  | x :: a, y :: b, h => by
    simp only [Lib.compareBytes] at h
    split at h
    · simp at h
    · split at h
      · simp at h
      · rename_i h1 h2
        have : x = y := UInt8.le_antisymm (UInt8.not_lt.1 h2) (UInt8.not_lt.1 h1)
        rw [this, cmp_eq_zero h]
theorem cmp_neg : ∀ (a b : List UInt8), Lib.compareBytes b a = - Lib.compareBytes a b
  | [], [] => rfl
  | [], _ :: _ => rfl
  | _ :: _, [] => rfl
  | x :: a, y :: b => by
    simp only [Lib.compareBytes]
    have ih := cmp_neg a b
    by_cases h1 : x < y
    · have h2 : ¬ y < x := by rw [UInt8.lt_iff_toNat_lt] at *; omega
      simp [h1, h2]
    · by_cases h2 : y < x
      · simp [h1, h2]
      · simp [h1, h2, ih]
theorem bytesOf_inj {a b : List Int} (ha : isB a) (hb : isB b) (h : Lib.bytesOf a = Lib.bytesOf b) : a = b := by
  unfold Lib.bytesOf at h
  have hl : a.length = b.length := by simpa using congrArg List.length h
  apply List.ext_getElem hl
  intro i h1 h2
  have e : (a.map fun n => UInt8.ofNat n.toNat)[i]'(by simpa using h1) = (b.map fun n => UInt8.ofNat n.toNat)[i]'(by simpa using h2) := by simp only [h]
  simp only [List.getElem_map] at e
  have x1 := ha a[i] (List.getElem_mem h1)
  have x2 := hb b[i] (List.getElem_mem h2)
  have e2 := congrArg UInt8.toNat e
  simp only [UInt8.toNat_ofNat'] at e2
  omega
theorem less_self (a : List Int) : lessB a a = false := by simp [lessB, cmp_self]
theorem less_trans {a b c : List Int} (h1 : lessB a b = true) (h2 : lessB b c = true) : lessB a c = true := by
  unfold lessB at *
  split at h1 <;> split at h2 <;> simp at h1 h2
  · rw [if_pos (by omega)]; simpa using cmp_lt_trans h1 h2
  · rw [if_neg (by omega)]; simp; omega
  · rw [if_neg (by omega)]; simp; omega
  · rw [if_neg (by omega)]; simp; omega
theorem less_long {a b : List Int} (h : b.length < a.length) : lessB a b = false := by unfold lessB; rw [if_neg (by omega)]; simp; omega
theorem less_short {a b : List Int} (h : a.length < b.length) : lessB a b = true := by unfold lessB; rw [if_neg (by omega)]; simp; omega
theorem less_asym {a b : List Int} (h : lessB a b = true) : lessB b a = false := by
  cases h2 : lessB b a
  · rfl
  · have := less_trans h h2; rw [less_self] at this; cases this
theorem less_tri {a b : List Int} (ha : isB a) (hb : isB b) (hne : a ≠ b) : lessB a b = true ∨ lessB b a = true := by
  unfold lessB
  by_cases hl : a.length = b.length
  · rw [if_pos hl, if_pos hl.symm]
    rcases Int.lt_trichotomy (Lib.compareBytes (Lib.bytesOf a) (Lib.bytesOf b)) 0 with h | h | h
    · left; simpa using h
    · exact absurd (bytesOf_inj ha hb (cmp_eq_zero h)) hne
    · right; rw [cmp_neg]; simp; omega
  · rw [if_neg hl, if_neg (fun h => hl h.symm)]; simp; omega
theorem less_ne {a b : List Int} (ha : isB a) (hb : isB b) : (lessB a b || lessB b a) = !(a == b) := by
  by_cases h : a = b
  · subst h; simp [less_self]
  · rcases less_tri ha hb h with h1 | h1 <;> simp [h1, h]
end Cd
end Go.Proofs.Ytdbnfdcjibgikaa
