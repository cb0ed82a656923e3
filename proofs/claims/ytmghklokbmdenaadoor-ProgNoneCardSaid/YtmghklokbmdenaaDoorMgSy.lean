/- Merged: SyMath, LxRef, CdMath, LxNum, SyText, SyTell, SySay, SyOk. -/
import Derived.Test.YtmghklokbmdenaaDoorMgLx
import Derived.Test.YtmghklokbmdenaaDoorRows
import Derived.Lib.Bytes
import Derived.Lib.Bytealg
set_option linter.unusedVariables false
set_option linter.unusedSimpArgs false
namespace Go.Proofs.YtmghklokbmdenaaDoor
section
namespace Sy
open Lx (Tk)
structure Vl where
  reg : Bool
  n : Int
deriving DecidableEq
structure In where
  kind : Int
  op : Int
  d : Int
  a : Vl
  b : Vl
  name : List Int
  target : Int
deriving DecidableEq
structure It where
  kind : Int
  n : Int
  secret : Bool
  name : List Int
  ins : In
deriving DecidableEq
def v0 : Vl := ⟨false, 0⟩
def i0 : In := ⟨0, 0, 0, v0, v0, [], 0⟩
def t0 : It := ⟨0, 0, false, [], i0⟩
/-- the names of ops, from 1 on -/
def ops : List (List Int) := [[97, 100, 100], [115, 117, 98], [97, 110, 100], [111, 114], [120, 111, 114], [115, 104, 108], [115, 104, 114], [109, 117, 108], [108, 116], [101, 113]]
def opF : Int → List (List Int) → List Int → Int
  | _, [], _ => 0
  | i, s :: l, t => if s = t then i else opF (i + 1) l t
def opN (t : List Int) : Int := opF 1 ops t
def regN : List Int → Int
  | [a, b] => if a = 114 ∧ 48 ≤ b ∧ b ≤ 51 then b - 48 else -1
  | _ => -1
def words : List (List Int) := [[119, 105, 100, 116, 104], [119, 105, 110, 100, 111, 119], [102, 117, 101, 108], [112, 117, 98, 108, 105, 99], [115, 101, 99, 114, 101, 116], [109, 111, 118], [108, 111, 97, 100], [115, 116, 111, 114, 101], [99, 109, 111, 118], [98, 114], [106, 109, 112], [99, 97, 108, 108], [105, 110, 100], [114, 101, 116], [102, 101, 110, 99, 101], [104, 97, 108, 116]]
def isWord (t : List Int) : Bool := words.contains t || decide (0 < opN t) || decide (0 ≤ regN t)
/-- how far a line is read, and where it went wrong first (-1: nowhere) -/
structure St where
  k : Nat
  bad : Int
def fail (p : Nat) (s : St) : St := if s.bad < 0 then ⟨s.k, p⟩ else s
section
variable (ts : List Tk) (long : Nat)
def tokAt (k : Nat) : Tk := (ts[k]?).getD ⟨0, [], 0, long⟩
def step (s : St) : St := if s.k < ts.length then ⟨s.k + 1, s.bad⟩ else s
def sign (c : Int) (s : St) : St := let t := tokAt ts long s.k; if t.kind = 3 ∧ t.text = [c] then step ts s else fail t.at_ (step ts s)
def reg (s : St) : Int × St := let t := tokAt ts long s.k; if t.kind = 1 ∧ 0 ≤ regN t.text then (regN t.text, step ts s) else (0, fail t.at_ (step ts s))
def vl (s : St) : Vl × St := let t := tokAt ts long s.k
  if t.kind = 2 then (⟨false, t.n⟩, step ts s) else if t.kind = 1 ∧ 0 ≤ regN t.text then (⟨true, regN t.text⟩, step ts s) else (v0, fail t.at_ (step ts s))
def num (s : St) : Int × St := let t := tokAt ts long s.k; (t.n, if t.kind = 2 then step ts s else fail t.at_ (step ts s))
def name (s : St) : List Int × St := let t := tokAt ts long s.k; (t.text, if t.kind = 1 ∧ isWord t.text = false then step ts s else fail t.at_ (step ts s))
def address (s : St) : (Vl × Vl) × St :=
  let s := sign ts long 91 s
  let (a, s) := vl ts long s
  let s := sign ts long 43 s
  let (b, s) := vl ts long s
  ((a, b), sign ts long 93 s)
/-- an instruction whose first word is told -/
def ins (w : List Int) (s : St) : In × St :=
  if w = [109, 111, 118] then
    let (d, s) := reg ts long s
    let s := sign ts long 44 s
    let (a, s) := vl ts long s
    (⟨1, 4, d, a, v0, [], 0⟩, s)
  else if w = [108, 111, 97, 100] then
    let (d, s) := reg ts long s
    let s := sign ts long 44 s
    let (p, s) := address ts long s
    (⟨2, 0, d, p.1, p.2, [], 0⟩, s)
  else if w = [115, 116, 111, 114, 101] then
    let (p, s) := address ts long s
    let s := sign ts long 44 s
    let (d, s) := reg ts long s
    (⟨3, 0, d, p.1, p.2, [], 0⟩, s)
  else if w = [99, 109, 111, 118] then
    let (d, s) := reg ts long s
    let s := sign ts long 44 s
    let (a, s) := vl ts long s
    let s := sign ts long 44 s
    let (b, s) := vl ts long s
    (⟨4, 0, d, a, b, [], 0⟩, s)
  else if w = [98, 114] then
    let u := tokAt ts long s.k
    let s := if u.kind = 1 ∧ opN u.text ≠ 0 then step ts s else fail u.at_ (step ts s)
    let (a, s) := vl ts long s
    let s := sign ts long 44 s
    let (b, s) := vl ts long s
    let s := sign ts long 44 s
    let (n, s) := name ts long s
    (⟨5, opN u.text, 0, a, b, n, 0⟩, s)
  else if w = [106, 109, 112] then
    let (n, s) := name ts long s
    (⟨6, 0, 0, v0, v0, n, 0⟩, s)
  else if w = [99, 97, 108, 108] then
    let (n, s) := name ts long s
    (⟨8, 0, 0, v0, v0, n, 0⟩, s)
  else if w = [105, 110, 100] then
    let (a, s) := vl ts long s
    (⟨7, 0, 0, a, v0, [], 0⟩, s)
  else if w = [114, 101, 116] then (⟨9, 0, 0, v0, v0, [], 0⟩, s)
  else if w = [102, 101, 110, 99, 101] then (⟨10, 0, 0, v0, v0, [], 0⟩, s)
  else if w = [104, 97, 108, 116] then (⟨11, 0, 0, v0, v0, [], 0⟩, s)
  else
    let (d, s) := reg ts long s
    let s := sign ts long 44 s
    let (a, s) := vl ts long s
    let s := sign ts long 44 s
    let (b, s) := vl ts long s
    (⟨1, opN w, d, a, b, [], 0⟩, s)
def declare (secret : Bool) (s : St) : It × St :=
  let t := tokAt ts long s.k
  if t.kind = 1 ∧ 0 ≤ regN t.text then (⟨4, 0, secret, [], { i0 with d := regN t.text }⟩, step ts s)
  else
    let s := if t.kind = 1 ∧ isWord t.text = false then step ts s else fail t.at_ (step ts s)
    let (n, s) := num ts long s
    (⟨5, n, secret, t.text, i0⟩, s)
def item (s : St) : It × St :=
  let t := tokAt ts long s.k
  if t.kind = 1 ∧ regN t.text < 0 then
    let s := step ts s
    if t.text = [119, 105, 100, 116, 104] then let (n, s) := num ts long s; (⟨1, n, false, [], i0⟩, s)
    else if t.text = [119, 105, 110, 100, 111, 119] then let (n, s) := num ts long s; (⟨2, n, false, [], i0⟩, s)
    else if t.text = [102, 117, 101, 108] then let (n, s) := num ts long s; (⟨3, n, false, [], i0⟩, s)
    else if t.text = [112, 117, 98, 108, 105, 99] then declare ts long false s
    else if t.text = [115, 101, 99, 114, 101, 116] then declare ts long true s
    else if isWord t.text = true then let (i, s) := ins ts long t.text s; (⟨7, 0, false, [], i⟩, s)
    else (⟨6, 0, false, t.text, i0⟩, sign ts long 58 s)
  else (t0, fail t.at_ (step ts s))
end
/-- what a line means: its item, or the place where it is wrong -/
def parseT (ts : List Tk) (long : Nat) : Except Nat It :=
  if ts = [] then .ok t0
  else
    let (i, s) := item ts long ⟨0, -1⟩
    let s := if s.bad < 0 ∧ s.k < ts.length then fail (tokAt ts long s.k).at_ s else s
    if 0 ≤ s.bad then .error s.bad.toNat else .ok i
def parse (r : List Int) : Except Nat It := match Lx.lxA 0 r with
  | .error a => .error a
  | .ok ts => parseT ts r.length
end Sy
end
end Go.Proofs.YtmghklokbmdenaaDoor
namespace Go.Proofs.YtmghklokbmdenaaDoor
section
open Go.RowKit
namespace Lx
theorem getD_mem {l : List Int} {j : Nat} (h : j < l.length) : l.getD j 0 ∈ l := by simp [List.getD, h]
/-- how a number goes on at its j-th digit -/
theorem digs_next {q : List Int} (h0 : 0 < q.length) (hd : dig (q.getD 0 0) = true) {j : Nat} (hj : j ≤ (digs q).length) :
    (j < (digs q).length ∧ j < q.length ∧ dig (q.getD j 0) = true ∧ j < 5 ∧ (j = 0 ∨ q.getD 0 0 ≠ 48) ∧ (digs q).getD j 0 = q.getD j 0) ∨
    (j = (digs q).length ∧ 0 < j ∧ (q.length ≤ j ∨ j < q.length ∧ (dig (q.getD j 0) = false ∨ dig (q.getD j 0) = true ∧ (5 ≤ j ∨ j < 5 ∧ q.getD 0 0 = 48)))) := by
  cases q with
  | nil => simp at h0
  | cons c r =>
    have hc : dig c = true := by simpa using hd
    rw [digs_cons] at *
    by_cases h48 : c = 48
    · rw [if_pos h48] at *
      simp only [List.length_singleton] at hj
      rcases Nat.lt_or_ge j 1 with h1 | h1
      · obtain rfl : j = 0 := by omega
        left
        simp [hc]
      · obtain rfl : j = 1 := by omega
        right
        refine ⟨rfl, by omega, ?_⟩
        rcases Nat.lt_or_ge 1 (c :: r).length with h2 | h2
        · right
          refine ⟨h2, ?_⟩
          cases hx : dig ((c :: r).getD 1 0)
          · exact .inl rfl
          · exact .inr ⟨rfl, .inr ⟨by omega, by simp [h48]⟩⟩
        · exact .inl h2
    · rw [if_neg h48] at *
      have hpre := List.takeWhile_prefix dig (l := (c :: r).take 5)
      have hle := hpre.length_le
      rw [List.length_take] at hle
      have hpos : 0 < (((c :: r).take 5).takeWhile dig).length := by simp [hc]
      rcases Nat.lt_or_ge j (((c :: r).take 5).takeWhile dig).length with h1 | h1
      · left
        have hjq : j < (c :: r).length := by omega
        have hj5 : j < 5 := by omega
        have e : (((c :: r).take 5).takeWhile dig).getD j 0 = (c :: r).getD j 0 := by
          obtain ⟨z, hz⟩ := hpre
          have e1 : ((c :: r).take 5)[j]? = (((c :: r).take 5).takeWhile dig)[j]? := by
            conv => lhs; rw [← hz]
            rw [List.getElem?_append_left h1]
          rw [List.getElem?_take, if_pos hj5] at e1
          simp only [List.getD, e1]
        have hall := takeWhile_all (p := dig) (a := (c :: r).take 5) ((((c :: r).take 5).takeWhile dig).getD j 0) (getD_mem h1)
        rw [e] at hall
        exact ⟨h1, hjq, hall, hj5, .inr (by simpa using h48), e⟩
      · right
        have hje : j = (((c :: r).take 5).takeWhile dig).length := by omega
        refine ⟨hje, by omega, ?_⟩
        rcases Nat.lt_or_ge j (c :: r).length with h2 | h2
        · right
          refine ⟨h2, ?_⟩
          cases hx : dig ((c :: r).getD j 0)
          · exact .inl rfl
          · right
            refine ⟨rfl, .inl ?_⟩
            apply Classical.byContradiction
            intro h5
            have h5' : j < 5 := by omega
            have hjt : j < ((c :: r).take 5).length := by rw [List.length_take]; omega
            obtain ⟨z, hz⟩ := hpre
            have hz2 : z ≠ [] := fun e => by
              rw [e, List.append_nil] at hz
              have := congrArg List.length hz
              omega
            obtain ⟨y, ys, rfl⟩ := List.exists_cons_of_ne_nil hz2
            have e1 : ((c :: r).take 5)[j]? = some y := by
              rw [← hz, hje, List.getElem?_append_right (Nat.le_refl _), Nat.sub_self]
              rfl
            rw [List.getElem?_take, if_pos h5'] at e1
            have ey : (c :: r).getD j 0 = y := by simp only [List.getD, e1]; rfl
            rw [ey] at hx
            have : ((c :: r).take 5).takeWhile dig = ((c :: r).take 5).takeWhile dig ++ [y] ++ ys.takeWhile dig := by
              conv => lhs; rw [← hz]
              rw [List.takeWhile_append_of_pos (takeWhile_all (p := dig) (a := (c :: r).take 5))]
              simp [hx]
            have := congrArg List.length this
            simp only [List.length_append, List.length_singleton] at this
            omega
        · exact .inl h2
theorem val_snoc (t : List Int) (c : Int) : val (t ++ [c]) = 10 * val t + (c - 48) := by simp [val, List.foldl_append]
end Lx
end
end Go.Proofs.YtmghklokbmdenaaDoor
namespace Go.Proofs.YtmghklokbmdenaaDoor
section
namespace Cd
/-- a number that takes one byte -/
def nrB (n : Int) : Bool := decide (-1 ≤ n) && decide (n ≤ 253)
theorem nrB_iff {n : Int} : nrB n = true ↔ -1 ≤ n ∧ n ≤ 253 := by simp [nrB]
theorem nrB_not {n : Int} : nrB n = false ↔ n < -1 ∨ 253 < n := by
  cases h : nrB n
  · simp [nrB] at h; simp; omega
  · have := nrB_iff.1 h; simp; omega
/-- byte k of eight, the highest first -/
def byteAt (n : Int) (k : Nat) : Int := n % 18446744073709551616 / 2 ^ (8 * (7 - k)) % 256
def eight (n : Int) : List Int := (List.range 8).map (byteAt n)
def putN (n : Int) : List Int := if nrB n = true then [n + 1] else 255 :: eight n
def putL : List Int → List Int
  | [] => []
  | n :: l => putN n ++ putL l
def numOf (ys : List Int) : Int := ys.foldl (fun u x => u * 256 + x) 0
def toI (u : Int) : Int := if u < 9223372036854775808 then u else u - 18446744073709551616
/-- the first number of some bytes, and how many tell it -/
def fst1 : List Int → Option (Int × Nat)
  | [] => none
  | b :: r => if b = 255 then (if r.length < 8 then none else if nrB (toI (numOf (r.take 8))) = true then none else some (toI (numOf (r.take 8)), 9)) else some (b - 1, 1)
def getF : Nat → List Int → Option (List Int)
  | 0, _ => some []
  | f + 1, b => if b = [] then some [] else match fst1 b with
    | none => none
    | some (n, k) => (getF f (b.drop k)).map (n :: ·)
def getL (b : List Int) : Option (List Int) := getF b.length b

def isB (xs : List Int) : Prop := ∀ x ∈ xs, 0 ≤ x ∧ x < 256
def isI (xs : List Int) : Prop := ∀ x ∈ xs, -9223372036854775808 ≤ x ∧ x < 9223372036854775808

theorem fst1_size {b : List Int} {n : Int} {k : Nat} (h : fst1 b = some (n, k)) : 1 ≤ k ∧ k ≤ b.length ∧ (k = 1 ∨ k = 9) := by
  cases b with
  | nil => simp [fst1] at h
  | cons x r =>
    simp only [fst1] at h
    split at h
    · split at h
      · cases h
      · split at h
        · cases h
        · simp at h; simp; omega
    · simp at h; simp; omega
theorem getF_fuel : ∀ (f : Nat) (b : List Int), b.length ≤ f → getF f b = getF b.length b := by
  intro f
  induction f using Nat.strongRecOn with
  | ind f ih =>
    intro b hb
    cases b with
    | nil => cases f <;> simp [getF]
    | cons x r =>
      cases f with
      | zero => simp at hb
      | succ f =>
        simp only [List.length_cons, getF, reduceCtorEq, if_false]
        cases h : fst1 (x :: r) with
        | none => rfl
        | some p =>
          obtain ⟨n, k⟩ := p
          have hk := fst1_size h
          simp only [List.length_cons] at hk hb
          have hd : ((x :: r).drop k).length ≤ r.length := by rw [List.length_drop]; simp; omega
          have e1 := ih f (by omega) ((x :: r).drop k) (by omega)
          have e2 := ih r.length (by omega) ((x :: r).drop k) hd
          simp only [e1, e2]
theorem getL_nil : getL [] = some [] := rfl
theorem getL_none {b : List Int} (hb : b ≠ []) (h : fst1 b = none) : getL b = none := by
  cases b with
  | nil => exact absurd rfl hb
  | cons x r => simp [getL, getF, h]
theorem getL_step {b : List Int} {n : Int} {k : Nat} (h : fst1 b = some (n, k)) : getL b = (getL (b.drop k)).map (n :: ·) := by
  cases b with
  | nil => simp [fst1] at h
  | cons x r =>
    have hk := fst1_size h
    have hd : ((x :: r).drop k).length ≤ r.length := by rw [List.length_drop]; simp at hk ⊢; omega
    unfold getL
    rw [← getF_fuel r.length _ hd]
    simp [getF, h]
/-- what has been read so far, and what is left -/
theorem getL_acc {b rest acc : List Int} {n : Int} {k : Nat} (hg : getL b = (getL rest).map (acc ++ ·)) (h : fst1 rest = some (n, k)) : getL b = (getL (rest.drop k)).map ((acc ++ [n]) ++ ·) := by
  rw [hg, getL_step h, Option.map_map]
  congr 1
  funext l
  simp
theorem getF_len : ∀ (f : Nat) (b l : List Int), b.length ≤ f → getF f b = some l → l.length ≤ b.length
  | 0, b, l, hb, h => by simp [getF] at h; subst h; simp
  | f + 1, b, l, hb, h => by
    unfold getF at h
    split at h
    · simp at h; subst h; simp
    · cases hf : fst1 b with
      | none => rw [hf] at h; cases h
      | some p =>
        obtain ⟨n, k⟩ := p
        rw [hf] at h
        have hk := fst1_size hf
        have hd : (b.drop k).length ≤ f := by rw [List.length_drop]; omega
        cases hg : getF f (b.drop k) with
        | none => simp [hg] at h
        | some m =>
          simp [hg] at h
          subst h
          have := getF_len f (b.drop k) m hd hg
          rw [List.length_drop] at this
          simp; omega
theorem getL_len {b l : List Int} (h : getL b = some l) : l.length ≤ b.length := getF_len _ _ _ (Nat.le_refl _) h
theorem pow256 (k : Nat) : (2 : Int) ^ (8 * k) = 256 ^ k := by rw [Int.pow_mul]; rfl
theorem numOf_snoc (ys : List Int) (x : Int) : numOf (ys ++ [x]) = numOf ys * 256 + x := by simp [numOf, List.foldl_append]
theorem rev_ind {α : Type} {P : List α → Prop} (h0 : P []) (h1 : ∀ l x, P l → P (l ++ [x])) (l : List α) : P l := by
  have h : ∀ (n : Nat) (l : List α), l.length = n → P l := by
    intro n
    induction n with
    | zero => intro l hl; rw [List.length_eq_zero_iff.1 hl]; exact h0
    | succ n ih =>
      intro l hl
      have hne : l ≠ [] := by rintro rfl; simp at hl
      rw [← List.dropLast_concat_getLast hne]
      exact h1 _ _ (ih _ (by simp [hl]))
  exact h _ l rfl
theorem numOf_bd {ys : List Int} (h : isB ys) : 0 ≤ numOf ys ∧ numOf ys < 256 ^ ys.length := by
  revert h
  refine rev_ind (P := fun ys => isB ys → 0 ≤ numOf ys ∧ numOf ys < 256 ^ ys.length) (fun _ => by simp [numOf]) ?_ ys
  · intro ys x ih h
    have h1 := ih (fun y hy => h y (by simp [hy]))
    have h2 := h x (by simp)
    rw [numOf_snoc, List.length_append, List.length_singleton, Int.pow_succ]
    omega
theorem eight_len (n : Int) : (eight n).length = 8 := by simp [eight]
theorem byteAt_bd (n : Int) (k : Nat) : 0 ≤ byteAt n k ∧ byteAt n k < 256 := by unfold byteAt; omega
theorem eight_isB (n : Int) : isB (eight n) := by
  intro x hx
  obtain ⟨k, _, rfl⟩ := List.mem_map.1 hx
  exact byteAt_bd n k
theorem putN_isB {n : Int} : isB (putN n) := by
  intro x hx
  unfold putN at hx
  split at hx
  · rename_i h; have := nrB_iff.1 h; simp at hx; omega
  · rcases List.mem_cons.1 hx with h | h
    · omega
    · exact eight_isB n x h
theorem putL_isB : ∀ (l : List Int), isB (putL l)
  | [] => fun x hx => by simp [putL] at hx
  | n :: l => fun x hx => by
    rcases List.mem_append.1 hx with h | h
    · exact putN_isB x h
    · exact putL_isB l x h
theorem numOf_eight {n : Int} : numOf (eight n) = n % 18446744073709551616 := by
  simp only [numOf, eight, byteAt, List.range, List.range.loop, List.map_cons, List.map_nil, List.foldl_cons, List.foldl_nil]
  simp only [Nat.reduceSub, Nat.reduceMul, Int.reducePow]
  omega
theorem toI_mod {n : Int} (h1 : -9223372036854775808 ≤ n) (h2 : n < 9223372036854775808) : toI (n % 18446744073709551616) = n := by unfold toI; omega
theorem putN_len (n : Int) : (putN n).length = if nrB n = true then 1 else 9 := by
  unfold putN; split <;> simp [eight_len]
theorem fst1_put {n : Int} (h1 : -9223372036854775808 ≤ n) (h2 : n < 9223372036854775808) (r : List Int) : fst1 (putN n ++ r) = some (n, (putN n).length) := by
  unfold putN
  cases h : nrB n
  · simp only [Bool.false_eq_true, if_false, List.cons_append, fst1, if_true]
    have hl : (eight n ++ r).take 8 = eight n := by rw [List.take_append_of_le_length (by rw [eight_len]; omega), List.take_of_length_le (by rw [eight_len]; omega)]
    rw [hl, numOf_eight, toI_mod h1 h2, if_neg (by simp [eight_len]), if_neg (by simp [h])]
    simp [eight_len]
  · have hh := nrB_iff.1 h
    simp only [if_true, List.cons_append, List.nil_append, fst1]
    rw [if_neg (by omega)]
    simp
theorem get_put : ∀ {l : List Int}, isI l → getL (putL l) = some l
  | [], _ => rfl
  | n :: l, h => by
    have hn := h n (by simp)
    have ih := get_put (l := l) (fun x hx => h x (by simp [hx]))
    have h1 := fst1_put hn.1 hn.2 (putL l)
    show getL (putN n ++ putL l) = _
    rw [getL_step h1]
    simp [ih]
theorem put_inj {l m : List Int} (hl : isI l) (hm : isI m) : putL l = putL m ↔ l = m := by
  constructor
  · intro h
    have := get_put hl
    rw [h, get_put hm] at this
    simpa using this.symm
  · rintro rfl; rfl
theorem putL_append (l m : List Int) : putL (l ++ m) = putL l ++ putL m := by
  induction l with
  | nil => rfl
  | cons n l ih => simp [putL, ih]
theorem putL_snoc (l : List Int) (n : Int) : putL (l ++ [n]) = putL l ++ putN n := by rw [putL_append]; simp [putL]
theorem putL_len_le (l : List Int) : (putL l).length ≤ 9 * l.length := by
  induction l with
  | nil => simp [putL]
  | cons n l ih =>
    have := putN_len n
    simp only [putL, List.length_append, List.length_cons]
    split at this <;> omega
/-- how many bytes, as it is counted -/
def cnt (l : List Int) : Int := l.foldl (fun c n => if n < -1 ∨ 253 < n then c + 9 else c + 1) 0
theorem cnt_snoc (l : List Int) (n : Int) : cnt (l ++ [n]) = if n < -1 ∨ 253 < n then cnt l + 9 else cnt l + 1 := by simp [cnt, List.foldl_append]
theorem cnt_eq (l : List Int) : cnt l = ((putL l).length : Int) := by
  refine rev_ind (P := fun l => cnt l = ((putL l).length : Int)) rfl ?_ l
  · intro l n ih
    rw [cnt_snoc, putL_snoc, List.length_append, putN_len, ih]
    cases h : nrB n
    · have := nrB_not.1 h; rw [if_pos this]; simp
    · have := nrB_iff.1 h; rw [if_neg (by omega)]; simp
theorem isB_append {a b : List Int} (ha : isB a) (hb : isB b) : isB (a ++ b) := fun x hx => (List.mem_append.1 hx).elim (ha x) (hb x)
/-- order: a shorter one first; of one length by bytes -/
def lessB (a b : List Int) : Bool := if a.length = b.length then decide (Lib.compareBytes (Lib.bytesOf a) (Lib.bytesOf b) < 0) else decide (a.length < b.length)
theorem cmp_self : ∀ l : List UInt8, Lib.compareBytes l l = 0
  | [] => rfl
  | a :: l => by simp [Lib.compareBytes, cmp_self l]
theorem cmp_lt_trans : ∀ {a b c : List UInt8}, Lib.compareBytes a b < 0 → Lib.compareBytes b c < 0 → Lib.compareBytes a c < 0
  | [], [], _, h, _ => by simp [Lib.compareBytes] at h
  | [], _ :: _, [], _, h => by simp [Lib.compareBytes] at h
  | [], _ :: _, _ :: _, _, _ => by simp [Lib.compareBytes]
  | _ :: _, [], _, h, _ => by simp [Lib.compareBytes] at h
  | _ :: _, _ :: _, [], _, h => by simp [Lib.compareBytes] at h
  | x :: a, y :: b, z :: c, h1, h2 => by
    simp only [Lib.compareBytes] at h1 h2 ⊢
    have ih := cmp_lt_trans (a := a) (b := b) (c := c)
    simp only [UInt8.lt_iff_toNat_lt] at h1 h2 ⊢
    split at h1
    · split at h2
      · rw [if_pos (by omega)]; decide
      · split at h2
        · simp at h2
        · rw [if_pos (by omega)]; decide
    · split at h1
      · simp at h1
      · split at h2
        · rw [if_pos (by omega)]; decide
        · split at h2
          · simp at h2
          · rw [if_neg (by omega), if_neg (by omega)]; exact ih h1 h2
theorem cmp_eq_zero : ∀ {a b : List UInt8}, Lib.compareBytes a b = 0 → a = b
  | [], [], _ => rfl
  | [], _ :: _, h => by simp [Lib.compareBytes] at h
  | _ :: _, [], h => by simp [Lib.compareBytes] at h
  | x :: a, y :: b, h => by
    simp only [Lib.compareBytes] at h
    split at h
    · simp at h
    · split at h
      · simp at h
      · rename_i h1 h2
        have : x = y := UInt8.le_antisymm (UInt8.not_lt.1 h2) (UInt8.not_lt.1 h1)
        rw [this, cmp_eq_zero h]
theorem cmp_neg : ∀ (a b : List UInt8), Lib.compareBytes b a = - Lib.compareBytes a b
  | [], [] => rfl
  | [], _ :: _ => rfl
  | _ :: _, [] => rfl
  | x :: a, y :: b => by
    simp only [Lib.compareBytes]
    have ih := cmp_neg a b
    by_cases h1 : x < y
    · have h2 : ¬ y < x := by rw [UInt8.lt_iff_toNat_lt] at *; omega
      simp [h1, h2]
    · by_cases h2 : y < x
      · simp [h1, h2]
      · simp [h1, h2, ih]
theorem bytesOf_inj {a b : List Int} (ha : isB a) (hb : isB b) (h : Lib.bytesOf a = Lib.bytesOf b) : a = b := by
  unfold Lib.bytesOf at h
  have hl : a.length = b.length := by simpa using congrArg List.length h
  apply List.ext_getElem hl
  intro i h1 h2
  have e : (a.map fun n => UInt8.ofNat n.toNat)[i]'(by simpa using h1) = (b.map fun n => UInt8.ofNat n.toNat)[i]'(by simpa using h2) := by simp only [h]
  simp only [List.getElem_map] at e
  have x1 := ha a[i] (List.getElem_mem h1)
  have x2 := hb b[i] (List.getElem_mem h2)
  have e2 := congrArg UInt8.toNat e
  simp only [UInt8.toNat_ofNat'] at e2
  omega
theorem less_self (a : List Int) : lessB a a = false := by simp [lessB, cmp_self]
theorem less_trans {a b c : List Int} (h1 : lessB a b = true) (h2 : lessB b c = true) : lessB a c = true := by
  unfold lessB at *
  split at h1 <;> split at h2 <;> simp at h1 h2
  · rw [if_pos (by omega)]; simpa using cmp_lt_trans h1 h2
  · rw [if_neg (by omega)]; simp; omega
  · rw [if_neg (by omega)]; simp; omega
  · rw [if_neg (by omega)]; simp; omega
theorem less_long {a b : List Int} (h : b.length < a.length) : lessB a b = false := by unfold lessB; rw [if_neg (by omega)]; simp; omega
theorem less_short {a b : List Int} (h : a.length < b.length) : lessB a b = true := by unfold lessB; rw [if_neg (by omega)]; simp; omega
theorem less_asym {a b : List Int} (h : lessB a b = true) : lessB b a = false := by
  cases h2 : lessB b a
  · rfl
  · have := less_trans h h2; rw [less_self] at this; cases this
theorem less_tri {a b : List Int} (ha : isB a) (hb : isB b) (hne : a ≠ b) : lessB a b = true ∨ lessB b a = true := by
  unfold lessB
  by_cases hl : a.length = b.length
  · rw [if_pos hl, if_pos hl.symm]
    rcases Int.lt_trichotomy (Lib.compareBytes (Lib.bytesOf a) (Lib.bytesOf b)) 0 with h | h | h
    · left; simpa using h
    · exact absurd (bytesOf_inj ha hb (cmp_eq_zero h)) hne
    · right; rw [cmp_neg]; simp; omega
  · rw [if_neg hl, if_neg (fun h => hl h.symm)]; simp; omega
theorem less_ne {a b : List Int} (ha : isB a) (hb : isB b) : (lessB a b || lessB b a) = !(a == b) := by
  by_cases h : a = b
  · subst h; simp [less_self]
  · rcases less_tri ha hb h with h1 | h1 <;> simp [h1, h]
end Cd
end
end Go.Proofs.YtmghklokbmdenaaDoor
namespace Go.Proofs.YtmghklokbmdenaaDoor
section
open Go.RowKit
/-- what Number answers of the runes from a digit on -/
def numV (a : Nat) (q : List Int) : Value := if Lx.stops (q.drop (Lx.digs q).length) = true then .tuple #[.int .i64 ((a + (Lx.digs q).length : Nat) : Int), .int .i64 (Lx.val (Lx.digs q)), .bool true] else .tuple #[.int .i64 ((a + (Lx.digs q).length : Nat) : Int), .int .i64 0, .bool false]
theorem Rd.i32_at {w : World} {B : Nat} {A : Option Addr} {r : List Int} (h : Rd w B A (r.map (Value.int .i32))) {i : Nat} (hi : i < r.length) : ∃ ad, A = some ad ∧ ad.block < B ∧ w.cell? (ad.add i) = some (.int .i32 (r.getD i 0)) := h.at_ hi
theorem dig_bd {c : Int} (h : Lx.dig c = true) : 48 ≤ c ∧ c ≤ 57 := by simpa [Lx.dig] using h
theorem val_bd : ∀ (t : List Int), (∀ x ∈ t, Lx.dig x = true) → 0 ≤ Lx.val t ∧ Lx.val t < 10 ^ t.length := by
  intro t
  refine Cd.rev_ind (P := fun t => (∀ x ∈ t, Lx.dig x = true) → 0 ≤ Lx.val t ∧ Lx.val t < 10 ^ t.length) (fun _ => by simp [Lx.val]) (fun l x ih h => ?_) t
  have h1 := ih (fun y hy => h y (by simp [hy]))
  have h2 := dig_bd (h x (by simp))
  rw [Lx.val_snoc, List.length_append, List.length_singleton, Int.pow_succ]
  omega
theorem digs_dig {c : Int} {r : List Int} (hc : Lx.dig c = true) : ∀ x ∈ Lx.digs (c :: r), Lx.dig x = true := by
  rw [Lx.digs_cons]
  split
  · intro x hx; simp at hx; subst hx; exact hc
  · exact Lx.takeWhile_all
theorem digs_five (q : List Int) : (Lx.digs q).length ≤ 5 := by
  cases q with
  | nil => simp [Lx.digs]
  | cons c r =>
    rw [Lx.digs_cons]
    split
    · simp
    · have := (List.takeWhile_prefix Lx.dig (l := (c :: r).take 5)).length_le
      rw [List.length_take] at this
      omega
end
end Go.Proofs.YtmghklokbmdenaaDoor
namespace Go.Proofs.YtmghklokbmdenaaDoor
section
namespace Sy
open Lx (Tk)
def dg : Nat → Nat → List Int
  | 0, _ => []
  | f + 1, n => if n < 10 then [48 + (n : Int)] else dg f (n / 10) ++ [48 + ((n % 10 : Nat) : Int)]
/-- a number's text -/
def digits (n : Int) : List Int := if n < 0 then [45] else dg 20 n.toNat
def rT (d : Int) : List Int := 114 :: digits d
def vT (v : Vl) : List Int := if v.reg then rT v.n else digits v.n
def opT (n : Int) : List Int := if 1 ≤ n ∧ n ≤ 10 then ops.getD (n - 1).toNat [] else [63]
def addrT (a b : Vl) : List Int := [91] ++ vT a ++ [32, 43, 32] ++ vT b ++ [93]
def two (a b : Vl) : List Int := vT a ++ [44, 32] ++ vT b
def insT (i : In) : List Int :=
  if i.kind = 1 then opT i.op ++ [32] ++ rT i.d ++ [44, 32] ++ two i.a i.b
  else if i.kind = 2 then [108, 111, 97, 100, 32] ++ rT i.d ++ [44, 32] ++ addrT i.a i.b
  else if i.kind = 3 then [115, 116, 111, 114, 101, 32] ++ addrT i.a i.b ++ [44, 32] ++ rT i.d
  else if i.kind = 4 then [99, 109, 111, 118, 32] ++ rT i.d ++ [44, 32] ++ two i.a i.b
  else if i.kind = 5 then [98, 114, 32] ++ opT i.op ++ [32] ++ two i.a i.b ++ [44, 32] ++ i.name
  else if i.kind = 6 then [106, 109, 112, 32] ++ i.name
  else if i.kind = 8 then [99, 97, 108, 108, 32] ++ i.name
  else if i.kind = 7 then [105, 110, 100, 32] ++ vT i.a
  else if i.kind = 9 then [114, 101, 116]
  else if i.kind = 10 then [102, 101, 110, 99, 101]
  else if i.kind = 11 then [104, 97, 108, 116]
  else [63]
def kindT (secret : Bool) : List Int := if secret then [115, 101, 99, 114, 101, 116, 32] else [112, 117, 98, 108, 105, 99, 32]
def text (i : It) : List Int :=
  if i.kind = 1 then [119, 105, 100, 116, 104, 32] ++ digits i.n
  else if i.kind = 2 then [119, 105, 110, 100, 111, 119, 32] ++ digits i.n
  else if i.kind = 3 then [102, 117, 101, 108, 32] ++ digits i.n
  else if i.kind = 4 then kindT i.secret ++ rT i.ins.d
  else if i.kind = 5 then kindT i.secret ++ i.name ++ [32] ++ digits i.n
  else if i.kind = 6 then i.name ++ [58]
  else if i.kind = 7 then insT i.ins
  else []
/-- what a line tells -/
def okR (d : Int) : Prop := 0 ≤ d ∧ d ≤ 3
def okN (n : Int) : Prop := 0 ≤ n ∧ n ≤ 99999
def okV (v : Vl) : Prop := (v.reg = true ∧ okR v.n) ∨ (v.reg = false ∧ okN v.n)
def okName (t : List Int) : Prop := (∃ c r, t = c :: r ∧ Lx.lower c = true ∧ ∀ x ∈ t, Lx.word x = true) ∧ isWord t = false
def okO (n : Int) : Prop := 1 ≤ n ∧ n ≤ 10
inductive OkI : In → Prop
  | alu {op d : Int} {a b : Vl} : okO op → okR d → okV a → okV b → OkI ⟨1, op, d, a, b, [], 0⟩
  | load {d : Int} {a b : Vl} : okR d → okV a → okV b → OkI ⟨2, 0, d, a, b, [], 0⟩
  | store {d : Int} {a b : Vl} : okR d → okV a → okV b → OkI ⟨3, 0, d, a, b, [], 0⟩
  | cmov {d : Int} {a b : Vl} : okR d → okV a → okV b → OkI ⟨4, 0, d, a, b, [], 0⟩
  | br {op : Int} {a b : Vl} {n : List Int} : okO op → okV a → okV b → okName n → OkI ⟨5, op, 0, a, b, n, 0⟩
  | jmp {n : List Int} : okName n → OkI ⟨6, 0, 0, v0, v0, n, 0⟩
  | call {n : List Int} : okName n → OkI ⟨8, 0, 0, v0, v0, n, 0⟩
  | ind {a : Vl} : okV a → OkI ⟨7, 0, 0, a, v0, [], 0⟩
  | ret : OkI ⟨9, 0, 0, v0, v0, [], 0⟩
  | fence : OkI ⟨10, 0, 0, v0, v0, [], 0⟩
  | halt : OkI ⟨11, 0, 0, v0, v0, [], 0⟩
inductive Ok : It → Prop
  | none : Ok t0
  | num {k n : Int} : 1 ≤ k → k ≤ 3 → okN n → Ok ⟨k, n, false, [], i0⟩
  | reg {s : Bool} {d : Int} : okR d → Ok ⟨4, 0, s, [], { i0 with d := d }⟩
  | mem {s : Bool} {m : List Int} {n : Int} : okName m → okN n → Ok ⟨5, n, s, m, i0⟩
  | label {m : List Int} : okName m → Ok ⟨6, 0, false, m, i0⟩
  | ins {i : In} : OkI i → Ok ⟨7, 0, false, [], i⟩
theorem dg_small {n : Nat} (h : n < 10) (f : Nat) : dg (f + 1) n = [48 + (n : Int)] := by unfold dg; rw [if_pos h]
theorem dg_big {n : Nat} (h : ¬ n < 10) (f : Nat) : dg (f + 1) n = dg f (n / 10) ++ [48 + ((n % 10 : Nat) : Int)] := by rw [dg, if_neg h]
open Lx in
theorem digits_form {n : Int} (h : okN n) : ∃ c r, digits n = c :: r ∧ dig c = true ∧ digs (c :: r) = c :: r ∧ val (c :: r) = n := by
  obtain ⟨h0, h1⟩ := h
  obtain ⟨m, rfl⟩ : ∃ m : Nat, n = m := ⟨n.toNat, by omega⟩
  have hm : m ≤ 99999 := by omega
  have key : ∀ (c : Int) (r : List Int), (c = 48 → r = []) → (c :: r).length ≤ 5 → (∀ x ∈ c :: r, dig x = true) → dig c = true ∧ digs (c :: r) = c :: r := by
    intro c r h1 h2 h3
    refine ⟨h3 c (by simp), ?_⟩
    rw [digs_cons]
    split
    · rename_i h4; rw [h1 h4]
    · rw [List.take_of_length_le h2]
      have := takeWhile_app (p := dig) (a := c :: r) (b := []) h3 (fun x q e => by cases e)
      simpa using this
  have hd : ∀ k : Nat, k < 10 → dig (48 + (k : Int)) = true := fun k hk => by simp [dig]; omega
  unfold digits
  rw [if_neg (by omega), Int.toNat_natCast]
  by_cases c1 : m < 10
  · rw [dg_small c1]
    have := key (48 + (m : Int)) [] (fun _ => rfl) (by simp) (fun x hx => by simp at hx; subst hx; exact hd m c1)
    exact ⟨_, _, rfl, this.1, this.2, by simp [val]; omega⟩
  by_cases c2 : m / 10 < 10
  · rw [dg_big c1, dg_small c2]
    have := key (48 + ((m / 10 : Nat) : Int)) [48 + ((m % 10 : Nat) : Int)] (fun h => by omega) (by simp) (fun x hx => by
      simp only [List.mem_cons, List.not_mem_nil, or_false] at hx
      rcases hx with rfl | rfl <;> exact hd _ (by omega))
    exact ⟨_, _, rfl, this.1, this.2, by show val [_, _] = _; simp only [val, List.foldl_cons, List.foldl_nil]; omega⟩
  by_cases c3 : m / 10 / 10 < 10
  · rw [dg_big c1, dg_big c2, dg_small c3]
    have := key (48 + ((m / 10 / 10 : Nat) : Int)) [48 + ((m / 10 % 10 : Nat) : Int), 48 + ((m % 10 : Nat) : Int)] (fun h => by omega) (by simp) (fun x hx => by
      simp only [List.mem_cons, List.not_mem_nil, or_false] at hx
      rcases hx with rfl | rfl | rfl <;> exact hd _ (by omega))
    exact ⟨_, _, rfl, this.1, this.2, by show val [_, _, _] = _; simp only [val, List.foldl_cons, List.foldl_nil]; omega⟩
  by_cases c4 : m / 10 / 10 / 10 < 10
  · rw [dg_big c1, dg_big c2, dg_big c3, dg_small c4]
    have := key (48 + ((m / 10 / 10 / 10 : Nat) : Int)) [48 + ((m / 10 / 10 % 10 : Nat) : Int), 48 + ((m / 10 % 10 : Nat) : Int), 48 + ((m % 10 : Nat) : Int)] (fun h => by omega) (by simp) (fun x hx => by
      simp only [List.mem_cons, List.not_mem_nil, or_false] at hx
      rcases hx with rfl | rfl | rfl | rfl <;> exact hd _ (by omega))
    exact ⟨_, _, rfl, this.1, this.2, by show val [_, _, _, _] = _; simp only [val, List.foldl_cons, List.foldl_nil]; omega⟩
  · rw [dg_big c1, dg_big c2, dg_big c3, dg_big c4, dg_small (show m / 10 / 10 / 10 / 10 < 10 by omega)]
    have := key (48 + ((m / 10 / 10 / 10 / 10 : Nat) : Int)) [48 + ((m / 10 / 10 / 10 % 10 : Nat) : Int), 48 + ((m / 10 / 10 % 10 : Nat) : Int), 48 + ((m / 10 % 10 : Nat) : Int), 48 + ((m % 10 : Nat) : Int)] (fun h => by omega) (by simp) (fun x hx => by
      simp only [List.mem_cons, List.not_mem_nil, or_false] at hx
      rcases hx with rfl | rfl | rfl | rfl | rfl <;> exact hd _ (by omega))
    exact ⟨_, _, rfl, this.1, this.2, by show val [_, _, _, _, _] = _; simp only [val, List.foldl_cons, List.foldl_nil]; omega⟩
theorem rT_of {d : Int} (h : okR d) : rT d = [114, 48 + d] ∧ regN (rT d) = d := by
  obtain ⟨h0, h1⟩ := h
  rcases (by omega : d = 0 ∨ d = 1 ∨ d = 2 ∨ d = 3) with rfl | rfl | rfl | rfl <;> exact ⟨rfl, rfl⟩
theorem opT_of {n : Int} (h : okO n) : opN (opT n) = n ∧ regN (opT n) < 0 ∧ isWord (opT n) = true ∧ ∃ c r, opT n = c :: r ∧ Lx.lower c = true ∧ ∀ x ∈ opT n, Lx.word x = true := by
  obtain ⟨h0, h1⟩ := h
  rcases (by omega : n = 1 ∨ n = 2 ∨ n = 3 ∨ n = 4 ∨ n = 5 ∨ n = 6 ∨ n = 7 ∨ n = 8 ∨ n = 9 ∨ n = 10) with rfl | rfl | rfl | rfl | rfl | rfl | rfl | rfl | rfl | rfl
  all_goals exact ⟨by decide, by decide, by decide, _, _, rfl, by decide, by decide⟩
end Sy
end
end Go.Proofs.YtmghklokbmdenaaDoor
namespace Go.Proofs.YtmghklokbmdenaaDoor
section
namespace Sy
open Lx (Tk)
/-- signs one behind the other, so many blanks ahead of each -/
def rend : List (Nat × Tk) → List Int
  | [] => []
  | p :: ps => List.replicate p.1 32 ++ (p.2.text ++ rend ps)
def okNext : List (Nat × Tk) → Prop
  | [] => True
  | p :: _ => 0 < p.1 ∨ p.2.kind = 3
def okS : List (Nat × Tk) → Prop
  | [] => True
  | p :: ps => (p.2.kind = 3 ∨ okNext ps) ∧ okS ps
theorem rend_stops : ∀ {ps : List (Nat × Tk)}, okNext ps → (∀ p ∈ ps, Lx.Good p.2) → Lx.stops (rend ps) = true
  | [], _, _ => rfl
  | p :: ps, h, hg => by
    rcases h with h | h
    · obtain ⟨k, hk⟩ : ∃ k, p.1 = k + 1 := ⟨p.1 - 1, by omega⟩
      rw [rend, hk, List.replicate_succ]
      rfl
    · rw [rend]
      rcases Nat.eq_zero_or_pos p.1 with h0 | h0
      · rw [h0]
        rcases hg p (by simp) with ⟨h1, _⟩ | ⟨h1, _⟩ | ⟨_, _, c, e, h1⟩
        · rw [h] at h1; cases h1
        · rw [h] at h1; cases h1
        · rw [e]
          have : c = 44 ∨ c = 58 ∨ c = 91 ∨ c = 93 ∨ c = 43 := by simpa [Lx.sgn] using h1
          rcases this with rfl | rfl | rfl | rfl | rfl <;> rfl
      · obtain ⟨k, hk⟩ : ∃ k, p.1 = k + 1 := ⟨p.1 - 1, by omega⟩
        rw [hk, List.replicate_succ]
        rfl
theorem lxA_rend : ∀ (ps : List (Nat × Tk)) (a : Nat), (∀ p ∈ ps, Lx.Good p.2) → okS ps → ∃ us, Lx.lxA a (rend ps) = .ok us ∧ Lx.SameTs (ps.map Prod.snd) us
  | [], a, _, _ => ⟨[], Lx.lxA_nil a, trivial⟩
  | p :: ps, a, hg, hs => by
    obtain ⟨us, e, h⟩ := lxA_rend ps (a + p.1 + p.2.text.length) (fun q hq => hg q (by simp [hq])) hs.2
    have hgp := hg p (by simp)
    refine ⟨⟨p.2.kind, p.2.text, p.2.n, a + p.1⟩ :: us, ?_, rfl, rfl, rfl, h⟩
    rw [rend, Lx.lxA_blanks]
    by_cases h3 : p.2.kind = 3
    · rcases hgp with ⟨h1, _⟩ | ⟨h1, _⟩ | ⟨_, hn, c, et, h1⟩
      · rw [h3] at h1; cases h1
      · rw [h3] at h1; cases h1
      · rw [et] at e ⊢
        show Lx.lxA (a + p.1) (c :: rend ps) = _
        rw [Lx.lxA_sign h1]
        have e' : Lx.lxA (a + p.1 + 1) (rend ps) = .ok us := e
        rw [e', h3, hn]
        rfl
    · have hst := rend_stops (hs.1.resolve_left h3) (fun q hq => hg q (by simp [hq]))
      rw [Lx.lxA_good hgp hst, e]
      rfl
def nT (t : List Int) : Tk := ⟨1, t, 0, 0⟩
def sT (c : Int) : Tk := ⟨3, [c], 0, 0⟩
def uT (n : Int) : Tk := ⟨2, digits n, n, 0⟩
def vK (v : Vl) : Tk := if v.reg then nT (rT v.n) else uT v.n
theorem vK_text (v : Vl) : (vK v).text = vT v := by unfold vK vT; split <;> rfl
theorem good_s {c : Int} (h : Lx.sgn c = true) : Lx.Good (sT c) := .inr (.inr ⟨rfl, rfl, c, rfl, h⟩)
theorem good_u {n : Int} (h : okN n) : Lx.Good (uT n) := by
  obtain ⟨c, r, e, h1, h2, h3⟩ := digits_form h
  exact .inr (.inl ⟨rfl, by show n = Lx.val (digits n); rw [e, h3], c, r, e, h1, by show Lx.digs (digits n) = digits n; rw [e, h2]⟩)
theorem good_r {d : Int} (h : okR d) : Lx.Good (nT (rT d)) := by
  refine .inl ⟨rfl, rfl, 114, [48 + d], (rT_of h).1, by decide, fun x hx => ?_⟩
  have hx : x ∈ rT d := hx
  rw [(rT_of h).1] at hx
  simp only [List.mem_cons, List.not_mem_nil, or_false] at hx
  obtain ⟨h0, h1⟩ := h
  rcases hx with rfl | rfl
  · decide
  · simp [Lx.word, Lx.dig]; omega
theorem good_v {v : Vl} (h : okV v) : Lx.Good (vK v) := by
  unfold vK
  rcases h with ⟨h1, h2⟩ | ⟨h1, h2⟩
  · rw [h1]; exact good_r h2
  · rw [h1]; exact good_u h2
theorem good_n {t : List Int} (h : okName t) : Lx.Good (nT t) := by
  obtain ⟨⟨c, r, e, h1, h2⟩, _⟩ := h
  exact .inl ⟨rfl, rfl, c, r, e, h1, h2⟩
theorem good_o {n : Int} (h : okO n) : Lx.Good (nT (opT n)) := by
  obtain ⟨_, _, _, c, r, e, h1, h2⟩ := opT_of h
  exact .inl ⟨rfl, rfl, c, r, e, h1, h2⟩
section
variable {ts : List Tk} {long k : Nat} {b : Int} {u : Tk}
theorem tokAt_of (h : ts[k]? = some u) : tokAt ts long k = u := by simp [tokAt, h]
theorem step_of (h : ts[k]? = some u) : step ts ⟨k, b⟩ = ⟨k + 1, b⟩ := by
  have := (List.getElem?_eq_some_iff.1 h).1
  simp [step, this]
theorem sign_ok {c : Int} (h : ts[k]? = some u) (h1 : u.kind = 3) (h2 : u.text = [c]) : sign ts long c ⟨k, b⟩ = ⟨k + 1, b⟩ := by
  simp only [sign, tokAt_of h, h1, h2, step_of h, and_self, if_true]
theorem reg_ok {d : Int} (h : ts[k]? = some u) (h1 : u.kind = 1) (h2 : u.text = rT d) (hd : okR d) : reg ts long ⟨k, b⟩ = (d, ⟨k + 1, b⟩) := by
  have e := (rT_of hd).2
  simp only [reg, tokAt_of h, h1, h2, e, step_of h, true_and]
  rw [if_pos hd.1]
theorem vl_ok {v : Vl} (h : ts[k]? = some u) (h1 : u.kind = (vK v).kind) (h2 : u.text = (vK v).text) (h3 : u.n = (vK v).n) (hv : okV v) : vl ts long ⟨k, b⟩ = (v, ⟨k + 1, b⟩) := by
  obtain ⟨r, n⟩ := v
  rcases hv with ⟨hr, hn⟩ | ⟨hr, hn⟩
  · simp only at hr hn
    subst hr
    have h1 : u.kind = 1 := h1
    have h2 : u.text = rT n := h2
    have e := (rT_of hn).2
    simp only [vl, tokAt_of h, h1, h2, e, step_of h, true_and]
    rw [if_neg (by decide), if_pos hn.1]
  · simp only at hr hn
    subst hr
    have h1 : u.kind = 2 := h1
    have h3 : u.n = n := h3
    simp only [vl, tokAt_of h, h1, h3, step_of h, if_true]
theorem num_ok {n : Int} (h : ts[k]? = some u) (h1 : u.kind = 2) (h2 : u.n = n) : num ts long ⟨k, b⟩ = (n, ⟨k + 1, b⟩) := by
  simp only [num, tokAt_of h, h1, h2, step_of h, if_true]
theorem name_ok {t : List Int} (h : ts[k]? = some u) (h1 : u.kind = 1) (h2 : u.text = t) (hw : isWord t = false) : name ts long ⟨k, b⟩ = (t, ⟨k + 1, b⟩) := by
  simp only [name, tokAt_of h, h1, h2, hw, step_of h, and_self, if_true]
end
/-- the branch of an op's own name -/
def dflt (ts : List Tk) (long : Nat) (w : List Int) (s : St) : In × St :=
  let (d, s) := reg ts long s
  let s := sign ts long 44 s
  let (a, s) := vl ts long s
  let s := sign ts long 44 s
  let (b, s) := vl ts long s
  (⟨1, opN w, d, a, b, [], 0⟩, s)
theorem ins_alu (ts : List Tk) (long : Nat) {n : Int} (h : okO n) (s : St) : ins ts long (opT n) s = dflt ts long (opT n) s := by
  obtain ⟨h0, h1⟩ := h
  rcases (by omega : n = 1 ∨ n = 2 ∨ n = 3 ∨ n = 4 ∨ n = 5 ∨ n = 6 ∨ n = 7 ∨ n = 8 ∨ n = 9 ∨ n = 10) with rfl | rfl | rfl | rfl | rfl | rfl | rfl | rfl | rfl | rfl
  all_goals
    simp only [opT, ops]
    unfold ins dflt
    simp
theorem item_ins (ts : List Tk) (long : Nat) {u : Tk} {w : List Int} (h : ts[0]? = some u) (h1 : u.kind = 1) (h2 : u.text = w) (hr : regN w < 0)
    (hw : w ≠ [119, 105, 100, 116, 104] ∧ w ≠ [119, 105, 110, 100, 111, 119] ∧ w ≠ [102, 117, 101, 108] ∧ w ≠ [112, 117, 98, 108, 105, 99] ∧ w ≠ [115, 101, 99, 114, 101, 116]) (hi : isWord w = true) :
    item ts long ⟨0, -1⟩ = (⟨7, 0, false, [], (ins ts long w ⟨1, -1⟩).1⟩, (ins ts long w ⟨1, -1⟩).2) := by
  obtain ⟨w1, w2, w3, w4, w5⟩ := hw
  unfold item
  simp only [tokAt_of h, h1, h2, hr, step_of h, and_self, if_true, if_neg w1, if_neg w2, if_neg w3, if_neg w4, if_neg w5, hi]
theorem parseT_ok {ts : List Tk} {long : Nat} {i : It} (h0 : ts ≠ []) (h : item ts long ⟨0, -1⟩ = (i, ⟨ts.length, -1⟩)) : parseT ts long = .ok i := by
  unfold parseT
  rw [if_neg h0, h]
  simp
theorem parse_of {r : List Int} {ps : List (Nat × Tk)} {i : It} (hr : r = rend ps) (hg : ∀ p ∈ ps, Lx.Good p.2) (hs : okS ps) (hne : ps ≠ [])
    (h : ∀ us : List Tk, us.length = ps.length → (∀ (j : Nat) (t : Tk), (ps.map Prod.snd)[j]? = some t → ∃ u, us[j]? = some u ∧ u.kind = t.kind ∧ u.text = t.text ∧ u.n = t.n) → item us r.length ⟨0, -1⟩ = (i, ⟨us.length, -1⟩)) : parse r = .ok i := by
  obtain ⟨us, e, hsm⟩ := lxA_rend ps 0 hg hs
  obtain ⟨hl, hn⟩ := hsm.nth
  rw [List.length_map] at hl
  unfold parse
  rw [hr, e]
  rw [← hr]
  refine parseT_ok (fun h0 => ?_) (h us hl hn)
  rw [h0] at hl
  cases ps with
  | nil => exact hne rfl
  | cons p ps => simp at hl
end Sy
end
end Go.Proofs.YtmghklokbmdenaaDoor
namespace Go.Proofs.YtmghklokbmdenaaDoor
section
namespace Sy
open Lx (Tk)
theorem good_w {t : List Int} (h : (match t with | c :: _ => Lx.lower c && t.all Lx.word | [] => false) = true) : Lx.Good (nT t) := by
  cases t with
  | nil => cases h
  | cons c r =>
    rw [Bool.and_eq_true] at h
    exact .inl ⟨rfl, rfl, c, r, rfl, h.1, fun x hx => List.all_eq_true.1 h.2 x hx⟩
theorem opT_ne {n : Int} (h : okO n) : opT n ≠ [119, 105, 100, 116, 104] ∧ opT n ≠ [119, 105, 110, 100, 111, 119] ∧ opT n ≠ [102, 117, 101, 108] ∧ opT n ≠ [112, 117, 98, 108, 105, 99] ∧ opT n ≠ [115, 101, 99, 114, 101, 116] := by
  obtain ⟨h0, h1⟩ := h
  rcases (by omega : n = 1 ∨ n = 2 ∨ n = 3 ∨ n = 4 ∨ n = 5 ∨ n = 6 ∨ n = 7 ∨ n = 8 ∨ n = 9 ∨ n = 10) with rfl | rfl | rfl | rfl | rfl | rfl | rfl | rfl | rfl | rfl <;> decide
theorem say_alu {op d : Int} {a b : Vl} (ho : okO op) (hd : okR d) (ha : okV a) (hb : okV b) : parse (text ⟨7, 0, false, [], ⟨1, op, d, a, b, [], 0⟩⟩) = .ok ⟨7, 0, false, [], ⟨1, op, d, a, b, [], 0⟩⟩ := by
  refine parse_of (ps := [(0, nT (opT op)), (1, nT (rT d)), (0, sT 44), (1, vK a), (0, sT 44), (1, vK b)]) ?_ ?_ ?_ (by simp) ?_
  · simp [text, insT, kindT, addrT, two, rend, vK_text, nT, sT, uT, List.replicate]
  · intro p hp
    simp only [List.mem_cons, List.not_mem_nil, or_false] at hp
    rcases hp with rfl | rfl | rfl | rfl | rfl | rfl
    · exact good_o ho
    · exact good_r hd
    · exact good_s (by decide)
    · exact good_v ha
    · exact good_s (by decide)
    · exact good_v hb
  · simp [okS, okNext, sT, nT, uT]
  · intro us hl hn
    obtain ⟨u0, g0, k0, x0, n0⟩ := hn 0 _ rfl
    obtain ⟨u1, g1, k1, x1, n1⟩ := hn 1 _ rfl
    obtain ⟨u2, g2, k2, x2, n2⟩ := hn 2 _ rfl
    obtain ⟨u3, g3, k3, x3, n3⟩ := hn 3 _ rfl
    obtain ⟨u4, g4, k4, x4, n4⟩ := hn 4 _ rfl
    obtain ⟨u5, g5, k5, x5, n5⟩ := hn 5 _ rfl
    simp only [List.length_cons, List.length_nil, Nat.reduceAdd] at hl
    obtain ⟨o1, o2, o3, _⟩ := opT_of ho
    rw [item_ins us _ g0 k0 x0 o2 (opT_ne ho) o3, show (nT (opT op)).text = opT op from rfl, ins_alu us _ ho]
    simp only [dflt, reg_ok g1 k1 x1 hd, sign_ok g2 k2 x2, vl_ok g3 k3 x3 n3 ha, sign_ok g4 k4 x4, vl_ok g5 k5 x5 n5 hb, o1, hl]
theorem say_load {d : Int} {a b : Vl} (hd : okR d) (ha : okV a) (hb : okV b) : parse (text ⟨7, 0, false, [], ⟨2, 0, d, a, b, [], 0⟩⟩) = .ok ⟨7, 0, false, [], ⟨2, 0, d, a, b, [], 0⟩⟩ := by
  refine parse_of (ps := [(0, nT [108, 111, 97, 100]), (1, nT (rT d)), (0, sT 44), (1, sT 91), (0, vK a), (1, sT 43), (1, vK b), (0, sT 93)]) ?_ ?_ ?_ (by simp) ?_
  · simp [text, insT, kindT, addrT, two, rend, vK_text, nT, sT, uT, List.replicate]
  · intro p hp
    simp only [List.mem_cons, List.not_mem_nil, or_false] at hp
    rcases hp with rfl | rfl | rfl | rfl | rfl | rfl | rfl | rfl
    · exact good_w (by decide)
    · exact good_r hd
    · exact good_s (by decide)
    · exact good_s (by decide)
    · exact good_v ha
    · exact good_s (by decide)
    · exact good_v hb
    · exact good_s (by decide)
  · simp [okS, okNext, sT, nT, uT]
  · intro us hl hn
    obtain ⟨u0, g0, k0, x0, n0⟩ := hn 0 _ rfl
    obtain ⟨u1, g1, k1, x1, n1⟩ := hn 1 _ rfl
    obtain ⟨u2, g2, k2, x2, n2⟩ := hn 2 _ rfl
    obtain ⟨u3, g3, k3, x3, n3⟩ := hn 3 _ rfl
    obtain ⟨u4, g4, k4, x4, n4⟩ := hn 4 _ rfl
    obtain ⟨u5, g5, k5, x5, n5⟩ := hn 5 _ rfl
    obtain ⟨u6, g6, k6, x6, n6⟩ := hn 6 _ rfl
    obtain ⟨u7, g7, k7, x7, n7⟩ := hn 7 _ rfl
    simp only [List.length_cons, List.length_nil, Nat.reduceAdd] at hl
    rw [item_ins us _ g0 k0 x0 (by decide) (by decide) (by decide)]
    simp only [show (nT [108, 111, 97, 100]).text = [108, 111, 97, 100] from rfl]
    unfold ins
    simp only [List.cons.injEq, Int.reduceEq, reduceCtorEq, and_true, and_false, false_and, and_self, if_true, if_false, address, reg_ok g1 k1 x1 hd, sign_ok g2 k2 x2, sign_ok g3 k3 x3, vl_ok g4 k4 x4 n4 ha, sign_ok g5 k5 x5, vl_ok g6 k6 x6 n6 hb, sign_ok g7 k7 x7, hl]
theorem say_store {d : Int} {a b : Vl} (hd : okR d) (ha : okV a) (hb : okV b) : parse (text ⟨7, 0, false, [], ⟨3, 0, d, a, b, [], 0⟩⟩) = .ok ⟨7, 0, false, [], ⟨3, 0, d, a, b, [], 0⟩⟩ := by
  refine parse_of (ps := [(0, nT [115, 116, 111, 114, 101]), (1, sT 91), (0, vK a), (1, sT 43), (1, vK b), (0, sT 93), (0, sT 44), (1, nT (rT d))]) ?_ ?_ ?_ (by simp) ?_
  · simp [text, insT, kindT, addrT, two, rend, vK_text, nT, sT, uT, List.replicate]
  · intro p hp
    simp only [List.mem_cons, List.not_mem_nil, or_false] at hp
    rcases hp with rfl | rfl | rfl | rfl | rfl | rfl | rfl | rfl
    · exact good_w (by decide)
    · exact good_s (by decide)
    · exact good_v ha
    · exact good_s (by decide)
    · exact good_v hb
    · exact good_s (by decide)
    · exact good_s (by decide)
    · exact good_r hd
  · simp [okS, okNext, sT, nT, uT]
  · intro us hl hn
    obtain ⟨u0, g0, k0, x0, n0⟩ := hn 0 _ rfl
    obtain ⟨u1, g1, k1, x1, n1⟩ := hn 1 _ rfl
    obtain ⟨u2, g2, k2, x2, n2⟩ := hn 2 _ rfl
    obtain ⟨u3, g3, k3, x3, n3⟩ := hn 3 _ rfl
    obtain ⟨u4, g4, k4, x4, n4⟩ := hn 4 _ rfl
    obtain ⟨u5, g5, k5, x5, n5⟩ := hn 5 _ rfl
    obtain ⟨u6, g6, k6, x6, n6⟩ := hn 6 _ rfl
    obtain ⟨u7, g7, k7, x7, n7⟩ := hn 7 _ rfl
    simp only [List.length_cons, List.length_nil, Nat.reduceAdd] at hl
    rw [item_ins us _ g0 k0 x0 (by decide) (by decide) (by decide)]
    simp only [show (nT [115, 116, 111, 114, 101]).text = [115, 116, 111, 114, 101] from rfl]
    unfold ins
    simp only [List.cons.injEq, Int.reduceEq, reduceCtorEq, and_true, and_false, false_and, and_self, if_true, if_false, address, sign_ok g1 k1 x1, vl_ok g2 k2 x2 n2 ha, sign_ok g3 k3 x3, vl_ok g4 k4 x4 n4 hb, sign_ok g5 k5 x5, sign_ok g6 k6 x6, reg_ok g7 k7 x7 hd, hl]
theorem say_cmov {d : Int} {a b : Vl} (hd : okR d) (ha : okV a) (hb : okV b) : parse (text ⟨7, 0, false, [], ⟨4, 0, d, a, b, [], 0⟩⟩) = .ok ⟨7, 0, false, [], ⟨4, 0, d, a, b, [], 0⟩⟩ := by
  refine parse_of (ps := [(0, nT [99, 109, 111, 118]), (1, nT (rT d)), (0, sT 44), (1, vK a), (0, sT 44), (1, vK b)]) ?_ ?_ ?_ (by simp) ?_
  · simp [text, insT, kindT, addrT, two, rend, vK_text, nT, sT, uT, List.replicate]
  · intro p hp
    simp only [List.mem_cons, List.not_mem_nil, or_false] at hp
    rcases hp with rfl | rfl | rfl | rfl | rfl | rfl
    · exact good_w (by decide)
    · exact good_r hd
    · exact good_s (by decide)
    · exact good_v ha
    · exact good_s (by decide)
    · exact good_v hb
  · simp [okS, okNext, sT, nT, uT]
  · intro us hl hn
    obtain ⟨u0, g0, k0, x0, n0⟩ := hn 0 _ rfl
    obtain ⟨u1, g1, k1, x1, n1⟩ := hn 1 _ rfl
    obtain ⟨u2, g2, k2, x2, n2⟩ := hn 2 _ rfl
    obtain ⟨u3, g3, k3, x3, n3⟩ := hn 3 _ rfl
    obtain ⟨u4, g4, k4, x4, n4⟩ := hn 4 _ rfl
    obtain ⟨u5, g5, k5, x5, n5⟩ := hn 5 _ rfl
    simp only [List.length_cons, List.length_nil, Nat.reduceAdd] at hl
    rw [item_ins us _ g0 k0 x0 (by decide) (by decide) (by decide)]
    simp only [show (nT [99, 109, 111, 118]).text = [99, 109, 111, 118] from rfl]
    unfold ins
    simp only [List.cons.injEq, Int.reduceEq, reduceCtorEq, and_true, and_false, false_and, and_self, if_true, if_false, address, reg_ok g1 k1 x1 hd, sign_ok g2 k2 x2, vl_ok g3 k3 x3 n3 ha, sign_ok g4 k4 x4, vl_ok g5 k5 x5 n5 hb, hl]
theorem say_br {op : Int} {a b : Vl} {n : List Int} (ho : okO op) (ha : okV a) (hb : okV b) (hnm : okName n) : parse (text ⟨7, 0, false, [], ⟨5, op, 0, a, b, n, 0⟩⟩) = .ok ⟨7, 0, false, [], ⟨5, op, 0, a, b, n, 0⟩⟩ := by
  refine parse_of (ps := [(0, nT [98, 114]), (1, nT (opT op)), (1, vK a), (0, sT 44), (1, vK b), (0, sT 44), (1, nT n)]) ?_ ?_ ?_ (by simp) ?_
  · simp [text, insT, kindT, addrT, two, rend, vK_text, nT, sT, uT, List.replicate]
  · intro p hp
    simp only [List.mem_cons, List.not_mem_nil, or_false] at hp
    rcases hp with rfl | rfl | rfl | rfl | rfl | rfl | rfl
    · exact good_w (by decide)
    · exact good_o ho
    · exact good_v ha
    · exact good_s (by decide)
    · exact good_v hb
    · exact good_s (by decide)
    · exact good_n hnm
  · simp [okS, okNext, sT, nT, uT]
  · intro us hl hn
    obtain ⟨u0, g0, k0, x0, n0⟩ := hn 0 _ rfl
    obtain ⟨u1, g1, k1, x1, n1⟩ := hn 1 _ rfl
    obtain ⟨u2, g2, k2, x2, n2⟩ := hn 2 _ rfl
    obtain ⟨u3, g3, k3, x3, n3⟩ := hn 3 _ rfl
    obtain ⟨u4, g4, k4, x4, n4⟩ := hn 4 _ rfl
    obtain ⟨u5, g5, k5, x5, n5⟩ := hn 5 _ rfl
    obtain ⟨u6, g6, k6, x6, n6⟩ := hn 6 _ rfl
    simp only [List.length_cons, List.length_nil, Nat.reduceAdd] at hl
    obtain ⟨o1, o2, o3, _⟩ := opT_of ho
    have o4 : op ≠ 0 := by obtain ⟨h0, _⟩ := ho; omega
    have x1' : u1.text = opT op := x1
    have k1' : u1.kind = 1 := k1
    rw [item_ins us _ g0 k0 x0 (by decide) (by decide) (by decide)]
    simp only [show (nT [98, 114]).text = [98, 114] from rfl]
    unfold ins
    simp only [List.cons.injEq, Int.reduceEq, reduceCtorEq, and_true, and_false, false_and, and_self, if_true, if_false, tokAt_of g1, k1', x1', o1, ne_eq, o4, not_false_eq_true, step_of g1, vl_ok g2 k2 x2 n2 ha, sign_ok g3 k3 x3, vl_ok g4 k4 x4 n4 hb, sign_ok g5 k5 x5, name_ok g6 k6 x6 hnm.2, hl]
    rfl
theorem say_jmp {n : List Int} (hnm : okName n) : parse (text ⟨7, 0, false, [], ⟨6, 0, 0, v0, v0, n, 0⟩⟩) = .ok ⟨7, 0, false, [], ⟨6, 0, 0, v0, v0, n, 0⟩⟩ := by
  refine parse_of (ps := [(0, nT [106, 109, 112]), (1, nT n)]) ?_ ?_ ?_ (by simp) ?_
  · simp [text, insT, kindT, addrT, two, rend, vK_text, nT, sT, uT, List.replicate]
  · intro p hp
    simp only [List.mem_cons, List.not_mem_nil, or_false] at hp
    rcases hp with rfl | rfl
    · exact good_w (by decide)
    · exact good_n hnm
  · simp [okS, okNext, sT, nT, uT]
  · intro us hl hn
    obtain ⟨u0, g0, k0, x0, n0⟩ := hn 0 _ rfl
    obtain ⟨u1, g1, k1, x1, n1⟩ := hn 1 _ rfl
    simp only [List.length_cons, List.length_nil, Nat.reduceAdd] at hl
    rw [item_ins us _ g0 k0 x0 (by decide) (by decide) (by decide)]
    simp only [show (nT [106, 109, 112]).text = [106, 109, 112] from rfl]
    unfold ins
    simp only [List.cons.injEq, Int.reduceEq, reduceCtorEq, and_true, and_false, false_and, and_self, if_true, if_false, address, name_ok g1 k1 x1 hnm.2, hl]
    rfl
theorem say_call {n : List Int} (hnm : okName n) : parse (text ⟨7, 0, false, [], ⟨8, 0, 0, v0, v0, n, 0⟩⟩) = .ok ⟨7, 0, false, [], ⟨8, 0, 0, v0, v0, n, 0⟩⟩ := by
  refine parse_of (ps := [(0, nT [99, 97, 108, 108]), (1, nT n)]) ?_ ?_ ?_ (by simp) ?_
  · simp [text, insT, kindT, addrT, two, rend, vK_text, nT, sT, uT, List.replicate]
  · intro p hp
    simp only [List.mem_cons, List.not_mem_nil, or_false] at hp
    rcases hp with rfl | rfl
    · exact good_w (by decide)
    · exact good_n hnm
  · simp [okS, okNext, sT, nT, uT]
  · intro us hl hn
    obtain ⟨u0, g0, k0, x0, n0⟩ := hn 0 _ rfl
    obtain ⟨u1, g1, k1, x1, n1⟩ := hn 1 _ rfl
    simp only [List.length_cons, List.length_nil, Nat.reduceAdd] at hl
    rw [item_ins us _ g0 k0 x0 (by decide) (by decide) (by decide)]
    simp only [show (nT [99, 97, 108, 108]).text = [99, 97, 108, 108] from rfl]
    unfold ins
    simp only [List.cons.injEq, Int.reduceEq, reduceCtorEq, and_true, and_false, false_and, and_self, if_true, if_false, address, name_ok g1 k1 x1 hnm.2, hl]
    rfl
theorem say_ind {a : Vl} (ha : okV a) : parse (text ⟨7, 0, false, [], ⟨7, 0, 0, a, v0, [], 0⟩⟩) = .ok ⟨7, 0, false, [], ⟨7, 0, 0, a, v0, [], 0⟩⟩ := by
  refine parse_of (ps := [(0, nT [105, 110, 100]), (1, vK a)]) ?_ ?_ ?_ (by simp) ?_
  · simp [text, insT, kindT, addrT, two, rend, vK_text, nT, sT, uT, List.replicate]
  · intro p hp
    simp only [List.mem_cons, List.not_mem_nil, or_false] at hp
    rcases hp with rfl | rfl
    · exact good_w (by decide)
    · exact good_v ha
  · simp [okS, okNext, sT, nT, uT]
  · intro us hl hn
    obtain ⟨u0, g0, k0, x0, n0⟩ := hn 0 _ rfl
    obtain ⟨u1, g1, k1, x1, n1⟩ := hn 1 _ rfl
    simp only [List.length_cons, List.length_nil, Nat.reduceAdd] at hl
    rw [item_ins us _ g0 k0 x0 (by decide) (by decide) (by decide)]
    simp only [show (nT [105, 110, 100]).text = [105, 110, 100] from rfl]
    unfold ins
    simp only [List.cons.injEq, Int.reduceEq, reduceCtorEq, and_true, and_false, false_and, and_self, if_true, if_false, address, vl_ok g1 k1 x1 n1 ha, hl]
theorem say_ret  : parse (text ⟨7, 0, false, [], ⟨9, 0, 0, v0, v0, [], 0⟩⟩) = .ok ⟨7, 0, false, [], ⟨9, 0, 0, v0, v0, [], 0⟩⟩ := by
  refine parse_of (ps := [(0, nT [114, 101, 116])]) ?_ ?_ ?_ (by simp) ?_
  · simp [text, insT, kindT, addrT, two, rend, vK_text, nT, sT, uT, List.replicate]
  · intro p hp
    simp only [List.mem_cons, List.not_mem_nil, or_false] at hp
    subst hp
    exact good_w (by decide)
  · simp [okS, okNext, sT, nT, uT]
  · intro us hl hn
    obtain ⟨u0, g0, k0, x0, n0⟩ := hn 0 _ rfl
    simp only [List.length_cons, List.length_nil, Nat.reduceAdd] at hl
    rw [item_ins us _ g0 k0 x0 (by decide) (by decide) (by decide)]
    simp only [show (nT [114, 101, 116]).text = [114, 101, 116] from rfl]
    unfold ins
    simp only [List.cons.injEq, Int.reduceEq, reduceCtorEq, and_true, and_false, false_and, and_self, if_true, if_false, address, hl]
theorem say_fence  : parse (text ⟨7, 0, false, [], ⟨10, 0, 0, v0, v0, [], 0⟩⟩) = .ok ⟨7, 0, false, [], ⟨10, 0, 0, v0, v0, [], 0⟩⟩ := by
  refine parse_of (ps := [(0, nT [102, 101, 110, 99, 101])]) ?_ ?_ ?_ (by simp) ?_
  · simp [text, insT, kindT, addrT, two, rend, vK_text, nT, sT, uT, List.replicate]
  · intro p hp
    simp only [List.mem_cons, List.not_mem_nil, or_false] at hp
    subst hp
    exact good_w (by decide)
  · simp [okS, okNext, sT, nT, uT]
  · intro us hl hn
    obtain ⟨u0, g0, k0, x0, n0⟩ := hn 0 _ rfl
    simp only [List.length_cons, List.length_nil, Nat.reduceAdd] at hl
    rw [item_ins us _ g0 k0 x0 (by decide) (by decide) (by decide)]
    simp only [show (nT [102, 101, 110, 99, 101]).text = [102, 101, 110, 99, 101] from rfl]
    unfold ins
    simp only [List.cons.injEq, Int.reduceEq, reduceCtorEq, and_true, and_false, false_and, and_self, if_true, if_false, address, hl]
theorem say_halt  : parse (text ⟨7, 0, false, [], ⟨11, 0, 0, v0, v0, [], 0⟩⟩) = .ok ⟨7, 0, false, [], ⟨11, 0, 0, v0, v0, [], 0⟩⟩ := by
  refine parse_of (ps := [(0, nT [104, 97, 108, 116])]) ?_ ?_ ?_ (by simp) ?_
  · simp [text, insT, kindT, addrT, two, rend, vK_text, nT, sT, uT, List.replicate]
  · intro p hp
    simp only [List.mem_cons, List.not_mem_nil, or_false] at hp
    subst hp
    exact good_w (by decide)
  · simp [okS, okNext, sT, nT, uT]
  · intro us hl hn
    obtain ⟨u0, g0, k0, x0, n0⟩ := hn 0 _ rfl
    simp only [List.length_cons, List.length_nil, Nat.reduceAdd] at hl
    rw [item_ins us _ g0 k0 x0 (by decide) (by decide) (by decide)]
    simp only [show (nT [104, 97, 108, 116]).text = [104, 97, 108, 116] from rfl]
    unfold ins
    simp only [List.cons.injEq, Int.reduceEq, reduceCtorEq, and_true, and_false, false_and, and_self, if_true, if_false, address, hl]
theorem say_width {n : Int} (h : okN n) : parse (text ⟨1, n, false, [], i0⟩) = .ok ⟨1, n, false, [], i0⟩ := by
  refine parse_of (ps := [(0, nT [119, 105, 100, 116, 104]), (1, uT n)]) ?_ ?_ ?_ (by simp) ?_
  · simp [text, insT, kindT, addrT, two, rend, vK_text, nT, sT, uT, List.replicate]
  · intro p hp
    simp only [List.mem_cons, List.not_mem_nil, or_false] at hp
    rcases hp with rfl | rfl
    · exact good_w (by decide)
    · exact good_u h
  · simp [okS, okNext, sT, nT, uT]
  · intro us hl hn
    obtain ⟨u0, g0, k0, x0, n0⟩ := hn 0 _ rfl
    obtain ⟨u1, g1, k1, x1, n1⟩ := hn 1 _ rfl
    simp only [List.length_cons, List.length_nil, Nat.reduceAdd] at hl
    have x0' : u0.text = [119, 105, 100, 116, 104] := x0
    have k0' : u0.kind = 1 := k0
    unfold item
    simp only [tokAt_of g0, k0', x0', show regN [119, 105, 100, 116, 104] < 0 by decide, step_of g0, and_self, if_true, List.cons.injEq, Int.reduceEq, reduceCtorEq, and_true, and_false, false_and, if_false, num_ok g1 k1 n1, hl]
    rfl
theorem say_window {n : Int} (h : okN n) : parse (text ⟨2, n, false, [], i0⟩) = .ok ⟨2, n, false, [], i0⟩ := by
  refine parse_of (ps := [(0, nT [119, 105, 110, 100, 111, 119]), (1, uT n)]) ?_ ?_ ?_ (by simp) ?_
  · simp [text, insT, kindT, addrT, two, rend, vK_text, nT, sT, uT, List.replicate]
  · intro p hp
    simp only [List.mem_cons, List.not_mem_nil, or_false] at hp
    rcases hp with rfl | rfl
    · exact good_w (by decide)
    · exact good_u h
  · simp [okS, okNext, sT, nT, uT]
  · intro us hl hn
    obtain ⟨u0, g0, k0, x0, n0⟩ := hn 0 _ rfl
    obtain ⟨u1, g1, k1, x1, n1⟩ := hn 1 _ rfl
    simp only [List.length_cons, List.length_nil, Nat.reduceAdd] at hl
    have x0' : u0.text = [119, 105, 110, 100, 111, 119] := x0
    have k0' : u0.kind = 1 := k0
    unfold item
    simp only [tokAt_of g0, k0', x0', show regN [119, 105, 110, 100, 111, 119] < 0 by decide, step_of g0, and_self, if_true, List.cons.injEq, Int.reduceEq, reduceCtorEq, and_true, and_false, false_and, if_false, num_ok g1 k1 n1, hl]
    rfl
theorem say_fuel {n : Int} (h : okN n) : parse (text ⟨3, n, false, [], i0⟩) = .ok ⟨3, n, false, [], i0⟩ := by
  refine parse_of (ps := [(0, nT [102, 117, 101, 108]), (1, uT n)]) ?_ ?_ ?_ (by simp) ?_
  · simp [text, insT, kindT, addrT, two, rend, vK_text, nT, sT, uT, List.replicate]
  · intro p hp
    simp only [List.mem_cons, List.not_mem_nil, or_false] at hp
    rcases hp with rfl | rfl
    · exact good_w (by decide)
    · exact good_u h
  · simp [okS, okNext, sT, nT, uT]
  · intro us hl hn
    obtain ⟨u0, g0, k0, x0, n0⟩ := hn 0 _ rfl
    obtain ⟨u1, g1, k1, x1, n1⟩ := hn 1 _ rfl
    simp only [List.length_cons, List.length_nil, Nat.reduceAdd] at hl
    have x0' : u0.text = [102, 117, 101, 108] := x0
    have k0' : u0.kind = 1 := k0
    unfold item
    simp only [tokAt_of g0, k0', x0', show regN [102, 117, 101, 108] < 0 by decide, step_of g0, and_self, if_true, List.cons.injEq, Int.reduceEq, reduceCtorEq, and_true, and_false, false_and, if_false, num_ok g1 k1 n1, hl]
    rfl
theorem say_reg_public {d : Int} (h : okR d) : parse (text ⟨4, 0, false, [], { i0 with d := d }⟩) = .ok ⟨4, 0, false, [], { i0 with d := d }⟩ := by
  refine parse_of (ps := [(0, nT [112, 117, 98, 108, 105, 99]), (1, nT (rT d))]) ?_ ?_ ?_ (by simp) ?_
  · simp [text, insT, kindT, addrT, two, rend, vK_text, nT, sT, uT, List.replicate]
  · intro p hp
    simp only [List.mem_cons, List.not_mem_nil, or_false] at hp
    rcases hp with rfl | rfl
    · exact good_w (by decide)
    · exact good_r h
  · simp [okS, okNext, sT, nT, uT]
  · intro us hl hn
    obtain ⟨u0, g0, k0, x0, n0⟩ := hn 0 _ rfl
    obtain ⟨u1, g1, k1, x1, n1⟩ := hn 1 _ rfl
    simp only [List.length_cons, List.length_nil, Nat.reduceAdd] at hl
    have x0' : u0.text = [112, 117, 98, 108, 105, 99] := x0
    have k0' : u0.kind = 1 := k0
    have x1' : u1.text = rT d := x1
    have k1' : u1.kind = 1 := k1
    have hr := (rT_of h).2
    unfold item
    simp only [tokAt_of g0, k0', x0', show regN [112, 117, 98, 108, 105, 99] < 0 by decide, step_of g0, and_self, if_true, List.cons.injEq, Int.reduceEq, reduceCtorEq, and_true, and_false, false_and, if_false]
    unfold declare
    simp only [tokAt_of g1, k1', x1', hr, h.1, and_self, if_true, step_of g1, hl]
theorem say_mem_public {m : List Int} {n : Int} (hm : okName m) (h : okN n) : parse (text ⟨5, n, false, m, i0⟩) = .ok ⟨5, n, false, m, i0⟩ := by
  refine parse_of (ps := [(0, nT [112, 117, 98, 108, 105, 99]), (1, nT m), (1, uT n)]) ?_ ?_ ?_ (by simp) ?_
  · simp [text, insT, kindT, addrT, two, rend, vK_text, nT, sT, uT, List.replicate]
  · intro p hp
    simp only [List.mem_cons, List.not_mem_nil, or_false] at hp
    rcases hp with rfl | rfl | rfl
    · exact good_w (by decide)
    · exact good_n hm
    · exact good_u h
  · simp [okS, okNext, sT, nT, uT]
  · intro us hl hn
    obtain ⟨u0, g0, k0, x0, n0⟩ := hn 0 _ rfl
    obtain ⟨u1, g1, k1, x1, n1⟩ := hn 1 _ rfl
    obtain ⟨u2, g2, k2, x2, n2⟩ := hn 2 _ rfl
    simp only [List.length_cons, List.length_nil, Nat.reduceAdd] at hl
    have x0' : u0.text = [112, 117, 98, 108, 105, 99] := x0
    have k0' : u0.kind = 1 := k0
    have x1' : u1.text = m := x1
    have k1' : u1.kind = 1 := k1
    have hr : ¬ 0 ≤ regN m := fun h0 => by have := hm.2; unfold isWord at this; simp [h0] at this
    unfold item
    simp only [tokAt_of g0, k0', x0', show regN [112, 117, 98, 108, 105, 99] < 0 by decide, step_of g0, and_self, if_true, List.cons.injEq, Int.reduceEq, reduceCtorEq, and_true, and_false, false_and, if_false]
    unfold declare
    simp only [tokAt_of g1, k1', x1', hr, and_false, if_false, hm.2, and_self, if_true, step_of g1, num_ok g2 k2 n2, hl]
    rfl
theorem say_reg_secret {d : Int} (h : okR d) : parse (text ⟨4, 0, true, [], { i0 with d := d }⟩) = .ok ⟨4, 0, true, [], { i0 with d := d }⟩ := by
  refine parse_of (ps := [(0, nT [115, 101, 99, 114, 101, 116]), (1, nT (rT d))]) ?_ ?_ ?_ (by simp) ?_
  · simp [text, insT, kindT, addrT, two, rend, vK_text, nT, sT, uT, List.replicate]
  · intro p hp
    simp only [List.mem_cons, List.not_mem_nil, or_false] at hp
    rcases hp with rfl | rfl
    · exact good_w (by decide)
    · exact good_r h
  · simp [okS, okNext, sT, nT, uT]
  · intro us hl hn
    obtain ⟨u0, g0, k0, x0, n0⟩ := hn 0 _ rfl
    obtain ⟨u1, g1, k1, x1, n1⟩ := hn 1 _ rfl
    simp only [List.length_cons, List.length_nil, Nat.reduceAdd] at hl
    have x0' : u0.text = [115, 101, 99, 114, 101, 116] := x0
    have k0' : u0.kind = 1 := k0
    have x1' : u1.text = rT d := x1
    have k1' : u1.kind = 1 := k1
    have hr := (rT_of h).2
    unfold item
    simp only [tokAt_of g0, k0', x0', show regN [115, 101, 99, 114, 101, 116] < 0 by decide, step_of g0, and_self, if_true, List.cons.injEq, Int.reduceEq, reduceCtorEq, and_true, and_false, false_and, if_false]
    unfold declare
    simp only [tokAt_of g1, k1', x1', hr, h.1, and_self, if_true, step_of g1, hl]
theorem say_mem_secret {m : List Int} {n : Int} (hm : okName m) (h : okN n) : parse (text ⟨5, n, true, m, i0⟩) = .ok ⟨5, n, true, m, i0⟩ := by
  refine parse_of (ps := [(0, nT [115, 101, 99, 114, 101, 116]), (1, nT m), (1, uT n)]) ?_ ?_ ?_ (by simp) ?_
  · simp [text, insT, kindT, addrT, two, rend, vK_text, nT, sT, uT, List.replicate]
  · intro p hp
    simp only [List.mem_cons, List.not_mem_nil, or_false] at hp
    rcases hp with rfl | rfl | rfl
    · exact good_w (by decide)
    · exact good_n hm
    · exact good_u h
  · simp [okS, okNext, sT, nT, uT]
  · intro us hl hn
    obtain ⟨u0, g0, k0, x0, n0⟩ := hn 0 _ rfl
    obtain ⟨u1, g1, k1, x1, n1⟩ := hn 1 _ rfl
    obtain ⟨u2, g2, k2, x2, n2⟩ := hn 2 _ rfl
    simp only [List.length_cons, List.length_nil, Nat.reduceAdd] at hl
    have x0' : u0.text = [115, 101, 99, 114, 101, 116] := x0
    have k0' : u0.kind = 1 := k0
    have x1' : u1.text = m := x1
    have k1' : u1.kind = 1 := k1
    have hr : ¬ 0 ≤ regN m := fun h0 => by have := hm.2; unfold isWord at this; simp [h0] at this
    unfold item
    simp only [tokAt_of g0, k0', x0', show regN [115, 101, 99, 114, 101, 116] < 0 by decide, step_of g0, and_self, if_true, List.cons.injEq, Int.reduceEq, reduceCtorEq, and_true, and_false, false_and, if_false]
    unfold declare
    simp only [tokAt_of g1, k1', x1', hr, and_false, if_false, hm.2, and_self, if_true, step_of g1, num_ok g2 k2 n2, hl]
    rfl
theorem say_label {m : List Int} (hm : okName m) : parse (text ⟨6, 0, false, m, i0⟩) = .ok ⟨6, 0, false, m, i0⟩ := by
  refine parse_of (ps := [(0, nT m), (0, sT 58)]) ?_ ?_ ?_ (by simp) ?_
  · simp [text, insT, kindT, addrT, two, rend, vK_text, nT, sT, uT, List.replicate]
  · intro p hp
    simp only [List.mem_cons, List.not_mem_nil, or_false] at hp
    rcases hp with rfl | rfl
    · exact good_n hm
    · exact good_s (by decide)
  · simp [okS, okNext, sT, nT, uT]
  · intro us hl hn
    obtain ⟨u0, g0, k0, x0, n0⟩ := hn 0 _ rfl
    obtain ⟨u1, g1, k1, x1, n1⟩ := hn 1 _ rfl
    simp only [List.length_cons, List.length_nil, Nat.reduceAdd] at hl
    have x0' : u0.text = m := x0
    have k0' : u0.kind = 1 := k0
    have hr : regN m < 0 := by have := hm.2; unfold isWord at this; simp at this; omega
    have hw : words.contains m = false := by have := hm.2; unfold isWord at this; simp only [Bool.or_eq_false_iff] at this; exact this.1.1
    have hne : ∀ x ∈ words, m ≠ x := fun x hx e => by rw [e] at hw; have : words.contains x = true := List.contains_iff_mem.2 hx; rw [this] at hw; cases hw
    unfold item
    simp only [tokAt_of g0, k0', x0', hr, step_of g0, and_self, if_true, if_neg (hne _ (by decide : [119, 105, 100, 116, 104] ∈ words)), if_neg (hne _ (by decide : [119, 105, 110, 100, 111, 119] ∈ words)), if_neg (hne _ (by decide : [102, 117, 101, 108] ∈ words)), if_neg (hne _ (by decide : [112, 117, 98, 108, 105, 99] ∈ words)), if_neg (hne _ (by decide : [115, 101, 99, 114, 101, 116] ∈ words)), hm.2, Bool.false_eq_true, if_false, sign_ok g1 k1 x1, hl]
theorem say_none : parse (text t0) = .ok t0 := by kernel_rfl
theorem say {i : It} (h : Ok i) : parse (text i) = .ok i := by
  cases h with
  | none => exact say_none
  | num h1 h2 h3 =>
    rename_i k n
    rcases (by omega : k = 1 ∨ k = 2 ∨ k = 3) with rfl | rfl | rfl
    · exact say_width h3
    · exact say_window h3
    · exact say_fuel h3
  | reg h =>
    rename_i s d
    cases s
    · exact say_reg_public h
    · exact say_reg_secret h
  | mem h1 h2 =>
    rename_i s m n
    cases s
    · exact say_mem_public h1 h2
    · exact say_mem_secret h1 h2
  | label h => exact say_label h
  | ins h =>
    cases h with
    | alu h1 h2 h3 h4 => exact say_alu h1 h2 h3 h4
    | load h1 h2 h3 => exact say_load h1 h2 h3
    | store h1 h2 h3 => exact say_store h1 h2 h3
    | cmov h1 h2 h3 => exact say_cmov h1 h2 h3
    | br h1 h2 h3 h4 => exact say_br h1 h2 h3 h4
    | jmp h => exact say_jmp h
    | call h => exact say_call h
    | ind h => exact say_ind h
    | ret => exact say_ret
    | fence => exact say_fence
    | halt => exact say_halt
end Sy
end
end Go.Proofs.YtmghklokbmdenaaDoor
namespace Go.Proofs.YtmghklokbmdenaaDoor
section
namespace Sy
open Lx (Tk)
theorem fail_bad (p : Nat) (s : St) : 0 ≤ (fail p s).bad := by
  unfold fail
  split
  · exact Int.natCast_nonneg p
  · omega
section
variable {ts : List Tk} {long : Nat}
theorem step_bad (s : St) : (step ts s).bad = s.bad := by unfold step; split <;> rfl
theorem no_fail {p : Nat} {s : St} (h : (fail p s).bad < 0) : False := by have := fail_bad p s; omega
theorem regN_le (t : List Int) : regN t ≤ 3 := by
  unfold regN
  split
  · split <;> omega
  · omega
theorem tok_mem {k : Nat} (h : (tokAt ts long k).kind ≠ 0) : tokAt ts long k ∈ ts := by
  unfold tokAt at *
  cases e : ts[k]? with
  | none => rw [e] at h; exact absurd rfl h
  | some t => rw [e] at h; exact List.mem_of_getElem? e
theorem sign_inv {c : Int} {s : St} (h : (sign ts long c s).bad < 0) : s.bad < 0 := by
  unfold sign at h
  dsimp only at h
  split at h
  · rwa [step_bad] at h
  · exact (no_fail h).elim
theorem reg_inv {s s1 : St} {d : Int} (e : reg ts long s = (d, s1)) (h : s1.bad < 0) : s.bad < 0 ∧ okR d := by
  unfold reg at e
  dsimp only at e
  split at e
  · rename_i hc
    injection e with e1 e2
    subst e1 e2
    rw [step_bad] at h
    exact ⟨h, hc.2, regN_le _⟩
  · injection e with e1 e2
    subst e2
    exact (no_fail h).elim
theorem good_okN {t : Tk} (h : Lx.Good t) (hk : t.kind = 2) : okN t.n := by
  rcases h with ⟨h1, _⟩ | ⟨_, h2, c, r, e, h3, h4⟩ | ⟨h1, _⟩
  · rw [hk] at h1; cases h1
  · have hd : ∀ x ∈ t.text, Lx.dig x = true := fun x hx => by
      rw [← h4, e] at hx
      exact digs_dig h3 x hx
    have h5 : t.text.length ≤ 5 := by rw [← h4]; exact digs_five _
    have h6 := val_bd t.text hd
    have h7 : (10 : Int) ^ t.text.length ≤ 100000 := by
      generalize t.text.length = m at *
      rcases (by omega : m = 0 ∨ m = 1 ∨ m = 2 ∨ m = 3 ∨ m = 4 ∨ m = 5) with rfl | rfl | rfl | rfl | rfl | rfl <;> decide
    rw [h2]
    exact ⟨h6.1, by omega⟩
  · rw [hk] at h1; cases h1
theorem vl_inv (G : ∀ t ∈ ts, Lx.Good t) {s s1 : St} {v : Vl} (e : vl ts long s = (v, s1)) (h : s1.bad < 0) : s.bad < 0 ∧ okV v := by
  unfold vl at e
  dsimp only at e
  split at e
  · rename_i hc
    injection e with e1 e2
    subst e1 e2
    rw [step_bad] at h
    exact ⟨h, .inr ⟨rfl, good_okN (G _ (tok_mem (by rw [hc]; decide))) hc⟩⟩
  · split at e
    · rename_i hc
      injection e with e1 e2
      subst e1 e2
      rw [step_bad] at h
      exact ⟨h, .inl ⟨rfl, hc.2, regN_le _⟩⟩
    · injection e with e1 e2
      subst e2
      exact (no_fail h).elim
theorem num_inv (G : ∀ t ∈ ts, Lx.Good t) {s s1 : St} {n : Int} (e : num ts long s = (n, s1)) (h : s1.bad < 0) : s.bad < 0 ∧ okN n := by
  unfold num at e
  dsimp only at e
  injection e with e1 e2
  split at e2
  · rename_i hc
    subst e1 e2
    rw [step_bad] at h
    exact ⟨h, good_okN (G _ (tok_mem (by rw [hc]; decide))) hc⟩
  · subst e2
    exact (no_fail h).elim
theorem good_okName {t : Tk} (h : Lx.Good t) (hk : t.kind = 1) (hw : isWord t.text = false) : okName t.text := by
  rcases h with ⟨_, _, c, r, e, h1, h2⟩ | ⟨h1, _⟩ | ⟨h1, _⟩
  · exact ⟨⟨c, r, e, h1, h2⟩, hw⟩
  · rw [hk] at h1; cases h1
  · rw [hk] at h1; cases h1
theorem name_inv (G : ∀ t ∈ ts, Lx.Good t) {s s1 : St} {m : List Int} (e : name ts long s = (m, s1)) (h : s1.bad < 0) : s.bad < 0 ∧ okName m := by
  unfold name at e
  dsimp only at e
  injection e with e1 e2
  split at e2
  · rename_i hc
    subst e1 e2
    rw [step_bad] at h
    exact ⟨h, good_okName (G _ (tok_mem (by rw [hc.1]; decide))) hc.1 hc.2⟩
  · subst e2
    exact (no_fail h).elim
theorem addr_inv (G : ∀ t ∈ ts, Lx.Good t) {s s1 : St} {p : Vl × Vl} (e : address ts long s = (p, s1)) (h : s1.bad < 0) : s.bad < 0 ∧ okV p.1 ∧ okV p.2 := by
  unfold address at e
  obtain ⟨⟨a, s2⟩, e1⟩ : ∃ x, vl ts long (sign ts long 91 s) = x := ⟨_, rfl⟩
  simp only [e1] at e
  obtain ⟨⟨b, s3⟩, e2⟩ : ∃ x, vl ts long (sign ts long 43 s2) = x := ⟨_, rfl⟩
  simp only [e2] at e
  injection e with e3 e4
  subst e3 e4
  have h1 := sign_inv h
  obtain ⟨h2, hb⟩ := vl_inv G e2 h1
  obtain ⟨h3, ha⟩ := vl_inv G e1 (sign_inv h2)
  exact ⟨sign_inv h3, ha, hb⟩
theorem opN_range (w : List Int) : 0 ≤ opN w ∧ opN w ≤ 10 := by
  unfold opN ops
  simp only [opF]
  repeat' split
  all_goals omega
theorem ins_inv (G : ∀ t ∈ ts, Lx.Good t) {w : List Int} {s s1 : St} {i : In} (hw : isWord w = true) (hr : regN w < 0)
    (hne : w ≠ [119, 105, 100, 116, 104] ∧ w ≠ [119, 105, 110, 100, 111, 119] ∧ w ≠ [102, 117, 101, 108] ∧ w ≠ [112, 117, 98, 108, 105, 99] ∧ w ≠ [115, 101, 99, 114, 101, 116]) (e : ins ts long w s = (i, s1)) (h : s1.bad < 0) : OkI i := by
  unfold ins at e
  by_cases w0 : w = [109, 111, 118]
  · simp only [if_pos w0] at e
    obtain ⟨⟨d, s2⟩, e_s2⟩ : ∃ x, reg ts long s = x := ⟨_, rfl⟩
    simp only [e_s2] at e
    obtain ⟨⟨a, s3⟩, e_s3⟩ : ∃ x, vl ts long (sign ts long 44 s2) = x := ⟨_, rfl⟩
    simp only [e_s3] at e
    injection e with e3 e4
    subst e3 e4
    obtain ⟨h2, ha⟩ := vl_inv G e_s3 h
    obtain ⟨h3, hd⟩ := reg_inv e_s2 (sign_inv h2)
    exact .alu ⟨by decide, by decide⟩ hd ha (.inr ⟨rfl, by decide, by decide⟩)
  by_cases w1 : w = [108, 111, 97, 100]
  · simp only [if_neg w0, if_pos w1] at e
    obtain ⟨⟨d, s2⟩, e_s2⟩ : ∃ x, reg ts long s = x := ⟨_, rfl⟩
    simp only [e_s2] at e
    obtain ⟨⟨p, s3⟩, e_s3⟩ : ∃ x, address ts long (sign ts long 44 s2) = x := ⟨_, rfl⟩
    simp only [e_s3] at e
    injection e with e3 e4
    subst e3 e4
    obtain ⟨h2, ha, hb⟩ := addr_inv G e_s3 h
    obtain ⟨h3, hd⟩ := reg_inv e_s2 (sign_inv h2)
    exact .load hd ha hb
  by_cases w2 : w = [115, 116, 111, 114, 101]
  · simp only [if_neg w0, if_neg w1, if_pos w2] at e
    obtain ⟨⟨p, s2⟩, e_s2⟩ : ∃ x, address ts long s = x := ⟨_, rfl⟩
    simp only [e_s2] at e
    obtain ⟨⟨d, s3⟩, e_s3⟩ : ∃ x, reg ts long (sign ts long 44 s2) = x := ⟨_, rfl⟩
    simp only [e_s3] at e
    injection e with e3 e4
    subst e3 e4
    obtain ⟨h2, hd⟩ := reg_inv e_s3 h
    obtain ⟨h3, ha, hb⟩ := addr_inv G e_s2 (sign_inv h2)
    exact .store hd ha hb
  by_cases w3 : w = [99, 109, 111, 118]
  · simp only [if_neg w0, if_neg w1, if_neg w2, if_pos w3] at e
    obtain ⟨⟨d, s2⟩, e_s2⟩ : ∃ x, reg ts long s = x := ⟨_, rfl⟩
    simp only [e_s2] at e
    obtain ⟨⟨a, s3⟩, e_s3⟩ : ∃ x, vl ts long (sign ts long 44 s2) = x := ⟨_, rfl⟩
    simp only [e_s3] at e
    obtain ⟨⟨b, s4⟩, e_s4⟩ : ∃ x, vl ts long (sign ts long 44 s3) = x := ⟨_, rfl⟩
    simp only [e_s4] at e
    injection e with e3 e4
    subst e3 e4
    obtain ⟨h1, hb⟩ := vl_inv G e_s4 h
    obtain ⟨h2, ha⟩ := vl_inv G e_s3 (sign_inv h1)
    obtain ⟨h3, hd⟩ := reg_inv e_s2 (sign_inv h2)
    exact .cmov hd ha hb
  by_cases w4 : w = [98, 114]
  · simp only [if_neg w0, if_neg w1, if_neg w2, if_neg w3, if_pos w4] at e
    obtain ⟨s0, e_s0⟩ : ∃ x, (if (tokAt ts long s.k).kind = 1 ∧ opN (tokAt ts long s.k).text ≠ 0 then step ts s else fail (tokAt ts long s.k).at_ (step ts s)) = x := ⟨_, rfl⟩
    simp only [e_s0] at e
    obtain ⟨⟨a, s2⟩, e_s2⟩ : ∃ x, vl ts long s0 = x := ⟨_, rfl⟩
    simp only [e_s2] at e
    obtain ⟨⟨b, s3⟩, e_s3⟩ : ∃ x, vl ts long (sign ts long 44 s2) = x := ⟨_, rfl⟩
    simp only [e_s3] at e
    obtain ⟨⟨m, s4⟩, e_s4⟩ : ∃ x, name ts long (sign ts long 44 s3) = x := ⟨_, rfl⟩
    simp only [e_s4] at e
    injection e with e3 e4
    subst e3 e4
    obtain ⟨h1, hm⟩ := name_inv G e_s4 h
    obtain ⟨h2, hb⟩ := vl_inv G e_s3 (sign_inv h1)
    obtain ⟨h3, ha⟩ := vl_inv G e_s2 (sign_inv h2)
    split at e_s0
    · rename_i hc
      have := opN_range (tokAt ts long s.k).text
      exact .br ⟨by omega, this.2⟩ ha hb hm
    · subst e_s0
      exact (no_fail h3).elim
  by_cases w5 : w = [106, 109, 112]
  · simp only [if_neg w0, if_neg w1, if_neg w2, if_neg w3, if_neg w4, if_pos w5] at e
    obtain ⟨⟨m, s2⟩, e_s2⟩ : ∃ x, name ts long s = x := ⟨_, rfl⟩
    simp only [e_s2] at e
    injection e with e3 e4
    subst e3 e4
    exact .jmp (name_inv G e_s2 h).2
  by_cases w6 : w = [99, 97, 108, 108]
  · simp only [if_neg w0, if_neg w1, if_neg w2, if_neg w3, if_neg w4, if_neg w5, if_pos w6] at e
    obtain ⟨⟨m, s2⟩, e_s2⟩ : ∃ x, name ts long s = x := ⟨_, rfl⟩
    simp only [e_s2] at e
    injection e with e3 e4
    subst e3 e4
    exact .call (name_inv G e_s2 h).2
  by_cases w7 : w = [105, 110, 100]
  · simp only [if_neg w0, if_neg w1, if_neg w2, if_neg w3, if_neg w4, if_neg w5, if_neg w6, if_pos w7] at e
    obtain ⟨⟨a, s2⟩, e_s2⟩ : ∃ x, vl ts long s = x := ⟨_, rfl⟩
    simp only [e_s2] at e
    injection e with e3 e4
    subst e3 e4
    exact .ind (vl_inv G e_s2 h).2
  by_cases w8 : w = [114, 101, 116]
  · simp only [if_neg w0, if_neg w1, if_neg w2, if_neg w3, if_neg w4, if_neg w5, if_neg w6, if_neg w7, if_pos w8] at e
    injection e with e3 e4
    subst e3 e4
    exact .ret
  by_cases w9 : w = [102, 101, 110, 99, 101]
  · simp only [if_neg w0, if_neg w1, if_neg w2, if_neg w3, if_neg w4, if_neg w5, if_neg w6, if_neg w7, if_neg w8, if_pos w9] at e
    injection e with e3 e4
    subst e3 e4
    exact .fence
  by_cases w10 : w = [104, 97, 108, 116]
  · simp only [if_neg w0, if_neg w1, if_neg w2, if_neg w3, if_neg w4, if_neg w5, if_neg w6, if_neg w7, if_neg w8, if_neg w9, if_pos w10] at e
    injection e with e3 e4
    subst e3 e4
    exact .halt
  simp only [if_neg w0, if_neg w1, if_neg w2, if_neg w3, if_neg w4, if_neg w5, if_neg w6, if_neg w7, if_neg w8, if_neg w9, if_neg w10] at e
  obtain ⟨⟨d, s2⟩, e_s2⟩ : ∃ x, reg ts long s = x := ⟨_, rfl⟩
  simp only [e_s2] at e
  obtain ⟨⟨a, s3⟩, e_s3⟩ : ∃ x, vl ts long (sign ts long 44 s2) = x := ⟨_, rfl⟩
  simp only [e_s3] at e
  obtain ⟨⟨b, s4⟩, e_s4⟩ : ∃ x, vl ts long (sign ts long 44 s3) = x := ⟨_, rfl⟩
  simp only [e_s4] at e
  injection e with e3 e4
  subst e3 e4
  obtain ⟨h1, hb⟩ := vl_inv G e_s4 h
  obtain ⟨h2, ha⟩ := vl_inv G e_s3 (sign_inv h1)
  obtain ⟨h3, hd⟩ := reg_inv e_s2 (sign_inv h2)
  have hr2 : decide (0 ≤ regN w) = false := by simpa using hr
  have hc : words.contains w = false := by
    rw [Bool.eq_false_iff]
    intro hc
    have hm := List.contains_iff_mem.1 hc
    simp only [words, List.mem_cons, List.not_mem_nil, or_false] at hm
    obtain ⟨n1, n2, n3, n4, n5⟩ := hne
    rcases hm with hm | hm | hm | hm | hm | hm | hm | hm | hm | hm | hm | hm | hm | hm | hm | hm
    · exact n1 hm
    · exact n2 hm
    · exact n3 hm
    · exact n4 hm
    · exact n5 hm
    · exact w0 hm
    · exact w1 hm
    · exact w2 hm
    · exact w3 hm
    · exact w4 hm
    · exact w5 hm
    · exact w6 hm
    · exact w7 hm
    · exact w8 hm
    · exact w9 hm
    · exact w10 hm
  unfold isWord at hw
  rw [hc, hr2] at hw
  have hop : 0 < opN w := by simpa using hw
  exact .alu ⟨by omega, (opN_range w).2⟩ hd ha hb
theorem decl_inv (G : ∀ t ∈ ts, Lx.Good t) {sec : Bool} {s s1 : St} {i : It} (e : declare ts long sec s = (i, s1)) (h : s1.bad < 0) : Ok i := by
  unfold declare at e
  dsimp only at e
  split at e
  · rename_i hc
    injection e with e3 e4
    subst e3
    exact .reg ⟨hc.2, regN_le _⟩
  · obtain ⟨s0, e_s0⟩ : ∃ x, (if (tokAt ts long s.k).kind = 1 ∧ isWord (tokAt ts long s.k).text = false then step ts s else fail (tokAt ts long s.k).at_ (step ts s)) = x := ⟨_, rfl⟩
    simp only [e_s0] at e
    obtain ⟨⟨n, s2⟩, e_s2⟩ : ∃ x, num ts long s0 = x := ⟨_, rfl⟩
    simp only [e_s2] at e
    injection e with e3 e4
    subst e3 e4
    obtain ⟨h1, hn⟩ := num_inv G e_s2 h
    split at e_s0
    · rename_i hc
      exact .mem (good_okName (G _ (tok_mem (by rw [hc.1]; decide))) hc.1 hc.2) hn
    · subst e_s0
      exact (no_fail h1).elim
theorem item_inv (G : ∀ t ∈ ts, Lx.Good t) {s s1 : St} {i : It} (e : item ts long s = (i, s1)) (h : s1.bad < 0) : Ok i := by
  unfold item at e
  dsimp only at e
  split at e
  · rename_i hc
    generalize htx : (tokAt ts long s.k).text = w at *
    by_cases w1 : w = [119, 105, 100, 116, 104]
    · simp only [if_pos w1] at e
      obtain ⟨⟨n, s2⟩, e_s2⟩ : ∃ x, num ts long (step ts s) = x := ⟨_, rfl⟩
      simp only [e_s2] at e
      injection e with e3 e4
      subst e3 e4
      exact .num (by decide) (by decide) (num_inv G e_s2 h).2
    by_cases w2 : w = [119, 105, 110, 100, 111, 119]
    · simp only [if_neg w1, if_pos w2] at e
      obtain ⟨⟨n, s2⟩, e_s2⟩ : ∃ x, num ts long (step ts s) = x := ⟨_, rfl⟩
      simp only [e_s2] at e
      injection e with e3 e4
      subst e3 e4
      exact .num (by decide) (by decide) (num_inv G e_s2 h).2
    by_cases w3 : w = [102, 117, 101, 108]
    · simp only [if_neg w1, if_neg w2, if_pos w3] at e
      obtain ⟨⟨n, s2⟩, e_s2⟩ : ∃ x, num ts long (step ts s) = x := ⟨_, rfl⟩
      simp only [e_s2] at e
      injection e with e3 e4
      subst e3 e4
      exact .num (by decide) (by decide) (num_inv G e_s2 h).2
    by_cases w4 : w = [112, 117, 98, 108, 105, 99]
    · simp only [if_neg w1, if_neg w2, if_neg w3, if_pos w4] at e
      exact decl_inv G e h
    by_cases w5 : w = [115, 101, 99, 114, 101, 116]
    · simp only [if_neg w1, if_neg w2, if_neg w3, if_neg w4, if_pos w5] at e
      exact decl_inv G e h
    simp only [if_neg w1, if_neg w2, if_neg w3, if_neg w4, if_neg w5] at e
    split at e
    · rename_i hw
      obtain ⟨⟨x, s2⟩, e_s2⟩ : ∃ x, ins ts long w (step ts s) = x := ⟨_, rfl⟩
      simp only [e_s2] at e
      injection e with e3 e4
      subst e3 e4
      exact .ins (ins_inv G hw hc.2 ⟨w1, w2, w3, w4, w5⟩ e_s2 h)
    · rename_i hw
      injection e with e3 e4
      subst e3
      refine .label ?_
      rw [← htx]
      exact good_okName (G _ (tok_mem (by rw [hc.1]; decide))) hc.1 (by rw [htx]; simpa using hw)
  · injection e with e3 e4
    subst e4
    exact (no_fail h).elim
end
theorem parse_ok {r : List Int} {i : It} (h : parse r = .ok i) : Ok i := by
  unfold parse at h
  split at h
  · cases h
  · rename_i ts hl
    have G := (Lx.laid_of _ 0 r ts (Nat.le_refl _) hl).good
    unfold parseT at h
    split at h
    · injection h with h
      subst h
      exact .none
    · obtain ⟨⟨j, s⟩, e⟩ : ∃ x, item ts r.length ⟨0, -1⟩ = x := ⟨_, rfl⟩
      simp only [e] at h
      obtain ⟨s', hs'⟩ : ∃ x, (if s.bad < 0 ∧ s.k < ts.length then fail (tokAt ts r.length s.k).at_ s else s) = x := ⟨_, rfl⟩
      simp only [hs'] at h
      split at h
      · cases h
      · rename_i hb
        injection h with h
        subst h
        split at hs'
        · subst hs'
          exact (hb (fail_bad _ _)).elim
        · subst hs'
          exact item_inv G e (by omega)
/-- what is printed: a line that tells the item, if there is one -/
def print (i : It) : Option (List Int) := match parse (text i) with
  | .ok j => if j = i then some (text i) else none
  | .error _ => none
theorem print_ok {i : It} (h : Ok i) : print i = some (text i) := by
  unfold print
  rw [say h]
  exact if_pos rfl
theorem print_iff (i : It) : print i = some (text i) ↔ Ok i := by
  constructor
  · intro h
    unfold print at h
    split at h
    · rename_i j h1
      split at h
      · rename_i h2
        subst h2
        exact parse_ok h1
      · cases h
    · cases h
  · exact print_ok
theorem print_none {i : It} (h : ¬ Ok i) : print i = none := by
  unfold print
  split
  · rename_i j h1
    rw [if_neg (fun h2 => h (by subst h2; exact parse_ok h1))]
  · rfl
/-- what is told is read as it was, in its one form -/
theorem back {r : List Int} {i : It} (h : parse r = .ok i) : print i = some (text i) ∧ parse (text i) = .ok i := ⟨print_ok (parse_ok h), say (parse_ok h)⟩
end Sy
end
end Go.Proofs.YtmghklokbmdenaaDoor
