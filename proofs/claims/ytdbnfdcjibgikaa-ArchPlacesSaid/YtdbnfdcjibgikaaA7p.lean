/- Places are what was declared. -/
import Derived.Test.YtdbnfdcjibgikaaA7j
set_option linter.unusedVariables false
set_option linter.unusedSimpArgs false
set_option maxRecDepth 100000
namespace Go.Proofs.Ytdbnfdcjibgikaa.Px
open Go.RowKit Go.Proofs.Ytdbnfdcjibgikaa.Rx
def msP (first : Bool) (A B : Nat) : List Mm := [⟨⟨#[97]⟩, first, A⟩, ⟨⟨#[98]⟩, !first, B⟩]
def memB (ms : List Mm) : Blk := ⟨0, false, 33, .rows 3 ms.length (rowL mmC ms)⟩
def bxP (r0 r1 r2 r3 : Int) (a : AV) : Blk := bx 31 [.int .i64 4, .junk, .junk, .int .i64 r0, .int .i64 r1, .int .i64 r2, .int .i64 r3, a, .junk, .junk]
def p1 (g r0 r1 r2 r3 : Int) (ms : List Mm) (A B : Nat) (first : Bool) (k n : Nat) : Sm := ⟨[(0, .int .i64 g), (1, .int .i64 A), (2, .int .i64 B), (3, .bool first), (9, .bptr 0 0), (8, .bool false), (11, .int .i64 k), (10, .int .i64 n)], [(0, bxP r0 r1 r2 r3 (.own 1 0 3 0 ms.length)), (1, memB ms)], 2⟩
def p2 (r0 r1 r2 r3 : Int) (A B : Nat) (first : Bool) (pl : List Pl) (c k : Nat) : Sm := ⟨[(1, .int .i64 A), (2, .int .i64 B), (3, .bool first), (9, .bptr 0 0), (8, .bool false), (12, .own 2 0 3 0 pl.length), (13, .int .i64 c), (14, .int .i64 k)], [(0, bxP r0 r1 r2 r3 .junk), (2, plB pl)], 3⟩
def p3 (A B : Nat) (first : Bool) (pl : List Pl) (c k : Nat) : Sm := ⟨[(1, .int .i64 A), (2, .int .i64 B), (3, .bool first), (8, .bool false), (12, .own 0 0 3 0 pl.length), (13, .int .i64 c), (15, .int .i64 k)], [(0, plB pl)], 1⟩
def regV (g : Int) (k : Nat) : Int := Int.tmod (bits .and .i64 (Int.fdiv g (2 ^ (2 * k))) 3) 3
def rk (g : Int) (k j : Nat) : Int := if j < k then regV g j else 0
theorem pl_eq {p q : Pl} {b1 b2 : Bool} {n : Int} (h : p = q) (h1 : q.reg = b1) (h2 : (q.n : Int) = n) (h3 : q.sec = b2) : (!bif p.reg == b1 then (bif (p.n : Int) == n then (bif p.sec == b2 then true else false) else false) else false) = false := by
  subst h; subst h1; subst h2; subst h3
  simp
theorem regV_bd (g : Int) (k : Nat) : 0 ≤ regV g k ∧ regV g k < 3 := by
  unfold regV
  have h := Wd.bits_mask (Int.fdiv g (2 ^ (2 * k))) 2 (by omega)
  have h2 : bits .and .i64 (Int.fdiv g (2 ^ (2 * k))) 3 = Int.fdiv g (2 ^ (2 * k)) % 4 := h
  rw [h2, Int.tmod_eq_emod_of_nonneg (by omega)]
  omega
theorem bits7 (a : Int) : ∃ A : Nat, bits .and .i64 a 7 + 1 = (A : Int) ∧ 1 ≤ A ∧ A ≤ 8 := by
  have h := Wd.bits_mask a 3 (by omega)
  have h2 : bits .and .i64 a 7 = a % 8 := h
  refine ⟨(a % 8 + 1).toNat, ?_, ?_, ?_⟩ <;> omega
theorem regL_len_succ (r : Nat → Int) (k : Nat) : (regL r (k + 1)).length = (regL r k).length + (if r k = 0 then 0 else 1) := by
  simp only [regL, List.length_append]
  split <;> simp
theorem regL_pre (r : Nat → Int) (k n : Nat) (hk : k < n) (h : ¬ r k = 0) : (regL r n).getD (regL r k).length default = ⟨true, k, r k == 2⟩ ∧ (regL r k).length < (regL r n).length := by
  induction n with
  | zero => omega
  | succ n ih =>
    by_cases e : k = n
    · subst e
      rw [regL_pos h]
      simp [List.getD]
    · obtain ⟨h1, h2⟩ := ih (by omega)
      refine ⟨?_, by rw [regL_len_succ]; omega⟩
      show (regL r n ++ _).getD _ _ = _
      rw [← h1]
      simp only [List.getD_eq_getElem?_getD]
      rw [List.getElem?_append_left h2]
theorem regL_loc {r r' : Nat → Int} {n : Nat} (h : ∀ k, k < n → r k = r' k) : regL r n = regL r' n := by
  induction n with
  | zero => rfl
  | succ n ih =>
    show regL r n ++ _ = regL r' n ++ _
    rw [ih fun k hk => h k (by omega), h n (by omega)]
theorem celL_getD (sec : Bool) (at_ k i : Nat) (h : i < k) : (celL sec at_ k).getD i default = ⟨false, at_ + i, sec⟩ := by
  simp [celL, List.getD, h]
theorem places_cell (r : Nat → Int) (first : Bool) (A B i : Nat) (h : i < A + B) : (places r (msP first A B)).getD ((regL r 4).length + i) default = ⟨false, i, decide (i < A) == first⟩ := by
  have e : places r (msP first A B) = regL r 4 ++ (celL first 0 A ++ (celL (!first) (0 + A) B ++ [])) := rfl
  rw [e]
  simp only [List.getD_eq_getElem?_getD]
  rw [List.getElem?_append_right (by omega), Nat.add_sub_cancel_left]
  by_cases hi : i < A
  · rw [List.getElem?_append_left (by rw [celL_length]; exact hi)]
    have := celL_getD first 0 A i hi
    rw [List.getD_eq_getElem?_getD] at this
    rw [this]
    simp [hi]
  · rw [List.getElem?_append_right (by rw [celL_length]; omega), List.append_nil, celL_length]
    have := celL_getD (!first) (0 + A) B (i - A) (by omega)
    rw [List.getD_eq_getElem?_getD] at this
    rw [this]
    simp only [Pl.mk.injEq, true_and]
    refine ⟨by omega, ?_⟩
    simp [hi]
theorem p1_no0 (g r0 r1 r2 r3 : Int) (ms : List Mm) (A B : Nat) (first : Bool) (n : Nat) (hn : n < 1000) (hv : ¬ regV g 0 > 0) : Vc (vcC Try.prog false (ntOf Try.prog 3) (lpC Try.prog 3 0) (p1 g r0 r1 r2 r3 ms A B first 0 n) [.b true, .ix 0, .ix 0, .b false] .nrm [(0, 0), (1, 1)] (p1 g (regV g 0) r1 r2 r3 ms A B first 1 n)) :=
  vc_of (q := (decide ((↑(0 : Nat) : Int) < (4 : Int)) = true) ∧ (inK IntKind.i64 ((2 : Int) * (↑(0 : Nat) : Int))) ∧ ((0 : Int) ≤ IntKind.wrap IntKind.u64 ((2 : Int) * (↑(0 : Nat) : Int))) ∧ ((3 : Int) ≠ (0 : Int)) ∧ ((↑(0 : Nat) : Int) = (↑(0 : Nat) : Int)) ∧ ((↑(0 : Nat) : Int) = (↑(0 : Nat) : Int)) ∧ (decide
    (Int.tmod (Go.bits Go.BinOp.and IntKind.i64 (Int.fdiv g ((2 : Int) ^ (0 : Nat))) (3 : Int)) (3 : Int) >
      (0 : Int)) =
  false) ∧ (inK IntKind.i64 ((↑(0 : Nat) : Int) + (1 : Int))) ∧ ((4 : Int) = (4 : Int)) ∧ (Int.tmod (Go.bits Go.BinOp.and IntKind.i64 (Int.fdiv g ((2 : Int) ^ (0 : Nat))) (3 : Int)) (3 : Int) =
  regV g (0 : Nat)) ∧ (r1 = r1) ∧ (r2 = r2) ∧ (r3 = r3) ∧ ((0 : Nat) = (0 : Nat)) ∧ (List.length ms = List.length ms) ∧ (List.length ms = List.length ms) ∧ (∀ (i : Nat),
  i < List.length ms →
    ∀ (j : Nat),
      j < (3 : Nat) →
        rowL mmC ms i j =
          rowL mmC ms i j) ∧ (g = g) ∧ ((↑A : Int) = (↑A : Int)) ∧ ((↑B : Int) = (↑B : Int)) ∧ (first = first) ∧ (false = false) ∧ ((↑(0 : Nat) : Int) + (1 : Int) = (↑(1 : Nat) : Int)) ∧ ((↑n : Int) = (↑n : Int)) ∧ True) (by kernel_rfl)
    ⟨(decide_eq_true (by first | omega | (simp; omega) | (simp; done))),
     (in64 (by omega) (by omega)),
     (by decide),
     (by first | omega | rfl | (simp; done) | (simp; omega)),
     rfl,
     rfl,
     (decide_eq_false hv),
     (in64 (by omega) (by omega)),
     rfl,
     rfl,
     rfl,
     rfl,
     rfl,
     rfl,
     rfl,
     rfl,
     (fun _ _ _ _ => rfl),
     rfl,
     rfl,
     rfl,
     rfl,
     rfl,
     (by first | omega | rfl | (simp; done) | (simp; omega)),
     rfl,
     trivial⟩
theorem p1_yes0 (g r0 r1 r2 r3 : Int) (ms : List Mm) (A B : Nat) (first : Bool) (n : Nat) (hn : n < 1000) (hv : regV g 0 > 0) : Vc (vcC Try.prog false (ntOf Try.prog 3) (lpC Try.prog 3 0) (p1 g r0 r1 r2 r3 ms A B first 0 n) [.b true, .ix 0, .ix 0, .b true] .nrm [(0, 0), (1, 1)] (p1 g (regV g 0) r1 r2 r3 ms A B first 1 (n + 1))) :=
  vc_of (q := (decide ((↑(0 : Nat) : Int) < (4 : Int)) = true) ∧ (inK IntKind.i64 ((2 : Int) * (↑(0 : Nat) : Int))) ∧ ((0 : Int) ≤ IntKind.wrap IntKind.u64 ((2 : Int) * (↑(0 : Nat) : Int))) ∧ ((3 : Int) ≠ (0 : Int)) ∧ ((↑(0 : Nat) : Int) = (↑(0 : Nat) : Int)) ∧ ((↑(0 : Nat) : Int) = (↑(0 : Nat) : Int)) ∧ (decide
    (Int.tmod (Go.bits Go.BinOp.and IntKind.i64 (Int.fdiv g ((2 : Int) ^ (0 : Nat))) (3 : Int)) (3 : Int) >
      (0 : Int)) =
  true) ∧ (inK IntKind.i64 ((↑n : Int) + (1 : Int))) ∧ (inK IntKind.i64 ((↑(0 : Nat) : Int) + (1 : Int))) ∧ ((4 : Int) = (4 : Int)) ∧ (Int.tmod (Go.bits Go.BinOp.and IntKind.i64 (Int.fdiv g ((2 : Int) ^ (0 : Nat))) (3 : Int)) (3 : Int) =
  regV g (0 : Nat)) ∧ (r1 = r1) ∧ (r2 = r2) ∧ (r3 = r3) ∧ ((0 : Nat) = (0 : Nat)) ∧ (List.length ms = List.length ms) ∧ (List.length ms = List.length ms) ∧ (∀ (i : Nat),
  i < List.length ms →
    ∀ (j : Nat),
      j < (3 : Nat) →
        rowL mmC ms i j =
          rowL mmC ms i j) ∧ (g = g) ∧ ((↑A : Int) = (↑A : Int)) ∧ ((↑B : Int) = (↑B : Int)) ∧ (first = first) ∧ (false = false) ∧ ((↑(0 : Nat) : Int) + (1 : Int) = (↑(1 : Nat) : Int)) ∧ ((↑n : Int) + (1 : Int) = (↑(n + (1 : Nat)) : Int)) ∧ True) (by kernel_rfl)
    ⟨(decide_eq_true (by first | omega | (simp; omega) | (simp; done))),
     (in64 (by omega) (by omega)),
     (by decide),
     (by first | omega | rfl | (simp; done) | (simp; omega)),
     rfl,
     rfl,
     (decide_eq_true hv),
     (in64 (by omega) (by omega)),
     (in64 (by omega) (by omega)),
     rfl,
     rfl,
     rfl,
     rfl,
     rfl,
     rfl,
     rfl,
     rfl,
     (fun _ _ _ _ => rfl),
     rfl,
     rfl,
     rfl,
     rfl,
     rfl,
     (by first | omega | rfl | (simp; done) | (simp; omega)),
     (by first | omega | rfl | (simp; done) | (simp; omega)),
     trivial⟩
theorem p1_no1 (g r0 r1 r2 r3 : Int) (ms : List Mm) (A B : Nat) (first : Bool) (n : Nat) (hn : n < 1000) (hv : ¬ regV g 1 > 0) : Vc (vcC Try.prog false (ntOf Try.prog 3) (lpC Try.prog 3 0) (p1 g r0 r1 r2 r3 ms A B first 1 n) [.b true, .ix 1, .ix 1, .b false] .nrm [(0, 0), (1, 1)] (p1 g r0 (regV g 1) r2 r3 ms A B first 2 n)) :=
  vc_of (q := (decide ((↑(1 : Nat) : Int) < (4 : Int)) = true) ∧ (inK IntKind.i64 ((2 : Int) * (↑(1 : Nat) : Int))) ∧ ((0 : Int) ≤ IntKind.wrap IntKind.u64 ((2 : Int) * (↑(1 : Nat) : Int))) ∧ ((3 : Int) ≠ (0 : Int)) ∧ ((↑(1 : Nat) : Int) = (↑(1 : Nat) : Int)) ∧ ((↑(1 : Nat) : Int) = (↑(1 : Nat) : Int)) ∧ (decide
    (Int.tmod (Go.bits Go.BinOp.and IntKind.i64 (Int.fdiv g ((2 : Int) ^ (2 : Nat))) (3 : Int)) (3 : Int) >
      (0 : Int)) =
  false) ∧ (inK IntKind.i64 ((↑(1 : Nat) : Int) + (1 : Int))) ∧ ((4 : Int) = (4 : Int)) ∧ (r0 = r0) ∧ (Int.tmod (Go.bits Go.BinOp.and IntKind.i64 (Int.fdiv g ((2 : Int) ^ (2 : Nat))) (3 : Int)) (3 : Int) =
  regV g (1 : Nat)) ∧ (r2 = r2) ∧ (r3 = r3) ∧ ((0 : Nat) = (0 : Nat)) ∧ (List.length ms = List.length ms) ∧ (List.length ms = List.length ms) ∧ (∀ (i : Nat),
  i < List.length ms →
    ∀ (j : Nat),
      j < (3 : Nat) →
        rowL mmC ms i j =
          rowL mmC ms i j) ∧ (g = g) ∧ ((↑A : Int) = (↑A : Int)) ∧ ((↑B : Int) = (↑B : Int)) ∧ (first = first) ∧ (false = false) ∧ ((↑(1 : Nat) : Int) + (1 : Int) = (↑(2 : Nat) : Int)) ∧ ((↑n : Int) = (↑n : Int)) ∧ True) (by kernel_rfl)
    ⟨(decide_eq_true (by first | omega | (simp; omega) | (simp; done))),
     (in64 (by omega) (by omega)),
     (by decide),
     (by first | omega | rfl | (simp; done) | (simp; omega)),
     rfl,
     rfl,
     (decide_eq_false hv),
     (in64 (by omega) (by omega)),
     rfl,
     rfl,
     rfl,
     rfl,
     rfl,
     rfl,
     rfl,
     rfl,
     (fun _ _ _ _ => rfl),
     rfl,
     rfl,
     rfl,
     rfl,
     rfl,
     (by first | omega | rfl | (simp; done) | (simp; omega)),
     rfl,
     trivial⟩
theorem p1_yes1 (g r0 r1 r2 r3 : Int) (ms : List Mm) (A B : Nat) (first : Bool) (n : Nat) (hn : n < 1000) (hv : regV g 1 > 0) : Vc (vcC Try.prog false (ntOf Try.prog 3) (lpC Try.prog 3 0) (p1 g r0 r1 r2 r3 ms A B first 1 n) [.b true, .ix 1, .ix 1, .b true] .nrm [(0, 0), (1, 1)] (p1 g r0 (regV g 1) r2 r3 ms A B first 2 (n + 1))) :=
  vc_of (q := (decide ((↑(1 : Nat) : Int) < (4 : Int)) = true) ∧ (inK IntKind.i64 ((2 : Int) * (↑(1 : Nat) : Int))) ∧ ((0 : Int) ≤ IntKind.wrap IntKind.u64 ((2 : Int) * (↑(1 : Nat) : Int))) ∧ ((3 : Int) ≠ (0 : Int)) ∧ ((↑(1 : Nat) : Int) = (↑(1 : Nat) : Int)) ∧ ((↑(1 : Nat) : Int) = (↑(1 : Nat) : Int)) ∧ (decide
    (Int.tmod (Go.bits Go.BinOp.and IntKind.i64 (Int.fdiv g ((2 : Int) ^ (2 : Nat))) (3 : Int)) (3 : Int) >
      (0 : Int)) =
  true) ∧ (inK IntKind.i64 ((↑n : Int) + (1 : Int))) ∧ (inK IntKind.i64 ((↑(1 : Nat) : Int) + (1 : Int))) ∧ ((4 : Int) = (4 : Int)) ∧ (r0 = r0) ∧ (Int.tmod (Go.bits Go.BinOp.and IntKind.i64 (Int.fdiv g ((2 : Int) ^ (2 : Nat))) (3 : Int)) (3 : Int) =
  regV g (1 : Nat)) ∧ (r2 = r2) ∧ (r3 = r3) ∧ ((0 : Nat) = (0 : Nat)) ∧ (List.length ms = List.length ms) ∧ (List.length ms = List.length ms) ∧ (∀ (i : Nat),
  i < List.length ms →
    ∀ (j : Nat),
      j < (3 : Nat) →
        rowL mmC ms i j =
          rowL mmC ms i j) ∧ (g = g) ∧ ((↑A : Int) = (↑A : Int)) ∧ ((↑B : Int) = (↑B : Int)) ∧ (first = first) ∧ (false = false) ∧ ((↑(1 : Nat) : Int) + (1 : Int) = (↑(2 : Nat) : Int)) ∧ ((↑n : Int) + (1 : Int) = (↑(n + (1 : Nat)) : Int)) ∧ True) (by kernel_rfl)
    ⟨(decide_eq_true (by first | omega | (simp; omega) | (simp; done))),
     (in64 (by omega) (by omega)),
     (by decide),
     (by first | omega | rfl | (simp; done) | (simp; omega)),
     rfl,
     rfl,
     (decide_eq_true hv),
     (in64 (by omega) (by omega)),
     (in64 (by omega) (by omega)),
     rfl,
     rfl,
     rfl,
     rfl,
     rfl,
     rfl,
     rfl,
     rfl,
     (fun _ _ _ _ => rfl),
     rfl,
     rfl,
     rfl,
     rfl,
     rfl,
     (by first | omega | rfl | (simp; done) | (simp; omega)),
     (by first | omega | rfl | (simp; done) | (simp; omega)),
     trivial⟩
theorem p1_no2 (g r0 r1 r2 r3 : Int) (ms : List Mm) (A B : Nat) (first : Bool) (n : Nat) (hn : n < 1000) (hv : ¬ regV g 2 > 0) : Vc (vcC Try.prog false (ntOf Try.prog 3) (lpC Try.prog 3 0) (p1 g r0 r1 r2 r3 ms A B first 2 n) [.b true, .ix 2, .ix 2, .b false] .nrm [(0, 0), (1, 1)] (p1 g r0 r1 (regV g 2) r3 ms A B first 3 n)) :=
  vc_of (q := (decide ((↑(2 : Nat) : Int) < (4 : Int)) = true) ∧ (inK IntKind.i64 ((2 : Int) * (↑(2 : Nat) : Int))) ∧ ((0 : Int) ≤ IntKind.wrap IntKind.u64 ((2 : Int) * (↑(2 : Nat) : Int))) ∧ ((3 : Int) ≠ (0 : Int)) ∧ ((↑(2 : Nat) : Int) = (↑(2 : Nat) : Int)) ∧ ((↑(2 : Nat) : Int) = (↑(2 : Nat) : Int)) ∧ (decide
    (Int.tmod (Go.bits Go.BinOp.and IntKind.i64 (Int.fdiv g ((2 : Int) ^ (4 : Nat))) (3 : Int)) (3 : Int) >
      (0 : Int)) =
  false) ∧ (inK IntKind.i64 ((↑(2 : Nat) : Int) + (1 : Int))) ∧ ((4 : Int) = (4 : Int)) ∧ (r0 = r0) ∧ (r1 = r1) ∧ (Int.tmod (Go.bits Go.BinOp.and IntKind.i64 (Int.fdiv g ((2 : Int) ^ (4 : Nat))) (3 : Int)) (3 : Int) =
  regV g (2 : Nat)) ∧ (r3 = r3) ∧ ((0 : Nat) = (0 : Nat)) ∧ (List.length ms = List.length ms) ∧ (List.length ms = List.length ms) ∧ (∀ (i : Nat),
  i < List.length ms →
    ∀ (j : Nat),
      j < (3 : Nat) →
        rowL mmC ms i j =
          rowL mmC ms i j) ∧ (g = g) ∧ ((↑A : Int) = (↑A : Int)) ∧ ((↑B : Int) = (↑B : Int)) ∧ (first = first) ∧ (false = false) ∧ ((↑(2 : Nat) : Int) + (1 : Int) = (↑(3 : Nat) : Int)) ∧ ((↑n : Int) = (↑n : Int)) ∧ True) (by kernel_rfl)
    ⟨(decide_eq_true (by first | omega | (simp; omega) | (simp; done))),
     (in64 (by omega) (by omega)),
     (by decide),
     (by first | omega | rfl | (simp; done) | (simp; omega)),
     rfl,
     rfl,
     (decide_eq_false hv),
     (in64 (by omega) (by omega)),
     rfl,
     rfl,
     rfl,
     rfl,
     rfl,
     rfl,
     rfl,
     rfl,
     (fun _ _ _ _ => rfl),
     rfl,
     rfl,
     rfl,
     rfl,
     rfl,
     (by first | omega | rfl | (simp; done) | (simp; omega)),
     rfl,
     trivial⟩
theorem p1_yes2 (g r0 r1 r2 r3 : Int) (ms : List Mm) (A B : Nat) (first : Bool) (n : Nat) (hn : n < 1000) (hv : regV g 2 > 0) : Vc (vcC Try.prog false (ntOf Try.prog 3) (lpC Try.prog 3 0) (p1 g r0 r1 r2 r3 ms A B first 2 n) [.b true, .ix 2, .ix 2, .b true] .nrm [(0, 0), (1, 1)] (p1 g r0 r1 (regV g 2) r3 ms A B first 3 (n + 1))) :=
  vc_of (q := (decide ((↑(2 : Nat) : Int) < (4 : Int)) = true) ∧ (inK IntKind.i64 ((2 : Int) * (↑(2 : Nat) : Int))) ∧ ((0 : Int) ≤ IntKind.wrap IntKind.u64 ((2 : Int) * (↑(2 : Nat) : Int))) ∧ ((3 : Int) ≠ (0 : Int)) ∧ ((↑(2 : Nat) : Int) = (↑(2 : Nat) : Int)) ∧ ((↑(2 : Nat) : Int) = (↑(2 : Nat) : Int)) ∧ (decide
    (Int.tmod (Go.bits Go.BinOp.and IntKind.i64 (Int.fdiv g ((2 : Int) ^ (4 : Nat))) (3 : Int)) (3 : Int) >
      (0 : Int)) =
  true) ∧ (inK IntKind.i64 ((↑n : Int) + (1 : Int))) ∧ (inK IntKind.i64 ((↑(2 : Nat) : Int) + (1 : Int))) ∧ ((4 : Int) = (4 : Int)) ∧ (r0 = r0) ∧ (r1 = r1) ∧ (Int.tmod (Go.bits Go.BinOp.and IntKind.i64 (Int.fdiv g ((2 : Int) ^ (4 : Nat))) (3 : Int)) (3 : Int) =
  regV g (2 : Nat)) ∧ (r3 = r3) ∧ ((0 : Nat) = (0 : Nat)) ∧ (List.length ms = List.length ms) ∧ (List.length ms = List.length ms) ∧ (∀ (i : Nat),
  i < List.length ms →
    ∀ (j : Nat),
      j < (3 : Nat) →
        rowL mmC ms i j =
          rowL mmC ms i j) ∧ (g = g) ∧ ((↑A : Int) = (↑A : Int)) ∧ ((↑B : Int) = (↑B : Int)) ∧ (first = first) ∧ (false = false) ∧ ((↑(2 : Nat) : Int) + (1 : Int) = (↑(3 : Nat) : Int)) ∧ ((↑n : Int) + (1 : Int) = (↑(n + (1 : Nat)) : Int)) ∧ True) (by kernel_rfl)
    ⟨(decide_eq_true (by first | omega | (simp; omega) | (simp; done))),
     (in64 (by omega) (by omega)),
     (by decide),
     (by first | omega | rfl | (simp; done) | (simp; omega)),
     rfl,
     rfl,
     (decide_eq_true hv),
     (in64 (by omega) (by omega)),
     (in64 (by omega) (by omega)),
     rfl,
     rfl,
     rfl,
     rfl,
     rfl,
     rfl,
     rfl,
     rfl,
     (fun _ _ _ _ => rfl),
     rfl,
     rfl,
     rfl,
     rfl,
     rfl,
     (by first | omega | rfl | (simp; done) | (simp; omega)),
     (by first | omega | rfl | (simp; done) | (simp; omega)),
     trivial⟩
theorem p1_no3 (g r0 r1 r2 r3 : Int) (ms : List Mm) (A B : Nat) (first : Bool) (n : Nat) (hn : n < 1000) (hv : ¬ regV g 3 > 0) : Vc (vcC Try.prog false (ntOf Try.prog 3) (lpC Try.prog 3 0) (p1 g r0 r1 r2 r3 ms A B first 3 n) [.b true, .ix 3, .ix 3, .b false] .nrm [(0, 0), (1, 1)] (p1 g r0 r1 r2 (regV g 3) ms A B first 4 n)) :=
  vc_of (q := (decide ((↑(3 : Nat) : Int) < (4 : Int)) = true) ∧ (inK IntKind.i64 ((2 : Int) * (↑(3 : Nat) : Int))) ∧ ((0 : Int) ≤ IntKind.wrap IntKind.u64 ((2 : Int) * (↑(3 : Nat) : Int))) ∧ ((3 : Int) ≠ (0 : Int)) ∧ ((↑(3 : Nat) : Int) = (↑(3 : Nat) : Int)) ∧ ((↑(3 : Nat) : Int) = (↑(3 : Nat) : Int)) ∧ (decide
    (Int.tmod (Go.bits Go.BinOp.and IntKind.i64 (Int.fdiv g ((2 : Int) ^ (6 : Nat))) (3 : Int)) (3 : Int) >
      (0 : Int)) =
  false) ∧ (inK IntKind.i64 ((↑(3 : Nat) : Int) + (1 : Int))) ∧ ((4 : Int) = (4 : Int)) ∧ (r0 = r0) ∧ (r1 = r1) ∧ (r2 = r2) ∧ (Int.tmod (Go.bits Go.BinOp.and IntKind.i64 (Int.fdiv g ((2 : Int) ^ (6 : Nat))) (3 : Int)) (3 : Int) =
  regV g (3 : Nat)) ∧ ((0 : Nat) = (0 : Nat)) ∧ (List.length ms = List.length ms) ∧ (List.length ms = List.length ms) ∧ (∀ (i : Nat),
  i < List.length ms →
    ∀ (j : Nat),
      j < (3 : Nat) →
        rowL mmC ms i j =
          rowL mmC ms i j) ∧ (g = g) ∧ ((↑A : Int) = (↑A : Int)) ∧ ((↑B : Int) = (↑B : Int)) ∧ (first = first) ∧ (false = false) ∧ ((↑(3 : Nat) : Int) + (1 : Int) = (↑(4 : Nat) : Int)) ∧ ((↑n : Int) = (↑n : Int)) ∧ True) (by kernel_rfl)
    ⟨(decide_eq_true (by first | omega | (simp; omega) | (simp; done))),
     (in64 (by omega) (by omega)),
     (by decide),
     (by first | omega | rfl | (simp; done) | (simp; omega)),
     rfl,
     rfl,
     (decide_eq_false hv),
     (in64 (by omega) (by omega)),
     rfl,
     rfl,
     rfl,
     rfl,
     rfl,
     rfl,
     rfl,
     rfl,
     (fun _ _ _ _ => rfl),
     rfl,
     rfl,
     rfl,
     rfl,
     rfl,
     (by first | omega | rfl | (simp; done) | (simp; omega)),
     rfl,
     trivial⟩
theorem p1_yes3 (g r0 r1 r2 r3 : Int) (ms : List Mm) (A B : Nat) (first : Bool) (n : Nat) (hn : n < 1000) (hv : regV g 3 > 0) : Vc (vcC Try.prog false (ntOf Try.prog 3) (lpC Try.prog 3 0) (p1 g r0 r1 r2 r3 ms A B first 3 n) [.b true, .ix 3, .ix 3, .b true] .nrm [(0, 0), (1, 1)] (p1 g r0 r1 r2 (regV g 3) ms A B first 4 (n + 1))) :=
  vc_of (q := (decide ((↑(3 : Nat) : Int) < (4 : Int)) = true) ∧ (inK IntKind.i64 ((2 : Int) * (↑(3 : Nat) : Int))) ∧ ((0 : Int) ≤ IntKind.wrap IntKind.u64 ((2 : Int) * (↑(3 : Nat) : Int))) ∧ ((3 : Int) ≠ (0 : Int)) ∧ ((↑(3 : Nat) : Int) = (↑(3 : Nat) : Int)) ∧ ((↑(3 : Nat) : Int) = (↑(3 : Nat) : Int)) ∧ (decide
    (Int.tmod (Go.bits Go.BinOp.and IntKind.i64 (Int.fdiv g ((2 : Int) ^ (6 : Nat))) (3 : Int)) (3 : Int) >
      (0 : Int)) =
  true) ∧ (inK IntKind.i64 ((↑n : Int) + (1 : Int))) ∧ (inK IntKind.i64 ((↑(3 : Nat) : Int) + (1 : Int))) ∧ ((4 : Int) = (4 : Int)) ∧ (r0 = r0) ∧ (r1 = r1) ∧ (r2 = r2) ∧ (Int.tmod (Go.bits Go.BinOp.and IntKind.i64 (Int.fdiv g ((2 : Int) ^ (6 : Nat))) (3 : Int)) (3 : Int) =
  regV g (3 : Nat)) ∧ ((0 : Nat) = (0 : Nat)) ∧ (List.length ms = List.length ms) ∧ (List.length ms = List.length ms) ∧ (∀ (i : Nat),
  i < List.length ms →
    ∀ (j : Nat),
      j < (3 : Nat) →
        rowL mmC ms i j =
          rowL mmC ms i j) ∧ (g = g) ∧ ((↑A : Int) = (↑A : Int)) ∧ ((↑B : Int) = (↑B : Int)) ∧ (first = first) ∧ (false = false) ∧ ((↑(3 : Nat) : Int) + (1 : Int) = (↑(4 : Nat) : Int)) ∧ ((↑n : Int) + (1 : Int) = (↑(n + (1 : Nat)) : Int)) ∧ True) (by kernel_rfl)
    ⟨(decide_eq_true (by first | omega | (simp; omega) | (simp; done))),
     (in64 (by omega) (by omega)),
     (by decide),
     (by first | omega | rfl | (simp; done) | (simp; omega)),
     rfl,
     rfl,
     (decide_eq_true hv),
     (in64 (by omega) (by omega)),
     (in64 (by omega) (by omega)),
     rfl,
     rfl,
     rfl,
     rfl,
     rfl,
     rfl,
     rfl,
     rfl,
     (fun _ _ _ _ => rfl),
     rfl,
     rfl,
     rfl,
     rfl,
     rfl,
     (by first | omega | rfl | (simp; done) | (simp; omega)),
     (by first | omega | rfl | (simp; done) | (simp; omega)),
     trivial⟩
theorem p1_end (g r0 r1 r2 r3 : Int) (ms : List Mm) (A B : Nat) (first : Bool) (n : Nat) : Vc (vcC Try.prog false (ntOf Try.prog 3) (lpC Try.prog 3 0) (p1 g r0 r1 r2 r3 ms A B first 4 n) [.b false] (.ext 0) [(0, 0), (1, 1)] (p1 g r0 r1 r2 r3 ms A B first 4 n)) :=
  vc_of (q := (decide ((↑(4 : Nat) : Int) < (4 : Int)) = false) ∧ ((4 : Int) = (4 : Int)) ∧ (r0 = r0) ∧ (r1 = r1) ∧ (r2 = r2) ∧ (r3 = r3) ∧ ((0 : Nat) = (0 : Nat)) ∧ (List.length ms = List.length ms) ∧ (List.length ms = List.length ms) ∧ (∀ (i : Nat),
  i < List.length ms →
    ∀ (j : Nat),
      j < (3 : Nat) →
        rowL mmC ms i j =
          rowL mmC ms i j) ∧ (g = g) ∧ ((↑A : Int) = (↑A : Int)) ∧ ((↑B : Int) = (↑B : Int)) ∧ (first = first) ∧ (false = false) ∧ ((↑(4 : Nat) : Int) = (↑(4 : Nat) : Int)) ∧ ((↑n : Int) = (↑n : Int)) ∧ True) (by kernel_rfl)
    ⟨(decide_eq_false (by first | omega | (simp; omega) | (simp; done))),
     rfl,
     rfl,
     rfl,
     rfl,
     rfl,
     rfl,
     rfl,
     rfl,
     (fun _ _ _ _ => rfl),
     rfl,
     rfl,
     rfl,
     rfl,
     rfl,
     rfl,
     rfl,
     trivial⟩
theorem p1_loop (g : Int) (ms : List Mm) (A B : Nat) (first : Bool) : Ok Try.prog (ntOf Try.prog 3) (.loop (lpC Try.prog 3 0)) (p1 g 0 0 0 0 ms A B first 0 0).st (.ext 0) (p1 g (regV g 0) (regV g 1) (regV g 2) (regV g 3) ms A B first 4 (regL (regV g) 4).length).st :=
  Ok.loop (P := Try.prog) (nt := ntOf Try.prog 3) (c := lpC Try.prog 3 0) (F := fun k => p1 g (rk g k 0) (rk g k 1) (rk g k 2) (rk g k 3) ms A B first k (regL (regV g) k).length) (m := 4) (x := .ext 0) (J := p1 g (regV g 0) (regV g 1) (regV g 2) (regV g 3) ms A B first 4 (regL (regV g) 4).length) (fun k hk => by
    match k, hk with
    | 0, _ =>
      have hb := regV_bd g 0
      by_cases hz : regV g 0 = 0
      · have e : (regL (regV g) 1).length = (regL (regV g) 0).length := by rw [regL_len_succ, if_pos hz]; rfl
        show Ok _ _ _ _ _ (p1 g _ _ _ _ ms A B first 1 (regL (regV g) 1).length).st
        rw [e]
        exact Ok.vc (p1_no0 g (rk g 0 0) (rk g 0 1) (rk g 0 2) (rk g 0 3) ms A B first _ (by have := regL_le (regV g) 0; omega) (by omega))
      · have e : (regL (regV g) 1).length = (regL (regV g) 0).length + 1 := by rw [regL_len_succ, if_neg hz]
        show Ok _ _ _ _ _ (p1 g _ _ _ _ ms A B first 1 (regL (regV g) 1).length).st
        rw [e]
        exact Ok.vc (p1_yes0 g (rk g 0 0) (rk g 0 1) (rk g 0 2) (rk g 0 3) ms A B first _ (by have := regL_le (regV g) 0; omega) (by omega))
    | 1, _ =>
      have hb := regV_bd g 1
      by_cases hz : regV g 1 = 0
      · have e : (regL (regV g) 2).length = (regL (regV g) 1).length := by rw [regL_len_succ, if_pos hz]; rfl
        show Ok _ _ _ _ _ (p1 g _ _ _ _ ms A B first 2 (regL (regV g) 2).length).st
        rw [e]
        exact Ok.vc (p1_no1 g (rk g 1 0) (rk g 1 1) (rk g 1 2) (rk g 1 3) ms A B first _ (by have := regL_le (regV g) 1; omega) (by omega))
      · have e : (regL (regV g) 2).length = (regL (regV g) 1).length + 1 := by rw [regL_len_succ, if_neg hz]
        show Ok _ _ _ _ _ (p1 g _ _ _ _ ms A B first 2 (regL (regV g) 2).length).st
        rw [e]
        exact Ok.vc (p1_yes1 g (rk g 1 0) (rk g 1 1) (rk g 1 2) (rk g 1 3) ms A B first _ (by have := regL_le (regV g) 1; omega) (by omega))
    | 2, _ =>
      have hb := regV_bd g 2
      by_cases hz : regV g 2 = 0
      · have e : (regL (regV g) 3).length = (regL (regV g) 2).length := by rw [regL_len_succ, if_pos hz]; rfl
        show Ok _ _ _ _ _ (p1 g _ _ _ _ ms A B first 3 (regL (regV g) 3).length).st
        rw [e]
        exact Ok.vc (p1_no2 g (rk g 2 0) (rk g 2 1) (rk g 2 2) (rk g 2 3) ms A B first _ (by have := regL_le (regV g) 2; omega) (by omega))
      · have e : (regL (regV g) 3).length = (regL (regV g) 2).length + 1 := by rw [regL_len_succ, if_neg hz]
        show Ok _ _ _ _ _ (p1 g _ _ _ _ ms A B first 3 (regL (regV g) 3).length).st
        rw [e]
        exact Ok.vc (p1_yes2 g (rk g 2 0) (rk g 2 1) (rk g 2 2) (rk g 2 3) ms A B first _ (by have := regL_le (regV g) 2; omega) (by omega))
    | 3, _ =>
      have hb := regV_bd g 3
      by_cases hz : regV g 3 = 0
      · have e : (regL (regV g) 4).length = (regL (regV g) 3).length := by rw [regL_len_succ, if_pos hz]; rfl
        show Ok _ _ _ _ _ (p1 g _ _ _ _ ms A B first 4 (regL (regV g) 4).length).st
        rw [e]
        exact Ok.vc (p1_no3 g (rk g 3 0) (rk g 3 1) (rk g 3 2) (rk g 3 3) ms A B first _ (by have := regL_le (regV g) 3; omega) (by omega))
      · have e : (regL (regV g) 4).length = (regL (regV g) 3).length + 1 := by rw [regL_len_succ, if_neg hz]
        show Ok _ _ _ _ _ (p1 g _ _ _ _ ms A B first 4 (regL (regV g) 4).length).st
        rw [e]
        exact Ok.vc (p1_yes3 g (rk g 3 0) (rk g 3 1) (rk g 3 2) (rk g 3 3) ms A B first _ (by have := regL_le (regV g) 3; omega) (by omega))) (Ok.vc (p1_end _ _ _ _ _ _ _ _ _ _)) (by simp)
theorem p2_no0 (r0 r1 r2 r3 : Int) (A B : Nat) (first : Bool) (pl : List Pl) (c : Nat) (hz : r0 = 0) : Vc (vcC Try.prog false (ntOf Try.prog 3) (lpC Try.prog 3 1) (p2 r0 r1 r2 r3 A B first pl c 0) [.b true, .ix 0, .b true] .nrm [(0, 0), (2, 2)] (p2 r0 r1 r2 r3 A B first pl c 1)) :=
  vc_of (q := (decide ((↑(0 : Nat) : Int) < (4 : Int)) = true) ∧ ((↑(0 : Nat) : Int) = (↑(0 : Nat) : Int)) ∧ ((r0 == (0 : Int)) = true) ∧ (inK IntKind.i64 ((↑(0 : Nat) : Int) + (1 : Int))) ∧ ((4 : Int) = (4 : Int)) ∧ (r0 = r0) ∧ (r1 = r1) ∧ (r2 = r2) ∧ (r3 = r3) ∧ (List.length pl = List.length pl) ∧ (∀ (i : Nat),
  i < List.length pl →
    ∀ (j : Nat),
      j < (3 : Nat) →
        rowL plC pl i j =
          rowL plC pl i j) ∧ ((↑A : Int) = (↑A : Int)) ∧ ((↑B : Int) = (↑B : Int)) ∧ (first = first) ∧ (false = false) ∧ ((0 : Nat) = (0 : Nat)) ∧ (List.length pl = List.length pl) ∧ ((↑c : Int) = (↑c : Int)) ∧ ((↑(0 : Nat) : Int) + (1 : Int) = (↑(1 : Nat) : Int)) ∧ True) (by kernel_rfl)
    ⟨(decide_eq_true (by first | omega | (simp; omega) | (simp; done))),
     rfl,
     (by rw [hz]; rfl),
     (in64 (by omega) (by omega)),
     rfl,
     rfl,
     rfl,
     rfl,
     rfl,
     rfl,
     (fun _ _ _ _ => rfl),
     rfl,
     rfl,
     rfl,
     rfl,
     rfl,
     rfl,
     rfl,
     (by first | omega | rfl | (simp; done) | (simp; omega)),
     trivial⟩
theorem p2_yes0 (r0 r1 r2 r3 : Int) (A B : Nat) (first : Bool) (pl : List Pl) (c : Nat) (hz : ¬ r0 = 0) (hc : c < pl.length) (hl : c < 1000000) (hp : pl.getD c default = ⟨true, 0, r0 == 2⟩) : Vc (vcC Try.prog false (ntOf Try.prog 3) (lpC Try.prog 3 1) (p2 r0 r1 r2 r3 A B first pl c 0) [.b true, .ix 0, .b false, .ix 0, .b false] .nrm [(0, 0), (2, 2)] (p2 r0 r1 r2 r3 A B first pl (c + 1) 1)) :=
  vc_of (q := (decide ((↑(0 : Nat) : Int) < (4 : Int)) = true) ∧ ((↑(0 : Nat) : Int) = (↑(0 : Nat) : Int)) ∧ ((r0 == (0 : Int)) = false) ∧ ((0 : Int) ≤ (↑c : Int) ∧ (↑c : Int) < (↑(List.length pl) : Int)) ∧ (c + (0 : Nat) < List.length pl) ∧ ((↑(0 : Nat) : Int) = (↑(0 : Nat) : Int)) ∧ ((!bif Pl.reg (List.getD pl (c + (0 : Nat)) Inhabited.default) == true then
      bif
          (↑(Pl.n (List.getD pl (c + (0 : Nat)) Inhabited.default)) : Int) ==
            (↑(0 : Nat) : Int) then
        bif
            Pl.sec (List.getD pl (c + (0 : Nat)) Inhabited.default) ==
              (r0 == (2 : Int)) then
          true
        else false
      else false
    else false) =
  false) ∧ (inK IntKind.i64 ((↑c : Int) + (1 : Int))) ∧ (inK IntKind.i64 ((↑(0 : Nat) : Int) + (1 : Int))) ∧ ((4 : Int) = (4 : Int)) ∧ (r0 = r0) ∧ (r1 = r1) ∧ (r2 = r2) ∧ (r3 = r3) ∧ (List.length pl = List.length pl) ∧ (∀ (i : Nat),
  i < List.length pl →
    ∀ (j : Nat),
      j < (3 : Nat) →
        rowL plC pl i j =
          rowL plC pl i j) ∧ ((↑A : Int) = (↑A : Int)) ∧ ((↑B : Int) = (↑B : Int)) ∧ (first = first) ∧ (false = false) ∧ ((0 : Nat) = (0 : Nat)) ∧ (List.length pl = List.length pl) ∧ ((↑c : Int) + (1 : Int) = (↑(c + (1 : Nat)) : Int)) ∧ ((↑(0 : Nat) : Int) + (1 : Int) = (↑(1 : Nat) : Int)) ∧ True) (by kernel_rfl)
    ⟨(decide_eq_true (by first | omega | (simp; omega) | (simp; done))),
     rfl,
     (by simpa using hz),
     (by first | omega | rfl | (simp; done) | (simp; omega)),
     (by first | omega | rfl | (simp; done) | (simp; omega)),
     rfl,
     (pl_eq hp rfl rfl rfl),
     (in64 (by omega) (by omega)),
     (in64 (by omega) (by omega)),
     rfl,
     rfl,
     rfl,
     rfl,
     rfl,
     rfl,
     (fun _ _ _ _ => rfl),
     rfl,
     rfl,
     rfl,
     rfl,
     rfl,
     rfl,
     (by first | omega | rfl | (simp; done) | (simp; omega)),
     (by first | omega | rfl | (simp; done) | (simp; omega)),
     trivial⟩
theorem p2_no1 (r0 r1 r2 r3 : Int) (A B : Nat) (first : Bool) (pl : List Pl) (c : Nat) (hz : r1 = 0) : Vc (vcC Try.prog false (ntOf Try.prog 3) (lpC Try.prog 3 1) (p2 r0 r1 r2 r3 A B first pl c 1) [.b true, .ix 1, .b true] .nrm [(0, 0), (2, 2)] (p2 r0 r1 r2 r3 A B first pl c 2)) :=
  vc_of (q := (decide ((↑(1 : Nat) : Int) < (4 : Int)) = true) ∧ ((↑(1 : Nat) : Int) = (↑(1 : Nat) : Int)) ∧ ((r1 == (0 : Int)) = true) ∧ (inK IntKind.i64 ((↑(1 : Nat) : Int) + (1 : Int))) ∧ ((4 : Int) = (4 : Int)) ∧ (r0 = r0) ∧ (r1 = r1) ∧ (r2 = r2) ∧ (r3 = r3) ∧ (List.length pl = List.length pl) ∧ (∀ (i : Nat),
  i < List.length pl →
    ∀ (j : Nat),
      j < (3 : Nat) →
        rowL plC pl i j =
          rowL plC pl i j) ∧ ((↑A : Int) = (↑A : Int)) ∧ ((↑B : Int) = (↑B : Int)) ∧ (first = first) ∧ (false = false) ∧ ((0 : Nat) = (0 : Nat)) ∧ (List.length pl = List.length pl) ∧ ((↑c : Int) = (↑c : Int)) ∧ ((↑(1 : Nat) : Int) + (1 : Int) = (↑(2 : Nat) : Int)) ∧ True) (by kernel_rfl)
    ⟨(decide_eq_true (by first | omega | (simp; omega) | (simp; done))),
     rfl,
     (by rw [hz]; rfl),
     (in64 (by omega) (by omega)),
     rfl,
     rfl,
     rfl,
     rfl,
     rfl,
     rfl,
     (fun _ _ _ _ => rfl),
     rfl,
     rfl,
     rfl,
     rfl,
     rfl,
     rfl,
     rfl,
     (by first | omega | rfl | (simp; done) | (simp; omega)),
     trivial⟩
theorem p2_yes1 (r0 r1 r2 r3 : Int) (A B : Nat) (first : Bool) (pl : List Pl) (c : Nat) (hz : ¬ r1 = 0) (hc : c < pl.length) (hl : c < 1000000) (hp : pl.getD c default = ⟨true, 1, r1 == 2⟩) : Vc (vcC Try.prog false (ntOf Try.prog 3) (lpC Try.prog 3 1) (p2 r0 r1 r2 r3 A B first pl c 1) [.b true, .ix 1, .b false, .ix 1, .b false] .nrm [(0, 0), (2, 2)] (p2 r0 r1 r2 r3 A B first pl (c + 1) 2)) :=
  vc_of (q := (decide ((↑(1 : Nat) : Int) < (4 : Int)) = true) ∧ ((↑(1 : Nat) : Int) = (↑(1 : Nat) : Int)) ∧ ((r1 == (0 : Int)) = false) ∧ ((0 : Int) ≤ (↑c : Int) ∧ (↑c : Int) < (↑(List.length pl) : Int)) ∧ (c + (0 : Nat) < List.length pl) ∧ ((↑(1 : Nat) : Int) = (↑(1 : Nat) : Int)) ∧ ((!bif Pl.reg (List.getD pl (c + (0 : Nat)) Inhabited.default) == true then
      bif
          (↑(Pl.n (List.getD pl (c + (0 : Nat)) Inhabited.default)) : Int) ==
            (↑(1 : Nat) : Int) then
        bif
            Pl.sec (List.getD pl (c + (0 : Nat)) Inhabited.default) ==
              (r1 == (2 : Int)) then
          true
        else false
      else false
    else false) =
  false) ∧ (inK IntKind.i64 ((↑c : Int) + (1 : Int))) ∧ (inK IntKind.i64 ((↑(1 : Nat) : Int) + (1 : Int))) ∧ ((4 : Int) = (4 : Int)) ∧ (r0 = r0) ∧ (r1 = r1) ∧ (r2 = r2) ∧ (r3 = r3) ∧ (List.length pl = List.length pl) ∧ (∀ (i : Nat),
  i < List.length pl →
    ∀ (j : Nat),
      j < (3 : Nat) →
        rowL plC pl i j =
          rowL plC pl i j) ∧ ((↑A : Int) = (↑A : Int)) ∧ ((↑B : Int) = (↑B : Int)) ∧ (first = first) ∧ (false = false) ∧ ((0 : Nat) = (0 : Nat)) ∧ (List.length pl = List.length pl) ∧ ((↑c : Int) + (1 : Int) = (↑(c + (1 : Nat)) : Int)) ∧ ((↑(1 : Nat) : Int) + (1 : Int) = (↑(2 : Nat) : Int)) ∧ True) (by kernel_rfl)
    ⟨(decide_eq_true (by first | omega | (simp; omega) | (simp; done))),
     rfl,
     (by simpa using hz),
     (by first | omega | rfl | (simp; done) | (simp; omega)),
     (by first | omega | rfl | (simp; done) | (simp; omega)),
     rfl,
     (pl_eq hp rfl rfl rfl),
     (in64 (by omega) (by omega)),
     (in64 (by omega) (by omega)),
     rfl,
     rfl,
     rfl,
     rfl,
     rfl,
     rfl,
     (fun _ _ _ _ => rfl),
     rfl,
     rfl,
     rfl,
     rfl,
     rfl,
     rfl,
     (by first | omega | rfl | (simp; done) | (simp; omega)),
     (by first | omega | rfl | (simp; done) | (simp; omega)),
     trivial⟩
theorem p2_no2 (r0 r1 r2 r3 : Int) (A B : Nat) (first : Bool) (pl : List Pl) (c : Nat) (hz : r2 = 0) : Vc (vcC Try.prog false (ntOf Try.prog 3) (lpC Try.prog 3 1) (p2 r0 r1 r2 r3 A B first pl c 2) [.b true, .ix 2, .b true] .nrm [(0, 0), (2, 2)] (p2 r0 r1 r2 r3 A B first pl c 3)) :=
  vc_of (q := (decide ((↑(2 : Nat) : Int) < (4 : Int)) = true) ∧ ((↑(2 : Nat) : Int) = (↑(2 : Nat) : Int)) ∧ ((r2 == (0 : Int)) = true) ∧ (inK IntKind.i64 ((↑(2 : Nat) : Int) + (1 : Int))) ∧ ((4 : Int) = (4 : Int)) ∧ (r0 = r0) ∧ (r1 = r1) ∧ (r2 = r2) ∧ (r3 = r3) ∧ (List.length pl = List.length pl) ∧ (∀ (i : Nat),
  i < List.length pl →
    ∀ (j : Nat),
      j < (3 : Nat) →
        rowL plC pl i j =
          rowL plC pl i j) ∧ ((↑A : Int) = (↑A : Int)) ∧ ((↑B : Int) = (↑B : Int)) ∧ (first = first) ∧ (false = false) ∧ ((0 : Nat) = (0 : Nat)) ∧ (List.length pl = List.length pl) ∧ ((↑c : Int) = (↑c : Int)) ∧ ((↑(2 : Nat) : Int) + (1 : Int) = (↑(3 : Nat) : Int)) ∧ True) (by kernel_rfl)
    ⟨(decide_eq_true (by first | omega | (simp; omega) | (simp; done))),
     rfl,
     (by rw [hz]; rfl),
     (in64 (by omega) (by omega)),
     rfl,
     rfl,
     rfl,
     rfl,
     rfl,
     rfl,
     (fun _ _ _ _ => rfl),
     rfl,
     rfl,
     rfl,
     rfl,
     rfl,
     rfl,
     rfl,
     (by first | omega | rfl | (simp; done) | (simp; omega)),
     trivial⟩
theorem p2_yes2 (r0 r1 r2 r3 : Int) (A B : Nat) (first : Bool) (pl : List Pl) (c : Nat) (hz : ¬ r2 = 0) (hc : c < pl.length) (hl : c < 1000000) (hp : pl.getD c default = ⟨true, 2, r2 == 2⟩) : Vc (vcC Try.prog false (ntOf Try.prog 3) (lpC Try.prog 3 1) (p2 r0 r1 r2 r3 A B first pl c 2) [.b true, .ix 2, .b false, .ix 2, .b false] .nrm [(0, 0), (2, 2)] (p2 r0 r1 r2 r3 A B first pl (c + 1) 3)) :=
  vc_of (q := (decide ((↑(2 : Nat) : Int) < (4 : Int)) = true) ∧ ((↑(2 : Nat) : Int) = (↑(2 : Nat) : Int)) ∧ ((r2 == (0 : Int)) = false) ∧ ((0 : Int) ≤ (↑c : Int) ∧ (↑c : Int) < (↑(List.length pl) : Int)) ∧ (c + (0 : Nat) < List.length pl) ∧ ((↑(2 : Nat) : Int) = (↑(2 : Nat) : Int)) ∧ ((!bif Pl.reg (List.getD pl (c + (0 : Nat)) Inhabited.default) == true then
      bif
          (↑(Pl.n (List.getD pl (c + (0 : Nat)) Inhabited.default)) : Int) ==
            (↑(2 : Nat) : Int) then
        bif
            Pl.sec (List.getD pl (c + (0 : Nat)) Inhabited.default) ==
              (r2 == (2 : Int)) then
          true
        else false
      else false
    else false) =
  false) ∧ (inK IntKind.i64 ((↑c : Int) + (1 : Int))) ∧ (inK IntKind.i64 ((↑(2 : Nat) : Int) + (1 : Int))) ∧ ((4 : Int) = (4 : Int)) ∧ (r0 = r0) ∧ (r1 = r1) ∧ (r2 = r2) ∧ (r3 = r3) ∧ (List.length pl = List.length pl) ∧ (∀ (i : Nat),
  i < List.length pl →
    ∀ (j : Nat),
      j < (3 : Nat) →
        rowL plC pl i j =
          rowL plC pl i j) ∧ ((↑A : Int) = (↑A : Int)) ∧ ((↑B : Int) = (↑B : Int)) ∧ (first = first) ∧ (false = false) ∧ ((0 : Nat) = (0 : Nat)) ∧ (List.length pl = List.length pl) ∧ ((↑c : Int) + (1 : Int) = (↑(c + (1 : Nat)) : Int)) ∧ ((↑(2 : Nat) : Int) + (1 : Int) = (↑(3 : Nat) : Int)) ∧ True) (by kernel_rfl)
    ⟨(decide_eq_true (by first | omega | (simp; omega) | (simp; done))),
     rfl,
     (by simpa using hz),
     (by first | omega | rfl | (simp; done) | (simp; omega)),
     (by first | omega | rfl | (simp; done) | (simp; omega)),
     rfl,
     (pl_eq hp rfl rfl rfl),
     (in64 (by omega) (by omega)),
     (in64 (by omega) (by omega)),
     rfl,
     rfl,
     rfl,
     rfl,
     rfl,
     rfl,
     (fun _ _ _ _ => rfl),
     rfl,
     rfl,
     rfl,
     rfl,
     rfl,
     rfl,
     (by first | omega | rfl | (simp; done) | (simp; omega)),
     (by first | omega | rfl | (simp; done) | (simp; omega)),
     trivial⟩
theorem p2_no3 (r0 r1 r2 r3 : Int) (A B : Nat) (first : Bool) (pl : List Pl) (c : Nat) (hz : r3 = 0) : Vc (vcC Try.prog false (ntOf Try.prog 3) (lpC Try.prog 3 1) (p2 r0 r1 r2 r3 A B first pl c 3) [.b true, .ix 3, .b true] .nrm [(0, 0), (2, 2)] (p2 r0 r1 r2 r3 A B first pl c 4)) :=
  vc_of (q := (decide ((↑(3 : Nat) : Int) < (4 : Int)) = true) ∧ ((↑(3 : Nat) : Int) = (↑(3 : Nat) : Int)) ∧ ((r3 == (0 : Int)) = true) ∧ (inK IntKind.i64 ((↑(3 : Nat) : Int) + (1 : Int))) ∧ ((4 : Int) = (4 : Int)) ∧ (r0 = r0) ∧ (r1 = r1) ∧ (r2 = r2) ∧ (r3 = r3) ∧ (List.length pl = List.length pl) ∧ (∀ (i : Nat),
  i < List.length pl →
    ∀ (j : Nat),
      j < (3 : Nat) →
        rowL plC pl i j =
          rowL plC pl i j) ∧ ((↑A : Int) = (↑A : Int)) ∧ ((↑B : Int) = (↑B : Int)) ∧ (first = first) ∧ (false = false) ∧ ((0 : Nat) = (0 : Nat)) ∧ (List.length pl = List.length pl) ∧ ((↑c : Int) = (↑c : Int)) ∧ ((↑(3 : Nat) : Int) + (1 : Int) = (↑(4 : Nat) : Int)) ∧ True) (by kernel_rfl)
    ⟨(decide_eq_true (by first | omega | (simp; omega) | (simp; done))),
     rfl,
     (by rw [hz]; rfl),
     (in64 (by omega) (by omega)),
     rfl,
     rfl,
     rfl,
     rfl,
     rfl,
     rfl,
     (fun _ _ _ _ => rfl),
     rfl,
     rfl,
     rfl,
     rfl,
     rfl,
     rfl,
     rfl,
     (by first | omega | rfl | (simp; done) | (simp; omega)),
     trivial⟩
theorem p2_yes3 (r0 r1 r2 r3 : Int) (A B : Nat) (first : Bool) (pl : List Pl) (c : Nat) (hz : ¬ r3 = 0) (hc : c < pl.length) (hl : c < 1000000) (hp : pl.getD c default = ⟨true, 3, r3 == 2⟩) : Vc (vcC Try.prog false (ntOf Try.prog 3) (lpC Try.prog 3 1) (p2 r0 r1 r2 r3 A B first pl c 3) [.b true, .ix 3, .b false, .ix 3, .b false] .nrm [(0, 0), (2, 2)] (p2 r0 r1 r2 r3 A B first pl (c + 1) 4)) :=
  vc_of (q := (decide ((↑(3 : Nat) : Int) < (4 : Int)) = true) ∧ ((↑(3 : Nat) : Int) = (↑(3 : Nat) : Int)) ∧ ((r3 == (0 : Int)) = false) ∧ ((0 : Int) ≤ (↑c : Int) ∧ (↑c : Int) < (↑(List.length pl) : Int)) ∧ (c + (0 : Nat) < List.length pl) ∧ ((↑(3 : Nat) : Int) = (↑(3 : Nat) : Int)) ∧ ((!bif Pl.reg (List.getD pl (c + (0 : Nat)) Inhabited.default) == true then
      bif
          (↑(Pl.n (List.getD pl (c + (0 : Nat)) Inhabited.default)) : Int) ==
            (↑(3 : Nat) : Int) then
        bif
            Pl.sec (List.getD pl (c + (0 : Nat)) Inhabited.default) ==
              (r3 == (2 : Int)) then
          true
        else false
      else false
    else false) =
  false) ∧ (inK IntKind.i64 ((↑c : Int) + (1 : Int))) ∧ (inK IntKind.i64 ((↑(3 : Nat) : Int) + (1 : Int))) ∧ ((4 : Int) = (4 : Int)) ∧ (r0 = r0) ∧ (r1 = r1) ∧ (r2 = r2) ∧ (r3 = r3) ∧ (List.length pl = List.length pl) ∧ (∀ (i : Nat),
  i < List.length pl →
    ∀ (j : Nat),
      j < (3 : Nat) →
        rowL plC pl i j =
          rowL plC pl i j) ∧ ((↑A : Int) = (↑A : Int)) ∧ ((↑B : Int) = (↑B : Int)) ∧ (first = first) ∧ (false = false) ∧ ((0 : Nat) = (0 : Nat)) ∧ (List.length pl = List.length pl) ∧ ((↑c : Int) + (1 : Int) = (↑(c + (1 : Nat)) : Int)) ∧ ((↑(3 : Nat) : Int) + (1 : Int) = (↑(4 : Nat) : Int)) ∧ True) (by kernel_rfl)
    ⟨(decide_eq_true (by first | omega | (simp; omega) | (simp; done))),
     rfl,
     (by simpa using hz),
     (by first | omega | rfl | (simp; done) | (simp; omega)),
     (by first | omega | rfl | (simp; done) | (simp; omega)),
     rfl,
     (pl_eq hp rfl rfl rfl),
     (in64 (by omega) (by omega)),
     (in64 (by omega) (by omega)),
     rfl,
     rfl,
     rfl,
     rfl,
     rfl,
     rfl,
     (fun _ _ _ _ => rfl),
     rfl,
     rfl,
     rfl,
     rfl,
     rfl,
     rfl,
     (by first | omega | rfl | (simp; done) | (simp; omega)),
     (by first | omega | rfl | (simp; done) | (simp; omega)),
     trivial⟩
theorem p2_end (r0 r1 r2 r3 : Int) (A B : Nat) (first : Bool) (pl : List Pl) (c : Nat) : Vc (vcC Try.prog false (ntOf Try.prog 3) (lpC Try.prog 3 1) (p2 r0 r1 r2 r3 A B first pl c 4) [.b false] (.ext 2) [(0, 0), (2, 2)] (p2 r0 r1 r2 r3 A B first pl c 4)) :=
  vc_of (q := (decide ((↑(4 : Nat) : Int) < (4 : Int)) = false) ∧ ((4 : Int) = (4 : Int)) ∧ (r0 = r0) ∧ (r1 = r1) ∧ (r2 = r2) ∧ (r3 = r3) ∧ (List.length pl = List.length pl) ∧ (∀ (i : Nat),
  i < List.length pl →
    ∀ (j : Nat),
      j < (3 : Nat) →
        rowL plC pl i j =
          rowL plC pl i j) ∧ ((↑A : Int) = (↑A : Int)) ∧ ((↑B : Int) = (↑B : Int)) ∧ (first = first) ∧ (false = false) ∧ ((0 : Nat) = (0 : Nat)) ∧ (List.length pl = List.length pl) ∧ ((↑c : Int) = (↑c : Int)) ∧ ((↑(4 : Nat) : Int) = (↑(4 : Nat) : Int)) ∧ True) (by kernel_rfl)
    ⟨(decide_eq_false (by first | omega | (simp; omega) | (simp; done))),
     rfl,
     rfl,
     rfl,
     rfl,
     rfl,
     rfl,
     (fun _ _ _ _ => rfl),
     rfl,
     rfl,
     rfl,
     rfl,
     rfl,
     rfl,
     rfl,
     rfl,
     trivial⟩
theorem p2_loop (r : Nat → Int) (A B : Nat) (first : Bool) (pl : List Pl) (hp : ∀ k, k < 4 → ¬ r k = 0 → pl.getD (regL r k).length default = ⟨true, k, r k == 2⟩ ∧ (regL r k).length < pl.length) : Ok Try.prog (ntOf Try.prog 3) (.loop (lpC Try.prog 3 1)) (p2 (r 0) (r 1) (r 2) (r 3) A B first pl 0 0).st (.ext 2) (p2 (r 0) (r 1) (r 2) (r 3) A B first pl (regL r 4).length 4).st :=
  Ok.loop (P := Try.prog) (nt := ntOf Try.prog 3) (c := lpC Try.prog 3 1) (F := fun k => p2 (r 0) (r 1) (r 2) (r 3) A B first pl (regL r k).length k) (m := 4) (x := .ext 2) (J := p2 (r 0) (r 1) (r 2) (r 3) A B first pl (regL r 4).length 4) (fun k hk => by
    match k, hk with
    | 0, _ =>
      by_cases hz : r 0 = 0
      · have e : (regL r 1).length = (regL r 0).length := by rw [regL_len_succ, if_pos hz]; rfl
        show Ok _ _ _ _ _ (p2 _ _ _ _ A B first pl (regL r 1).length 1).st
        rw [e]
        exact Ok.vc (p2_no0 (r 0) (r 1) (r 2) (r 3) A B first pl _ hz)
      · have e : (regL r 1).length = (regL r 0).length + 1 := by rw [regL_len_succ, if_neg hz]
        obtain ⟨h1, h2⟩ := hp 0 (by omega) hz
        have h3 := regL_le r 0
        show Ok _ _ _ _ _ (p2 _ _ _ _ A B first pl (regL r 1).length 1).st
        rw [e]
        exact Ok.vc (p2_yes0 (r 0) (r 1) (r 2) (r 3) A B first pl _ hz h2 (by omega) h1)
    | 1, _ =>
      by_cases hz : r 1 = 0
      · have e : (regL r 2).length = (regL r 1).length := by rw [regL_len_succ, if_pos hz]; rfl
        show Ok _ _ _ _ _ (p2 _ _ _ _ A B first pl (regL r 2).length 2).st
        rw [e]
        exact Ok.vc (p2_no1 (r 0) (r 1) (r 2) (r 3) A B first pl _ hz)
      · have e : (regL r 2).length = (regL r 1).length + 1 := by rw [regL_len_succ, if_neg hz]
        obtain ⟨h1, h2⟩ := hp 1 (by omega) hz
        have h3 := regL_le r 1
        show Ok _ _ _ _ _ (p2 _ _ _ _ A B first pl (regL r 2).length 2).st
        rw [e]
        exact Ok.vc (p2_yes1 (r 0) (r 1) (r 2) (r 3) A B first pl _ hz h2 (by omega) h1)
    | 2, _ =>
      by_cases hz : r 2 = 0
      · have e : (regL r 3).length = (regL r 2).length := by rw [regL_len_succ, if_pos hz]; rfl
        show Ok _ _ _ _ _ (p2 _ _ _ _ A B first pl (regL r 3).length 3).st
        rw [e]
        exact Ok.vc (p2_no2 (r 0) (r 1) (r 2) (r 3) A B first pl _ hz)
      · have e : (regL r 3).length = (regL r 2).length + 1 := by rw [regL_len_succ, if_neg hz]
        obtain ⟨h1, h2⟩ := hp 2 (by omega) hz
        have h3 := regL_le r 2
        show Ok _ _ _ _ _ (p2 _ _ _ _ A B first pl (regL r 3).length 3).st
        rw [e]
        exact Ok.vc (p2_yes2 (r 0) (r 1) (r 2) (r 3) A B first pl _ hz h2 (by omega) h1)
    | 3, _ =>
      by_cases hz : r 3 = 0
      · have e : (regL r 4).length = (regL r 3).length := by rw [regL_len_succ, if_pos hz]; rfl
        show Ok _ _ _ _ _ (p2 _ _ _ _ A B first pl (regL r 4).length 4).st
        rw [e]
        exact Ok.vc (p2_no3 (r 0) (r 1) (r 2) (r 3) A B first pl _ hz)
      · have e : (regL r 4).length = (regL r 3).length + 1 := by rw [regL_len_succ, if_neg hz]
        obtain ⟨h1, h2⟩ := hp 3 (by omega) hz
        have h3 := regL_le r 3
        show Ok _ _ _ _ _ (p2 _ _ _ _ A B first pl (regL r 4).length 4).st
        rw [e]
        exact Ok.vc (p2_yes3 (r 0) (r 1) (r 2) (r 3) A B first pl _ hz h2 (by omega) h1)) (Ok.vc (p2_end _ _ _ _ _ _ _ _ _)) (by simp)
theorem p3_step (A B : Nat) (first : Bool) (pl : List Pl) (c k : Nat) (hA : A < 100) (hB : B < 100) (hk : k < A + B) (hc : c < 1000) (hl : c + k < pl.length) (hp : pl.getD (c + k) default = ⟨false, k, decide (k < A) == first⟩) : Vc (vcC Try.prog false (ntOf Try.prog 3) (lpC Try.prog 3 2) (p3 A B first pl c k) [.b true, .b false] .nrm [(0, 0)] (p3 A B first pl c (k + 1))) :=
  vc_of (q := (inK IntKind.i64 ((↑A : Int) + (↑B : Int))) ∧ (decide ((↑k : Int) < (↑A : Int) + (↑B : Int)) = true) ∧ (inK IntKind.i64 ((↑c : Int) + (↑k : Int))) ∧ ((0 : Int) ≤ (↑c : Int) + (↑k : Int) ∧ (↑c : Int) + (↑k : Int) < (↑(List.length pl) : Int)) ∧ (c + k + (0 : Nat) < List.length pl) ∧ ((!bif Pl.reg (List.getD pl (c + k + (0 : Nat)) Inhabited.default) == false then
      bif
          (↑(Pl.n (List.getD pl (c + k + (0 : Nat)) Inhabited.default)) : Int) ==
            (↑k : Int) then
        bif
            Pl.sec (List.getD pl (c + k + (0 : Nat)) Inhabited.default) ==
              (decide ((↑k : Int) < (↑A : Int)) == first) then
          true
        else false
      else false
    else false) =
  false) ∧ (inK IntKind.i64 ((↑k : Int) + (1 : Int))) ∧ (List.length pl = List.length pl) ∧ (∀ (i : Nat),
  i < List.length pl →
    ∀ (j : Nat),
      j < (3 : Nat) →
        rowL plC pl i j =
          rowL plC pl i j) ∧ ((↑A : Int) = (↑A : Int)) ∧ ((↑B : Int) = (↑B : Int)) ∧ (first = first) ∧ (false = false) ∧ ((0 : Nat) = (0 : Nat)) ∧ (List.length pl = List.length pl) ∧ ((↑c : Int) = (↑c : Int)) ∧ ((↑k : Int) + (1 : Int) = (↑(k + (1 : Nat)) : Int)) ∧ True) (by kernel_rfl)
    ⟨(in64 (by omega) (by omega)),
     (decide_eq_true (by first | omega | (simp; omega) | (simp; done))),
     (in64 (by omega) (by omega)),
     (by first | omega | rfl | (simp; done) | (simp; omega)),
     (by first | omega | rfl | (simp; done) | (simp; omega)),
     (pl_eq hp rfl rfl (by simp only [Int.ofNat_lt])),
     (in64 (by omega) (by omega)),
     rfl,
     (fun _ _ _ _ => rfl),
     rfl,
     rfl,
     rfl,
     rfl,
     rfl,
     rfl,
     rfl,
     (by first | omega | rfl | (simp; done) | (simp; omega)),
     trivial⟩
theorem p3_end (A B : Nat) (first : Bool) (pl : List Pl) (c : Nat) (hA : A < 100) (hB : B < 100) : Vc (vcC Try.prog false (ntOf Try.prog 3) (lpC Try.prog 3 2) (p3 A B first pl c (A + B)) [.b false] (.ext 4) [(0, 0)] (p3 A B first pl c (A + B))) :=
  vc_of (q := (inK IntKind.i64 ((↑A : Int) + (↑B : Int))) ∧ (decide ((↑(A + B) : Int) < (↑A : Int) + (↑B : Int)) = false) ∧ (List.length pl = List.length pl) ∧ (∀ (i : Nat),
  i < List.length pl →
    ∀ (j : Nat),
      j < (3 : Nat) →
        rowL plC pl i j =
          rowL plC pl i j) ∧ ((↑A : Int) = (↑A : Int)) ∧ ((↑B : Int) = (↑B : Int)) ∧ (first = first) ∧ (false = false) ∧ ((0 : Nat) = (0 : Nat)) ∧ (List.length pl = List.length pl) ∧ ((↑c : Int) = (↑c : Int)) ∧ ((↑(A + B) : Int) = (↑(A + B) : Int)) ∧ True) (by kernel_rfl)
    ⟨(in64 (by omega) (by omega)),
     (decide_eq_false (by first | omega | (simp; omega) | (simp; done))),
     rfl,
     (fun _ _ _ _ => rfl),
     rfl,
     rfl,
     rfl,
     rfl,
     rfl,
     rfl,
     rfl,
     rfl,
     trivial⟩
theorem p3_loop (A B : Nat) (first : Bool) (pl : List Pl) (c : Nat) (hA : A < 100) (hB : B < 100) (hc : c < 1000) (hp : ∀ i, i < A + B → c + i < pl.length ∧ pl.getD (c + i) default = ⟨false, i, decide (i < A) == first⟩) : Ok Try.prog (ntOf Try.prog 3) (.loop (lpC Try.prog 3 2)) (p3 A B first pl c 0).st (.ext 4) (p3 A B first pl c (A + B)).st :=
  Ok.loop (P := Try.prog) (nt := ntOf Try.prog 3) (c := lpC Try.prog 3 2) (F := fun k => p3 A B first pl c k) (m := A + B) (x := .ext 4) (J := p3 A B first pl c (A + B)) (fun k hk => Ok.vc (p3_step A B first pl c k hA hB hk hc (hp k hk).1 (hp k hk).2)) (Ok.vc (p3_end A B first pl c hA hB)) (by simp)
theorem rgV_eq (g : Int) : ∀ k, k < 4 → rg (regV g 0) (regV g 1) (regV g 2) (regV g 3) k = regV g k := fun k hk => match k, hk with | 0, _ => rfl | 1, _ => rfl | 2, _ => rfl | 3, _ => rfl
theorem plP_len (g : Int) (first : Bool) (A B : Nat) : (places (rg (regV g 0) (regV g 1) (regV g 2) (regV g 3)) (msP first A B)).length = (regL (regV g) 4).length + A + B := by
  have e : regL (rg (regV g 0) (regV g 1) (regV g 2) (regV g 3)) 4 = regL (regV g) 4 := regL_loc (rgV_eq g)
  unfold places
  rw [List.length_append, e, memL_length]
  simp [msP, sumN]; omega
theorem bneF {x y : Int} (h : x = y) : (x != y) = false := by rw [h]; simp
theorem lenP (g : Int) (first : Bool) (A B : Nat) : ((places (rg (regV g 0) (regV g 1) (regV g 2) (regV g 3)) (msP first A B)).length : Int) = ((regL (regV g) 4).length : Int) + (A : Int) + (B : Int) := by
  rw [plP_len]; omega
theorem plP_reg (g : Int) (first : Bool) (A B k : Nat) (hk : k < 4) (hz : ¬ regV g k = 0) : (places (rg (regV g 0) (regV g 1) (regV g 2) (regV g 3)) (msP first A B)).getD (regL (regV g) k).length default = ⟨true, k, regV g k == 2⟩ ∧ (regL (regV g) k).length < (places (rg (regV g 0) (regV g 1) (regV g 2) (regV g 3)) (msP first A B)).length := by
  have e : regL (rg (regV g 0) (regV g 1) (regV g 2) (regV g 3)) 4 = regL (regV g) 4 := regL_loc (rgV_eq g)
  obtain ⟨h1, h2⟩ := regL_pre (regV g) k 4 hk hz
  refine ⟨?_, by rw [plP_len]; omega⟩
  unfold places
  rw [e, ← h1]
  simp only [List.getD_eq_getElem?_getD]
  rw [List.getElem?_append_left h2]
theorem plP_cel (g : Int) (first : Bool) (A B i : Nat) (h : i < A + B) : (regL (regV g) 4).length + i < (places (rg (regV g 0) (regV g 1) (regV g 2) (regV g 3)) (msP first A B)).length ∧ (places (rg (regV g 0) (regV g 1) (regV g 2) (regV g 3)) (msP first A B)).getD ((regL (regV g) 4).length + i) default = ⟨false, i, decide (i < A) == first⟩ := by
  refine ⟨by rw [plP_len]; omega, ?_⟩
  have e : regL (rg (regV g 0) (regV g 1) (regV g 2) (regV g 3)) 4 = regL (regV g) 4 := regL_loc (rgV_eq g)
  rw [← e]
  exact places_cell _ first A B i h
theorem apl_vc (g a b : Int) (first : Bool) (A B : Nat) (hA : bits .and .i64 a 7 + 1 = (A : Int)) (hB : bits .and .i64 b 7 + 1 = (B : Int)) (hA8 : A ≤ 8) (hB8 : B ≤ 8) : Vc (vcFn Try.prog false 3 [.int .i64 g, .int .i64 a, .int .i64 b, .bool first] [.lp [(0, 1), (1, 2)] (p1 g 0 0 0 0 (msP first A B) A B first 0 0) (.ext 0) (p1 g (regV g 0) (regV g 1) (regV g 2) (regV g 3) (msP first A B) A B first 4 (regL (regV g) 4).length), .cl [.agg (progL 4 (regV g 0) (regV g 1) (regV g 2) (regV g 3) (memR (msP first A B)))] (.own 0 0 3 0 (places (rg (regV g 0) (regV g 1) (regV g 2) (regV g 3)) (msP first A B)).length) [plB (places (rg (regV g 0) (regV g 1) (regV g 2) (regV g 3)) (msP first A B))], .b false, .b false, .cl [.agg (progL 4 (regV g 0) (regV g 1) (regV g 2) (regV g 3) (memR (msP first A B)))] (.int .i64 (sumN (msP first A B))) [], .b false, .b false, .b false, .b false, .b false, .b false, .lp [(0, 0), (2, 2)] (p2 (regV g 0) (regV g 1) (regV g 2) (regV g 3) A B first (places (rg (regV g 0) (regV g 1) (regV g 2) (regV g 3)) (msP first A B)) 0 0) (.ext 2) (p2 (regV g 0) (regV g 1) (regV g 2) (regV g 3) A B first (places (rg (regV g 0) (regV g 1) (regV g 2) (regV g 3)) (msP first A B)) (regL (regV g) 4).length 4), .lp [(0, 2)] (p3 A B first (places (rg (regV g 0) (regV g 1) (regV g 2) (regV g 3)) (msP first A B)) (regL (regV g) 4).length 0) (.ext 4) (p3 A B first (places (rg (regV g 0) (regV g 1) (regV g 2) (regV g 3)) (msP first A B)) (regL (regV g) 4).length (A + B)), .cl [] (.bool true) []] [] (.bool true) []) :=
  vc_of (q := (inK IntKind.i64 (Go.bits Go.BinOp.and IntKind.i64 a (7 : Int) + (1 : Int))) ∧ (inK IntKind.i64 (Go.bits Go.BinOp.and IntKind.i64 b (7 : Int) + (1 : Int))) ∧ ((4 : Int) = (4 : Int)) ∧ ((0 : Int) = (0 : Int)) ∧ ((0 : Int) = (0 : Int)) ∧ ((0 : Int) = (0 : Int)) ∧ ((0 : Int) = (0 : Int)) ∧ ((0 : Nat) = (0 : Nat)) ∧ ((2 : Nat) = (2 : Nat)) ∧ ((2 : Nat) = (2 : Nat)) ∧ (∀ (i : Nat),
  i < (2 : Nat) →
    ∀ (j : Nat),
      j < (3 : Nat) →
        List.getD
            [AV.str { data := { toList := [(97 : UInt8)] } },
              AV.bool first,
              AV.int IntKind.i64
                (Go.bits Go.BinOp.and IntKind.i64 a (7 : Int) + (1 : Int)),
              AV.str { data := { toList := [(98 : UInt8)] } },
              AV.bool !first,
              AV.int IntKind.i64
                (Go.bits Go.BinOp.and IntKind.i64 b (7 : Int) + (1 : Int))]
            (i * (3 : Nat) + j) AV.junk =
          rowL mmC
            [{ nm := { data := { toList := [(97 : UInt8)] } }, sec := first, n := A },
              { nm := { data := { toList := [(98 : UInt8)] } }, sec := !first, n := B }]
            i j) ∧ (g = g) ∧ (Go.bits Go.BinOp.and IntKind.i64 a (7 : Int) + (1 : Int) = (↑A : Int)) ∧ (Go.bits Go.BinOp.and IntKind.i64 b (7 : Int) + (1 : Int) = (↑B : Int)) ∧ (first = first) ∧ (false = false) ∧ ((0 : Int) = (↑(0 : Nat) : Int)) ∧ ((0 : Int) = (↑(0 : Nat) : Int)) ∧ (Ok Try.prog (ntOf Try.prog 3) (.loop (lpC Try.prog 3 0)) (p1 g 0 0 0 0 (msP first A B) A B first 0 0).st (.ext 0) (p1 g (regV g 0) (regV g 1) (regV g 2) (regV g 3) (msP first A B) A B first 4 (regL (regV g) 4).length).st) ∧ ((4 : Int) = (4 : Int)) ∧ (regV g (0 : Nat) = regV g (0 : Nat)) ∧ (regV g (1 : Nat) = regV g (1 : Nat)) ∧ (regV g (2 : Nat) = regV g (2 : Nat)) ∧ (regV g (3 : Nat) = regV g (3 : Nat)) ∧ ((2 : Nat) = (2 : Nat)) ∧ (∀ (i : Nat),
  i < (2 : Nat) →
    ∀ (j : Nat),
      j < (3 : Nat) →
        rowL mmC
            [{ nm := { data := { toList := [(97 : UInt8)] } }, sec := first, n := A },
              { nm := { data := { toList := [(98 : UInt8)] } }, sec := !first, n := B }]
            (i + (0 : Nat)) j =
          rowL mmC
            [{ nm := { data := { toList := [(97 : UInt8)] } }, sec := first, n := A },
              { nm := { data := { toList := [(98 : UInt8)] } }, sec := !first, n := B }]
            i j) ∧ (PureC Try.prog 7 [.agg (progL 4 (regV g 0) (regV g 1) (regV g 2) (regV g 3) (memR (msP first A B)))] (.own 0 0 3 0 (places (rg (regV g 0) (regV g 1) (regV g 2) (regV g 3)) (msP first A B)).length) [plB (places (rg (regV g 0) (regV g 1) (regV g 2) (regV g 3)) (msP first A B))]) ∧ (inK IntKind.i64
  ((↑(List.length (regL (regV g) (4 : Nat))) : Int) +
    (↑A : Int))) ∧ (inK IntKind.i64
  ((↑(List.length (regL (regV g) (4 : Nat))) : Int) +
      (↑A : Int) +
    (↑B : Int))) ∧ (((↑(List.length
          (places
            (rg (regV g (0 : Nat))
              (regV g (1 : Nat)) (regV g (2 : Nat))
              (regV g (3 : Nat)))
            [{ nm := { data := { toList := [(97 : UInt8)] } }, sec := first, n := A },
              { nm := { data := { toList := [(98 : UInt8)] } }, sec := !first, n := B }])) :
      Int) !=
    (↑(List.length (regL (regV g) (4 : Nat))) : Int) +
        (↑A : Int) +
      (↑B : Int)) =
  false) ∧ (((↑(List.length
          (places
            (rg (regV g (0 : Nat))
              (regV g (1 : Nat)) (regV g (2 : Nat))
              (regV g (3 : Nat)))
            [{ nm := { data := { toList := [(97 : UInt8)] } }, sec := first, n := A },
              { nm := { data := { toList := [(98 : UInt8)] } }, sec := !first, n := B }])) :
      Int) !=
    (↑(List.length (regL (regV g) (4 : Nat))) : Int) +
        (↑A : Int) +
      (↑B : Int)) =
  false) ∧ ((4 : Int) = (4 : Int)) ∧ (regV g (0 : Nat) = regV g (0 : Nat)) ∧ (regV g (1 : Nat) = regV g (1 : Nat)) ∧ (regV g (2 : Nat) = regV g (2 : Nat)) ∧ (regV g (3 : Nat) = regV g (3 : Nat)) ∧ ((2 : Nat) = (2 : Nat)) ∧ (∀ (i : Nat),
  i < (2 : Nat) →
    ∀ (j : Nat),
      j < (3 : Nat) →
        rowL mmC
            [{ nm := { data := { toList := [(97 : UInt8)] } }, sec := first, n := A },
              { nm := { data := { toList := [(98 : UInt8)] } }, sec := !first, n := B }]
            (i + (0 : Nat)) j =
          rowL mmC
            [{ nm := { data := { toList := [(97 : UInt8)] } }, sec := first, n := A },
              { nm := { data := { toList := [(98 : UInt8)] } }, sec := !first, n := B }]
            i j) ∧ (PureC Try.prog 8 [.agg (progL 4 (regV g 0) (regV g 1) (regV g 2) (regV g 3) (memR (msP first A B)))] (.int .i64 (sumN (msP first A B))) []) ∧ (((↑(List.length
          (places
            (rg (regV g (0 : Nat))
              (regV g (1 : Nat)) (regV g (2 : Nat))
              (regV g (3 : Nat)))
            [{ nm := { data := { toList := [(97 : UInt8)] } }, sec := first, n := A },
              { nm := { data := { toList := [(98 : UInt8)] } }, sec := !first, n := B }])) :
      Int) !=
    (↑(List.length (regL (regV g) (4 : Nat))) : Int) +
        (↑A : Int) +
      (↑B : Int)) =
  false) ∧ (((↑(List.length
          (places
            (rg (regV g (0 : Nat))
              (regV g (1 : Nat)) (regV g (2 : Nat))
              (regV g (3 : Nat)))
            [{ nm := { data := { toList := [(97 : UInt8)] } }, sec := first, n := A },
              { nm := { data := { toList := [(98 : UInt8)] } }, sec := !first, n := B }])) :
      Int) !=
    (↑(List.length (regL (regV g) (4 : Nat))) : Int) +
        (↑A : Int) +
      (↑B : Int)) =
  false) ∧ (((↑(List.length
          (places
            (rg (regV g (0 : Nat))
              (regV g (1 : Nat)) (regV g (2 : Nat))
              (regV g (3 : Nat)))
            [{ nm := { data := { toList := [(97 : UInt8)] } }, sec := first, n := A },
              { nm := { data := { toList := [(98 : UInt8)] } }, sec := !first, n := B }])) :
      Int) !=
    (↑(List.length (regL (regV g) (4 : Nat))) : Int) +
        (↑A : Int) +
      (↑B : Int)) =
  false) ∧ (inK IntKind.i64 ((↑A : Int) + (↑B : Int))) ∧ (((↑(List.length
          (places
            (rg (regV g (0 : Nat))
              (regV g (1 : Nat)) (regV g (2 : Nat))
              (regV g (3 : Nat)))
            [{ nm := { data := { toList := [(97 : UInt8)] } }, sec := first, n := A },
              { nm := { data := { toList := [(98 : UInt8)] } }, sec := !first, n := B }])) :
      Int) !=
    (↑(List.length (regL (regV g) (4 : Nat))) : Int) +
        (↑A : Int) +
      (↑B : Int)) =
  false) ∧ (((↑(List.length
          (places
            (rg (regV g (0 : Nat))
              (regV g (1 : Nat)) (regV g (2 : Nat))
              (regV g (3 : Nat)))
            [{ nm := { data := { toList := [(97 : UInt8)] } }, sec := first, n := A },
              { nm := { data := { toList := [(98 : UInt8)] } }, sec := !first, n := B }])) :
      Int) !=
    (↑(List.length (regL (regV g) (4 : Nat))) : Int) +
        (↑A : Int) +
      (↑B : Int)) =
  false) ∧ (((↑(sumN
          [{ nm := { data := { toList := [(97 : UInt8)] } }, sec := first, n := A },
            { nm := { data := { toList := [(98 : UInt8)] } }, sec := !first, n := B }]) :
      Int) !=
    (↑A : Int) + (↑B : Int)) =
  false) ∧ ((4 : Int) = (4 : Int)) ∧ (regV g (0 : Nat) = regV g (0 : Nat)) ∧ (regV g (1 : Nat) = regV g (1 : Nat)) ∧ (regV g (2 : Nat) = regV g (2 : Nat)) ∧ (regV g (3 : Nat) = regV g (3 : Nat)) ∧ (List.length
    (places
      (rg (regV g (0 : Nat))
        (regV g (1 : Nat)) (regV g (2 : Nat))
        (regV g (3 : Nat)))
      [{ nm := { data := { toList := [(97 : UInt8)] } }, sec := first, n := A },
        { nm := { data := { toList := [(98 : UInt8)] } }, sec := !first, n := B }]) =
  List.length
    (places
      (rg (regV g (0 : Nat))
        (regV g (1 : Nat)) (regV g (2 : Nat))
        (regV g (3 : Nat)))
      [{ nm := { data := { toList := [(97 : UInt8)] } }, sec := first, n := A },
        { nm := { data := { toList := [(98 : UInt8)] } }, sec := !first, n := B }])) ∧ (∀ (i : Nat),
  i <
      List.length
        (places
          (rg (regV g (0 : Nat))
            (regV g (1 : Nat)) (regV g (2 : Nat))
            (regV g (3 : Nat)))
          [{ nm := { data := { toList := [(97 : UInt8)] } }, sec := first, n := A },
            { nm := { data := { toList := [(98 : UInt8)] } }, sec := !first, n := B }]) →
    ∀ (j : Nat),
      j < (3 : Nat) →
        rowL plC
            (places
              (rg (regV g (0 : Nat))
                (regV g (1 : Nat)) (regV g (2 : Nat))
                (regV g (3 : Nat)))
              [{ nm := { data := { toList := [(97 : UInt8)] } }, sec := first, n := A },
                { nm := { data := { toList := [(98 : UInt8)] } }, sec := !first, n := B }])
            i j =
          rowL plC
            (places
              (rg (regV g (0 : Nat))
                (regV g (1 : Nat)) (regV g (2 : Nat))
                (regV g (3 : Nat)))
              [{ nm := { data := { toList := [(97 : UInt8)] } }, sec := first, n := A },
                { nm := { data := { toList := [(98 : UInt8)] } }, sec := !first, n := B }])
            i j) ∧ ((↑A : Int) = (↑A : Int)) ∧ ((↑B : Int) = (↑B : Int)) ∧ (first = first) ∧ (false = false) ∧ ((0 : Nat) = (0 : Nat)) ∧ (List.length
    (places
      (rg (regV g (0 : Nat))
        (regV g (1 : Nat)) (regV g (2 : Nat))
        (regV g (3 : Nat)))
      [{ nm := { data := { toList := [(97 : UInt8)] } }, sec := first, n := A },
        { nm := { data := { toList := [(98 : UInt8)] } }, sec := !first, n := B }]) =
  List.length
    (places
      (rg (regV g (0 : Nat))
        (regV g (1 : Nat)) (regV g (2 : Nat))
        (regV g (3 : Nat)))
      [{ nm := { data := { toList := [(97 : UInt8)] } }, sec := first, n := A },
        { nm := { data := { toList := [(98 : UInt8)] } }, sec := !first, n := B }])) ∧ ((0 : Int) = (↑(0 : Nat) : Int)) ∧ ((0 : Int) = (↑(0 : Nat) : Int)) ∧ (Ok Try.prog (ntOf Try.prog 3) (.loop (lpC Try.prog 3 1)) (p2 (regV g 0) (regV g 1) (regV g 2) (regV g 3) A B first (places (rg (regV g 0) (regV g 1) (regV g 2) (regV g 3)) (msP first A B)) 0 0).st (.ext 2) (p2 (regV g 0) (regV g 1) (regV g 2) (regV g 3) A B first (places (rg (regV g 0) (regV g 1) (regV g 2) (regV g 3)) (msP first A B)) (regL (regV g) 4).length 4).st) ∧ (List.length
    (places
      (rg (regV g (0 : Nat))
        (regV g (1 : Nat)) (regV g (2 : Nat))
        (regV g (3 : Nat)))
      [{ nm := { data := { toList := [(97 : UInt8)] } }, sec := first, n := A },
        { nm := { data := { toList := [(98 : UInt8)] } }, sec := !first, n := B }]) =
  List.length
    (places
      (rg (regV g (0 : Nat))
        (regV g (1 : Nat)) (regV g (2 : Nat))
        (regV g (3 : Nat)))
      [{ nm := { data := { toList := [(97 : UInt8)] } }, sec := first, n := A },
        { nm := { data := { toList := [(98 : UInt8)] } }, sec := !first, n := B }])) ∧ (∀ (i : Nat),
  i <
      List.length
        (places
          (rg (regV g (0 : Nat))
            (regV g (1 : Nat)) (regV g (2 : Nat))
            (regV g (3 : Nat)))
          [{ nm := { data := { toList := [(97 : UInt8)] } }, sec := first, n := A },
            { nm := { data := { toList := [(98 : UInt8)] } }, sec := !first, n := B }]) →
    ∀ (j : Nat),
      j < (3 : Nat) →
        rowL plC
            (places
              (rg (regV g (0 : Nat))
                (regV g (1 : Nat)) (regV g (2 : Nat))
                (regV g (3 : Nat)))
              [{ nm := { data := { toList := [(97 : UInt8)] } }, sec := first, n := A },
                { nm := { data := { toList := [(98 : UInt8)] } }, sec := !first, n := B }])
            i j =
          rowL plC
            (places
              (rg (regV g (0 : Nat))
                (regV g (1 : Nat)) (regV g (2 : Nat))
                (regV g (3 : Nat)))
              [{ nm := { data := { toList := [(97 : UInt8)] } }, sec := first, n := A },
                { nm := { data := { toList := [(98 : UInt8)] } }, sec := !first, n := B }])
            i j) ∧ ((↑A : Int) = (↑A : Int)) ∧ ((↑B : Int) = (↑B : Int)) ∧ (first = first) ∧ (false = false) ∧ ((0 : Nat) = (0 : Nat)) ∧ (List.length
    (places
      (rg (regV g (0 : Nat))
        (regV g (1 : Nat)) (regV g (2 : Nat))
        (regV g (3 : Nat)))
      [{ nm := { data := { toList := [(97 : UInt8)] } }, sec := first, n := A },
        { nm := { data := { toList := [(98 : UInt8)] } }, sec := !first, n := B }]) =
  List.length
    (places
      (rg (regV g (0 : Nat))
        (regV g (1 : Nat)) (regV g (2 : Nat))
        (regV g (3 : Nat)))
      [{ nm := { data := { toList := [(97 : UInt8)] } }, sec := first, n := A },
        { nm := { data := { toList := [(98 : UInt8)] } }, sec := !first, n := B }])) ∧ ((↑(List.length (regL (regV g) (4 : Nat))) : Int) =
  (↑(List.length (regL (regV g) (4 : Nat))) : Int)) ∧ ((0 : Int) = (↑(0 : Nat) : Int)) ∧ (Ok Try.prog (ntOf Try.prog 3) (.loop (lpC Try.prog 3 2)) (p3 A B first (places (rg (regV g 0) (regV g 1) (regV g 2) (regV g 3)) (msP first A B)) (regL (regV g) 4).length 0).st (.ext 4) (p3 A B first (places (rg (regV g 0) (regV g 1) (regV g 2) (regV g 3)) (msP first A B)) (regL (regV g) 4).length (A + B)).st) ∧ (PureC Try.prog 9 [] (.bool true) []) ∧ (true = true) ∧ True) (by kernel_rfl)
    ⟨(in64 (by omega) (by omega)),
     (in64 (by omega) (by omega)),
     rfl,
     rfl,
     rfl,
     rfl,
     rfl,
     rfl,
     rfl,
     rfl,
     (fun i hi j hj => match i, hi, j, hj with | 0, _, 0, _ => rfl | 0, _, 1, _ => rfl | 0, _, 2, _ => congrArg (AV.int .i64) hA | 1, _, 0, _ => rfl | 1, _, 1, _ => rfl | 1, _, 2, _ => congrArg (AV.int .i64) hB),
     rfl,
     (by first | omega | rfl | (simp; done) | (simp; omega)),
     (by first | omega | rfl | (simp; done) | (simp; omega)),
     rfl,
     rfl,
     (by first | omega | rfl | (simp; done) | (simp; omega)),
     (by first | omega | rfl | (simp; done) | (simp; omega)),
     p1_loop g (msP first A B) A B first,
     rfl,
     rfl,
     rfl,
     rfl,
     rfl,
     rfl,
     (fun i hi j hj => match i, hi, j, hj with | 0, _, 0, _ => rfl | 0, _, 1, _ => rfl | 0, _, 2, _ => rfl | 1, _, 0, _ => rfl | 1, _, 1, _ => rfl | 1, _, 2, _ => rfl),
     archPlaces 4 (regV g 0) (regV g 1) (regV g 2) (regV g 3) (msP first A B) (by simp [msP]) (by simp [msP, sumN]; omega),
     (in64 (by have := regL_le (regV g) 4; omega) (by have := regL_le (regV g) 4; omega)),
     (in64 (by have := regL_le (regV g) 4; omega) (by have := regL_le (regV g) 4; omega)),
     (bneF (lenP g first A B)),
     (bneF (lenP g first A B)),
     rfl,
     rfl,
     rfl,
     rfl,
     rfl,
     rfl,
     (fun i hi j hj => match i, hi, j, hj with | 0, _, 0, _ => rfl | 0, _, 1, _ => rfl | 0, _, 2, _ => rfl | 1, _, 0, _ => rfl | 1, _, 1, _ => rfl | 1, _, 2, _ => rfl),
     archCells 4 (regV g 0) (regV g 1) (regV g 2) (regV g 3) (msP first A B) (by simp [msP]) (by simp [msP, sumN]; omega),
     (bneF (lenP g first A B)),
     (bneF (lenP g first A B)),
     (bneF (lenP g first A B)),
     (in64 (by omega) (by omega)),
     (bneF (lenP g first A B)),
     (bneF (lenP g first A B)),
     (bneF (by show ((A + (B + 0) : Nat) : Int) = _; omega)),
     rfl,
     rfl,
     rfl,
     rfl,
     rfl,
     rfl,
     (fun _ _ _ _ => rfl),
     rfl,
     rfl,
     rfl,
     rfl,
     rfl,
     rfl,
     (by first | omega | rfl | (simp; done) | (simp; omega)),
     (by first | omega | rfl | (simp; done) | (simp; omega)),
     p2_loop (regV g) A B first (places (rg (regV g 0) (regV g 1) (regV g 2) (regV g 3)) (msP first A B)) (fun k hk hz => plP_reg g first A B k hk hz),
     rfl,
     (fun _ _ _ _ => rfl),
     rfl,
     rfl,
     rfl,
     rfl,
     rfl,
     rfl,
     rfl,
     (by first | omega | rfl | (simp; done) | (simp; omega)),
     p3_loop A B first (places (rg (regV g 0) (regV g 1) (regV g 2) (regV g 3)) (msP first A B)) _ (by omega) (by omega) (by have := regL_le (regV g) 4; omega) (fun i hi => plP_cel g first A B i hi),
     awakeC,
     rfl,
     trivial⟩
theorem archPlacesC (g a b : Int) (first : Bool) : PureC Try.prog 3 [.int .i64 g, .int .i64 a, .int .i64 b, .bool first] (.bool true) [] := by
  obtain ⟨A, hA, _, hA8⟩ := bits7 a
  obtain ⟨B, hB, _, hB8⟩ := bits7 b
  exact PureC.vc (apl_vc g a b first A B hA hB hA8 hB8)
theorem walk_ArchPlaces (g a b : Int) (first : Bool) (W : World) : Calls Try.prog 3 #[.int .i64 g, .int .i64 a, .int .i64 b, .bool first] W (RetB (.bool true) W) :=
  (archPlacesC g a b first).lawB (R := fun _ => False) (fun _ h => h.elim) rfl (fun j x v hx hv => match j, hx, hv with
    | 0, rfl, rfl => .int _ _
    | 1, rfl, rfl => .int _ _
    | 2, rfl, rfl => .int _ _
    | 3, rfl, rfl => .bool _)
end Go.Proofs.Ytdbnfdcjibgikaa.Px
