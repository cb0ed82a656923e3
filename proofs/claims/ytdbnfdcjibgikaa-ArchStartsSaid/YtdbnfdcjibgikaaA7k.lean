/- What a program of numbers is made of: its numbers, its labels, its instructions. -/
import Derived.Test.YtdbnfdcjibgikaaA7d
import Derived.Test.YtdbnfdcjibgikaaWdMask
set_option linter.unusedVariables false
set_option linter.unusedSimpArgs false
set_option maxRecDepth 100000
namespace Go.Proofs.Ytdbnfdcjibgikaa.Px
open Go.RowKit Go.Proofs.Ytdbnfdcjibgikaa.Rx
def kptr (l : List Int) : AV := .rptr 1 (fun q => [AV.row 1 l.length (rowI l)].getD q .junk) 0
/-- number i of a row, or i itself -/
def kN (l : List Int) (i : Nat) : Int := if i < l.length then l.getD i 0 else (i : Int)
def dgS : Nat → ByteArray
  | 0 => ⟨#[48]⟩
  | 1 => ⟨#[49]⟩
  | 2 => ⟨#[50]⟩
  | 3 => ⟨#[51]⟩
  | 4 => ⟨#[52]⟩
  | _ => ⟨#[53]⟩
theorem k_in (l : List Int) (i : Nat) (h : i < l.length) (hi : i < 1000) : Vc (vcFn Try.prog false 21 [.int .i64 i, kptr l] [.b true] [] (.int .i64 (l.getD i 0)) []) :=
  vc_of (q := (decide ((↑i : Int) < (↑(List.length l) : Int)) = true) ∧ ((0 : Int) ≤ (↑i : Int) ∧ (↑i : Int) < (↑(List.length l) : Int)) ∧ (List.getD l i (0 : Int) = List.getD l i (0 : Int)) ∧ True) (by kernel_rfl)
    ⟨(decide_eq_true (by first | omega | (simp; omega) | (simp; done))),
 (by first | omega | rfl),
 rfl, trivial⟩
theorem k_out (l : List Int) (i : Nat) (h : ¬ i < l.length) (hi : i < 1000) : Vc (vcFn Try.prog false 21 [.int .i64 i, kptr l] [.b false] [] (.int .i64 i) []) :=
  vc_of (q := (decide ((↑i : Int) < (↑(List.length l) : Int)) = false) ∧ ((↑i : Int) = (↑i : Int)) ∧ True) (by kernel_rfl)
    ⟨(decide_eq_false (by first | omega | (simp; omega) | (simp; done))),
 rfl, trivial⟩
theorem kC (l : List Int) (i : Nat) (hi : i < 1000) : PureC Try.prog 21 [.int .i64 i, kptr l] (.int .i64 (kN l i)) [] := by
  unfold kN
  by_cases h : i < l.length
  · rw [if_pos h]; exact PureC.vc (k_in l i h hi)
  · rw [if_neg h]; exact PureC.vc (k_out l i h hi)
theorem dg0  : Vc (vcFn Try.prog true 22 [.int .i64 0] [] [] (.str (dgS 0)) []) :=
  vc_of (q := (Go.strOfNums [IntKind.wrap IntKind.u8 ((48 : Int) + Int.tmod (0 : Int) (10 : Int))] ++ { data := { toList := [] } } = dgS (0 : Nat)) ∧ True) (by kernel_rfl)
    ⟨(by first | omega | rfl | (simp; done) | (simp; omega)), trivial⟩
theorem dg1  : Vc (vcFn Try.prog true 22 [.int .i64 1] [] [] (.str (dgS 1)) []) :=
  vc_of (q := (Go.strOfNums [IntKind.wrap IntKind.u8 ((48 : Int) + Int.tmod (1 : Int) (10 : Int))] ++ { data := { toList := [] } } = dgS (1 : Nat)) ∧ True) (by kernel_rfl)
    ⟨(by first | omega | rfl | (simp; done) | (simp; omega)), trivial⟩
theorem dg2  : Vc (vcFn Try.prog true 22 [.int .i64 2] [] [] (.str (dgS 2)) []) :=
  vc_of (q := (Go.strOfNums [IntKind.wrap IntKind.u8 ((48 : Int) + Int.tmod (2 : Int) (10 : Int))] ++ { data := { toList := [] } } = dgS (2 : Nat)) ∧ True) (by kernel_rfl)
    ⟨(by first | omega | rfl | (simp; done) | (simp; omega)), trivial⟩
theorem dg3  : Vc (vcFn Try.prog true 22 [.int .i64 3] [] [] (.str (dgS 3)) []) :=
  vc_of (q := (Go.strOfNums [IntKind.wrap IntKind.u8 ((48 : Int) + Int.tmod (3 : Int) (10 : Int))] ++ { data := { toList := [] } } = dgS (3 : Nat)) ∧ True) (by kernel_rfl)
    ⟨(by first | omega | rfl | (simp; done) | (simp; omega)), trivial⟩
theorem dg4  : Vc (vcFn Try.prog true 22 [.int .i64 4] [] [] (.str (dgS 4)) []) :=
  vc_of (q := (Go.strOfNums [IntKind.wrap IntKind.u8 ((48 : Int) + Int.tmod (4 : Int) (10 : Int))] ++ { data := { toList := [] } } = dgS (4 : Nat)) ∧ True) (by kernel_rfl)
    ⟨(by first | omega | rfl | (simp; done) | (simp; omega)), trivial⟩
theorem dg5  : Vc (vcFn Try.prog true 22 [.int .i64 5] [] [] (.str (dgS 5)) []) :=
  vc_of (q := (Go.strOfNums [IntKind.wrap IntKind.u8 ((48 : Int) + Int.tmod (5 : Int) (10 : Int))] ++ { data := { toList := [] } } = dgS (5 : Nat)) ∧ True) (by kernel_rfl)
    ⟨(by first | omega | rfl | (simp; done) | (simp; omega)), trivial⟩
theorem digC (i : Nat) (hi : i < 6) : PureC Try.prog 22 [.int .i64 i] (.str (dgS i)) [] := match i, hi with
  | 0, _ => PureC.vc dg0
  | 1, _ => PureC.vc dg1
  | 2, _ => PureC.vc dg2
  | 3, _ => PureC.vc dg3
  | 4, _ => PureC.vc dg4
  | 5, _ => PureC.vc dg5
theorem val_true (x : Int) (h : (bits .and .i64 x 4 == 0) = true) : Vc (vcFn Try.prog false 32 [.int .i64 x] [.b true] [] (.agg [.junk, .junk]) []) :=
  vc_of (q := ((Go.bits Go.BinOp.and IntKind.i64 x (4 : Int) == (0 : Int)) = true) ∧ True) (by kernel_rfl)
    ⟨h, trivial⟩
theorem val_false (x : Int) (h : (bits .and .i64 x 4 == 0) = false) : Vc (vcFn Try.prog false 32 [.int .i64 x] [.b false] [] (.agg [.junk, .junk]) []) :=
  vc_of (q := ((Go.bits Go.BinOp.and IntKind.i64 x (4 : Int) == (0 : Int)) = false) ∧ True) (by kernel_rfl)
    ⟨h, trivial⟩
theorem valC (x : Int) : PureC Try.prog 32 [.int .i64 x] (.agg [.junk, .junk]) [] := by
  cases h : (bits .and .i64 x 4 == 0) with
  | true => exact PureC.vc (val_true x h)
  | false => exact PureC.vc (val_false x h)
theorem tm_bd (y m : Int) (hm : 0 < m) : 0 ≤ Int.tmod (bits .and .i64 y 255) m ∧ Int.tmod (bits .and .i64 y 255) m < m := by
  have h := Wd.bits_mask y 8 (by omega)
  have h2 : bits .and .i64 y 255 = y % 256 := h
  rw [h2, Int.tmod_eq_emod_of_nonneg (by omega)]
  exact ⟨Int.emod_nonneg _ (by omega), Int.emod_lt_of_pos _ hm⟩
theorem in_tm (y m : Int) (hm : 0 < m) (h1 : m ≤ 1000) : inK .i64 (Int.tmod (bits .and .i64 y 255) m + 1) := by
  have := tm_bd y m hm
  exact in64 (by omega) (by omega)
def jk (n : Nat) : List AV := List.replicate n .junk
def blkJ (e : TypeId) (n : Nat) : Blk := ⟨0, false, e, .box (jk n)⟩
def rpJ : AV := .rptr 2 (fun q => [AV.junk, AV.junk].getD q .junk) 0
def inI (x : Int) (n : Nat) : Sm := ⟨[(0, .int .i64 x), (1, .int .i64 n), (4, .bptr 0 0), (5, .bptr 1 0), (6, .bptr 2 0), (7, .bptr 3 0)], [(0, blkJ 25 9), (1, blkJ 25 9), (2, blkJ 23 2), (3, blkJ 23 2)], 4⟩
def inZ (x : Int) (n : Nat) : Sm := ⟨[(0, .int .i64 x), (1, .int .i64 n), (4, .bptr 0 0), (5, .bptr 1 0), (6, rpJ), (7, .bptr 3 0)], [(0, blkJ 25 9), (1, blkJ 25 9), (3, blkJ 23 2)], 4⟩
def inY (x : Int) (n : Nat) : Sm := ⟨[(0, .int .i64 x), (1, .int .i64 n), (4, .bptr 0 0), (5, .bptr 1 0), (6, rpJ), (7, rpJ)], [(0, blkJ 25 9), (1, blkJ 25 9)], 2⟩
def inJ : Sm := ⟨[(4, .bptr 0 0), (5, .bptr 1 0)], [(0, blkJ 25 9), (1, blkJ 25 9)], 2⟩
theorem in_z (x : Int) (n : Nat) : Vc (vcZ 6 (inI x n) [(0, 0), (1, 1), (3, 3)] (inZ x n)) :=
  vc_of (q := (x = x) ∧ ((↑n : Int) = (↑n : Int)) ∧ (∀ (q : Nat), q < (2 : Nat) → List.getD [AV.junk, AV.junk] q AV.junk = List.getD [AV.junk, AV.junk] q AV.junk) ∧ True) (by kernel_rfl)
    ⟨rfl,
 rfl,
 (fun _ _ => rfl), trivial⟩
theorem in_y (x : Int) (n : Nat) : Vc (vcZ 7 (inZ x n) [(0, 0), (1, 1)] (inY x n)) :=
  vc_of (q := (x = x) ∧ ((↑n : Int) = (↑n : Int)) ∧ (∀ (q : Nat), q < (2 : Nat) → List.getD [AV.junk, AV.junk] q AV.junk = List.getD [AV.junk, AV.junk] q AV.junk) ∧ (∀ (q : Nat), q < (2 : Nat) → List.getD [AV.junk, AV.junk] q AV.junk = List.getD [AV.junk, AV.junk] q AV.junk) ∧ True) (by kernel_rfl)
    ⟨rfl,
 rfl,
 (fun _ _ => rfl),
 (fun _ _ => rfl), trivial⟩
theorem in_r5 (x : Int) (n : Nat) (hn : n < 100) : Vc (vcC Try.prog false (ntOf Try.prog 23) (subC Try.prog 23 [1, 1, 1, 0, 1, 0, 1, 0]) (inY x n) [] .nrm [(0, 0), (1, 1)] inJ) :=
  vc_of (q := ((0 : Int) ≤ (16 : Int)) ∧ ((10 : Int) ≠ (0 : Int)) ∧ (inK IntKind.i64 (Int.tmod (Go.bits Go.BinOp.and IntKind.i64 (Int.fdiv x ((2 : Int) ^ (16 : Nat))) (255 : Int)) (10 : Int) + (1 : Int))) ∧ ((0 : Int) ≤ (14 : Int)) ∧ True) (by kernel_rfl)
    ⟨(by first | omega | rfl),
 (by omega),
 (in_tm _ _ (by omega) (by omega)),
 (by first | omega | rfl), trivial⟩
theorem in_R5 (x : Int) (n : Nat) (hn : n < 100) : Ok Try.prog (ntOf Try.prog 23) (subC Try.prog 23 [1, 1, 1, 0, 1, 0, 1, 0]) (inI x n).st .nrm inJ.st := Ok.freeze (in_z x n) (Ok.freeze (in_y x n) (Ok.vc (in_r5 x n hn)))
theorem in_r9 (x : Int) (n : Nat) (hn : n < 100) : Vc (vcC Try.prog false (ntOf Try.prog 23) (subC Try.prog 23 [1, 1, 1, 0, 1, 0, 1, 1, 1, 0]) (inY x n) [] .nrm [(0, 0), (1, 1)] inJ) :=
  vc_of (q := ((0 : Int) ≤ (14 : Int)) ∧ True) (by kernel_rfl)
    ⟨(by first | omega | rfl), trivial⟩
theorem in_R9 (x : Int) (n : Nat) (hn : n < 100) : Ok Try.prog (ntOf Try.prog 23) (subC Try.prog 23 [1, 1, 1, 0, 1, 0, 1, 1, 1, 0]) (inI x n).st .nrm inJ.st := Ok.freeze (in_z x n) (Ok.freeze (in_y x n) (Ok.vc (in_r9 x n hn)))
theorem in_r11_0 (x : Int) (n : Nat) (hn : n < 100) (hq : bits .and .i64 (Int.fdiv x (2 ^ 16)) 3 = ((0 : Nat) : Int)) : Vc (vcC Try.prog false (ntOf Try.prog 23) (subC Try.prog 23 [1, 1, 1, 0, 1, 0, 1, 1, 1, 1, 1, 0]) (inY x n) [.iy 0] .nrm [(0, 0), (1, 1)] inJ) :=
  vc_of (q := ((0 : Int) ≤ (16 : Int)) ∧ (Go.bits Go.BinOp.and IntKind.i64 (Int.fdiv x ((2 : Int) ^ (16 : Nat))) (3 : Int) = (↑(0 : Nat) : Int)) ∧ ((0 : Int) ≤ (↑(0 : Nat) : Int) ∧ (↑(0 : Nat) : Int) < (↑(4 : Nat) : Int)) ∧ ((0 : Nat) < (4 : Nat)) ∧ ((0 : Int) ≤ (18 : Int)) ∧ (inK IntKind.i64 ((↑n : Int) + (1 : Int))) ∧ ((↑n : Int) + (1 : Int) ≠ (0 : Int)) ∧ True) (by kernel_rfl)
    ⟨(by first | omega | rfl),
 (by first | omega | rfl | (simp; done) | (simp; omega)),
 (by first | omega | rfl),
 (by first | omega | rfl),
 (by first | omega | rfl),
 (in64 (by omega) (by omega)),
 (by omega), trivial⟩
theorem in_r11_1 (x : Int) (n : Nat) (hn : n < 100) (hq : bits .and .i64 (Int.fdiv x (2 ^ 16)) 3 = ((1 : Nat) : Int)) : Vc (vcC Try.prog false (ntOf Try.prog 23) (subC Try.prog 23 [1, 1, 1, 0, 1, 0, 1, 1, 1, 1, 1, 0]) (inY x n) [.iy 1] .nrm [(0, 0), (1, 1)] inJ) :=
  vc_of (q := ((0 : Int) ≤ (16 : Int)) ∧ (Go.bits Go.BinOp.and IntKind.i64 (Int.fdiv x ((2 : Int) ^ (16 : Nat))) (3 : Int) = (↑(1 : Nat) : Int)) ∧ ((0 : Int) ≤ (↑(1 : Nat) : Int) ∧ (↑(1 : Nat) : Int) < (↑(4 : Nat) : Int)) ∧ ((1 : Nat) < (4 : Nat)) ∧ ((0 : Int) ≤ (18 : Int)) ∧ (inK IntKind.i64 ((↑n : Int) + (1 : Int))) ∧ ((↑n : Int) + (1 : Int) ≠ (0 : Int)) ∧ True) (by kernel_rfl)
    ⟨(by first | omega | rfl),
 (by first | omega | rfl | (simp; done) | (simp; omega)),
 (by first | omega | rfl),
 (by first | omega | rfl),
 (by first | omega | rfl),
 (in64 (by omega) (by omega)),
 (by omega), trivial⟩
theorem in_r11_2 (x : Int) (n : Nat) (hn : n < 100) (hq : bits .and .i64 (Int.fdiv x (2 ^ 16)) 3 = ((2 : Nat) : Int)) : Vc (vcC Try.prog false (ntOf Try.prog 23) (subC Try.prog 23 [1, 1, 1, 0, 1, 0, 1, 1, 1, 1, 1, 0]) (inY x n) [.iy 2] .nrm [(0, 0), (1, 1)] inJ) :=
  vc_of (q := ((0 : Int) ≤ (16 : Int)) ∧ (Go.bits Go.BinOp.and IntKind.i64 (Int.fdiv x ((2 : Int) ^ (16 : Nat))) (3 : Int) = (↑(2 : Nat) : Int)) ∧ ((0 : Int) ≤ (↑(2 : Nat) : Int) ∧ (↑(2 : Nat) : Int) < (↑(4 : Nat) : Int)) ∧ ((2 : Nat) < (4 : Nat)) ∧ ((0 : Int) ≤ (18 : Int)) ∧ (inK IntKind.i64 ((↑n : Int) + (1 : Int))) ∧ ((↑n : Int) + (1 : Int) ≠ (0 : Int)) ∧ True) (by kernel_rfl)
    ⟨(by first | omega | rfl),
 (by first | omega | rfl | (simp; done) | (simp; omega)),
 (by first | omega | rfl),
 (by first | omega | rfl),
 (by first | omega | rfl),
 (in64 (by omega) (by omega)),
 (by omega), trivial⟩
theorem in_r11_3 (x : Int) (n : Nat) (hn : n < 100) (hq : bits .and .i64 (Int.fdiv x (2 ^ 16)) 3 = ((3 : Nat) : Int)) : Vc (vcC Try.prog false (ntOf Try.prog 23) (subC Try.prog 23 [1, 1, 1, 0, 1, 0, 1, 1, 1, 1, 1, 0]) (inY x n) [.iy 3] .nrm [(0, 0), (1, 1)] inJ) :=
  vc_of (q := ((0 : Int) ≤ (16 : Int)) ∧ (Go.bits Go.BinOp.and IntKind.i64 (Int.fdiv x ((2 : Int) ^ (16 : Nat))) (3 : Int) = (↑(3 : Nat) : Int)) ∧ ((0 : Int) ≤ (↑(3 : Nat) : Int) ∧ (↑(3 : Nat) : Int) < (↑(4 : Nat) : Int)) ∧ ((3 : Nat) < (4 : Nat)) ∧ ((0 : Int) ≤ (18 : Int)) ∧ (inK IntKind.i64 ((↑n : Int) + (1 : Int))) ∧ ((↑n : Int) + (1 : Int) ≠ (0 : Int)) ∧ True) (by kernel_rfl)
    ⟨(by first | omega | rfl),
 (by first | omega | rfl | (simp; done) | (simp; omega)),
 (by first | omega | rfl),
 (by first | omega | rfl),
 (by first | omega | rfl),
 (in64 (by omega) (by omega)),
 (by omega), trivial⟩
theorem bits3 (y : Int) : ∃ q : Nat, q < 4 ∧ bits .and .i64 y 3 = (q : Int) := by
  have h := Wd.bits_mask y 2 (by omega)
  have h2 : bits .and .i64 y 3 = y % 4 := h
  exact ⟨(y % 4).toNat, by omega, by omega⟩
theorem in_R11 (x : Int) (n : Nat) (hn : n < 100) : Ok Try.prog (ntOf Try.prog 23) (subC Try.prog 23 [1, 1, 1, 0, 1, 0, 1, 1, 1, 1, 1, 0]) (inI x n).st .nrm inJ.st := by
  refine Ok.freeze (in_z x n) (Ok.freeze (in_y x n) ?_)
  obtain ⟨q, hq, e⟩ := bits3 (Int.fdiv x (2 ^ 16))
  match q, hq, e with
  | 0, _, e => exact Ok.vc (in_r11_0 x n hn e)
  | 1, _, e => exact Ok.vc (in_r11_1 x n hn e)
  | 2, _, e => exact Ok.vc (in_r11_2 x n hn e)
  | 3, _, e => exact Ok.vc (in_r11_3 x n hn e)
abbrev cA7k0 (x : Int) : Prop := (PureC Try.prog 32 [.int .i64 (Int.fdiv x (2 ^ 11))] (.agg [.junk, .junk]) [])
abbrev cA7k1 (x : Int) : Prop := (PureC Try.prog 32 [.int .i64 (Int.fdiv x (2 ^ 8))] (.agg [.junk, .junk]) [])
theorem ins0 (x : Int) (n : Nat) (hn : n < 100) (hq : Int.tmod (bits .and .i64 x 255) 18 = ((0 : Nat) : Int)) : Vc (vcFn Try.prog false 23 [.int .i64 x, .int .i64 n] [.iy 0, .cl [.int .i64 (Int.fdiv x (2 ^ 8))] (.agg [.junk, .junk]) [], .cl [.int .i64 (Int.fdiv x (2 ^ 11))] (.agg [.junk, .junk]) [], .sr [(0, 0), (1, 2), (2, 3), (3, 4)] (inI x n) .nrm inJ] [] (.agg [.junk, .junk, .junk, .junk, .junk, .junk, .junk, .junk, .junk]) []) :=
  vc_of (q := ((18 : Int) ≠ (0 : Int)) ∧ (Int.tmod (Go.bits Go.BinOp.and IntKind.i64 x (255 : Int)) (18 : Int) = (↑(0 : Nat) : Int)) ∧ ((0 : Int) ≤ (↑(0 : Nat) : Int) ∧ (↑(0 : Nat) : Int) < (↑(18 : Nat) : Int)) ∧ ((0 : Nat) < (18 : Nat)) ∧ ((0 : Int) ≤ (8 : Int)) ∧ (Int.fdiv x ((2 : Int) ^ (8 : Nat)) = Int.fdiv x ((2 : Int) ^ (8 : Nat))) ∧ cA7k1 x ∧ ((0 : Int) ≤ (11 : Int)) ∧ (Int.fdiv x ((2 : Int) ^ (11 : Nat)) = Int.fdiv x ((2 : Int) ^ (11 : Nat))) ∧ cA7k0 x ∧ (x = x) ∧ ((↑n : Int) = (↑n : Int)) ∧ (Ok Try.prog (ntOf Try.prog 23) (subC Try.prog 23 [1, 1, 1, 0, 1, 0, 1, 0]) (inI x n).st .nrm inJ.st) ∧ True) (by kernel_rfl)
    ⟨(by omega),
 (by first | omega | rfl),
 (by first | omega | rfl),
 (by first | omega | rfl),
 (by first | omega | rfl),
 rfl,
 valC _,
 (by first | omega | rfl),
 rfl,
 valC _,
 rfl,
 rfl,
 in_R5 x n hn, trivial⟩
theorem ins1 (x : Int) (n : Nat) (hn : n < 100) (hq : Int.tmod (bits .and .i64 x 255) 18 = ((1 : Nat) : Int)) : Vc (vcFn Try.prog false 23 [.int .i64 x, .int .i64 n] [.iy 1, .cl [.int .i64 (Int.fdiv x (2 ^ 8))] (.agg [.junk, .junk]) [], .cl [.int .i64 (Int.fdiv x (2 ^ 11))] (.agg [.junk, .junk]) [], .sr [(0, 0), (1, 2), (2, 3), (3, 4)] (inI x n) .nrm inJ] [] (.agg [.junk, .junk, .junk, .junk, .junk, .junk, .junk, .junk, .junk]) []) :=
  vc_of (q := ((18 : Int) ≠ (0 : Int)) ∧ (Int.tmod (Go.bits Go.BinOp.and IntKind.i64 x (255 : Int)) (18 : Int) = (↑(1 : Nat) : Int)) ∧ ((0 : Int) ≤ (↑(1 : Nat) : Int) ∧ (↑(1 : Nat) : Int) < (↑(18 : Nat) : Int)) ∧ ((1 : Nat) < (18 : Nat)) ∧ ((0 : Int) ≤ (8 : Int)) ∧ (Int.fdiv x ((2 : Int) ^ (8 : Nat)) = Int.fdiv x ((2 : Int) ^ (8 : Nat))) ∧ cA7k1 x ∧ ((0 : Int) ≤ (11 : Int)) ∧ (Int.fdiv x ((2 : Int) ^ (11 : Nat)) = Int.fdiv x ((2 : Int) ^ (11 : Nat))) ∧ cA7k0 x ∧ (x = x) ∧ ((↑n : Int) = (↑n : Int)) ∧ (Ok Try.prog (ntOf Try.prog 23) (subC Try.prog 23 [1, 1, 1, 0, 1, 0, 1, 0]) (inI x n).st .nrm inJ.st) ∧ True) (by kernel_rfl)
    ⟨(by omega),
 (by first | omega | rfl),
 (by first | omega | rfl),
 (by first | omega | rfl),
 (by first | omega | rfl),
 rfl,
 valC _,
 (by first | omega | rfl),
 rfl,
 valC _,
 rfl,
 rfl,
 in_R5 x n hn, trivial⟩
abbrev cA7k2 (x : Int) (n : Nat) : Prop := (Ok Try.prog (ntOf Try.prog 23) (subC Try.prog 23 [1, 1, 1, 0, 1, 0, 1, 1, 1, 0]) (inI x n).st .nrm inJ.st)
theorem ins2 (x : Int) (n : Nat) (hn : n < 100) (hq : Int.tmod (bits .and .i64 x 255) 18 = ((2 : Nat) : Int)) : Vc (vcFn Try.prog false 23 [.int .i64 x, .int .i64 n] [.iy 2, .cl [.int .i64 (Int.fdiv x (2 ^ 8))] (.agg [.junk, .junk]) [], .cl [.int .i64 (Int.fdiv x (2 ^ 11))] (.agg [.junk, .junk]) [], .sr [(0, 0), (1, 2), (2, 3), (3, 4)] (inI x n) .nrm inJ] [] (.agg [.junk, .junk, .junk, .junk, .junk, .junk, .junk, .junk, .junk]) []) :=
  vc_of (q := ((18 : Int) ≠ (0 : Int)) ∧ (Int.tmod (Go.bits Go.BinOp.and IntKind.i64 x (255 : Int)) (18 : Int) = (↑(2 : Nat) : Int)) ∧ ((0 : Int) ≤ (↑(2 : Nat) : Int) ∧ (↑(2 : Nat) : Int) < (↑(18 : Nat) : Int)) ∧ ((2 : Nat) < (18 : Nat)) ∧ ((0 : Int) ≤ (8 : Int)) ∧ (Int.fdiv x ((2 : Int) ^ (8 : Nat)) = Int.fdiv x ((2 : Int) ^ (8 : Nat))) ∧ cA7k1 x ∧ ((0 : Int) ≤ (11 : Int)) ∧ (Int.fdiv x ((2 : Int) ^ (11 : Nat)) = Int.fdiv x ((2 : Int) ^ (11 : Nat))) ∧ cA7k0 x ∧ (x = x) ∧ ((↑n : Int) = (↑n : Int)) ∧ cA7k2 x n ∧ True) (by kernel_rfl)
    ⟨(by omega),
 (by first | omega | rfl),
 (by first | omega | rfl),
 (by first | omega | rfl),
 (by first | omega | rfl),
 rfl,
 valC _,
 (by first | omega | rfl),
 rfl,
 valC _,
 rfl,
 rfl,
 in_R9 x n hn, trivial⟩
theorem ins3 (x : Int) (n : Nat) (hn : n < 100) (hq : Int.tmod (bits .and .i64 x 255) 18 = ((3 : Nat) : Int)) : Vc (vcFn Try.prog false 23 [.int .i64 x, .int .i64 n] [.iy 3, .cl [.int .i64 (Int.fdiv x (2 ^ 8))] (.agg [.junk, .junk]) [], .cl [.int .i64 (Int.fdiv x (2 ^ 11))] (.agg [.junk, .junk]) [], .sr [(0, 0), (1, 2), (2, 3), (3, 4)] (inI x n) .nrm inJ] [] (.agg [.junk, .junk, .junk, .junk, .junk, .junk, .junk, .junk, .junk]) []) :=
  vc_of (q := ((18 : Int) ≠ (0 : Int)) ∧ (Int.tmod (Go.bits Go.BinOp.and IntKind.i64 x (255 : Int)) (18 : Int) = (↑(3 : Nat) : Int)) ∧ ((0 : Int) ≤ (↑(3 : Nat) : Int) ∧ (↑(3 : Nat) : Int) < (↑(18 : Nat) : Int)) ∧ ((3 : Nat) < (18 : Nat)) ∧ ((0 : Int) ≤ (8 : Int)) ∧ (Int.fdiv x ((2 : Int) ^ (8 : Nat)) = Int.fdiv x ((2 : Int) ^ (8 : Nat))) ∧ cA7k1 x ∧ ((0 : Int) ≤ (11 : Int)) ∧ (Int.fdiv x ((2 : Int) ^ (11 : Nat)) = Int.fdiv x ((2 : Int) ^ (11 : Nat))) ∧ cA7k0 x ∧ (x = x) ∧ ((↑n : Int) = (↑n : Int)) ∧ cA7k2 x n ∧ True) (by kernel_rfl)
    ⟨(by omega),
 (by first | omega | rfl),
 (by first | omega | rfl),
 (by first | omega | rfl),
 (by first | omega | rfl),
 rfl,
 valC _,
 (by first | omega | rfl),
 rfl,
 valC _,
 rfl,
 rfl,
 in_R9 x n hn, trivial⟩
theorem ins4 (x : Int) (n : Nat) (hn : n < 100) (hq : Int.tmod (bits .and .i64 x 255) 18 = ((4 : Nat) : Int)) : Vc (vcFn Try.prog false 23 [.int .i64 x, .int .i64 n] [.iy 4, .cl [.int .i64 (Int.fdiv x (2 ^ 8))] (.agg [.junk, .junk]) [], .cl [.int .i64 (Int.fdiv x (2 ^ 11))] (.agg [.junk, .junk]) [], .sr [(0, 0), (1, 2), (2, 3), (3, 4)] (inI x n) .nrm inJ] [] (.agg [.junk, .junk, .junk, .junk, .junk, .junk, .junk, .junk, .junk]) []) :=
  vc_of (q := ((18 : Int) ≠ (0 : Int)) ∧ (Int.tmod (Go.bits Go.BinOp.and IntKind.i64 x (255 : Int)) (18 : Int) = (↑(4 : Nat) : Int)) ∧ ((0 : Int) ≤ (↑(4 : Nat) : Int) ∧ (↑(4 : Nat) : Int) < (↑(18 : Nat) : Int)) ∧ ((4 : Nat) < (18 : Nat)) ∧ ((0 : Int) ≤ (8 : Int)) ∧ (Int.fdiv x ((2 : Int) ^ (8 : Nat)) = Int.fdiv x ((2 : Int) ^ (8 : Nat))) ∧ cA7k1 x ∧ ((0 : Int) ≤ (11 : Int)) ∧ (Int.fdiv x ((2 : Int) ^ (11 : Nat)) = Int.fdiv x ((2 : Int) ^ (11 : Nat))) ∧ cA7k0 x ∧ (x = x) ∧ ((↑n : Int) = (↑n : Int)) ∧ cA7k2 x n ∧ True) (by kernel_rfl)
    ⟨(by omega),
 (by first | omega | rfl),
 (by first | omega | rfl),
 (by first | omega | rfl),
 (by first | omega | rfl),
 rfl,
 valC _,
 (by first | omega | rfl),
 rfl,
 valC _,
 rfl,
 rfl,
 in_R9 x n hn, trivial⟩
theorem ins5 (x : Int) (n : Nat) (hn : n < 100) (hq : Int.tmod (bits .and .i64 x 255) 18 = ((5 : Nat) : Int)) : Vc (vcFn Try.prog false 23 [.int .i64 x, .int .i64 n] [.iy 5, .cl [.int .i64 (Int.fdiv x (2 ^ 8))] (.agg [.junk, .junk]) [], .cl [.int .i64 (Int.fdiv x (2 ^ 11))] (.agg [.junk, .junk]) [], .sr [(0, 0), (1, 2), (2, 3), (3, 4)] (inI x n) .nrm inJ] [] (.agg [.junk, .junk, .junk, .junk, .junk, .junk, .junk, .junk, .junk]) []) :=
  vc_of (q := ((18 : Int) ≠ (0 : Int)) ∧ (Int.tmod (Go.bits Go.BinOp.and IntKind.i64 x (255 : Int)) (18 : Int) = (↑(5 : Nat) : Int)) ∧ ((0 : Int) ≤ (↑(5 : Nat) : Int) ∧ (↑(5 : Nat) : Int) < (↑(18 : Nat) : Int)) ∧ ((5 : Nat) < (18 : Nat)) ∧ ((0 : Int) ≤ (8 : Int)) ∧ (Int.fdiv x ((2 : Int) ^ (8 : Nat)) = Int.fdiv x ((2 : Int) ^ (8 : Nat))) ∧ cA7k1 x ∧ ((0 : Int) ≤ (11 : Int)) ∧ (Int.fdiv x ((2 : Int) ^ (11 : Nat)) = Int.fdiv x ((2 : Int) ^ (11 : Nat))) ∧ cA7k0 x ∧ (x = x) ∧ ((↑n : Int) = (↑n : Int)) ∧ cA7k2 x n ∧ True) (by kernel_rfl)
    ⟨(by omega),
 (by first | omega | rfl),
 (by first | omega | rfl),
 (by first | omega | rfl),
 (by first | omega | rfl),
 rfl,
 valC _,
 (by first | omega | rfl),
 rfl,
 valC _,
 rfl,
 rfl,
 in_R9 x n hn, trivial⟩
theorem ins6 (x : Int) (n : Nat) (hn : n < 100) (hq : Int.tmod (bits .and .i64 x 255) 18 = ((6 : Nat) : Int)) : Vc (vcFn Try.prog false 23 [.int .i64 x, .int .i64 n] [.iy 6, .cl [.int .i64 (Int.fdiv x (2 ^ 8))] (.agg [.junk, .junk]) [], .cl [.int .i64 (Int.fdiv x (2 ^ 11))] (.agg [.junk, .junk]) [], .sr [(0, 0), (1, 2), (2, 3), (3, 4)] (inI x n) .nrm inJ] [] (.agg [.junk, .junk, .junk, .junk, .junk, .junk, .junk, .junk, .junk]) []) :=
  vc_of (q := ((18 : Int) ≠ (0 : Int)) ∧ (Int.tmod (Go.bits Go.BinOp.and IntKind.i64 x (255 : Int)) (18 : Int) = (↑(6 : Nat) : Int)) ∧ ((0 : Int) ≤ (↑(6 : Nat) : Int) ∧ (↑(6 : Nat) : Int) < (↑(18 : Nat) : Int)) ∧ ((6 : Nat) < (18 : Nat)) ∧ ((0 : Int) ≤ (8 : Int)) ∧ (Int.fdiv x ((2 : Int) ^ (8 : Nat)) = Int.fdiv x ((2 : Int) ^ (8 : Nat))) ∧ cA7k1 x ∧ ((0 : Int) ≤ (11 : Int)) ∧ (Int.fdiv x ((2 : Int) ^ (11 : Nat)) = Int.fdiv x ((2 : Int) ^ (11 : Nat))) ∧ cA7k0 x ∧ (x = x) ∧ ((↑n : Int) = (↑n : Int)) ∧ cA7k2 x n ∧ True) (by kernel_rfl)
    ⟨(by omega),
 (by first | omega | rfl),
 (by first | omega | rfl),
 (by first | omega | rfl),
 (by first | omega | rfl),
 rfl,
 valC _,
 (by first | omega | rfl),
 rfl,
 valC _,
 rfl,
 rfl,
 in_R9 x n hn, trivial⟩
theorem ins7 (x : Int) (n : Nat) (hn : n < 100) (hq : Int.tmod (bits .and .i64 x 255) 18 = ((7 : Nat) : Int)) : Vc (vcFn Try.prog false 23 [.int .i64 x, .int .i64 n] [.iy 7, .cl [.int .i64 (Int.fdiv x (2 ^ 8))] (.agg [.junk, .junk]) [], .cl [.int .i64 (Int.fdiv x (2 ^ 11))] (.agg [.junk, .junk]) [], .sr [(0, 0), (1, 2), (2, 3), (3, 4)] (inI x n) .nrm inJ] [] (.agg [.junk, .junk, .junk, .junk, .junk, .junk, .junk, .junk, .junk]) []) :=
  vc_of (q := ((18 : Int) ≠ (0 : Int)) ∧ (Int.tmod (Go.bits Go.BinOp.and IntKind.i64 x (255 : Int)) (18 : Int) = (↑(7 : Nat) : Int)) ∧ ((0 : Int) ≤ (↑(7 : Nat) : Int) ∧ (↑(7 : Nat) : Int) < (↑(18 : Nat) : Int)) ∧ ((7 : Nat) < (18 : Nat)) ∧ ((0 : Int) ≤ (8 : Int)) ∧ (Int.fdiv x ((2 : Int) ^ (8 : Nat)) = Int.fdiv x ((2 : Int) ^ (8 : Nat))) ∧ cA7k1 x ∧ ((0 : Int) ≤ (11 : Int)) ∧ (Int.fdiv x ((2 : Int) ^ (11 : Nat)) = Int.fdiv x ((2 : Int) ^ (11 : Nat))) ∧ cA7k0 x ∧ (x = x) ∧ ((↑n : Int) = (↑n : Int)) ∧ cA7k2 x n ∧ True) (by kernel_rfl)
    ⟨(by omega),
 (by first | omega | rfl),
 (by first | omega | rfl),
 (by first | omega | rfl),
 (by first | omega | rfl),
 rfl,
 valC _,
 (by first | omega | rfl),
 rfl,
 valC _,
 rfl,
 rfl,
 in_R9 x n hn, trivial⟩
theorem ins8 (x : Int) (n : Nat) (hn : n < 100) (hq : Int.tmod (bits .and .i64 x 255) 18 = ((8 : Nat) : Int)) : Vc (vcFn Try.prog false 23 [.int .i64 x, .int .i64 n] [.iy 8, .cl [.int .i64 (Int.fdiv x (2 ^ 8))] (.agg [.junk, .junk]) [], .cl [.int .i64 (Int.fdiv x (2 ^ 11))] (.agg [.junk, .junk]) [], .sr [(0, 0), (1, 2), (2, 3), (3, 4)] (inI x n) .nrm inJ] [] (.agg [.junk, .junk, .junk, .junk, .junk, .junk, .junk, .junk, .junk]) []) :=
  vc_of (q := ((18 : Int) ≠ (0 : Int)) ∧ (Int.tmod (Go.bits Go.BinOp.and IntKind.i64 x (255 : Int)) (18 : Int) = (↑(8 : Nat) : Int)) ∧ ((0 : Int) ≤ (↑(8 : Nat) : Int) ∧ (↑(8 : Nat) : Int) < (↑(18 : Nat) : Int)) ∧ ((8 : Nat) < (18 : Nat)) ∧ ((0 : Int) ≤ (8 : Int)) ∧ (Int.fdiv x ((2 : Int) ^ (8 : Nat)) = Int.fdiv x ((2 : Int) ^ (8 : Nat))) ∧ cA7k1 x ∧ ((0 : Int) ≤ (11 : Int)) ∧ (Int.fdiv x ((2 : Int) ^ (11 : Nat)) = Int.fdiv x ((2 : Int) ^ (11 : Nat))) ∧ cA7k0 x ∧ (x = x) ∧ ((↑n : Int) = (↑n : Int)) ∧ (Ok Try.prog (ntOf Try.prog 23) (subC Try.prog 23 [1, 1, 1, 0, 1, 0, 1, 1, 1, 1, 1, 0]) (inI x n).st .nrm inJ.st) ∧ True) (by kernel_rfl)
    ⟨(by omega),
 (by first | omega | rfl),
 (by first | omega | rfl),
 (by first | omega | rfl),
 (by first | omega | rfl),
 rfl,
 valC _,
 (by first | omega | rfl),
 rfl,
 valC _,
 rfl,
 rfl,
 in_R11 x n hn, trivial⟩
theorem ins9 (x : Int) (n : Nat) (hn : n < 100) (hq : Int.tmod (bits .and .i64 x 255) 18 = ((9 : Nat) : Int)) : Vc (vcFn Try.prog false 23 [.int .i64 x, .int .i64 n] [.iy 9, .cl [.int .i64 (Int.fdiv x (2 ^ 8))] (.agg [.junk, .junk]) [], .cl [.int .i64 (Int.fdiv x (2 ^ 11))] (.agg [.junk, .junk]) [], .sr [(0, 0), (1, 2), (2, 3), (3, 4)] (inI x n) .nrm inJ] [] (.agg [.junk, .junk, .junk, .junk, .junk, .junk, .junk, .junk, .junk]) []) :=
  vc_of (q := ((18 : Int) ≠ (0 : Int)) ∧ (Int.tmod (Go.bits Go.BinOp.and IntKind.i64 x (255 : Int)) (18 : Int) = (↑(9 : Nat) : Int)) ∧ ((0 : Int) ≤ (↑(9 : Nat) : Int) ∧ (↑(9 : Nat) : Int) < (↑(18 : Nat) : Int)) ∧ ((9 : Nat) < (18 : Nat)) ∧ ((0 : Int) ≤ (8 : Int)) ∧ (Int.fdiv x ((2 : Int) ^ (8 : Nat)) = Int.fdiv x ((2 : Int) ^ (8 : Nat))) ∧ cA7k1 x ∧ ((0 : Int) ≤ (11 : Int)) ∧ (Int.fdiv x ((2 : Int) ^ (11 : Nat)) = Int.fdiv x ((2 : Int) ^ (11 : Nat))) ∧ cA7k0 x ∧ (x = x) ∧ ((↑n : Int) = (↑n : Int)) ∧ (Ok Try.prog (ntOf Try.prog 23) (subC Try.prog 23 [1, 1, 1, 0, 1, 0, 1, 1, 1, 1, 1, 0]) (inI x n).st .nrm inJ.st) ∧ True) (by kernel_rfl)
    ⟨(by omega),
 (by first | omega | rfl),
 (by first | omega | rfl),
 (by first | omega | rfl),
 (by first | omega | rfl),
 rfl,
 valC _,
 (by first | omega | rfl),
 rfl,
 valC _,
 rfl,
 rfl,
 in_R11 x n hn, trivial⟩
theorem ins10 (x : Int) (n : Nat) (hn : n < 100) (hq : Int.tmod (bits .and .i64 x 255) 18 = ((10 : Nat) : Int)) : Vc (vcFn Try.prog false 23 [.int .i64 x, .int .i64 n] [.iy 10, .cl [.int .i64 (Int.fdiv x (2 ^ 8))] (.agg [.junk, .junk]) [], .cl [.int .i64 (Int.fdiv x (2 ^ 11))] (.agg [.junk, .junk]) [], .sr [(0, 0), (1, 2), (2, 3), (3, 4)] (inI x n) .nrm inJ] [] (.agg [.junk, .junk, .junk, .junk, .junk, .junk, .junk, .junk, .junk]) []) :=
  vc_of (q := ((18 : Int) ≠ (0 : Int)) ∧ (Int.tmod (Go.bits Go.BinOp.and IntKind.i64 x (255 : Int)) (18 : Int) = (↑(10 : Nat) : Int)) ∧ ((0 : Int) ≤ (↑(10 : Nat) : Int) ∧ (↑(10 : Nat) : Int) < (↑(18 : Nat) : Int)) ∧ ((10 : Nat) < (18 : Nat)) ∧ ((0 : Int) ≤ (8 : Int)) ∧ (Int.fdiv x ((2 : Int) ^ (8 : Nat)) = Int.fdiv x ((2 : Int) ^ (8 : Nat))) ∧ cA7k1 x ∧ ((0 : Int) ≤ (11 : Int)) ∧ (Int.fdiv x ((2 : Int) ^ (11 : Nat)) = Int.fdiv x ((2 : Int) ^ (11 : Nat))) ∧ cA7k0 x ∧ (x = x) ∧ ((↑n : Int) = (↑n : Int)) ∧ (Ok Try.prog (ntOf Try.prog 23) (subC Try.prog 23 [1, 1, 1, 0, 1, 0, 1, 1, 1, 1, 1, 0]) (inI x n).st .nrm inJ.st) ∧ True) (by kernel_rfl)
    ⟨(by omega),
 (by first | omega | rfl),
 (by first | omega | rfl),
 (by first | omega | rfl),
 (by first | omega | rfl),
 rfl,
 valC _,
 (by first | omega | rfl),
 rfl,
 valC _,
 rfl,
 rfl,
 in_R11 x n hn, trivial⟩
theorem ins11 (x : Int) (n : Nat) (hn : n < 100) (hq : Int.tmod (bits .and .i64 x 255) 18 = ((11 : Nat) : Int)) : Vc (vcFn Try.prog false 23 [.int .i64 x, .int .i64 n] [.iy 11, .cl [.int .i64 (Int.fdiv x (2 ^ 8))] (.agg [.junk, .junk]) [], .cl [.int .i64 (Int.fdiv x (2 ^ 11))] (.agg [.junk, .junk]) []] [] (.agg [.junk, .junk, .junk, .junk, .junk, .junk, .junk, .junk, .junk]) []) :=
  vc_of (q := ((18 : Int) ≠ (0 : Int)) ∧ (Int.tmod (Go.bits Go.BinOp.and IntKind.i64 x (255 : Int)) (18 : Int) = (↑(11 : Nat) : Int)) ∧ ((0 : Int) ≤ (↑(11 : Nat) : Int) ∧ (↑(11 : Nat) : Int) < (↑(18 : Nat) : Int)) ∧ ((11 : Nat) < (18 : Nat)) ∧ ((0 : Int) ≤ (8 : Int)) ∧ (Int.fdiv x ((2 : Int) ^ (8 : Nat)) = Int.fdiv x ((2 : Int) ^ (8 : Nat))) ∧ cA7k1 x ∧ ((0 : Int) ≤ (11 : Int)) ∧ (Int.fdiv x ((2 : Int) ^ (11 : Nat)) = Int.fdiv x ((2 : Int) ^ (11 : Nat))) ∧ cA7k0 x ∧ ((0 : Int) ≤ (18 : Int)) ∧ (inK IntKind.i64 ((↑n : Int) + (1 : Int))) ∧ ((↑n : Int) + (1 : Int) ≠ (0 : Int)) ∧ True) (by kernel_rfl)
    ⟨(by omega),
 (by first | omega | rfl),
 (by first | omega | rfl),
 (by first | omega | rfl),
 (by first | omega | rfl),
 rfl,
 valC _,
 (by first | omega | rfl),
 rfl,
 valC _,
 (by first | omega | rfl),
 (in64 (by omega) (by omega)),
 (by omega), trivial⟩
theorem ins12 (x : Int) (n : Nat) (hn : n < 100) (hq : Int.tmod (bits .and .i64 x 255) 18 = ((12 : Nat) : Int)) : Vc (vcFn Try.prog false 23 [.int .i64 x, .int .i64 n] [.iy 12, .cl [.int .i64 (Int.fdiv x (2 ^ 8))] (.agg [.junk, .junk]) [], .cl [.int .i64 (Int.fdiv x (2 ^ 11))] (.agg [.junk, .junk]) []] [] (.agg [.junk, .junk, .junk, .junk, .junk, .junk, .junk, .junk, .junk]) []) :=
  vc_of (q := ((18 : Int) ≠ (0 : Int)) ∧ (Int.tmod (Go.bits Go.BinOp.and IntKind.i64 x (255 : Int)) (18 : Int) = (↑(12 : Nat) : Int)) ∧ ((0 : Int) ≤ (↑(12 : Nat) : Int) ∧ (↑(12 : Nat) : Int) < (↑(18 : Nat) : Int)) ∧ ((12 : Nat) < (18 : Nat)) ∧ ((0 : Int) ≤ (8 : Int)) ∧ (Int.fdiv x ((2 : Int) ^ (8 : Nat)) = Int.fdiv x ((2 : Int) ^ (8 : Nat))) ∧ cA7k1 x ∧ ((0 : Int) ≤ (11 : Int)) ∧ (Int.fdiv x ((2 : Int) ^ (11 : Nat)) = Int.fdiv x ((2 : Int) ^ (11 : Nat))) ∧ cA7k0 x ∧ True) (by kernel_rfl)
    ⟨(by omega),
 (by first | omega | rfl),
 (by first | omega | rfl),
 (by first | omega | rfl),
 (by first | omega | rfl),
 rfl,
 valC _,
 (by first | omega | rfl),
 rfl,
 valC _, trivial⟩
theorem ins13 (x : Int) (n : Nat) (hn : n < 100) (hq : Int.tmod (bits .and .i64 x 255) 18 = ((13 : Nat) : Int)) : Vc (vcFn Try.prog false 23 [.int .i64 x, .int .i64 n] [.iy 13, .cl [.int .i64 (Int.fdiv x (2 ^ 8))] (.agg [.junk, .junk]) [], .cl [.int .i64 (Int.fdiv x (2 ^ 11))] (.agg [.junk, .junk]) []] [] (.agg [.junk, .junk, .junk, .junk, .junk, .junk, .junk, .junk, .junk]) []) :=
  vc_of (q := ((18 : Int) ≠ (0 : Int)) ∧ (Int.tmod (Go.bits Go.BinOp.and IntKind.i64 x (255 : Int)) (18 : Int) = (↑(13 : Nat) : Int)) ∧ ((0 : Int) ≤ (↑(13 : Nat) : Int) ∧ (↑(13 : Nat) : Int) < (↑(18 : Nat) : Int)) ∧ ((13 : Nat) < (18 : Nat)) ∧ ((0 : Int) ≤ (8 : Int)) ∧ (Int.fdiv x ((2 : Int) ^ (8 : Nat)) = Int.fdiv x ((2 : Int) ^ (8 : Nat))) ∧ cA7k1 x ∧ ((0 : Int) ≤ (11 : Int)) ∧ (Int.fdiv x ((2 : Int) ^ (11 : Nat)) = Int.fdiv x ((2 : Int) ^ (11 : Nat))) ∧ cA7k0 x ∧ ((0 : Int) ≤ (18 : Int)) ∧ (inK IntKind.i64 ((↑n : Int) + (1 : Int))) ∧ ((↑n : Int) + (1 : Int) ≠ (0 : Int)) ∧ True) (by kernel_rfl)
    ⟨(by omega),
 (by first | omega | rfl),
 (by first | omega | rfl),
 (by first | omega | rfl),
 (by first | omega | rfl),
 rfl,
 valC _,
 (by first | omega | rfl),
 rfl,
 valC _,
 (by first | omega | rfl),
 (in64 (by omega) (by omega)),
 (by omega), trivial⟩
theorem ins14 (x : Int) (n : Nat) (hn : n < 100) (hq : Int.tmod (bits .and .i64 x 255) 18 = ((14 : Nat) : Int)) : Vc (vcFn Try.prog false 23 [.int .i64 x, .int .i64 n] [.iy 14, .cl [.int .i64 (Int.fdiv x (2 ^ 8))] (.agg [.junk, .junk]) [], .cl [.int .i64 (Int.fdiv x (2 ^ 11))] (.agg [.junk, .junk]) []] [] (.agg [.junk, .junk, .junk, .junk, .junk, .junk, .junk, .junk, .junk]) []) :=
  vc_of (q := ((18 : Int) ≠ (0 : Int)) ∧ (Int.tmod (Go.bits Go.BinOp.and IntKind.i64 x (255 : Int)) (18 : Int) = (↑(14 : Nat) : Int)) ∧ ((0 : Int) ≤ (↑(14 : Nat) : Int) ∧ (↑(14 : Nat) : Int) < (↑(18 : Nat) : Int)) ∧ ((14 : Nat) < (18 : Nat)) ∧ ((0 : Int) ≤ (8 : Int)) ∧ (Int.fdiv x ((2 : Int) ^ (8 : Nat)) = Int.fdiv x ((2 : Int) ^ (8 : Nat))) ∧ cA7k1 x ∧ ((0 : Int) ≤ (11 : Int)) ∧ (Int.fdiv x ((2 : Int) ^ (11 : Nat)) = Int.fdiv x ((2 : Int) ^ (11 : Nat))) ∧ cA7k0 x ∧ True) (by kernel_rfl)
    ⟨(by omega),
 (by first | omega | rfl),
 (by first | omega | rfl),
 (by first | omega | rfl),
 (by first | omega | rfl),
 rfl,
 valC _,
 (by first | omega | rfl),
 rfl,
 valC _, trivial⟩
theorem ins15 (x : Int) (n : Nat) (hn : n < 100) (hq : Int.tmod (bits .and .i64 x 255) 18 = ((15 : Nat) : Int)) : Vc (vcFn Try.prog false 23 [.int .i64 x, .int .i64 n] [.iy 15, .cl [.int .i64 (Int.fdiv x (2 ^ 8))] (.agg [.junk, .junk]) [], .cl [.int .i64 (Int.fdiv x (2 ^ 11))] (.agg [.junk, .junk]) []] [] (.agg [.junk, .junk, .junk, .junk, .junk, .junk, .junk, .junk, .junk]) []) :=
  vc_of (q := ((18 : Int) ≠ (0 : Int)) ∧ (Int.tmod (Go.bits Go.BinOp.and IntKind.i64 x (255 : Int)) (18 : Int) = (↑(15 : Nat) : Int)) ∧ ((0 : Int) ≤ (↑(15 : Nat) : Int) ∧ (↑(15 : Nat) : Int) < (↑(18 : Nat) : Int)) ∧ ((15 : Nat) < (18 : Nat)) ∧ ((0 : Int) ≤ (8 : Int)) ∧ (Int.fdiv x ((2 : Int) ^ (8 : Nat)) = Int.fdiv x ((2 : Int) ^ (8 : Nat))) ∧ cA7k1 x ∧ ((0 : Int) ≤ (11 : Int)) ∧ (Int.fdiv x ((2 : Int) ^ (11 : Nat)) = Int.fdiv x ((2 : Int) ^ (11 : Nat))) ∧ cA7k0 x ∧ True) (by kernel_rfl)
    ⟨(by omega),
 (by first | omega | rfl),
 (by first | omega | rfl),
 (by first | omega | rfl),
 (by first | omega | rfl),
 rfl,
 valC _,
 (by first | omega | rfl),
 rfl,
 valC _, trivial⟩
theorem ins16 (x : Int) (n : Nat) (hn : n < 100) (hq : Int.tmod (bits .and .i64 x 255) 18 = ((16 : Nat) : Int)) : Vc (vcFn Try.prog false 23 [.int .i64 x, .int .i64 n] [.iy 16, .cl [.int .i64 (Int.fdiv x (2 ^ 8))] (.agg [.junk, .junk]) [], .cl [.int .i64 (Int.fdiv x (2 ^ 11))] (.agg [.junk, .junk]) []] [] (.agg [.junk, .junk, .junk, .junk, .junk, .junk, .junk, .junk, .junk]) []) :=
  vc_of (q := ((18 : Int) ≠ (0 : Int)) ∧ (Int.tmod (Go.bits Go.BinOp.and IntKind.i64 x (255 : Int)) (18 : Int) = (↑(16 : Nat) : Int)) ∧ ((0 : Int) ≤ (↑(16 : Nat) : Int) ∧ (↑(16 : Nat) : Int) < (↑(18 : Nat) : Int)) ∧ ((16 : Nat) < (18 : Nat)) ∧ ((0 : Int) ≤ (8 : Int)) ∧ (Int.fdiv x ((2 : Int) ^ (8 : Nat)) = Int.fdiv x ((2 : Int) ^ (8 : Nat))) ∧ cA7k1 x ∧ ((0 : Int) ≤ (11 : Int)) ∧ (Int.fdiv x ((2 : Int) ^ (11 : Nat)) = Int.fdiv x ((2 : Int) ^ (11 : Nat))) ∧ cA7k0 x ∧ True) (by kernel_rfl)
    ⟨(by omega),
 (by first | omega | rfl),
 (by first | omega | rfl),
 (by first | omega | rfl),
 (by first | omega | rfl),
 rfl,
 valC _,
 (by first | omega | rfl),
 rfl,
 valC _, trivial⟩
theorem ins17 (x : Int) (n : Nat) (hn : n < 100) (hq : Int.tmod (bits .and .i64 x 255) 18 = ((17 : Nat) : Int)) : Vc (vcFn Try.prog false 23 [.int .i64 x, .int .i64 n] [.iy 17, .cl [.int .i64 (Int.fdiv x (2 ^ 8))] (.agg [.junk, .junk]) [], .cl [.int .i64 (Int.fdiv x (2 ^ 11))] (.agg [.junk, .junk]) [], .sr [(0, 0), (1, 2), (2, 3), (3, 4)] (inI x n) .nrm inJ] [] (.agg [.junk, .junk, .junk, .junk, .junk, .junk, .junk, .junk, .junk]) []) :=
  vc_of (q := ((18 : Int) ≠ (0 : Int)) ∧ (Int.tmod (Go.bits Go.BinOp.and IntKind.i64 x (255 : Int)) (18 : Int) = (↑(17 : Nat) : Int)) ∧ ((0 : Int) ≤ (↑(17 : Nat) : Int) ∧ (↑(17 : Nat) : Int) < (↑(18 : Nat) : Int)) ∧ ((17 : Nat) < (18 : Nat)) ∧ ((0 : Int) ≤ (8 : Int)) ∧ (Int.fdiv x ((2 : Int) ^ (8 : Nat)) = Int.fdiv x ((2 : Int) ^ (8 : Nat))) ∧ cA7k1 x ∧ ((0 : Int) ≤ (11 : Int)) ∧ (Int.fdiv x ((2 : Int) ^ (11 : Nat)) = Int.fdiv x ((2 : Int) ^ (11 : Nat))) ∧ cA7k0 x ∧ (x = x) ∧ ((↑n : Int) = (↑n : Int)) ∧ (Ok Try.prog (ntOf Try.prog 23) (subC Try.prog 23 [1, 1, 1, 0, 1, 0, 1, 0]) (inI x n).st .nrm inJ.st) ∧ True) (by kernel_rfl)
    ⟨(by omega),
 (by first | omega | rfl),
 (by first | omega | rfl),
 (by first | omega | rfl),
 (by first | omega | rfl),
 rfl,
 valC _,
 (by first | omega | rfl),
 rfl,
 valC _,
 rfl,
 rfl,
 in_R5 x n hn, trivial⟩
theorem insC (x : Int) (n : Nat) (hn : n < 100) : PureC Try.prog 23 [.int .i64 x, .int .i64 n] (.agg [.junk, .junk, .junk, .junk, .junk, .junk, .junk, .junk, .junk]) [] := by
  have hb := tm_bd x 18 (by omega)
  obtain ⟨q, e⟩ : ∃ q : Nat, Int.tmod (bits .and .i64 x 255) 18 = (q : Int) := ⟨(Int.tmod (bits .and .i64 x 255) 18).toNat, by omega⟩
  have hq : q < 18 := by omega
  match q, hq, e with
  | 0, _, e => exact PureC.vc (ins0 x n hn e)
  | 1, _, e => exact PureC.vc (ins1 x n hn e)
  | 2, _, e => exact PureC.vc (ins2 x n hn e)
  | 3, _, e => exact PureC.vc (ins3 x n hn e)
  | 4, _, e => exact PureC.vc (ins4 x n hn e)
  | 5, _, e => exact PureC.vc (ins5 x n hn e)
  | 6, _, e => exact PureC.vc (ins6 x n hn e)
  | 7, _, e => exact PureC.vc (ins7 x n hn e)
  | 8, _, e => exact PureC.vc (ins8 x n hn e)
  | 9, _, e => exact PureC.vc (ins9 x n hn e)
  | 10, _, e => exact PureC.vc (ins10 x n hn e)
  | 11, _, e => exact PureC.vc (ins11 x n hn e)
  | 12, _, e => exact PureC.vc (ins12 x n hn e)
  | 13, _, e => exact PureC.vc (ins13 x n hn e)
  | 14, _, e => exact PureC.vc (ins14 x n hn e)
  | 15, _, e => exact PureC.vc (ins15 x n hn e)
  | 16, _, e => exact PureC.vc (ins16 x n hn e)
  | 17, _, e => exact PureC.vc (ins17 x n hn e)
  | _ + 18, h, _ => exact absurd h (by omega)
end Go.Proofs.Ytdbnfdcjibgikaa.Px
