/- Cells and places of a program, as the program has them. -/
import Derived.Test.YtdbnfdcjibgikaaA7a
set_option linter.unusedVariables false
set_option linter.unusedSimpArgs false
set_option maxRecDepth 100000
namespace Go.Proofs.Ytdbnfdcjibgikaa.Px
open Go.RowKit Go.Proofs.Ytdbnfdcjibgikaa.Rx
def ac (ms : List Mm) (s : Nat) (k : Nat) : Sm := ⟨[(8, .int .i64 ms.length), (7, memR ms), (9, .int .i64 k), (3, .int .i64 s)], [], 0⟩
theorem ac_step (ms : List Mm) (s k : Nat) (hk : k < ms.length) (h64 : ms.length < 4611686018427387904) (hs : s + (ms.getD k default).n ≤ 16) : Vc (vcC Try.prog false (ntOf Try.prog 8) (lpC Try.prog 8 0) (ac ms s k) [.b true] .nrm [] (ac ms (s + (ms.getD k default).n) (k + 1))) :=
  vc_of (q := (decide ((↑k : Int) < (↑(List.length ms) : Int)) = true) ∧ ((0 : Int) ≤ (↑k : Int) ∧ (↑k : Int) < (↑(List.length ms) : Int)) ∧ (inK IntKind.i64 ((16 : Int) - (↑s : Int))) ∧ (inK IntKind.i64 ((↑s : Int) + if (16 : Int) - (↑s : Int) < if (↑(Mm.n (List.getD ms k Inhabited.default)) : Int) < (0 : Int) then (0 : Int) else (↑(Mm.n (List.getD ms k Inhabited.default)) : Int) then (16 : Int) - (↑s : Int) else if (↑(Mm.n (List.getD ms k Inhabited.default)) : Int) < (0 : Int) then (0 : Int) else (↑(Mm.n (List.getD ms k Inhabited.default)) : Int))) ∧ (inK IntKind.i64 ((↑k : Int) + (1 : Int))) ∧ ((↑(List.length ms) : Int) = (↑(List.length ms) : Int)) ∧ (List.length ms = List.length ms) ∧ (∀ (i : Nat), i < List.length ms → ∀ (j : Nat), j < (3 : Nat) → rowL mmC ms i j = rowL mmC ms i j) ∧ ((↑k : Int) + (1 : Int) = (↑(k + (1 : Nat)) : Int)) ∧ (((↑s : Int) + if (16 : Int) - (↑s : Int) < if (↑(Mm.n (List.getD ms k Inhabited.default)) : Int) < (0 : Int) then (0 : Int) else (↑(Mm.n (List.getD ms k Inhabited.default)) : Int) then (16 : Int) - (↑s : Int) else if (↑(Mm.n (List.getD ms k Inhabited.default)) : Int) < (0 : Int) then (0 : Int) else (↑(Mm.n (List.getD ms k Inhabited.default)) : Int)) = (↑(s + Mm.n (List.getD ms k Inhabited.default)) : Int)) ∧ True) (by kernel_rfl)
    ⟨(decide_eq_true (by first | omega | (simp; omega) | (simp; done))),
 (by first | omega | rfl),
 (in64 (by omega) (by omega)),
 (in64 (by omega) (by omega)),
 (in64 (by omega) (by omega)),
 rfl,
 rfl,
 (fun _ _ _ _ => rfl),
 (by first | omega | rfl),
 (by first | omega | rfl | (simp; done) | (simp; omega)), trivial⟩
theorem ac_end (ms : List Mm) (s : Nat) : Vc (vcC Try.prog false (ntOf Try.prog 8) (lpC Try.prog 8 0) (ac ms s ms.length) [.b false] (.ext 0) [] (ac ms s ms.length)) :=
  vc_of (q := (decide ((↑(List.length ms) : Int) < (↑(List.length ms) : Int)) = false) ∧ ((↑(List.length ms) : Int) = (↑(List.length ms) : Int)) ∧ (List.length ms = List.length ms) ∧ (∀ (i : Nat), i < List.length ms → ∀ (j : Nat), j < (3 : Nat) → rowL mmC ms i j = rowL mmC ms i j) ∧ ((↑(List.length ms) : Int) = (↑(List.length ms) : Int)) ∧ ((↑s : Int) = (↑s : Int)) ∧ True) (by kernel_rfl)
    ⟨(decide_eq_false (by first | omega | (simp; omega) | (simp; done))),
 rfl,
 rfl,
 (fun _ _ _ _ => rfl),
 rfl,
 rfl, trivial⟩
theorem ac_loop (ms : List Mm) (h64 : ms.length < 4611686018427387904) (hs : sumN ms ≤ 16) : Ok Try.prog (ntOf Try.prog 8) (.loop (lpC Try.prog 8 0)) (ac ms 0 0).st (.ext 0) (ac ms (sumN ms) ms.length).st := by
  have := Ok.loop (P := Try.prog) (nt := ntOf Try.prog 8) (c := lpC Try.prog 8 0) (F := fun k => ac ms (sumN (ms.take k)) k) (m := ms.length) (x := .ext 0) (J := ac ms (sumN ms) ms.length) (fun k hk => by
    have h1 := sumN_take hk
    have h2 := sumN_take_le ms (k + 1)
    show Ok _ _ _ _ _ (ac ms (sumN (ms.take (k + 1))) (k + 1)).st
    rw [h1]
    exact Ok.vc (ac_step ms _ k hk h64 (by omega))) (by
    show Ok _ _ _ (ac ms (sumN (ms.take ms.length)) ms.length).st _ _
    rw [List.take_length]
    exact Ok.vc (ac_end ms _)) (by simp)
  simpa [sumN] using this
theorem acc_vc (W r0 r1 r2 r3 : Int) (ms : List Mm) (h64 : ms.length < 4611686018427387904) (hs : sumN ms ≤ 16) : Vc (vcFn Try.prog false 8 [.agg (progL W r0 r1 r2 r3 (memR ms))] [.lp [] (ac ms 0 0) (.ext 0) (ac ms (sumN ms) ms.length)] [] (.int .i64 (sumN ms)) []) :=
  vc_of (q := ((↑(List.length ms) : Int) = (↑(List.length ms) : Int)) ∧ (List.length ms = List.length ms) ∧ (∀ (i : Nat), i < List.length ms → ∀ (j : Nat), j < (3 : Nat) → rowL mmC ms i j = rowL mmC ms i j) ∧ ((0 : Int) = (↑(0 : Nat) : Int)) ∧ ((0 : Int) = (↑(0 : Nat) : Int)) ∧ (Ok Try.prog (ntOf Try.prog 8) (.loop (lpC Try.prog 8 0)) (ac ms 0 0).st (.ext 0) (ac ms (sumN ms) ms.length).st) ∧ ((↑(sumN ms) : Int) = (↑(sumN ms) : Int)) ∧ True) (by kernel_rfl)
    ⟨rfl,
 rfl,
 (fun _ _ _ _ => rfl),
 (by first | omega | rfl),
 (by first | omega | rfl),
 ac_loop ms h64 hs,
 rfl, trivial⟩
theorem archCells (W r0 r1 r2 r3 : Int) (ms : List Mm) (h64 : ms.length < 4611686018427387904) (hs : sumN ms ≤ 16) : PureC Try.prog 8 [.agg (progL W r0 r1 r2 r3 (memR ms))] (.int .i64 (sumN ms)) [] := PureC.vc (acc_vc W r0 r1 r2 r3 ms h64 hs)
def ar (r0 r1 r2 r3 : Int) (k : Nat) (l : List Pl) : Sm := ⟨[(7, .agg [.int .i64 r0, .int .i64 r1, .int .i64 r2, .int .i64 r3]), (8, .int .i64 k), (3, .own 0 0 3 0 l.length)], [(0, plB l)], 1⟩
def frA7b0 (r0 : Int) (r1 : Int) (r2 : Int) (r3 : Int) (l : List Pl) (Z : Prop) : Prop := (List.length l = List.length l) ∧ (∀ (i : Nat), i < List.length l → ∀ (j : Nat), j < (3 : Nat) → rowL plC l i j = rowL plC l i j) ∧ (r0 = r0) ∧ (r1 = r1) ∧ (r2 = r2) ∧ (r3 = r3) ∧ Z
theorem frA7b0_mk (r0 : Int) (r1 : Int) (r2 : Int) (r3 : Int) (l : List Pl) {Z : Prop} (z : Z) : frA7b0 r0 r1 r2 r3 l Z := ⟨rfl, (fun _ _ _ _ => rfl), rfl, rfl, rfl, rfl, z⟩
theorem ar_no0 (r0 r1 r2 r3 : Int) (l : List Pl) (hz : r0 = 0) : Vc (vcC Try.prog false (ntOf Try.prog 17) (lpC Try.prog 17 0) (ar r0 r1 r2 r3 0 l) [.b true, .b false] .nrm [(0, 0)] (ar r0 r1 r2 r3 1 l)) :=
  vc_of (q := (decide ((↑(0 : Nat) : Int) < (4 : Int)) = true) ∧ ((r0 != (0 : Int)) = false) ∧ (inK IntKind.i64 ((↑(0 : Nat) : Int) + (1 : Int))) ∧ (frA7b0 r0 r1 r2 r3 l (((↑(0 : Nat) : Int) + (1 : Int) = (↑(1 : Nat) : Int)) ∧ ((0 : Nat) = (0 : Nat)) ∧ (List.length l = List.length l) ∧ True))) (by kernel_rfl)
    ⟨(decide_eq_true (by first | omega | (simp; omega) | (simp; done))),
 (by simp [hz]),
 (in64 (by omega) (by omega)), (frA7b0_mk r0 r1 r2 r3 l ⟨(by first | omega | rfl),
 rfl,
 rfl, trivial⟩)⟩
def frA7b1 (r0 : Int) (r1 : Int) (r2 : Int) (r3 : Int) (Z : Prop) : Prop := (r0 = r0) ∧ (r1 = r1) ∧ (r2 = r2) ∧ (r3 = r3) ∧ Z
theorem frA7b1_mk (r0 : Int) (r1 : Int) (r2 : Int) (r3 : Int) {Z : Prop} (z : Z) : frA7b1 r0 r1 r2 r3 Z := ⟨rfl, rfl, rfl, rfl, z⟩
theorem ar_yes0 (r0 r1 r2 r3 : Int) (l : List Pl) (hz : ¬ r0 = 0) (hl : l.length < 1000000) : Vc (vcC Try.prog false (ntOf Try.prog 17) (lpC Try.prog 17 0) (ar r0 r1 r2 r3 0 l) [.b true, .b true] .nrm [(0, 0)] (ar r0 r1 r2 r3 1 (l ++ [⟨true, 0, r0 == 2⟩]))) :=
  vc_of (q := (decide ((↑(0 : Nat) : Int) < (4 : Int)) = true) ∧ ((r0 != (0 : Int)) = true) ∧ ((0 : Nat) = (0 : Nat) ∧ List.length l = List.length l ∧ (List.length l + (1 : Nat)) * (24 : Nat) ≤ (140737488355328 : Nat) ∧ List.length l + (1 : Nat) ≤ (140737488355328 : Nat)) ∧ (inK IntKind.i64 ((↑(0 : Nat) : Int) + (1 : Int))) ∧ (List.length l + (1 : Nat) = List.length (l ++ [{ reg := true, n := (0 : Nat), sec := r0 == (2 : Int) }])) ∧ (∀ (i : Nat), i < List.length l + (1 : Nat) → ∀ (j : Nat), j < (3 : Nat) → (bif Nat.blt i (List.length l) then rowL plC l i j else List.getD [AV.bool true, AV.int IntKind.i64 (↑(0 : Nat) : Int), AV.bool (r0 == (2 : Int))] ((i - List.length l + (0 : Nat)) * (3 : Nat) + j) AV.junk) = rowL plC (l ++ [{ reg := true, n := (0 : Nat), sec := r0 == (2 : Int) }]) i j) ∧ (frA7b1 r0 r1 r2 r3 (((↑(0 : Nat) : Int) + (1 : Int) = (↑(1 : Nat) : Int)) ∧ ((0 : Nat) = (0 : Nat)) ∧ (List.length l + (1 : Nat) = List.length (l ++ [{ reg := true, n := (0 : Nat), sec := r0 == (2 : Int) }])) ∧ True))) (by kernel_rfl)
    ⟨(decide_eq_true (by first | omega | (simp; omega) | (simp; done))),
 (by simp [hz]),
 (by first | omega | rfl),
 (in64 (by omega) (by omega)),
 (by first | omega | rfl | (simp; done) | (simp; omega)),
 (fun i hi j hj => row_if (fun h => (rowL_left h).symm) (fun h => by obtain rfl : i = _ := Nat.le_antisymm (Nat.lt_succ_iff.mp hi) (Nat.not_lt.mp h); rw [rowL_last, Nat.sub_self]; match j, hj with | 0, _ => rfl | 1, _ => rfl | 2, _ => rfl)), (frA7b1_mk r0 r1 r2 r3 ⟨(by first | omega | rfl),
 rfl,
 (by first | omega | rfl | (simp; done) | (simp; omega)), trivial⟩)⟩
theorem ar_no1 (r0 r1 r2 r3 : Int) (l : List Pl) (hz : r1 = 0) : Vc (vcC Try.prog false (ntOf Try.prog 17) (lpC Try.prog 17 0) (ar r0 r1 r2 r3 1 l) [.b true, .b false] .nrm [(0, 0)] (ar r0 r1 r2 r3 2 l)) :=
  vc_of (q := (decide ((↑(1 : Nat) : Int) < (4 : Int)) = true) ∧ ((r1 != (0 : Int)) = false) ∧ (inK IntKind.i64 ((↑(1 : Nat) : Int) + (1 : Int))) ∧ (frA7b0 r0 r1 r2 r3 l (((↑(1 : Nat) : Int) + (1 : Int) = (↑(2 : Nat) : Int)) ∧ ((0 : Nat) = (0 : Nat)) ∧ (List.length l = List.length l) ∧ True))) (by kernel_rfl)
    ⟨(decide_eq_true (by first | omega | (simp; omega) | (simp; done))),
 (by simp [hz]),
 (in64 (by omega) (by omega)), (frA7b0_mk r0 r1 r2 r3 l ⟨(by first | omega | rfl),
 rfl,
 rfl, trivial⟩)⟩
theorem ar_yes1 (r0 r1 r2 r3 : Int) (l : List Pl) (hz : ¬ r1 = 0) (hl : l.length < 1000000) : Vc (vcC Try.prog false (ntOf Try.prog 17) (lpC Try.prog 17 0) (ar r0 r1 r2 r3 1 l) [.b true, .b true] .nrm [(0, 0)] (ar r0 r1 r2 r3 2 (l ++ [⟨true, 1, r1 == 2⟩]))) :=
  vc_of (q := (decide ((↑(1 : Nat) : Int) < (4 : Int)) = true) ∧ ((r1 != (0 : Int)) = true) ∧ ((0 : Nat) = (0 : Nat) ∧ List.length l = List.length l ∧ (List.length l + (1 : Nat)) * (24 : Nat) ≤ (140737488355328 : Nat) ∧ List.length l + (1 : Nat) ≤ (140737488355328 : Nat)) ∧ (inK IntKind.i64 ((↑(1 : Nat) : Int) + (1 : Int))) ∧ (List.length l + (1 : Nat) = List.length (l ++ [{ reg := true, n := (1 : Nat), sec := r1 == (2 : Int) }])) ∧ (∀ (i : Nat), i < List.length l + (1 : Nat) → ∀ (j : Nat), j < (3 : Nat) → (bif Nat.blt i (List.length l) then rowL plC l i j else List.getD [AV.bool true, AV.int IntKind.i64 (↑(1 : Nat) : Int), AV.bool (r1 == (2 : Int))] ((i - List.length l + (0 : Nat)) * (3 : Nat) + j) AV.junk) = rowL plC (l ++ [{ reg := true, n := (1 : Nat), sec := r1 == (2 : Int) }]) i j) ∧ (frA7b1 r0 r1 r2 r3 (((↑(1 : Nat) : Int) + (1 : Int) = (↑(2 : Nat) : Int)) ∧ ((0 : Nat) = (0 : Nat)) ∧ (List.length l + (1 : Nat) = List.length (l ++ [{ reg := true, n := (1 : Nat), sec := r1 == (2 : Int) }])) ∧ True))) (by kernel_rfl)
    ⟨(decide_eq_true (by first | omega | (simp; omega) | (simp; done))),
 (by simp [hz]),
 (by first | omega | rfl),
 (in64 (by omega) (by omega)),
 (by first | omega | rfl | (simp; done) | (simp; omega)),
 (fun i hi j hj => row_if (fun h => (rowL_left h).symm) (fun h => by obtain rfl : i = _ := Nat.le_antisymm (Nat.lt_succ_iff.mp hi) (Nat.not_lt.mp h); rw [rowL_last, Nat.sub_self]; match j, hj with | 0, _ => rfl | 1, _ => rfl | 2, _ => rfl)), (frA7b1_mk r0 r1 r2 r3 ⟨(by first | omega | rfl),
 rfl,
 (by first | omega | rfl | (simp; done) | (simp; omega)), trivial⟩)⟩
theorem ar_no2 (r0 r1 r2 r3 : Int) (l : List Pl) (hz : r2 = 0) : Vc (vcC Try.prog false (ntOf Try.prog 17) (lpC Try.prog 17 0) (ar r0 r1 r2 r3 2 l) [.b true, .b false] .nrm [(0, 0)] (ar r0 r1 r2 r3 3 l)) :=
  vc_of (q := (decide ((↑(2 : Nat) : Int) < (4 : Int)) = true) ∧ ((r2 != (0 : Int)) = false) ∧ (inK IntKind.i64 ((↑(2 : Nat) : Int) + (1 : Int))) ∧ (frA7b0 r0 r1 r2 r3 l (((↑(2 : Nat) : Int) + (1 : Int) = (↑(3 : Nat) : Int)) ∧ ((0 : Nat) = (0 : Nat)) ∧ (List.length l = List.length l) ∧ True))) (by kernel_rfl)
    ⟨(decide_eq_true (by first | omega | (simp; omega) | (simp; done))),
 (by simp [hz]),
 (in64 (by omega) (by omega)), (frA7b0_mk r0 r1 r2 r3 l ⟨(by first | omega | rfl),
 rfl,
 rfl, trivial⟩)⟩
theorem ar_yes2 (r0 r1 r2 r3 : Int) (l : List Pl) (hz : ¬ r2 = 0) (hl : l.length < 1000000) : Vc (vcC Try.prog false (ntOf Try.prog 17) (lpC Try.prog 17 0) (ar r0 r1 r2 r3 2 l) [.b true, .b true] .nrm [(0, 0)] (ar r0 r1 r2 r3 3 (l ++ [⟨true, 2, r2 == 2⟩]))) :=
  vc_of (q := (decide ((↑(2 : Nat) : Int) < (4 : Int)) = true) ∧ ((r2 != (0 : Int)) = true) ∧ ((0 : Nat) = (0 : Nat) ∧ List.length l = List.length l ∧ (List.length l + (1 : Nat)) * (24 : Nat) ≤ (140737488355328 : Nat) ∧ List.length l + (1 : Nat) ≤ (140737488355328 : Nat)) ∧ (inK IntKind.i64 ((↑(2 : Nat) : Int) + (1 : Int))) ∧ (List.length l + (1 : Nat) = List.length (l ++ [{ reg := true, n := (2 : Nat), sec := r2 == (2 : Int) }])) ∧ (∀ (i : Nat), i < List.length l + (1 : Nat) → ∀ (j : Nat), j < (3 : Nat) → (bif Nat.blt i (List.length l) then rowL plC l i j else List.getD [AV.bool true, AV.int IntKind.i64 (↑(2 : Nat) : Int), AV.bool (r2 == (2 : Int))] ((i - List.length l + (0 : Nat)) * (3 : Nat) + j) AV.junk) = rowL plC (l ++ [{ reg := true, n := (2 : Nat), sec := r2 == (2 : Int) }]) i j) ∧ (frA7b1 r0 r1 r2 r3 (((↑(2 : Nat) : Int) + (1 : Int) = (↑(3 : Nat) : Int)) ∧ ((0 : Nat) = (0 : Nat)) ∧ (List.length l + (1 : Nat) = List.length (l ++ [{ reg := true, n := (2 : Nat), sec := r2 == (2 : Int) }])) ∧ True))) (by kernel_rfl)
    ⟨(decide_eq_true (by first | omega | (simp; omega) | (simp; done))),
 (by simp [hz]),
 (by first | omega | rfl),
 (in64 (by omega) (by omega)),
 (by first | omega | rfl | (simp; done) | (simp; omega)),
 (fun i hi j hj => row_if (fun h => (rowL_left h).symm) (fun h => by obtain rfl : i = _ := Nat.le_antisymm (Nat.lt_succ_iff.mp hi) (Nat.not_lt.mp h); rw [rowL_last, Nat.sub_self]; match j, hj with | 0, _ => rfl | 1, _ => rfl | 2, _ => rfl)), (frA7b1_mk r0 r1 r2 r3 ⟨(by first | omega | rfl),
 rfl,
 (by first | omega | rfl | (simp; done) | (simp; omega)), trivial⟩)⟩
theorem ar_no3 (r0 r1 r2 r3 : Int) (l : List Pl) (hz : r3 = 0) : Vc (vcC Try.prog false (ntOf Try.prog 17) (lpC Try.prog 17 0) (ar r0 r1 r2 r3 3 l) [.b true, .b false] .nrm [(0, 0)] (ar r0 r1 r2 r3 4 l)) :=
  vc_of (q := (decide ((↑(3 : Nat) : Int) < (4 : Int)) = true) ∧ ((r3 != (0 : Int)) = false) ∧ (inK IntKind.i64 ((↑(3 : Nat) : Int) + (1 : Int))) ∧ (frA7b0 r0 r1 r2 r3 l (((↑(3 : Nat) : Int) + (1 : Int) = (↑(4 : Nat) : Int)) ∧ ((0 : Nat) = (0 : Nat)) ∧ (List.length l = List.length l) ∧ True))) (by kernel_rfl)
    ⟨(decide_eq_true (by first | omega | (simp; omega) | (simp; done))),
 (by simp [hz]),
 (in64 (by omega) (by omega)), (frA7b0_mk r0 r1 r2 r3 l ⟨(by first | omega | rfl),
 rfl,
 rfl, trivial⟩)⟩
theorem ar_yes3 (r0 r1 r2 r3 : Int) (l : List Pl) (hz : ¬ r3 = 0) (hl : l.length < 1000000) : Vc (vcC Try.prog false (ntOf Try.prog 17) (lpC Try.prog 17 0) (ar r0 r1 r2 r3 3 l) [.b true, .b true] .nrm [(0, 0)] (ar r0 r1 r2 r3 4 (l ++ [⟨true, 3, r3 == 2⟩]))) :=
  vc_of (q := (decide ((↑(3 : Nat) : Int) < (4 : Int)) = true) ∧ ((r3 != (0 : Int)) = true) ∧ ((0 : Nat) = (0 : Nat) ∧ List.length l = List.length l ∧ (List.length l + (1 : Nat)) * (24 : Nat) ≤ (140737488355328 : Nat) ∧ List.length l + (1 : Nat) ≤ (140737488355328 : Nat)) ∧ (inK IntKind.i64 ((↑(3 : Nat) : Int) + (1 : Int))) ∧ (List.length l + (1 : Nat) = List.length (l ++ [{ reg := true, n := (3 : Nat), sec := r3 == (2 : Int) }])) ∧ (∀ (i : Nat), i < List.length l + (1 : Nat) → ∀ (j : Nat), j < (3 : Nat) → (bif Nat.blt i (List.length l) then rowL plC l i j else List.getD [AV.bool true, AV.int IntKind.i64 (↑(3 : Nat) : Int), AV.bool (r3 == (2 : Int))] ((i - List.length l + (0 : Nat)) * (3 : Nat) + j) AV.junk) = rowL plC (l ++ [{ reg := true, n := (3 : Nat), sec := r3 == (2 : Int) }]) i j) ∧ (frA7b1 r0 r1 r2 r3 (((↑(3 : Nat) : Int) + (1 : Int) = (↑(4 : Nat) : Int)) ∧ ((0 : Nat) = (0 : Nat)) ∧ (List.length l + (1 : Nat) = List.length (l ++ [{ reg := true, n := (3 : Nat), sec := r3 == (2 : Int) }])) ∧ True))) (by kernel_rfl)
    ⟨(decide_eq_true (by first | omega | (simp; omega) | (simp; done))),
 (by simp [hz]),
 (by first | omega | rfl),
 (in64 (by omega) (by omega)),
 (by first | omega | rfl | (simp; done) | (simp; omega)),
 (fun i hi j hj => row_if (fun h => (rowL_left h).symm) (fun h => by obtain rfl : i = _ := Nat.le_antisymm (Nat.lt_succ_iff.mp hi) (Nat.not_lt.mp h); rw [rowL_last, Nat.sub_self]; match j, hj with | 0, _ => rfl | 1, _ => rfl | 2, _ => rfl)), (frA7b1_mk r0 r1 r2 r3 ⟨(by first | omega | rfl),
 rfl,
 (by first | omega | rfl | (simp; done) | (simp; omega)), trivial⟩)⟩
theorem ar_end (r0 r1 r2 r3 : Int) (l : List Pl) : Vc (vcC Try.prog false (ntOf Try.prog 17) (lpC Try.prog 17 0) (ar r0 r1 r2 r3 4 l) [.b false] (.ext 0) [(0, 0)] (ar r0 r1 r2 r3 4 l)) :=
  vc_of (q := (decide ((↑(4 : Nat) : Int) < (4 : Int)) = false) ∧ (frA7b0 r0 r1 r2 r3 l (((↑(4 : Nat) : Int) = (↑(4 : Nat) : Int)) ∧ ((0 : Nat) = (0 : Nat)) ∧ (List.length l = List.length l) ∧ True))) (by kernel_rfl)
    ⟨(decide_eq_false (by first | omega | (simp; omega) | (simp; done))), (frA7b0_mk r0 r1 r2 r3 l ⟨rfl,
 rfl,
 rfl, trivial⟩)⟩
theorem ar_loop (r0 r1 r2 r3 : Int) : Ok Try.prog (ntOf Try.prog 17) (.loop (lpC Try.prog 17 0)) (ar r0 r1 r2 r3 0 []).st (.ext 0) (ar r0 r1 r2 r3 4 (regL (rg r0 r1 r2 r3) 4)).st :=
  Ok.loop (P := Try.prog) (nt := ntOf Try.prog 17) (c := lpC Try.prog 17 0) (F := fun k => ar r0 r1 r2 r3 k (regL (rg r0 r1 r2 r3) k)) (m := 4) (x := .ext 0) (J := ar r0 r1 r2 r3 4 (regL (rg r0 r1 r2 r3) 4)) (fun k hk => by
    match k, hk with
    | 0, _ =>
      by_cases hz : r0 = 0
      · have e : regL (rg r0 r1 r2 r3) 1 = regL (rg r0 r1 r2 r3) 0 := regL_zero (k := 0) hz
        show Ok _ _ _ _ _ (ar r0 r1 r2 r3 1 (regL (rg r0 r1 r2 r3) 1)).st
        rw [e]
        exact Ok.vc (ar_no0 r0 r1 r2 r3 _ hz)
      · have e : regL (rg r0 r1 r2 r3) 1 = regL (rg r0 r1 r2 r3) 0 ++ [⟨true, 0, r0 == 2⟩] := regL_pos (k := 0) hz
        show Ok _ _ _ _ _ (ar r0 r1 r2 r3 1 (regL (rg r0 r1 r2 r3) 1)).st
        rw [e]
        exact Ok.vc (ar_yes0 r0 r1 r2 r3 _ hz (by have := regL_le (rg r0 r1 r2 r3) 0; omega))
    | 1, _ =>
      by_cases hz : r1 = 0
      · have e : regL (rg r0 r1 r2 r3) 2 = regL (rg r0 r1 r2 r3) 1 := regL_zero (k := 1) hz
        show Ok _ _ _ _ _ (ar r0 r1 r2 r3 2 (regL (rg r0 r1 r2 r3) 2)).st
        rw [e]
        exact Ok.vc (ar_no1 r0 r1 r2 r3 _ hz)
      · have e : regL (rg r0 r1 r2 r3) 2 = regL (rg r0 r1 r2 r3) 1 ++ [⟨true, 1, r1 == 2⟩] := regL_pos (k := 1) hz
        show Ok _ _ _ _ _ (ar r0 r1 r2 r3 2 (regL (rg r0 r1 r2 r3) 2)).st
        rw [e]
        exact Ok.vc (ar_yes1 r0 r1 r2 r3 _ hz (by have := regL_le (rg r0 r1 r2 r3) 1; omega))
    | 2, _ =>
      by_cases hz : r2 = 0
      · have e : regL (rg r0 r1 r2 r3) 3 = regL (rg r0 r1 r2 r3) 2 := regL_zero (k := 2) hz
        show Ok _ _ _ _ _ (ar r0 r1 r2 r3 3 (regL (rg r0 r1 r2 r3) 3)).st
        rw [e]
        exact Ok.vc (ar_no2 r0 r1 r2 r3 _ hz)
      · have e : regL (rg r0 r1 r2 r3) 3 = regL (rg r0 r1 r2 r3) 2 ++ [⟨true, 2, r2 == 2⟩] := regL_pos (k := 2) hz
        show Ok _ _ _ _ _ (ar r0 r1 r2 r3 3 (regL (rg r0 r1 r2 r3) 3)).st
        rw [e]
        exact Ok.vc (ar_yes2 r0 r1 r2 r3 _ hz (by have := regL_le (rg r0 r1 r2 r3) 2; omega))
    | 3, _ =>
      by_cases hz : r3 = 0
      · have e : regL (rg r0 r1 r2 r3) 4 = regL (rg r0 r1 r2 r3) 3 := regL_zero (k := 3) hz
        show Ok _ _ _ _ _ (ar r0 r1 r2 r3 4 (regL (rg r0 r1 r2 r3) 4)).st
        rw [e]
        exact Ok.vc (ar_no3 r0 r1 r2 r3 _ hz)
      · have e : regL (rg r0 r1 r2 r3) 4 = regL (rg r0 r1 r2 r3) 3 ++ [⟨true, 3, r3 == 2⟩] := regL_pos (k := 3) hz
        show Ok _ _ _ _ _ (ar r0 r1 r2 r3 4 (regL (rg r0 r1 r2 r3) 4)).st
        rw [e]
        exact Ok.vc (ar_yes3 r0 r1 r2 r3 _ hz (by have := regL_le (rg r0 r1 r2 r3) 3; omega))) (Ok.vc (ar_end r0 r1 r2 r3 _)) (by simp)
theorem arr_vc (W r0 r1 r2 r3 : Int) (ms : List Mm) : Vc (vcFn Try.prog false 17 [.agg (progL W r0 r1 r2 r3 (memR ms))] [.lp [] (ar r0 r1 r2 r3 0 []) (.ext 0) (ar r0 r1 r2 r3 4 (regL (rg r0 r1 r2 r3) 4))] [(0, 0)] (.own 0 0 3 0 (regL (rg r0 r1 r2 r3) 4).length) [plB (regL (rg r0 r1 r2 r3) 4)]) :=
  vc_of (q := ((0 : Nat) = (0 : Nat)) ∧ (r0 = r0) ∧ (r1 = r1) ∧ (r2 = r2) ∧ (r3 = r3) ∧ ((0 : Int) = (↑(0 : Nat) : Int)) ∧ ((0 : Nat) = (0 : Nat)) ∧ ((0 : Nat) = (0 : Nat)) ∧ (Ok Try.prog (ntOf Try.prog 17) (.loop (lpC Try.prog 17 0)) (ar r0 r1 r2 r3 0 []).st (.ext 0) (ar r0 r1 r2 r3 4 (regL (rg r0 r1 r2 r3) 4)).st) ∧ (List.length (regL (rg r0 r1 r2 r3) (4 : Nat)) = List.length (regL (rg r0 r1 r2 r3) (4 : Nat))) ∧ (∀ (i : Nat), i < List.length (regL (rg r0 r1 r2 r3) (4 : Nat)) → ∀ (j : Nat), j < (3 : Nat) → rowL plC (regL (rg r0 r1 r2 r3) (4 : Nat)) i j = rowL plC (regL (rg r0 r1 r2 r3) (4 : Nat)) i j) ∧ ((0 : Nat) = (0 : Nat)) ∧ (List.length (regL (rg r0 r1 r2 r3) (4 : Nat)) = List.length (regL (rg r0 r1 r2 r3) (4 : Nat))) ∧ True) (by kernel_rfl)
    ⟨rfl,
 rfl,
 rfl,
 rfl,
 rfl,
 (by first | omega | rfl),
 rfl,
 rfl,
 ar_loop r0 r1 r2 r3,
 rfl,
 (fun _ _ _ _ => rfl),
 rfl,
 rfl, trivial⟩
theorem archRegs (W r0 r1 r2 r3 : Int) (ms : List Mm) : PureC Try.prog 17 [.agg (progL W r0 r1 r2 r3 (memR ms))] (.own 0 0 3 0 (regL (rg r0 r1 r2 r3) 4).length) [plB (regL (rg r0 r1 r2 r3) 4)] := PureC.vc (arr_vc W r0 r1 r2 r3 ms)
def mmL (m : Mm) : List AV := [.str m.nm, .bool m.sec, .int .i64 m.n]
def ao (ms : List Mm) (i : Nat) (l : List Pl) : Sm := ⟨[(8, .int .i64 ms.length), (7, memR ms), (9, .int .i64 i), (3, .own 0 0 3 0 l.length)], [(0, plB l)], 1⟩
def ai (ms : List Mm) (i k : Nat) (l : List Pl) : Sm := ⟨[(8, .int .i64 ms.length), (7, memR ms), (9, .int .i64 i), (3, .own 0 0 3 0 l.length), (5, .bptr 1 0), (16, .int .i64 (ms.getD i default).n), (17, .int .i64 k)], [(0, plB l), (1, ⟨0, false, 33, .box (mmL (ms.getD i default))⟩)], 2⟩
theorem ai_step (ms : List Mm) (i k : Nat) (l : List Pl) (h64 : ms.length < 4611686018427387904) (hi : i < ms.length) (hl : l.length < 1000000000000) (hn : k < 4611686018427387904) (hk : k < (ms.getD i default).n) : Vc (vcC Try.prog false (ntOf Try.prog 18) (lpC Try.prog 18 1) (ai ms i k l) [.b true] .nrm [(0, 0), (1, 1)] (ai ms i (k + 1) (l ++ [⟨false, l.length, (ms.getD i default).sec⟩]))) :=
  vc_of (q := (decide ((↑k : Int) < (↑(Mm.n (List.getD ms i Inhabited.default)) : Int)) = true) ∧ ((0 : Nat) = (0 : Nat) ∧ List.length l = List.length l ∧ (List.length l + (1 : Nat)) * (24 : Nat) ≤ (140737488355328 : Nat) ∧ List.length l + (1 : Nat) ≤ (140737488355328 : Nat)) ∧ (inK IntKind.i64 ((↑k : Int) + (1 : Int))) ∧ (List.length l + (1 : Nat) = List.length (l ++ [{ reg := false, n := List.length l, sec := Mm.sec (List.getD ms i Inhabited.default) }])) ∧ (∀ (i_1 : Nat), i_1 < List.length l + (1 : Nat) → ∀ (j : Nat), j < (3 : Nat) → (bif Nat.blt i_1 (List.length l) then rowL plC l i_1 j else List.getD [AV.bool false, AV.int IntKind.i64 (↑(List.length l) : Int), AV.bool (Mm.sec (List.getD ms i Inhabited.default))] ((i_1 - List.length l + (0 : Nat)) * (3 : Nat) + j) AV.junk) = rowL plC (l ++ [{ reg := false, n := List.length l, sec := Mm.sec (List.getD ms i Inhabited.default) }]) i_1 j) ∧ (Mm.nm (List.getD ms i Inhabited.default) = Mm.nm (List.getD ms i Inhabited.default)) ∧ (Mm.sec (List.getD ms i Inhabited.default) = Mm.sec (List.getD ms i Inhabited.default)) ∧ ((↑(Mm.n (List.getD ms i Inhabited.default)) : Int) = (↑(Mm.n (List.getD ms i Inhabited.default)) : Int)) ∧ ((↑(List.length ms) : Int) = (↑(List.length ms) : Int)) ∧ (List.length ms = List.length ms) ∧ (∀ (i : Nat), i < List.length ms → ∀ (j : Nat), j < (3 : Nat) → rowL mmC ms i j = rowL mmC ms i j) ∧ ((↑i : Int) = (↑i : Int)) ∧ ((0 : Nat) = (0 : Nat)) ∧ (List.length l + (1 : Nat) = List.length (l ++ [{ reg := false, n := List.length l, sec := Mm.sec (List.getD ms i Inhabited.default) }])) ∧ ((↑(Mm.n (List.getD ms i Inhabited.default)) : Int) = (↑(Mm.n (List.getD ms i Inhabited.default)) : Int)) ∧ ((↑k : Int) + (1 : Int) = (↑(k + (1 : Nat)) : Int)) ∧ True) (by kernel_rfl)
    ⟨(decide_eq_true (by first | omega | (simp; omega) | (simp; done))),
 (by first | omega | rfl),
 (in64 (by omega) (by omega)),
 (by first | omega | rfl | (simp; done) | (simp; omega)),
 (fun i hi j hj => row_if (fun h => (rowL_left h).symm) (fun h => by obtain rfl : i = _ := Nat.le_antisymm (Nat.lt_succ_iff.mp hi) (Nat.not_lt.mp h); rw [rowL_last, Nat.sub_self]; match j, hj with | 0, _ => rfl | 1, _ => rfl | 2, _ => rfl)),
 rfl,
 rfl,
 rfl,
 rfl,
 rfl,
 (fun _ _ _ _ => rfl),
 rfl,
 rfl,
 (by first | omega | rfl | (simp; done) | (simp; omega)),
 rfl,
 (by first | omega | rfl), trivial⟩
def frA7b2 (ms : List Mm) (i : Nat) (l : List Pl) (Z : Prop) : Prop := (List.length l = List.length l) ∧ (∀ (i : Nat), i < List.length l → ∀ (j : Nat), j < (3 : Nat) → rowL plC l i j = rowL plC l i j) ∧ (Mm.nm (List.getD ms i Inhabited.default) = Mm.nm (List.getD ms i Inhabited.default)) ∧ (Mm.sec (List.getD ms i Inhabited.default) = Mm.sec (List.getD ms i Inhabited.default)) ∧ ((↑(Mm.n (List.getD ms i Inhabited.default)) : Int) = (↑(Mm.n (List.getD ms i Inhabited.default)) : Int)) ∧ ((↑(List.length ms) : Int) = (↑(List.length ms) : Int)) ∧ (List.length ms = List.length ms) ∧ (∀ (i : Nat), i < List.length ms → ∀ (j : Nat), j < (3 : Nat) → rowL mmC ms i j = rowL mmC ms i j) ∧ ((↑i : Int) = (↑i : Int)) ∧ Z
theorem frA7b2_mk (ms : List Mm) (i : Nat) (l : List Pl) {Z : Prop} (z : Z) : frA7b2 ms i l Z := ⟨rfl, (fun _ _ _ _ => rfl), rfl, rfl, rfl, rfl, rfl, (fun _ _ _ _ => rfl), rfl, z⟩
theorem ai_end (ms : List Mm) (i k : Nat) (l : List Pl) (h64 : ms.length < 4611686018427387904) (hi : i < ms.length) (hl : l.length < 1000000000000) (hn : k < 4611686018427387904) (hk : k = (ms.getD i default).n) : Vc (vcC Try.prog false (ntOf Try.prog 18) (lpC Try.prog 18 1) (ai ms i k l) [.b false] (.ext 2) [(0, 0), (1, 1)] (ai ms i k l)) :=
  vc_of (q := (decide ((↑k : Int) < (↑(Mm.n (List.getD ms i Inhabited.default)) : Int)) = false) ∧ (frA7b2 ms i l (((0 : Nat) = (0 : Nat)) ∧ (List.length l = List.length l) ∧ ((↑(Mm.n (List.getD ms i Inhabited.default)) : Int) = (↑(Mm.n (List.getD ms i Inhabited.default)) : Int)) ∧ ((↑k : Int) = (↑k : Int)) ∧ True))) (by kernel_rfl)
    ⟨(decide_eq_false (by first | omega | (simp; omega) | (simp; done))), (frA7b2_mk ms i l ⟨rfl,
 rfl,
 rfl,
 rfl, trivial⟩)⟩
theorem ai_loop (ms : List Mm) (i : Nat) (l : List Pl) (h64 : ms.length < 4611686018427387904) (hi : i < ms.length) (hb : l.length + (ms.getD i default).n ≤ 16) : Ok Try.prog (ntOf Try.prog 18) (.loop (lpC Try.prog 18 1)) (ai ms i 0 l).st (.ext 2) (ai ms i (ms.getD i default).n (l ++ celL (ms.getD i default).sec l.length (ms.getD i default).n)).st := by
  have := Ok.loop (P := Try.prog) (nt := ntOf Try.prog 18) (c := lpC Try.prog 18 1) (F := fun k => ai ms i k (l ++ celL (ms.getD i default).sec l.length k)) (m := (ms.getD i default).n) (x := .ext 2) (J := ai ms i (ms.getD i default).n (l ++ celL (ms.getD i default).sec l.length (ms.getD i default).n)) (fun k hk => by
    show Ok _ _ _ _ _ (ai _ i (k + 1) (l ++ celL (ms.getD i default).sec l.length (k + 1))).st
    have hl : (l ++ celL (ms.getD i default).sec l.length k).length = l.length + k := by simp only [List.length_append, celL_length]
    have := Ok.vc (ai_step ms i k (l ++ celL (ms.getD i default).sec l.length k) h64 hi (by omega) (by omega) hk)
    rw [hl] at this
    rw [celL_succ, ← List.append_assoc]
    exact this)
    (Ok.vc (ai_end ms i _ _ h64 hi (by simp only [List.length_append, celL_length]; omega) (by omega) rfl)) (by simp)
  simpa [celL] using this
theorem ao_step (ms : List Mm) (i : Nat) (l : List Pl) (h64 : ms.length < 4611686018427387904) (hi : i < ms.length) (hb : l.length + (ms.getD i default).n ≤ 16) : Vc (vcC Try.prog false (ntOf Try.prog 18) (lpC Try.prog 18 0) (ao ms i l) [.b true, .lp [(0, 0), (1, 1)] (ai ms i 0 l) (.ext 2) (ai ms i (ms.getD i default).n (l ++ celL (ms.getD i default).sec l.length (ms.getD i default).n))] .nrm [(0, 0)] (ao ms (i + 1) (l ++ celL (ms.getD i default).sec l.length (ms.getD i default).n))) :=
  vc_of (q := (decide ((↑i : Int) < (↑(List.length ms) : Int)) = true) ∧ ((0 : Int) ≤ (↑i : Int) ∧ (↑i : Int) < (↑(List.length ms) : Int)) ∧ (inK IntKind.i64 ((16 : Int) - (↑(List.length l) : Int))) ∧ (frA7b2 ms i l (((0 : Nat) = (0 : Nat)) ∧ (List.length l = List.length l) ∧ ((if (16 : Int) - (↑(List.length l) : Int) < if (↑(Mm.n (List.getD ms i Inhabited.default)) : Int) < (0 : Int) then (0 : Int) else (↑(Mm.n (List.getD ms i Inhabited.default)) : Int) then (16 : Int) - (↑(List.length l) : Int) else if (↑(Mm.n (List.getD ms i Inhabited.default)) : Int) < (0 : Int) then (0 : Int) else (↑(Mm.n (List.getD ms i Inhabited.default)) : Int)) = (↑(Mm.n (List.getD ms i Inhabited.default)) : Int)) ∧ ((0 : Int) = (↑(0 : Nat) : Int)) ∧ (Ok Try.prog (ntOf Try.prog 18) (.loop (lpC Try.prog 18 1)) (ai ms i 0 l).st (.ext 2) (ai ms i (ms.getD i default).n (l ++ celL (ms.getD i default).sec l.length (ms.getD i default).n)).st) ∧ (inK IntKind.i64 ((↑i : Int) + (1 : Int))) ∧ (List.length (l ++ celL (Mm.sec (List.getD ms i Inhabited.default)) (List.length l) (Mm.n (List.getD ms i Inhabited.default))) = List.length (l ++ celL (Mm.sec (List.getD ms i Inhabited.default)) (List.length l) (Mm.n (List.getD ms i Inhabited.default)))) ∧ (∀ (i_1 : Nat), i_1 < List.length (l ++ celL (Mm.sec (List.getD ms i Inhabited.default)) (List.length l) (Mm.n (List.getD ms i Inhabited.default))) → ∀ (j : Nat), j < (3 : Nat) → rowL plC (l ++ celL (Mm.sec (List.getD ms i Inhabited.default)) (List.length l) (Mm.n (List.getD ms i Inhabited.default))) i_1 j = rowL plC (l ++ celL (Mm.sec (List.getD ms i Inhabited.default)) (List.length l) (Mm.n (List.getD ms i Inhabited.default))) i_1 j) ∧ ((↑(List.length ms) : Int) = (↑(List.length ms) : Int)) ∧ (List.length ms = List.length ms) ∧ (∀ (i : Nat), i < List.length ms → ∀ (j : Nat), j < (3 : Nat) → rowL mmC ms i j = rowL mmC ms i j) ∧ ((↑i : Int) + (1 : Int) = (↑(i + (1 : Nat)) : Int)) ∧ ((0 : Nat) = (0 : Nat)) ∧ (List.length (l ++ celL (Mm.sec (List.getD ms i Inhabited.default)) (List.length l) (Mm.n (List.getD ms i Inhabited.default))) = List.length (l ++ celL (Mm.sec (List.getD ms i Inhabited.default)) (List.length l) (Mm.n (List.getD ms i Inhabited.default)))) ∧ True))) (by kernel_rfl)
    ⟨(decide_eq_true (by first | omega | (simp; omega) | (simp; done))),
 (by first | omega | rfl),
 (in64 (by omega) (by omega)), (frA7b2_mk ms i l ⟨rfl,
 rfl,
 (by first | omega | rfl | (simp; done) | (simp; omega)),
 (by first | omega | rfl),
 ai_loop ms i l h64 hi hb,
 (in64 (by omega) (by omega)),
 rfl,
 (fun _ _ _ _ => rfl),
 rfl,
 rfl,
 (fun _ _ _ _ => rfl),
 (by first | omega | rfl),
 rfl,
 rfl, trivial⟩)⟩
theorem ao_end (ms : List Mm) (l : List Pl) : Vc (vcC Try.prog false (ntOf Try.prog 18) (lpC Try.prog 18 0) (ao ms ms.length l) [.b false] (.ext 0) [(0, 0)] (ao ms ms.length l)) :=
  vc_of (q := (decide ((↑(List.length ms) : Int) < (↑(List.length ms) : Int)) = false) ∧ (List.length l = List.length l) ∧ (∀ (i : Nat), i < List.length l → ∀ (j : Nat), j < (3 : Nat) → rowL plC l i j = rowL plC l i j) ∧ ((↑(List.length ms) : Int) = (↑(List.length ms) : Int)) ∧ (List.length ms = List.length ms) ∧ (∀ (i : Nat), i < List.length ms → ∀ (j : Nat), j < (3 : Nat) → rowL mmC ms i j = rowL mmC ms i j) ∧ ((↑(List.length ms) : Int) = (↑(List.length ms) : Int)) ∧ ((0 : Nat) = (0 : Nat)) ∧ (List.length l = List.length l) ∧ True) (by kernel_rfl)
    ⟨(decide_eq_false (by first | omega | (simp; omega) | (simp; done))),
 rfl,
 (fun _ _ _ _ => rfl),
 rfl,
 rfl,
 (fun _ _ _ _ => rfl),
 rfl,
 rfl,
 rfl, trivial⟩
theorem ao_loop (ms : List Mm) (h64 : ms.length < 4611686018427387904) (hb : sumN ms ≤ 16) : Ok Try.prog (ntOf Try.prog 18) (.loop (lpC Try.prog 18 0)) (ao ms 0 []).st (.ext 0) (ao ms ms.length (memL 0 ms)).st := by
  have := Ok.loop (P := Try.prog) (nt := ntOf Try.prog 18) (c := lpC Try.prog 18 0) (F := fun k => ao ms k (memL 0 (ms.take k))) (m := ms.length) (x := .ext 0) (J := ao ms ms.length (memL 0 ms)) (fun k hk => by
    have h1 := sumN_take hk
    have h2 := sumN_take_le ms (k + 1)
    show Ok _ _ _ _ _ (ao _ (k + 1) (memL 0 (ms.take (k + 1)))).st
    have hl := memL_length 0 (ms.take k)
    have := Ok.vc (ao_step ms k (memL 0 (ms.take k)) h64 hk (by omega))
    rw [hl] at this
    rw [memL_take hk, Nat.zero_add]
    exact this)
    (by
      show Ok _ _ _ (ao _ ms.length (memL 0 (ms.take ms.length))).st _ _
      rw [List.take_length]
      exact Ok.vc (ao_end ms _)) (by simp)
  simpa [memL] using this
theorem ace_vc (W r0 r1 r2 r3 : Int) (ms : List Mm) (h64 : ms.length < 4611686018427387904) (hs : sumN ms ≤ 16) : Vc (vcFn Try.prog false 18 [.agg (progL W r0 r1 r2 r3 (memR ms))] [.lp [] (ao ms 0 []) (.ext 0) (ao ms ms.length (memL 0 ms))] [(0, 0)] (.own 0 0 3 0 (memL 0 ms).length) [plB (memL 0 ms)]) :=
  vc_of (q := ((0 : Nat) = (0 : Nat)) ∧ ((↑(List.length ms) : Int) = (↑(List.length ms) : Int)) ∧ (List.length ms = List.length ms) ∧ (∀ (i : Nat), i < List.length ms → ∀ (j : Nat), j < (3 : Nat) → rowL mmC ms i j = rowL mmC ms i j) ∧ ((0 : Int) = (↑(0 : Nat) : Int)) ∧ ((0 : Nat) = (0 : Nat)) ∧ ((0 : Nat) = (0 : Nat)) ∧ (Ok Try.prog (ntOf Try.prog 18) (.loop (lpC Try.prog 18 0)) (ao ms 0 []).st (.ext 0) (ao ms ms.length (memL 0 ms)).st) ∧ (List.length (memL (0 : Nat) ms) = List.length (memL (0 : Nat) ms)) ∧ (∀ (i : Nat), i < List.length (memL (0 : Nat) ms) → ∀ (j : Nat), j < (3 : Nat) → rowL plC (memL (0 : Nat) ms) i j = rowL plC (memL (0 : Nat) ms) i j) ∧ ((0 : Nat) = (0 : Nat)) ∧ (List.length (memL (0 : Nat) ms) = List.length (memL (0 : Nat) ms)) ∧ True) (by kernel_rfl)
    ⟨rfl,
 rfl,
 rfl,
 (fun _ _ _ _ => rfl),
 (by first | omega | rfl),
 rfl,
 rfl,
 ao_loop ms h64 hs,
 rfl,
 (fun _ _ _ _ => rfl),
 rfl,
 rfl, trivial⟩
theorem archCels (W r0 r1 r2 r3 : Int) (ms : List Mm) (h64 : ms.length < 4611686018427387904) (hs : sumN ms ≤ 16) : PureC Try.prog 18 [.agg (progL W r0 r1 r2 r3 (memR ms))] (.own 0 0 3 0 (memL 0 ms).length) [plB (memL 0 ms)] := PureC.vc (ace_vc W r0 r1 r2 r3 ms h64 hs)
end Go.Proofs.Ytdbnfdcjibgikaa.Px
