/- A state told in bytes, as the program tells it. -/
import Derived.Test.YtdbnfdcjibgikaaA7c
import Derived.Test.YtdbnfdcjibgikaaA7d
set_option linter.unusedVariables false
set_option linter.unusedSimpArgs false
set_option maxRecDepth 100000
namespace Go.Proofs.Ytdbnfdcjibgikaa.Px
open Go.RowKit Go.Proofs.Ytdbnfdcjibgikaa.Rx
def stA (r0 r1 r2 r3 : Int) (m : List Int) (sk : AV) (pc : Int) : List AV := [.int .i64 r0, .int .i64 r1, .int .i64 r2, .int .i64 r3, .row 1 m.length (rowI m), sk, .int .i64 pc]
def rptrA (cs : List AV) : AV := .rptr 7 (fun q => cs.getD q .junk) 0
def oneI (n : Int) : AV := .row 1 1 fun i j => [AV.int .i64 n].getD ((i + 0) * 1 + j) .junk
def catF (r0 r1 r2 r3 : Int) (m : List Int) (sk : AV) (n : Nat) (pc : Int) : Nat → Nat → AV := fun i j =>
  [AV.row 1 4 fun i k => (stA r0 r1 r2 r3 m sk pc).getD (0 + (i * 1 + k)) .junk, oneI m.length, .row 1 m.length (rowI m), oneI n, sk, oneI pc].getD (i * 1 + j) .junk
def catL (r0 r1 r2 r3 : Int) (m : List Int) (st : List Int) (pc : Int) : List (List Int) := [[r0, r1, r2, r3], [(m.length : Int)], m, [(st.length : Int)], st, [pc]]
/-- a state's numbers -/
def stL (r0 r1 r2 r3 : Int) (m : List Int) (st : List Int) (pc : Int) : List Int := (catL r0 r1 r2 r3 m st pc).flatten
def stBox (cs : List AV) : Nat × Blk := (0, ⟨0, false, 45, .box cs⟩)
def cdI (cs : List AV) : Sm := ⟨[(1, .bptr 0 0)], [stBox cs], 1⟩
def cdZ (cs : List AV) : Sm := ⟨[(1, rptrA cs)], [], 0⟩
def cdJ (L : List Int) : Sm := ⟨[(3, .own 0 0 1 0 L.length)], [(0, blkI L)], 1⟩
theorem stL_len (r0 r1 r2 r3 : Int) (m st : List Int) (pc : Int) : (stL r0 r1 r2 r3 m st pc).length = m.length + st.length + 7 := by
  simp [stL, catL]; omega
theorem cdz_n (r0 r1 r2 r3 : Int) (m : List Int) (pc : Int) : Vc (vcZ 1 (cdI (stA r0 r1 r2 r3 m .nils pc)) [] (cdZ (stA r0 r1 r2 r3 m .nils pc))) :=
  vc_of (q := (∀ (q : Nat),
  q < (7 : Nat) →
    List.getD
        [AV.int IntKind.i64 r0, AV.int IntKind.i64 r1,
          AV.int IntKind.i64 r2,
          AV.int IntKind.i64 r3,
          AV.row (nat_lit 1) (List.length m) fun (a a_1 : Nat) =>
            AV.int IntKind.i64 (List.getD m a (0 : Int)),
          AV.nils, AV.int IntKind.i64 pc]
        q AV.junk =
      List.getD
        [AV.int IntKind.i64 r0, AV.int IntKind.i64 r1,
          AV.int IntKind.i64 r2,
          AV.int IntKind.i64 r3,
          AV.row (nat_lit 1) (List.length m) fun (a a_1 : Nat) =>
            AV.int IntKind.i64 (List.getD m a (0 : Int)),
          AV.nils, AV.int IntKind.i64 pc]
        q AV.junk) ∧ True) (by kernel_rfl)
    ⟨(fun _ _ => rfl),
     trivial⟩
theorem cdr_n (r0 r1 r2 r3 : Int) (m : List Int) (pc : Int) (hl : (stL r0 r1 r2 r3 m [] pc).length ≤ 1000000) : Vc (vcC Try.prog false (ntOf Try.prog 13) (subC Try.prog 13 [1, 0]) (cdZ (stA r0 r1 r2 r3 m .nils pc)) [.cl [.row 1 6 (catF r0 r1 r2 r3 m .nils 0 pc)] (.own 0 0 1 0 (stL r0 r1 r2 r3 m [] pc).length) [blkI (stL r0 r1 r2 r3 m [] pc)]] .nrm [(0, 4)] (cdJ (stL r0 r1 r2 r3 m [] pc))) :=
  vc_of (q := ((6 : Nat) = (6 : Nat)) ∧ (∀ (i : Nat),
  i < (6 : Nat) →
    ∀ (j : Nat),
      j < (1 : Nat) →
        List.getD
            [AV.row (nat_lit 1) (nat_lit 4) fun (i k : Nat) =>
                List.getD
                  [AV.int IntKind.i64 r0,
                    AV.int IntKind.i64 r1,
                    AV.int IntKind.i64 r2,
                    AV.int IntKind.i64 r3,
                    AV.row (nat_lit 1) (List.length m) fun (a a_1 : Nat) =>
                      AV.int IntKind.i64 (List.getD m a (0 : Int)),
                    AV.nils, AV.int IntKind.i64 pc]
                  ((0 : Nat) + (i * (1 : Nat) + k)) AV.junk,
              AV.row (nat_lit 1) (nat_lit 1) fun (i j : Nat) =>
                List.getD [AV.int IntKind.i64 (↑(List.length m) : Int)]
                  ((i + (0 : Nat)) * (1 : Nat) + j) AV.junk,
              AV.row (nat_lit 1) (List.length m) fun (a a_1 : Nat) =>
                AV.int IntKind.i64 (List.getD m a (0 : Int)),
              AV.row (nat_lit 1) (nat_lit 1) fun (i j : Nat) =>
                List.getD [AV.int IntKind.i64 (0 : Int)]
                  ((i + (0 : Nat)) * (1 : Nat) + j) AV.junk,
              AV.nils,
              AV.row (nat_lit 1) (nat_lit 1) fun (i j : Nat) =>
                List.getD [AV.int IntKind.i64 pc] ((i + (0 : Nat)) * (1 : Nat) + j)
                  AV.junk]
            ((i + (0 : Nat)) * (1 : Nat) + j) AV.junk =
          catF r0 r1 r2 r3 m AV.nils (0 : Nat) pc i j) ∧ (PureC Try.prog 26 [.row 1 6 (catF r0 r1 r2 r3 m .nils 0 pc)] (.own 0 0 1 0 (stL r0 r1 r2 r3 m [] pc).length) [blkI (stL r0 r1 r2 r3 m [] pc)]) ∧ (List.length
    (r0 ::
      r1 ::
        r2 ::
          r3 ::
            (↑(List.length m) : Int) ::
              List.append._f [] PUnit.unit
                (List.flatten._f [m, [(↑(0 : Nat) : Int)], [], [pc]]
                  (List.rec ⟨[], PUnit.unit⟩
                    (fun (head : List Int) (tail : List (List Int)) (tail_ih : List Int ×' List.below tail) =>
                      ⟨List.flatten._f (head :: tail) tail_ih, tail_ih⟩)
                    [[(↑(0 : Nat) : Int)], [], [pc]]))) =
  List.length
    (r0 ::
      r1 ::
        r2 ::
          r3 ::
            (↑(List.length m) : Int) ::
              List.append._f [] PUnit.unit
                (List.flatten._f [m, [(↑(0 : Nat) : Int)], [], [pc]]
                  (List.rec ⟨[], PUnit.unit⟩
                    (fun (head : List Int) (tail : List (List Int)) (tail_ih : List Int ×' List.below tail) =>
                      ⟨List.flatten._f (head :: tail) tail_ih, tail_ih⟩)
                    [[(↑(0 : Nat) : Int)], [], [pc]])))) ∧ (∀ (i : Nat),
  i <
      List.length
        (r0 ::
          r1 ::
            r2 ::
              r3 ::
                (↑(List.length m) : Int) ::
                  List.append._f [] PUnit.unit
                    (List.flatten._f [m, [(↑(0 : Nat) : Int)], [], [pc]]
                      (List.rec ⟨[], PUnit.unit⟩
                        (fun (head : List Int) (tail : List (List Int)) (tail_ih : List Int ×' List.below tail) =>
                          ⟨List.flatten._f (head :: tail) tail_ih, tail_ih⟩)
                        [[(↑(0 : Nat) : Int)], [], [pc]]))) →
    ∀ (j : Nat),
      j < (1 : Nat) →
        AV.int IntKind.i64
            (List.getD
              (r0 ::
                r1 ::
                  r2 ::
                    r3 ::
                      (↑(List.length m) : Int) ::
                        List.append._f [] PUnit.unit
                          (List.flatten._f [m, [(↑(0 : Nat) : Int)], [], [pc]]
                            (List.rec ⟨[], PUnit.unit⟩
                              (fun (head : List Int) (tail : List (List Int)) (tail_ih : List Int ×' List.below tail) =>
                                ⟨List.flatten._f (head :: tail) tail_ih, tail_ih⟩)
                              [[(↑(0 : Nat) : Int)], [], [pc]])))
              i (0 : Int)) =
          AV.int IntKind.i64
            (List.getD
              (r0 ::
                r1 ::
                  r2 ::
                    r3 ::
                      (↑(List.length m) : Int) ::
                        List.append._f [] PUnit.unit
                          (List.flatten._f [m, [(↑(0 : Nat) : Int)], [], [pc]]
                            (List.rec ⟨[], PUnit.unit⟩
                              (fun (head : List Int) (tail : List (List Int)) (tail_ih : List Int ×' List.below tail) =>
                                ⟨List.flatten._f (head :: tail) tail_ih, tail_ih⟩)
                              [[(↑(0 : Nat) : Int)], [], [pc]])))
              i (0 : Int))) ∧ ((0 : Nat) = (0 : Nat)) ∧ (List.length
    (r0 ::
      r1 ::
        r2 ::
          r3 ::
            (↑(List.length m) : Int) ::
              List.append._f [] PUnit.unit
                (List.flatten._f [m, [(↑(0 : Nat) : Int)], [], [pc]]
                  (List.rec ⟨[], PUnit.unit⟩
                    (fun (head : List Int) (tail : List (List Int)) (tail_ih : List Int ×' List.below tail) =>
                      ⟨List.flatten._f (head :: tail) tail_ih, tail_ih⟩)
                    [[(↑(0 : Nat) : Int)], [], [pc]]))) =
  List.length
    (r0 ::
      r1 ::
        r2 ::
          r3 ::
            (↑(List.length m) : Int) ::
              List.append._f [] PUnit.unit
                (List.flatten._f [m, [(↑(0 : Nat) : Int)], [], [pc]]
                  (List.rec ⟨[], PUnit.unit⟩
                    (fun (head : List Int) (tail : List (List Int)) (tail_ih : List Int ×' List.below tail) =>
                      ⟨List.flatten._f (head :: tail) tail_ih, tail_ih⟩)
                    [[(↑(0 : Nat) : Int)], [], [pc]])))) ∧ True) (by kernel_rfl)
    ⟨rfl,
     (fun i hi j hj => match i, hi, j, hj with | 0, _, 0, _ => rfl | 1, _, 0, _ => rfl | 2, _, 0, _ => rfl | 3, _, 0, _ => rfl | 4, _, 0, _ => rfl | 5, _, 0, _ => rfl),
     concatC (L := catL r0 r1 r2 r3 m [] pc) (f := catF r0 r1 r2 r3 m .nils 0 pc) (fun i hi => match i, hi with
        | 0, _ => .inr ⟨_, rfl, fun i hi => match i, hi with | 0, _ => rfl | 1, _ => rfl | 2, _ => rfl | 3, _ => rfl⟩
        | 1, _ => .inr ⟨_, rfl, fun i hi => match i, hi with | 0, _ => rfl⟩
        | 2, _ => .row m
        | 3, _ => .inr ⟨_, rfl, fun i hi => match i, hi with | 0, _ => rfl⟩
        | 4, _ => .nil
        | 5, _ => .inr ⟨_, rfl, fun i hi => match i, hi with | 0, _ => rfl⟩) (by show 0 < (stL r0 r1 r2 r3 m [] pc).length; rw [stL_len]; omega) hl (by simp [catL]),
     rfl,
     (fun _ _ _ _ => rfl),
     rfl,
     rfl,
     trivial⟩
theorem cdf_n (r0 r1 r2 r3 : Int) (m : List Int) (pc : Int) (hl : (stL r0 r1 r2 r3 m [] pc).length ≤ 1000000) (hi : Cd.isI (stL r0 r1 r2 r3 m [] pc)) : Vc (vcFn Try.prog false 13 [.agg (stA r0 r1 r2 r3 m .nils pc)] [.le [] ⟨[(0, .agg (stA r0 r1 r2 r3 m .nils pc))], [], 0⟩, .sr [(0, 0)] (cdI (stA r0 r1 r2 r3 m .nils pc)) .nrm (cdJ (stL r0 r1 r2 r3 m [] pc)), .cl [.row 1 (stL r0 r1 r2 r3 m [] pc).length (rowI (stL r0 r1 r2 r3 m [] pc))] (.own 0 0 1 0 (Cd.putL (stL r0 r1 r2 r3 m [] pc)).length) [blkB (Cd.putL (stL r0 r1 r2 r3 m [] pc))]] [(0, 1)] (.own 0 0 1 0 (Cd.putL (stL r0 r1 r2 r3 m [] pc)).length) [blkB (Cd.putL (stL r0 r1 r2 r3 m [] pc))]) :=
  vc_of (q := (r0 = r0) ∧ (r1 = r1) ∧ (r2 = r2) ∧ (r3 = r3) ∧ (List.length m = List.length m) ∧ (∀ (i : Nat),
  i < List.length m →
    ∀ (j : Nat),
      j < (1 : Nat) →
        AV.int IntKind.i64 (List.getD m i (0 : Int)) =
          AV.int IntKind.i64 (List.getD m i (0 : Int))) ∧ (pc = pc) ∧ (r0 = r0) ∧ (r1 = r1) ∧ (r2 = r2) ∧ (r3 = r3) ∧ (List.length m = List.length m) ∧ (∀ (i : Nat),
  i < List.length m →
    ∀ (j : Nat),
      j < (1 : Nat) →
        AV.int IntKind.i64 (List.getD m i (0 : Int)) =
          AV.int IntKind.i64 (List.getD m i (0 : Int))) ∧ (pc = pc) ∧ (Ok Try.prog (ntOf Try.prog 13) (subC Try.prog 13 [1, 0]) (cdI (stA r0 r1 r2 r3 m .nils pc)).st .nrm (cdJ (stL r0 r1 r2 r3 m [] pc)).st) ∧ (List.length
    (r0 ::
      r1 ::
        r2 ::
          r3 ::
            (↑(List.length m) : Int) ::
              List.append._f [] PUnit.unit
                (List.flatten._f [m, [(↑(0 : Nat) : Int)], [], [pc]]
                  (List.rec ⟨[], PUnit.unit⟩
                    (fun (head : List Int) (tail : List (List Int)) (tail_ih : List Int ×' List.below tail) =>
                      ⟨List.flatten._f (head :: tail) tail_ih, tail_ih⟩)
                    [[(↑(0 : Nat) : Int)], [], [pc]]))) =
  List.length
    (r0 ::
      r1 ::
        r2 ::
          r3 ::
            (↑(List.length m) : Int) ::
              List.append._f [] PUnit.unit
                (List.flatten._f [m, [(↑(0 : Nat) : Int)], [], [pc]]
                  (List.rec ⟨[], PUnit.unit⟩
                    (fun (head : List Int) (tail : List (List Int)) (tail_ih : List Int ×' List.below tail) =>
                      ⟨List.flatten._f (head :: tail) tail_ih, tail_ih⟩)
                    [[(↑(0 : Nat) : Int)], [], [pc]])))) ∧ (∀ (i : Nat),
  i <
      List.length
        (r0 ::
          r1 ::
            r2 ::
              r3 ::
                (↑(List.length m) : Int) ::
                  List.append._f [] PUnit.unit
                    (List.flatten._f [m, [(↑(0 : Nat) : Int)], [], [pc]]
                      (List.rec ⟨[], PUnit.unit⟩
                        (fun (head : List Int) (tail : List (List Int)) (tail_ih : List Int ×' List.below tail) =>
                          ⟨List.flatten._f (head :: tail) tail_ih, tail_ih⟩)
                        [[(↑(0 : Nat) : Int)], [], [pc]]))) →
    ∀ (j : Nat),
      j < (1 : Nat) →
        AV.int IntKind.i64
            (List.getD
              (r0 ::
                r1 ::
                  r2 ::
                    r3 ::
                      (↑(List.length m) : Int) ::
                        List.append._f [] PUnit.unit
                          (List.flatten._f [m, [(↑(0 : Nat) : Int)], [], [pc]]
                            (List.rec ⟨[], PUnit.unit⟩
                              (fun (head : List Int) (tail : List (List Int)) (tail_ih : List Int ×' List.below tail) =>
                                ⟨List.flatten._f (head :: tail) tail_ih, tail_ih⟩)
                              [[(↑(0 : Nat) : Int)], [], [pc]])))
              (i + (0 : Nat)) (0 : Int)) =
          AV.int IntKind.i64
            (List.getD
              (r0 ::
                r1 ::
                  r2 ::
                    r3 ::
                      (↑(List.length m) : Int) ::
                        List.append._f [] PUnit.unit
                          (List.flatten._f [m, [(↑(0 : Nat) : Int)], [], [pc]]
                            (List.rec ⟨[], PUnit.unit⟩
                              (fun (head : List Int) (tail : List (List Int)) (tail_ih : List Int ×' List.below tail) =>
                                ⟨List.flatten._f (head :: tail) tail_ih, tail_ih⟩)
                              [[(↑(0 : Nat) : Int)], [], [pc]])))
              i (0 : Int))) ∧ (PureC Try.prog 27 [.row 1 (stL r0 r1 r2 r3 m [] pc).length (rowI (stL r0 r1 r2 r3 m [] pc))] (.own 0 0 1 0 (Cd.putL (stL r0 r1 r2 r3 m [] pc)).length) [blkB (Cd.putL (stL r0 r1 r2 r3 m [] pc))]) ∧ (List.length
    (Cd.putL
      (r0 ::
        r1 ::
          r2 ::
            r3 ::
              (↑(List.length m) : Int) ::
                List.append._f [] PUnit.unit
                  (List.flatten._f [m, [(↑(0 : Nat) : Int)], [], [pc]]
                    (List.rec ⟨[], PUnit.unit⟩
                      (fun (head : List Int) (tail : List (List Int)) (tail_ih : List Int ×' List.below tail) =>
                        ⟨List.flatten._f (head :: tail) tail_ih, tail_ih⟩)
                      [[(↑(0 : Nat) : Int)], [], [pc]])))) =
  List.length
    (Cd.putL
      (r0 ::
        r1 ::
          r2 ::
            r3 ::
              (↑(List.length m) : Int) ::
                List.append._f [] PUnit.unit
                  (List.flatten._f [m, [(↑(0 : Nat) : Int)], [], [pc]]
                    (List.rec ⟨[], PUnit.unit⟩
                      (fun (head : List Int) (tail : List (List Int)) (tail_ih : List Int ×' List.below tail) =>
                        ⟨List.flatten._f (head :: tail) tail_ih, tail_ih⟩)
                      [[(↑(0 : Nat) : Int)], [], [pc]]))))) ∧ (∀ (i : Nat),
  i <
      List.length
        (Cd.putL
          (r0 ::
            r1 ::
              r2 ::
                r3 ::
                  (↑(List.length m) : Int) ::
                    List.append._f [] PUnit.unit
                      (List.flatten._f [m, [(↑(0 : Nat) : Int)], [], [pc]]
                        (List.rec ⟨[], PUnit.unit⟩
                          (fun (head : List Int) (tail : List (List Int)) (tail_ih : List Int ×' List.below tail) =>
                            ⟨List.flatten._f (head :: tail) tail_ih, tail_ih⟩)
                          [[(↑(0 : Nat) : Int)], [], [pc]])))) →
    ∀ (j : Nat),
      j < (1 : Nat) →
        AV.int IntKind.u8
            (List.getD
              (Cd.putL
                (r0 ::
                  r1 ::
                    r2 ::
                      r3 ::
                        (↑(List.length m) : Int) ::
                          List.append._f [] PUnit.unit
                            (List.flatten._f [m, [(↑(0 : Nat) : Int)], [], [pc]]
                              (List.rec ⟨[], PUnit.unit⟩
                                (fun (head : List Int) (tail : List (List Int))
                                    (tail_ih : List Int ×' List.below tail) =>
                                  ⟨List.flatten._f (head :: tail) tail_ih, tail_ih⟩)
                                [[(↑(0 : Nat) : Int)], [], [pc]]))))
              i (0 : Int)) =
          AV.int IntKind.u8
            (List.getD
              (Cd.putL
                (r0 ::
                  r1 ::
                    r2 ::
                      r3 ::
                        (↑(List.length m) : Int) ::
                          List.append._f [] PUnit.unit
                            (List.flatten._f [m, [(↑(0 : Nat) : Int)], [], [pc]]
                              (List.rec ⟨[], PUnit.unit⟩
                                (fun (head : List Int) (tail : List (List Int))
                                    (tail_ih : List Int ×' List.below tail) =>
                                  ⟨List.flatten._f (head :: tail) tail_ih, tail_ih⟩)
                                [[(↑(0 : Nat) : Int)], [], [pc]]))))
              i (0 : Int))) ∧ ((0 : Nat) = (0 : Nat)) ∧ (List.length
    (Cd.putL
      (r0 ::
        r1 ::
          r2 ::
            r3 ::
              (↑(List.length m) : Int) ::
                List.append._f [] PUnit.unit
                  (List.flatten._f [m, [(↑(0 : Nat) : Int)], [], [pc]]
                    (List.rec ⟨[], PUnit.unit⟩
                      (fun (head : List Int) (tail : List (List Int)) (tail_ih : List Int ×' List.below tail) =>
                        ⟨List.flatten._f (head :: tail) tail_ih, tail_ih⟩)
                      [[(↑(0 : Nat) : Int)], [], [pc]])))) =
  List.length
    (Cd.putL
      (r0 ::
        r1 ::
          r2 ::
            r3 ::
              (↑(List.length m) : Int) ::
                List.append._f [] PUnit.unit
                  (List.flatten._f [m, [(↑(0 : Nat) : Int)], [], [pc]]
                    (List.rec ⟨[], PUnit.unit⟩
                      (fun (head : List Int) (tail : List (List Int)) (tail_ih : List Int ×' List.below tail) =>
                        ⟨List.flatten._f (head :: tail) tail_ih, tail_ih⟩)
                      [[(↑(0 : Nat) : Int)], [], [pc]]))))) ∧ True) (by kernel_rfl)
    ⟨rfl,
     rfl,
     rfl,
     rfl,
     rfl,
     (fun _ _ _ _ => rfl),
     rfl,
     rfl,
     rfl,
     rfl,
     rfl,
     rfl,
     (fun _ _ _ _ => rfl),
     rfl,
     Ok.freeze (cdz_n r0 r1 r2 r3 m pc) (Ok.vc (cdr_n r0 r1 r2 r3 m pc hl)),
     rfl,
     (fun _ _ _ _ => rfl),
     putC (.row _) hl hi,
     rfl,
     (fun _ _ _ _ => rfl),
     rfl,
     rfl,
     trivial⟩
theorem codeC_n (r0 r1 r2 r3 : Int) (m : List Int) (pc : Int) (hl : (stL r0 r1 r2 r3 m [] pc).length ≤ 1000000) (hi : Cd.isI (stL r0 r1 r2 r3 m [] pc)) : PureC Try.prog 13 [.agg (stA r0 r1 r2 r3 m .nils pc)] (.own 0 0 1 0 (Cd.putL (stL r0 r1 r2 r3 m [] pc)).length) [blkB (Cd.putL (stL r0 r1 r2 r3 m [] pc))] := PureC.vc (cdf_n r0 r1 r2 r3 m pc hl hi)
theorem cdz_r (r0 r1 r2 r3 : Int) (m : List Int) (pc : Int) (st : List Int) : Vc (vcZ 1 (cdI (stA r0 r1 r2 r3 m (.row 1 st.length (rowI st)) pc)) [] (cdZ (stA r0 r1 r2 r3 m (.row 1 st.length (rowI st)) pc))) :=
  vc_of (q := (∀ (q : Nat),
  q < (7 : Nat) →
    List.getD
        [AV.int IntKind.i64 r0, AV.int IntKind.i64 r1,
          AV.int IntKind.i64 r2,
          AV.int IntKind.i64 r3,
          AV.row (nat_lit 1) (List.length m) fun (a a_1 : Nat) =>
            AV.int IntKind.i64 (List.getD m a (0 : Int)),
          AV.row (nat_lit 1) (List.length st) fun (a a_1 : Nat) =>
            AV.int IntKind.i64 (List.getD st a (0 : Int)),
          AV.int IntKind.i64 pc]
        q AV.junk =
      List.getD
        [AV.int IntKind.i64 r0, AV.int IntKind.i64 r1,
          AV.int IntKind.i64 r2,
          AV.int IntKind.i64 r3,
          AV.row (nat_lit 1) (List.length m) fun (a a_1 : Nat) =>
            AV.int IntKind.i64 (List.getD m a (0 : Int)),
          AV.row (nat_lit 1) (List.length st) fun (a a_1 : Nat) =>
            AV.int IntKind.i64 (List.getD st a (0 : Int)),
          AV.int IntKind.i64 pc]
        q AV.junk) ∧ True) (by kernel_rfl)
    ⟨(fun _ _ => rfl),
     trivial⟩
theorem cdr_r (r0 r1 r2 r3 : Int) (m : List Int) (pc : Int) (st : List Int) (hl : (stL r0 r1 r2 r3 m st pc).length ≤ 1000000) : Vc (vcC Try.prog false (ntOf Try.prog 13) (subC Try.prog 13 [1, 0]) (cdZ (stA r0 r1 r2 r3 m (.row 1 st.length (rowI st)) pc)) [.cl [.row 1 6 (catF r0 r1 r2 r3 m (.row 1 st.length (rowI st)) st.length pc)] (.own 0 0 1 0 (stL r0 r1 r2 r3 m st pc).length) [blkI (stL r0 r1 r2 r3 m st pc)]] .nrm [(0, 4)] (cdJ (stL r0 r1 r2 r3 m st pc))) :=
  vc_of (q := ((6 : Nat) = (6 : Nat)) ∧ (∀ (i : Nat),
  i < (6 : Nat) →
    ∀ (j : Nat),
      j < (1 : Nat) →
        List.getD
            [AV.row (nat_lit 1) (nat_lit 4) fun (i k : Nat) =>
                List.getD
                  [AV.int IntKind.i64 r0,
                    AV.int IntKind.i64 r1,
                    AV.int IntKind.i64 r2,
                    AV.int IntKind.i64 r3,
                    AV.row (nat_lit 1) (List.length m) fun (a a_1 : Nat) =>
                      AV.int IntKind.i64 (List.getD m a (0 : Int)),
                    AV.row (nat_lit 1) (List.length st) fun (a a_1 : Nat) =>
                      AV.int IntKind.i64 (List.getD st a (0 : Int)),
                    AV.int IntKind.i64 pc]
                  ((0 : Nat) + (i * (1 : Nat) + k)) AV.junk,
              AV.row (nat_lit 1) (nat_lit 1) fun (i j : Nat) =>
                List.getD [AV.int IntKind.i64 (↑(List.length m) : Int)]
                  ((i + (0 : Nat)) * (1 : Nat) + j) AV.junk,
              AV.row (nat_lit 1) (List.length m) fun (a a_1 : Nat) =>
                AV.int IntKind.i64 (List.getD m a (0 : Int)),
              AV.row (nat_lit 1) (nat_lit 1) fun (i j : Nat) =>
                List.getD [AV.int IntKind.i64 (↑(List.length st) : Int)]
                  ((i + (0 : Nat)) * (1 : Nat) + j) AV.junk,
              AV.row (nat_lit 1) (List.length st) fun (a a_1 : Nat) =>
                AV.int IntKind.i64 (List.getD st a (0 : Int)),
              AV.row (nat_lit 1) (nat_lit 1) fun (i j : Nat) =>
                List.getD [AV.int IntKind.i64 pc] ((i + (0 : Nat)) * (1 : Nat) + j)
                  AV.junk]
            ((i + (0 : Nat)) * (1 : Nat) + j) AV.junk =
          catF r0 r1 r2 r3 m
            (AV.row (1 : Nat) (List.length st) (rowI st))
            (List.length st) pc i j) ∧ (PureC Try.prog 26 [.row 1 6 (catF r0 r1 r2 r3 m (.row 1 st.length (rowI st)) st.length pc)] (.own 0 0 1 0 (stL r0 r1 r2 r3 m st pc).length) [blkI (stL r0 r1 r2 r3 m st pc)]) ∧ (List.length
    (r0 ::
      r1 ::
        r2 ::
          r3 ::
            (↑(List.length m) : Int) ::
              List.append._f [] PUnit.unit
                (List.flatten._f [m, [(↑(List.length st) : Int)], st, [pc]]
                  (List.rec ⟨[], PUnit.unit⟩
                    (fun (head : List Int) (tail : List (List Int)) (tail_ih : List Int ×' List.below tail) =>
                      ⟨List.flatten._f (head :: tail) tail_ih, tail_ih⟩)
                    [[(↑(List.length st) : Int)], st, [pc]]))) =
  List.length
    (r0 ::
      r1 ::
        r2 ::
          r3 ::
            (↑(List.length m) : Int) ::
              List.append._f [] PUnit.unit
                (List.flatten._f [m, [(↑(List.length st) : Int)], st, [pc]]
                  (List.rec ⟨[], PUnit.unit⟩
                    (fun (head : List Int) (tail : List (List Int)) (tail_ih : List Int ×' List.below tail) =>
                      ⟨List.flatten._f (head :: tail) tail_ih, tail_ih⟩)
                    [[(↑(List.length st) : Int)], st, [pc]])))) ∧ (∀ (i : Nat),
  i <
      List.length
        (r0 ::
          r1 ::
            r2 ::
              r3 ::
                (↑(List.length m) : Int) ::
                  List.append._f [] PUnit.unit
                    (List.flatten._f [m, [(↑(List.length st) : Int)], st, [pc]]
                      (List.rec ⟨[], PUnit.unit⟩
                        (fun (head : List Int) (tail : List (List Int)) (tail_ih : List Int ×' List.below tail) =>
                          ⟨List.flatten._f (head :: tail) tail_ih, tail_ih⟩)
                        [[(↑(List.length st) : Int)], st, [pc]]))) →
    ∀ (j : Nat),
      j < (1 : Nat) →
        AV.int IntKind.i64
            (List.getD
              (r0 ::
                r1 ::
                  r2 ::
                    r3 ::
                      (↑(List.length m) : Int) ::
                        List.append._f [] PUnit.unit
                          (List.flatten._f [m, [(↑(List.length st) : Int)], st, [pc]]
                            (List.rec ⟨[], PUnit.unit⟩
                              (fun (head : List Int) (tail : List (List Int)) (tail_ih : List Int ×' List.below tail) =>
                                ⟨List.flatten._f (head :: tail) tail_ih, tail_ih⟩)
                              [[(↑(List.length st) : Int)], st, [pc]])))
              i (0 : Int)) =
          AV.int IntKind.i64
            (List.getD
              (r0 ::
                r1 ::
                  r2 ::
                    r3 ::
                      (↑(List.length m) : Int) ::
                        List.append._f [] PUnit.unit
                          (List.flatten._f [m, [(↑(List.length st) : Int)], st, [pc]]
                            (List.rec ⟨[], PUnit.unit⟩
                              (fun (head : List Int) (tail : List (List Int)) (tail_ih : List Int ×' List.below tail) =>
                                ⟨List.flatten._f (head :: tail) tail_ih, tail_ih⟩)
                              [[(↑(List.length st) : Int)], st, [pc]])))
              i (0 : Int))) ∧ ((0 : Nat) = (0 : Nat)) ∧ (List.length
    (r0 ::
      r1 ::
        r2 ::
          r3 ::
            (↑(List.length m) : Int) ::
              List.append._f [] PUnit.unit
                (List.flatten._f [m, [(↑(List.length st) : Int)], st, [pc]]
                  (List.rec ⟨[], PUnit.unit⟩
                    (fun (head : List Int) (tail : List (List Int)) (tail_ih : List Int ×' List.below tail) =>
                      ⟨List.flatten._f (head :: tail) tail_ih, tail_ih⟩)
                    [[(↑(List.length st) : Int)], st, [pc]]))) =
  List.length
    (r0 ::
      r1 ::
        r2 ::
          r3 ::
            (↑(List.length m) : Int) ::
              List.append._f [] PUnit.unit
                (List.flatten._f [m, [(↑(List.length st) : Int)], st, [pc]]
                  (List.rec ⟨[], PUnit.unit⟩
                    (fun (head : List Int) (tail : List (List Int)) (tail_ih : List Int ×' List.below tail) =>
                      ⟨List.flatten._f (head :: tail) tail_ih, tail_ih⟩)
                    [[(↑(List.length st) : Int)], st, [pc]])))) ∧ True) (by kernel_rfl)
    ⟨rfl,
     (fun i hi j hj => match i, hi, j, hj with | 0, _, 0, _ => rfl | 1, _, 0, _ => rfl | 2, _, 0, _ => rfl | 3, _, 0, _ => rfl | 4, _, 0, _ => rfl | 5, _, 0, _ => rfl),
     concatC (L := catL r0 r1 r2 r3 m st pc) (f := catF r0 r1 r2 r3 m (.row 1 st.length (rowI st)) st.length pc) (fun i hi => match i, hi with
        | 0, _ => .inr ⟨_, rfl, fun i hi => match i, hi with | 0, _ => rfl | 1, _ => rfl | 2, _ => rfl | 3, _ => rfl⟩
        | 1, _ => .inr ⟨_, rfl, fun i hi => match i, hi with | 0, _ => rfl⟩
        | 2, _ => .row m
        | 3, _ => .inr ⟨_, rfl, fun i hi => match i, hi with | 0, _ => rfl⟩
        | 4, _ => .row st
        | 5, _ => .inr ⟨_, rfl, fun i hi => match i, hi with | 0, _ => rfl⟩) (by show 0 < (stL r0 r1 r2 r3 m st pc).length; rw [stL_len]; omega) hl (by simp [catL]),
     rfl,
     (fun _ _ _ _ => rfl),
     rfl,
     rfl,
     trivial⟩
theorem cdf_r (r0 r1 r2 r3 : Int) (m : List Int) (pc : Int) (st : List Int) (hl : (stL r0 r1 r2 r3 m st pc).length ≤ 1000000) (hi : Cd.isI (stL r0 r1 r2 r3 m st pc)) : Vc (vcFn Try.prog false 13 [.agg (stA r0 r1 r2 r3 m (.row 1 st.length (rowI st)) pc)] [.le [] ⟨[(0, .agg (stA r0 r1 r2 r3 m (.row 1 st.length (rowI st)) pc))], [], 0⟩, .sr [(0, 0)] (cdI (stA r0 r1 r2 r3 m (.row 1 st.length (rowI st)) pc)) .nrm (cdJ (stL r0 r1 r2 r3 m st pc)), .cl [.row 1 (stL r0 r1 r2 r3 m st pc).length (rowI (stL r0 r1 r2 r3 m st pc))] (.own 0 0 1 0 (Cd.putL (stL r0 r1 r2 r3 m st pc)).length) [blkB (Cd.putL (stL r0 r1 r2 r3 m st pc))]] [(0, 1)] (.own 0 0 1 0 (Cd.putL (stL r0 r1 r2 r3 m st pc)).length) [blkB (Cd.putL (stL r0 r1 r2 r3 m st pc))]) :=
  vc_of (q := (r0 = r0) ∧ (r1 = r1) ∧ (r2 = r2) ∧ (r3 = r3) ∧ (List.length m = List.length m) ∧ (∀ (i : Nat),
  i < List.length m →
    ∀ (j : Nat),
      j < (1 : Nat) →
        AV.int IntKind.i64 (List.getD m i (0 : Int)) =
          AV.int IntKind.i64 (List.getD m i (0 : Int))) ∧ (List.length st = List.length st) ∧ (∀ (i : Nat),
  i < List.length st →
    ∀ (j : Nat),
      j < (1 : Nat) →
        AV.int IntKind.i64 (List.getD st i (0 : Int)) =
          AV.int IntKind.i64 (List.getD st i (0 : Int))) ∧ (pc = pc) ∧ (r0 = r0) ∧ (r1 = r1) ∧ (r2 = r2) ∧ (r3 = r3) ∧ (List.length m = List.length m) ∧ (∀ (i : Nat),
  i < List.length m →
    ∀ (j : Nat),
      j < (1 : Nat) →
        AV.int IntKind.i64 (List.getD m i (0 : Int)) =
          AV.int IntKind.i64 (List.getD m i (0 : Int))) ∧ (List.length st = List.length st) ∧ (∀ (i : Nat),
  i < List.length st →
    ∀ (j : Nat),
      j < (1 : Nat) →
        AV.int IntKind.i64 (List.getD st i (0 : Int)) =
          AV.int IntKind.i64 (List.getD st i (0 : Int))) ∧ (pc = pc) ∧ (Ok Try.prog (ntOf Try.prog 13) (subC Try.prog 13 [1, 0]) (cdI (stA r0 r1 r2 r3 m (.row 1 st.length (rowI st)) pc)).st .nrm (cdJ (stL r0 r1 r2 r3 m st pc)).st) ∧ (List.length
    (r0 ::
      r1 ::
        r2 ::
          r3 ::
            (↑(List.length m) : Int) ::
              List.append._f [] PUnit.unit
                (List.flatten._f [m, [(↑(List.length st) : Int)], st, [pc]]
                  (List.rec ⟨[], PUnit.unit⟩
                    (fun (head : List Int) (tail : List (List Int)) (tail_ih : List Int ×' List.below tail) =>
                      ⟨List.flatten._f (head :: tail) tail_ih, tail_ih⟩)
                    [[(↑(List.length st) : Int)], st, [pc]]))) =
  List.length
    (r0 ::
      r1 ::
        r2 ::
          r3 ::
            (↑(List.length m) : Int) ::
              List.append._f [] PUnit.unit
                (List.flatten._f [m, [(↑(List.length st) : Int)], st, [pc]]
                  (List.rec ⟨[], PUnit.unit⟩
                    (fun (head : List Int) (tail : List (List Int)) (tail_ih : List Int ×' List.below tail) =>
                      ⟨List.flatten._f (head :: tail) tail_ih, tail_ih⟩)
                    [[(↑(List.length st) : Int)], st, [pc]])))) ∧ (∀ (i : Nat),
  i <
      List.length
        (r0 ::
          r1 ::
            r2 ::
              r3 ::
                (↑(List.length m) : Int) ::
                  List.append._f [] PUnit.unit
                    (List.flatten._f [m, [(↑(List.length st) : Int)], st, [pc]]
                      (List.rec ⟨[], PUnit.unit⟩
                        (fun (head : List Int) (tail : List (List Int)) (tail_ih : List Int ×' List.below tail) =>
                          ⟨List.flatten._f (head :: tail) tail_ih, tail_ih⟩)
                        [[(↑(List.length st) : Int)], st, [pc]]))) →
    ∀ (j : Nat),
      j < (1 : Nat) →
        AV.int IntKind.i64
            (List.getD
              (r0 ::
                r1 ::
                  r2 ::
                    r3 ::
                      (↑(List.length m) : Int) ::
                        List.append._f [] PUnit.unit
                          (List.flatten._f [m, [(↑(List.length st) : Int)], st, [pc]]
                            (List.rec ⟨[], PUnit.unit⟩
                              (fun (head : List Int) (tail : List (List Int)) (tail_ih : List Int ×' List.below tail) =>
                                ⟨List.flatten._f (head :: tail) tail_ih, tail_ih⟩)
                              [[(↑(List.length st) : Int)], st, [pc]])))
              (i + (0 : Nat)) (0 : Int)) =
          AV.int IntKind.i64
            (List.getD
              (r0 ::
                r1 ::
                  r2 ::
                    r3 ::
                      (↑(List.length m) : Int) ::
                        List.append._f [] PUnit.unit
                          (List.flatten._f [m, [(↑(List.length st) : Int)], st, [pc]]
                            (List.rec ⟨[], PUnit.unit⟩
                              (fun (head : List Int) (tail : List (List Int)) (tail_ih : List Int ×' List.below tail) =>
                                ⟨List.flatten._f (head :: tail) tail_ih, tail_ih⟩)
                              [[(↑(List.length st) : Int)], st, [pc]])))
              i (0 : Int))) ∧ (PureC Try.prog 27 [.row 1 (stL r0 r1 r2 r3 m st pc).length (rowI (stL r0 r1 r2 r3 m st pc))] (.own 0 0 1 0 (Cd.putL (stL r0 r1 r2 r3 m st pc)).length) [blkB (Cd.putL (stL r0 r1 r2 r3 m st pc))]) ∧ (List.length
    (Cd.putL
      (r0 ::
        r1 ::
          r2 ::
            r3 ::
              (↑(List.length m) : Int) ::
                List.append._f [] PUnit.unit
                  (List.flatten._f [m, [(↑(List.length st) : Int)], st, [pc]]
                    (List.rec ⟨[], PUnit.unit⟩
                      (fun (head : List Int) (tail : List (List Int)) (tail_ih : List Int ×' List.below tail) =>
                        ⟨List.flatten._f (head :: tail) tail_ih, tail_ih⟩)
                      [[(↑(List.length st) : Int)], st, [pc]])))) =
  List.length
    (Cd.putL
      (r0 ::
        r1 ::
          r2 ::
            r3 ::
              (↑(List.length m) : Int) ::
                List.append._f [] PUnit.unit
                  (List.flatten._f [m, [(↑(List.length st) : Int)], st, [pc]]
                    (List.rec ⟨[], PUnit.unit⟩
                      (fun (head : List Int) (tail : List (List Int)) (tail_ih : List Int ×' List.below tail) =>
                        ⟨List.flatten._f (head :: tail) tail_ih, tail_ih⟩)
                      [[(↑(List.length st) : Int)], st, [pc]]))))) ∧ (∀ (i : Nat),
  i <
      List.length
        (Cd.putL
          (r0 ::
            r1 ::
              r2 ::
                r3 ::
                  (↑(List.length m) : Int) ::
                    List.append._f [] PUnit.unit
                      (List.flatten._f [m, [(↑(List.length st) : Int)], st, [pc]]
                        (List.rec ⟨[], PUnit.unit⟩
                          (fun (head : List Int) (tail : List (List Int)) (tail_ih : List Int ×' List.below tail) =>
                            ⟨List.flatten._f (head :: tail) tail_ih, tail_ih⟩)
                          [[(↑(List.length st) : Int)], st, [pc]])))) →
    ∀ (j : Nat),
      j < (1 : Nat) →
        AV.int IntKind.u8
            (List.getD
              (Cd.putL
                (r0 ::
                  r1 ::
                    r2 ::
                      r3 ::
                        (↑(List.length m) : Int) ::
                          List.append._f [] PUnit.unit
                            (List.flatten._f [m, [(↑(List.length st) : Int)], st, [pc]]
                              (List.rec ⟨[], PUnit.unit⟩
                                (fun (head : List Int) (tail : List (List Int))
                                    (tail_ih : List Int ×' List.below tail) =>
                                  ⟨List.flatten._f (head :: tail) tail_ih, tail_ih⟩)
                                [[(↑(List.length st) : Int)], st, [pc]]))))
              i (0 : Int)) =
          AV.int IntKind.u8
            (List.getD
              (Cd.putL
                (r0 ::
                  r1 ::
                    r2 ::
                      r3 ::
                        (↑(List.length m) : Int) ::
                          List.append._f [] PUnit.unit
                            (List.flatten._f [m, [(↑(List.length st) : Int)], st, [pc]]
                              (List.rec ⟨[], PUnit.unit⟩
                                (fun (head : List Int) (tail : List (List Int))
                                    (tail_ih : List Int ×' List.below tail) =>
                                  ⟨List.flatten._f (head :: tail) tail_ih, tail_ih⟩)
                                [[(↑(List.length st) : Int)], st, [pc]]))))
              i (0 : Int))) ∧ ((0 : Nat) = (0 : Nat)) ∧ (List.length
    (Cd.putL
      (r0 ::
        r1 ::
          r2 ::
            r3 ::
              (↑(List.length m) : Int) ::
                List.append._f [] PUnit.unit
                  (List.flatten._f [m, [(↑(List.length st) : Int)], st, [pc]]
                    (List.rec ⟨[], PUnit.unit⟩
                      (fun (head : List Int) (tail : List (List Int)) (tail_ih : List Int ×' List.below tail) =>
                        ⟨List.flatten._f (head :: tail) tail_ih, tail_ih⟩)
                      [[(↑(List.length st) : Int)], st, [pc]])))) =
  List.length
    (Cd.putL
      (r0 ::
        r1 ::
          r2 ::
            r3 ::
              (↑(List.length m) : Int) ::
                List.append._f [] PUnit.unit
                  (List.flatten._f [m, [(↑(List.length st) : Int)], st, [pc]]
                    (List.rec ⟨[], PUnit.unit⟩
                      (fun (head : List Int) (tail : List (List Int)) (tail_ih : List Int ×' List.below tail) =>
                        ⟨List.flatten._f (head :: tail) tail_ih, tail_ih⟩)
                      [[(↑(List.length st) : Int)], st, [pc]]))))) ∧ True) (by kernel_rfl)
    ⟨rfl,
     rfl,
     rfl,
     rfl,
     rfl,
     (fun _ _ _ _ => rfl),
     rfl,
     (fun _ _ _ _ => rfl),
     rfl,
     rfl,
     rfl,
     rfl,
     rfl,
     rfl,
     (fun _ _ _ _ => rfl),
     rfl,
     (fun _ _ _ _ => rfl),
     rfl,
     Ok.freeze (cdz_r r0 r1 r2 r3 m pc st) (Ok.vc (cdr_r r0 r1 r2 r3 m pc st hl)),
     rfl,
     (fun _ _ _ _ => rfl),
     putC (.row _) hl hi,
     rfl,
     (fun _ _ _ _ => rfl),
     rfl,
     rfl,
     trivial⟩
theorem codeC_r (r0 r1 r2 r3 : Int) (m : List Int) (pc : Int) (st : List Int) (hl : (stL r0 r1 r2 r3 m st pc).length ≤ 1000000) (hi : Cd.isI (stL r0 r1 r2 r3 m st pc)) : PureC Try.prog 13 [.agg (stA r0 r1 r2 r3 m (.row 1 st.length (rowI st)) pc)] (.own 0 0 1 0 (Cd.putL (stL r0 r1 r2 r3 m st pc)).length) [blkB (Cd.putL (stL r0 r1 r2 r3 m st pc))] := PureC.vc (cdf_r r0 r1 r2 r3 m pc st hl hi)
end Go.Proofs.Ytdbnfdcjibgikaa.Px
