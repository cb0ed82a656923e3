/- What is fixed by hand comes to true. -/
import Derived.Test.YtdbnfdcjibgikaaA7i
import Derived.Test.YtdbnfdcjibgikaaRx26
set_option linter.unusedVariables false
set_option linter.unusedSimpArgs false
set_option maxRecDepth 100000
namespace Go.Proofs.Ytdbnfdcjibgikaa.Px
open Go.RowKit Go.Proofs.Ytdbnfdcjibgikaa.Rx
def msW : List Mm := [⟨⟨#[109]⟩, false, 2⟩, ⟨⟨#[115]⟩, true, 1⟩]
def pgW : List AV := progL 2 0 2 1 0 (memR msW)
def plW : List Pl := places (rg 0 2 1 0) msW
def l0W : List Int := [1, 2, 3, 5, 0]
def l1W : List Int := [2, 2, 3, 5, 1]
def l2W : List Int := [1]
def finW (l : List Int) : S7 := putK 2 plW l (zer7 3) plW.length
def stW (l : List Int) : List AV := stA (finW l).r0 (finW l).r1 (finW l).r2 (finW l).r3 (finW l).m .nils 0
def cdW : List Int := stL (finW l0W).r0 (finW l0W).r1 (finW l0W).r2 (finW l0W).r3 (finW l0W).m [] 0
def ptW : List Int := [0, 1, 2, 0, 3, 3, 1, 0, 0, 0]
def lowW : Bool := lowB 0 2 1 0 msW (finW l0W).r0 (finW l0W).r1 (finW l0W).r2 (finW l0W).r3 (finW l0W).m [] 0 (finW l1W).r0 (finW l1W).r1 (finW l1W).r2 (finW l1W).r3 (finW l1W).m [] 0
theorem ptW_i : Cd.isI ptW := by
  intro x hx
  simp only [ptW, List.mem_cons, List.not_mem_nil, or_false] at hx
  omega
theorem cdW_eq : cdW = ptW := by kernel_rfl
theorem cdW_i : Cd.isI cdW := by rw [cdW_eq]; exact ptW_i
theorem awake_vc  : Vc (vcFn Try.prog true 9 [] [.cl [.agg pgW] (.own 0 0 3 0 plW.length) [plB plW], .cl [.agg pgW, .row 1 l0W.length (rowI l0W)] (.tup [.agg (stC (finW l0W) (.row 1 (finW l0W).m.length (rowI (finW l0W).m))), .bool true]) [], .cl [.agg pgW, .row 1 l1W.length (rowI l1W)] (.tup [.agg (stC (finW l1W) (.row 1 (finW l1W).m.length (rowI (finW l1W).m))), .bool true]) [], .cl [.agg pgW, .row 1 1 (rowI l2W)] (.tup [.agg (stC ⟨0, 0, 0, 0, []⟩ .nils), .bool false]) [], .cl [.agg pgW] (.int .i64 3) [], .cl [.agg pgW, .agg (stW l0W), .agg (stW l1W)] (.bool lowW) [], .cl [.agg (stW l0W)] (.own 0 0 1 0 (Cd.putL cdW).length) [blkB (Cd.putL cdW)], .fz, .cl [.row 1 10 (rowI ptW)] (.own 0 0 1 0 (Cd.putL ptW).length) [blkB (Cd.putL ptW)]] [] (.bool true) []) :=
  vc_of (q := ((2 : Int) = (2 : Int)) ∧ ((0 : Int) = (0 : Int)) ∧ ((2 : Int) = (2 : Int)) ∧ ((1 : Int) = (1 : Int)) ∧ ((0 : Int) = (0 : Int)) ∧ ((2 : Nat) = (2 : Nat)) ∧ (∀ (i : Nat),
  i < (2 : Nat) →
    ∀ (j : Nat),
      j < (3 : Nat) →
        List.getD
            [AV.str { data := { toList := [(109 : UInt8)] } },
              AV.bool false,
              AV.int IntKind.i64 (2 : Int),
              AV.str { data := { toList := [(115 : UInt8)] } },
              AV.bool true,
              AV.int IntKind.i64 (1 : Int)]
            ((i + (0 : Nat)) * (3 : Nat) + j) AV.junk =
          rowL mmC
            [{ nm := { data := { toList := [(109 : UInt8)] } }, sec := false, n := (2 : Nat) },
              { nm := { data := { toList := [(115 : UInt8)] } }, sec := true, n := (1 : Nat) }]
            i j) ∧ (PureC Try.prog 7 [.agg pgW] (.own 0 0 3 0 plW.length) [plB plW]) ∧ ((2 : Int) = (2 : Int)) ∧ ((0 : Int) = (0 : Int)) ∧ ((2 : Int) = (2 : Int)) ∧ ((1 : Int) = (1 : Int)) ∧ ((0 : Int) = (0 : Int)) ∧ ((2 : Nat) = (2 : Nat)) ∧ (∀ (i : Nat),
  i < (2 : Nat) →
    ∀ (j : Nat),
      j < (3 : Nat) →
        List.getD
            [AV.str { data := { toList := [(109 : UInt8)] } },
              AV.bool false,
              AV.int IntKind.i64 (2 : Int),
              AV.str { data := { toList := [(115 : UInt8)] } },
              AV.bool true,
              AV.int IntKind.i64 (1 : Int)]
            ((i + (0 : Nat)) * (3 : Nat) + j) AV.junk =
          rowL mmC
            [{ nm := { data := { toList := [(109 : UInt8)] } }, sec := false, n := (2 : Nat) },
              { nm := { data := { toList := [(115 : UInt8)] } }, sec := true, n := (1 : Nat) }]
            i j) ∧ ((5 : Nat) = (5 : Nat)) ∧ (∀ (i : Nat),
  i < (5 : Nat) →
    ∀ (j : Nat),
      j < (1 : Nat) →
        List.getD
            [AV.int IntKind.i64 (1 : Int),
              AV.int IntKind.i64 (2 : Int),
              AV.int IntKind.i64 (3 : Int),
              AV.int IntKind.i64 (5 : Int),
              AV.int IntKind.i64 (0 : Int)]
            ((i + (0 : Nat)) * (1 : Nat) + j) AV.junk =
          AV.int IntKind.i64
            (List.getD [(1 : Int), (2 : Int), (3 : Int), (5 : Int), (0 : Int)] i (0 : Int))) ∧ (PureC Try.prog 12 [.agg pgW, .row 1 l0W.length (rowI l0W)] (.tup [.agg (stC (finW l0W) (.row 1 (finW l0W).m.length (rowI (finW l0W).m))), .bool true]) []) ∧ ((2 : Int) = (2 : Int)) ∧ ((0 : Int) = (0 : Int)) ∧ ((2 : Int) = (2 : Int)) ∧ ((1 : Int) = (1 : Int)) ∧ ((0 : Int) = (0 : Int)) ∧ ((2 : Nat) = (2 : Nat)) ∧ (∀ (i : Nat),
  i < (2 : Nat) →
    ∀ (j : Nat),
      j < (3 : Nat) →
        List.getD
            [AV.str { data := { toList := [(109 : UInt8)] } },
              AV.bool false,
              AV.int IntKind.i64 (2 : Int),
              AV.str { data := { toList := [(115 : UInt8)] } },
              AV.bool true,
              AV.int IntKind.i64 (1 : Int)]
            ((i + (0 : Nat)) * (3 : Nat) + j) AV.junk =
          rowL mmC
            [{ nm := { data := { toList := [(109 : UInt8)] } }, sec := false, n := (2 : Nat) },
              { nm := { data := { toList := [(115 : UInt8)] } }, sec := true, n := (1 : Nat) }]
            i j) ∧ ((5 : Nat) = (5 : Nat)) ∧ (∀ (i : Nat),
  i < (5 : Nat) →
    ∀ (j : Nat),
      j < (1 : Nat) →
        List.getD
            [AV.int IntKind.i64 (2 : Int),
              AV.int IntKind.i64 (2 : Int),
              AV.int IntKind.i64 (3 : Int),
              AV.int IntKind.i64 (5 : Int),
              AV.int IntKind.i64 (1 : Int)]
            ((i + (0 : Nat)) * (1 : Nat) + j) AV.junk =
          AV.int IntKind.i64
            (List.getD [(2 : Int), (2 : Int), (3 : Int), (5 : Int), (1 : Int)] i (0 : Int))) ∧ (PureC Try.prog 12 [.agg pgW, .row 1 l1W.length (rowI l1W)] (.tup [.agg (stC (finW l1W) (.row 1 (finW l1W).m.length (rowI (finW l1W).m))), .bool true]) []) ∧ ((2 : Int) = (2 : Int)) ∧ ((0 : Int) = (0 : Int)) ∧ ((2 : Int) = (2 : Int)) ∧ ((1 : Int) = (1 : Int)) ∧ ((0 : Int) = (0 : Int)) ∧ ((2 : Nat) = (2 : Nat)) ∧ (∀ (i : Nat),
  i < (2 : Nat) →
    ∀ (j : Nat),
      j < (3 : Nat) →
        List.getD
            [AV.str { data := { toList := [(109 : UInt8)] } },
              AV.bool false,
              AV.int IntKind.i64 (2 : Int),
              AV.str { data := { toList := [(115 : UInt8)] } },
              AV.bool true,
              AV.int IntKind.i64 (1 : Int)]
            ((i + (0 : Nat)) * (3 : Nat) + j) AV.junk =
          rowL mmC
            [{ nm := { data := { toList := [(109 : UInt8)] } }, sec := false, n := (2 : Nat) },
              { nm := { data := { toList := [(115 : UInt8)] } }, sec := true, n := (1 : Nat) }]
            i j) ∧ ((1 : Nat) = (1 : Nat)) ∧ (∀ (i : Nat),
  i < (1 : Nat) →
    ∀ (j : Nat),
      j < (1 : Nat) →
        List.getD [AV.int IntKind.i64 (1 : Int)] ((i + (0 : Nat)) * (1 : Nat) + j)
            AV.junk =
          AV.int IntKind.i64 (List.getD [(1 : Int)] i (0 : Int))) ∧ (PureC Try.prog 12 [.agg pgW, .row 1 1 (rowI l2W)] (.tup [.agg (stC ⟨0, 0, 0, 0, []⟩ .nils), .bool false]) []) ∧ ((2 : Int) = (2 : Int)) ∧ ((0 : Int) = (0 : Int)) ∧ ((2 : Int) = (2 : Int)) ∧ ((1 : Int) = (1 : Int)) ∧ ((0 : Int) = (0 : Int)) ∧ ((2 : Nat) = (2 : Nat)) ∧ (∀ (i : Nat),
  i < (2 : Nat) →
    ∀ (j : Nat),
      j < (3 : Nat) →
        List.getD
            [AV.str { data := { toList := [(109 : UInt8)] } },
              AV.bool false,
              AV.int IntKind.i64 (2 : Int),
              AV.str { data := { toList := [(115 : UInt8)] } },
              AV.bool true,
              AV.int IntKind.i64 (1 : Int)]
            ((i + (0 : Nat)) * (3 : Nat) + j) AV.junk =
          rowL mmC
            [{ nm := { data := { toList := [(109 : UInt8)] } }, sec := false, n := (2 : Nat) },
              { nm := { data := { toList := [(115 : UInt8)] } }, sec := true, n := (1 : Nat) }]
            i j) ∧ (PureC Try.prog 8 [.agg pgW] (.int .i64 3) []) ∧ ((2 : Int) = (2 : Int)) ∧ ((0 : Int) = (0 : Int)) ∧ ((2 : Int) = (2 : Int)) ∧ ((1 : Int) = (1 : Int)) ∧ ((0 : Int) = (0 : Int)) ∧ ((2 : Nat) = (2 : Nat)) ∧ (∀ (i : Nat),
  i < (2 : Nat) →
    ∀ (j : Nat),
      j < (3 : Nat) →
        List.getD
            [AV.str { data := { toList := [(109 : UInt8)] } },
              AV.bool false,
              AV.int IntKind.i64 (2 : Int),
              AV.str { data := { toList := [(115 : UInt8)] } },
              AV.bool true,
              AV.int IntKind.i64 (1 : Int)]
            ((i + (0 : Nat)) * (3 : Nat) + j) AV.junk =
          rowL mmC
            [{ nm := { data := { toList := [(109 : UInt8)] } }, sec := false, n := (2 : Nat) },
              { nm := { data := { toList := [(115 : UInt8)] } }, sec := true, n := (1 : Nat) }]
            i j) ∧ ((0 : Int) = (0 : Int)) ∧ (Wd.maskV (2 : Int)
    (List.getD [(1 : Int), (2 : Int), (3 : Int), (5 : Int), (0 : Int)] (nat_lit 0) (0 : Int)) =
  Wd.maskV (2 : Int)
    (List.getD [(1 : Int), (2 : Int), (3 : Int), (5 : Int), (0 : Int)] (nat_lit 0) (0 : Int))) ∧ (Wd.maskV (2 : Int)
    (List.getD [(1 : Int), (2 : Int), (3 : Int), (5 : Int), (0 : Int)] (nat_lit 1) (0 : Int)) =
  Wd.maskV (2 : Int)
    (List.getD [(1 : Int), (2 : Int), (3 : Int), (5 : Int), (0 : Int)] (nat_lit 1) (0 : Int))) ∧ ((0 : Int) = (0 : Int)) ∧ ((3 : Nat) = (3 : Nat)) ∧ (∀ (i : Nat),
  i < (3 : Nat) →
    ∀ (j : Nat),
      j < (1 : Nat) →
        AV.int IntKind.i64
            (List.getD
              [Wd.maskV (2 : Int)
                  (List.getD [(1 : Int), (2 : Int), (3 : Int), (5 : Int), (0 : Int)] (nat_lit 2) (0 : Int)),
                Wd.maskV (2 : Int)
                  (List.getD [(1 : Int), (2 : Int), (3 : Int), (5 : Int), (0 : Int)] (nat_lit 3) (0 : Int)),
                Wd.maskV (2 : Int)
                  (List.getD [(1 : Int), (2 : Int), (3 : Int), (5 : Int), (0 : Int)] (nat_lit 4) (0 : Int))]
              i (0 : Int)) =
          AV.int IntKind.i64
            (List.getD
              [Wd.maskV (2 : Int)
                  (List.getD [(1 : Int), (2 : Int), (3 : Int), (5 : Int), (0 : Int)] (nat_lit 2) (0 : Int)),
                Wd.maskV (2 : Int)
                  (List.getD [(1 : Int), (2 : Int), (3 : Int), (5 : Int), (0 : Int)] (nat_lit 3) (0 : Int)),
                Wd.maskV (2 : Int)
                  (List.getD [(1 : Int), (2 : Int), (3 : Int), (5 : Int), (0 : Int)] (nat_lit 4) (0 : Int))]
              i (0 : Int))) ∧ ((0 : Int) = (0 : Int)) ∧ ((0 : Int) = (0 : Int)) ∧ (Wd.maskV (2 : Int)
    (List.getD [(2 : Int), (2 : Int), (3 : Int), (5 : Int), (1 : Int)] (nat_lit 0) (0 : Int)) =
  Wd.maskV (2 : Int)
    (List.getD [(2 : Int), (2 : Int), (3 : Int), (5 : Int), (1 : Int)] (nat_lit 0) (0 : Int))) ∧ (Wd.maskV (2 : Int)
    (List.getD [(2 : Int), (2 : Int), (3 : Int), (5 : Int), (1 : Int)] (nat_lit 1) (0 : Int)) =
  Wd.maskV (2 : Int)
    (List.getD [(2 : Int), (2 : Int), (3 : Int), (5 : Int), (1 : Int)] (nat_lit 1) (0 : Int))) ∧ ((0 : Int) = (0 : Int)) ∧ ((3 : Nat) = (3 : Nat)) ∧ (∀ (i : Nat),
  i < (3 : Nat) →
    ∀ (j : Nat),
      j < (1 : Nat) →
        AV.int IntKind.i64
            (List.getD
              [Wd.maskV (2 : Int)
                  (List.getD [(2 : Int), (2 : Int), (3 : Int), (5 : Int), (1 : Int)] (nat_lit 2) (0 : Int)),
                Wd.maskV (2 : Int)
                  (List.getD [(2 : Int), (2 : Int), (3 : Int), (5 : Int), (1 : Int)] (nat_lit 3) (0 : Int)),
                Wd.maskV (2 : Int)
                  (List.getD [(2 : Int), (2 : Int), (3 : Int), (5 : Int), (1 : Int)] (nat_lit 4) (0 : Int))]
              i (0 : Int)) =
          AV.int IntKind.i64
            (List.getD
              [Wd.maskV (2 : Int)
                  (List.getD [(2 : Int), (2 : Int), (3 : Int), (5 : Int), (1 : Int)] (nat_lit 2) (0 : Int)),
                Wd.maskV (2 : Int)
                  (List.getD [(2 : Int), (2 : Int), (3 : Int), (5 : Int), (1 : Int)] (nat_lit 3) (0 : Int)),
                Wd.maskV (2 : Int)
                  (List.getD [(2 : Int), (2 : Int), (3 : Int), (5 : Int), (1 : Int)] (nat_lit 4) (0 : Int))]
              i (0 : Int))) ∧ ((0 : Int) = (0 : Int)) ∧ (PureC Try.prog 14 [.agg pgW, .agg (stW l0W), .agg (stW l1W)] (.bool lowW) []) ∧ ((0 : Int) = (0 : Int)) ∧ (Wd.maskV (2 : Int)
    (List.getD [(1 : Int), (2 : Int), (3 : Int), (5 : Int), (0 : Int)] (nat_lit 0) (0 : Int)) =
  Wd.maskV (2 : Int)
    (List.getD [(1 : Int), (2 : Int), (3 : Int), (5 : Int), (0 : Int)] (nat_lit 0) (0 : Int))) ∧ (Wd.maskV (2 : Int)
    (List.getD [(1 : Int), (2 : Int), (3 : Int), (5 : Int), (0 : Int)] (nat_lit 1) (0 : Int)) =
  Wd.maskV (2 : Int)
    (List.getD [(1 : Int), (2 : Int), (3 : Int), (5 : Int), (0 : Int)] (nat_lit 1) (0 : Int))) ∧ ((0 : Int) = (0 : Int)) ∧ ((3 : Nat) = (3 : Nat)) ∧ (∀ (i : Nat),
  i < (3 : Nat) →
    ∀ (j : Nat),
      j < (1 : Nat) →
        AV.int IntKind.i64
            (List.getD
              [Wd.maskV (2 : Int)
                  (List.getD [(1 : Int), (2 : Int), (3 : Int), (5 : Int), (0 : Int)] (nat_lit 2) (0 : Int)),
                Wd.maskV (2 : Int)
                  (List.getD [(1 : Int), (2 : Int), (3 : Int), (5 : Int), (0 : Int)] (nat_lit 3) (0 : Int)),
                Wd.maskV (2 : Int)
                  (List.getD [(1 : Int), (2 : Int), (3 : Int), (5 : Int), (0 : Int)] (nat_lit 4) (0 : Int))]
              i (0 : Int)) =
          AV.int IntKind.i64
            (List.getD
              [Wd.maskV (2 : Int)
                  (List.getD [(1 : Int), (2 : Int), (3 : Int), (5 : Int), (0 : Int)] (nat_lit 2) (0 : Int)),
                Wd.maskV (2 : Int)
                  (List.getD [(1 : Int), (2 : Int), (3 : Int), (5 : Int), (0 : Int)] (nat_lit 3) (0 : Int)),
                Wd.maskV (2 : Int)
                  (List.getD [(1 : Int), (2 : Int), (3 : Int), (5 : Int), (0 : Int)] (nat_lit 4) (0 : Int))]
              i (0 : Int))) ∧ ((0 : Int) = (0 : Int)) ∧ (PureC Try.prog 13 [.agg (stW l0W)] (.own 0 0 1 0 (Cd.putL cdW).length) [blkB (Cd.putL cdW)]) ∧ ((10 : Nat) = (10 : Nat)) ∧ (∀ (i : Nat),
  i < (10 : Nat) →
    ∀ (j : Nat),
      j < (1 : Nat) →
        List.getD
            [AV.int IntKind.i64 (0 : Int),
              AV.int IntKind.i64 (1 : Int),
              AV.int IntKind.i64 (2 : Int),
              AV.int IntKind.i64 (0 : Int),
              AV.int IntKind.i64 (3 : Int),
              AV.int IntKind.i64 (3 : Int),
              AV.int IntKind.i64 (1 : Int),
              AV.int IntKind.i64 (0 : Int),
              AV.int IntKind.i64 (0 : Int),
              AV.int IntKind.i64 (0 : Int)]
            (i * (1 : Nat) + j) AV.junk =
          AV.int IntKind.i64
            (List.getD
              [(0 : Int), (1 : Int), (2 : Int), (0 : Int), (3 : Int), (3 : Int), (1 : Int), (0 : Int), (0 : Int),
                (0 : Int)]
              i (0 : Int))) ∧ (PureC Try.prog 20 [.row 1 10 (rowI ptW)] (.own 0 0 1 0 (Cd.putL ptW).length) [blkB (Cd.putL ptW)]) ∧ ((bif
      bif
          bif
              bif
                  bif
                      bif
                          bif
                              bif
                                  bif
                                      bif (3 : Int) == (3 : Int) then (↑(5 : Nat) : Int) == (5 : Int)
                                      else false then
                                    bif true == true then
                                      bif (↑(1 : Nat) : Int) == (1 : Int) then
                                        bif
                                            (rg (0 : Int) (2 : Int) (1 : Int) (0 : Int)
                                                  (nat_lit 1) ==
                                                (2 : Int)) ==
                                              true then
                                          true
                                        else false
                                      else false
                                    else false
                                  else false then
                                bif false == false then
                                  bif (↑(2 : Nat) : Int) == (2 : Int) then
                                    bif true == true then true else false
                                  else false
                                else false
                              else false then
                            true
                          else false then
                        Wd.maskV (2 : Int)
                            (List.getD [(1 : Int), (2 : Int), (3 : Int), (5 : Int), (0 : Int)] (nat_lit 0) (0 : Int)) ==
                          (1 : Int)
                      else false then
                    List.getD
                        [Wd.maskV (2 : Int)
                            (List.getD [(1 : Int), (2 : Int), (3 : Int), (5 : Int), (0 : Int)] (nat_lit 2) (0 : Int)),
                          Wd.maskV (2 : Int)
                            (List.getD [(1 : Int), (2 : Int), (3 : Int), (5 : Int), (0 : Int)] (nat_lit 3) (0 : Int)),
                          Wd.maskV (2 : Int)
                            (List.getD [(1 : Int), (2 : Int), (3 : Int), (5 : Int), (0 : Int)] (nat_lit 4) (0 : Int))]
                        (1 : Nat) (0 : Int) ==
                      (1 : Int)
                  else false then
                true
              else false then
            !false
          else false then
        lowW
      else false then
    [ByteArray.get!
          (Go.strOfNums
            [List.getD
                [(0 : Int) + (1 : Int),
                  Wd.maskV (2 : Int)
                      (List.getD [(1 : Int), (2 : Int), (3 : Int), (5 : Int), (0 : Int)] (nat_lit 0) (0 : Int)) +
                    (1 : Int),
                  Wd.maskV (2 : Int)
                      (List.getD [(1 : Int), (2 : Int), (3 : Int), (5 : Int), (0 : Int)] (nat_lit 1) (0 : Int)) +
                    (1 : Int),
                  (0 : Int) + (1 : Int), (↑(3 : Nat) : Int) + (1 : Int),
                  Wd.maskV (2 : Int)
                      (List.getD [(1 : Int), (2 : Int), (3 : Int), (5 : Int), (0 : Int)] (nat_lit 2) (0 : Int)) +
                    (1 : Int),
                  Wd.maskV (2 : Int)
                      (List.getD [(1 : Int), (2 : Int), (3 : Int), (5 : Int), (0 : Int)] (nat_lit 3) (0 : Int)) +
                    (1 : Int),
                  Wd.maskV (2 : Int)
                      (List.getD [(1 : Int), (2 : Int), (3 : Int), (5 : Int), (0 : Int)] (nat_lit 4) (0 : Int)) +
                    (1 : Int),
                  (↑(0 : Nat) : Int) + (1 : Int), (0 : Int) + (1 : Int)]
                (0 : Nat) (0 : Int),
              List.getD
                [(0 : Int) + (1 : Int),
                  Wd.maskV (2 : Int)
                      (List.getD [(1 : Int), (2 : Int), (3 : Int), (5 : Int), (0 : Int)] (nat_lit 0) (0 : Int)) +
                    (1 : Int),
                  Wd.maskV (2 : Int)
                      (List.getD [(1 : Int), (2 : Int), (3 : Int), (5 : Int), (0 : Int)] (nat_lit 1) (0 : Int)) +
                    (1 : Int),
                  (0 : Int) + (1 : Int), (↑(3 : Nat) : Int) + (1 : Int),
                  Wd.maskV (2 : Int)
                      (List.getD [(1 : Int), (2 : Int), (3 : Int), (5 : Int), (0 : Int)] (nat_lit 2) (0 : Int)) +
                    (1 : Int),
                  Wd.maskV (2 : Int)
                      (List.getD [(1 : Int), (2 : Int), (3 : Int), (5 : Int), (0 : Int)] (nat_lit 3) (0 : Int)) +
                    (1 : Int),
                  Wd.maskV (2 : Int)
                      (List.getD [(1 : Int), (2 : Int), (3 : Int), (5 : Int), (0 : Int)] (nat_lit 4) (0 : Int)) +
                    (1 : Int),
                  (↑(0 : Nat) : Int) + (1 : Int), (0 : Int) + (1 : Int)]
                (1 : Nat) (0 : Int),
              List.getD
                [(0 : Int) + (1 : Int),
                  Wd.maskV (2 : Int)
                      (List.getD [(1 : Int), (2 : Int), (3 : Int), (5 : Int), (0 : Int)] (nat_lit 0) (0 : Int)) +
                    (1 : Int),
                  Wd.maskV (2 : Int)
                      (List.getD [(1 : Int), (2 : Int), (3 : Int), (5 : Int), (0 : Int)] (nat_lit 1) (0 : Int)) +
                    (1 : Int),
                  (0 : Int) + (1 : Int), (↑(3 : Nat) : Int) + (1 : Int),
                  Wd.maskV (2 : Int)
                      (List.getD [(1 : Int), (2 : Int), (3 : Int), (5 : Int), (0 : Int)] (nat_lit 2) (0 : Int)) +
                    (1 : Int),
                  Wd.maskV (2 : Int)
                      (List.getD [(1 : Int), (2 : Int), (3 : Int), (5 : Int), (0 : Int)] (nat_lit 3) (0 : Int)) +
                    (1 : Int),
                  Wd.maskV (2 : Int)
                      (List.getD [(1 : Int), (2 : Int), (3 : Int), (5 : Int), (0 : Int)] (nat_lit 4) (0 : Int)) +
                    (1 : Int),
                  (↑(0 : Nat) : Int) + (1 : Int), (0 : Int) + (1 : Int)]
                (2 : Nat) (0 : Int),
              List.getD
                [(0 : Int) + (1 : Int),
                  Wd.maskV (2 : Int)
                      (List.getD [(1 : Int), (2 : Int), (3 : Int), (5 : Int), (0 : Int)] (nat_lit 0) (0 : Int)) +
                    (1 : Int),
                  Wd.maskV (2 : Int)
                      (List.getD [(1 : Int), (2 : Int), (3 : Int), (5 : Int), (0 : Int)] (nat_lit 1) (0 : Int)) +
                    (1 : Int),
                  (0 : Int) + (1 : Int), (↑(3 : Nat) : Int) + (1 : Int),
                  Wd.maskV (2 : Int)
                      (List.getD [(1 : Int), (2 : Int), (3 : Int), (5 : Int), (0 : Int)] (nat_lit 2) (0 : Int)) +
                    (1 : Int),
                  Wd.maskV (2 : Int)
                      (List.getD [(1 : Int), (2 : Int), (3 : Int), (5 : Int), (0 : Int)] (nat_lit 3) (0 : Int)) +
                    (1 : Int),
                  Wd.maskV (2 : Int)
                      (List.getD [(1 : Int), (2 : Int), (3 : Int), (5 : Int), (0 : Int)] (nat_lit 4) (0 : Int)) +
                    (1 : Int),
                  (↑(0 : Nat) : Int) + (1 : Int), (0 : Int) + (1 : Int)]
                (3 : Nat) (0 : Int),
              List.getD
                [(0 : Int) + (1 : Int),
                  Wd.maskV (2 : Int)
                      (List.getD [(1 : Int), (2 : Int), (3 : Int), (5 : Int), (0 : Int)] (nat_lit 0) (0 : Int)) +
                    (1 : Int),
                  Wd.maskV (2 : Int)
                      (List.getD [(1 : Int), (2 : Int), (3 : Int), (5 : Int), (0 : Int)] (nat_lit 1) (0 : Int)) +
                    (1 : Int),
                  (0 : Int) + (1 : Int), (↑(3 : Nat) : Int) + (1 : Int),
                  Wd.maskV (2 : Int)
                      (List.getD [(1 : Int), (2 : Int), (3 : Int), (5 : Int), (0 : Int)] (nat_lit 2) (0 : Int)) +
                    (1 : Int),
                  Wd.maskV (2 : Int)
                      (List.getD [(1 : Int), (2 : Int), (3 : Int), (5 : Int), (0 : Int)] (nat_lit 3) (0 : Int)) +
                    (1 : Int),
                  Wd.maskV (2 : Int)
                      (List.getD [(1 : Int), (2 : Int), (3 : Int), (5 : Int), (0 : Int)] (nat_lit 4) (0 : Int)) +
                    (1 : Int),
                  (↑(0 : Nat) : Int) + (1 : Int), (0 : Int) + (1 : Int)]
                (4 : Nat) (0 : Int),
              List.getD
                [(0 : Int) + (1 : Int),
                  Wd.maskV (2 : Int)
                      (List.getD [(1 : Int), (2 : Int), (3 : Int), (5 : Int), (0 : Int)] (nat_lit 0) (0 : Int)) +
                    (1 : Int),
                  Wd.maskV (2 : Int)
                      (List.getD [(1 : Int), (2 : Int), (3 : Int), (5 : Int), (0 : Int)] (nat_lit 1) (0 : Int)) +
                    (1 : Int),
                  (0 : Int) + (1 : Int), (↑(3 : Nat) : Int) + (1 : Int),
                  Wd.maskV (2 : Int)
                      (List.getD [(1 : Int), (2 : Int), (3 : Int), (5 : Int), (0 : Int)] (nat_lit 2) (0 : Int)) +
                    (1 : Int),
                  Wd.maskV (2 : Int)
                      (List.getD [(1 : Int), (2 : Int), (3 : Int), (5 : Int), (0 : Int)] (nat_lit 3) (0 : Int)) +
                    (1 : Int),
                  Wd.maskV (2 : Int)
                      (List.getD [(1 : Int), (2 : Int), (3 : Int), (5 : Int), (0 : Int)] (nat_lit 4) (0 : Int)) +
                    (1 : Int),
                  (↑(0 : Nat) : Int) + (1 : Int), (0 : Int) + (1 : Int)]
                (5 : Nat) (0 : Int),
              List.getD
                [(0 : Int) + (1 : Int),
                  Wd.maskV (2 : Int)
                      (List.getD [(1 : Int), (2 : Int), (3 : Int), (5 : Int), (0 : Int)] (nat_lit 0) (0 : Int)) +
                    (1 : Int),
                  Wd.maskV (2 : Int)
                      (List.getD [(1 : Int), (2 : Int), (3 : Int), (5 : Int), (0 : Int)] (nat_lit 1) (0 : Int)) +
                    (1 : Int),
                  (0 : Int) + (1 : Int), (↑(3 : Nat) : Int) + (1 : Int),
                  Wd.maskV (2 : Int)
                      (List.getD [(1 : Int), (2 : Int), (3 : Int), (5 : Int), (0 : Int)] (nat_lit 2) (0 : Int)) +
                    (1 : Int),
                  Wd.maskV (2 : Int)
                      (List.getD [(1 : Int), (2 : Int), (3 : Int), (5 : Int), (0 : Int)] (nat_lit 3) (0 : Int)) +
                    (1 : Int),
                  Wd.maskV (2 : Int)
                      (List.getD [(1 : Int), (2 : Int), (3 : Int), (5 : Int), (0 : Int)] (nat_lit 4) (0 : Int)) +
                    (1 : Int),
                  (↑(0 : Nat) : Int) + (1 : Int), (0 : Int) + (1 : Int)]
                (6 : Nat) (0 : Int),
              List.getD
                [(0 : Int) + (1 : Int),
                  Wd.maskV (2 : Int)
                      (List.getD [(1 : Int), (2 : Int), (3 : Int), (5 : Int), (0 : Int)] (nat_lit 0) (0 : Int)) +
                    (1 : Int),
                  Wd.maskV (2 : Int)
                      (List.getD [(1 : Int), (2 : Int), (3 : Int), (5 : Int), (0 : Int)] (nat_lit 1) (0 : Int)) +
                    (1 : Int),
                  (0 : Int) + (1 : Int), (↑(3 : Nat) : Int) + (1 : Int),
                  Wd.maskV (2 : Int)
                      (List.getD [(1 : Int), (2 : Int), (3 : Int), (5 : Int), (0 : Int)] (nat_lit 2) (0 : Int)) +
                    (1 : Int),
                  Wd.maskV (2 : Int)
                      (List.getD [(1 : Int), (2 : Int), (3 : Int), (5 : Int), (0 : Int)] (nat_lit 3) (0 : Int)) +
                    (1 : Int),
                  Wd.maskV (2 : Int)
                      (List.getD [(1 : Int), (2 : Int), (3 : Int), (5 : Int), (0 : Int)] (nat_lit 4) (0 : Int)) +
                    (1 : Int),
                  (↑(0 : Nat) : Int) + (1 : Int), (0 : Int) + (1 : Int)]
                (7 : Nat) (0 : Int),
              List.getD
                [(0 : Int) + (1 : Int),
                  Wd.maskV (2 : Int)
                      (List.getD [(1 : Int), (2 : Int), (3 : Int), (5 : Int), (0 : Int)] (nat_lit 0) (0 : Int)) +
                    (1 : Int),
                  Wd.maskV (2 : Int)
                      (List.getD [(1 : Int), (2 : Int), (3 : Int), (5 : Int), (0 : Int)] (nat_lit 1) (0 : Int)) +
                    (1 : Int),
                  (0 : Int) + (1 : Int), (↑(3 : Nat) : Int) + (1 : Int),
                  Wd.maskV (2 : Int)
                      (List.getD [(1 : Int), (2 : Int), (3 : Int), (5 : Int), (0 : Int)] (nat_lit 2) (0 : Int)) +
                    (1 : Int),
                  Wd.maskV (2 : Int)
                      (List.getD [(1 : Int), (2 : Int), (3 : Int), (5 : Int), (0 : Int)] (nat_lit 3) (0 : Int)) +
                    (1 : Int),
                  Wd.maskV (2 : Int)
                      (List.getD [(1 : Int), (2 : Int), (3 : Int), (5 : Int), (0 : Int)] (nat_lit 4) (0 : Int)) +
                    (1 : Int),
                  (↑(0 : Nat) : Int) + (1 : Int), (0 : Int) + (1 : Int)]
                (8 : Nat) (0 : Int),
              List.getD
                [(0 : Int) + (1 : Int),
                  Wd.maskV (2 : Int)
                      (List.getD [(1 : Int), (2 : Int), (3 : Int), (5 : Int), (0 : Int)] (nat_lit 0) (0 : Int)) +
                    (1 : Int),
                  Wd.maskV (2 : Int)
                      (List.getD [(1 : Int), (2 : Int), (3 : Int), (5 : Int), (0 : Int)] (nat_lit 1) (0 : Int)) +
                    (1 : Int),
                  (0 : Int) + (1 : Int), (↑(3 : Nat) : Int) + (1 : Int),
                  Wd.maskV (2 : Int)
                      (List.getD [(1 : Int), (2 : Int), (3 : Int), (5 : Int), (0 : Int)] (nat_lit 2) (0 : Int)) +
                    (1 : Int),
                  Wd.maskV (2 : Int)
                      (List.getD [(1 : Int), (2 : Int), (3 : Int), (5 : Int), (0 : Int)] (nat_lit 3) (0 : Int)) +
                    (1 : Int),
                  Wd.maskV (2 : Int)
                      (List.getD [(1 : Int), (2 : Int), (3 : Int), (5 : Int), (0 : Int)] (nat_lit 4) (0 : Int)) +
                    (1 : Int),
                  (↑(0 : Nat) : Int) + (1 : Int), (0 : Int) + (1 : Int)]
                (9 : Nat) (0 : Int)])
          (0 : Nat),
        ByteArray.get!
          (Go.strOfNums
            [List.getD
                [(0 : Int) + (1 : Int),
                  Wd.maskV (2 : Int)
                      (List.getD [(1 : Int), (2 : Int), (3 : Int), (5 : Int), (0 : Int)] (nat_lit 0) (0 : Int)) +
                    (1 : Int),
                  Wd.maskV (2 : Int)
                      (List.getD [(1 : Int), (2 : Int), (3 : Int), (5 : Int), (0 : Int)] (nat_lit 1) (0 : Int)) +
                    (1 : Int),
                  (0 : Int) + (1 : Int), (↑(3 : Nat) : Int) + (1 : Int),
                  Wd.maskV (2 : Int)
                      (List.getD [(1 : Int), (2 : Int), (3 : Int), (5 : Int), (0 : Int)] (nat_lit 2) (0 : Int)) +
                    (1 : Int),
                  Wd.maskV (2 : Int)
                      (List.getD [(1 : Int), (2 : Int), (3 : Int), (5 : Int), (0 : Int)] (nat_lit 3) (0 : Int)) +
                    (1 : Int),
                  Wd.maskV (2 : Int)
                      (List.getD [(1 : Int), (2 : Int), (3 : Int), (5 : Int), (0 : Int)] (nat_lit 4) (0 : Int)) +
                    (1 : Int),
                  (↑(0 : Nat) : Int) + (1 : Int), (0 : Int) + (1 : Int)]
                (0 : Nat) (0 : Int),
              List.getD
                [(0 : Int) + (1 : Int),
                  Wd.maskV (2 : Int)
                      (List.getD [(1 : Int), (2 : Int), (3 : Int), (5 : Int), (0 : Int)] (nat_lit 0) (0 : Int)) +
                    (1 : Int),
                  Wd.maskV (2 : Int)
                      (List.getD [(1 : Int), (2 : Int), (3 : Int), (5 : Int), (0 : Int)] (nat_lit 1) (0 : Int)) +
                    (1 : Int),
                  (0 : Int) + (1 : Int), (↑(3 : Nat) : Int) + (1 : Int),
                  Wd.maskV (2 : Int)
                      (List.getD [(1 : Int), (2 : Int), (3 : Int), (5 : Int), (0 : Int)] (nat_lit 2) (0 : Int)) +
                    (1 : Int),
                  Wd.maskV (2 : Int)
                      (List.getD [(1 : Int), (2 : Int), (3 : Int), (5 : Int), (0 : Int)] (nat_lit 3) (0 : Int)) +
                    (1 : Int),
                  Wd.maskV (2 : Int)
                      (List.getD [(1 : Int), (2 : Int), (3 : Int), (5 : Int), (0 : Int)] (nat_lit 4) (0 : Int)) +
                    (1 : Int),
                  (↑(0 : Nat) : Int) + (1 : Int), (0 : Int) + (1 : Int)]
                (1 : Nat) (0 : Int),
              List.getD
                [(0 : Int) + (1 : Int),
                  Wd.maskV (2 : Int)
                      (List.getD [(1 : Int), (2 : Int), (3 : Int), (5 : Int), (0 : Int)] (nat_lit 0) (0 : Int)) +
                    (1 : Int),
                  Wd.maskV (2 : Int)
                      (List.getD [(1 : Int), (2 : Int), (3 : Int), (5 : Int), (0 : Int)] (nat_lit 1) (0 : Int)) +
                    (1 : Int),
                  (0 : Int) + (1 : Int), (↑(3 : Nat) : Int) + (1 : Int),
                  Wd.maskV (2 : Int)
                      (List.getD [(1 : Int), (2 : Int), (3 : Int), (5 : Int), (0 : Int)] (nat_lit 2) (0 : Int)) +
                    (1 : Int),
                  Wd.maskV (2 : Int)
                      (List.getD [(1 : Int), (2 : Int), (3 : Int), (5 : Int), (0 : Int)] (nat_lit 3) (0 : Int)) +
                    (1 : Int),
                  Wd.maskV (2 : Int)
                      (List.getD [(1 : Int), (2 : Int), (3 : Int), (5 : Int), (0 : Int)] (nat_lit 4) (0 : Int)) +
                    (1 : Int),
                  (↑(0 : Nat) : Int) + (1 : Int), (0 : Int) + (1 : Int)]
                (2 : Nat) (0 : Int),
              List.getD
                [(0 : Int) + (1 : Int),
                  Wd.maskV (2 : Int)
                      (List.getD [(1 : Int), (2 : Int), (3 : Int), (5 : Int), (0 : Int)] (nat_lit 0) (0 : Int)) +
                    (1 : Int),
                  Wd.maskV (2 : Int)
                      (List.getD [(1 : Int), (2 : Int), (3 : Int), (5 : Int), (0 : Int)] (nat_lit 1) (0 : Int)) +
                    (1 : Int),
                  (0 : Int) + (1 : Int), (↑(3 : Nat) : Int) + (1 : Int),
                  Wd.maskV (2 : Int)
                      (List.getD [(1 : Int), (2 : Int), (3 : Int), (5 : Int), (0 : Int)] (nat_lit 2) (0 : Int)) +
                    (1 : Int),
                  Wd.maskV (2 : Int)
                      (List.getD [(1 : Int), (2 : Int), (3 : Int), (5 : Int), (0 : Int)] (nat_lit 3) (0 : Int)) +
                    (1 : Int),
                  Wd.maskV (2 : Int)
                      (List.getD [(1 : Int), (2 : Int), (3 : Int), (5 : Int), (0 : Int)] (nat_lit 4) (0 : Int)) +
                    (1 : Int),
                  (↑(0 : Nat) : Int) + (1 : Int), (0 : Int) + (1 : Int)]
                (3 : Nat) (0 : Int),
              List.getD
                [(0 : Int) + (1 : Int),
                  Wd.maskV (2 : Int)
                      (List.getD [(1 : Int), (2 : Int), (3 : Int), (5 : Int), (0 : Int)] (nat_lit 0) (0 : Int)) +
                    (1 : Int),
                  Wd.maskV (2 : Int)
                      (List.getD [(1 : Int), (2 : Int), (3 : Int), (5 : Int), (0 : Int)] (nat_lit 1) (0 : Int)) +
                    (1 : Int),
                  (0 : Int) + (1 : Int), (↑(3 : Nat) : Int) + (1 : Int),
                  Wd.maskV (2 : Int)
                      (List.getD [(1 : Int), (2 : Int), (3 : Int), (5 : Int), (0 : Int)] (nat_lit 2) (0 : Int)) +
                    (1 : Int),
                  Wd.maskV (2 : Int)
                      (List.getD [(1 : Int), (2 : Int), (3 : Int), (5 : Int), (0 : Int)] (nat_lit 3) (0 : Int)) +
                    (1 : Int),
                  Wd.maskV (2 : Int)
                      (List.getD [(1 : Int), (2 : Int), (3 : Int), (5 : Int), (0 : Int)] (nat_lit 4) (0 : Int)) +
                    (1 : Int),
                  (↑(0 : Nat) : Int) + (1 : Int), (0 : Int) + (1 : Int)]
                (4 : Nat) (0 : Int),
              List.getD
                [(0 : Int) + (1 : Int),
                  Wd.maskV (2 : Int)
                      (List.getD [(1 : Int), (2 : Int), (3 : Int), (5 : Int), (0 : Int)] (nat_lit 0) (0 : Int)) +
                    (1 : Int),
                  Wd.maskV (2 : Int)
                      (List.getD [(1 : Int), (2 : Int), (3 : Int), (5 : Int), (0 : Int)] (nat_lit 1) (0 : Int)) +
                    (1 : Int),
                  (0 : Int) + (1 : Int), (↑(3 : Nat) : Int) + (1 : Int),
                  Wd.maskV (2 : Int)
                      (List.getD [(1 : Int), (2 : Int), (3 : Int), (5 : Int), (0 : Int)] (nat_lit 2) (0 : Int)) +
                    (1 : Int),
                  Wd.maskV (2 : Int)
                      (List.getD [(1 : Int), (2 : Int), (3 : Int), (5 : Int), (0 : Int)] (nat_lit 3) (0 : Int)) +
                    (1 : Int),
                  Wd.maskV (2 : Int)
                      (List.getD [(1 : Int), (2 : Int), (3 : Int), (5 : Int), (0 : Int)] (nat_lit 4) (0 : Int)) +
                    (1 : Int),
                  (↑(0 : Nat) : Int) + (1 : Int), (0 : Int) + (1 : Int)]
                (5 : Nat) (0 : Int),
              List.getD
                [(0 : Int) + (1 : Int),
                  Wd.maskV (2 : Int)
                      (List.getD [(1 : Int), (2 : Int), (3 : Int), (5 : Int), (0 : Int)] (nat_lit 0) (0 : Int)) +
                    (1 : Int),
                  Wd.maskV (2 : Int)
                      (List.getD [(1 : Int), (2 : Int), (3 : Int), (5 : Int), (0 : Int)] (nat_lit 1) (0 : Int)) +
                    (1 : Int),
                  (0 : Int) + (1 : Int), (↑(3 : Nat) : Int) + (1 : Int),
                  Wd.maskV (2 : Int)
                      (List.getD [(1 : Int), (2 : Int), (3 : Int), (5 : Int), (0 : Int)] (nat_lit 2) (0 : Int)) +
                    (1 : Int),
                  Wd.maskV (2 : Int)
                      (List.getD [(1 : Int), (2 : Int), (3 : Int), (5 : Int), (0 : Int)] (nat_lit 3) (0 : Int)) +
                    (1 : Int),
                  Wd.maskV (2 : Int)
                      (List.getD [(1 : Int), (2 : Int), (3 : Int), (5 : Int), (0 : Int)] (nat_lit 4) (0 : Int)) +
                    (1 : Int),
                  (↑(0 : Nat) : Int) + (1 : Int), (0 : Int) + (1 : Int)]
                (6 : Nat) (0 : Int),
              List.getD
                [(0 : Int) + (1 : Int),
                  Wd.maskV (2 : Int)
                      (List.getD [(1 : Int), (2 : Int), (3 : Int), (5 : Int), (0 : Int)] (nat_lit 0) (0 : Int)) +
                    (1 : Int),
                  Wd.maskV (2 : Int)
                      (List.getD [(1 : Int), (2 : Int), (3 : Int), (5 : Int), (0 : Int)] (nat_lit 1) (0 : Int)) +
                    (1 : Int),
                  (0 : Int) + (1 : Int), (↑(3 : Nat) : Int) + (1 : Int),
                  Wd.maskV (2 : Int)
                      (List.getD [(1 : Int), (2 : Int), (3 : Int), (5 : Int), (0 : Int)] (nat_lit 2) (0 : Int)) +
                    (1 : Int),
                  Wd.maskV (2 : Int)
                      (List.getD [(1 : Int), (2 : Int), (3 : Int), (5 : Int), (0 : Int)] (nat_lit 3) (0 : Int)) +
                    (1 : Int),
                  Wd.maskV (2 : Int)
                      (List.getD [(1 : Int), (2 : Int), (3 : Int), (5 : Int), (0 : Int)] (nat_lit 4) (0 : Int)) +
                    (1 : Int),
                  (↑(0 : Nat) : Int) + (1 : Int), (0 : Int) + (1 : Int)]
                (7 : Nat) (0 : Int),
              List.getD
                [(0 : Int) + (1 : Int),
                  Wd.maskV (2 : Int)
                      (List.getD [(1 : Int), (2 : Int), (3 : Int), (5 : Int), (0 : Int)] (nat_lit 0) (0 : Int)) +
                    (1 : Int),
                  Wd.maskV (2 : Int)
                      (List.getD [(1 : Int), (2 : Int), (3 : Int), (5 : Int), (0 : Int)] (nat_lit 1) (0 : Int)) +
                    (1 : Int),
                  (0 : Int) + (1 : Int), (↑(3 : Nat) : Int) + (1 : Int),
                  Wd.maskV (2 : Int)
                      (List.getD [(1 : Int), (2 : Int), (3 : Int), (5 : Int), (0 : Int)] (nat_lit 2) (0 : Int)) +
                    (1 : Int),
                  Wd.maskV (2 : Int)
                      (List.getD [(1 : Int), (2 : Int), (3 : Int), (5 : Int), (0 : Int)] (nat_lit 3) (0 : Int)) +
                    (1 : Int),
                  Wd.maskV (2 : Int)
                      (List.getD [(1 : Int), (2 : Int), (3 : Int), (5 : Int), (0 : Int)] (nat_lit 4) (0 : Int)) +
                    (1 : Int),
                  (↑(0 : Nat) : Int) + (1 : Int), (0 : Int) + (1 : Int)]
                (8 : Nat) (0 : Int),
              List.getD
                [(0 : Int) + (1 : Int),
                  Wd.maskV (2 : Int)
                      (List.getD [(1 : Int), (2 : Int), (3 : Int), (5 : Int), (0 : Int)] (nat_lit 0) (0 : Int)) +
                    (1 : Int),
                  Wd.maskV (2 : Int)
                      (List.getD [(1 : Int), (2 : Int), (3 : Int), (5 : Int), (0 : Int)] (nat_lit 1) (0 : Int)) +
                    (1 : Int),
                  (0 : Int) + (1 : Int), (↑(3 : Nat) : Int) + (1 : Int),
                  Wd.maskV (2 : Int)
                      (List.getD [(1 : Int), (2 : Int), (3 : Int), (5 : Int), (0 : Int)] (nat_lit 2) (0 : Int)) +
                    (1 : Int),
                  Wd.maskV (2 : Int)
                      (List.getD [(1 : Int), (2 : Int), (3 : Int), (5 : Int), (0 : Int)] (nat_lit 3) (0 : Int)) +
                    (1 : Int),
                  Wd.maskV (2 : Int)
                      (List.getD [(1 : Int), (2 : Int), (3 : Int), (5 : Int), (0 : Int)] (nat_lit 4) (0 : Int)) +
                    (1 : Int),
                  (↑(0 : Nat) : Int) + (1 : Int), (0 : Int) + (1 : Int)]
                (9 : Nat) (0 : Int)])
          (1 : Nat),
        ByteArray.get!
          (Go.strOfNums
            [List.getD
                [(0 : Int) + (1 : Int),
                  Wd.maskV (2 : Int)
                      (List.getD [(1 : Int), (2 : Int), (3 : Int), (5 : Int), (0 : Int)] (nat_lit 0) (0 : Int)) +
                    (1 : Int),
                  Wd.maskV (2 : Int)
                      (List.getD [(1 : Int), (2 : Int), (3 : Int), (5 : Int), (0 : Int)] (nat_lit 1) (0 : Int)) +
                    (1 : Int),
                  (0 : Int) + (1 : Int), (↑(3 : Nat) : Int) + (1 : Int),
                  Wd.maskV (2 : Int)
                      (List.getD [(1 : Int), (2 : Int), (3 : Int), (5 : Int), (0 : Int)] (nat_lit 2) (0 : Int)) +
                    (1 : Int),
                  Wd.maskV (2 : Int)
                      (List.getD [(1 : Int), (2 : Int), (3 : Int), (5 : Int), (0 : Int)] (nat_lit 3) (0 : Int)) +
                    (1 : Int),
                  Wd.maskV (2 : Int)
                      (List.getD [(1 : Int), (2 : Int), (3 : Int), (5 : Int), (0 : Int)] (nat_lit 4) (0 : Int)) +
                    (1 : Int),
                  (↑(0 : Nat) : Int) + (1 : Int), (0 : Int) + (1 : Int)]
                (0 : Nat) (0 : Int),
              List.getD
                [(0 : Int) + (1 : Int),
                  Wd.maskV (2 : Int)
                      (List.getD [(1 : Int), (2 : Int), (3 : Int), (5 : Int), (0 : Int)] (nat_lit 0) (0 : Int)) +
                    (1 : Int),
                  Wd.maskV (2 : Int)
                      (List.getD [(1 : Int), (2 : Int), (3 : Int), (5 : Int), (0 : Int)] (nat_lit 1) (0 : Int)) +
                    (1 : Int),
                  (0 : Int) + (1 : Int), (↑(3 : Nat) : Int) + (1 : Int),
                  Wd.maskV (2 : Int)
                      (List.getD [(1 : Int), (2 : Int), (3 : Int), (5 : Int), (0 : Int)] (nat_lit 2) (0 : Int)) +
                    (1 : Int),
                  Wd.maskV (2 : Int)
                      (List.getD [(1 : Int), (2 : Int), (3 : Int), (5 : Int), (0 : Int)] (nat_lit 3) (0 : Int)) +
                    (1 : Int),
                  Wd.maskV (2 : Int)
                      (List.getD [(1 : Int), (2 : Int), (3 : Int), (5 : Int), (0 : Int)] (nat_lit 4) (0 : Int)) +
                    (1 : Int),
                  (↑(0 : Nat) : Int) + (1 : Int), (0 : Int) + (1 : Int)]
                (1 : Nat) (0 : Int),
              List.getD
                [(0 : Int) + (1 : Int),
                  Wd.maskV (2 : Int)
                      (List.getD [(1 : Int), (2 : Int), (3 : Int), (5 : Int), (0 : Int)] (nat_lit 0) (0 : Int)) +
                    (1 : Int),
                  Wd.maskV (2 : Int)
                      (List.getD [(1 : Int), (2 : Int), (3 : Int), (5 : Int), (0 : Int)] (nat_lit 1) (0 : Int)) +
                    (1 : Int),
                  (0 : Int) + (1 : Int), (↑(3 : Nat) : Int) + (1 : Int),
                  Wd.maskV (2 : Int)
                      (List.getD [(1 : Int), (2 : Int), (3 : Int), (5 : Int), (0 : Int)] (nat_lit 2) (0 : Int)) +
                    (1 : Int),
                  Wd.maskV (2 : Int)
                      (List.getD [(1 : Int), (2 : Int), (3 : Int), (5 : Int), (0 : Int)] (nat_lit 3) (0 : Int)) +
                    (1 : Int),
                  Wd.maskV (2 : Int)
                      (List.getD [(1 : Int), (2 : Int), (3 : Int), (5 : Int), (0 : Int)] (nat_lit 4) (0 : Int)) +
                    (1 : Int),
                  (↑(0 : Nat) : Int) + (1 : Int), (0 : Int) + (1 : Int)]
                (2 : Nat) (0 : Int),
              List.getD
                [(0 : Int) + (1 : Int),
                  Wd.maskV (2 : Int)
                      (List.getD [(1 : Int), (2 : Int), (3 : Int), (5 : Int), (0 : Int)] (nat_lit 0) (0 : Int)) +
                    (1 : Int),
                  Wd.maskV (2 : Int)
                      (List.getD [(1 : Int), (2 : Int), (3 : Int), (5 : Int), (0 : Int)] (nat_lit 1) (0 : Int)) +
                    (1 : Int),
                  (0 : Int) + (1 : Int), (↑(3 : Nat) : Int) + (1 : Int),
                  Wd.maskV (2 : Int)
                      (List.getD [(1 : Int), (2 : Int), (3 : Int), (5 : Int), (0 : Int)] (nat_lit 2) (0 : Int)) +
                    (1 : Int),
                  Wd.maskV (2 : Int)
                      (List.getD [(1 : Int), (2 : Int), (3 : Int), (5 : Int), (0 : Int)] (nat_lit 3) (0 : Int)) +
                    (1 : Int),
                  Wd.maskV (2 : Int)
                      (List.getD [(1 : Int), (2 : Int), (3 : Int), (5 : Int), (0 : Int)] (nat_lit 4) (0 : Int)) +
                    (1 : Int),
                  (↑(0 : Nat) : Int) + (1 : Int), (0 : Int) + (1 : Int)]
                (3 : Nat) (0 : Int),
              List.getD
                [(0 : Int) + (1 : Int),
                  Wd.maskV (2 : Int)
                      (List.getD [(1 : Int), (2 : Int), (3 : Int), (5 : Int), (0 : Int)] (nat_lit 0) (0 : Int)) +
                    (1 : Int),
                  Wd.maskV (2 : Int)
                      (List.getD [(1 : Int), (2 : Int), (3 : Int), (5 : Int), (0 : Int)] (nat_lit 1) (0 : Int)) +
                    (1 : Int),
                  (0 : Int) + (1 : Int), (↑(3 : Nat) : Int) + (1 : Int),
                  Wd.maskV (2 : Int)
                      (List.getD [(1 : Int), (2 : Int), (3 : Int), (5 : Int), (0 : Int)] (nat_lit 2) (0 : Int)) +
                    (1 : Int),
                  Wd.maskV (2 : Int)
                      (List.getD [(1 : Int), (2 : Int), (3 : Int), (5 : Int), (0 : Int)] (nat_lit 3) (0 : Int)) +
                    (1 : Int),
                  Wd.maskV (2 : Int)
                      (List.getD [(1 : Int), (2 : Int), (3 : Int), (5 : Int), (0 : Int)] (nat_lit 4) (0 : Int)) +
                    (1 : Int),
                  (↑(0 : Nat) : Int) + (1 : Int), (0 : Int) + (1 : Int)]
                (4 : Nat) (0 : Int),
              List.getD
                [(0 : Int) + (1 : Int),
                  Wd.maskV (2 : Int)
                      (List.getD [(1 : Int), (2 : Int), (3 : Int), (5 : Int), (0 : Int)] (nat_lit 0) (0 : Int)) +
                    (1 : Int),
                  Wd.maskV (2 : Int)
                      (List.getD [(1 : Int), (2 : Int), (3 : Int), (5 : Int), (0 : Int)] (nat_lit 1) (0 : Int)) +
                    (1 : Int),
                  (0 : Int) + (1 : Int), (↑(3 : Nat) : Int) + (1 : Int),
                  Wd.maskV (2 : Int)
                      (List.getD [(1 : Int), (2 : Int), (3 : Int), (5 : Int), (0 : Int)] (nat_lit 2) (0 : Int)) +
                    (1 : Int),
                  Wd.maskV (2 : Int)
                      (List.getD [(1 : Int), (2 : Int), (3 : Int), (5 : Int), (0 : Int)] (nat_lit 3) (0 : Int)) +
                    (1 : Int),
                  Wd.maskV (2 : Int)
                      (List.getD [(1 : Int), (2 : Int), (3 : Int), (5 : Int), (0 : Int)] (nat_lit 4) (0 : Int)) +
                    (1 : Int),
                  (↑(0 : Nat) : Int) + (1 : Int), (0 : Int) + (1 : Int)]
                (5 : Nat) (0 : Int),
              List.getD
                [(0 : Int) + (1 : Int),
                  Wd.maskV (2 : Int)
                      (List.getD [(1 : Int), (2 : Int), (3 : Int), (5 : Int), (0 : Int)] (nat_lit 0) (0 : Int)) +
                    (1 : Int),
                  Wd.maskV (2 : Int)
                      (List.getD [(1 : Int), (2 : Int), (3 : Int), (5 : Int), (0 : Int)] (nat_lit 1) (0 : Int)) +
                    (1 : Int),
                  (0 : Int) + (1 : Int), (↑(3 : Nat) : Int) + (1 : Int),
                  Wd.maskV (2 : Int)
                      (List.getD [(1 : Int), (2 : Int), (3 : Int), (5 : Int), (0 : Int)] (nat_lit 2) (0 : Int)) +
                    (1 : Int),
                  Wd.maskV (2 : Int)
                      (List.getD [(1 : Int), (2 : Int), (3 : Int), (5 : Int), (0 : Int)] (nat_lit 3) (0 : Int)) +
                    (1 : Int),
                  Wd.maskV (2 : Int)
                      (List.getD [(1 : Int), (2 : Int), (3 : Int), (5 : Int), (0 : Int)] (nat_lit 4) (0 : Int)) +
                    (1 : Int),
                  (↑(0 : Nat) : Int) + (1 : Int), (0 : Int) + (1 : Int)]
                (6 : Nat) (0 : Int),
              List.getD
                [(0 : Int) + (1 : Int),
                  Wd.maskV (2 : Int)
                      (List.getD [(1 : Int), (2 : Int), (3 : Int), (5 : Int), (0 : Int)] (nat_lit 0) (0 : Int)) +
                    (1 : Int),
                  Wd.maskV (2 : Int)
                      (List.getD [(1 : Int), (2 : Int), (3 : Int), (5 : Int), (0 : Int)] (nat_lit 1) (0 : Int)) +
                    (1 : Int),
                  (0 : Int) + (1 : Int), (↑(3 : Nat) : Int) + (1 : Int),
                  Wd.maskV (2 : Int)
                      (List.getD [(1 : Int), (2 : Int), (3 : Int), (5 : Int), (0 : Int)] (nat_lit 2) (0 : Int)) +
                    (1 : Int),
                  Wd.maskV (2 : Int)
                      (List.getD [(1 : Int), (2 : Int), (3 : Int), (5 : Int), (0 : Int)] (nat_lit 3) (0 : Int)) +
                    (1 : Int),
                  Wd.maskV (2 : Int)
                      (List.getD [(1 : Int), (2 : Int), (3 : Int), (5 : Int), (0 : Int)] (nat_lit 4) (0 : Int)) +
                    (1 : Int),
                  (↑(0 : Nat) : Int) + (1 : Int), (0 : Int) + (1 : Int)]
                (7 : Nat) (0 : Int),
              List.getD
                [(0 : Int) + (1 : Int),
                  Wd.maskV (2 : Int)
                      (List.getD [(1 : Int), (2 : Int), (3 : Int), (5 : Int), (0 : Int)] (nat_lit 0) (0 : Int)) +
                    (1 : Int),
                  Wd.maskV (2 : Int)
                      (List.getD [(1 : Int), (2 : Int), (3 : Int), (5 : Int), (0 : Int)] (nat_lit 1) (0 : Int)) +
                    (1 : Int),
                  (0 : Int) + (1 : Int), (↑(3 : Nat) : Int) + (1 : Int),
                  Wd.maskV (2 : Int)
                      (List.getD [(1 : Int), (2 : Int), (3 : Int), (5 : Int), (0 : Int)] (nat_lit 2) (0 : Int)) +
                    (1 : Int),
                  Wd.maskV (2 : Int)
                      (List.getD [(1 : Int), (2 : Int), (3 : Int), (5 : Int), (0 : Int)] (nat_lit 3) (0 : Int)) +
                    (1 : Int),
                  Wd.maskV (2 : Int)
                      (List.getD [(1 : Int), (2 : Int), (3 : Int), (5 : Int), (0 : Int)] (nat_lit 4) (0 : Int)) +
                    (1 : Int),
                  (↑(0 : Nat) : Int) + (1 : Int), (0 : Int) + (1 : Int)]
                (8 : Nat) (0 : Int),
              List.getD
                [(0 : Int) + (1 : Int),
                  Wd.maskV (2 : Int)
                      (List.getD [(1 : Int), (2 : Int), (3 : Int), (5 : Int), (0 : Int)] (nat_lit 0) (0 : Int)) +
                    (1 : Int),
                  Wd.maskV (2 : Int)
                      (List.getD [(1 : Int), (2 : Int), (3 : Int), (5 : Int), (0 : Int)] (nat_lit 1) (0 : Int)) +
                    (1 : Int),
                  (0 : Int) + (1 : Int), (↑(3 : Nat) : Int) + (1 : Int),
                  Wd.maskV (2 : Int)
                      (List.getD [(1 : Int), (2 : Int), (3 : Int), (5 : Int), (0 : Int)] (nat_lit 2) (0 : Int)) +
                    (1 : Int),
                  Wd.maskV (2 : Int)
                      (List.getD [(1 : Int), (2 : Int), (3 : Int), (5 : Int), (0 : Int)] (nat_lit 3) (0 : Int)) +
                    (1 : Int),
                  Wd.maskV (2 : Int)
                      (List.getD [(1 : Int), (2 : Int), (3 : Int), (5 : Int), (0 : Int)] (nat_lit 4) (0 : Int)) +
                    (1 : Int),
                  (↑(0 : Nat) : Int) + (1 : Int), (0 : Int) + (1 : Int)]
                (9 : Nat) (0 : Int)])
          (2 : Nat),
        ByteArray.get!
          (Go.strOfNums
            [List.getD
                [(0 : Int) + (1 : Int),
                  Wd.maskV (2 : Int)
                      (List.getD [(1 : Int), (2 : Int), (3 : Int), (5 : Int), (0 : Int)] (nat_lit 0) (0 : Int)) +
                    (1 : Int),
                  Wd.maskV (2 : Int)
                      (List.getD [(1 : Int), (2 : Int), (3 : Int), (5 : Int), (0 : Int)] (nat_lit 1) (0 : Int)) +
                    (1 : Int),
                  (0 : Int) + (1 : Int), (↑(3 : Nat) : Int) + (1 : Int),
                  Wd.maskV (2 : Int)
                      (List.getD [(1 : Int), (2 : Int), (3 : Int), (5 : Int), (0 : Int)] (nat_lit 2) (0 : Int)) +
                    (1 : Int),
                  Wd.maskV (2 : Int)
                      (List.getD [(1 : Int), (2 : Int), (3 : Int), (5 : Int), (0 : Int)] (nat_lit 3) (0 : Int)) +
                    (1 : Int),
                  Wd.maskV (2 : Int)
                      (List.getD [(1 : Int), (2 : Int), (3 : Int), (5 : Int), (0 : Int)] (nat_lit 4) (0 : Int)) +
                    (1 : Int),
                  (↑(0 : Nat) : Int) + (1 : Int), (0 : Int) + (1 : Int)]
                (0 : Nat) (0 : Int),
              List.getD
                [(0 : Int) + (1 : Int),
                  Wd.maskV (2 : Int)
                      (List.getD [(1 : Int), (2 : Int), (3 : Int), (5 : Int), (0 : Int)] (nat_lit 0) (0 : Int)) +
                    (1 : Int),
                  Wd.maskV (2 : Int)
                      (List.getD [(1 : Int), (2 : Int), (3 : Int), (5 : Int), (0 : Int)] (nat_lit 1) (0 : Int)) +
                    (1 : Int),
                  (0 : Int) + (1 : Int), (↑(3 : Nat) : Int) + (1 : Int),
                  Wd.maskV (2 : Int)
                      (List.getD [(1 : Int), (2 : Int), (3 : Int), (5 : Int), (0 : Int)] (nat_lit 2) (0 : Int)) +
                    (1 : Int),
                  Wd.maskV (2 : Int)
                      (List.getD [(1 : Int), (2 : Int), (3 : Int), (5 : Int), (0 : Int)] (nat_lit 3) (0 : Int)) +
                    (1 : Int),
                  Wd.maskV (2 : Int)
                      (List.getD [(1 : Int), (2 : Int), (3 : Int), (5 : Int), (0 : Int)] (nat_lit 4) (0 : Int)) +
                    (1 : Int),
                  (↑(0 : Nat) : Int) + (1 : Int), (0 : Int) + (1 : Int)]
                (1 : Nat) (0 : Int),
              List.getD
                [(0 : Int) + (1 : Int),
                  Wd.maskV (2 : Int)
                      (List.getD [(1 : Int), (2 : Int), (3 : Int), (5 : Int), (0 : Int)] (nat_lit 0) (0 : Int)) +
                    (1 : Int),
                  Wd.maskV (2 : Int)
                      (List.getD [(1 : Int), (2 : Int), (3 : Int), (5 : Int), (0 : Int)] (nat_lit 1) (0 : Int)) +
                    (1 : Int),
                  (0 : Int) + (1 : Int), (↑(3 : Nat) : Int) + (1 : Int),
                  Wd.maskV (2 : Int)
                      (List.getD [(1 : Int), (2 : Int), (3 : Int), (5 : Int), (0 : Int)] (nat_lit 2) (0 : Int)) +
                    (1 : Int),
                  Wd.maskV (2 : Int)
                      (List.getD [(1 : Int), (2 : Int), (3 : Int), (5 : Int), (0 : Int)] (nat_lit 3) (0 : Int)) +
                    (1 : Int),
                  Wd.maskV (2 : Int)
                      (List.getD [(1 : Int), (2 : Int), (3 : Int), (5 : Int), (0 : Int)] (nat_lit 4) (0 : Int)) +
                    (1 : Int),
                  (↑(0 : Nat) : Int) + (1 : Int), (0 : Int) + (1 : Int)]
                (2 : Nat) (0 : Int),
              List.getD
                [(0 : Int) + (1 : Int),
                  Wd.maskV (2 : Int)
                      (List.getD [(1 : Int), (2 : Int), (3 : Int), (5 : Int), (0 : Int)] (nat_lit 0) (0 : Int)) +
                    (1 : Int),
                  Wd.maskV (2 : Int)
                      (List.getD [(1 : Int), (2 : Int), (3 : Int), (5 : Int), (0 : Int)] (nat_lit 1) (0 : Int)) +
                    (1 : Int),
                  (0 : Int) + (1 : Int), (↑(3 : Nat) : Int) + (1 : Int),
                  Wd.maskV (2 : Int)
                      (List.getD [(1 : Int), (2 : Int), (3 : Int), (5 : Int), (0 : Int)] (nat_lit 2) (0 : Int)) +
                    (1 : Int),
                  Wd.maskV (2 : Int)
                      (List.getD [(1 : Int), (2 : Int), (3 : Int), (5 : Int), (0 : Int)] (nat_lit 3) (0 : Int)) +
                    (1 : Int),
                  Wd.maskV (2 : Int)
                      (List.getD [(1 : Int), (2 : Int), (3 : Int), (5 : Int), (0 : Int)] (nat_lit 4) (0 : Int)) +
                    (1 : Int),
                  (↑(0 : Nat) : Int) + (1 : Int), (0 : Int) + (1 : Int)]
                (3 : Nat) (0 : Int),
              List.getD
                [(0 : Int) + (1 : Int),
                  Wd.maskV (2 : Int)
                      (List.getD [(1 : Int), (2 : Int), (3 : Int), (5 : Int), (0 : Int)] (nat_lit 0) (0 : Int)) +
                    (1 : Int),
                  Wd.maskV (2 : Int)
                      (List.getD [(1 : Int), (2 : Int), (3 : Int), (5 : Int), (0 : Int)] (nat_lit 1) (0 : Int)) +
                    (1 : Int),
                  (0 : Int) + (1 : Int), (↑(3 : Nat) : Int) + (1 : Int),
                  Wd.maskV (2 : Int)
                      (List.getD [(1 : Int), (2 : Int), (3 : Int), (5 : Int), (0 : Int)] (nat_lit 2) (0 : Int)) +
                    (1 : Int),
                  Wd.maskV (2 : Int)
                      (List.getD [(1 : Int), (2 : Int), (3 : Int), (5 : Int), (0 : Int)] (nat_lit 3) (0 : Int)) +
                    (1 : Int),
                  Wd.maskV (2 : Int)
                      (List.getD [(1 : Int), (2 : Int), (3 : Int), (5 : Int), (0 : Int)] (nat_lit 4) (0 : Int)) +
                    (1 : Int),
                  (↑(0 : Nat) : Int) + (1 : Int), (0 : Int) + (1 : Int)]
                (4 : Nat) (0 : Int),
              List.getD
                [(0 : Int) + (1 : Int),
                  Wd.maskV (2 : Int)
                      (List.getD [(1 : Int), (2 : Int), (3 : Int), (5 : Int), (0 : Int)] (nat_lit 0) (0 : Int)) +
                    (1 : Int),
                  Wd.maskV (2 : Int)
                      (List.getD [(1 : Int), (2 : Int), (3 : Int), (5 : Int), (0 : Int)] (nat_lit 1) (0 : Int)) +
                    (1 : Int),
                  (0 : Int) + (1 : Int), (↑(3 : Nat) : Int) + (1 : Int),
                  Wd.maskV (2 : Int)
                      (List.getD [(1 : Int), (2 : Int), (3 : Int), (5 : Int), (0 : Int)] (nat_lit 2) (0 : Int)) +
                    (1 : Int),
                  Wd.maskV (2 : Int)
                      (List.getD [(1 : Int), (2 : Int), (3 : Int), (5 : Int), (0 : Int)] (nat_lit 3) (0 : Int)) +
                    (1 : Int),
                  Wd.maskV (2 : Int)
                      (List.getD [(1 : Int), (2 : Int), (3 : Int), (5 : Int), (0 : Int)] (nat_lit 4) (0 : Int)) +
                    (1 : Int),
                  (↑(0 : Nat) : Int) + (1 : Int), (0 : Int) + (1 : Int)]
                (5 : Nat) (0 : Int),
              List.getD
                [(0 : Int) + (1 : Int),
                  Wd.maskV (2 : Int)
                      (List.getD [(1 : Int), (2 : Int), (3 : Int), (5 : Int), (0 : Int)] (nat_lit 0) (0 : Int)) +
                    (1 : Int),
                  Wd.maskV (2 : Int)
                      (List.getD [(1 : Int), (2 : Int), (3 : Int), (5 : Int), (0 : Int)] (nat_lit 1) (0 : Int)) +
                    (1 : Int),
                  (0 : Int) + (1 : Int), (↑(3 : Nat) : Int) + (1 : Int),
                  Wd.maskV (2 : Int)
                      (List.getD [(1 : Int), (2 : Int), (3 : Int), (5 : Int), (0 : Int)] (nat_lit 2) (0 : Int)) +
                    (1 : Int),
                  Wd.maskV (2 : Int)
                      (List.getD [(1 : Int), (2 : Int), (3 : Int), (5 : Int), (0 : Int)] (nat_lit 3) (0 : Int)) +
                    (1 : Int),
                  Wd.maskV (2 : Int)
                      (List.getD [(1 : Int), (2 : Int), (3 : Int), (5 : Int), (0 : Int)] (nat_lit 4) (0 : Int)) +
                    (1 : Int),
                  (↑(0 : Nat) : Int) + (1 : Int), (0 : Int) + (1 : Int)]
                (6 : Nat) (0 : Int),
              List.getD
                [(0 : Int) + (1 : Int),
                  Wd.maskV (2 : Int)
                      (List.getD [(1 : Int), (2 : Int), (3 : Int), (5 : Int), (0 : Int)] (nat_lit 0) (0 : Int)) +
                    (1 : Int),
                  Wd.maskV (2 : Int)
                      (List.getD [(1 : Int), (2 : Int), (3 : Int), (5 : Int), (0 : Int)] (nat_lit 1) (0 : Int)) +
                    (1 : Int),
                  (0 : Int) + (1 : Int), (↑(3 : Nat) : Int) + (1 : Int),
                  Wd.maskV (2 : Int)
                      (List.getD [(1 : Int), (2 : Int), (3 : Int), (5 : Int), (0 : Int)] (nat_lit 2) (0 : Int)) +
                    (1 : Int),
                  Wd.maskV (2 : Int)
                      (List.getD [(1 : Int), (2 : Int), (3 : Int), (5 : Int), (0 : Int)] (nat_lit 3) (0 : Int)) +
                    (1 : Int),
                  Wd.maskV (2 : Int)
                      (List.getD [(1 : Int), (2 : Int), (3 : Int), (5 : Int), (0 : Int)] (nat_lit 4) (0 : Int)) +
                    (1 : Int),
                  (↑(0 : Nat) : Int) + (1 : Int), (0 : Int) + (1 : Int)]
                (7 : Nat) (0 : Int),
              List.getD
                [(0 : Int) + (1 : Int),
                  Wd.maskV (2 : Int)
                      (List.getD [(1 : Int), (2 : Int), (3 : Int), (5 : Int), (0 : Int)] (nat_lit 0) (0 : Int)) +
                    (1 : Int),
                  Wd.maskV (2 : Int)
                      (List.getD [(1 : Int), (2 : Int), (3 : Int), (5 : Int), (0 : Int)] (nat_lit 1) (0 : Int)) +
                    (1 : Int),
                  (0 : Int) + (1 : Int), (↑(3 : Nat) : Int) + (1 : Int),
                  Wd.maskV (2 : Int)
                      (List.getD [(1 : Int), (2 : Int), (3 : Int), (5 : Int), (0 : Int)] (nat_lit 2) (0 : Int)) +
                    (1 : Int),
                  Wd.maskV (2 : Int)
                      (List.getD [(1 : Int), (2 : Int), (3 : Int), (5 : Int), (0 : Int)] (nat_lit 3) (0 : Int)) +
                    (1 : Int),
                  Wd.maskV (2 : Int)
                      (List.getD [(1 : Int), (2 : Int), (3 : Int), (5 : Int), (0 : Int)] (nat_lit 4) (0 : Int)) +
                    (1 : Int),
                  (↑(0 : Nat) : Int) + (1 : Int), (0 : Int) + (1 : Int)]
                (8 : Nat) (0 : Int),
              List.getD
                [(0 : Int) + (1 : Int),
                  Wd.maskV (2 : Int)
                      (List.getD [(1 : Int), (2 : Int), (3 : Int), (5 : Int), (0 : Int)] (nat_lit 0) (0 : Int)) +
                    (1 : Int),
                  Wd.maskV (2 : Int)
                      (List.getD [(1 : Int), (2 : Int), (3 : Int), (5 : Int), (0 : Int)] (nat_lit 1) (0 : Int)) +
                    (1 : Int),
                  (0 : Int) + (1 : Int), (↑(3 : Nat) : Int) + (1 : Int),
                  Wd.maskV (2 : Int)
                      (List.getD [(1 : Int), (2 : Int), (3 : Int), (5 : Int), (0 : Int)] (nat_lit 2) (0 : Int)) +
                    (1 : Int),
                  Wd.maskV (2 : Int)
                      (List.getD [(1 : Int), (2 : Int), (3 : Int), (5 : Int), (0 : Int)] (nat_lit 3) (0 : Int)) +
                    (1 : Int),
                  Wd.maskV (2 : Int)
                      (List.getD [(1 : Int), (2 : Int), (3 : Int), (5 : Int), (0 : Int)] (nat_lit 4) (0 : Int)) +
                    (1 : Int),
                  (↑(0 : Nat) : Int) + (1 : Int), (0 : Int) + (1 : Int)]
                (9 : Nat) (0 : Int)])
          (3 : Nat),
        ByteArray.get!
          (Go.strOfNums
            [List.getD
                [(0 : Int) + (1 : Int),
                  Wd.maskV (2 : Int)
                      (List.getD [(1 : Int), (2 : Int), (3 : Int), (5 : Int), (0 : Int)] (nat_lit 0) (0 : Int)) +
                    (1 : Int),
                  Wd.maskV (2 : Int)
                      (List.getD [(1 : Int), (2 : Int), (3 : Int), (5 : Int), (0 : Int)] (nat_lit 1) (0 : Int)) +
                    (1 : Int),
                  (0 : Int) + (1 : Int), (↑(3 : Nat) : Int) + (1 : Int),
                  Wd.maskV (2 : Int)
                      (List.getD [(1 : Int), (2 : Int), (3 : Int), (5 : Int), (0 : Int)] (nat_lit 2) (0 : Int)) +
                    (1 : Int),
                  Wd.maskV (2 : Int)
                      (List.getD [(1 : Int), (2 : Int), (3 : Int), (5 : Int), (0 : Int)] (nat_lit 3) (0 : Int)) +
                    (1 : Int),
                  Wd.maskV (2 : Int)
                      (List.getD [(1 : Int), (2 : Int), (3 : Int), (5 : Int), (0 : Int)] (nat_lit 4) (0 : Int)) +
                    (1 : Int),
                  (↑(0 : Nat) : Int) + (1 : Int), (0 : Int) + (1 : Int)]
                (0 : Nat) (0 : Int),
              List.getD
                [(0 : Int) + (1 : Int),
                  Wd.maskV (2 : Int)
                      (List.getD [(1 : Int), (2 : Int), (3 : Int), (5 : Int), (0 : Int)] (nat_lit 0) (0 : Int)) +
                    (1 : Int),
                  Wd.maskV (2 : Int)
                      (List.getD [(1 : Int), (2 : Int), (3 : Int), (5 : Int), (0 : Int)] (nat_lit 1) (0 : Int)) +
                    (1 : Int),
                  (0 : Int) + (1 : Int), (↑(3 : Nat) : Int) + (1 : Int),
                  Wd.maskV (2 : Int)
                      (List.getD [(1 : Int), (2 : Int), (3 : Int), (5 : Int), (0 : Int)] (nat_lit 2) (0 : Int)) +
                    (1 : Int),
                  Wd.maskV (2 : Int)
                      (List.getD [(1 : Int), (2 : Int), (3 : Int), (5 : Int), (0 : Int)] (nat_lit 3) (0 : Int)) +
                    (1 : Int),
                  Wd.maskV (2 : Int)
                      (List.getD [(1 : Int), (2 : Int), (3 : Int), (5 : Int), (0 : Int)] (nat_lit 4) (0 : Int)) +
                    (1 : Int),
                  (↑(0 : Nat) : Int) + (1 : Int), (0 : Int) + (1 : Int)]
                (1 : Nat) (0 : Int),
              List.getD
                [(0 : Int) + (1 : Int),
                  Wd.maskV (2 : Int)
                      (List.getD [(1 : Int), (2 : Int), (3 : Int), (5 : Int), (0 : Int)] (nat_lit 0) (0 : Int)) +
                    (1 : Int),
                  Wd.maskV (2 : Int)
                      (List.getD [(1 : Int), (2 : Int), (3 : Int), (5 : Int), (0 : Int)] (nat_lit 1) (0 : Int)) +
                    (1 : Int),
                  (0 : Int) + (1 : Int), (↑(3 : Nat) : Int) + (1 : Int),
                  Wd.maskV (2 : Int)
                      (List.getD [(1 : Int), (2 : Int), (3 : Int), (5 : Int), (0 : Int)] (nat_lit 2) (0 : Int)) +
                    (1 : Int),
                  Wd.maskV (2 : Int)
                      (List.getD [(1 : Int), (2 : Int), (3 : Int), (5 : Int), (0 : Int)] (nat_lit 3) (0 : Int)) +
                    (1 : Int),
                  Wd.maskV (2 : Int)
                      (List.getD [(1 : Int), (2 : Int), (3 : Int), (5 : Int), (0 : Int)] (nat_lit 4) (0 : Int)) +
                    (1 : Int),
                  (↑(0 : Nat) : Int) + (1 : Int), (0 : Int) + (1 : Int)]
                (2 : Nat) (0 : Int),
              List.getD
                [(0 : Int) + (1 : Int),
                  Wd.maskV (2 : Int)
                      (List.getD [(1 : Int), (2 : Int), (3 : Int), (5 : Int), (0 : Int)] (nat_lit 0) (0 : Int)) +
                    (1 : Int),
                  Wd.maskV (2 : Int)
                      (List.getD [(1 : Int), (2 : Int), (3 : Int), (5 : Int), (0 : Int)] (nat_lit 1) (0 : Int)) +
                    (1 : Int),
                  (0 : Int) + (1 : Int), (↑(3 : Nat) : Int) + (1 : Int),
                  Wd.maskV (2 : Int)
                      (List.getD [(1 : Int), (2 : Int), (3 : Int), (5 : Int), (0 : Int)] (nat_lit 2) (0 : Int)) +
                    (1 : Int),
                  Wd.maskV (2 : Int)
                      (List.getD [(1 : Int), (2 : Int), (3 : Int), (5 : Int), (0 : Int)] (nat_lit 3) (0 : Int)) +
                    (1 : Int),
                  Wd.maskV (2 : Int)
                      (List.getD [(1 : Int), (2 : Int), (3 : Int), (5 : Int), (0 : Int)] (nat_lit 4) (0 : Int)) +
                    (1 : Int),
                  (↑(0 : Nat) : Int) + (1 : Int), (0 : Int) + (1 : Int)]
                (3 : Nat) (0 : Int),
              List.getD
                [(0 : Int) + (1 : Int),
                  Wd.maskV (2 : Int)
                      (List.getD [(1 : Int), (2 : Int), (3 : Int), (5 : Int), (0 : Int)] (nat_lit 0) (0 : Int)) +
                    (1 : Int),
                  Wd.maskV (2 : Int)
                      (List.getD [(1 : Int), (2 : Int), (3 : Int), (5 : Int), (0 : Int)] (nat_lit 1) (0 : Int)) +
                    (1 : Int),
                  (0 : Int) + (1 : Int), (↑(3 : Nat) : Int) + (1 : Int),
                  Wd.maskV (2 : Int)
                      (List.getD [(1 : Int), (2 : Int), (3 : Int), (5 : Int), (0 : Int)] (nat_lit 2) (0 : Int)) +
                    (1 : Int),
                  Wd.maskV (2 : Int)
                      (List.getD [(1 : Int), (2 : Int), (3 : Int), (5 : Int), (0 : Int)] (nat_lit 3) (0 : Int)) +
                    (1 : Int),
                  Wd.maskV (2 : Int)
                      (List.getD [(1 : Int), (2 : Int), (3 : Int), (5 : Int), (0 : Int)] (nat_lit 4) (0 : Int)) +
                    (1 : Int),
                  (↑(0 : Nat) : Int) + (1 : Int), (0 : Int) + (1 : Int)]
                (4 : Nat) (0 : Int),
              List.getD
                [(0 : Int) + (1 : Int),
                  Wd.maskV (2 : Int)
                      (List.getD [(1 : Int), (2 : Int), (3 : Int), (5 : Int), (0 : Int)] (nat_lit 0) (0 : Int)) +
                    (1 : Int),
                  Wd.maskV (2 : Int)
                      (List.getD [(1 : Int), (2 : Int), (3 : Int), (5 : Int), (0 : Int)] (nat_lit 1) (0 : Int)) +
                    (1 : Int),
                  (0 : Int) + (1 : Int), (↑(3 : Nat) : Int) + (1 : Int),
                  Wd.maskV (2 : Int)
                      (List.getD [(1 : Int), (2 : Int), (3 : Int), (5 : Int), (0 : Int)] (nat_lit 2) (0 : Int)) +
                    (1 : Int),
                  Wd.maskV (2 : Int)
                      (List.getD [(1 : Int), (2 : Int), (3 : Int), (5 : Int), (0 : Int)] (nat_lit 3) (0 : Int)) +
                    (1 : Int),
                  Wd.maskV (2 : Int)
                      (List.getD [(1 : Int), (2 : Int), (3 : Int), (5 : Int), (0 : Int)] (nat_lit 4) (0 : Int)) +
                    (1 : Int),
                  (↑(0 : Nat) : Int) + (1 : Int), (0 : Int) + (1 : Int)]
                (5 : Nat) (0 : Int),
              List.getD
                [(0 : Int) + (1 : Int),
                  Wd.maskV (2 : Int)
                      (List.getD [(1 : Int), (2 : Int), (3 : Int), (5 : Int), (0 : Int)] (nat_lit 0) (0 : Int)) +
                    (1 : Int),
                  Wd.maskV (2 : Int)
                      (List.getD [(1 : Int), (2 : Int), (3 : Int), (5 : Int), (0 : Int)] (nat_lit 1) (0 : Int)) +
                    (1 : Int),
                  (0 : Int) + (1 : Int), (↑(3 : Nat) : Int) + (1 : Int),
                  Wd.maskV (2 : Int)
                      (List.getD [(1 : Int), (2 : Int), (3 : Int), (5 : Int), (0 : Int)] (nat_lit 2) (0 : Int)) +
                    (1 : Int),
                  Wd.maskV (2 : Int)
                      (List.getD [(1 : Int), (2 : Int), (3 : Int), (5 : Int), (0 : Int)] (nat_lit 3) (0 : Int)) +
                    (1 : Int),
                  Wd.maskV (2 : Int)
                      (List.getD [(1 : Int), (2 : Int), (3 : Int), (5 : Int), (0 : Int)] (nat_lit 4) (0 : Int)) +
                    (1 : Int),
                  (↑(0 : Nat) : Int) + (1 : Int), (0 : Int) + (1 : Int)]
                (6 : Nat) (0 : Int),
              List.getD
                [(0 : Int) + (1 : Int),
                  Wd.maskV (2 : Int)
                      (List.getD [(1 : Int), (2 : Int), (3 : Int), (5 : Int), (0 : Int)] (nat_lit 0) (0 : Int)) +
                    (1 : Int),
                  Wd.maskV (2 : Int)
                      (List.getD [(1 : Int), (2 : Int), (3 : Int), (5 : Int), (0 : Int)] (nat_lit 1) (0 : Int)) +
                    (1 : Int),
                  (0 : Int) + (1 : Int), (↑(3 : Nat) : Int) + (1 : Int),
                  Wd.maskV (2 : Int)
                      (List.getD [(1 : Int), (2 : Int), (3 : Int), (5 : Int), (0 : Int)] (nat_lit 2) (0 : Int)) +
                    (1 : Int),
                  Wd.maskV (2 : Int)
                      (List.getD [(1 : Int), (2 : Int), (3 : Int), (5 : Int), (0 : Int)] (nat_lit 3) (0 : Int)) +
                    (1 : Int),
                  Wd.maskV (2 : Int)
                      (List.getD [(1 : Int), (2 : Int), (3 : Int), (5 : Int), (0 : Int)] (nat_lit 4) (0 : Int)) +
                    (1 : Int),
                  (↑(0 : Nat) : Int) + (1 : Int), (0 : Int) + (1 : Int)]
                (7 : Nat) (0 : Int),
              List.getD
                [(0 : Int) + (1 : Int),
                  Wd.maskV (2 : Int)
                      (List.getD [(1 : Int), (2 : Int), (3 : Int), (5 : Int), (0 : Int)] (nat_lit 0) (0 : Int)) +
                    (1 : Int),
                  Wd.maskV (2 : Int)
                      (List.getD [(1 : Int), (2 : Int), (3 : Int), (5 : Int), (0 : Int)] (nat_lit 1) (0 : Int)) +
                    (1 : Int),
                  (0 : Int) + (1 : Int), (↑(3 : Nat) : Int) + (1 : Int),
                  Wd.maskV (2 : Int)
                      (List.getD [(1 : Int), (2 : Int), (3 : Int), (5 : Int), (0 : Int)] (nat_lit 2) (0 : Int)) +
                    (1 : Int),
                  Wd.maskV (2 : Int)
                      (List.getD [(1 : Int), (2 : Int), (3 : Int), (5 : Int), (0 : Int)] (nat_lit 3) (0 : Int)) +
                    (1 : Int),
                  Wd.maskV (2 : Int)
                      (List.getD [(1 : Int), (2 : Int), (3 : Int), (5 : Int), (0 : Int)] (nat_lit 4) (0 : Int)) +
                    (1 : Int),
                  (↑(0 : Nat) : Int) + (1 : Int), (0 : Int) + (1 : Int)]
                (8 : Nat) (0 : Int),
              List.getD
                [(0 : Int) + (1 : Int),
                  Wd.maskV (2 : Int)
                      (List.getD [(1 : Int), (2 : Int), (3 : Int), (5 : Int), (0 : Int)] (nat_lit 0) (0 : Int)) +
                    (1 : Int),
                  Wd.maskV (2 : Int)
                      (List.getD [(1 : Int), (2 : Int), (3 : Int), (5 : Int), (0 : Int)] (nat_lit 1) (0 : Int)) +
                    (1 : Int),
                  (0 : Int) + (1 : Int), (↑(3 : Nat) : Int) + (1 : Int),
                  Wd.maskV (2 : Int)
                      (List.getD [(1 : Int), (2 : Int), (3 : Int), (5 : Int), (0 : Int)] (nat_lit 2) (0 : Int)) +
                    (1 : Int),
                  Wd.maskV (2 : Int)
                      (List.getD [(1 : Int), (2 : Int), (3 : Int), (5 : Int), (0 : Int)] (nat_lit 3) (0 : Int)) +
                    (1 : Int),
                  Wd.maskV (2 : Int)
                      (List.getD [(1 : Int), (2 : Int), (3 : Int), (5 : Int), (0 : Int)] (nat_lit 4) (0 : Int)) +
                    (1 : Int),
                  (↑(0 : Nat) : Int) + (1 : Int), (0 : Int) + (1 : Int)]
                (9 : Nat) (0 : Int)])
          (4 : Nat),
        ByteArray.get!
          (Go.strOfNums
            [List.getD
                [(0 : Int) + (1 : Int),
                  Wd.maskV (2 : Int)
                      (List.getD [(1 : Int), (2 : Int), (3 : Int), (5 : Int), (0 : Int)] (nat_lit 0) (0 : Int)) +
                    (1 : Int),
                  Wd.maskV (2 : Int)
                      (List.getD [(1 : Int), (2 : Int), (3 : Int), (5 : Int), (0 : Int)] (nat_lit 1) (0 : Int)) +
                    (1 : Int),
                  (0 : Int) + (1 : Int), (↑(3 : Nat) : Int) + (1 : Int),
                  Wd.maskV (2 : Int)
                      (List.getD [(1 : Int), (2 : Int), (3 : Int), (5 : Int), (0 : Int)] (nat_lit 2) (0 : Int)) +
                    (1 : Int),
                  Wd.maskV (2 : Int)
                      (List.getD [(1 : Int), (2 : Int), (3 : Int), (5 : Int), (0 : Int)] (nat_lit 3) (0 : Int)) +
                    (1 : Int),
                  Wd.maskV (2 : Int)
                      (List.getD [(1 : Int), (2 : Int), (3 : Int), (5 : Int), (0 : Int)] (nat_lit 4) (0 : Int)) +
                    (1 : Int),
                  (↑(0 : Nat) : Int) + (1 : Int), (0 : Int) + (1 : Int)]
                (0 : Nat) (0 : Int),
              List.getD
                [(0 : Int) + (1 : Int),
                  Wd.maskV (2 : Int)
                      (List.getD [(1 : Int), (2 : Int), (3 : Int), (5 : Int), (0 : Int)] (nat_lit 0) (0 : Int)) +
                    (1 : Int),
                  Wd.maskV (2 : Int)
                      (List.getD [(1 : Int), (2 : Int), (3 : Int), (5 : Int), (0 : Int)] (nat_lit 1) (0 : Int)) +
                    (1 : Int),
                  (0 : Int) + (1 : Int), (↑(3 : Nat) : Int) + (1 : Int),
                  Wd.maskV (2 : Int)
                      (List.getD [(1 : Int), (2 : Int), (3 : Int), (5 : Int), (0 : Int)] (nat_lit 2) (0 : Int)) +
                    (1 : Int),
                  Wd.maskV (2 : Int)
                      (List.getD [(1 : Int), (2 : Int), (3 : Int), (5 : Int), (0 : Int)] (nat_lit 3) (0 : Int)) +
                    (1 : Int),
                  Wd.maskV (2 : Int)
                      (List.getD [(1 : Int), (2 : Int), (3 : Int), (5 : Int), (0 : Int)] (nat_lit 4) (0 : Int)) +
                    (1 : Int),
                  (↑(0 : Nat) : Int) + (1 : Int), (0 : Int) + (1 : Int)]
                (1 : Nat) (0 : Int),
              List.getD
                [(0 : Int) + (1 : Int),
                  Wd.maskV (2 : Int)
                      (List.getD [(1 : Int), (2 : Int), (3 : Int), (5 : Int), (0 : Int)] (nat_lit 0) (0 : Int)) +
                    (1 : Int),
                  Wd.maskV (2 : Int)
                      (List.getD [(1 : Int), (2 : Int), (3 : Int), (5 : Int), (0 : Int)] (nat_lit 1) (0 : Int)) +
                    (1 : Int),
                  (0 : Int) + (1 : Int), (↑(3 : Nat) : Int) + (1 : Int),
                  Wd.maskV (2 : Int)
                      (List.getD [(1 : Int), (2 : Int), (3 : Int), (5 : Int), (0 : Int)] (nat_lit 2) (0 : Int)) +
                    (1 : Int),
                  Wd.maskV (2 : Int)
                      (List.getD [(1 : Int), (2 : Int), (3 : Int), (5 : Int), (0 : Int)] (nat_lit 3) (0 : Int)) +
                    (1 : Int),
                  Wd.maskV (2 : Int)
                      (List.getD [(1 : Int), (2 : Int), (3 : Int), (5 : Int), (0 : Int)] (nat_lit 4) (0 : Int)) +
                    (1 : Int),
                  (↑(0 : Nat) : Int) + (1 : Int), (0 : Int) + (1 : Int)]
                (2 : Nat) (0 : Int),
              List.getD
                [(0 : Int) + (1 : Int),
                  Wd.maskV (2 : Int)
                      (List.getD [(1 : Int), (2 : Int), (3 : Int), (5 : Int), (0 : Int)] (nat_lit 0) (0 : Int)) +
                    (1 : Int),
                  Wd.maskV (2 : Int)
                      (List.getD [(1 : Int), (2 : Int), (3 : Int), (5 : Int), (0 : Int)] (nat_lit 1) (0 : Int)) +
                    (1 : Int),
                  (0 : Int) + (1 : Int), (↑(3 : Nat) : Int) + (1 : Int),
                  Wd.maskV (2 : Int)
                      (List.getD [(1 : Int), (2 : Int), (3 : Int), (5 : Int), (0 : Int)] (nat_lit 2) (0 : Int)) +
                    (1 : Int),
                  Wd.maskV (2 : Int)
                      (List.getD [(1 : Int), (2 : Int), (3 : Int), (5 : Int), (0 : Int)] (nat_lit 3) (0 : Int)) +
                    (1 : Int),
                  Wd.maskV (2 : Int)
                      (List.getD [(1 : Int), (2 : Int), (3 : Int), (5 : Int), (0 : Int)] (nat_lit 4) (0 : Int)) +
                    (1 : Int),
                  (↑(0 : Nat) : Int) + (1 : Int), (0 : Int) + (1 : Int)]
                (3 : Nat) (0 : Int),
              List.getD
                [(0 : Int) + (1 : Int),
                  Wd.maskV (2 : Int)
                      (List.getD [(1 : Int), (2 : Int), (3 : Int), (5 : Int), (0 : Int)] (nat_lit 0) (0 : Int)) +
                    (1 : Int),
                  Wd.maskV (2 : Int)
                      (List.getD [(1 : Int), (2 : Int), (3 : Int), (5 : Int), (0 : Int)] (nat_lit 1) (0 : Int)) +
                    (1 : Int),
                  (0 : Int) + (1 : Int), (↑(3 : Nat) : Int) + (1 : Int),
                  Wd.maskV (2 : Int)
                      (List.getD [(1 : Int), (2 : Int), (3 : Int), (5 : Int), (0 : Int)] (nat_lit 2) (0 : Int)) +
                    (1 : Int),
                  Wd.maskV (2 : Int)
                      (List.getD [(1 : Int), (2 : Int), (3 : Int), (5 : Int), (0 : Int)] (nat_lit 3) (0 : Int)) +
                    (1 : Int),
                  Wd.maskV (2 : Int)
                      (List.getD [(1 : Int), (2 : Int), (3 : Int), (5 : Int), (0 : Int)] (nat_lit 4) (0 : Int)) +
                    (1 : Int),
                  (↑(0 : Nat) : Int) + (1 : Int), (0 : Int) + (1 : Int)]
                (4 : Nat) (0 : Int),
              List.getD
                [(0 : Int) + (1 : Int),
                  Wd.maskV (2 : Int)
                      (List.getD [(1 : Int), (2 : Int), (3 : Int), (5 : Int), (0 : Int)] (nat_lit 0) (0 : Int)) +
                    (1 : Int),
                  Wd.maskV (2 : Int)
                      (List.getD [(1 : Int), (2 : Int), (3 : Int), (5 : Int), (0 : Int)] (nat_lit 1) (0 : Int)) +
                    (1 : Int),
                  (0 : Int) + (1 : Int), (↑(3 : Nat) : Int) + (1 : Int),
                  Wd.maskV (2 : Int)
                      (List.getD [(1 : Int), (2 : Int), (3 : Int), (5 : Int), (0 : Int)] (nat_lit 2) (0 : Int)) +
                    (1 : Int),
                  Wd.maskV (2 : Int)
                      (List.getD [(1 : Int), (2 : Int), (3 : Int), (5 : Int), (0 : Int)] (nat_lit 3) (0 : Int)) +
                    (1 : Int),
                  Wd.maskV (2 : Int)
                      (List.getD [(1 : Int), (2 : Int), (3 : Int), (5 : Int), (0 : Int)] (nat_lit 4) (0 : Int)) +
                    (1 : Int),
                  (↑(0 : Nat) : Int) + (1 : Int), (0 : Int) + (1 : Int)]
                (5 : Nat) (0 : Int),
              List.getD
                [(0 : Int) + (1 : Int),
                  Wd.maskV (2 : Int)
                      (List.getD [(1 : Int), (2 : Int), (3 : Int), (5 : Int), (0 : Int)] (nat_lit 0) (0 : Int)) +
                    (1 : Int),
                  Wd.maskV (2 : Int)
                      (List.getD [(1 : Int), (2 : Int), (3 : Int), (5 : Int), (0 : Int)] (nat_lit 1) (0 : Int)) +
                    (1 : Int),
                  (0 : Int) + (1 : Int), (↑(3 : Nat) : Int) + (1 : Int),
                  Wd.maskV (2 : Int)
                      (List.getD [(1 : Int), (2 : Int), (3 : Int), (5 : Int), (0 : Int)] (nat_lit 2) (0 : Int)) +
                    (1 : Int),
                  Wd.maskV (2 : Int)
                      (List.getD [(1 : Int), (2 : Int), (3 : Int), (5 : Int), (0 : Int)] (nat_lit 3) (0 : Int)) +
                    (1 : Int),
                  Wd.maskV (2 : Int)
                      (List.getD [(1 : Int), (2 : Int), (3 : Int), (5 : Int), (0 : Int)] (nat_lit 4) (0 : Int)) +
                    (1 : Int),
                  (↑(0 : Nat) : Int) + (1 : Int), (0 : Int) + (1 : Int)]
                (6 : Nat) (0 : Int),
              List.getD
                [(0 : Int) + (1 : Int),
                  Wd.maskV (2 : Int)
                      (List.getD [(1 : Int), (2 : Int), (3 : Int), (5 : Int), (0 : Int)] (nat_lit 0) (0 : Int)) +
                    (1 : Int),
                  Wd.maskV (2 : Int)
                      (List.getD [(1 : Int), (2 : Int), (3 : Int), (5 : Int), (0 : Int)] (nat_lit 1) (0 : Int)) +
                    (1 : Int),
                  (0 : Int) + (1 : Int), (↑(3 : Nat) : Int) + (1 : Int),
                  Wd.maskV (2 : Int)
                      (List.getD [(1 : Int), (2 : Int), (3 : Int), (5 : Int), (0 : Int)] (nat_lit 2) (0 : Int)) +
                    (1 : Int),
                  Wd.maskV (2 : Int)
                      (List.getD [(1 : Int), (2 : Int), (3 : Int), (5 : Int), (0 : Int)] (nat_lit 3) (0 : Int)) +
                    (1 : Int),
                  Wd.maskV (2 : Int)
                      (List.getD [(1 : Int), (2 : Int), (3 : Int), (5 : Int), (0 : Int)] (nat_lit 4) (0 : Int)) +
                    (1 : Int),
                  (↑(0 : Nat) : Int) + (1 : Int), (0 : Int) + (1 : Int)]
                (7 : Nat) (0 : Int),
              List.getD
                [(0 : Int) + (1 : Int),
                  Wd.maskV (2 : Int)
                      (List.getD [(1 : Int), (2 : Int), (3 : Int), (5 : Int), (0 : Int)] (nat_lit 0) (0 : Int)) +
                    (1 : Int),
                  Wd.maskV (2 : Int)
                      (List.getD [(1 : Int), (2 : Int), (3 : Int), (5 : Int), (0 : Int)] (nat_lit 1) (0 : Int)) +
                    (1 : Int),
                  (0 : Int) + (1 : Int), (↑(3 : Nat) : Int) + (1 : Int),
                  Wd.maskV (2 : Int)
                      (List.getD [(1 : Int), (2 : Int), (3 : Int), (5 : Int), (0 : Int)] (nat_lit 2) (0 : Int)) +
                    (1 : Int),
                  Wd.maskV (2 : Int)
                      (List.getD [(1 : Int), (2 : Int), (3 : Int), (5 : Int), (0 : Int)] (nat_lit 3) (0 : Int)) +
                    (1 : Int),
                  Wd.maskV (2 : Int)
                      (List.getD [(1 : Int), (2 : Int), (3 : Int), (5 : Int), (0 : Int)] (nat_lit 4) (0 : Int)) +
                    (1 : Int),
                  (↑(0 : Nat) : Int) + (1 : Int), (0 : Int) + (1 : Int)]
                (8 : Nat) (0 : Int),
              List.getD
                [(0 : Int) + (1 : Int),
                  Wd.maskV (2 : Int)
                      (List.getD [(1 : Int), (2 : Int), (3 : Int), (5 : Int), (0 : Int)] (nat_lit 0) (0 : Int)) +
                    (1 : Int),
                  Wd.maskV (2 : Int)
                      (List.getD [(1 : Int), (2 : Int), (3 : Int), (5 : Int), (0 : Int)] (nat_lit 1) (0 : Int)) +
                    (1 : Int),
                  (0 : Int) + (1 : Int), (↑(3 : Nat) : Int) + (1 : Int),
                  Wd.maskV (2 : Int)
                      (List.getD [(1 : Int), (2 : Int), (3 : Int), (5 : Int), (0 : Int)] (nat_lit 2) (0 : Int)) +
                    (1 : Int),
                  Wd.maskV (2 : Int)
                      (List.getD [(1 : Int), (2 : Int), (3 : Int), (5 : Int), (0 : Int)] (nat_lit 3) (0 : Int)) +
                    (1 : Int),
                  Wd.maskV (2 : Int)
                      (List.getD [(1 : Int), (2 : Int), (3 : Int), (5 : Int), (0 : Int)] (nat_lit 4) (0 : Int)) +
                    (1 : Int),
                  (↑(0 : Nat) : Int) + (1 : Int), (0 : Int) + (1 : Int)]
                (9 : Nat) (0 : Int)])
          (5 : Nat),
        ByteArray.get!
          (Go.strOfNums
            [List.getD
                [(0 : Int) + (1 : Int),
                  Wd.maskV (2 : Int)
                      (List.getD [(1 : Int), (2 : Int), (3 : Int), (5 : Int), (0 : Int)] (nat_lit 0) (0 : Int)) +
                    (1 : Int),
                  Wd.maskV (2 : Int)
                      (List.getD [(1 : Int), (2 : Int), (3 : Int), (5 : Int), (0 : Int)] (nat_lit 1) (0 : Int)) +
                    (1 : Int),
                  (0 : Int) + (1 : Int), (↑(3 : Nat) : Int) + (1 : Int),
                  Wd.maskV (2 : Int)
                      (List.getD [(1 : Int), (2 : Int), (3 : Int), (5 : Int), (0 : Int)] (nat_lit 2) (0 : Int)) +
                    (1 : Int),
                  Wd.maskV (2 : Int)
                      (List.getD [(1 : Int), (2 : Int), (3 : Int), (5 : Int), (0 : Int)] (nat_lit 3) (0 : Int)) +
                    (1 : Int),
                  Wd.maskV (2 : Int)
                      (List.getD [(1 : Int), (2 : Int), (3 : Int), (5 : Int), (0 : Int)] (nat_lit 4) (0 : Int)) +
                    (1 : Int),
                  (↑(0 : Nat) : Int) + (1 : Int), (0 : Int) + (1 : Int)]
                (0 : Nat) (0 : Int),
              List.getD
                [(0 : Int) + (1 : Int),
                  Wd.maskV (2 : Int)
                      (List.getD [(1 : Int), (2 : Int), (3 : Int), (5 : Int), (0 : Int)] (nat_lit 0) (0 : Int)) +
                    (1 : Int),
                  Wd.maskV (2 : Int)
                      (List.getD [(1 : Int), (2 : Int), (3 : Int), (5 : Int), (0 : Int)] (nat_lit 1) (0 : Int)) +
                    (1 : Int),
                  (0 : Int) + (1 : Int), (↑(3 : Nat) : Int) + (1 : Int),
                  Wd.maskV (2 : Int)
                      (List.getD [(1 : Int), (2 : Int), (3 : Int), (5 : Int), (0 : Int)] (nat_lit 2) (0 : Int)) +
                    (1 : Int),
                  Wd.maskV (2 : Int)
                      (List.getD [(1 : Int), (2 : Int), (3 : Int), (5 : Int), (0 : Int)] (nat_lit 3) (0 : Int)) +
                    (1 : Int),
                  Wd.maskV (2 : Int)
                      (List.getD [(1 : Int), (2 : Int), (3 : Int), (5 : Int), (0 : Int)] (nat_lit 4) (0 : Int)) +
                    (1 : Int),
                  (↑(0 : Nat) : Int) + (1 : Int), (0 : Int) + (1 : Int)]
                (1 : Nat) (0 : Int),
              List.getD
                [(0 : Int) + (1 : Int),
                  Wd.maskV (2 : Int)
                      (List.getD [(1 : Int), (2 : Int), (3 : Int), (5 : Int), (0 : Int)] (nat_lit 0) (0 : Int)) +
                    (1 : Int),
                  Wd.maskV (2 : Int)
                      (List.getD [(1 : Int), (2 : Int), (3 : Int), (5 : Int), (0 : Int)] (nat_lit 1) (0 : Int)) +
                    (1 : Int),
                  (0 : Int) + (1 : Int), (↑(3 : Nat) : Int) + (1 : Int),
                  Wd.maskV (2 : Int)
                      (List.getD [(1 : Int), (2 : Int), (3 : Int), (5 : Int), (0 : Int)] (nat_lit 2) (0 : Int)) +
                    (1 : Int),
                  Wd.maskV (2 : Int)
                      (List.getD [(1 : Int), (2 : Int), (3 : Int), (5 : Int), (0 : Int)] (nat_lit 3) (0 : Int)) +
                    (1 : Int),
                  Wd.maskV (2 : Int)
                      (List.getD [(1 : Int), (2 : Int), (3 : Int), (5 : Int), (0 : Int)] (nat_lit 4) (0 : Int)) +
                    (1 : Int),
                  (↑(0 : Nat) : Int) + (1 : Int), (0 : Int) + (1 : Int)]
                (2 : Nat) (0 : Int),
              List.getD
                [(0 : Int) + (1 : Int),
                  Wd.maskV (2 : Int)
                      (List.getD [(1 : Int), (2 : Int), (3 : Int), (5 : Int), (0 : Int)] (nat_lit 0) (0 : Int)) +
                    (1 : Int),
                  Wd.maskV (2 : Int)
                      (List.getD [(1 : Int), (2 : Int), (3 : Int), (5 : Int), (0 : Int)] (nat_lit 1) (0 : Int)) +
                    (1 : Int),
                  (0 : Int) + (1 : Int), (↑(3 : Nat) : Int) + (1 : Int),
                  Wd.maskV (2 : Int)
                      (List.getD [(1 : Int), (2 : Int), (3 : Int), (5 : Int), (0 : Int)] (nat_lit 2) (0 : Int)) +
                    (1 : Int),
                  Wd.maskV (2 : Int)
                      (List.getD [(1 : Int), (2 : Int), (3 : Int), (5 : Int), (0 : Int)] (nat_lit 3) (0 : Int)) +
                    (1 : Int),
                  Wd.maskV (2 : Int)
                      (List.getD [(1 : Int), (2 : Int), (3 : Int), (5 : Int), (0 : Int)] (nat_lit 4) (0 : Int)) +
                    (1 : Int),
                  (↑(0 : Nat) : Int) + (1 : Int), (0 : Int) + (1 : Int)]
                (3 : Nat) (0 : Int),
              List.getD
                [(0 : Int) + (1 : Int),
                  Wd.maskV (2 : Int)
                      (List.getD [(1 : Int), (2 : Int), (3 : Int), (5 : Int), (0 : Int)] (nat_lit 0) (0 : Int)) +
                    (1 : Int),
                  Wd.maskV (2 : Int)
                      (List.getD [(1 : Int), (2 : Int), (3 : Int), (5 : Int), (0 : Int)] (nat_lit 1) (0 : Int)) +
                    (1 : Int),
                  (0 : Int) + (1 : Int), (↑(3 : Nat) : Int) + (1 : Int),
                  Wd.maskV (2 : Int)
                      (List.getD [(1 : Int), (2 : Int), (3 : Int), (5 : Int), (0 : Int)] (nat_lit 2) (0 : Int)) +
                    (1 : Int),
                  Wd.maskV (2 : Int)
                      (List.getD [(1 : Int), (2 : Int), (3 : Int), (5 : Int), (0 : Int)] (nat_lit 3) (0 : Int)) +
                    (1 : Int),
                  Wd.maskV (2 : Int)
                      (List.getD [(1 : Int), (2 : Int), (3 : Int), (5 : Int), (0 : Int)] (nat_lit 4) (0 : Int)) +
                    (1 : Int),
                  (↑(0 : Nat) : Int) + (1 : Int), (0 : Int) + (1 : Int)]
                (4 : Nat) (0 : Int),
              List.getD
                [(0 : Int) + (1 : Int),
                  Wd.maskV (2 : Int)
                      (List.getD [(1 : Int), (2 : Int), (3 : Int), (5 : Int), (0 : Int)] (nat_lit 0) (0 : Int)) +
                    (1 : Int),
                  Wd.maskV (2 : Int)
                      (List.getD [(1 : Int), (2 : Int), (3 : Int), (5 : Int), (0 : Int)] (nat_lit 1) (0 : Int)) +
                    (1 : Int),
                  (0 : Int) + (1 : Int), (↑(3 : Nat) : Int) + (1 : Int),
                  Wd.maskV (2 : Int)
                      (List.getD [(1 : Int), (2 : Int), (3 : Int), (5 : Int), (0 : Int)] (nat_lit 2) (0 : Int)) +
                    (1 : Int),
                  Wd.maskV (2 : Int)
                      (List.getD [(1 : Int), (2 : Int), (3 : Int), (5 : Int), (0 : Int)] (nat_lit 3) (0 : Int)) +
                    (1 : Int),
                  Wd.maskV (2 : Int)
                      (List.getD [(1 : Int), (2 : Int), (3 : Int), (5 : Int), (0 : Int)] (nat_lit 4) (0 : Int)) +
                    (1 : Int),
                  (↑(0 : Nat) : Int) + (1 : Int), (0 : Int) + (1 : Int)]
                (5 : Nat) (0 : Int),
              List.getD
                [(0 : Int) + (1 : Int),
                  Wd.maskV (2 : Int)
                      (List.getD [(1 : Int), (2 : Int), (3 : Int), (5 : Int), (0 : Int)] (nat_lit 0) (0 : Int)) +
                    (1 : Int),
                  Wd.maskV (2 : Int)
                      (List.getD [(1 : Int), (2 : Int), (3 : Int), (5 : Int), (0 : Int)] (nat_lit 1) (0 : Int)) +
                    (1 : Int),
                  (0 : Int) + (1 : Int), (↑(3 : Nat) : Int) + (1 : Int),
                  Wd.maskV (2 : Int)
                      (List.getD [(1 : Int), (2 : Int), (3 : Int), (5 : Int), (0 : Int)] (nat_lit 2) (0 : Int)) +
                    (1 : Int),
                  Wd.maskV (2 : Int)
                      (List.getD [(1 : Int), (2 : Int), (3 : Int), (5 : Int), (0 : Int)] (nat_lit 3) (0 : Int)) +
                    (1 : Int),
                  Wd.maskV (2 : Int)
                      (List.getD [(1 : Int), (2 : Int), (3 : Int), (5 : Int), (0 : Int)] (nat_lit 4) (0 : Int)) +
                    (1 : Int),
                  (↑(0 : Nat) : Int) + (1 : Int), (0 : Int) + (1 : Int)]
                (6 : Nat) (0 : Int),
              List.getD
                [(0 : Int) + (1 : Int),
                  Wd.maskV (2 : Int)
                      (List.getD [(1 : Int), (2 : Int), (3 : Int), (5 : Int), (0 : Int)] (nat_lit 0) (0 : Int)) +
                    (1 : Int),
                  Wd.maskV (2 : Int)
                      (List.getD [(1 : Int), (2 : Int), (3 : Int), (5 : Int), (0 : Int)] (nat_lit 1) (0 : Int)) +
                    (1 : Int),
                  (0 : Int) + (1 : Int), (↑(3 : Nat) : Int) + (1 : Int),
                  Wd.maskV (2 : Int)
                      (List.getD [(1 : Int), (2 : Int), (3 : Int), (5 : Int), (0 : Int)] (nat_lit 2) (0 : Int)) +
                    (1 : Int),
                  Wd.maskV (2 : Int)
                      (List.getD [(1 : Int), (2 : Int), (3 : Int), (5 : Int), (0 : Int)] (nat_lit 3) (0 : Int)) +
                    (1 : Int),
                  Wd.maskV (2 : Int)
                      (List.getD [(1 : Int), (2 : Int), (3 : Int), (5 : Int), (0 : Int)] (nat_lit 4) (0 : Int)) +
                    (1 : Int),
                  (↑(0 : Nat) : Int) + (1 : Int), (0 : Int) + (1 : Int)]
                (7 : Nat) (0 : Int),
              List.getD
                [(0 : Int) + (1 : Int),
                  Wd.maskV (2 : Int)
                      (List.getD [(1 : Int), (2 : Int), (3 : Int), (5 : Int), (0 : Int)] (nat_lit 0) (0 : Int)) +
                    (1 : Int),
                  Wd.maskV (2 : Int)
                      (List.getD [(1 : Int), (2 : Int), (3 : Int), (5 : Int), (0 : Int)] (nat_lit 1) (0 : Int)) +
                    (1 : Int),
                  (0 : Int) + (1 : Int), (↑(3 : Nat) : Int) + (1 : Int),
                  Wd.maskV (2 : Int)
                      (List.getD [(1 : Int), (2 : Int), (3 : Int), (5 : Int), (0 : Int)] (nat_lit 2) (0 : Int)) +
                    (1 : Int),
                  Wd.maskV (2 : Int)
                      (List.getD [(1 : Int), (2 : Int), (3 : Int), (5 : Int), (0 : Int)] (nat_lit 3) (0 : Int)) +
                    (1 : Int),
                  Wd.maskV (2 : Int)
                      (List.getD [(1 : Int), (2 : Int), (3 : Int), (5 : Int), (0 : Int)] (nat_lit 4) (0 : Int)) +
                    (1 : Int),
                  (↑(0 : Nat) : Int) + (1 : Int), (0 : Int) + (1 : Int)]
                (8 : Nat) (0 : Int),
              List.getD
                [(0 : Int) + (1 : Int),
                  Wd.maskV (2 : Int)
                      (List.getD [(1 : Int), (2 : Int), (3 : Int), (5 : Int), (0 : Int)] (nat_lit 0) (0 : Int)) +
                    (1 : Int),
                  Wd.maskV (2 : Int)
                      (List.getD [(1 : Int), (2 : Int), (3 : Int), (5 : Int), (0 : Int)] (nat_lit 1) (0 : Int)) +
                    (1 : Int),
                  (0 : Int) + (1 : Int), (↑(3 : Nat) : Int) + (1 : Int),
                  Wd.maskV (2 : Int)
                      (List.getD [(1 : Int), (2 : Int), (3 : Int), (5 : Int), (0 : Int)] (nat_lit 2) (0 : Int)) +
                    (1 : Int),
                  Wd.maskV (2 : Int)
                      (List.getD [(1 : Int), (2 : Int), (3 : Int), (5 : Int), (0 : Int)] (nat_lit 3) (0 : Int)) +
                    (1 : Int),
                  Wd.maskV (2 : Int)
                      (List.getD [(1 : Int), (2 : Int), (3 : Int), (5 : Int), (0 : Int)] (nat_lit 4) (0 : Int)) +
                    (1 : Int),
                  (↑(0 : Nat) : Int) + (1 : Int), (0 : Int) + (1 : Int)]
                (9 : Nat) (0 : Int)])
          (6 : Nat),
        ByteArray.get!
          (Go.strOfNums
            [List.getD
                [(0 : Int) + (1 : Int),
                  Wd.maskV (2 : Int)
                      (List.getD [(1 : Int), (2 : Int), (3 : Int), (5 : Int), (0 : Int)] (nat_lit 0) (0 : Int)) +
                    (1 : Int),
                  Wd.maskV (2 : Int)
                      (List.getD [(1 : Int), (2 : Int), (3 : Int), (5 : Int), (0 : Int)] (nat_lit 1) (0 : Int)) +
                    (1 : Int),
                  (0 : Int) + (1 : Int), (↑(3 : Nat) : Int) + (1 : Int),
                  Wd.maskV (2 : Int)
                      (List.getD [(1 : Int), (2 : Int), (3 : Int), (5 : Int), (0 : Int)] (nat_lit 2) (0 : Int)) +
                    (1 : Int),
                  Wd.maskV (2 : Int)
                      (List.getD [(1 : Int), (2 : Int), (3 : Int), (5 : Int), (0 : Int)] (nat_lit 3) (0 : Int)) +
                    (1 : Int),
                  Wd.maskV (2 : Int)
                      (List.getD [(1 : Int), (2 : Int), (3 : Int), (5 : Int), (0 : Int)] (nat_lit 4) (0 : Int)) +
                    (1 : Int),
                  (↑(0 : Nat) : Int) + (1 : Int), (0 : Int) + (1 : Int)]
                (0 : Nat) (0 : Int),
              List.getD
                [(0 : Int) + (1 : Int),
                  Wd.maskV (2 : Int)
                      (List.getD [(1 : Int), (2 : Int), (3 : Int), (5 : Int), (0 : Int)] (nat_lit 0) (0 : Int)) +
                    (1 : Int),
                  Wd.maskV (2 : Int)
                      (List.getD [(1 : Int), (2 : Int), (3 : Int), (5 : Int), (0 : Int)] (nat_lit 1) (0 : Int)) +
                    (1 : Int),
                  (0 : Int) + (1 : Int), (↑(3 : Nat) : Int) + (1 : Int),
                  Wd.maskV (2 : Int)
                      (List.getD [(1 : Int), (2 : Int), (3 : Int), (5 : Int), (0 : Int)] (nat_lit 2) (0 : Int)) +
                    (1 : Int),
                  Wd.maskV (2 : Int)
                      (List.getD [(1 : Int), (2 : Int), (3 : Int), (5 : Int), (0 : Int)] (nat_lit 3) (0 : Int)) +
                    (1 : Int),
                  Wd.maskV (2 : Int)
                      (List.getD [(1 : Int), (2 : Int), (3 : Int), (5 : Int), (0 : Int)] (nat_lit 4) (0 : Int)) +
                    (1 : Int),
                  (↑(0 : Nat) : Int) + (1 : Int), (0 : Int) + (1 : Int)]
                (1 : Nat) (0 : Int),
              List.getD
                [(0 : Int) + (1 : Int),
                  Wd.maskV (2 : Int)
                      (List.getD [(1 : Int), (2 : Int), (3 : Int), (5 : Int), (0 : Int)] (nat_lit 0) (0 : Int)) +
                    (1 : Int),
                  Wd.maskV (2 : Int)
                      (List.getD [(1 : Int), (2 : Int), (3 : Int), (5 : Int), (0 : Int)] (nat_lit 1) (0 : Int)) +
                    (1 : Int),
                  (0 : Int) + (1 : Int), (↑(3 : Nat) : Int) + (1 : Int),
                  Wd.maskV (2 : Int)
                      (List.getD [(1 : Int), (2 : Int), (3 : Int), (5 : Int), (0 : Int)] (nat_lit 2) (0 : Int)) +
                    (1 : Int),
                  Wd.maskV (2 : Int)
                      (List.getD [(1 : Int), (2 : Int), (3 : Int), (5 : Int), (0 : Int)] (nat_lit 3) (0 : Int)) +
                    (1 : Int),
                  Wd.maskV (2 : Int)
                      (List.getD [(1 : Int), (2 : Int), (3 : Int), (5 : Int), (0 : Int)] (nat_lit 4) (0 : Int)) +
                    (1 : Int),
                  (↑(0 : Nat) : Int) + (1 : Int), (0 : Int) + (1 : Int)]
                (2 : Nat) (0 : Int),
              List.getD
                [(0 : Int) + (1 : Int),
                  Wd.maskV (2 : Int)
                      (List.getD [(1 : Int), (2 : Int), (3 : Int), (5 : Int), (0 : Int)] (nat_lit 0) (0 : Int)) +
                    (1 : Int),
                  Wd.maskV (2 : Int)
                      (List.getD [(1 : Int), (2 : Int), (3 : Int), (5 : Int), (0 : Int)] (nat_lit 1) (0 : Int)) +
                    (1 : Int),
                  (0 : Int) + (1 : Int), (↑(3 : Nat) : Int) + (1 : Int),
                  Wd.maskV (2 : Int)
                      (List.getD [(1 : Int), (2 : Int), (3 : Int), (5 : Int), (0 : Int)] (nat_lit 2) (0 : Int)) +
                    (1 : Int),
                  Wd.maskV (2 : Int)
                      (List.getD [(1 : Int), (2 : Int), (3 : Int), (5 : Int), (0 : Int)] (nat_lit 3) (0 : Int)) +
                    (1 : Int),
                  Wd.maskV (2 : Int)
                      (List.getD [(1 : Int), (2 : Int), (3 : Int), (5 : Int), (0 : Int)] (nat_lit 4) (0 : Int)) +
                    (1 : Int),
                  (↑(0 : Nat) : Int) + (1 : Int), (0 : Int) + (1 : Int)]
                (3 : Nat) (0 : Int),
              List.getD
                [(0 : Int) + (1 : Int),
                  Wd.maskV (2 : Int)
                      (List.getD [(1 : Int), (2 : Int), (3 : Int), (5 : Int), (0 : Int)] (nat_lit 0) (0 : Int)) +
                    (1 : Int),
                  Wd.maskV (2 : Int)
                      (List.getD [(1 : Int), (2 : Int), (3 : Int), (5 : Int), (0 : Int)] (nat_lit 1) (0 : Int)) +
                    (1 : Int),
                  (0 : Int) + (1 : Int), (↑(3 : Nat) : Int) + (1 : Int),
                  Wd.maskV (2 : Int)
                      (List.getD [(1 : Int), (2 : Int), (3 : Int), (5 : Int), (0 : Int)] (nat_lit 2) (0 : Int)) +
                    (1 : Int),
                  Wd.maskV (2 : Int)
                      (List.getD [(1 : Int), (2 : Int), (3 : Int), (5 : Int), (0 : Int)] (nat_lit 3) (0 : Int)) +
                    (1 : Int),
                  Wd.maskV (2 : Int)
                      (List.getD [(1 : Int), (2 : Int), (3 : Int), (5 : Int), (0 : Int)] (nat_lit 4) (0 : Int)) +
                    (1 : Int),
                  (↑(0 : Nat) : Int) + (1 : Int), (0 : Int) + (1 : Int)]
                (4 : Nat) (0 : Int),
              List.getD
                [(0 : Int) + (1 : Int),
                  Wd.maskV (2 : Int)
                      (List.getD [(1 : Int), (2 : Int), (3 : Int), (5 : Int), (0 : Int)] (nat_lit 0) (0 : Int)) +
                    (1 : Int),
                  Wd.maskV (2 : Int)
                      (List.getD [(1 : Int), (2 : Int), (3 : Int), (5 : Int), (0 : Int)] (nat_lit 1) (0 : Int)) +
                    (1 : Int),
                  (0 : Int) + (1 : Int), (↑(3 : Nat) : Int) + (1 : Int),
                  Wd.maskV (2 : Int)
                      (List.getD [(1 : Int), (2 : Int), (3 : Int), (5 : Int), (0 : Int)] (nat_lit 2) (0 : Int)) +
                    (1 : Int),
                  Wd.maskV (2 : Int)
                      (List.getD [(1 : Int), (2 : Int), (3 : Int), (5 : Int), (0 : Int)] (nat_lit 3) (0 : Int)) +
                    (1 : Int),
                  Wd.maskV (2 : Int)
                      (List.getD [(1 : Int), (2 : Int), (3 : Int), (5 : Int), (0 : Int)] (nat_lit 4) (0 : Int)) +
                    (1 : Int),
                  (↑(0 : Nat) : Int) + (1 : Int), (0 : Int) + (1 : Int)]
                (5 : Nat) (0 : Int),
              List.getD
                [(0 : Int) + (1 : Int),
                  Wd.maskV (2 : Int)
                      (List.getD [(1 : Int), (2 : Int), (3 : Int), (5 : Int), (0 : Int)] (nat_lit 0) (0 : Int)) +
                    (1 : Int),
                  Wd.maskV (2 : Int)
                      (List.getD [(1 : Int), (2 : Int), (3 : Int), (5 : Int), (0 : Int)] (nat_lit 1) (0 : Int)) +
                    (1 : Int),
                  (0 : Int) + (1 : Int), (↑(3 : Nat) : Int) + (1 : Int),
                  Wd.maskV (2 : Int)
                      (List.getD [(1 : Int), (2 : Int), (3 : Int), (5 : Int), (0 : Int)] (nat_lit 2) (0 : Int)) +
                    (1 : Int),
                  Wd.maskV (2 : Int)
                      (List.getD [(1 : Int), (2 : Int), (3 : Int), (5 : Int), (0 : Int)] (nat_lit 3) (0 : Int)) +
                    (1 : Int),
                  Wd.maskV (2 : Int)
                      (List.getD [(1 : Int), (2 : Int), (3 : Int), (5 : Int), (0 : Int)] (nat_lit 4) (0 : Int)) +
                    (1 : Int),
                  (↑(0 : Nat) : Int) + (1 : Int), (0 : Int) + (1 : Int)]
                (6 : Nat) (0 : Int),
              List.getD
                [(0 : Int) + (1 : Int),
                  Wd.maskV (2 : Int)
                      (List.getD [(1 : Int), (2 : Int), (3 : Int), (5 : Int), (0 : Int)] (nat_lit 0) (0 : Int)) +
                    (1 : Int),
                  Wd.maskV (2 : Int)
                      (List.getD [(1 : Int), (2 : Int), (3 : Int), (5 : Int), (0 : Int)] (nat_lit 1) (0 : Int)) +
                    (1 : Int),
                  (0 : Int) + (1 : Int), (↑(3 : Nat) : Int) + (1 : Int),
                  Wd.maskV (2 : Int)
                      (List.getD [(1 : Int), (2 : Int), (3 : Int), (5 : Int), (0 : Int)] (nat_lit 2) (0 : Int)) +
                    (1 : Int),
                  Wd.maskV (2 : Int)
                      (List.getD [(1 : Int), (2 : Int), (3 : Int), (5 : Int), (0 : Int)] (nat_lit 3) (0 : Int)) +
                    (1 : Int),
                  Wd.maskV (2 : Int)
                      (List.getD [(1 : Int), (2 : Int), (3 : Int), (5 : Int), (0 : Int)] (nat_lit 4) (0 : Int)) +
                    (1 : Int),
                  (↑(0 : Nat) : Int) + (1 : Int), (0 : Int) + (1 : Int)]
                (7 : Nat) (0 : Int),
              List.getD
                [(0 : Int) + (1 : Int),
                  Wd.maskV (2 : Int)
                      (List.getD [(1 : Int), (2 : Int), (3 : Int), (5 : Int), (0 : Int)] (nat_lit 0) (0 : Int)) +
                    (1 : Int),
                  Wd.maskV (2 : Int)
                      (List.getD [(1 : Int), (2 : Int), (3 : Int), (5 : Int), (0 : Int)] (nat_lit 1) (0 : Int)) +
                    (1 : Int),
                  (0 : Int) + (1 : Int), (↑(3 : Nat) : Int) + (1 : Int),
                  Wd.maskV (2 : Int)
                      (List.getD [(1 : Int), (2 : Int), (3 : Int), (5 : Int), (0 : Int)] (nat_lit 2) (0 : Int)) +
                    (1 : Int),
                  Wd.maskV (2 : Int)
                      (List.getD [(1 : Int), (2 : Int), (3 : Int), (5 : Int), (0 : Int)] (nat_lit 3) (0 : Int)) +
                    (1 : Int),
                  Wd.maskV (2 : Int)
                      (List.getD [(1 : Int), (2 : Int), (3 : Int), (5 : Int), (0 : Int)] (nat_lit 4) (0 : Int)) +
                    (1 : Int),
                  (↑(0 : Nat) : Int) + (1 : Int), (0 : Int) + (1 : Int)]
                (8 : Nat) (0 : Int),
              List.getD
                [(0 : Int) + (1 : Int),
                  Wd.maskV (2 : Int)
                      (List.getD [(1 : Int), (2 : Int), (3 : Int), (5 : Int), (0 : Int)] (nat_lit 0) (0 : Int)) +
                    (1 : Int),
                  Wd.maskV (2 : Int)
                      (List.getD [(1 : Int), (2 : Int), (3 : Int), (5 : Int), (0 : Int)] (nat_lit 1) (0 : Int)) +
                    (1 : Int),
                  (0 : Int) + (1 : Int), (↑(3 : Nat) : Int) + (1 : Int),
                  Wd.maskV (2 : Int)
                      (List.getD [(1 : Int), (2 : Int), (3 : Int), (5 : Int), (0 : Int)] (nat_lit 2) (0 : Int)) +
                    (1 : Int),
                  Wd.maskV (2 : Int)
                      (List.getD [(1 : Int), (2 : Int), (3 : Int), (5 : Int), (0 : Int)] (nat_lit 3) (0 : Int)) +
                    (1 : Int),
                  Wd.maskV (2 : Int)
                      (List.getD [(1 : Int), (2 : Int), (3 : Int), (5 : Int), (0 : Int)] (nat_lit 4) (0 : Int)) +
                    (1 : Int),
                  (↑(0 : Nat) : Int) + (1 : Int), (0 : Int) + (1 : Int)]
                (9 : Nat) (0 : Int)])
          (7 : Nat),
        ByteArray.get!
          (Go.strOfNums
            [List.getD
                [(0 : Int) + (1 : Int),
                  Wd.maskV (2 : Int)
                      (List.getD [(1 : Int), (2 : Int), (3 : Int), (5 : Int), (0 : Int)] (nat_lit 0) (0 : Int)) +
                    (1 : Int),
                  Wd.maskV (2 : Int)
                      (List.getD [(1 : Int), (2 : Int), (3 : Int), (5 : Int), (0 : Int)] (nat_lit 1) (0 : Int)) +
                    (1 : Int),
                  (0 : Int) + (1 : Int), (↑(3 : Nat) : Int) + (1 : Int),
                  Wd.maskV (2 : Int)
                      (List.getD [(1 : Int), (2 : Int), (3 : Int), (5 : Int), (0 : Int)] (nat_lit 2) (0 : Int)) +
                    (1 : Int),
                  Wd.maskV (2 : Int)
                      (List.getD [(1 : Int), (2 : Int), (3 : Int), (5 : Int), (0 : Int)] (nat_lit 3) (0 : Int)) +
                    (1 : Int),
                  Wd.maskV (2 : Int)
                      (List.getD [(1 : Int), (2 : Int), (3 : Int), (5 : Int), (0 : Int)] (nat_lit 4) (0 : Int)) +
                    (1 : Int),
                  (↑(0 : Nat) : Int) + (1 : Int), (0 : Int) + (1 : Int)]
                (0 : Nat) (0 : Int),
              List.getD
                [(0 : Int) + (1 : Int),
                  Wd.maskV (2 : Int)
                      (List.getD [(1 : Int), (2 : Int), (3 : Int), (5 : Int), (0 : Int)] (nat_lit 0) (0 : Int)) +
                    (1 : Int),
                  Wd.maskV (2 : Int)
                      (List.getD [(1 : Int), (2 : Int), (3 : Int), (5 : Int), (0 : Int)] (nat_lit 1) (0 : Int)) +
                    (1 : Int),
                  (0 : Int) + (1 : Int), (↑(3 : Nat) : Int) + (1 : Int),
                  Wd.maskV (2 : Int)
                      (List.getD [(1 : Int), (2 : Int), (3 : Int), (5 : Int), (0 : Int)] (nat_lit 2) (0 : Int)) +
                    (1 : Int),
                  Wd.maskV (2 : Int)
                      (List.getD [(1 : Int), (2 : Int), (3 : Int), (5 : Int), (0 : Int)] (nat_lit 3) (0 : Int)) +
                    (1 : Int),
                  Wd.maskV (2 : Int)
                      (List.getD [(1 : Int), (2 : Int), (3 : Int), (5 : Int), (0 : Int)] (nat_lit 4) (0 : Int)) +
                    (1 : Int),
                  (↑(0 : Nat) : Int) + (1 : Int), (0 : Int) + (1 : Int)]
                (1 : Nat) (0 : Int),
              List.getD
                [(0 : Int) + (1 : Int),
                  Wd.maskV (2 : Int)
                      (List.getD [(1 : Int), (2 : Int), (3 : Int), (5 : Int), (0 : Int)] (nat_lit 0) (0 : Int)) +
                    (1 : Int),
                  Wd.maskV (2 : Int)
                      (List.getD [(1 : Int), (2 : Int), (3 : Int), (5 : Int), (0 : Int)] (nat_lit 1) (0 : Int)) +
                    (1 : Int),
                  (0 : Int) + (1 : Int), (↑(3 : Nat) : Int) + (1 : Int),
                  Wd.maskV (2 : Int)
                      (List.getD [(1 : Int), (2 : Int), (3 : Int), (5 : Int), (0 : Int)] (nat_lit 2) (0 : Int)) +
                    (1 : Int),
                  Wd.maskV (2 : Int)
                      (List.getD [(1 : Int), (2 : Int), (3 : Int), (5 : Int), (0 : Int)] (nat_lit 3) (0 : Int)) +
                    (1 : Int),
                  Wd.maskV (2 : Int)
                      (List.getD [(1 : Int), (2 : Int), (3 : Int), (5 : Int), (0 : Int)] (nat_lit 4) (0 : Int)) +
                    (1 : Int),
                  (↑(0 : Nat) : Int) + (1 : Int), (0 : Int) + (1 : Int)]
                (2 : Nat) (0 : Int),
              List.getD
                [(0 : Int) + (1 : Int),
                  Wd.maskV (2 : Int)
                      (List.getD [(1 : Int), (2 : Int), (3 : Int), (5 : Int), (0 : Int)] (nat_lit 0) (0 : Int)) +
                    (1 : Int),
                  Wd.maskV (2 : Int)
                      (List.getD [(1 : Int), (2 : Int), (3 : Int), (5 : Int), (0 : Int)] (nat_lit 1) (0 : Int)) +
                    (1 : Int),
                  (0 : Int) + (1 : Int), (↑(3 : Nat) : Int) + (1 : Int),
                  Wd.maskV (2 : Int)
                      (List.getD [(1 : Int), (2 : Int), (3 : Int), (5 : Int), (0 : Int)] (nat_lit 2) (0 : Int)) +
                    (1 : Int),
                  Wd.maskV (2 : Int)
                      (List.getD [(1 : Int), (2 : Int), (3 : Int), (5 : Int), (0 : Int)] (nat_lit 3) (0 : Int)) +
                    (1 : Int),
                  Wd.maskV (2 : Int)
                      (List.getD [(1 : Int), (2 : Int), (3 : Int), (5 : Int), (0 : Int)] (nat_lit 4) (0 : Int)) +
                    (1 : Int),
                  (↑(0 : Nat) : Int) + (1 : Int), (0 : Int) + (1 : Int)]
                (3 : Nat) (0 : Int),
              List.getD
                [(0 : Int) + (1 : Int),
                  Wd.maskV (2 : Int)
                      (List.getD [(1 : Int), (2 : Int), (3 : Int), (5 : Int), (0 : Int)] (nat_lit 0) (0 : Int)) +
                    (1 : Int),
                  Wd.maskV (2 : Int)
                      (List.getD [(1 : Int), (2 : Int), (3 : Int), (5 : Int), (0 : Int)] (nat_lit 1) (0 : Int)) +
                    (1 : Int),
                  (0 : Int) + (1 : Int), (↑(3 : Nat) : Int) + (1 : Int),
                  Wd.maskV (2 : Int)
                      (List.getD [(1 : Int), (2 : Int), (3 : Int), (5 : Int), (0 : Int)] (nat_lit 2) (0 : Int)) +
                    (1 : Int),
                  Wd.maskV (2 : Int)
                      (List.getD [(1 : Int), (2 : Int), (3 : Int), (5 : Int), (0 : Int)] (nat_lit 3) (0 : Int)) +
                    (1 : Int),
                  Wd.maskV (2 : Int)
                      (List.getD [(1 : Int), (2 : Int), (3 : Int), (5 : Int), (0 : Int)] (nat_lit 4) (0 : Int)) +
                    (1 : Int),
                  (↑(0 : Nat) : Int) + (1 : Int), (0 : Int) + (1 : Int)]
                (4 : Nat) (0 : Int),
              List.getD
                [(0 : Int) + (1 : Int),
                  Wd.maskV (2 : Int)
                      (List.getD [(1 : Int), (2 : Int), (3 : Int), (5 : Int), (0 : Int)] (nat_lit 0) (0 : Int)) +
                    (1 : Int),
                  Wd.maskV (2 : Int)
                      (List.getD [(1 : Int), (2 : Int), (3 : Int), (5 : Int), (0 : Int)] (nat_lit 1) (0 : Int)) +
                    (1 : Int),
                  (0 : Int) + (1 : Int), (↑(3 : Nat) : Int) + (1 : Int),
                  Wd.maskV (2 : Int)
                      (List.getD [(1 : Int), (2 : Int), (3 : Int), (5 : Int), (0 : Int)] (nat_lit 2) (0 : Int)) +
                    (1 : Int),
                  Wd.maskV (2 : Int)
                      (List.getD [(1 : Int), (2 : Int), (3 : Int), (5 : Int), (0 : Int)] (nat_lit 3) (0 : Int)) +
                    (1 : Int),
                  Wd.maskV (2 : Int)
                      (List.getD [(1 : Int), (2 : Int), (3 : Int), (5 : Int), (0 : Int)] (nat_lit 4) (0 : Int)) +
                    (1 : Int),
                  (↑(0 : Nat) : Int) + (1 : Int), (0 : Int) + (1 : Int)]
                (5 : Nat) (0 : Int),
              List.getD
                [(0 : Int) + (1 : Int),
                  Wd.maskV (2 : Int)
                      (List.getD [(1 : Int), (2 : Int), (3 : Int), (5 : Int), (0 : Int)] (nat_lit 0) (0 : Int)) +
                    (1 : Int),
                  Wd.maskV (2 : Int)
                      (List.getD [(1 : Int), (2 : Int), (3 : Int), (5 : Int), (0 : Int)] (nat_lit 1) (0 : Int)) +
                    (1 : Int),
                  (0 : Int) + (1 : Int), (↑(3 : Nat) : Int) + (1 : Int),
                  Wd.maskV (2 : Int)
                      (List.getD [(1 : Int), (2 : Int), (3 : Int), (5 : Int), (0 : Int)] (nat_lit 2) (0 : Int)) +
                    (1 : Int),
                  Wd.maskV (2 : Int)
                      (List.getD [(1 : Int), (2 : Int), (3 : Int), (5 : Int), (0 : Int)] (nat_lit 3) (0 : Int)) +
                    (1 : Int),
                  Wd.maskV (2 : Int)
                      (List.getD [(1 : Int), (2 : Int), (3 : Int), (5 : Int), (0 : Int)] (nat_lit 4) (0 : Int)) +
                    (1 : Int),
                  (↑(0 : Nat) : Int) + (1 : Int), (0 : Int) + (1 : Int)]
                (6 : Nat) (0 : Int),
              List.getD
                [(0 : Int) + (1 : Int),
                  Wd.maskV (2 : Int)
                      (List.getD [(1 : Int), (2 : Int), (3 : Int), (5 : Int), (0 : Int)] (nat_lit 0) (0 : Int)) +
                    (1 : Int),
                  Wd.maskV (2 : Int)
                      (List.getD [(1 : Int), (2 : Int), (3 : Int), (5 : Int), (0 : Int)] (nat_lit 1) (0 : Int)) +
                    (1 : Int),
                  (0 : Int) + (1 : Int), (↑(3 : Nat) : Int) + (1 : Int),
                  Wd.maskV (2 : Int)
                      (List.getD [(1 : Int), (2 : Int), (3 : Int), (5 : Int), (0 : Int)] (nat_lit 2) (0 : Int)) +
                    (1 : Int),
                  Wd.maskV (2 : Int)
                      (List.getD [(1 : Int), (2 : Int), (3 : Int), (5 : Int), (0 : Int)] (nat_lit 3) (0 : Int)) +
                    (1 : Int),
                  Wd.maskV (2 : Int)
                      (List.getD [(1 : Int), (2 : Int), (3 : Int), (5 : Int), (0 : Int)] (nat_lit 4) (0 : Int)) +
                    (1 : Int),
                  (↑(0 : Nat) : Int) + (1 : Int), (0 : Int) + (1 : Int)]
                (7 : Nat) (0 : Int),
              List.getD
                [(0 : Int) + (1 : Int),
                  Wd.maskV (2 : Int)
                      (List.getD [(1 : Int), (2 : Int), (3 : Int), (5 : Int), (0 : Int)] (nat_lit 0) (0 : Int)) +
                    (1 : Int),
                  Wd.maskV (2 : Int)
                      (List.getD [(1 : Int), (2 : Int), (3 : Int), (5 : Int), (0 : Int)] (nat_lit 1) (0 : Int)) +
                    (1 : Int),
                  (0 : Int) + (1 : Int), (↑(3 : Nat) : Int) + (1 : Int),
                  Wd.maskV (2 : Int)
                      (List.getD [(1 : Int), (2 : Int), (3 : Int), (5 : Int), (0 : Int)] (nat_lit 2) (0 : Int)) +
                    (1 : Int),
                  Wd.maskV (2 : Int)
                      (List.getD [(1 : Int), (2 : Int), (3 : Int), (5 : Int), (0 : Int)] (nat_lit 3) (0 : Int)) +
                    (1 : Int),
                  Wd.maskV (2 : Int)
                      (List.getD [(1 : Int), (2 : Int), (3 : Int), (5 : Int), (0 : Int)] (nat_lit 4) (0 : Int)) +
                    (1 : Int),
                  (↑(0 : Nat) : Int) + (1 : Int), (0 : Int) + (1 : Int)]
                (8 : Nat) (0 : Int),
              List.getD
                [(0 : Int) + (1 : Int),
                  Wd.maskV (2 : Int)
                      (List.getD [(1 : Int), (2 : Int), (3 : Int), (5 : Int), (0 : Int)] (nat_lit 0) (0 : Int)) +
                    (1 : Int),
                  Wd.maskV (2 : Int)
                      (List.getD [(1 : Int), (2 : Int), (3 : Int), (5 : Int), (0 : Int)] (nat_lit 1) (0 : Int)) +
                    (1 : Int),
                  (0 : Int) + (1 : Int), (↑(3 : Nat) : Int) + (1 : Int),
                  Wd.maskV (2 : Int)
                      (List.getD [(1 : Int), (2 : Int), (3 : Int), (5 : Int), (0 : Int)] (nat_lit 2) (0 : Int)) +
                    (1 : Int),
                  Wd.maskV (2 : Int)
                      (List.getD [(1 : Int), (2 : Int), (3 : Int), (5 : Int), (0 : Int)] (nat_lit 3) (0 : Int)) +
                    (1 : Int),
                  Wd.maskV (2 : Int)
                      (List.getD [(1 : Int), (2 : Int), (3 : Int), (5 : Int), (0 : Int)] (nat_lit 4) (0 : Int)) +
                    (1 : Int),
                  (↑(0 : Nat) : Int) + (1 : Int), (0 : Int) + (1 : Int)]
                (9 : Nat) (0 : Int)])
          (8 : Nat),
        ByteArray.get!
          (Go.strOfNums
            [List.getD
                [(0 : Int) + (1 : Int),
                  Wd.maskV (2 : Int)
                      (List.getD [(1 : Int), (2 : Int), (3 : Int), (5 : Int), (0 : Int)] (nat_lit 0) (0 : Int)) +
                    (1 : Int),
                  Wd.maskV (2 : Int)
                      (List.getD [(1 : Int), (2 : Int), (3 : Int), (5 : Int), (0 : Int)] (nat_lit 1) (0 : Int)) +
                    (1 : Int),
                  (0 : Int) + (1 : Int), (↑(3 : Nat) : Int) + (1 : Int),
                  Wd.maskV (2 : Int)
                      (List.getD [(1 : Int), (2 : Int), (3 : Int), (5 : Int), (0 : Int)] (nat_lit 2) (0 : Int)) +
                    (1 : Int),
                  Wd.maskV (2 : Int)
                      (List.getD [(1 : Int), (2 : Int), (3 : Int), (5 : Int), (0 : Int)] (nat_lit 3) (0 : Int)) +
                    (1 : Int),
                  Wd.maskV (2 : Int)
                      (List.getD [(1 : Int), (2 : Int), (3 : Int), (5 : Int), (0 : Int)] (nat_lit 4) (0 : Int)) +
                    (1 : Int),
                  (↑(0 : Nat) : Int) + (1 : Int), (0 : Int) + (1 : Int)]
                (0 : Nat) (0 : Int),
              List.getD
                [(0 : Int) + (1 : Int),
                  Wd.maskV (2 : Int)
                      (List.getD [(1 : Int), (2 : Int), (3 : Int), (5 : Int), (0 : Int)] (nat_lit 0) (0 : Int)) +
                    (1 : Int),
                  Wd.maskV (2 : Int)
                      (List.getD [(1 : Int), (2 : Int), (3 : Int), (5 : Int), (0 : Int)] (nat_lit 1) (0 : Int)) +
                    (1 : Int),
                  (0 : Int) + (1 : Int), (↑(3 : Nat) : Int) + (1 : Int),
                  Wd.maskV (2 : Int)
                      (List.getD [(1 : Int), (2 : Int), (3 : Int), (5 : Int), (0 : Int)] (nat_lit 2) (0 : Int)) +
                    (1 : Int),
                  Wd.maskV (2 : Int)
                      (List.getD [(1 : Int), (2 : Int), (3 : Int), (5 : Int), (0 : Int)] (nat_lit 3) (0 : Int)) +
                    (1 : Int),
                  Wd.maskV (2 : Int)
                      (List.getD [(1 : Int), (2 : Int), (3 : Int), (5 : Int), (0 : Int)] (nat_lit 4) (0 : Int)) +
                    (1 : Int),
                  (↑(0 : Nat) : Int) + (1 : Int), (0 : Int) + (1 : Int)]
                (1 : Nat) (0 : Int),
              List.getD
                [(0 : Int) + (1 : Int),
                  Wd.maskV (2 : Int)
                      (List.getD [(1 : Int), (2 : Int), (3 : Int), (5 : Int), (0 : Int)] (nat_lit 0) (0 : Int)) +
                    (1 : Int),
                  Wd.maskV (2 : Int)
                      (List.getD [(1 : Int), (2 : Int), (3 : Int), (5 : Int), (0 : Int)] (nat_lit 1) (0 : Int)) +
                    (1 : Int),
                  (0 : Int) + (1 : Int), (↑(3 : Nat) : Int) + (1 : Int),
                  Wd.maskV (2 : Int)
                      (List.getD [(1 : Int), (2 : Int), (3 : Int), (5 : Int), (0 : Int)] (nat_lit 2) (0 : Int)) +
                    (1 : Int),
                  Wd.maskV (2 : Int)
                      (List.getD [(1 : Int), (2 : Int), (3 : Int), (5 : Int), (0 : Int)] (nat_lit 3) (0 : Int)) +
                    (1 : Int),
                  Wd.maskV (2 : Int)
                      (List.getD [(1 : Int), (2 : Int), (3 : Int), (5 : Int), (0 : Int)] (nat_lit 4) (0 : Int)) +
                    (1 : Int),
                  (↑(0 : Nat) : Int) + (1 : Int), (0 : Int) + (1 : Int)]
                (2 : Nat) (0 : Int),
              List.getD
                [(0 : Int) + (1 : Int),
                  Wd.maskV (2 : Int)
                      (List.getD [(1 : Int), (2 : Int), (3 : Int), (5 : Int), (0 : Int)] (nat_lit 0) (0 : Int)) +
                    (1 : Int),
                  Wd.maskV (2 : Int)
                      (List.getD [(1 : Int), (2 : Int), (3 : Int), (5 : Int), (0 : Int)] (nat_lit 1) (0 : Int)) +
                    (1 : Int),
                  (0 : Int) + (1 : Int), (↑(3 : Nat) : Int) + (1 : Int),
                  Wd.maskV (2 : Int)
                      (List.getD [(1 : Int), (2 : Int), (3 : Int), (5 : Int), (0 : Int)] (nat_lit 2) (0 : Int)) +
                    (1 : Int),
                  Wd.maskV (2 : Int)
                      (List.getD [(1 : Int), (2 : Int), (3 : Int), (5 : Int), (0 : Int)] (nat_lit 3) (0 : Int)) +
                    (1 : Int),
                  Wd.maskV (2 : Int)
                      (List.getD [(1 : Int), (2 : Int), (3 : Int), (5 : Int), (0 : Int)] (nat_lit 4) (0 : Int)) +
                    (1 : Int),
                  (↑(0 : Nat) : Int) + (1 : Int), (0 : Int) + (1 : Int)]
                (3 : Nat) (0 : Int),
              List.getD
                [(0 : Int) + (1 : Int),
                  Wd.maskV (2 : Int)
                      (List.getD [(1 : Int), (2 : Int), (3 : Int), (5 : Int), (0 : Int)] (nat_lit 0) (0 : Int)) +
                    (1 : Int),
                  Wd.maskV (2 : Int)
                      (List.getD [(1 : Int), (2 : Int), (3 : Int), (5 : Int), (0 : Int)] (nat_lit 1) (0 : Int)) +
                    (1 : Int),
                  (0 : Int) + (1 : Int), (↑(3 : Nat) : Int) + (1 : Int),
                  Wd.maskV (2 : Int)
                      (List.getD [(1 : Int), (2 : Int), (3 : Int), (5 : Int), (0 : Int)] (nat_lit 2) (0 : Int)) +
                    (1 : Int),
                  Wd.maskV (2 : Int)
                      (List.getD [(1 : Int), (2 : Int), (3 : Int), (5 : Int), (0 : Int)] (nat_lit 3) (0 : Int)) +
                    (1 : Int),
                  Wd.maskV (2 : Int)
                      (List.getD [(1 : Int), (2 : Int), (3 : Int), (5 : Int), (0 : Int)] (nat_lit 4) (0 : Int)) +
                    (1 : Int),
                  (↑(0 : Nat) : Int) + (1 : Int), (0 : Int) + (1 : Int)]
                (4 : Nat) (0 : Int),
              List.getD
                [(0 : Int) + (1 : Int),
                  Wd.maskV (2 : Int)
                      (List.getD [(1 : Int), (2 : Int), (3 : Int), (5 : Int), (0 : Int)] (nat_lit 0) (0 : Int)) +
                    (1 : Int),
                  Wd.maskV (2 : Int)
                      (List.getD [(1 : Int), (2 : Int), (3 : Int), (5 : Int), (0 : Int)] (nat_lit 1) (0 : Int)) +
                    (1 : Int),
                  (0 : Int) + (1 : Int), (↑(3 : Nat) : Int) + (1 : Int),
                  Wd.maskV (2 : Int)
                      (List.getD [(1 : Int), (2 : Int), (3 : Int), (5 : Int), (0 : Int)] (nat_lit 2) (0 : Int)) +
                    (1 : Int),
                  Wd.maskV (2 : Int)
                      (List.getD [(1 : Int), (2 : Int), (3 : Int), (5 : Int), (0 : Int)] (nat_lit 3) (0 : Int)) +
                    (1 : Int),
                  Wd.maskV (2 : Int)
                      (List.getD [(1 : Int), (2 : Int), (3 : Int), (5 : Int), (0 : Int)] (nat_lit 4) (0 : Int)) +
                    (1 : Int),
                  (↑(0 : Nat) : Int) + (1 : Int), (0 : Int) + (1 : Int)]
                (5 : Nat) (0 : Int),
              List.getD
                [(0 : Int) + (1 : Int),
                  Wd.maskV (2 : Int)
                      (List.getD [(1 : Int), (2 : Int), (3 : Int), (5 : Int), (0 : Int)] (nat_lit 0) (0 : Int)) +
                    (1 : Int),
                  Wd.maskV (2 : Int)
                      (List.getD [(1 : Int), (2 : Int), (3 : Int), (5 : Int), (0 : Int)] (nat_lit 1) (0 : Int)) +
                    (1 : Int),
                  (0 : Int) + (1 : Int), (↑(3 : Nat) : Int) + (1 : Int),
                  Wd.maskV (2 : Int)
                      (List.getD [(1 : Int), (2 : Int), (3 : Int), (5 : Int), (0 : Int)] (nat_lit 2) (0 : Int)) +
                    (1 : Int),
                  Wd.maskV (2 : Int)
                      (List.getD [(1 : Int), (2 : Int), (3 : Int), (5 : Int), (0 : Int)] (nat_lit 3) (0 : Int)) +
                    (1 : Int),
                  Wd.maskV (2 : Int)
                      (List.getD [(1 : Int), (2 : Int), (3 : Int), (5 : Int), (0 : Int)] (nat_lit 4) (0 : Int)) +
                    (1 : Int),
                  (↑(0 : Nat) : Int) + (1 : Int), (0 : Int) + (1 : Int)]
                (6 : Nat) (0 : Int),
              List.getD
                [(0 : Int) + (1 : Int),
                  Wd.maskV (2 : Int)
                      (List.getD [(1 : Int), (2 : Int), (3 : Int), (5 : Int), (0 : Int)] (nat_lit 0) (0 : Int)) +
                    (1 : Int),
                  Wd.maskV (2 : Int)
                      (List.getD [(1 : Int), (2 : Int), (3 : Int), (5 : Int), (0 : Int)] (nat_lit 1) (0 : Int)) +
                    (1 : Int),
                  (0 : Int) + (1 : Int), (↑(3 : Nat) : Int) + (1 : Int),
                  Wd.maskV (2 : Int)
                      (List.getD [(1 : Int), (2 : Int), (3 : Int), (5 : Int), (0 : Int)] (nat_lit 2) (0 : Int)) +
                    (1 : Int),
                  Wd.maskV (2 : Int)
                      (List.getD [(1 : Int), (2 : Int), (3 : Int), (5 : Int), (0 : Int)] (nat_lit 3) (0 : Int)) +
                    (1 : Int),
                  Wd.maskV (2 : Int)
                      (List.getD [(1 : Int), (2 : Int), (3 : Int), (5 : Int), (0 : Int)] (nat_lit 4) (0 : Int)) +
                    (1 : Int),
                  (↑(0 : Nat) : Int) + (1 : Int), (0 : Int) + (1 : Int)]
                (7 : Nat) (0 : Int),
              List.getD
                [(0 : Int) + (1 : Int),
                  Wd.maskV (2 : Int)
                      (List.getD [(1 : Int), (2 : Int), (3 : Int), (5 : Int), (0 : Int)] (nat_lit 0) (0 : Int)) +
                    (1 : Int),
                  Wd.maskV (2 : Int)
                      (List.getD [(1 : Int), (2 : Int), (3 : Int), (5 : Int), (0 : Int)] (nat_lit 1) (0 : Int)) +
                    (1 : Int),
                  (0 : Int) + (1 : Int), (↑(3 : Nat) : Int) + (1 : Int),
                  Wd.maskV (2 : Int)
                      (List.getD [(1 : Int), (2 : Int), (3 : Int), (5 : Int), (0 : Int)] (nat_lit 2) (0 : Int)) +
                    (1 : Int),
                  Wd.maskV (2 : Int)
                      (List.getD [(1 : Int), (2 : Int), (3 : Int), (5 : Int), (0 : Int)] (nat_lit 3) (0 : Int)) +
                    (1 : Int),
                  Wd.maskV (2 : Int)
                      (List.getD [(1 : Int), (2 : Int), (3 : Int), (5 : Int), (0 : Int)] (nat_lit 4) (0 : Int)) +
                    (1 : Int),
                  (↑(0 : Nat) : Int) + (1 : Int), (0 : Int) + (1 : Int)]
                (8 : Nat) (0 : Int),
              List.getD
                [(0 : Int) + (1 : Int),
                  Wd.maskV (2 : Int)
                      (List.getD [(1 : Int), (2 : Int), (3 : Int), (5 : Int), (0 : Int)] (nat_lit 0) (0 : Int)) +
                    (1 : Int),
                  Wd.maskV (2 : Int)
                      (List.getD [(1 : Int), (2 : Int), (3 : Int), (5 : Int), (0 : Int)] (nat_lit 1) (0 : Int)) +
                    (1 : Int),
                  (0 : Int) + (1 : Int), (↑(3 : Nat) : Int) + (1 : Int),
                  Wd.maskV (2 : Int)
                      (List.getD [(1 : Int), (2 : Int), (3 : Int), (5 : Int), (0 : Int)] (nat_lit 2) (0 : Int)) +
                    (1 : Int),
                  Wd.maskV (2 : Int)
                      (List.getD [(1 : Int), (2 : Int), (3 : Int), (5 : Int), (0 : Int)] (nat_lit 3) (0 : Int)) +
                    (1 : Int),
                  Wd.maskV (2 : Int)
                      (List.getD [(1 : Int), (2 : Int), (3 : Int), (5 : Int), (0 : Int)] (nat_lit 4) (0 : Int)) +
                    (1 : Int),
                  (↑(0 : Nat) : Int) + (1 : Int), (0 : Int) + (1 : Int)]
                (9 : Nat) (0 : Int)])
          (9 : Nat)] ==
      [ByteArray.get!
          (Go.strOfNums
            [List.getD
                [(0 : Int) + (1 : Int), (1 : Int) + (1 : Int), (2 : Int) + (1 : Int), (0 : Int) + (1 : Int),
                  (3 : Int) + (1 : Int), (3 : Int) + (1 : Int), (1 : Int) + (1 : Int), (0 : Int) + (1 : Int),
                  (0 : Int) + (1 : Int), (0 : Int) + (1 : Int)]
                (0 : Nat) (0 : Int),
              List.getD
                [(0 : Int) + (1 : Int), (1 : Int) + (1 : Int), (2 : Int) + (1 : Int), (0 : Int) + (1 : Int),
                  (3 : Int) + (1 : Int), (3 : Int) + (1 : Int), (1 : Int) + (1 : Int), (0 : Int) + (1 : Int),
                  (0 : Int) + (1 : Int), (0 : Int) + (1 : Int)]
                (1 : Nat) (0 : Int),
              List.getD
                [(0 : Int) + (1 : Int), (1 : Int) + (1 : Int), (2 : Int) + (1 : Int), (0 : Int) + (1 : Int),
                  (3 : Int) + (1 : Int), (3 : Int) + (1 : Int), (1 : Int) + (1 : Int), (0 : Int) + (1 : Int),
                  (0 : Int) + (1 : Int), (0 : Int) + (1 : Int)]
                (2 : Nat) (0 : Int),
              List.getD
                [(0 : Int) + (1 : Int), (1 : Int) + (1 : Int), (2 : Int) + (1 : Int), (0 : Int) + (1 : Int),
                  (3 : Int) + (1 : Int), (3 : Int) + (1 : Int), (1 : Int) + (1 : Int), (0 : Int) + (1 : Int),
                  (0 : Int) + (1 : Int), (0 : Int) + (1 : Int)]
                (3 : Nat) (0 : Int),
              List.getD
                [(0 : Int) + (1 : Int), (1 : Int) + (1 : Int), (2 : Int) + (1 : Int), (0 : Int) + (1 : Int),
                  (3 : Int) + (1 : Int), (3 : Int) + (1 : Int), (1 : Int) + (1 : Int), (0 : Int) + (1 : Int),
                  (0 : Int) + (1 : Int), (0 : Int) + (1 : Int)]
                (4 : Nat) (0 : Int),
              List.getD
                [(0 : Int) + (1 : Int), (1 : Int) + (1 : Int), (2 : Int) + (1 : Int), (0 : Int) + (1 : Int),
                  (3 : Int) + (1 : Int), (3 : Int) + (1 : Int), (1 : Int) + (1 : Int), (0 : Int) + (1 : Int),
                  (0 : Int) + (1 : Int), (0 : Int) + (1 : Int)]
                (5 : Nat) (0 : Int),
              List.getD
                [(0 : Int) + (1 : Int), (1 : Int) + (1 : Int), (2 : Int) + (1 : Int), (0 : Int) + (1 : Int),
                  (3 : Int) + (1 : Int), (3 : Int) + (1 : Int), (1 : Int) + (1 : Int), (0 : Int) + (1 : Int),
                  (0 : Int) + (1 : Int), (0 : Int) + (1 : Int)]
                (6 : Nat) (0 : Int),
              List.getD
                [(0 : Int) + (1 : Int), (1 : Int) + (1 : Int), (2 : Int) + (1 : Int), (0 : Int) + (1 : Int),
                  (3 : Int) + (1 : Int), (3 : Int) + (1 : Int), (1 : Int) + (1 : Int), (0 : Int) + (1 : Int),
                  (0 : Int) + (1 : Int), (0 : Int) + (1 : Int)]
                (7 : Nat) (0 : Int),
              List.getD
                [(0 : Int) + (1 : Int), (1 : Int) + (1 : Int), (2 : Int) + (1 : Int), (0 : Int) + (1 : Int),
                  (3 : Int) + (1 : Int), (3 : Int) + (1 : Int), (1 : Int) + (1 : Int), (0 : Int) + (1 : Int),
                  (0 : Int) + (1 : Int), (0 : Int) + (1 : Int)]
                (8 : Nat) (0 : Int),
              List.getD
                [(0 : Int) + (1 : Int), (1 : Int) + (1 : Int), (2 : Int) + (1 : Int), (0 : Int) + (1 : Int),
                  (3 : Int) + (1 : Int), (3 : Int) + (1 : Int), (1 : Int) + (1 : Int), (0 : Int) + (1 : Int),
                  (0 : Int) + (1 : Int), (0 : Int) + (1 : Int)]
                (9 : Nat) (0 : Int)])
          (0 : Nat),
        ByteArray.get!
          (Go.strOfNums
            [List.getD
                [(0 : Int) + (1 : Int), (1 : Int) + (1 : Int), (2 : Int) + (1 : Int), (0 : Int) + (1 : Int),
                  (3 : Int) + (1 : Int), (3 : Int) + (1 : Int), (1 : Int) + (1 : Int), (0 : Int) + (1 : Int),
                  (0 : Int) + (1 : Int), (0 : Int) + (1 : Int)]
                (0 : Nat) (0 : Int),
              List.getD
                [(0 : Int) + (1 : Int), (1 : Int) + (1 : Int), (2 : Int) + (1 : Int), (0 : Int) + (1 : Int),
                  (3 : Int) + (1 : Int), (3 : Int) + (1 : Int), (1 : Int) + (1 : Int), (0 : Int) + (1 : Int),
                  (0 : Int) + (1 : Int), (0 : Int) + (1 : Int)]
                (1 : Nat) (0 : Int),
              List.getD
                [(0 : Int) + (1 : Int), (1 : Int) + (1 : Int), (2 : Int) + (1 : Int), (0 : Int) + (1 : Int),
                  (3 : Int) + (1 : Int), (3 : Int) + (1 : Int), (1 : Int) + (1 : Int), (0 : Int) + (1 : Int),
                  (0 : Int) + (1 : Int), (0 : Int) + (1 : Int)]
                (2 : Nat) (0 : Int),
              List.getD
                [(0 : Int) + (1 : Int), (1 : Int) + (1 : Int), (2 : Int) + (1 : Int), (0 : Int) + (1 : Int),
                  (3 : Int) + (1 : Int), (3 : Int) + (1 : Int), (1 : Int) + (1 : Int), (0 : Int) + (1 : Int),
                  (0 : Int) + (1 : Int), (0 : Int) + (1 : Int)]
                (3 : Nat) (0 : Int),
              List.getD
                [(0 : Int) + (1 : Int), (1 : Int) + (1 : Int), (2 : Int) + (1 : Int), (0 : Int) + (1 : Int),
                  (3 : Int) + (1 : Int), (3 : Int) + (1 : Int), (1 : Int) + (1 : Int), (0 : Int) + (1 : Int),
                  (0 : Int) + (1 : Int), (0 : Int) + (1 : Int)]
                (4 : Nat) (0 : Int),
              List.getD
                [(0 : Int) + (1 : Int), (1 : Int) + (1 : Int), (2 : Int) + (1 : Int), (0 : Int) + (1 : Int),
                  (3 : Int) + (1 : Int), (3 : Int) + (1 : Int), (1 : Int) + (1 : Int), (0 : Int) + (1 : Int),
                  (0 : Int) + (1 : Int), (0 : Int) + (1 : Int)]
                (5 : Nat) (0 : Int),
              List.getD
                [(0 : Int) + (1 : Int), (1 : Int) + (1 : Int), (2 : Int) + (1 : Int), (0 : Int) + (1 : Int),
                  (3 : Int) + (1 : Int), (3 : Int) + (1 : Int), (1 : Int) + (1 : Int), (0 : Int) + (1 : Int),
                  (0 : Int) + (1 : Int), (0 : Int) + (1 : Int)]
                (6 : Nat) (0 : Int),
              List.getD
                [(0 : Int) + (1 : Int), (1 : Int) + (1 : Int), (2 : Int) + (1 : Int), (0 : Int) + (1 : Int),
                  (3 : Int) + (1 : Int), (3 : Int) + (1 : Int), (1 : Int) + (1 : Int), (0 : Int) + (1 : Int),
                  (0 : Int) + (1 : Int), (0 : Int) + (1 : Int)]
                (7 : Nat) (0 : Int),
              List.getD
                [(0 : Int) + (1 : Int), (1 : Int) + (1 : Int), (2 : Int) + (1 : Int), (0 : Int) + (1 : Int),
                  (3 : Int) + (1 : Int), (3 : Int) + (1 : Int), (1 : Int) + (1 : Int), (0 : Int) + (1 : Int),
                  (0 : Int) + (1 : Int), (0 : Int) + (1 : Int)]
                (8 : Nat) (0 : Int),
              List.getD
                [(0 : Int) + (1 : Int), (1 : Int) + (1 : Int), (2 : Int) + (1 : Int), (0 : Int) + (1 : Int),
                  (3 : Int) + (1 : Int), (3 : Int) + (1 : Int), (1 : Int) + (1 : Int), (0 : Int) + (1 : Int),
                  (0 : Int) + (1 : Int), (0 : Int) + (1 : Int)]
                (9 : Nat) (0 : Int)])
          (1 : Nat),
        ByteArray.get!
          (Go.strOfNums
            [List.getD
                [(0 : Int) + (1 : Int), (1 : Int) + (1 : Int), (2 : Int) + (1 : Int), (0 : Int) + (1 : Int),
                  (3 : Int) + (1 : Int), (3 : Int) + (1 : Int), (1 : Int) + (1 : Int), (0 : Int) + (1 : Int),
                  (0 : Int) + (1 : Int), (0 : Int) + (1 : Int)]
                (0 : Nat) (0 : Int),
              List.getD
                [(0 : Int) + (1 : Int), (1 : Int) + (1 : Int), (2 : Int) + (1 : Int), (0 : Int) + (1 : Int),
                  (3 : Int) + (1 : Int), (3 : Int) + (1 : Int), (1 : Int) + (1 : Int), (0 : Int) + (1 : Int),
                  (0 : Int) + (1 : Int), (0 : Int) + (1 : Int)]
                (1 : Nat) (0 : Int),
              List.getD
                [(0 : Int) + (1 : Int), (1 : Int) + (1 : Int), (2 : Int) + (1 : Int), (0 : Int) + (1 : Int),
                  (3 : Int) + (1 : Int), (3 : Int) + (1 : Int), (1 : Int) + (1 : Int), (0 : Int) + (1 : Int),
                  (0 : Int) + (1 : Int), (0 : Int) + (1 : Int)]
                (2 : Nat) (0 : Int),
              List.getD
                [(0 : Int) + (1 : Int), (1 : Int) + (1 : Int), (2 : Int) + (1 : Int), (0 : Int) + (1 : Int),
                  (3 : Int) + (1 : Int), (3 : Int) + (1 : Int), (1 : Int) + (1 : Int), (0 : Int) + (1 : Int),
                  (0 : Int) + (1 : Int), (0 : Int) + (1 : Int)]
                (3 : Nat) (0 : Int),
              List.getD
                [(0 : Int) + (1 : Int), (1 : Int) + (1 : Int), (2 : Int) + (1 : Int), (0 : Int) + (1 : Int),
                  (3 : Int) + (1 : Int), (3 : Int) + (1 : Int), (1 : Int) + (1 : Int), (0 : Int) + (1 : Int),
                  (0 : Int) + (1 : Int), (0 : Int) + (1 : Int)]
                (4 : Nat) (0 : Int),
              List.getD
                [(0 : Int) + (1 : Int), (1 : Int) + (1 : Int), (2 : Int) + (1 : Int), (0 : Int) + (1 : Int),
                  (3 : Int) + (1 : Int), (3 : Int) + (1 : Int), (1 : Int) + (1 : Int), (0 : Int) + (1 : Int),
                  (0 : Int) + (1 : Int), (0 : Int) + (1 : Int)]
                (5 : Nat) (0 : Int),
              List.getD
                [(0 : Int) + (1 : Int), (1 : Int) + (1 : Int), (2 : Int) + (1 : Int), (0 : Int) + (1 : Int),
                  (3 : Int) + (1 : Int), (3 : Int) + (1 : Int), (1 : Int) + (1 : Int), (0 : Int) + (1 : Int),
                  (0 : Int) + (1 : Int), (0 : Int) + (1 : Int)]
                (6 : Nat) (0 : Int),
              List.getD
                [(0 : Int) + (1 : Int), (1 : Int) + (1 : Int), (2 : Int) + (1 : Int), (0 : Int) + (1 : Int),
                  (3 : Int) + (1 : Int), (3 : Int) + (1 : Int), (1 : Int) + (1 : Int), (0 : Int) + (1 : Int),
                  (0 : Int) + (1 : Int), (0 : Int) + (1 : Int)]
                (7 : Nat) (0 : Int),
              List.getD
                [(0 : Int) + (1 : Int), (1 : Int) + (1 : Int), (2 : Int) + (1 : Int), (0 : Int) + (1 : Int),
                  (3 : Int) + (1 : Int), (3 : Int) + (1 : Int), (1 : Int) + (1 : Int), (0 : Int) + (1 : Int),
                  (0 : Int) + (1 : Int), (0 : Int) + (1 : Int)]
                (8 : Nat) (0 : Int),
              List.getD
                [(0 : Int) + (1 : Int), (1 : Int) + (1 : Int), (2 : Int) + (1 : Int), (0 : Int) + (1 : Int),
                  (3 : Int) + (1 : Int), (3 : Int) + (1 : Int), (1 : Int) + (1 : Int), (0 : Int) + (1 : Int),
                  (0 : Int) + (1 : Int), (0 : Int) + (1 : Int)]
                (9 : Nat) (0 : Int)])
          (2 : Nat),
        ByteArray.get!
          (Go.strOfNums
            [List.getD
                [(0 : Int) + (1 : Int), (1 : Int) + (1 : Int), (2 : Int) + (1 : Int), (0 : Int) + (1 : Int),
                  (3 : Int) + (1 : Int), (3 : Int) + (1 : Int), (1 : Int) + (1 : Int), (0 : Int) + (1 : Int),
                  (0 : Int) + (1 : Int), (0 : Int) + (1 : Int)]
                (0 : Nat) (0 : Int),
              List.getD
                [(0 : Int) + (1 : Int), (1 : Int) + (1 : Int), (2 : Int) + (1 : Int), (0 : Int) + (1 : Int),
                  (3 : Int) + (1 : Int), (3 : Int) + (1 : Int), (1 : Int) + (1 : Int), (0 : Int) + (1 : Int),
                  (0 : Int) + (1 : Int), (0 : Int) + (1 : Int)]
                (1 : Nat) (0 : Int),
              List.getD
                [(0 : Int) + (1 : Int), (1 : Int) + (1 : Int), (2 : Int) + (1 : Int), (0 : Int) + (1 : Int),
                  (3 : Int) + (1 : Int), (3 : Int) + (1 : Int), (1 : Int) + (1 : Int), (0 : Int) + (1 : Int),
                  (0 : Int) + (1 : Int), (0 : Int) + (1 : Int)]
                (2 : Nat) (0 : Int),
              List.getD
                [(0 : Int) + (1 : Int), (1 : Int) + (1 : Int), (2 : Int) + (1 : Int), (0 : Int) + (1 : Int),
                  (3 : Int) + (1 : Int), (3 : Int) + (1 : Int), (1 : Int) + (1 : Int), (0 : Int) + (1 : Int),
                  (0 : Int) + (1 : Int), (0 : Int) + (1 : Int)]
                (3 : Nat) (0 : Int),
              List.getD
                [(0 : Int) + (1 : Int), (1 : Int) + (1 : Int), (2 : Int) + (1 : Int), (0 : Int) + (1 : Int),
                  (3 : Int) + (1 : Int), (3 : Int) + (1 : Int), (1 : Int) + (1 : Int), (0 : Int) + (1 : Int),
                  (0 : Int) + (1 : Int), (0 : Int) + (1 : Int)]
                (4 : Nat) (0 : Int),
              List.getD
                [(0 : Int) + (1 : Int), (1 : Int) + (1 : Int), (2 : Int) + (1 : Int), (0 : Int) + (1 : Int),
                  (3 : Int) + (1 : Int), (3 : Int) + (1 : Int), (1 : Int) + (1 : Int), (0 : Int) + (1 : Int),
                  (0 : Int) + (1 : Int), (0 : Int) + (1 : Int)]
                (5 : Nat) (0 : Int),
              List.getD
                [(0 : Int) + (1 : Int), (1 : Int) + (1 : Int), (2 : Int) + (1 : Int), (0 : Int) + (1 : Int),
                  (3 : Int) + (1 : Int), (3 : Int) + (1 : Int), (1 : Int) + (1 : Int), (0 : Int) + (1 : Int),
                  (0 : Int) + (1 : Int), (0 : Int) + (1 : Int)]
                (6 : Nat) (0 : Int),
              List.getD
                [(0 : Int) + (1 : Int), (1 : Int) + (1 : Int), (2 : Int) + (1 : Int), (0 : Int) + (1 : Int),
                  (3 : Int) + (1 : Int), (3 : Int) + (1 : Int), (1 : Int) + (1 : Int), (0 : Int) + (1 : Int),
                  (0 : Int) + (1 : Int), (0 : Int) + (1 : Int)]
                (7 : Nat) (0 : Int),
              List.getD
                [(0 : Int) + (1 : Int), (1 : Int) + (1 : Int), (2 : Int) + (1 : Int), (0 : Int) + (1 : Int),
                  (3 : Int) + (1 : Int), (3 : Int) + (1 : Int), (1 : Int) + (1 : Int), (0 : Int) + (1 : Int),
                  (0 : Int) + (1 : Int), (0 : Int) + (1 : Int)]
                (8 : Nat) (0 : Int),
              List.getD
                [(0 : Int) + (1 : Int), (1 : Int) + (1 : Int), (2 : Int) + (1 : Int), (0 : Int) + (1 : Int),
                  (3 : Int) + (1 : Int), (3 : Int) + (1 : Int), (1 : Int) + (1 : Int), (0 : Int) + (1 : Int),
                  (0 : Int) + (1 : Int), (0 : Int) + (1 : Int)]
                (9 : Nat) (0 : Int)])
          (3 : Nat),
        ByteArray.get!
          (Go.strOfNums
            [List.getD
                [(0 : Int) + (1 : Int), (1 : Int) + (1 : Int), (2 : Int) + (1 : Int), (0 : Int) + (1 : Int),
                  (3 : Int) + (1 : Int), (3 : Int) + (1 : Int), (1 : Int) + (1 : Int), (0 : Int) + (1 : Int),
                  (0 : Int) + (1 : Int), (0 : Int) + (1 : Int)]
                (0 : Nat) (0 : Int),
              List.getD
                [(0 : Int) + (1 : Int), (1 : Int) + (1 : Int), (2 : Int) + (1 : Int), (0 : Int) + (1 : Int),
                  (3 : Int) + (1 : Int), (3 : Int) + (1 : Int), (1 : Int) + (1 : Int), (0 : Int) + (1 : Int),
                  (0 : Int) + (1 : Int), (0 : Int) + (1 : Int)]
                (1 : Nat) (0 : Int),
              List.getD
                [(0 : Int) + (1 : Int), (1 : Int) + (1 : Int), (2 : Int) + (1 : Int), (0 : Int) + (1 : Int),
                  (3 : Int) + (1 : Int), (3 : Int) + (1 : Int), (1 : Int) + (1 : Int), (0 : Int) + (1 : Int),
                  (0 : Int) + (1 : Int), (0 : Int) + (1 : Int)]
                (2 : Nat) (0 : Int),
              List.getD
                [(0 : Int) + (1 : Int), (1 : Int) + (1 : Int), (2 : Int) + (1 : Int), (0 : Int) + (1 : Int),
                  (3 : Int) + (1 : Int), (3 : Int) + (1 : Int), (1 : Int) + (1 : Int), (0 : Int) + (1 : Int),
                  (0 : Int) + (1 : Int), (0 : Int) + (1 : Int)]
                (3 : Nat) (0 : Int),
              List.getD
                [(0 : Int) + (1 : Int), (1 : Int) + (1 : Int), (2 : Int) + (1 : Int), (0 : Int) + (1 : Int),
                  (3 : Int) + (1 : Int), (3 : Int) + (1 : Int), (1 : Int) + (1 : Int), (0 : Int) + (1 : Int),
                  (0 : Int) + (1 : Int), (0 : Int) + (1 : Int)]
                (4 : Nat) (0 : Int),
              List.getD
                [(0 : Int) + (1 : Int), (1 : Int) + (1 : Int), (2 : Int) + (1 : Int), (0 : Int) + (1 : Int),
                  (3 : Int) + (1 : Int), (3 : Int) + (1 : Int), (1 : Int) + (1 : Int), (0 : Int) + (1 : Int),
                  (0 : Int) + (1 : Int), (0 : Int) + (1 : Int)]
                (5 : Nat) (0 : Int),
              List.getD
                [(0 : Int) + (1 : Int), (1 : Int) + (1 : Int), (2 : Int) + (1 : Int), (0 : Int) + (1 : Int),
                  (3 : Int) + (1 : Int), (3 : Int) + (1 : Int), (1 : Int) + (1 : Int), (0 : Int) + (1 : Int),
                  (0 : Int) + (1 : Int), (0 : Int) + (1 : Int)]
                (6 : Nat) (0 : Int),
              List.getD
                [(0 : Int) + (1 : Int), (1 : Int) + (1 : Int), (2 : Int) + (1 : Int), (0 : Int) + (1 : Int),
                  (3 : Int) + (1 : Int), (3 : Int) + (1 : Int), (1 : Int) + (1 : Int), (0 : Int) + (1 : Int),
                  (0 : Int) + (1 : Int), (0 : Int) + (1 : Int)]
                (7 : Nat) (0 : Int),
              List.getD
                [(0 : Int) + (1 : Int), (1 : Int) + (1 : Int), (2 : Int) + (1 : Int), (0 : Int) + (1 : Int),
                  (3 : Int) + (1 : Int), (3 : Int) + (1 : Int), (1 : Int) + (1 : Int), (0 : Int) + (1 : Int),
                  (0 : Int) + (1 : Int), (0 : Int) + (1 : Int)]
                (8 : Nat) (0 : Int),
              List.getD
                [(0 : Int) + (1 : Int), (1 : Int) + (1 : Int), (2 : Int) + (1 : Int), (0 : Int) + (1 : Int),
                  (3 : Int) + (1 : Int), (3 : Int) + (1 : Int), (1 : Int) + (1 : Int), (0 : Int) + (1 : Int),
                  (0 : Int) + (1 : Int), (0 : Int) + (1 : Int)]
                (9 : Nat) (0 : Int)])
          (4 : Nat),
        ByteArray.get!
          (Go.strOfNums
            [List.getD
                [(0 : Int) + (1 : Int), (1 : Int) + (1 : Int), (2 : Int) + (1 : Int), (0 : Int) + (1 : Int),
                  (3 : Int) + (1 : Int), (3 : Int) + (1 : Int), (1 : Int) + (1 : Int), (0 : Int) + (1 : Int),
                  (0 : Int) + (1 : Int), (0 : Int) + (1 : Int)]
                (0 : Nat) (0 : Int),
              List.getD
                [(0 : Int) + (1 : Int), (1 : Int) + (1 : Int), (2 : Int) + (1 : Int), (0 : Int) + (1 : Int),
                  (3 : Int) + (1 : Int), (3 : Int) + (1 : Int), (1 : Int) + (1 : Int), (0 : Int) + (1 : Int),
                  (0 : Int) + (1 : Int), (0 : Int) + (1 : Int)]
                (1 : Nat) (0 : Int),
              List.getD
                [(0 : Int) + (1 : Int), (1 : Int) + (1 : Int), (2 : Int) + (1 : Int), (0 : Int) + (1 : Int),
                  (3 : Int) + (1 : Int), (3 : Int) + (1 : Int), (1 : Int) + (1 : Int), (0 : Int) + (1 : Int),
                  (0 : Int) + (1 : Int), (0 : Int) + (1 : Int)]
                (2 : Nat) (0 : Int),
              List.getD
                [(0 : Int) + (1 : Int), (1 : Int) + (1 : Int), (2 : Int) + (1 : Int), (0 : Int) + (1 : Int),
                  (3 : Int) + (1 : Int), (3 : Int) + (1 : Int), (1 : Int) + (1 : Int), (0 : Int) + (1 : Int),
                  (0 : Int) + (1 : Int), (0 : Int) + (1 : Int)]
                (3 : Nat) (0 : Int),
              List.getD
                [(0 : Int) + (1 : Int), (1 : Int) + (1 : Int), (2 : Int) + (1 : Int), (0 : Int) + (1 : Int),
                  (3 : Int) + (1 : Int), (3 : Int) + (1 : Int), (1 : Int) + (1 : Int), (0 : Int) + (1 : Int),
                  (0 : Int) + (1 : Int), (0 : Int) + (1 : Int)]
                (4 : Nat) (0 : Int),
              List.getD
                [(0 : Int) + (1 : Int), (1 : Int) + (1 : Int), (2 : Int) + (1 : Int), (0 : Int) + (1 : Int),
                  (3 : Int) + (1 : Int), (3 : Int) + (1 : Int), (1 : Int) + (1 : Int), (0 : Int) + (1 : Int),
                  (0 : Int) + (1 : Int), (0 : Int) + (1 : Int)]
                (5 : Nat) (0 : Int),
              List.getD
                [(0 : Int) + (1 : Int), (1 : Int) + (1 : Int), (2 : Int) + (1 : Int), (0 : Int) + (1 : Int),
                  (3 : Int) + (1 : Int), (3 : Int) + (1 : Int), (1 : Int) + (1 : Int), (0 : Int) + (1 : Int),
                  (0 : Int) + (1 : Int), (0 : Int) + (1 : Int)]
                (6 : Nat) (0 : Int),
              List.getD
                [(0 : Int) + (1 : Int), (1 : Int) + (1 : Int), (2 : Int) + (1 : Int), (0 : Int) + (1 : Int),
                  (3 : Int) + (1 : Int), (3 : Int) + (1 : Int), (1 : Int) + (1 : Int), (0 : Int) + (1 : Int),
                  (0 : Int) + (1 : Int), (0 : Int) + (1 : Int)]
                (7 : Nat) (0 : Int),
              List.getD
                [(0 : Int) + (1 : Int), (1 : Int) + (1 : Int), (2 : Int) + (1 : Int), (0 : Int) + (1 : Int),
                  (3 : Int) + (1 : Int), (3 : Int) + (1 : Int), (1 : Int) + (1 : Int), (0 : Int) + (1 : Int),
                  (0 : Int) + (1 : Int), (0 : Int) + (1 : Int)]
                (8 : Nat) (0 : Int),
              List.getD
                [(0 : Int) + (1 : Int), (1 : Int) + (1 : Int), (2 : Int) + (1 : Int), (0 : Int) + (1 : Int),
                  (3 : Int) + (1 : Int), (3 : Int) + (1 : Int), (1 : Int) + (1 : Int), (0 : Int) + (1 : Int),
                  (0 : Int) + (1 : Int), (0 : Int) + (1 : Int)]
                (9 : Nat) (0 : Int)])
          (5 : Nat),
        ByteArray.get!
          (Go.strOfNums
            [List.getD
                [(0 : Int) + (1 : Int), (1 : Int) + (1 : Int), (2 : Int) + (1 : Int), (0 : Int) + (1 : Int),
                  (3 : Int) + (1 : Int), (3 : Int) + (1 : Int), (1 : Int) + (1 : Int), (0 : Int) + (1 : Int),
                  (0 : Int) + (1 : Int), (0 : Int) + (1 : Int)]
                (0 : Nat) (0 : Int),
              List.getD
                [(0 : Int) + (1 : Int), (1 : Int) + (1 : Int), (2 : Int) + (1 : Int), (0 : Int) + (1 : Int),
                  (3 : Int) + (1 : Int), (3 : Int) + (1 : Int), (1 : Int) + (1 : Int), (0 : Int) + (1 : Int),
                  (0 : Int) + (1 : Int), (0 : Int) + (1 : Int)]
                (1 : Nat) (0 : Int),
              List.getD
                [(0 : Int) + (1 : Int), (1 : Int) + (1 : Int), (2 : Int) + (1 : Int), (0 : Int) + (1 : Int),
                  (3 : Int) + (1 : Int), (3 : Int) + (1 : Int), (1 : Int) + (1 : Int), (0 : Int) + (1 : Int),
                  (0 : Int) + (1 : Int), (0 : Int) + (1 : Int)]
                (2 : Nat) (0 : Int),
              List.getD
                [(0 : Int) + (1 : Int), (1 : Int) + (1 : Int), (2 : Int) + (1 : Int), (0 : Int) + (1 : Int),
                  (3 : Int) + (1 : Int), (3 : Int) + (1 : Int), (1 : Int) + (1 : Int), (0 : Int) + (1 : Int),
                  (0 : Int) + (1 : Int), (0 : Int) + (1 : Int)]
                (3 : Nat) (0 : Int),
              List.getD
                [(0 : Int) + (1 : Int), (1 : Int) + (1 : Int), (2 : Int) + (1 : Int), (0 : Int) + (1 : Int),
                  (3 : Int) + (1 : Int), (3 : Int) + (1 : Int), (1 : Int) + (1 : Int), (0 : Int) + (1 : Int),
                  (0 : Int) + (1 : Int), (0 : Int) + (1 : Int)]
                (4 : Nat) (0 : Int),
              List.getD
                [(0 : Int) + (1 : Int), (1 : Int) + (1 : Int), (2 : Int) + (1 : Int), (0 : Int) + (1 : Int),
                  (3 : Int) + (1 : Int), (3 : Int) + (1 : Int), (1 : Int) + (1 : Int), (0 : Int) + (1 : Int),
                  (0 : Int) + (1 : Int), (0 : Int) + (1 : Int)]
                (5 : Nat) (0 : Int),
              List.getD
                [(0 : Int) + (1 : Int), (1 : Int) + (1 : Int), (2 : Int) + (1 : Int), (0 : Int) + (1 : Int),
                  (3 : Int) + (1 : Int), (3 : Int) + (1 : Int), (1 : Int) + (1 : Int), (0 : Int) + (1 : Int),
                  (0 : Int) + (1 : Int), (0 : Int) + (1 : Int)]
                (6 : Nat) (0 : Int),
              List.getD
                [(0 : Int) + (1 : Int), (1 : Int) + (1 : Int), (2 : Int) + (1 : Int), (0 : Int) + (1 : Int),
                  (3 : Int) + (1 : Int), (3 : Int) + (1 : Int), (1 : Int) + (1 : Int), (0 : Int) + (1 : Int),
                  (0 : Int) + (1 : Int), (0 : Int) + (1 : Int)]
                (7 : Nat) (0 : Int),
              List.getD
                [(0 : Int) + (1 : Int), (1 : Int) + (1 : Int), (2 : Int) + (1 : Int), (0 : Int) + (1 : Int),
                  (3 : Int) + (1 : Int), (3 : Int) + (1 : Int), (1 : Int) + (1 : Int), (0 : Int) + (1 : Int),
                  (0 : Int) + (1 : Int), (0 : Int) + (1 : Int)]
                (8 : Nat) (0 : Int),
              List.getD
                [(0 : Int) + (1 : Int), (1 : Int) + (1 : Int), (2 : Int) + (1 : Int), (0 : Int) + (1 : Int),
                  (3 : Int) + (1 : Int), (3 : Int) + (1 : Int), (1 : Int) + (1 : Int), (0 : Int) + (1 : Int),
                  (0 : Int) + (1 : Int), (0 : Int) + (1 : Int)]
                (9 : Nat) (0 : Int)])
          (6 : Nat),
        ByteArray.get!
          (Go.strOfNums
            [List.getD
                [(0 : Int) + (1 : Int), (1 : Int) + (1 : Int), (2 : Int) + (1 : Int), (0 : Int) + (1 : Int),
                  (3 : Int) + (1 : Int), (3 : Int) + (1 : Int), (1 : Int) + (1 : Int), (0 : Int) + (1 : Int),
                  (0 : Int) + (1 : Int), (0 : Int) + (1 : Int)]
                (0 : Nat) (0 : Int),
              List.getD
                [(0 : Int) + (1 : Int), (1 : Int) + (1 : Int), (2 : Int) + (1 : Int), (0 : Int) + (1 : Int),
                  (3 : Int) + (1 : Int), (3 : Int) + (1 : Int), (1 : Int) + (1 : Int), (0 : Int) + (1 : Int),
                  (0 : Int) + (1 : Int), (0 : Int) + (1 : Int)]
                (1 : Nat) (0 : Int),
              List.getD
                [(0 : Int) + (1 : Int), (1 : Int) + (1 : Int), (2 : Int) + (1 : Int), (0 : Int) + (1 : Int),
                  (3 : Int) + (1 : Int), (3 : Int) + (1 : Int), (1 : Int) + (1 : Int), (0 : Int) + (1 : Int),
                  (0 : Int) + (1 : Int), (0 : Int) + (1 : Int)]
                (2 : Nat) (0 : Int),
              List.getD
                [(0 : Int) + (1 : Int), (1 : Int) + (1 : Int), (2 : Int) + (1 : Int), (0 : Int) + (1 : Int),
                  (3 : Int) + (1 : Int), (3 : Int) + (1 : Int), (1 : Int) + (1 : Int), (0 : Int) + (1 : Int),
                  (0 : Int) + (1 : Int), (0 : Int) + (1 : Int)]
                (3 : Nat) (0 : Int),
              List.getD
                [(0 : Int) + (1 : Int), (1 : Int) + (1 : Int), (2 : Int) + (1 : Int), (0 : Int) + (1 : Int),
                  (3 : Int) + (1 : Int), (3 : Int) + (1 : Int), (1 : Int) + (1 : Int), (0 : Int) + (1 : Int),
                  (0 : Int) + (1 : Int), (0 : Int) + (1 : Int)]
                (4 : Nat) (0 : Int),
              List.getD
                [(0 : Int) + (1 : Int), (1 : Int) + (1 : Int), (2 : Int) + (1 : Int), (0 : Int) + (1 : Int),
                  (3 : Int) + (1 : Int), (3 : Int) + (1 : Int), (1 : Int) + (1 : Int), (0 : Int) + (1 : Int),
                  (0 : Int) + (1 : Int), (0 : Int) + (1 : Int)]
                (5 : Nat) (0 : Int),
              List.getD
                [(0 : Int) + (1 : Int), (1 : Int) + (1 : Int), (2 : Int) + (1 : Int), (0 : Int) + (1 : Int),
                  (3 : Int) + (1 : Int), (3 : Int) + (1 : Int), (1 : Int) + (1 : Int), (0 : Int) + (1 : Int),
                  (0 : Int) + (1 : Int), (0 : Int) + (1 : Int)]
                (6 : Nat) (0 : Int),
              List.getD
                [(0 : Int) + (1 : Int), (1 : Int) + (1 : Int), (2 : Int) + (1 : Int), (0 : Int) + (1 : Int),
                  (3 : Int) + (1 : Int), (3 : Int) + (1 : Int), (1 : Int) + (1 : Int), (0 : Int) + (1 : Int),
                  (0 : Int) + (1 : Int), (0 : Int) + (1 : Int)]
                (7 : Nat) (0 : Int),
              List.getD
                [(0 : Int) + (1 : Int), (1 : Int) + (1 : Int), (2 : Int) + (1 : Int), (0 : Int) + (1 : Int),
                  (3 : Int) + (1 : Int), (3 : Int) + (1 : Int), (1 : Int) + (1 : Int), (0 : Int) + (1 : Int),
                  (0 : Int) + (1 : Int), (0 : Int) + (1 : Int)]
                (8 : Nat) (0 : Int),
              List.getD
                [(0 : Int) + (1 : Int), (1 : Int) + (1 : Int), (2 : Int) + (1 : Int), (0 : Int) + (1 : Int),
                  (3 : Int) + (1 : Int), (3 : Int) + (1 : Int), (1 : Int) + (1 : Int), (0 : Int) + (1 : Int),
                  (0 : Int) + (1 : Int), (0 : Int) + (1 : Int)]
                (9 : Nat) (0 : Int)])
          (7 : Nat),
        ByteArray.get!
          (Go.strOfNums
            [List.getD
                [(0 : Int) + (1 : Int), (1 : Int) + (1 : Int), (2 : Int) + (1 : Int), (0 : Int) + (1 : Int),
                  (3 : Int) + (1 : Int), (3 : Int) + (1 : Int), (1 : Int) + (1 : Int), (0 : Int) + (1 : Int),
                  (0 : Int) + (1 : Int), (0 : Int) + (1 : Int)]
                (0 : Nat) (0 : Int),
              List.getD
                [(0 : Int) + (1 : Int), (1 : Int) + (1 : Int), (2 : Int) + (1 : Int), (0 : Int) + (1 : Int),
                  (3 : Int) + (1 : Int), (3 : Int) + (1 : Int), (1 : Int) + (1 : Int), (0 : Int) + (1 : Int),
                  (0 : Int) + (1 : Int), (0 : Int) + (1 : Int)]
                (1 : Nat) (0 : Int),
              List.getD
                [(0 : Int) + (1 : Int), (1 : Int) + (1 : Int), (2 : Int) + (1 : Int), (0 : Int) + (1 : Int),
                  (3 : Int) + (1 : Int), (3 : Int) + (1 : Int), (1 : Int) + (1 : Int), (0 : Int) + (1 : Int),
                  (0 : Int) + (1 : Int), (0 : Int) + (1 : Int)]
                (2 : Nat) (0 : Int),
              List.getD
                [(0 : Int) + (1 : Int), (1 : Int) + (1 : Int), (2 : Int) + (1 : Int), (0 : Int) + (1 : Int),
                  (3 : Int) + (1 : Int), (3 : Int) + (1 : Int), (1 : Int) + (1 : Int), (0 : Int) + (1 : Int),
                  (0 : Int) + (1 : Int), (0 : Int) + (1 : Int)]
                (3 : Nat) (0 : Int),
              List.getD
                [(0 : Int) + (1 : Int), (1 : Int) + (1 : Int), (2 : Int) + (1 : Int), (0 : Int) + (1 : Int),
                  (3 : Int) + (1 : Int), (3 : Int) + (1 : Int), (1 : Int) + (1 : Int), (0 : Int) + (1 : Int),
                  (0 : Int) + (1 : Int), (0 : Int) + (1 : Int)]
                (4 : Nat) (0 : Int),
              List.getD
                [(0 : Int) + (1 : Int), (1 : Int) + (1 : Int), (2 : Int) + (1 : Int), (0 : Int) + (1 : Int),
                  (3 : Int) + (1 : Int), (3 : Int) + (1 : Int), (1 : Int) + (1 : Int), (0 : Int) + (1 : Int),
                  (0 : Int) + (1 : Int), (0 : Int) + (1 : Int)]
                (5 : Nat) (0 : Int),
              List.getD
                [(0 : Int) + (1 : Int), (1 : Int) + (1 : Int), (2 : Int) + (1 : Int), (0 : Int) + (1 : Int),
                  (3 : Int) + (1 : Int), (3 : Int) + (1 : Int), (1 : Int) + (1 : Int), (0 : Int) + (1 : Int),
                  (0 : Int) + (1 : Int), (0 : Int) + (1 : Int)]
                (6 : Nat) (0 : Int),
              List.getD
                [(0 : Int) + (1 : Int), (1 : Int) + (1 : Int), (2 : Int) + (1 : Int), (0 : Int) + (1 : Int),
                  (3 : Int) + (1 : Int), (3 : Int) + (1 : Int), (1 : Int) + (1 : Int), (0 : Int) + (1 : Int),
                  (0 : Int) + (1 : Int), (0 : Int) + (1 : Int)]
                (7 : Nat) (0 : Int),
              List.getD
                [(0 : Int) + (1 : Int), (1 : Int) + (1 : Int), (2 : Int) + (1 : Int), (0 : Int) + (1 : Int),
                  (3 : Int) + (1 : Int), (3 : Int) + (1 : Int), (1 : Int) + (1 : Int), (0 : Int) + (1 : Int),
                  (0 : Int) + (1 : Int), (0 : Int) + (1 : Int)]
                (8 : Nat) (0 : Int),
              List.getD
                [(0 : Int) + (1 : Int), (1 : Int) + (1 : Int), (2 : Int) + (1 : Int), (0 : Int) + (1 : Int),
                  (3 : Int) + (1 : Int), (3 : Int) + (1 : Int), (1 : Int) + (1 : Int), (0 : Int) + (1 : Int),
                  (0 : Int) + (1 : Int), (0 : Int) + (1 : Int)]
                (9 : Nat) (0 : Int)])
          (8 : Nat),
        ByteArray.get!
          (Go.strOfNums
            [List.getD
                [(0 : Int) + (1 : Int), (1 : Int) + (1 : Int), (2 : Int) + (1 : Int), (0 : Int) + (1 : Int),
                  (3 : Int) + (1 : Int), (3 : Int) + (1 : Int), (1 : Int) + (1 : Int), (0 : Int) + (1 : Int),
                  (0 : Int) + (1 : Int), (0 : Int) + (1 : Int)]
                (0 : Nat) (0 : Int),
              List.getD
                [(0 : Int) + (1 : Int), (1 : Int) + (1 : Int), (2 : Int) + (1 : Int), (0 : Int) + (1 : Int),
                  (3 : Int) + (1 : Int), (3 : Int) + (1 : Int), (1 : Int) + (1 : Int), (0 : Int) + (1 : Int),
                  (0 : Int) + (1 : Int), (0 : Int) + (1 : Int)]
                (1 : Nat) (0 : Int),
              List.getD
                [(0 : Int) + (1 : Int), (1 : Int) + (1 : Int), (2 : Int) + (1 : Int), (0 : Int) + (1 : Int),
                  (3 : Int) + (1 : Int), (3 : Int) + (1 : Int), (1 : Int) + (1 : Int), (0 : Int) + (1 : Int),
                  (0 : Int) + (1 : Int), (0 : Int) + (1 : Int)]
                (2 : Nat) (0 : Int),
              List.getD
                [(0 : Int) + (1 : Int), (1 : Int) + (1 : Int), (2 : Int) + (1 : Int), (0 : Int) + (1 : Int),
                  (3 : Int) + (1 : Int), (3 : Int) + (1 : Int), (1 : Int) + (1 : Int), (0 : Int) + (1 : Int),
                  (0 : Int) + (1 : Int), (0 : Int) + (1 : Int)]
                (3 : Nat) (0 : Int),
              List.getD
                [(0 : Int) + (1 : Int), (1 : Int) + (1 : Int), (2 : Int) + (1 : Int), (0 : Int) + (1 : Int),
                  (3 : Int) + (1 : Int), (3 : Int) + (1 : Int), (1 : Int) + (1 : Int), (0 : Int) + (1 : Int),
                  (0 : Int) + (1 : Int), (0 : Int) + (1 : Int)]
                (4 : Nat) (0 : Int),
              List.getD
                [(0 : Int) + (1 : Int), (1 : Int) + (1 : Int), (2 : Int) + (1 : Int), (0 : Int) + (1 : Int),
                  (3 : Int) + (1 : Int), (3 : Int) + (1 : Int), (1 : Int) + (1 : Int), (0 : Int) + (1 : Int),
                  (0 : Int) + (1 : Int), (0 : Int) + (1 : Int)]
                (5 : Nat) (0 : Int),
              List.getD
                [(0 : Int) + (1 : Int), (1 : Int) + (1 : Int), (2 : Int) + (1 : Int), (0 : Int) + (1 : Int),
                  (3 : Int) + (1 : Int), (3 : Int) + (1 : Int), (1 : Int) + (1 : Int), (0 : Int) + (1 : Int),
                  (0 : Int) + (1 : Int), (0 : Int) + (1 : Int)]
                (6 : Nat) (0 : Int),
              List.getD
                [(0 : Int) + (1 : Int), (1 : Int) + (1 : Int), (2 : Int) + (1 : Int), (0 : Int) + (1 : Int),
                  (3 : Int) + (1 : Int), (3 : Int) + (1 : Int), (1 : Int) + (1 : Int), (0 : Int) + (1 : Int),
                  (0 : Int) + (1 : Int), (0 : Int) + (1 : Int)]
                (7 : Nat) (0 : Int),
              List.getD
                [(0 : Int) + (1 : Int), (1 : Int) + (1 : Int), (2 : Int) + (1 : Int), (0 : Int) + (1 : Int),
                  (3 : Int) + (1 : Int), (3 : Int) + (1 : Int), (1 : Int) + (1 : Int), (0 : Int) + (1 : Int),
                  (0 : Int) + (1 : Int), (0 : Int) + (1 : Int)]
                (8 : Nat) (0 : Int),
              List.getD
                [(0 : Int) + (1 : Int), (1 : Int) + (1 : Int), (2 : Int) + (1 : Int), (0 : Int) + (1 : Int),
                  (3 : Int) + (1 : Int), (3 : Int) + (1 : Int), (1 : Int) + (1 : Int), (0 : Int) + (1 : Int),
                  (0 : Int) + (1 : Int), (0 : Int) + (1 : Int)]
                (9 : Nat) (0 : Int)])
          (9 : Nat)]
  else false) =
  true) ∧ True) (by kernel_rfl)
    ⟨rfl,
     rfl,
     rfl,
     rfl,
     rfl,
     rfl,
     (fun i hi j hj => match i, hi, j, hj with | 0, _, 0, _ => rfl | 0, _, 1, _ => rfl | 0, _, 2, _ => rfl | 1, _, 0, _ => rfl | 1, _, 1, _ => rfl | 1, _, 2, _ => rfl),
     archPlaces 2 0 2 1 0 msW (by simp [msW]) (by decide),
     rfl,
     rfl,
     rfl,
     rfl,
     rfl,
     rfl,
     (fun i hi j hj => match i, hi, j, hj with | 0, _, 0, _ => rfl | 0, _, 1, _ => rfl | 0, _, 2, _ => rfl | 1, _, 0, _ => rfl | 1, _, 1, _ => rfl | 1, _, 2, _ => rfl),
     rfl,
     (fun i hi j hj => match i, hi, j, hj with | 0, _, 0, _ => rfl | 1, _, 0, _ => rfl | 2, _, 0, _ => rfl | 3, _, 0, _ => rfl | 4, _, 0, _ => rfl),
     (startC 2 0 2 1 0 msW l0W (by simp [msW]) (by decide) (by kernel_rfl)).frozen2,
     rfl,
     rfl,
     rfl,
     rfl,
     rfl,
     rfl,
     (fun i hi j hj => match i, hi, j, hj with | 0, _, 0, _ => rfl | 0, _, 1, _ => rfl | 0, _, 2, _ => rfl | 1, _, 0, _ => rfl | 1, _, 1, _ => rfl | 1, _, 2, _ => rfl),
     rfl,
     (fun i hi j hj => match i, hi, j, hj with | 0, _, 0, _ => rfl | 1, _, 0, _ => rfl | 2, _, 0, _ => rfl | 3, _, 0, _ => rfl | 4, _, 0, _ => rfl),
     (startC 2 0 2 1 0 msW l1W (by simp [msW]) (by decide) (by kernel_rfl)).frozen2,
     rfl,
     rfl,
     rfl,
     rfl,
     rfl,
     rfl,
     (fun i hi j hj => match i, hi, j, hj with | 0, _, 0, _ => rfl | 0, _, 1, _ => rfl | 0, _, 2, _ => rfl | 1, _, 0, _ => rfl | 1, _, 1, _ => rfl | 1, _, 2, _ => rfl),
     rfl,
     (fun i hi j hj => match i, hi, j, hj with | 0, _, 0, _ => rfl),
     startC_no 2 0 2 1 0 msW l2W (by simp [msW]) (by decide) (by decide) (by decide),
     rfl,
     rfl,
     rfl,
     rfl,
     rfl,
     rfl,
     (fun i hi j hj => match i, hi, j, hj with | 0, _, 0, _ => rfl | 0, _, 1, _ => rfl | 0, _, 2, _ => rfl | 1, _, 0, _ => rfl | 1, _, 1, _ => rfl | 1, _, 2, _ => rfl),
     archCells 2 0 2 1 0 msW (by simp [msW]) (by decide),
     rfl,
     rfl,
     rfl,
     rfl,
     rfl,
     rfl,
     (fun i hi j hj => match i, hi, j, hj with | 0, _, 0, _ => rfl | 0, _, 1, _ => rfl | 0, _, 2, _ => rfl | 1, _, 0, _ => rfl | 1, _, 1, _ => rfl | 1, _, 2, _ => rfl),
     rfl,
     rfl,
     rfl,
     rfl,
     rfl,
     (fun _ _ _ _ => rfl),
     rfl,
     rfl,
     rfl,
     rfl,
     rfl,
     rfl,
     (fun _ _ _ _ => rfl),
     rfl,
     lowC_nn 2 0 2 1 0 msW _ _ _ _ 0 _ _ _ _ 0 _ _ (by simp [msW]) (by decide) (by kernel_rfl) (by kernel_rfl),
     rfl,
     rfl,
     rfl,
     rfl,
     rfl,
     (fun _ _ _ _ => rfl),
     rfl,
     codeC_n _ _ _ _ _ 0 (by show cdW.length ≤ 1000000; rw [cdW_eq]; decide) cdW_i,
     rfl,
     (fun i hi j hj => match i, hi, j, hj with | 0, _, 0, _ => rfl | 1, _, 0, _ => rfl | 2, _, 0, _ => rfl | 3, _, 0, _ => rfl | 4, _, 0, _ => rfl | 5, _, 0, _ => rfl | 6, _, 0, _ => rfl | 7, _, 0, _ => rfl | 8, _, 0, _ => rfl | 9, _, 0, _ => rfl),
     rputC (.row ptW) (by decide) ptW_i,
     (by kernel_rfl),
     trivial⟩
theorem awakeC : PureC Try.prog 9 [] (.bool true) [] := PureC.vc awake_vc
end Go.Proofs.Ytdbnfdcjibgikaa.Px
