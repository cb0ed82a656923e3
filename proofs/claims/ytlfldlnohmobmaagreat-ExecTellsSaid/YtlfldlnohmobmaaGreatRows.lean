/-
  No cell of these rows narrows 'for every input' (looked for: loops, veiled, ifaces, maps, wideKeys, modest, calm, conditions, laid).
  DERIVED. THE GIVEN ROWS OF THIS SEAT. 3 by the template 'for every input the law returns true; each argument reads behind the call as it read before'; 0 by the template 'total and deterministic' (their statements: YtlfldlnohmobmaaGreatTotals.lean).
  GIVEN WITH THE SEED: the statements are not yours to turn. If you find one false, say at which input.
  Laid BY PROGRAM, IN A SANDBOX (cutbox-rows.mjs): the forced cells as the released guide's own fill.sh prints them over the translation eb8fc0001463f800… (all of the seat's roots in one cut). By AI agents, Wed Nov 11 2026. No macro, syntax, notation, axiom, sorry.
-/
import Derived.Test.YtlfldlnohmobmaaGreatChecked
import GoSem.Claim
import GoSem.ClaimJoined
import GoSem.ClaimMapViews
import Derived.JoinedTies
import Derived.KernelRfl
namespace Go.Proofs.YtlfldlnohmobmaaGreat
/- THE CELL 'sum', in the pinned program and in every row, IS THE sha256 OF THE DUMP (.gsa) THAT YtlfldlnohmobmaaGreatProg.lean LOADS. Nothing in Lean hashes anything: it is a label: what it is worth is what the hold of that sum in a sandbox is worth. -/
noncomputable def Tryz.pinned : Pinned := { name := "ytlfldlnohmobmaagreat", sum := "eb8fc0001463f8008d91fc5697ebc5cb4b0fe58594e66f5be15af84ba6512734", checked := Tryz.checked }
namespace Rows
def none {H : Type} : Left H := { results := [], args := [] }

/-- 'augurylaw15.ExecOrder': WHATEVER THE INPUT: true; the input reads as it did. -/
def execOrderSpec : ChangeSpec := { name := "execOrder", fn := fun _ => fun
  | [d1, d2, d3] => { results := [.lit (.bool true)], args := [d1, d2, d3] }
  | _ => none }
def execOrderRow : OpenClaim := { program := "ytlfldlnohmobmaagreat", sum := "eb8fc0001463f8008d91fc5697ebc5cb4b0fe58594e66f5be15af84ba6512734", func := "augury/augurylaw15.ExecOrder", spec := "execOrder", unfollowed := true, recurses := true, apart := false }
def ExecOrderSaid : Prop := execOrderRow.holds Tryz.pinned (OpenSpec.ofChange execOrderSpec)

/-- ITS FALSE NEIGHBOUR: 'it returns false'. Refute it at one input. -/
def execOrderWrong : ChangeSpec := { name := "execOrder", fn := fun _ => fun
  | [d1, d2, d3] => { results := [.lit (.bool false)], args := [d1, d2, d3] }
  | _ => none }
def ExecOrderWrongFalsely : Prop := execOrderRow.holds Tryz.pinned (OpenSpec.ofChange execOrderWrong)

/-- 'augurylaw15.ExecTells': WHATEVER THE INPUT: true; the input reads as it did. -/
def execTellsSpec : ChangeSpec := { name := "execTells", fn := fun _ => fun
  | [d1, d2, d3, d4] => { results := [.lit (.bool true)], args := [d1, d2, d3, d4] }
  | _ => none }
def execTellsRow : OpenClaim := { program := "ytlfldlnohmobmaagreat", sum := "eb8fc0001463f8008d91fc5697ebc5cb4b0fe58594e66f5be15af84ba6512734", func := "augury/augurylaw15.ExecTells", spec := "execTells", unfollowed := true, recurses := true, apart := false }
def ExecTellsSaid : Prop := execTellsRow.holds Tryz.pinned (OpenSpec.ofChange execTellsSpec)

/-- ITS FALSE NEIGHBOUR: 'it returns false'. Refute it at one input. -/
def execTellsWrong : ChangeSpec := { name := "execTells", fn := fun _ => fun
  | [d1, d2, d3, d4] => { results := [.lit (.bool false)], args := [d1, d2, d3, d4] }
  | _ => none }
def ExecTellsWrongFalsely : Prop := execTellsRow.holds Tryz.pinned (OpenSpec.ofChange execTellsWrong)

/-- 'augurylaw15.ExecKeeps': WHATEVER THE INPUT: true; the input reads as it did. -/
def execKeepsSpec : ChangeSpec := { name := "execKeeps", fn := fun _ => fun
  | [d1, d2, d3] => { results := [.lit (.bool true)], args := [d1, d2, d3] }
  | _ => none }
def execKeepsRow : OpenClaim := { program := "ytlfldlnohmobmaagreat", sum := "eb8fc0001463f8008d91fc5697ebc5cb4b0fe58594e66f5be15af84ba6512734", func := "augury/augurylaw15.ExecKeeps", spec := "execKeeps", unfollowed := true, recurses := true, apart := false }
def ExecKeepsSaid : Prop := execKeepsRow.holds Tryz.pinned (OpenSpec.ofChange execKeepsSpec)

/-- ITS FALSE NEIGHBOUR: 'it returns false'. Refute it at one input. -/
def execKeepsWrong : ChangeSpec := { name := "execKeeps", fn := fun _ => fun
  | [d1, d2, d3] => { results := [.lit (.bool false)], args := [d1, d2, d3] }
  | _ => none }
def ExecKeepsWrongFalsely : Prop := execKeepsRow.holds Tryz.pinned (OpenSpec.ofChange execKeepsWrong)

/- THE SECOND FORM. 'bulk': how many values and letters a reading holds, each counted each time it is reached (what is shared counts as often as it is met; a slice's spare places count too). A statement '..UptoSaid' is the law's where the arguments, and the package variables that the reading takes, are together of bulk at most 1048576: NARROWER than '..Said'. Prove '..Said' where nothing that the law and all that it calls make is longer than what came in: it says more and counts as full. Else prove '..UptoSaid'. A law counts once. -/
mutual
def uptoBulk {H : Type} : DataW H → Nat
  | .lit (.string bytes) => bytes.length + 1
  | .lit _ => 1
  | .nil => 1
  | .ptr d => uptoBulk d + 1
  | .slice elems spare => uptoBulkAll elems + uptoBulkAll spare + 1
  | .agg parts => uptoBulkAll parts + 1
  | .iface _ d => uptoBulk d + 1
  | .map entries => uptoBulkEntries entries + 1
  | .held _ => 1
def uptoBulkAll {H : Type} : List (DataW H) → Nat
  | [] => 0
  | d :: r => uptoBulk d + uptoBulkAll r
def uptoBulkEntries {H : Type} : List (Lit × DataW H) → Nat
  | [] => 0
  | x :: r => uptoBulkEntry x + uptoBulkEntries r
def uptoBulkEntry {H : Type} : Lit × DataW H → Nat
  | (.string bytes, d) => bytes.length + uptoBulk d + 1
  | (_, d) => uptoBulk d + 1
 end
def uptoSmall : (H : Type) → List (DataW H) → Bool := fun _ ds => decide (uptoBulkAll ds ≤ 1048576)
def OpenSpec.upto (s : _root_.Go.ChangeSpec) : _root_.Go.OpenSpec := { _root_.Go.OpenSpec.ofChange s with cond := some uptoSmall }

/-- 'augurylaw15.ExecOrder', WHERE WHAT IT READS IS OF BULK AT MOST 1048576: true; the input reads as it did. -/
def execOrderUptoRow : OpenClaim := { program := "ytlfldlnohmobmaagreat", sum := "eb8fc0001463f8008d91fc5697ebc5cb4b0fe58594e66f5be15af84ba6512734", func := "augury/augurylaw15.ExecOrder", spec := "execOrder", unfollowed := true, recurses := true, apart := false, narrowed := true }
def ExecOrderUptoSaid : Prop := execOrderUptoRow.holds Tryz.pinned (OpenSpec.upto execOrderSpec)

/-- 'augurylaw15.ExecTells', WHERE WHAT IT READS IS OF BULK AT MOST 1048576: true; the input reads as it did. -/
def execTellsUptoRow : OpenClaim := { program := "ytlfldlnohmobmaagreat", sum := "eb8fc0001463f8008d91fc5697ebc5cb4b0fe58594e66f5be15af84ba6512734", func := "augury/augurylaw15.ExecTells", spec := "execTells", unfollowed := true, recurses := true, apart := false, narrowed := true }
def ExecTellsUptoSaid : Prop := execTellsUptoRow.holds Tryz.pinned (OpenSpec.upto execTellsSpec)

/-- 'augurylaw15.ExecKeeps', WHERE WHAT IT READS IS OF BULK AT MOST 1048576: true; the input reads as it did. -/
def execKeepsUptoRow : OpenClaim := { program := "ytlfldlnohmobmaagreat", sum := "eb8fc0001463f8008d91fc5697ebc5cb4b0fe58594e66f5be15af84ba6512734", func := "augury/augurylaw15.ExecKeeps", spec := "execKeeps", unfollowed := true, recurses := true, apart := false, narrowed := true }
def ExecKeepsUptoSaid : Prop := execKeepsUptoRow.holds Tryz.pinned (OpenSpec.upto execKeepsSpec)

end Rows
end Go.Proofs.YtlfldlnohmobmaaGreat
