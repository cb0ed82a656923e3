/-
  No cell of these rows narrows 'for every input' (looked for: loops, veiled, ifaces, maps, wideKeys, modest, calm, conditions, laid).
  DERIVED. THE GIVEN ROWS OF THIS SEAT. 3 by the template 'for every input the law returns true; each argument reads behind the call as it read before'; 0 by the template 'total and deterministic' (their statements: YtlfldlnohmobmaaTotals.lean).
  GIVEN WITH THE SEED: the statements are not yours to turn. If you find one false, say at which input.
  Laid BY PROGRAM, IN A SANDBOX (cutbox-rows.mjs): the forced cells as the released guide's own fill.sh prints them over the translation 796be00b6bd0b653… (all of the seat's roots in one cut). By AI agents, Wed Nov 11 2026. No macro, syntax, notation, axiom, sorry.
-/
import Derived.Test.YtlfldlnohmobmaaChecked
import GoSem.Claim
import GoSem.ClaimJoined
import GoSem.ClaimMapViews
import Derived.JoinedTies
import Derived.KernelRfl
namespace Go.Proofs.Ytlfldlnohmobmaa
/- THE CELL 'sum', in the pinned program and in every row, IS THE sha256 OF THE DUMP (.gsa) THAT YtlfldlnohmobmaaProg.lean LOADS. Nothing in Lean hashes anything: it is a label: what it is worth is what the hold of that sum in a sandbox is worth. -/
noncomputable def Try.pinned : Pinned := { name := "ytlfldlnohmobmaa", sum := "796be00b6bd0b65375642be9041ca96b5e6526fb01b75fe8f30df37c77be30cf", checked := Try.checked }
namespace Rows
def none {H : Type} : Left H := { results := [], args := [] }

/-- 'augurylaw15.ExecBypass': WHATEVER THE INPUT: true; the input reads as it did. -/
def execBypassSpec : ChangeSpec := { name := "execBypass", fn := fun _ => fun
  | [d1, d2, d3, d4] => { results := [.lit (.bool true)], args := [d1, d2, d3, d4] }
  | _ => none }
def execBypassRow : OpenClaim := { program := "ytlfldlnohmobmaa", sum := "796be00b6bd0b65375642be9041ca96b5e6526fb01b75fe8f30df37c77be30cf", func := "augury/augurylaw15.ExecBypass", spec := "execBypass", unfollowed := true, recurses := true, apart := false }
def ExecBypassSaid : Prop := execBypassRow.holds Try.pinned (OpenSpec.ofChange execBypassSpec)

/-- ITS FALSE NEIGHBOUR: 'it returns false'. Refute it at one input. -/
def execBypassWrong : ChangeSpec := { name := "execBypass", fn := fun _ => fun
  | [d1, d2, d3, d4] => { results := [.lit (.bool false)], args := [d1, d2, d3, d4] }
  | _ => none }
def ExecBypassWrongFalsely : Prop := execBypassRow.holds Try.pinned (OpenSpec.ofChange execBypassWrong)

/-- 'augurylaw15.ExecFaults': WHATEVER THE INPUT: true; the input reads as it did. -/
def execFaultsSpec : ChangeSpec := { name := "execFaults", fn := fun _ => fun
  | [d1, d2] => { results := [.lit (.bool true)], args := [d1, d2] }
  | _ => none }
def execFaultsRow : OpenClaim := { program := "ytlfldlnohmobmaa", sum := "796be00b6bd0b65375642be9041ca96b5e6526fb01b75fe8f30df37c77be30cf", func := "augury/augurylaw15.ExecFaults", spec := "execFaults", unfollowed := true, recurses := true, apart := false }
def ExecFaultsSaid : Prop := execFaultsRow.holds Try.pinned (OpenSpec.ofChange execFaultsSpec)

/-- ITS FALSE NEIGHBOUR: 'it returns false'. Refute it at one input. -/
def execFaultsWrong : ChangeSpec := { name := "execFaults", fn := fun _ => fun
  | [d1, d2] => { results := [.lit (.bool false)], args := [d1, d2] }
  | _ => none }
def ExecFaultsWrongFalsely : Prop := execFaultsRow.holds Try.pinned (OpenSpec.ofChange execFaultsWrong)

/-- 'augurylaw15.ExecCalls': WHATEVER THE INPUT: true; the input reads as it did. -/
def execCallsSpec : ChangeSpec := { name := "execCalls", fn := fun _ => fun
  | [d1, d2, d3] => { results := [.lit (.bool true)], args := [d1, d2, d3] }
  | _ => none }
def execCallsRow : OpenClaim := { program := "ytlfldlnohmobmaa", sum := "796be00b6bd0b65375642be9041ca96b5e6526fb01b75fe8f30df37c77be30cf", func := "augury/augurylaw15.ExecCalls", spec := "execCalls", unfollowed := true, recurses := true, apart := false }
def ExecCallsSaid : Prop := execCallsRow.holds Try.pinned (OpenSpec.ofChange execCallsSpec)

/-- ITS FALSE NEIGHBOUR: 'it returns false'. Refute it at one input. -/
def execCallsWrong : ChangeSpec := { name := "execCalls", fn := fun _ => fun
  | [d1, d2, d3] => { results := [.lit (.bool false)], args := [d1, d2, d3] }
  | _ => none }
def ExecCallsWrongFalsely : Prop := execCallsRow.holds Try.pinned (OpenSpec.ofChange execCallsWrong)

/- THE SECOND FORM. 'bulk': how many values and letters a reading holds, each counted each time it is reached (what is shared counts as often as it is met; a slice's spare places count too). A statement '..UptoSaid' is the law's where the arguments, and the package variables that the reading takes, are together of bulk at most 1048576: NARROWER than '..Said'. Prove '..Said' where nothing that the law and all that it calls make is longer than what came in: it says more and counts as full. Else prove '..UptoSaid'. A law counts once. -/
mutual
def uptoBulk {H : Type} : DataW H → Nat
  | .lit (.string bytes) => bytes.length + 1
  | .lit _ => 1
  | .nil => 1
  | .ptr d => uptoBulk d + 1
  | .slice elems spare => uptoBulkAll elems + uptoBulkAll spare + 1
  | .agg parts => uptoBulkAll parts + 1
  | .iface _ d => uptoBulk d + 1
  | .map entries => uptoBulkEntries entries + 1
  | .held _ => 1
def uptoBulkAll {H : Type} : List (DataW H) → Nat
  | [] => 0
  | d :: r => uptoBulk d + uptoBulkAll r
def uptoBulkEntries {H : Type} : List (Lit × DataW H) → Nat
  | [] => 0
  | x :: r => uptoBulkEntry x + uptoBulkEntries r
def uptoBulkEntry {H : Type} : Lit × DataW H → Nat
  | (.string bytes, d) => bytes.length + uptoBulk d + 1
  | (_, d) => uptoBulk d + 1
 end
def uptoSmall : (H : Type) → List (DataW H) → Bool := fun _ ds => decide (uptoBulkAll ds ≤ 1048576)
def OpenSpec.upto (s : _root_.Go.ChangeSpec) : _root_.Go.OpenSpec := { _root_.Go.OpenSpec.ofChange s with cond := some uptoSmall }

/-- 'augurylaw15.ExecBypass', WHERE WHAT IT READS IS OF BULK AT MOST 1048576: true; the input reads as it did. -/
def execBypassUptoRow : OpenClaim := { program := "ytlfldlnohmobmaa", sum := "796be00b6bd0b65375642be9041ca96b5e6526fb01b75fe8f30df37c77be30cf", func := "augury/augurylaw15.ExecBypass", spec := "execBypass", unfollowed := true, recurses := true, apart := false, narrowed := true }
def ExecBypassUptoSaid : Prop := execBypassUptoRow.holds Try.pinned (OpenSpec.upto execBypassSpec)

/-- 'augurylaw15.ExecFaults', WHERE WHAT IT READS IS OF BULK AT MOST 1048576: true; the input reads as it did. -/
def execFaultsUptoRow : OpenClaim := { program := "ytlfldlnohmobmaa", sum := "796be00b6bd0b65375642be9041ca96b5e6526fb01b75fe8f30df37c77be30cf", func := "augury/augurylaw15.ExecFaults", spec := "execFaults", unfollowed := true, recurses := true, apart := false, narrowed := true }
def ExecFaultsUptoSaid : Prop := execFaultsUptoRow.holds Try.pinned (OpenSpec.upto execFaultsSpec)

/-- 'augurylaw15.ExecCalls', WHERE WHAT IT READS IS OF BULK AT MOST 1048576: true; the input reads as it did. -/
def execCallsUptoRow : OpenClaim := { program := "ytlfldlnohmobmaa", sum := "796be00b6bd0b65375642be9041ca96b5e6526fb01b75fe8f30df37c77be30cf", func := "augury/augurylaw15.ExecCalls", spec := "execCalls", unfollowed := true, recurses := true, apart := false, narrowed := true }
def ExecCallsUptoSaid : Prop := execCallsUptoRow.holds Try.pinned (OpenSpec.upto execCallsSpec)

end Rows
end Go.Proofs.Ytlfldlnohmobmaa
