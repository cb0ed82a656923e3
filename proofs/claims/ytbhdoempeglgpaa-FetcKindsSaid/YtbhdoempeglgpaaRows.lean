/-
  No cell of these rows narrows 'for every input' (looked for: loops, veiled, ifaces, maps, wideKeys, modest, calm, conditions, laid).
  DERIVED. THE GIVEN ROWS OF THIS SEAT. 4 by the template 'for every input the law returns true; each argument reads behind the call as it read before'; 0 by the template 'total and deterministic' (their statements: YtbhdoempeglgpaaTotals.lean).
  GIVEN WITH THE SEED: the statements are not yours to turn. If you find one false, say at which input.
  Laid BY PROGRAM, IN A SANDBOX (cutbox-rows.mjs): the forced cells as the released guide's own fill.sh prints them over the translation c11bfa53d5d6e68d… (all of the seat's roots in one cut). By AI agents, Wed Nov 11 2026. No macro, syntax, notation, axiom, sorry.
-/
import Derived.Test.YtbhdoempeglgpaaChecked
import GoSem.Claim
import GoSem.ClaimJoined
import GoSem.ClaimMapViews
import Derived.JoinedTies
import Derived.KernelRfl
namespace Go.Proofs.Ytbhdoempeglgpaa
/- THE CELL 'sum', in the pinned program and in every row, IS THE sha256 OF THE DUMP (.gsa) THAT YtbhdoempeglgpaaProg.lean LOADS. Nothing in Lean hashes anything: it is a label: what it is worth is what the hold of that sum in a sandbox is worth. -/
noncomputable def Try.pinned : Pinned := { name := "ytbhdoempeglgpaa", sum := "c11bfa53d5d6e68d97b6ff852f9b56ac5eb10b39dc6fc7dd4daa63b5c41a5d90", checked := Try.checked }
namespace Rows
def none {H : Type} : Left H := { results := [], args := [] }

/-- 'augurylaw14.FetcKinds': WHATEVER THE INPUT: true; the input reads as it did. -/
def fetcKindsSpec : ChangeSpec := { name := "fetcKinds", fn := fun _ => fun
  | [d1, d2] => { results := [.lit (.bool true)], args := [d1, d2] }
  | _ => none }
def fetcKindsRow : OpenClaim := { program := "ytbhdoempeglgpaa", sum := "c11bfa53d5d6e68d97b6ff852f9b56ac5eb10b39dc6fc7dd4daa63b5c41a5d90", func := "augury/augurylaw14.FetcKinds", spec := "fetcKinds", apart := false }
def FetcKindsSaid : Prop := fetcKindsRow.holds Try.pinned (OpenSpec.ofChange fetcKindsSpec)

/-- ITS FALSE NEIGHBOUR: 'it returns false'. Refute it at one input. -/
def fetcKindsWrong : ChangeSpec := { name := "fetcKinds", fn := fun _ => fun
  | [d1, d2] => { results := [.lit (.bool false)], args := [d1, d2] }
  | _ => none }
def FetcKindsWrongFalsely : Prop := fetcKindsRow.holds Try.pinned (OpenSpec.ofChange fetcKindsWrong)

/-- 'augurylaw14.FetcOnly': WHATEVER THE INPUT: true; the input reads as it did. -/
def fetcOnlySpec : ChangeSpec := { name := "fetcOnly", fn := fun _ => fun
  | [d1, d2, d3] => { results := [.lit (.bool true)], args := [d1, d2, d3] }
  | _ => none }
def fetcOnlyRow : OpenClaim := { program := "ytbhdoempeglgpaa", sum := "c11bfa53d5d6e68d97b6ff852f9b56ac5eb10b39dc6fc7dd4daa63b5c41a5d90", func := "augury/augurylaw14.FetcOnly", spec := "fetcOnly", unfollowed := true, recurses := true, apart := false }
def FetcOnlySaid : Prop := fetcOnlyRow.holds Try.pinned (OpenSpec.ofChange fetcOnlySpec)

/-- ITS FALSE NEIGHBOUR: 'it returns false'. Refute it at one input. -/
def fetcOnlyWrong : ChangeSpec := { name := "fetcOnly", fn := fun _ => fun
  | [d1, d2, d3] => { results := [.lit (.bool false)], args := [d1, d2, d3] }
  | _ => none }
def FetcOnlyWrongFalsely : Prop := fetcOnlyRow.holds Try.pinned (OpenSpec.ofChange fetcOnlyWrong)

/-- 'augurylaw14.FetcReturns': WHATEVER THE INPUT: true; the input reads as it did. -/
def fetcReturnsSpec : ChangeSpec := { name := "fetcReturns", fn := fun _ => fun
  | [d] => { results := [.lit (.bool true)], args := [d] }
  | _ => none }
def fetcReturnsRow : OpenClaim := { program := "ytbhdoempeglgpaa", sum := "c11bfa53d5d6e68d97b6ff852f9b56ac5eb10b39dc6fc7dd4daa63b5c41a5d90", func := "augury/augurylaw14.FetcReturns", spec := "fetcReturns", apart := false }
def FetcReturnsSaid : Prop := fetcReturnsRow.holds Try.pinned (OpenSpec.ofChange fetcReturnsSpec)

/-- ITS FALSE NEIGHBOUR: 'it returns false'. Refute it at one input. -/
def fetcReturnsWrong : ChangeSpec := { name := "fetcReturns", fn := fun _ => fun
  | [d] => { results := [.lit (.bool false)], args := [d] }
  | _ => none }
def FetcReturnsWrongFalsely : Prop := fetcReturnsRow.holds Try.pinned (OpenSpec.ofChange fetcReturnsWrong)

/-- 'augurylaw14.FetcTells': WHATEVER THE INPUT: true; the input reads as it did. -/
def fetcTellsSpec : ChangeSpec := { name := "fetcTells", fn := fun _ => fun
  | [d1, d2, d3, d4] => { results := [.lit (.bool true)], args := [d1, d2, d3, d4] }
  | _ => none }
def fetcTellsRow : OpenClaim := { program := "ytbhdoempeglgpaa", sum := "c11bfa53d5d6e68d97b6ff852f9b56ac5eb10b39dc6fc7dd4daa63b5c41a5d90", func := "augury/augurylaw14.FetcTells", spec := "fetcTells", unfollowed := true, recurses := true, apart := false }
def FetcTellsSaid : Prop := fetcTellsRow.holds Try.pinned (OpenSpec.ofChange fetcTellsSpec)

/-- ITS FALSE NEIGHBOUR: 'it returns false'. Refute it at one input. -/
def fetcTellsWrong : ChangeSpec := { name := "fetcTells", fn := fun _ => fun
  | [d1, d2, d3, d4] => { results := [.lit (.bool false)], args := [d1, d2, d3, d4] }
  | _ => none }
def FetcTellsWrongFalsely : Prop := fetcTellsRow.holds Try.pinned (OpenSpec.ofChange fetcTellsWrong)

/- THE SECOND FORM. 'bulk': how many values and letters a reading holds, each counted each time it is reached (what is shared counts as often as it is met; a slice's spare places count too). A statement '..UptoSaid' is the law's where the arguments, and the package variables that the reading takes, are together of bulk at most 1048576: NARROWER than '..Said'. Prove '..Said' where nothing that the law and all that it calls make is longer than what came in: it says more and counts as full. Else prove '..UptoSaid'. A law counts once. -/
mutual
def uptoBulk {H : Type} : DataW H → Nat
  | .lit (.string bytes) => bytes.length + 1
  | .lit _ => 1
  | .nil => 1
  | .ptr d => uptoBulk d + 1
  | .slice elems spare => uptoBulkAll elems + uptoBulkAll spare + 1
  | .agg parts => uptoBulkAll parts + 1
  | .iface _ d => uptoBulk d + 1
  | .map entries => uptoBulkEntries entries + 1
  | .held _ => 1
def uptoBulkAll {H : Type} : List (DataW H) → Nat
  | [] => 0
  | d :: r => uptoBulk d + uptoBulkAll r
def uptoBulkEntries {H : Type} : List (Lit × DataW H) → Nat
  | [] => 0
  | x :: r => uptoBulkEntry x + uptoBulkEntries r
def uptoBulkEntry {H : Type} : Lit × DataW H → Nat
  | (.string bytes, d) => bytes.length + uptoBulk d + 1
  | (_, d) => uptoBulk d + 1
 end
def uptoSmall : (H : Type) → List (DataW H) → Bool := fun _ ds => decide (uptoBulkAll ds ≤ 1048576)
def OpenSpec.upto (s : _root_.Go.ChangeSpec) : _root_.Go.OpenSpec := { _root_.Go.OpenSpec.ofChange s with cond := some uptoSmall }

/-- 'augurylaw14.FetcKinds', WHERE WHAT IT READS IS OF BULK AT MOST 1048576: true; the input reads as it did. -/
def fetcKindsUptoRow : OpenClaim := { program := "ytbhdoempeglgpaa", sum := "c11bfa53d5d6e68d97b6ff852f9b56ac5eb10b39dc6fc7dd4daa63b5c41a5d90", func := "augury/augurylaw14.FetcKinds", spec := "fetcKinds", apart := false, narrowed := true }
def FetcKindsUptoSaid : Prop := fetcKindsUptoRow.holds Try.pinned (OpenSpec.upto fetcKindsSpec)

/-- 'augurylaw14.FetcOnly', WHERE WHAT IT READS IS OF BULK AT MOST 1048576: true; the input reads as it did. -/
def fetcOnlyUptoRow : OpenClaim := { program := "ytbhdoempeglgpaa", sum := "c11bfa53d5d6e68d97b6ff852f9b56ac5eb10b39dc6fc7dd4daa63b5c41a5d90", func := "augury/augurylaw14.FetcOnly", spec := "fetcOnly", unfollowed := true, recurses := true, apart := false, narrowed := true }
def FetcOnlyUptoSaid : Prop := fetcOnlyUptoRow.holds Try.pinned (OpenSpec.upto fetcOnlySpec)

/-- 'augurylaw14.FetcReturns', WHERE WHAT IT READS IS OF BULK AT MOST 1048576: true; the input reads as it did. -/
def fetcReturnsUptoRow : OpenClaim := { program := "ytbhdoempeglgpaa", sum := "c11bfa53d5d6e68d97b6ff852f9b56ac5eb10b39dc6fc7dd4daa63b5c41a5d90", func := "augury/augurylaw14.FetcReturns", spec := "fetcReturns", apart := false, narrowed := true }
def FetcReturnsUptoSaid : Prop := fetcReturnsUptoRow.holds Try.pinned (OpenSpec.upto fetcReturnsSpec)

/-- 'augurylaw14.FetcTells', WHERE WHAT IT READS IS OF BULK AT MOST 1048576: true; the input reads as it did. -/
def fetcTellsUptoRow : OpenClaim := { program := "ytbhdoempeglgpaa", sum := "c11bfa53d5d6e68d97b6ff852f9b56ac5eb10b39dc6fc7dd4daa63b5c41a5d90", func := "augury/augurylaw14.FetcTells", spec := "fetcTells", unfollowed := true, recurses := true, apart := false, narrowed := true }
def FetcTellsUptoSaid : Prop := fetcTellsUptoRow.holds Try.pinned (OpenSpec.upto fetcTellsSpec)

end Rows
end Go.Proofs.Ytbhdoempeglgpaa
