/-
  No cell of these rows narrows 'for every input' (looked for: loops, veiled, ifaces, maps, wideKeys, modest, calm, conditions, laid).
  DERIVED. THE GIVEN ROWS OF THIS SEAT. 4 by the template 'for every input the law returns true; each argument reads behind the call as it read before'; 0 by the template 'total and deterministic' (their statements: YtdbnfdcjibgikaaTotals.lean).
  GIVEN WITH THE SEED: the statements are not yours to turn. If you find one false, say at which input.
  Laid BY PROGRAM, IN A SANDBOX (cutbox-rows.mjs): the forced cells as the released guide's own fill.sh prints them over the translation e3d71de4ce01f41c… (all of the seat's roots in one cut). By AI agents, Wed Nov 11 2026. No macro, syntax, notation, axiom, sorry.
-/
import Derived.Test.YtdbnfdcjibgikaaChecked
import GoSem.Claim
import GoSem.ClaimJoined
import GoSem.ClaimMapViews
import Derived.JoinedTies
import Derived.KernelRfl
namespace Go.Proofs.Ytdbnfdcjibgikaa
/- THE CELL 'sum', in the pinned program and in every row, IS THE sha256 OF THE DUMP (.gsa) THAT YtdbnfdcjibgikaaProg.lean LOADS. Nothing in Lean hashes anything: it is a label: what it is worth is what the hold of that sum in a sandbox is worth. -/
noncomputable def Try.pinned : Pinned := { name := "ytdbnfdcjibgikaa", sum := "e3d71de4ce01f41ccc05a027d14afba4184bcb29bd572fcebb1fca7d7e4f73e5", checked := Try.checked }
namespace Rows
def none {H : Type} : Left H := { results := [], args := [] }

/-- 'augurylaw7.ArchPlaces': WHATEVER THE INPUT: true; the input reads as it did. -/
def archPlacesSpec : ChangeSpec := { name := "archPlaces", fn := fun _ => fun
  | [d1, d2, d3, d4] => { results := [.lit (.bool true)], args := [d1, d2, d3, d4] }
  | _ => none }
def archPlacesRow : OpenClaim := { program := "ytdbnfdcjibgikaa", sum := "e3d71de4ce01f41ccc05a027d14afba4184bcb29bd572fcebb1fca7d7e4f73e5", func := "augury/augurylaw7.ArchPlaces", spec := "archPlaces", apart := false }
def ArchPlacesSaid : Prop := archPlacesRow.holds Try.pinned (OpenSpec.ofChange archPlacesSpec)

/-- ITS FALSE NEIGHBOUR: 'it returns false'. Refute it at one input. -/
def archPlacesWrong : ChangeSpec := { name := "archPlaces", fn := fun _ => fun
  | [d1, d2, d3, d4] => { results := [.lit (.bool false)], args := [d1, d2, d3, d4] }
  | _ => none }
def ArchPlacesWrongFalsely : Prop := archPlacesRow.holds Try.pinned (OpenSpec.ofChange archPlacesWrong)

/-- 'augurylaw7.ArchOwn': WHATEVER THE INPUT: true; the input reads as it did. -/
def archOwnSpec : ChangeSpec := { name := "archOwn", fn := fun _ => fun
  | [d1, d2] => { results := [.lit (.bool true)], args := [d1, d2] }
  | _ => none }
def archOwnRow : OpenClaim := { program := "ytdbnfdcjibgikaa", sum := "e3d71de4ce01f41ccc05a027d14afba4184bcb29bd572fcebb1fca7d7e4f73e5", func := "augury/augurylaw7.ArchOwn", spec := "archOwn", unfollowed := true, recurses := true, apart := false }
def ArchOwnSaid : Prop := archOwnRow.holds Try.pinned (OpenSpec.ofChange archOwnSpec)

/-- ITS FALSE NEIGHBOUR: 'it returns false'. Refute it at one input. -/
def archOwnWrong : ChangeSpec := { name := "archOwn", fn := fun _ => fun
  | [d1, d2] => { results := [.lit (.bool false)], args := [d1, d2] }
  | _ => none }
def ArchOwnWrongFalsely : Prop := archOwnRow.holds Try.pinned (OpenSpec.ofChange archOwnWrong)

/-- 'augurylaw7.ArchLow': WHATEVER THE INPUT: true; the input reads as it did. -/
def archLowSpec : ChangeSpec := { name := "archLow", fn := fun _ => fun
  | [d1, d2, d3] => { results := [.lit (.bool true)], args := [d1, d2, d3] }
  | _ => none }
def archLowRow : OpenClaim := { program := "ytdbnfdcjibgikaa", sum := "e3d71de4ce01f41ccc05a027d14afba4184bcb29bd572fcebb1fca7d7e4f73e5", func := "augury/augurylaw7.ArchLow", spec := "archLow", unfollowed := true, recurses := true, apart := false }
def ArchLowSaid : Prop := archLowRow.holds Try.pinned (OpenSpec.ofChange archLowSpec)

/-- ITS FALSE NEIGHBOUR: 'it returns false'. Refute it at one input. -/
def archLowWrong : ChangeSpec := { name := "archLow", fn := fun _ => fun
  | [d1, d2, d3] => { results := [.lit (.bool false)], args := [d1, d2, d3] }
  | _ => none }
def ArchLowWrongFalsely : Prop := archLowRow.holds Try.pinned (OpenSpec.ofChange archLowWrong)

/-- 'augurylaw7.ArchStarts': WHATEVER THE INPUT: true; the input reads as it did. -/
def archStartsSpec : ChangeSpec := { name := "archStarts", fn := fun _ => fun
  | [d1, d2, d3, d4] => { results := [.lit (.bool true)], args := [d1, d2, d3, d4] }
  | _ => none }
def archStartsRow : OpenClaim := { program := "ytdbnfdcjibgikaa", sum := "e3d71de4ce01f41ccc05a027d14afba4184bcb29bd572fcebb1fca7d7e4f73e5", func := "augury/augurylaw7.ArchStarts", spec := "archStarts", unfollowed := true, recurses := true, apart := false }
def ArchStartsSaid : Prop := archStartsRow.holds Try.pinned (OpenSpec.ofChange archStartsSpec)

/-- ITS FALSE NEIGHBOUR: 'it returns false'. Refute it at one input. -/
def archStartsWrong : ChangeSpec := { name := "archStarts", fn := fun _ => fun
  | [d1, d2, d3, d4] => { results := [.lit (.bool false)], args := [d1, d2, d3, d4] }
  | _ => none }
def ArchStartsWrongFalsely : Prop := archStartsRow.holds Try.pinned (OpenSpec.ofChange archStartsWrong)

/- THE SECOND FORM. 'bulk': how many values and letters a reading holds, each counted each time it is reached (what is shared counts as often as it is met; a slice's spare places count too). A statement '..UptoSaid' is the law's where the arguments, and the package variables that the reading takes, are together of bulk at most 1048576: NARROWER than '..Said'. Prove '..Said' where nothing that the law and all that it calls make is longer than what came in: it says more and counts as full. Else prove '..UptoSaid'. A law counts once. -/
mutual
def uptoBulk {H : Type} : DataW H → Nat
  | .lit (.string bytes) => bytes.length + 1
  | .lit _ => 1
  | .nil => 1
  | .ptr d => uptoBulk d + 1
  | .slice elems spare => uptoBulkAll elems + uptoBulkAll spare + 1
  | .agg parts => uptoBulkAll parts + 1
  | .iface _ d => uptoBulk d + 1
  | .map entries => uptoBulkEntries entries + 1
  | .held _ => 1
def uptoBulkAll {H : Type} : List (DataW H) → Nat
  | [] => 0
  | d :: r => uptoBulk d + uptoBulkAll r
def uptoBulkEntries {H : Type} : List (Lit × DataW H) → Nat
  | [] => 0
  | x :: r => uptoBulkEntry x + uptoBulkEntries r
def uptoBulkEntry {H : Type} : Lit × DataW H → Nat
  | (.string bytes, d) => bytes.length + uptoBulk d + 1
  | (_, d) => uptoBulk d + 1
 end
def uptoSmall : (H : Type) → List (DataW H) → Bool := fun _ ds => decide (uptoBulkAll ds ≤ 1048576)
def OpenSpec.upto (s : _root_.Go.ChangeSpec) : _root_.Go.OpenSpec := { _root_.Go.OpenSpec.ofChange s with cond := some uptoSmall }

/-- 'augurylaw7.ArchPlaces', WHERE WHAT IT READS IS OF BULK AT MOST 1048576: true; the input reads as it did. -/
def archPlacesUptoRow : OpenClaim := { program := "ytdbnfdcjibgikaa", sum := "e3d71de4ce01f41ccc05a027d14afba4184bcb29bd572fcebb1fca7d7e4f73e5", func := "augury/augurylaw7.ArchPlaces", spec := "archPlaces", apart := false, narrowed := true }
def ArchPlacesUptoSaid : Prop := archPlacesUptoRow.holds Try.pinned (OpenSpec.upto archPlacesSpec)

/-- 'augurylaw7.ArchOwn', WHERE WHAT IT READS IS OF BULK AT MOST 1048576: true; the input reads as it did. -/
def archOwnUptoRow : OpenClaim := { program := "ytdbnfdcjibgikaa", sum := "e3d71de4ce01f41ccc05a027d14afba4184bcb29bd572fcebb1fca7d7e4f73e5", func := "augury/augurylaw7.ArchOwn", spec := "archOwn", unfollowed := true, recurses := true, apart := false, narrowed := true }
def ArchOwnUptoSaid : Prop := archOwnUptoRow.holds Try.pinned (OpenSpec.upto archOwnSpec)

/-- 'augurylaw7.ArchLow', WHERE WHAT IT READS IS OF BULK AT MOST 1048576: true; the input reads as it did. -/
def archLowUptoRow : OpenClaim := { program := "ytdbnfdcjibgikaa", sum := "e3d71de4ce01f41ccc05a027d14afba4184bcb29bd572fcebb1fca7d7e4f73e5", func := "augury/augurylaw7.ArchLow", spec := "archLow", unfollowed := true, recurses := true, apart := false, narrowed := true }
def ArchLowUptoSaid : Prop := archLowUptoRow.holds Try.pinned (OpenSpec.upto archLowSpec)

/-- 'augurylaw7.ArchStarts', WHERE WHAT IT READS IS OF BULK AT MOST 1048576: true; the input reads as it did. -/
def archStartsUptoRow : OpenClaim := { program := "ytdbnfdcjibgikaa", sum := "e3d71de4ce01f41ccc05a027d14afba4184bcb29bd572fcebb1fca7d7e4f73e5", func := "augury/augurylaw7.ArchStarts", spec := "archStarts", unfollowed := true, recurses := true, apart := false, narrowed := true }
def ArchStartsUptoSaid : Prop := archStartsUptoRow.holds Try.pinned (OpenSpec.upto archStartsSpec)

end Rows
end Go.Proofs.Ytdbnfdcjibgikaa
