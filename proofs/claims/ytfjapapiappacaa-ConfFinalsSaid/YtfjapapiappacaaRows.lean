/-
  No cell of these rows narrows 'for every input' (looked for: loops, veiled, ifaces, maps, wideKeys, modest, calm, conditions, laid).
  DERIVED. THE GIVEN ROWS OF THIS SEAT. 5 by the template 'for every input the law returns true; each argument reads behind the call as it read before'; 0 by the template 'total and deterministic' (their statements: YtfjapapiappacaaTotals.lean).
  GIVEN WITH THE SEED: the statements are not yours to turn. If you find one false, say at which input.
  Laid BY PROGRAM, IN A SANDBOX (cutbox-rows.mjs): the forced cells as the released guide's own fill.sh prints them over the translation f177364885ef9356… (all of the seat's roots in one cut). By AI agents, Wed Nov 11 2026. No macro, syntax, notation, axiom, sorry.
-/
import Derived.Test.YtfjapapiappacaaChecked
import GoSem.Claim
import GoSem.ClaimJoined
import GoSem.ClaimMapViews
import Derived.JoinedTies
import Derived.KernelRfl
namespace Go.Proofs.Ytfjapapiappacaa
/- THE CELL 'sum', in the pinned program and in every row, IS THE sha256 OF THE DUMP (.gsa) THAT YtfjapapiappacaaProg.lean LOADS. Nothing in Lean hashes anything: it is a label: what it is worth is what the hold of that sum in a sandbox is worth. -/
noncomputable def Try.pinned : Pinned := { name := "ytfjapapiappacaa", sum := "f177364885ef93563e25584c2f1d0a6bbd9591be0c0eceb8864687185a863313", checked := Try.checked }
namespace Rows
def none {H : Type} : Left H := { results := [], args := [] }

/-- 'augurylaw13.ConfNone': WHATEVER THE INPUT: true; the input reads as it did. -/
def confNoneSpec : ChangeSpec := { name := "confNone", fn := fun _ => fun
  | [d] => { results := [.lit (.bool true)], args := [d] }
  | _ => none }
def confNoneRow : OpenClaim := { program := "ytfjapapiappacaa", sum := "f177364885ef93563e25584c2f1d0a6bbd9591be0c0eceb8864687185a863313", func := "augury/augurylaw13.ConfNone", spec := "confNone", apart := false }
def ConfNoneSaid : Prop := confNoneRow.holds Try.pinned (OpenSpec.ofChange confNoneSpec)

/-- ITS FALSE NEIGHBOUR: 'it returns false'. Refute it at one input. -/
def confNoneWrong : ChangeSpec := { name := "confNone", fn := fun _ => fun
  | [d] => { results := [.lit (.bool false)], args := [d] }
  | _ => none }
def ConfNoneWrongFalsely : Prop := confNoneRow.holds Try.pinned (OpenSpec.ofChange confNoneWrong)

/-- 'augurylaw13.ConfFinals': WHATEVER THE INPUT: true; the input reads as it did. -/
def confFinalsSpec : ChangeSpec := { name := "confFinals", fn := fun _ => fun
  | [d1, d2, d3] => { results := [.lit (.bool true)], args := [d1, d2, d3] }
  | _ => none }
def confFinalsRow : OpenClaim := { program := "ytfjapapiappacaa", sum := "f177364885ef93563e25584c2f1d0a6bbd9591be0c0eceb8864687185a863313", func := "augury/augurylaw13.ConfFinals", spec := "confFinals", unfollowed := true, recurses := true, apart := false }
def ConfFinalsSaid : Prop := confFinalsRow.holds Try.pinned (OpenSpec.ofChange confFinalsSpec)

/-- ITS FALSE NEIGHBOUR: 'it returns false'. Refute it at one input. -/
def confFinalsWrong : ChangeSpec := { name := "confFinals", fn := fun _ => fun
  | [d1, d2, d3] => { results := [.lit (.bool false)], args := [d1, d2, d3] }
  | _ => none }
def ConfFinalsWrongFalsely : Prop := confFinalsRow.holds Try.pinned (OpenSpec.ofChange confFinalsWrong)

/-- 'augurylaw13.ConfOwn': WHATEVER THE INPUT: true; the input reads as it did. -/
def confOwnSpec : ChangeSpec := { name := "confOwn", fn := fun _ => fun
  | [d1, d2, d3] => { results := [.lit (.bool true)], args := [d1, d2, d3] }
  | _ => none }
def confOwnRow : OpenClaim := { program := "ytfjapapiappacaa", sum := "f177364885ef93563e25584c2f1d0a6bbd9591be0c0eceb8864687185a863313", func := "augury/augurylaw13.ConfOwn", spec := "confOwn", unfollowed := true, recurses := true, apart := false }
def ConfOwnSaid : Prop := confOwnRow.holds Try.pinned (OpenSpec.ofChange confOwnSpec)

/-- ITS FALSE NEIGHBOUR: 'it returns false'. Refute it at one input. -/
def confOwnWrong : ChangeSpec := { name := "confOwn", fn := fun _ => fun
  | [d1, d2, d3] => { results := [.lit (.bool false)], args := [d1, d2, d3] }
  | _ => none }
def ConfOwnWrongFalsely : Prop := confOwnRow.holds Try.pinned (OpenSpec.ofChange confOwnWrong)

/-- 'augurylaw13.ConfTells': WHATEVER THE INPUT: true; the input reads as it did. -/
def confTellsSpec : ChangeSpec := { name := "confTells", fn := fun _ => fun
  | [d1, d2, d3, d4, d5, d6] => { results := [.lit (.bool true)], args := [d1, d2, d3, d4, d5, d6] }
  | _ => none }
def confTellsRow : OpenClaim := { program := "ytfjapapiappacaa", sum := "f177364885ef93563e25584c2f1d0a6bbd9591be0c0eceb8864687185a863313", func := "augury/augurylaw13.ConfTells", spec := "confTells", unfollowed := true, recurses := true, apart := false }
def ConfTellsSaid : Prop := confTellsRow.holds Try.pinned (OpenSpec.ofChange confTellsSpec)

/-- ITS FALSE NEIGHBOUR: 'it returns false'. Refute it at one input. -/
def confTellsWrong : ChangeSpec := { name := "confTells", fn := fun _ => fun
  | [d1, d2, d3, d4, d5, d6] => { results := [.lit (.bool false)], args := [d1, d2, d3, d4, d5, d6] }
  | _ => none }
def ConfTellsWrongFalsely : Prop := confTellsRow.holds Try.pinned (OpenSpec.ofChange confTellsWrong)

/-- 'augurylaw13.ConfUnlike': WHATEVER THE INPUT: true; the input reads as it did. -/
def confUnlikeSpec : ChangeSpec := { name := "confUnlike", fn := fun _ => fun
  | [d1, d2, d3, d4, d5, d6] => { results := [.lit (.bool true)], args := [d1, d2, d3, d4, d5, d6] }
  | _ => none }
def confUnlikeRow : OpenClaim := { program := "ytfjapapiappacaa", sum := "f177364885ef93563e25584c2f1d0a6bbd9591be0c0eceb8864687185a863313", func := "augury/augurylaw13.ConfUnlike", spec := "confUnlike", unfollowed := true, recurses := true, apart := false }
def ConfUnlikeSaid : Prop := confUnlikeRow.holds Try.pinned (OpenSpec.ofChange confUnlikeSpec)

/-- ITS FALSE NEIGHBOUR: 'it returns false'. Refute it at one input. -/
def confUnlikeWrong : ChangeSpec := { name := "confUnlike", fn := fun _ => fun
  | [d1, d2, d3, d4, d5, d6] => { results := [.lit (.bool false)], args := [d1, d2, d3, d4, d5, d6] }
  | _ => none }
def ConfUnlikeWrongFalsely : Prop := confUnlikeRow.holds Try.pinned (OpenSpec.ofChange confUnlikeWrong)

/- THE SECOND FORM. 'bulk': how many values and letters a reading holds, each counted each time it is reached (what is shared counts as often as it is met; a slice's spare places count too). A statement '..UptoSaid' is the law's where the arguments, and the package variables that the reading takes, are together of bulk at most 1048576: NARROWER than '..Said'. Prove '..Said' where nothing that the law and all that it calls make is longer than what came in: it says more and counts as full. Else prove '..UptoSaid'. A law counts once. -/
mutual
def uptoBulk {H : Type} : DataW H → Nat
  | .lit (.string bytes) => bytes.length + 1
  | .lit _ => 1
  | .nil => 1
  | .ptr d => uptoBulk d + 1
  | .slice elems spare => uptoBulkAll elems + uptoBulkAll spare + 1
  | .agg parts => uptoBulkAll parts + 1
  | .iface _ d => uptoBulk d + 1
  | .map entries => uptoBulkEntries entries + 1
  | .held _ => 1
def uptoBulkAll {H : Type} : List (DataW H) → Nat
  | [] => 0
  | d :: r => uptoBulk d + uptoBulkAll r
def uptoBulkEntries {H : Type} : List (Lit × DataW H) → Nat
  | [] => 0
  | x :: r => uptoBulkEntry x + uptoBulkEntries r
def uptoBulkEntry {H : Type} : Lit × DataW H → Nat
  | (.string bytes, d) => bytes.length + uptoBulk d + 1
  | (_, d) => uptoBulk d + 1
 end
def uptoSmall : (H : Type) → List (DataW H) → Bool := fun _ ds => decide (uptoBulkAll ds ≤ 1048576)
def OpenSpec.upto (s : _root_.Go.ChangeSpec) : _root_.Go.OpenSpec := { _root_.Go.OpenSpec.ofChange s with cond := some uptoSmall }

/-- 'augurylaw13.ConfNone', WHERE WHAT IT READS IS OF BULK AT MOST 1048576: true; the input reads as it did. -/
def confNoneUptoRow : OpenClaim := { program := "ytfjapapiappacaa", sum := "f177364885ef93563e25584c2f1d0a6bbd9591be0c0eceb8864687185a863313", func := "augury/augurylaw13.ConfNone", spec := "confNone", apart := false, narrowed := true }
def ConfNoneUptoSaid : Prop := confNoneUptoRow.holds Try.pinned (OpenSpec.upto confNoneSpec)

/-- 'augurylaw13.ConfFinals', WHERE WHAT IT READS IS OF BULK AT MOST 1048576: true; the input reads as it did. -/
def confFinalsUptoRow : OpenClaim := { program := "ytfjapapiappacaa", sum := "f177364885ef93563e25584c2f1d0a6bbd9591be0c0eceb8864687185a863313", func := "augury/augurylaw13.ConfFinals", spec := "confFinals", unfollowed := true, recurses := true, apart := false, narrowed := true }
def ConfFinalsUptoSaid : Prop := confFinalsUptoRow.holds Try.pinned (OpenSpec.upto confFinalsSpec)

/-- 'augurylaw13.ConfOwn', WHERE WHAT IT READS IS OF BULK AT MOST 1048576: true; the input reads as it did. -/
def confOwnUptoRow : OpenClaim := { program := "ytfjapapiappacaa", sum := "f177364885ef93563e25584c2f1d0a6bbd9591be0c0eceb8864687185a863313", func := "augury/augurylaw13.ConfOwn", spec := "confOwn", unfollowed := true, recurses := true, apart := false, narrowed := true }
def ConfOwnUptoSaid : Prop := confOwnUptoRow.holds Try.pinned (OpenSpec.upto confOwnSpec)

/-- 'augurylaw13.ConfTells', WHERE WHAT IT READS IS OF BULK AT MOST 1048576: true; the input reads as it did. -/
def confTellsUptoRow : OpenClaim := { program := "ytfjapapiappacaa", sum := "f177364885ef93563e25584c2f1d0a6bbd9591be0c0eceb8864687185a863313", func := "augury/augurylaw13.ConfTells", spec := "confTells", unfollowed := true, recurses := true, apart := false, narrowed := true }
def ConfTellsUptoSaid : Prop := confTellsUptoRow.holds Try.pinned (OpenSpec.upto confTellsSpec)

/-- 'augurylaw13.ConfUnlike', WHERE WHAT IT READS IS OF BULK AT MOST 1048576: true; the input reads as it did. -/
def confUnlikeUptoRow : OpenClaim := { program := "ytfjapapiappacaa", sum := "f177364885ef93563e25584c2f1d0a6bbd9591be0c0eceb8864687185a863313", func := "augury/augurylaw13.ConfUnlike", spec := "confUnlike", unfollowed := true, recurses := true, apart := false, narrowed := true }
def ConfUnlikeUptoSaid : Prop := confUnlikeUptoRow.holds Try.pinned (OpenSpec.upto confUnlikeSpec)

end Rows
end Go.Proofs.Ytfjapapiappacaa
