/-
  No cell of these rows narrows 'for every input' (looked for: loops, veiled, ifaces, maps, wideKeys, modest, calm, conditions, laid).
  DERIVED. THE GIVEN ROWS OF THIS SEAT. 4 by the template 'for every input the law returns true; each argument reads behind the call as it read before'; 0 by the template 'total and deterministic' (their statements: YtgcedepjlgfcjaaTotals.lean).
  GIVEN WITH THE SEED: the statements are not yours to turn. If you find one false, say at which input.
  Laid BY PROGRAM, IN A SANDBOX (cutbox-rows.mjs): the forced cells as the released guide's own fill.sh prints them over the translation 1994f32d511e28e9… (all of the seat's roots in one cut). By AI agents, Wed Nov 11 2026. No macro, syntax, notation, axiom, sorry.
-/
import Derived.Test.YtgcedepjlgfcjaaChecked
import GoSem.Claim
import GoSem.ClaimJoined
import GoSem.ClaimMapViews
import Derived.JoinedTies
import Derived.KernelRfl
namespace Go.Proofs.Ytgcedepjlgfcjaa
/- THE CELL 'sum', in the pinned program and in every row, IS THE sha256 OF THE DUMP (.gsa) THAT YtgcedepjlgfcjaaProg.lean LOADS. Nothing in Lean hashes anything: it is a label: what it is worth is what the hold of that sum in a sandbox is worth. -/
noncomputable def Try.pinned : Pinned := { name := "ytgcedepjlgfcjaa", sum := "1994f32d511e28e931549d41e216bfb730ae07191ea829d87a356687a7ad7920", checked := Try.checked }
namespace Rows
def none {H : Type} : Left H := { results := [], args := [] }

/-- 'augurylaw12.RetbTwo': WHATEVER THE INPUT: true; the input reads as it did. -/
def retbTwoSpec : ChangeSpec := { name := "retbTwo", fn := fun _ => fun
  | [d1, d2] => { results := [.lit (.bool true)], args := [d1, d2] }
  | _ => none }
def retbTwoRow : OpenClaim := { program := "ytgcedepjlgfcjaa", sum := "1994f32d511e28e931549d41e216bfb730ae07191ea829d87a356687a7ad7920", func := "augury/augurylaw12.RetbTwo", spec := "retbTwo", apart := false }
def RetbTwoSaid : Prop := retbTwoRow.holds Try.pinned (OpenSpec.ofChange retbTwoSpec)

/-- ITS FALSE NEIGHBOUR: 'it returns false'. Refute it at one input. -/
def retbTwoWrong : ChangeSpec := { name := "retbTwo", fn := fun _ => fun
  | [d1, d2] => { results := [.lit (.bool false)], args := [d1, d2] }
  | _ => none }
def RetbTwoWrongFalsely : Prop := retbTwoRow.holds Try.pinned (OpenSpec.ofChange retbTwoWrong)

/-- 'augurylaw12.RetbReal': WHATEVER THE INPUT: true; the input reads as it did. -/
def retbRealSpec : ChangeSpec := { name := "retbReal", fn := fun _ => fun
  | [d1, d2, d3] => { results := [.lit (.bool true)], args := [d1, d2, d3] }
  | _ => none }
def retbRealRow : OpenClaim := { program := "ytgcedepjlgfcjaa", sum := "1994f32d511e28e931549d41e216bfb730ae07191ea829d87a356687a7ad7920", func := "augury/augurylaw12.RetbReal", spec := "retbReal", apart := false }
def RetbRealSaid : Prop := retbRealRow.holds Try.pinned (OpenSpec.ofChange retbRealSpec)

/-- ITS FALSE NEIGHBOUR: 'it returns false'. Refute it at one input. -/
def retbRealWrong : ChangeSpec := { name := "retbReal", fn := fun _ => fun
  | [d1, d2, d3] => { results := [.lit (.bool false)], args := [d1, d2, d3] }
  | _ => none }
def RetbRealWrongFalsely : Prop := retbRealRow.holds Try.pinned (OpenSpec.ofChange retbRealWrong)

/-- 'augurylaw12.RetbOwn': WHATEVER THE INPUT: true; the input reads as it did. -/
def retbOwnSpec : ChangeSpec := { name := "retbOwn", fn := fun _ => fun
  | [d1, d2] => { results := [.lit (.bool true)], args := [d1, d2] }
  | _ => none }
def retbOwnRow : OpenClaim := { program := "ytgcedepjlgfcjaa", sum := "1994f32d511e28e931549d41e216bfb730ae07191ea829d87a356687a7ad7920", func := "augury/augurylaw12.RetbOwn", spec := "retbOwn", apart := false }
def RetbOwnSaid : Prop := retbOwnRow.holds Try.pinned (OpenSpec.ofChange retbOwnSpec)

/-- ITS FALSE NEIGHBOUR: 'it returns false'. Refute it at one input. -/
def retbOwnWrong : ChangeSpec := { name := "retbOwn", fn := fun _ => fun
  | [d1, d2] => { results := [.lit (.bool false)], args := [d1, d2] }
  | _ => none }
def RetbOwnWrongFalsely : Prop := retbOwnRow.holds Try.pinned (OpenSpec.ofChange retbOwnWrong)

/-- 'augurylaw12.RetbTells': WHATEVER THE INPUT: true; the input reads as it did. -/
def retbTellsSpec : ChangeSpec := { name := "retbTells", fn := fun _ => fun
  | [d1, d2, d3, d4, d5] => { results := [.lit (.bool true)], args := [d1, d2, d3, d4, d5] }
  | _ => none }
def retbTellsRow : OpenClaim := { program := "ytgcedepjlgfcjaa", sum := "1994f32d511e28e931549d41e216bfb730ae07191ea829d87a356687a7ad7920", func := "augury/augurylaw12.RetbTells", spec := "retbTells", unfollowed := true, recurses := true, apart := false }
def RetbTellsSaid : Prop := retbTellsRow.holds Try.pinned (OpenSpec.ofChange retbTellsSpec)

/-- ITS FALSE NEIGHBOUR: 'it returns false'. Refute it at one input. -/
def retbTellsWrong : ChangeSpec := { name := "retbTells", fn := fun _ => fun
  | [d1, d2, d3, d4, d5] => { results := [.lit (.bool false)], args := [d1, d2, d3, d4, d5] }
  | _ => none }
def RetbTellsWrongFalsely : Prop := retbTellsRow.holds Try.pinned (OpenSpec.ofChange retbTellsWrong)

/- THE SECOND FORM. 'bulk': how many values and letters a reading holds, each counted each time it is reached (what is shared counts as often as it is met; a slice's spare places count too). A statement '..UptoSaid' is the law's where the arguments, and the package variables that the reading takes, are together of bulk at most 1048576: NARROWER than '..Said'. Prove '..Said' where nothing that the law and all that it calls make is longer than what came in: it says more and counts as full. Else prove '..UptoSaid'. A law counts once. -/
mutual
def uptoBulk {H : Type} : DataW H → Nat
  | .lit (.string bytes) => bytes.length + 1
  | .lit _ => 1
  | .nil => 1
  | .ptr d => uptoBulk d + 1
  | .slice elems spare => uptoBulkAll elems + uptoBulkAll spare + 1
  | .agg parts => uptoBulkAll parts + 1
  | .iface _ d => uptoBulk d + 1
  | .map entries => uptoBulkEntries entries + 1
  | .held _ => 1
def uptoBulkAll {H : Type} : List (DataW H) → Nat
  | [] => 0
  | d :: r => uptoBulk d + uptoBulkAll r
def uptoBulkEntries {H : Type} : List (Lit × DataW H) → Nat
  | [] => 0
  | x :: r => uptoBulkEntry x + uptoBulkEntries r
def uptoBulkEntry {H : Type} : Lit × DataW H → Nat
  | (.string bytes, d) => bytes.length + uptoBulk d + 1
  | (_, d) => uptoBulk d + 1
 end
def uptoSmall : (H : Type) → List (DataW H) → Bool := fun _ ds => decide (uptoBulkAll ds ≤ 1048576)
def OpenSpec.upto (s : _root_.Go.ChangeSpec) : _root_.Go.OpenSpec := { _root_.Go.OpenSpec.ofChange s with cond := some uptoSmall }

/-- 'augurylaw12.RetbTwo', WHERE WHAT IT READS IS OF BULK AT MOST 1048576: true; the input reads as it did. -/
def retbTwoUptoRow : OpenClaim := { program := "ytgcedepjlgfcjaa", sum := "1994f32d511e28e931549d41e216bfb730ae07191ea829d87a356687a7ad7920", func := "augury/augurylaw12.RetbTwo", spec := "retbTwo", apart := false, narrowed := true }
def RetbTwoUptoSaid : Prop := retbTwoUptoRow.holds Try.pinned (OpenSpec.upto retbTwoSpec)

/-- 'augurylaw12.RetbReal', WHERE WHAT IT READS IS OF BULK AT MOST 1048576: true; the input reads as it did. -/
def retbRealUptoRow : OpenClaim := { program := "ytgcedepjlgfcjaa", sum := "1994f32d511e28e931549d41e216bfb730ae07191ea829d87a356687a7ad7920", func := "augury/augurylaw12.RetbReal", spec := "retbReal", apart := false, narrowed := true }
def RetbRealUptoSaid : Prop := retbRealUptoRow.holds Try.pinned (OpenSpec.upto retbRealSpec)

/-- 'augurylaw12.RetbOwn', WHERE WHAT IT READS IS OF BULK AT MOST 1048576: true; the input reads as it did. -/
def retbOwnUptoRow : OpenClaim := { program := "ytgcedepjlgfcjaa", sum := "1994f32d511e28e931549d41e216bfb730ae07191ea829d87a356687a7ad7920", func := "augury/augurylaw12.RetbOwn", spec := "retbOwn", apart := false, narrowed := true }
def RetbOwnUptoSaid : Prop := retbOwnUptoRow.holds Try.pinned (OpenSpec.upto retbOwnSpec)

/-- 'augurylaw12.RetbTells', WHERE WHAT IT READS IS OF BULK AT MOST 1048576: true; the input reads as it did. -/
def retbTellsUptoRow : OpenClaim := { program := "ytgcedepjlgfcjaa", sum := "1994f32d511e28e931549d41e216bfb730ae07191ea829d87a356687a7ad7920", func := "augury/augurylaw12.RetbTells", spec := "retbTells", unfollowed := true, recurses := true, apart := false, narrowed := true }
def RetbTellsUptoSaid : Prop := retbTellsUptoRow.holds Try.pinned (OpenSpec.upto retbTellsSpec)

end Rows
end Go.Proofs.Ytgcedepjlgfcjaa
