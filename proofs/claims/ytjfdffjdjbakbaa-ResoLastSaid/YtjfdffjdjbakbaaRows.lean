/-
  No cell of these rows narrows 'for every input' (looked for: loops, veiled, ifaces, maps, wideKeys, modest, calm, conditions, laid).
  DERIVED. THE GIVEN ROWS OF THIS SEAT. 4 by the template 'for every input the law returns true; each argument reads behind the call as it read before'; 0 by the template 'total and deterministic' (their statements: YtjfdffjdjbakbaaTotals.lean).
  GIVEN WITH THE SEED: the statements are not yours to turn. If you find one false, say at which input.
  Laid BY PROGRAM, IN A SANDBOX (cutbox-rows.mjs): the forced cells as the released guide's own fill.sh prints them over the translation 0f6de70900356a7b… (all of the seat's roots in one cut). By AI agents, Wed Nov 11 2026. No macro, syntax, notation, axiom, sorry.
-/
import Derived.Test.YtjfdffjdjbakbaaChecked
import GoSem.Claim
import GoSem.ClaimJoined
import GoSem.ClaimMapViews
import Derived.JoinedTies
import Derived.KernelRfl
namespace Go.Proofs.Ytjfdffjdjbakbaa
/- THE CELL 'sum', in the pinned program and in every row, IS THE sha256 OF THE DUMP (.gsa) THAT YtjfdffjdjbakbaaProg.lean LOADS. Nothing in Lean hashes anything: it is a label: what it is worth is what the hold of that sum in a sandbox is worth. -/
noncomputable def Try.pinned : Pinned := { name := "ytjfdffjdjbakbaa", sum := "0f6de70900356a7b51427212883464330692f8b8a9016b7503dcf3c3ded9ad51", checked := Try.checked }
namespace Rows
def none {H : Type} : Left H := { results := [], args := [] }

/-- 'augurylaw10.ResoLast': WHATEVER THE INPUT: true; the input reads as it did. -/
def resoLastSpec : ChangeSpec := { name := "resoLast", fn := fun _ => fun
  | [d1, d2, d3, d4, d5] => { results := [.lit (.bool true)], args := [d1, d2, d3, d4, d5] }
  | _ => none }
def resoLastRow : OpenClaim := { program := "ytjfdffjdjbakbaa", sum := "0f6de70900356a7b51427212883464330692f8b8a9016b7503dcf3c3ded9ad51", func := "augury/augurylaw10.ResoLast", spec := "resoLast", unfollowed := true, recurses := true, apart := false }
def ResoLastSaid : Prop := resoLastRow.holds Try.pinned (OpenSpec.ofChange resoLastSpec)

/-- ITS FALSE NEIGHBOUR: 'it returns false'. Refute it at one input. -/
def resoLastWrong : ChangeSpec := { name := "resoLast", fn := fun _ => fun
  | [d1, d2, d3, d4, d5] => { results := [.lit (.bool false)], args := [d1, d2, d3, d4, d5] }
  | _ => none }
def ResoLastWrongFalsely : Prop := resoLastRow.holds Try.pinned (OpenSpec.ofChange resoLastWrong)

/-- 'augurylaw10.ResoFences': WHATEVER THE INPUT: true; the input reads as it did. -/
def resoFencesSpec : ChangeSpec := { name := "resoFences", fn := fun _ => fun
  | [d1, d2, d3] => { results := [.lit (.bool true)], args := [d1, d2, d3] }
  | _ => none }
def resoFencesRow : OpenClaim := { program := "ytjfdffjdjbakbaa", sum := "0f6de70900356a7b51427212883464330692f8b8a9016b7503dcf3c3ded9ad51", func := "augury/augurylaw10.ResoFences", spec := "resoFences", unfollowed := true, recurses := true, apart := false }
def ResoFencesSaid : Prop := resoFencesRow.holds Try.pinned (OpenSpec.ofChange resoFencesSpec)

/-- ITS FALSE NEIGHBOUR: 'it returns false'. Refute it at one input. -/
def resoFencesWrong : ChangeSpec := { name := "resoFences", fn := fun _ => fun
  | [d1, d2, d3] => { results := [.lit (.bool false)], args := [d1, d2, d3] }
  | _ => none }
def ResoFencesWrongFalsely : Prop := resoFencesRow.holds Try.pinned (OpenSpec.ofChange resoFencesWrong)

/-- 'augurylaw10.ResoSame': WHATEVER THE INPUT: true; the input reads as it did. -/
def resoSameSpec : ChangeSpec := { name := "resoSame", fn := fun _ => fun
  | [d1, d2, d3] => { results := [.lit (.bool true)], args := [d1, d2, d3] }
  | _ => none }
def resoSameRow : OpenClaim := { program := "ytjfdffjdjbakbaa", sum := "0f6de70900356a7b51427212883464330692f8b8a9016b7503dcf3c3ded9ad51", func := "augury/augurylaw10.ResoSame", spec := "resoSame", unfollowed := true, recurses := true, apart := false }
def ResoSameSaid : Prop := resoSameRow.holds Try.pinned (OpenSpec.ofChange resoSameSpec)

/-- ITS FALSE NEIGHBOUR: 'it returns false'. Refute it at one input. -/
def resoSameWrong : ChangeSpec := { name := "resoSame", fn := fun _ => fun
  | [d1, d2, d3] => { results := [.lit (.bool false)], args := [d1, d2, d3] }
  | _ => none }
def ResoSameWrongFalsely : Prop := resoSameRow.holds Try.pinned (OpenSpec.ofChange resoSameWrong)

/-- 'augurylaw10.ResoTells': WHATEVER THE INPUT: true; the input reads as it did. -/
def resoTellsSpec : ChangeSpec := { name := "resoTells", fn := fun _ => fun
  | [d1, d2, d3, d4, d5, d6] => { results := [.lit (.bool true)], args := [d1, d2, d3, d4, d5, d6] }
  | _ => none }
def resoTellsRow : OpenClaim := { program := "ytjfdffjdjbakbaa", sum := "0f6de70900356a7b51427212883464330692f8b8a9016b7503dcf3c3ded9ad51", func := "augury/augurylaw10.ResoTells", spec := "resoTells", unfollowed := true, recurses := true, apart := false }
def ResoTellsSaid : Prop := resoTellsRow.holds Try.pinned (OpenSpec.ofChange resoTellsSpec)

/-- ITS FALSE NEIGHBOUR: 'it returns false'. Refute it at one input. -/
def resoTellsWrong : ChangeSpec := { name := "resoTells", fn := fun _ => fun
  | [d1, d2, d3, d4, d5, d6] => { results := [.lit (.bool false)], args := [d1, d2, d3, d4, d5, d6] }
  | _ => none }
def ResoTellsWrongFalsely : Prop := resoTellsRow.holds Try.pinned (OpenSpec.ofChange resoTellsWrong)

/- THE SECOND FORM. 'bulk': how many values and letters a reading holds, each counted each time it is reached (what is shared counts as often as it is met; a slice's spare places count too). A statement '..UptoSaid' is the law's where the arguments, and the package variables that the reading takes, are together of bulk at most 1048576: NARROWER than '..Said'. Prove '..Said' where nothing that the law and all that it calls make is longer than what came in: it says more and counts as full. Else prove '..UptoSaid'. A law counts once. -/
mutual
def uptoBulk {H : Type} : DataW H → Nat
  | .lit (.string bytes) => bytes.length + 1
  | .lit _ => 1
  | .nil => 1
  | .ptr d => uptoBulk d + 1
  | .slice elems spare => uptoBulkAll elems + uptoBulkAll spare + 1
  | .agg parts => uptoBulkAll parts + 1
  | .iface _ d => uptoBulk d + 1
  | .map entries => uptoBulkEntries entries + 1
  | .held _ => 1
def uptoBulkAll {H : Type} : List (DataW H) → Nat
  | [] => 0
  | d :: r => uptoBulk d + uptoBulkAll r
def uptoBulkEntries {H : Type} : List (Lit × DataW H) → Nat
  | [] => 0
  | x :: r => uptoBulkEntry x + uptoBulkEntries r
def uptoBulkEntry {H : Type} : Lit × DataW H → Nat
  | (.string bytes, d) => bytes.length + uptoBulk d + 1
  | (_, d) => uptoBulk d + 1
 end
def uptoSmall : (H : Type) → List (DataW H) → Bool := fun _ ds => decide (uptoBulkAll ds ≤ 1048576)
def OpenSpec.upto (s : _root_.Go.ChangeSpec) : _root_.Go.OpenSpec := { _root_.Go.OpenSpec.ofChange s with cond := some uptoSmall }

/-- 'augurylaw10.ResoLast', WHERE WHAT IT READS IS OF BULK AT MOST 1048576: true; the input reads as it did. -/
def resoLastUptoRow : OpenClaim := { program := "ytjfdffjdjbakbaa", sum := "0f6de70900356a7b51427212883464330692f8b8a9016b7503dcf3c3ded9ad51", func := "augury/augurylaw10.ResoLast", spec := "resoLast", unfollowed := true, recurses := true, apart := false, narrowed := true }
def ResoLastUptoSaid : Prop := resoLastUptoRow.holds Try.pinned (OpenSpec.upto resoLastSpec)

/-- 'augurylaw10.ResoFences', WHERE WHAT IT READS IS OF BULK AT MOST 1048576: true; the input reads as it did. -/
def resoFencesUptoRow : OpenClaim := { program := "ytjfdffjdjbakbaa", sum := "0f6de70900356a7b51427212883464330692f8b8a9016b7503dcf3c3ded9ad51", func := "augury/augurylaw10.ResoFences", spec := "resoFences", unfollowed := true, recurses := true, apart := false, narrowed := true }
def ResoFencesUptoSaid : Prop := resoFencesUptoRow.holds Try.pinned (OpenSpec.upto resoFencesSpec)

/-- 'augurylaw10.ResoSame', WHERE WHAT IT READS IS OF BULK AT MOST 1048576: true; the input reads as it did. -/
def resoSameUptoRow : OpenClaim := { program := "ytjfdffjdjbakbaa", sum := "0f6de70900356a7b51427212883464330692f8b8a9016b7503dcf3c3ded9ad51", func := "augury/augurylaw10.ResoSame", spec := "resoSame", unfollowed := true, recurses := true, apart := false, narrowed := true }
def ResoSameUptoSaid : Prop := resoSameUptoRow.holds Try.pinned (OpenSpec.upto resoSameSpec)

/-- 'augurylaw10.ResoTells', WHERE WHAT IT READS IS OF BULK AT MOST 1048576: true; the input reads as it did. -/
def resoTellsUptoRow : OpenClaim := { program := "ytjfdffjdjbakbaa", sum := "0f6de70900356a7b51427212883464330692f8b8a9016b7503dcf3c3ded9ad51", func := "augury/augurylaw10.ResoTells", spec := "resoTells", unfollowed := true, recurses := true, apart := false, narrowed := true }
def ResoTellsUptoSaid : Prop := resoTellsUptoRow.holds Try.pinned (OpenSpec.upto resoTellsSpec)

end Rows
end Go.Proofs.Ytjfdffjdjbakbaa
