/-
  No cell of these rows narrows 'for every input' (looked for: loops, veiled, ifaces, maps, wideKeys, modest, calm, conditions, laid).
  DERIVED. THE GIVEN ROWS OF THIS SEAT. 5 by the template 'for every input the law returns true; each argument reads behind the call as it read before'; 0 by the template 'total and deterministic' (their statements: YtdanmboalfmifaaTotals.lean).
  GIVEN WITH THE SEED: the statements are not yours to turn. If you find one false, say at which input.
  Laid BY PROGRAM, IN A SANDBOX (cutbox-rows.mjs): the forced cells as the released guide's own fill.sh prints them over the translation 0f9fb4a9f181fbaa… (all of the seat's roots in one cut). By AI agents, Wed Nov 11 2026. No macro, syntax, notation, axiom, sorry.
-/
import Derived.Test.YtdanmboalfmifaaChecked
import GoSem.Claim
import GoSem.ClaimJoined
import GoSem.ClaimMapViews
import Derived.JoinedTies
import Derived.KernelRfl
namespace Go.Proofs.Ytdanmboalfmifaa
/- THE CELL 'sum', in the pinned program and in every row, IS THE sha256 OF THE DUMP (.gsa) THAT YtdanmboalfmifaaProg.lean LOADS. Nothing in Lean hashes anything: it is a label: what it is worth is what the hold of that sum in a sandbox is worth. -/
noncomputable def Try.pinned : Pinned := { name := "ytdanmboalfmifaa", sum := "0f9fb4a9f181fbaa4f6da3aa915a6b1800d9a8214fcfb5852bbf813cb62b01a5", checked := Try.checked }
namespace Rows
def none {H : Type} : Left H := { results := [], args := [] }

/-- 'augurylaw16.RetiWaits': WHATEVER THE INPUT: true; the input reads as it did. -/
def retiWaitsSpec : ChangeSpec := { name := "retiWaits", fn := fun _ => fun
  | [d] => { results := [.lit (.bool true)], args := [d] }
  | _ => none }
def retiWaitsRow : OpenClaim := { program := "ytdanmboalfmifaa", sum := "0f9fb4a9f181fbaa4f6da3aa915a6b1800d9a8214fcfb5852bbf813cb62b01a5", func := "augury/augurylaw16.RetiWaits", spec := "retiWaits", apart := false }
def RetiWaitsSaid : Prop := retiWaitsRow.holds Try.pinned (OpenSpec.ofChange retiWaitsSpec)

/-- ITS FALSE NEIGHBOUR: 'it returns false'. Refute it at one input. -/
def retiWaitsWrong : ChangeSpec := { name := "retiWaits", fn := fun _ => fun
  | [d] => { results := [.lit (.bool false)], args := [d] }
  | _ => none }
def RetiWaitsWrongFalsely : Prop := retiWaitsRow.holds Try.pinned (OpenSpec.ofChange retiWaitsWrong)

/-- 'augurylaw16.RetiOldest': WHATEVER THE INPUT: true; the input reads as it did. -/
def retiOldestSpec : ChangeSpec := { name := "retiOldest", fn := fun _ => fun
  | [d1, d2, d3] => { results := [.lit (.bool true)], args := [d1, d2, d3] }
  | _ => none }
def retiOldestRow : OpenClaim := { program := "ytdanmboalfmifaa", sum := "0f9fb4a9f181fbaa4f6da3aa915a6b1800d9a8214fcfb5852bbf813cb62b01a5", func := "augury/augurylaw16.RetiOldest", spec := "retiOldest", unfollowed := true, recurses := true, apart := false }
def RetiOldestSaid : Prop := retiOldestRow.holds Try.pinned (OpenSpec.ofChange retiOldestSpec)

/-- ITS FALSE NEIGHBOUR: 'it returns false'. Refute it at one input. -/
def retiOldestWrong : ChangeSpec := { name := "retiOldest", fn := fun _ => fun
  | [d1, d2, d3] => { results := [.lit (.bool false)], args := [d1, d2, d3] }
  | _ => none }
def RetiOldestWrongFalsely : Prop := retiOldestRow.holds Try.pinned (OpenSpec.ofChange retiOldestWrong)

/-- 'augurylaw16.RetiOwn': WHATEVER THE INPUT: true; the input reads as it did. -/
def retiOwnSpec : ChangeSpec := { name := "retiOwn", fn := fun _ => fun
  | [d1, d2, d3] => { results := [.lit (.bool true)], args := [d1, d2, d3] }
  | _ => none }
def retiOwnRow : OpenClaim := { program := "ytdanmboalfmifaa", sum := "0f9fb4a9f181fbaa4f6da3aa915a6b1800d9a8214fcfb5852bbf813cb62b01a5", func := "augury/augurylaw16.RetiOwn", spec := "retiOwn", unfollowed := true, recurses := true, apart := false }
def RetiOwnSaid : Prop := retiOwnRow.holds Try.pinned (OpenSpec.ofChange retiOwnSpec)

/-- ITS FALSE NEIGHBOUR: 'it returns false'. Refute it at one input. -/
def retiOwnWrong : ChangeSpec := { name := "retiOwn", fn := fun _ => fun
  | [d1, d2, d3] => { results := [.lit (.bool false)], args := [d1, d2, d3] }
  | _ => none }
def RetiOwnWrongFalsely : Prop := retiOwnRow.holds Try.pinned (OpenSpec.ofChange retiOwnWrong)

/-- 'augurylaw16.RetiTells': WHATEVER THE INPUT: true; the input reads as it did. -/
def retiTellsSpec : ChangeSpec := { name := "retiTells", fn := fun _ => fun
  | [d1, d2, d3] => { results := [.lit (.bool true)], args := [d1, d2, d3] }
  | _ => none }
def retiTellsRow : OpenClaim := { program := "ytdanmboalfmifaa", sum := "0f9fb4a9f181fbaa4f6da3aa915a6b1800d9a8214fcfb5852bbf813cb62b01a5", func := "augury/augurylaw16.RetiTells", spec := "retiTells", unfollowed := true, recurses := true, apart := false }
def RetiTellsSaid : Prop := retiTellsRow.holds Try.pinned (OpenSpec.ofChange retiTellsSpec)

/-- ITS FALSE NEIGHBOUR: 'it returns false'. Refute it at one input. -/
def retiTellsWrong : ChangeSpec := { name := "retiTells", fn := fun _ => fun
  | [d1, d2, d3] => { results := [.lit (.bool false)], args := [d1, d2, d3] }
  | _ => none }
def RetiTellsWrongFalsely : Prop := retiTellsRow.holds Try.pinned (OpenSpec.ofChange retiTellsWrong)

/-- 'augurylaw16.RetiSteps': WHATEVER THE INPUT: true; the input reads as it did. -/
def retiStepsSpec : ChangeSpec := { name := "retiSteps", fn := fun _ => fun
  | [d1, d2, d3] => { results := [.lit (.bool true)], args := [d1, d2, d3] }
  | _ => none }
def retiStepsRow : OpenClaim := { program := "ytdanmboalfmifaa", sum := "0f9fb4a9f181fbaa4f6da3aa915a6b1800d9a8214fcfb5852bbf813cb62b01a5", func := "augury/augurylaw16.RetiSteps", spec := "retiSteps", unfollowed := true, recurses := true, apart := false }
def RetiStepsSaid : Prop := retiStepsRow.holds Try.pinned (OpenSpec.ofChange retiStepsSpec)

/-- ITS FALSE NEIGHBOUR: 'it returns false'. Refute it at one input. -/
def retiStepsWrong : ChangeSpec := { name := "retiSteps", fn := fun _ => fun
  | [d1, d2, d3] => { results := [.lit (.bool false)], args := [d1, d2, d3] }
  | _ => none }
def RetiStepsWrongFalsely : Prop := retiStepsRow.holds Try.pinned (OpenSpec.ofChange retiStepsWrong)

/- THE SECOND FORM. 'bulk': how many values and letters a reading holds, each counted each time it is reached (what is shared counts as often as it is met; a slice's spare places count too). A statement '..UptoSaid' is the law's where the arguments, and the package variables that the reading takes, are together of bulk at most 1048576: NARROWER than '..Said'. Prove '..Said' where nothing that the law and all that it calls make is longer than what came in: it says more and counts as full. Else prove '..UptoSaid'. A law counts once. -/
mutual
def uptoBulk {H : Type} : DataW H → Nat
  | .lit (.string bytes) => bytes.length + 1
  | .lit _ => 1
  | .nil => 1
  | .ptr d => uptoBulk d + 1
  | .slice elems spare => uptoBulkAll elems + uptoBulkAll spare + 1
  | .agg parts => uptoBulkAll parts + 1
  | .iface _ d => uptoBulk d + 1
  | .map entries => uptoBulkEntries entries + 1
  | .held _ => 1
def uptoBulkAll {H : Type} : List (DataW H) → Nat
  | [] => 0
  | d :: r => uptoBulk d + uptoBulkAll r
def uptoBulkEntries {H : Type} : List (Lit × DataW H) → Nat
  | [] => 0
  | x :: r => uptoBulkEntry x + uptoBulkEntries r
def uptoBulkEntry {H : Type} : Lit × DataW H → Nat
  | (.string bytes, d) => bytes.length + uptoBulk d + 1
  | (_, d) => uptoBulk d + 1
 end
def uptoSmall : (H : Type) → List (DataW H) → Bool := fun _ ds => decide (uptoBulkAll ds ≤ 1048576)
def OpenSpec.upto (s : _root_.Go.ChangeSpec) : _root_.Go.OpenSpec := { _root_.Go.OpenSpec.ofChange s with cond := some uptoSmall }

/-- 'augurylaw16.RetiWaits', WHERE WHAT IT READS IS OF BULK AT MOST 1048576: true; the input reads as it did. -/
def retiWaitsUptoRow : OpenClaim := { program := "ytdanmboalfmifaa", sum := "0f9fb4a9f181fbaa4f6da3aa915a6b1800d9a8214fcfb5852bbf813cb62b01a5", func := "augury/augurylaw16.RetiWaits", spec := "retiWaits", apart := false, narrowed := true }
def RetiWaitsUptoSaid : Prop := retiWaitsUptoRow.holds Try.pinned (OpenSpec.upto retiWaitsSpec)

/-- 'augurylaw16.RetiOldest', WHERE WHAT IT READS IS OF BULK AT MOST 1048576: true; the input reads as it did. -/
def retiOldestUptoRow : OpenClaim := { program := "ytdanmboalfmifaa", sum := "0f9fb4a9f181fbaa4f6da3aa915a6b1800d9a8214fcfb5852bbf813cb62b01a5", func := "augury/augurylaw16.RetiOldest", spec := "retiOldest", unfollowed := true, recurses := true, apart := false, narrowed := true }
def RetiOldestUptoSaid : Prop := retiOldestUptoRow.holds Try.pinned (OpenSpec.upto retiOldestSpec)

/-- 'augurylaw16.RetiOwn', WHERE WHAT IT READS IS OF BULK AT MOST 1048576: true; the input reads as it did. -/
def retiOwnUptoRow : OpenClaim := { program := "ytdanmboalfmifaa", sum := "0f9fb4a9f181fbaa4f6da3aa915a6b1800d9a8214fcfb5852bbf813cb62b01a5", func := "augury/augurylaw16.RetiOwn", spec := "retiOwn", unfollowed := true, recurses := true, apart := false, narrowed := true }
def RetiOwnUptoSaid : Prop := retiOwnUptoRow.holds Try.pinned (OpenSpec.upto retiOwnSpec)

/-- 'augurylaw16.RetiTells', WHERE WHAT IT READS IS OF BULK AT MOST 1048576: true; the input reads as it did. -/
def retiTellsUptoRow : OpenClaim := { program := "ytdanmboalfmifaa", sum := "0f9fb4a9f181fbaa4f6da3aa915a6b1800d9a8214fcfb5852bbf813cb62b01a5", func := "augury/augurylaw16.RetiTells", spec := "retiTells", unfollowed := true, recurses := true, apart := false, narrowed := true }
def RetiTellsUptoSaid : Prop := retiTellsUptoRow.holds Try.pinned (OpenSpec.upto retiTellsSpec)

/-- 'augurylaw16.RetiSteps', WHERE WHAT IT READS IS OF BULK AT MOST 1048576: true; the input reads as it did. -/
def retiStepsUptoRow : OpenClaim := { program := "ytdanmboalfmifaa", sum := "0f9fb4a9f181fbaa4f6da3aa915a6b1800d9a8214fcfb5852bbf813cb62b01a5", func := "augury/augurylaw16.RetiSteps", spec := "retiSteps", unfollowed := true, recurses := true, apart := false, narrowed := true }
def RetiStepsUptoSaid : Prop := retiStepsUptoRow.holds Try.pinned (OpenSpec.upto retiStepsSpec)

end Rows
end Go.Proofs.Ytdanmboalfmifaa
