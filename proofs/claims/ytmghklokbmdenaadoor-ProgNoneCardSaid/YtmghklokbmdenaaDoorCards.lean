/-
  DERIVED. GIVEN WITH THE SEED: THE CARDS: each row of YtmghklokbmdenaaDoorRows.lean that lists a variable, with what it lists TIED to the program's text (the seventh form; the later family's looks); each row that meets fmt, with fmt's text TOLD by the authors' own Lean function (tested against real Go, not proved from fmt's source: count such statements apart). THE CARD IS WHAT COUNTS. Prove the row's statement (the work); the ties are given (YtmghklokbmdenaaDoorTie.lean); close each card by the builder's one call (the guide's Derived/Test/ToyasCard.lean, 'card_holds'). Laid BY PROGRAM, IN A SANDBOX (cutbox-door.mjs). By AI agents, Wed Nov 11 2026. No macro, syntax, notation, axiom, sorry.
-/
import Derived.Test.YtmghklokbmdenaaDoorRows
import GoSem.ClaimSeven
namespace Go.Proofs.YtmghklokbmdenaaDoor
namespace Rows

/-- THE TIED CARD OF 'augurylaw6.ProgForms'. -/
def progFormsCard : Claim7 := { stood := { row := progFormsRow, standIns := [], harness := (true, "a658d5dc328377464e164cbb2f0fd4b6ed290cbbd3c0f28260f072c157456406"), looks := true }, kinds := [], alts := [], laidByText := true, laidKinds := [.data, .data, .data, .sentinel, .sentinel, .data, .data], laidTests := true, laidLooks := .later }
def ProgFormsCardSaid : Prop := Claim7.holds Tryd.pinned (.plain (OpenSpec.ofChange progFormsSpec)) progFormsCard

/-- THE TIED CARD OF 'augurylaw6.ProgLabels'. -/
def progLabelsCard : Claim7 := { stood := { row := progLabelsRow, standIns := [], harness := (true, "a658d5dc328377464e164cbb2f0fd4b6ed290cbbd3c0f28260f072c157456406"), looks := true }, kinds := [], alts := [], laidByText := true, laidKinds := [.data, .data, .data, .sentinel, .sentinel, .data, .data], laidTests := true, laidLooks := .later }
def ProgLabelsCardSaid : Prop := Claim7.holds Tryd.pinned (.plain (OpenSpec.ofChange progLabelsSpec)) progLabelsCard

/-- THE TIED CARD OF 'augurylaw6.ProgNone'. -/
def progNoneCard : Claim7 := { stood := { row := progNoneRow, standIns := [], harness := (true, "a658d5dc328377464e164cbb2f0fd4b6ed290cbbd3c0f28260f072c157456406"), looks := true }, kinds := [], alts := [], laidByText := true, laidKinds := [.data, .data, .data, .sentinel, .sentinel, .data, .data], laidTests := true, laidLooks := .later }
def ProgNoneCardSaid : Prop := Claim7.holds Tryd.pinned (.plain (OpenSpec.ofChange progNoneSpec)) progNoneCard

/-- THE SECOND FORM's CARD OF 'augurylaw6.ProgForms'. -/
def progFormsUptoCard : Claim7 := { stood := { row := progFormsUptoRow, standIns := [], harness := (true, "a658d5dc328377464e164cbb2f0fd4b6ed290cbbd3c0f28260f072c157456406"), looks := true }, kinds := [], alts := [], laidByText := true, laidKinds := [.data, .data, .data, .sentinel, .sentinel, .data, .data], laidTests := true, laidLooks := .later }
def ProgFormsUptoCardSaid : Prop := Claim7.holds Tryd.pinned (.plain (OpenSpec.upto progFormsSpec)) progFormsUptoCard

/-- THE SECOND FORM's CARD OF 'augurylaw6.ProgLabels'. -/
def progLabelsUptoCard : Claim7 := { stood := { row := progLabelsUptoRow, standIns := [], harness := (true, "a658d5dc328377464e164cbb2f0fd4b6ed290cbbd3c0f28260f072c157456406"), looks := true }, kinds := [], alts := [], laidByText := true, laidKinds := [.data, .data, .data, .sentinel, .sentinel, .data, .data], laidTests := true, laidLooks := .later }
def ProgLabelsUptoCardSaid : Prop := Claim7.holds Tryd.pinned (.plain (OpenSpec.upto progLabelsSpec)) progLabelsUptoCard

/-- THE SECOND FORM's CARD OF 'augurylaw6.ProgNone'. -/
def progNoneUptoCard : Claim7 := { stood := { row := progNoneUptoRow, standIns := [], harness := (true, "a658d5dc328377464e164cbb2f0fd4b6ed290cbbd3c0f28260f072c157456406"), looks := true }, kinds := [], alts := [], laidByText := true, laidKinds := [.data, .data, .data, .sentinel, .sentinel, .data, .data], laidTests := true, laidLooks := .later }
def ProgNoneUptoCardSaid : Prop := Claim7.holds Tryd.pinned (.plain (OpenSpec.upto progNoneSpec)) progNoneUptoCard
end Rows
end Go.Proofs.YtmghklokbmdenaaDoor
