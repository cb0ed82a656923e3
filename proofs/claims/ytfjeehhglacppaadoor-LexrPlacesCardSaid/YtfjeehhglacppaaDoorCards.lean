/-
  DERIVED. GIVEN WITH THE SEED: THE CARDS: each row of YtfjeehhglacppaaDoorRows.lean that lists a variable, with what it lists TIED to the program's text (the seventh form; the later family's looks); each row that meets fmt, with fmt's text TOLD by the authors' own Lean function (tested against real Go, not proved from fmt's source: count such statements apart). THE CARD IS WHAT COUNTS. Prove the row's statement (the work); the ties are given (YtfjeehhglacppaaDoorTie.lean); close each card by the builder's one call (the guide's Derived/Test/ToyasCard.lean, 'card_holds'). Laid BY PROGRAM, IN A SANDBOX (cutbox-door.mjs). By AI agents, Wed Nov 11 2026. No macro, syntax, notation, axiom, sorry.
-/
import Derived.Test.YtfjeehhglacppaaDoorRows
import GoSem.ClaimSeven
namespace Go.Proofs.YtfjeehhglacppaaDoor
namespace Rows

/-- THE TIED CARD OF 'augurylaw4.LexrForms'. -/
def lexrFormsCard : Claim7 := { stood := { row := lexrFormsRow, standIns := [], harness := (true, "2165e3bc598dfc369be3d9c833fec0c0b083f82e3780debc0db62743a98180aa"), looks := true }, kinds := [], alts := [], laidByText := true, laidKinds := [.data, .data, .data, .sentinel, .sentinel], laidTests := true, laidLooks := .later }
def LexrFormsCardSaid : Prop := Claim7.holds Tryd.pinned (.plain (OpenSpec.ofChange lexrFormsSpec)) lexrFormsCard

/-- THE TIED CARD OF 'augurylaw4.LexrPlaces'. -/
def lexrPlacesCard : Claim7 := { stood := { row := lexrPlacesRow, standIns := [], harness := (true, "2165e3bc598dfc369be3d9c833fec0c0b083f82e3780debc0db62743a98180aa"), looks := true }, kinds := [], alts := [], laidByText := true, laidKinds := [.data, .data, .data, .sentinel, .sentinel], laidTests := true, laidLooks := .later }
def LexrPlacesCardSaid : Prop := Claim7.holds Tryd.pinned (.plain (OpenSpec.ofChange lexrPlacesSpec)) lexrPlacesCard

/-- THE TIED CARD OF 'augurylaw4.LexrSigns'. -/
def lexrSignsCard : Claim7 := { stood := { row := lexrSignsRow, standIns := [], harness := (true, "2165e3bc598dfc369be3d9c833fec0c0b083f82e3780debc0db62743a98180aa"), looks := true }, kinds := [], alts := [], laidByText := true, laidKinds := [.data, .data, .data, .sentinel, .sentinel], laidTests := true, laidLooks := .later }
def LexrSignsCardSaid : Prop := Claim7.holds Tryd.pinned (.plain (OpenSpec.ofChange lexrSignsSpec)) lexrSignsCard

/-- THE TIED CARD OF 'augurylaw4.LexrTells'. -/
def lexrTellsCard : Claim7 := { stood := { row := lexrTellsRow, standIns := [], harness := (true, "2165e3bc598dfc369be3d9c833fec0c0b083f82e3780debc0db62743a98180aa"), looks := true }, kinds := [], alts := [], laidByText := true, laidKinds := [.data, .data, .data, .sentinel, .sentinel], laidTests := true, laidLooks := .later }
def LexrTellsCardSaid : Prop := Claim7.holds Tryd.pinned (.plain (OpenSpec.ofChange lexrTellsSpec)) lexrTellsCard

/-- THE TIED CARD OF 'augurylaw4.LexrBlanks'. -/
def lexrBlanksCard : Claim7 := { stood := { row := lexrBlanksRow, standIns := [], harness := (true, "2165e3bc598dfc369be3d9c833fec0c0b083f82e3780debc0db62743a98180aa"), looks := true }, kinds := [], alts := [], laidByText := true, laidKinds := [.data, .data, .data, .sentinel, .sentinel], laidTests := true, laidLooks := .later }
def LexrBlanksCardSaid : Prop := Claim7.holds Tryd.pinned (.plain (OpenSpec.ofChange lexrBlanksSpec)) lexrBlanksCard

/-- THE SECOND FORM's CARD OF 'augurylaw4.LexrForms'. -/
def lexrFormsUptoCard : Claim7 := { stood := { row := lexrFormsUptoRow, standIns := [], harness := (true, "2165e3bc598dfc369be3d9c833fec0c0b083f82e3780debc0db62743a98180aa"), looks := true }, kinds := [], alts := [], laidByText := true, laidKinds := [.data, .data, .data, .sentinel, .sentinel], laidTests := true, laidLooks := .later }
def LexrFormsUptoCardSaid : Prop := Claim7.holds Tryd.pinned (.plain (OpenSpec.upto lexrFormsSpec)) lexrFormsUptoCard

/-- THE SECOND FORM's CARD OF 'augurylaw4.LexrPlaces'. -/
def lexrPlacesUptoCard : Claim7 := { stood := { row := lexrPlacesUptoRow, standIns := [], harness := (true, "2165e3bc598dfc369be3d9c833fec0c0b083f82e3780debc0db62743a98180aa"), looks := true }, kinds := [], alts := [], laidByText := true, laidKinds := [.data, .data, .data, .sentinel, .sentinel], laidTests := true, laidLooks := .later }
def LexrPlacesUptoCardSaid : Prop := Claim7.holds Tryd.pinned (.plain (OpenSpec.upto lexrPlacesSpec)) lexrPlacesUptoCard

/-- THE SECOND FORM's CARD OF 'augurylaw4.LexrSigns'. -/
def lexrSignsUptoCard : Claim7 := { stood := { row := lexrSignsUptoRow, standIns := [], harness := (true, "2165e3bc598dfc369be3d9c833fec0c0b083f82e3780debc0db62743a98180aa"), looks := true }, kinds := [], alts := [], laidByText := true, laidKinds := [.data, .data, .data, .sentinel, .sentinel], laidTests := true, laidLooks := .later }
def LexrSignsUptoCardSaid : Prop := Claim7.holds Tryd.pinned (.plain (OpenSpec.upto lexrSignsSpec)) lexrSignsUptoCard

/-- THE SECOND FORM's CARD OF 'augurylaw4.LexrTells'. -/
def lexrTellsUptoCard : Claim7 := { stood := { row := lexrTellsUptoRow, standIns := [], harness := (true, "2165e3bc598dfc369be3d9c833fec0c0b083f82e3780debc0db62743a98180aa"), looks := true }, kinds := [], alts := [], laidByText := true, laidKinds := [.data, .data, .data, .sentinel, .sentinel], laidTests := true, laidLooks := .later }
def LexrTellsUptoCardSaid : Prop := Claim7.holds Tryd.pinned (.plain (OpenSpec.upto lexrTellsSpec)) lexrTellsUptoCard

/-- THE SECOND FORM's CARD OF 'augurylaw4.LexrBlanks'. -/
def lexrBlanksUptoCard : Claim7 := { stood := { row := lexrBlanksUptoRow, standIns := [], harness := (true, "2165e3bc598dfc369be3d9c833fec0c0b083f82e3780debc0db62743a98180aa"), looks := true }, kinds := [], alts := [], laidByText := true, laidKinds := [.data, .data, .data, .sentinel, .sentinel], laidTests := true, laidLooks := .later }
def LexrBlanksUptoCardSaid : Prop := Claim7.holds Tryd.pinned (.plain (OpenSpec.upto lexrBlanksSpec)) lexrBlanksUptoCard
end Rows
end Go.Proofs.YtfjeehhglacppaaDoor
