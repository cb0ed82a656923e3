/- The heap that the variables' own start-up leaves meets what the rows list. -/
import Derived.Test.YtmghklokbmdenaaDoorCards
import Derived.Test.YtmghklokbmdenaaDoorTie
import Derived.ProofKit
import Derived.LaidMore
import Derived.OpenShut
import Derived.Stop.Joined
namespace Go.Proofs.YtmghklokbmdenaaDoor
open Go.ChangeShapes Go.WideShapes Go.ChangeAt Go.RowKit
/-- so many steps has the door's run -/
def doorSteps : Nat := 92
theorem door_met (os : Os) (args : Array Value) : laidMetH Tryd.prog Rows.progFormsRow.laid ((World.doorLaid Tryd.prog doorSteps os).forCall (fun _ _ => 0) ⟨#[], args, []⟩).memory :=
  laidMetH_of_parts3 (fuel := 8) (laidMet_of_run' 8 (by kernel_rfl) (by kernel_rfl)) (by kernel_rfl) (by kernel_rfl)
end Go.Proofs.YtmghklokbmdenaaDoor
