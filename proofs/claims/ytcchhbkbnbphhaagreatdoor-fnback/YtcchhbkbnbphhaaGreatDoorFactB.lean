/- A closed fact of the program: what its head lifts. -/
import Derived.Test.YtcchhbkbnbphhaaGreatDoorRows
import Derived.ProofKit
import Derived.OpenShut
namespace Go.Proofs.YtcchhbkbnbphhaaGreatDoor
open Go.RowKit

set_option maxRecDepth 100000 in
theorem factLift : ((false : Bool) == Tryz.prog.liftsFinal) = true := by kernel_rfl
end Go.Proofs.YtcchhbkbnbphhaaGreatDoor
