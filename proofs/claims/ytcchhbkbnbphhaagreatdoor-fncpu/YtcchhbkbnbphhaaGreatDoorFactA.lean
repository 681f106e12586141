/- A closed fact of the program: it may be entered. -/
import Derived.Test.YtcchhbkbnbphhaaGreatDoorRows
import Derived.ProofKit
import Derived.OpenShut
namespace Go.Proofs.YtcchhbkbnbphhaaGreatDoor
open Go.RowKit

set_option maxRecDepth 100000 in
theorem factEnter : Tryz.prog.mayEnter = true := by kernel_rfl
end Go.Proofs.YtcchhbkbnbphhaaGreatDoor
