/- A closed fact of the program: what its head lifts. -/
import Derived.Test.YtcchhbkbnbphhaaDoorRows
import Derived.ProofKit
import Derived.OpenShut
namespace Go.Proofs.YtcchhbkbnbphhaaDoor
open Go.RowKit

set_option maxRecDepth 100000 in
theorem factLift : ((false : Bool) == Tryd.prog.liftsFinal) = true := by kernel_rfl
end Go.Proofs.YtcchhbkbnbphhaaDoor
