/- A closed fact of the program: what its head lifts. -/
import Derived.Test.YtcchhbkbnbphhaaRows
import Derived.ProofKit
import Derived.OpenShut
namespace Go.Proofs.Ytcchhbkbnbphhaa
open Go.RowKit

set_option maxRecDepth 100000 in
theorem factLift : ((false : Bool) == Try.prog.liftsFinal) = true := by kernel_rfl
end Go.Proofs.Ytcchhbkbnbphhaa
