/- A closed fact of the program: how it was made. -/
import Derived.Test.YtcchhbkbnbphhaaRows
import Derived.ProofKit
import Derived.OpenShut
namespace Go.Proofs.Ytcchhbkbnbphhaa
open Go.RowKit

set_option maxRecDepth 100000 in
theorem factMake : (Try.prog.make == some Make.cut) = true := by kernel_rfl
end Go.Proofs.Ytcchhbkbnbphhaa
