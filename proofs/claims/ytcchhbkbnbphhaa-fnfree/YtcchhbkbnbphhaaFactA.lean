/- A closed fact of the program: it may be entered. -/
import Derived.Test.YtcchhbkbnbphhaaRows
import Derived.ProofKit
import Derived.OpenShut
namespace Go.Proofs.Ytcchhbkbnbphhaa
open Go.RowKit

set_option maxRecDepth 100000 in
theorem factEnter : Try.prog.mayEnter = true := by kernel_rfl
end Go.Proofs.Ytcchhbkbnbphhaa
