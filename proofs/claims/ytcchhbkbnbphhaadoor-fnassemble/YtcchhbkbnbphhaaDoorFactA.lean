/- A closed fact of the program: it may be entered. -/
import Derived.Test.YtcchhbkbnbphhaaDoorRows
import Derived.ProofKit
import Derived.OpenShut
namespace Go.Proofs.YtcchhbkbnbphhaaDoor
open Go.RowKit

set_option maxRecDepth 100000 in
theorem factEnter : Tryd.prog.mayEnter = true := by kernel_rfl
end Go.Proofs.YtcchhbkbnbphhaaDoor
