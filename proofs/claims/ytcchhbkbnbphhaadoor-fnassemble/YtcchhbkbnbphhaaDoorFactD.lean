/- A closed fact of the program: how it was made. -/
import Derived.Test.YtcchhbkbnbphhaaDoorRows
import Derived.ProofKit
import Derived.OpenShut
namespace Go.Proofs.YtcchhbkbnbphhaaDoor
open Go.RowKit

set_option maxRecDepth 100000 in
theorem factMake : (Tryd.prog.make == some Make.cut) = true := by kernel_rfl
end Go.Proofs.YtcchhbkbnbphhaaDoor
