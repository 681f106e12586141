/- A closed fact of the program: how it was made. -/
import Derived.Test.YtophgbjbinaekaaDoorRows
import Derived.ProofKit
import Derived.OpenShut
namespace Go.Proofs.YtophgbjbinaekaaDoor
open Go.RowKit

set_option maxRecDepth 100000 in
theorem factMake : (Tryd.prog.make == some Make.cut) = true := by kernel_rfl
end Go.Proofs.YtophgbjbinaekaaDoor
