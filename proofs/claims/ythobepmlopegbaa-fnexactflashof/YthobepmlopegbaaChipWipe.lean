/- Contracts of chip.wipe and chip.cycle. -/
import Derived.Test.YthobepmlopegbaaChipCycle
namespace Go.Proofs.Ythobepmlopegbaa
open Go.RowKit

end Go.Proofs.Ythobepmlopegbaa
