/- Contracts of chip.wipe and chip.cycle. -/
import Derived.Test.YtamfapmkdojhcaaChipCycle
namespace Go.Proofs.Ytamfapmkdojhcaa
open Go.RowKit

end Go.Proofs.Ytamfapmkdojhcaa
