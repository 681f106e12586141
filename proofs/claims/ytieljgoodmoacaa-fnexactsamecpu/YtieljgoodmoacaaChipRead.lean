/- The chip's identify and read; BusRead by way of the chip. -/
import Derived.Test.YtieljgoodmoacaaBusRead
import Derived.Test.YtieljgoodmoacaaChipFlash
import Derived.Test.YtieljgoodmoacaaChipWipe
namespace Go.Proofs.Ytieljgoodmoacaa
open Go.RowKit

end Go.Proofs.Ytieljgoodmoacaa
