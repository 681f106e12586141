/- The laws' own functions over Channel, on leaves. Written by gen_t.py. -/
import Derived.Test.YtagdclbpgkilgaaGenC
namespace Go.Proofs.Ytagdclbpgkilgaa
open Go.RowKit

end Go.Proofs.Ytagdclbpgkilgaa
