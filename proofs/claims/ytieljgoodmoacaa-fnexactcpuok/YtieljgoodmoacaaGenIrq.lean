/- The laws' own functions over Irq, on leaves. Written by gen_t.py. -/
import Derived.Test.YtieljgoodmoacaaGenC
namespace Go.Proofs.Ytieljgoodmoacaa
open Go.RowKit

end Go.Proofs.Ytieljgoodmoacaa
