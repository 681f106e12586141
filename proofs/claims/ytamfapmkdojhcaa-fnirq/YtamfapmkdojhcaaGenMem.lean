/- The laws' own functions over Mem, on leaves. Written by gen_t.py. -/
import Derived.Test.YtamfapmkdojhcaaGenC
import Derived.Test.YtamfapmkdojhcaaGenFlash
namespace Go.Proofs.Ytamfapmkdojhcaa
open Go.RowKit

end Go.Proofs.Ytamfapmkdojhcaa
