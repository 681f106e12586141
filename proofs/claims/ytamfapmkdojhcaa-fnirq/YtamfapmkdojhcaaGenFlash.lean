/- The laws' own functions over Flash, on leaves. Written by gen_t.py. -/
import Derived.Test.YtamfapmkdojhcaaGenC
namespace Go.Proofs.Ytamfapmkdojhcaa
open Go.RowKit

end Go.Proofs.Ytamfapmkdojhcaa
