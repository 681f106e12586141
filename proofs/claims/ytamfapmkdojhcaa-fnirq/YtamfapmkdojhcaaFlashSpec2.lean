/- The model's l03Guard and l03Erase. -/
import Derived.Test.YtamfapmkdojhcaaFlashSpec
namespace Go.Proofs.Ytamfapmkdojhcaa
open Go.RowKit

end Go.Proofs.Ytamfapmkdojhcaa
