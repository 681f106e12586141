/- impl.Disk.plan: the writes of a commit. -/
import Derived.Test.YtcchhbkbnbphhaaM8
import Derived.Test.YtcchhbkbnbphhaaM9
import Derived.Test.YtcchhbkbnbphhaaM5
import Derived.Deep.RegionHeld3
namespace Go.Proofs.Ytcchhbkbnbphhaa
open Go.RowKit

end Go.Proofs.Ytcchhbkbnbphhaa
