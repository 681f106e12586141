/- Reading a line, the model's. Written by gen_reads.py. -/
import Derived.Test.YtcchhbkbnbphhaaDoorRead
import Derived.Test.YtcchhbkbnbphhaaDoorWds4
import Derived.Test.YtcchhbkbnbphhaaDoorNumS
import Derived.Test.YtcchhbkbnbphhaaDoorM2
import Derived.Test.YtcchhbkbnbphhaaDoorM1
namespace Go.Proofs.YtcchhbkbnbphhaaDoor
open Go.RowKit

end Go.Proofs.YtcchhbkbnbphhaaDoor
