/- ReadInstr, both sides. Written by gen_readi.py. -/
import Derived.Test.YtcchhbkbnbphhaaDoorReadS
namespace Go.Proofs.YtcchhbkbnbphhaaDoor
open Go.RowKit

end Go.Proofs.YtcchhbkbnbphhaaDoor
