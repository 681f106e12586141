/- The words of a text, the model's. Written by gen_wds4.py. -/
import Derived.Test.YtcchhbkbnbphhaaDoorWds3
namespace Go.Proofs.YtcchhbkbnbphhaaDoor
open Go.RowKit

end Go.Proofs.YtcchhbkbnbphhaaDoor
