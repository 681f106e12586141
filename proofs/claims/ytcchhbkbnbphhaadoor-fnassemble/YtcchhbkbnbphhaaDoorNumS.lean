/- Numbers in their texts, the model's reader. Written by gen_nums.py. -/
import Derived.Test.YtcchhbkbnbphhaaDoorNum
import Derived.Deep.Cut
namespace Go.Proofs.YtcchhbkbnbphhaaDoor
open Go.RowKit
end Go.Proofs.YtcchhbkbnbphhaaDoor
