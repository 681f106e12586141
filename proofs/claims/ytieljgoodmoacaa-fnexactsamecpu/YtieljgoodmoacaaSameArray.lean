/- Contracts of l04Same and both SameArray. -/
import Derived.Test.YtieljgoodmoacaaSameFlash
namespace Go.Proofs.Ytieljgoodmoacaa
open Go.RowKit

/-- What SameArray answers. -/
def sameArrC (zs zs' : List Int) (gs gs' : List Bool) (st st' : Int) : Bool × Int := if okFlash zs gs st && okFlash zs' gs' st' then (sameArr zs zs' gs gs', 0) else (false, 1)

end Go.Proofs.Ytieljgoodmoacaa
