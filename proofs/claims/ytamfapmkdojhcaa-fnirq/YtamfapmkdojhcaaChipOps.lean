/- Contracts of chip.protect, chip.program, chip.erase. -/
import Derived.Test.YtamfapmkdojhcaaChip
namespace Go.Proofs.Ytamfapmkdojhcaa
open Go.RowKit

/-- The call hands back this chip. -/
def GivesChip (zs : List Int) (gs : List Bool) (st : Int) (w : World) (e : Ending) (w' : World) : Prop := e = .returned (.agg (chipC zs gs st).toArray) ∧ Below w.heap.size w w'

end Go.Proofs.Ytamfapmkdojhcaa
