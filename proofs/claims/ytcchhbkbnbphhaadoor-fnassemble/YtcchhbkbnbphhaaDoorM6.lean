/- Texts of this claim, one behind the other: BusWrite. -/
import Derived.Test.YtcchhbkbnbphhaaDoorM5
/- The model's l03Write, and BusWrite on both sides. -/
namespace Go.Proofs.YtcchhbkbnbphhaaDoor
open Go.RowKit

theorem tests (k v : Nat) : Tests k v ((k : Int) == 85) ((v : Int) == 170) ((k : Int) == 42) ((v : Int) == 85) := ⟨rfl, rfl, rfl, rfl⟩

end Go.Proofs.YtcchhbkbnbphhaaDoor
