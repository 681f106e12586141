/- The model's l03Write, and BusWrite on both sides. -/
import Derived.Test.YtophgbjbinaekaaDoorFlashWrite3
import Derived.Test.YtophgbjbinaekaaDoorM2
namespace Go.Proofs.YtophgbjbinaekaaDoor
open Go.RowKit

theorem tests (k v : Nat) : Tests k v ((k : Int) == 85) ((v : Int) == 170) ((k : Int) == 42) ((v : Int) == 85) := ⟨rfl, rfl, rfl, rfl⟩

end Go.Proofs.YtophgbjbinaekaaDoor
