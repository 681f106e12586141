/- A disk of the call's own behind a box: kept over what is new, and over writes elsewhere. -/
import Derived.Test.YtoaeofahknknhaaDoorMark
namespace Go.Proofs.YtoaeofahknknhaaDoor
open Go.RowKit

theorem alloc_below (w : World) (o : Obj) : Below w.heap.size w (w.alloc o) := (Below.refl _ _).alloc (Nat.le_refl _) o
end Go.Proofs.YtoaeofahknknhaaDoor
