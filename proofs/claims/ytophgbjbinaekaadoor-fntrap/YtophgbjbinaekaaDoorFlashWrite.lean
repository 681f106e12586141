/- The model's bus cycle: l03Third, l03Write, BusWrite. -/
import Derived.Test.YtophgbjbinaekaaDoorCycleOf
import Derived.Test.YtophgbjbinaekaaDoorM2
namespace Go.Proofs.YtophgbjbinaekaaDoor
open Go.RowKit

structure Tests (k v : Nat) (b1 b2 b3 b4 : Bool) : Prop where
  t1 : ((k : Int) == 85) = b1
  t2 : ((v : Int) == 170) = b2
  t3 : ((k : Int) == 42) = b3
  t4 : ((v : Int) == 85) = b4

end Go.Proofs.YtophgbjbinaekaaDoor
