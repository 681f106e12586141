/- LengthOf, CyclesOf on both sides. -/
import Derived.Test.YtieljgoodmoacaaOpOk
namespace Go.Proofs.Ytieljgoodmoacaa
open Go.RowKit

def lenF (n : Int) : Int × Int := if rngB n 0 22 then (lenT n, 0) else (0, 4)
def cycF (n : Int) : Int × Int := if rngB n 0 22 then (cycT n, 0) else (0, 4)
theorem tup2 {a b c d : Int} (h : (a, b) = (c, d)) : Ending.returned (.tuple #[.int .i64 a, .int .i64 b]) = .returned (.tuple #[.int .i64 c, .int .i64 d]) := by
  injection h with h1 h2; rw [h1, h2]
section
variable (n : Int) (w : World)
end
end Go.Proofs.Ytieljgoodmoacaa
