/- The model's l05Get, l05Put, l05Own, BusGet and BusPut. Written by gen_busspec.py. -/
import Derived.Test.YtophgbjbinaekaaDoorM8
import Derived.Test.YtophgbjbinaekaaDoorBusWrite
namespace Go.Proofs.YtophgbjbinaekaaDoor
open Go.RowKit

section
variable (A0 A1 A2 A3 : Option Addr) (c0 c1 c2 c3 : Nat) (d0 d1 d2 : List Int) (d3 : List Bool) (d4 : Int) (w : World)
end
end Go.Proofs.YtophgbjbinaekaaDoor
