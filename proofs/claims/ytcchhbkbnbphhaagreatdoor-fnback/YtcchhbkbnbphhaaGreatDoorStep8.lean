/- The model's step of a processor. Written by gen_step8.py. -/
import Derived.Test.YtcchhbkbnbphhaaGreatDoorM10
import Derived.Test.YtcchhbkbnbphhaaGreatDoorCpuStep
import Derived.Deep.CutBlock
import Derived.Test.YtcchhbkbnbphhaaGreatDoorM4
import Derived.Test.YtcchhbkbnbphhaaGreatDoorM8
namespace Go.Proofs.YtcchhbkbnbphhaaGreatDoor
open Go.RowKit
section
variable {bt bx : Nat} {A A0 A1 A2 A3 : Option Addr} {c c0 c1 c2 c3 : Nat} {dn : CD} {m : MD} {x1 x2 v : Int} {d2 : CD} {w w' : World}
end
section
variable {bt bx : Nat} {A A0 A1 A2 A3 : Option Addr} {c c0 c1 c2 c3 : Nat} {dn : CD} {m : MD} {x1 x2 v : Int} {m2 : MD} {w w' : World}
end

end Go.Proofs.YtcchhbkbnbphhaaGreatDoor
