/- The model's StepCpu, whole. Written by gen_stepc.py. -/
import Derived.Test.YtcchhbkbnbphhaaGreatDoorM10
import Derived.Test.YtcchhbkbnbphhaaGreatDoorStep8
namespace Go.Proofs.YtcchhbkbnbphhaaGreatDoor
open Go.RowKit

end Go.Proofs.YtcchhbkbnbphhaaGreatDoor
