/- Closed facts of the program: its stops, its layout. -/
import Derived.Test.YtcchhbkbnbphhaaDoorRows
import Derived.ProofKit
import Derived.OpenShut
namespace Go.Proofs.YtcchhbkbnbphhaaDoor
open Go.RowKit

set_option maxRecDepth 100000 in
theorem factHeard : Tryd.prog.stopsHeard = true := by kernel_rfl
set_option maxRecDepth 100000 in
theorem factLaid : laidOutB Tryd.prog = true := by kernel_rfl
set_option maxRecDepth 100000 in
theorem factRowed : mapsRowed Tryd.prog = true := by kernel_rfl
theorem and_mk {a b : Bool} (h : a = true) (g : b = true) : (a && b) = true := by rw [h, g]; rfl
end Go.Proofs.YtcchhbkbnbphhaaDoor
