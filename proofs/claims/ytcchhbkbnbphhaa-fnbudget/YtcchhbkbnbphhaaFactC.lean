/- Closed facts of the program: its stops, its layout. -/
import Derived.Test.YtcchhbkbnbphhaaRows
import Derived.ProofKit
import Derived.OpenShut
namespace Go.Proofs.Ytcchhbkbnbphhaa
open Go.RowKit

set_option maxRecDepth 100000 in
theorem factHeard : Try.prog.stopsHeard = true := by kernel_rfl
set_option maxRecDepth 100000 in
theorem factLaid : laidOutB Try.prog = true := by kernel_rfl
set_option maxRecDepth 100000 in
theorem factRowed : mapsRowed Try.prog = true := by kernel_rfl
theorem and_mk {a b : Bool} (h : a = true) (g : b = true) : (a && b) = true := by rw [h, g]; rfl
end Go.Proofs.Ytcchhbkbnbphhaa
