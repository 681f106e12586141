/- A disk of the call's own behind a box: kept over what is new, and over writes elsewhere. -/
import Derived.Test.YtagdclbpgkilgaaMark
namespace Go.Proofs.Ytagdclbpgkilgaa
open Go.RowKit

section
variable {w w' : World} {b lo hi : Nat} {A : Option Addr} {n c : Nat} {C : Option Addr} {m d : Nat} {ss : List ByteArray} {ws : List (Int × ByteArray)}
end
theorem alloc_below (w : World) (o : Obj) : Below w.heap.size w (w.alloc o) := (Below.refl _ _).alloc (Nat.le_refl _) o
end Go.Proofs.Ytagdclbpgkilgaa
