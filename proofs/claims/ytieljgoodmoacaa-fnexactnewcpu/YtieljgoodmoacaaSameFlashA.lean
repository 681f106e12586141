/- SameFlash and SameArray on leaves. -/
import Derived.Test.YtieljgoodmoacaaSameFlash
import Derived.Test.YtieljgoodmoacaaSameArray
import Derived.Test.YtieljgoodmoacaaGenFlash
namespace Go.Proofs.Ytieljgoodmoacaa
open Go.RowKit

section
variable (A0 A1 : Option Addr) (c0 c1 : Nat) (d0 : List Int) (d1 : List Bool) (d2 : Int) (B0 B1 : Option Addr) (e0 e1 : Nat) (g0 : List Int) (g1 : List Bool) (g2 : Int) (w : World)
end
end Go.Proofs.Ytieljgoodmoacaa
