/- Texts of this claim, one behind the other: MemApi. -/
import Derived.Test.YtcchhbkbnbphhaaDoorMemOwn
import Derived.Test.YtcchhbkbnbphhaaDoorM7
/- SameMem on both sides; the memory bus's functions on leaves. Written by a script (gen_memapi.py). -/
namespace Go.Proofs.YtcchhbkbnbphhaaDoor
open Go.RowKit

section
variable (A0 A1 A2 A3 : Option Addr) (n0 n1 n2 n3 c0 c1 c2 c3 : Nat) (d0 d1 d2 : List Int) (d3 : List Bool) (d4 : Int) (B0 B1 B2 B3 : Option Addr) (m0 m1 m2 m3 e0 e1 e2 e3 : Nat) (g0 g1 g2 : List Int) (g3 : List Bool) (g4 : Int) (w : World)
end

section
variable (A0 A1 A2 A3 : Option Addr) (c0 c1 c2 c3 : Nat) (d0 d1 d2 : List Int) (d3 : List Bool) (d4 : Int) (w : World)
end
section
variable (A0 A1 A2 A3 : Option Addr) (c0 c1 c2 c3 : Nat) (d0 d1 d2 : List Int) (d3 : List Bool) (d4 : Int) (a : Int) (w : World)
end
section
variable (A0 A1 A2 A3 : Option Addr) (c0 c1 c2 c3 : Nat) (d0 d1 d2 : List Int) (d3 : List Bool) (d4 : Int) (a v : Int) (w : World)
end
section
variable (A0 A1 A2 A3 : Option Addr) (c0 c1 c2 c3 : Nat) (d0 d1 d2 : List Int) (d3 : List Bool) (d4 : Int) (B0 B1 B2 B3 : Option Addr) (e0 e1 e2 e3 : Nat) (g0 g1 g2 : List Int) (g3 : List Bool) (g4 : Int) (w : World)
end
end Go.Proofs.YtcchhbkbnbphhaaDoor
