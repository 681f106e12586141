/- The model's l05Own; BusGet and BusPut of the model. Written by gen_memown.py. -/
import Derived.Test.YtcchhbkbnbphhaaDoorM7
namespace Go.Proofs.YtcchhbkbnbphhaaDoor
open Go.RowKit

section
variable {M : Nat} {s0 s1 fl : Value} {d0 d1 d2 : List Int} {d3 : List Bool} {st : Int} {w w' : World}
end

section
variable (A0 A1 A2 A3 : Option Addr) (c0 c1 c2 c3 : Nat) (d0 d1 d2 : List Int) (d3 : List Bool) (d4 : Int) (w : World)
end

section
variable (A0 A1 A2 A3 : Option Addr) (n0 n1 n2 n3 c0 c1 c2 c3 : Nat) (d0 d1 d2 : List Int) (d3 : List Bool) (d4 : Int) (w : World)
end
end Go.Proofs.YtcchhbkbnbphhaaDoor
