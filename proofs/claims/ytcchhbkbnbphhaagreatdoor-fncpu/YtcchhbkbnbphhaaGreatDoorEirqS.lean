/- The model's EnterIrq, whole. Written by gen_eirq.py. -/
import Derived.Test.YtcchhbkbnbphhaaGreatDoorCpuOk
import Derived.Test.YtcchhbkbnbphhaaGreatDoorCpuSpec2
import Derived.Deep.RegionHeld3
namespace Go.Proofs.YtcchhbkbnbphhaaGreatDoor
open Go.RowKit

def zCD : CD := ⟨0, 0, 0, 0, false, false, false, false, []⟩
def zMD : MD := ⟨[], [], [], [], 0⟩
theorem ownA5_nil (w : World) (L R : Nat) (hq : L ≤ R) : OwnA w L R [.slice none 0 0, .slice none 0 0, .slice none 0 0, .slice none 0 0, .slice none 0 0] [.I [], .I [], .I [], .I [], .B []] :=
  OwnA.append (lo := L) (hi := L) (lo' := L) (hi' := R) (vs := [.slice none 0 0]) (ds := [.I []]) (OwnA.one (d := .I []) ⟨none, 0, rfl, .inl rfl⟩) (ownA4_nil w L R hq) (.inl (Nat.le_refl _)) (Nat.le_refl _) (Nat.le_refl _) hq (Nat.le_refl _)
end Go.Proofs.YtcchhbkbnbphhaaGreatDoor
