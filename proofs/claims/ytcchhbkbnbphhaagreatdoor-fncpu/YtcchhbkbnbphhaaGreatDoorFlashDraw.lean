/- What the model draws of a flash: size, a bus cycle. -/
import Derived.Test.YtcchhbkbnbphhaaGreatDoorBusWrite
import Derived.Test.YtcchhbkbnbphhaaGreatDoorM6
import Derived.Test.YtcchhbkbnbphhaaGreatDoorM5
import Derived.Deep.RegionWith
namespace Go.Proofs.YtcchhbkbnbphhaaGreatDoor
open Go.RowKit


structure FK (lo R D : Nat) (A : Option Addr) (c : Nat) (C : Option Addr) (d : Nat) (st : Int) (zs : List Int) (gs : List Bool) (w : World) : Prop where
  x : Box w D 29 #[.slice A 256 c, .slice C 16 d, .int .i64 st]
  y : Box w R 29 #[.slice none 0 0, .slice none 0 0, .int .i64 0]
  s : OwnI w lo w.heap.size A zs
  r : OwnB w lo w.heap.size C gs
theorem FK.btw {lo b R D : Nat} {A : Option Addr} {c : Nat} {C : Option Addr} {d : Nat} {st : Int} {zs : List Int} {gs : List Bool} {w w' : World} (h : FK lo R D A c C d st zs gs w) (hb : Btw b (b + 1) w w') (h1 : b < lo) (h2 : lo ≤ R) (h3 : lo ≤ D) : FK lo R D A c C d st zs gs w' :=
  ⟨h.x.btw hb (.inr (by omega)), h.y.btw hb (.inr (by omega)), (h.s.btw hb (.inr (by omega))).wideB (Nat.le_refl _) hb.size, (h.r.btw hb (.inr (by omega))).wide (Nat.le_refl _) hb.size⟩
theorem FK.step {lo R D : Nat} {A : Option Addr} {c : Nat} {C : Option Addr} {d : Nat} {st : Int} {zs : List Int} {gs : List Bool} {w w' : World} (h : FK lo R D A c C d st zs gs w) (hb : Below w.heap.size w w') : FK lo R D A c C d st zs gs w' :=
  ⟨h.x.step hb, h.y.step hb, (h.s.btw (Btw.of_below hb 0 0) (.inr (Nat.zero_le _))).wideB (Nat.le_refl _) hb.size, (h.r.btw (Btw.of_below hb 0 0) (.inr (Nat.zero_le _))).wide (Nat.le_refl _) hb.size⟩
theorem FK.store {lo R D : Nat} {A : Option Addr} {c : Nat} {C : Option Addr} {d : Nat} {st : Int} {zs : List Int} {gs : List Bool} {w : World} (h : FK lo R D A c C d st zs gs w) (hne : R ≠ D) {A2 : Option Addr} {c2 : Nat} {C2 : Option Addr} {d2 : Nat} {st2 : Int} {zs2 : List Int} {gs2 : List Bool} (S2 : OwnI w lo w.heap.size A2 zs2) (R2 : OwnB w lo w.heap.size C2 gs2) :
    FK lo R D A2 c2 C2 d2 st2 zs2 gs2 (((w.setCell ⟨D, 0, none⟩ (.slice A2 256 c2)).setCell ⟨D, 1, none⟩ (.slice C2 16 d2)).setCell ⟨D, 2, none⟩ (.int .i64 st2)) :=
  ⟨h.x.flash3 rfl _ _ _, h.y.far3 hne _ _ _, by rw [size3]; exact S2.far3 h.x _ _ _, by rw [size3]; exact R2.far3 h.x _ _ _⟩
theorem btw_below {lo hi B : Nat} {w w1 w2 : World} (h : Btw lo hi w w1) (hb : Below B w1 w2) (hB : w.heap.size ≤ B) : Btw lo hi w w2 :=
  ⟨hb.os.trans h.os, hb.tape.trans h.tape, hb.output.trans h.output, Nat.le_trans h.size hb.size, fun k hk ho => (hb.block k (Nat.lt_of_lt_of_le hk hB)).trans (h.block k hk ho)⟩
end Go.Proofs.YtcchhbkbnbphhaaGreatDoor
