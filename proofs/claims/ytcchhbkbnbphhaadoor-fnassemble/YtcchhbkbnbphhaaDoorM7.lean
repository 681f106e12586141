/- Texts of this claim, one behind the other: BusTop, BusApi, BusSpec. -/
import Derived.Test.YtcchhbkbnbphhaaDoorBusMem
import Derived.Test.YtcchhbkbnbphhaaDoorM6
/- impl.bus.read, impl.bus.write, impl.Mem.check, impl.BusGet, impl.BusPut, impl.MemOK. -/
namespace Go.Proofs.YtcchhbkbnbphhaaDoor
open Go.RowKit

section
variable (lo g b0 b1 b2 b3 : Nat) (A0 A1 : Option Addr) (c0 c1 : Nat) (ram io zs : List Int) (gs : List Bool) (st : Int) (w : World)
end
end Go.Proofs.YtcchhbkbnbphhaaDoor

/- impl.MemOK, impl.BusGet, impl.BusPut on leaves. -/
namespace Go.Proofs.YtcchhbkbnbphhaaDoor
open Go.RowKit

theorem ownA4 {w : World} {lo g h hi L R : Nat} {A0 A1 A2 A3 : Option Addr} {c0 c1 c2 c3 : Nat} {d0 d1 d2 : List Int} {d3 : List Bool} (a : OwnI w lo g A0 d0) (b : OwnI w g h A1 d1) (c : OwnI w h hi A2 d2) (d : OwnB w h hi A3 d3) (q0 : L ≤ lo) (q1 : lo ≤ g) (q2 : g ≤ h) (q3 : h ≤ hi) (q4 : hi ≤ R) :
    OwnA w L R [.slice A0 d0.length c0, .slice A1 d1.length c1, .slice A2 d2.length c2, .slice A3 d3.length c3] [.I d0, .I d1, .I d2, .B d3] :=
  OwnA.append (lo := L) (hi := h) (L := L) (R := R) (OwnA.append (lo := lo) (hi := g) (lo' := g) (hi' := h) (L := L) (R := h) (OwnA.one (d := .I d0) ⟨A0, c0, rfl, a⟩) (OwnA.one (d := .I d1) ⟨A1, c1, rfl, b⟩) (.inl (Nat.le_refl _)) q0 (by omega) q2 (Nat.le_refl _)) (ownIB c d) (.inl (Nat.le_refl _)) (Nat.le_refl _) (by omega) (by omega) q4
theorem ownA4_nil (w : World) (L R : Nat) (hq : L ≤ R) : OwnA w L R [.slice none 0 0, .slice none 0 0, .slice none 0 0, .slice none 0 0] [.I [], .I [], .I [], .B []] :=
  ownA4 (lo := L) (g := L) (h := L) (hi := L) (d0 := []) (d1 := []) (d2 := []) (d3 := []) (.inl rfl) (.inl rfl) (.inl rfl) (.inl rfl) (Nat.le_refl _) (Nat.le_refl _) (Nat.le_refl _) (Nat.le_refl _) hq

section
variable (A0 A1 A2 A3 : Option Addr) (n0 n1 n2 n3 c0 c1 c2 c3 : Nat) (d0 d1 d2 : List Int) (d3 : List Bool) (d4 : Int) (w : World)
set_option maxRecDepth 100000 in
theorem implMemOK (l0 : d0.length = n0) (l1 : d1.length = n1) (l2 : d2.length = n2) (l3 : d3.length = n3) (m0 : n0 ≤ maxLen) (m1 : n1 ≤ maxLen) (m2 : n2 ≤ maxLen) (m3 : n3 ≤ maxLen) (h0 : IntL w A0 d0) (h1 : IntL w A1 d1) (h2 : IntL w A2 d2) :
    Calls Tryd.prog 20 #[.agg #[.slice A0 n0 c0, .slice A1 n1 c1, .slice A2 n2 c2, .slice A3 n3 c3, .int .i64 d4]] w fun e w' => e = .returned (.bool (okMem d0 d1 d2 d3 d4)) ∧ Below w.heap.size w w' := by
  have hb0 := alloc_below w (.cells #[.slice A0 n0 c0, .slice A1 n1 c1, .slice A2 n2 c2, .slice A3 n3 c3, .int .i64 d4] 46)
  have HV := Lib.hid (memValid A0 A1 A2 A3 n0 n1 n2 n3 c0 c1 c2 c3 d0 d1 d2 d3 d4 _ l0 l1 l2 l3 m0 m1 m2 m3 (h0.below hb0) (h1.below hb0) (h2.below hb0))
  clear l0 l1 l2 l3 m0 m1 m2 m3 h0 h1 h2
  go_enter Tryd.func20, Tryd.ntmps20
  go_wp2_with fail
  refine HV.out.mono ?_
  rintro e w1 ⟨rfl, hb1⟩
  go_wp2
  go_ret
  exact ⟨rfl, bt hb0 hb1⟩
def GivesMemCode (r i zs : List Int) (gs : List Bool) (st code : Int) (w : World) (e : Ending) (w' : World) : Prop :=
  ∃ A0 A1 A2 A3 c0 c1 c2 c3, e = .returned (.tuple #[.agg #[.slice A0 r.length c0, .slice A1 i.length c1, .slice A2 zs.length c2, .slice A3 gs.length c3, .int .i64 st], .int .i64 code]) ∧ Hid (OwnA w' w.heap.size w'.heap.size [.slice A0 r.length c0, .slice A1 i.length c1, .slice A2 zs.length c2, .slice A3 gs.length c3] [.I r, .I i, .I zs, .B gs]) ∧ Below w.heap.size w w'
theorem below5 {w0 w : World} {b : Nat} (h : Below w0.heap.size w0 w) (hb : w0.heap.size ≤ b) (u0 u1 u2 u3 u4 : Value) : Below w0.heap.size w0 (((((w.setCell ⟨b, 0, none⟩ u0).setCell ⟨b, 1, none⟩ u1).setCell ⟨b, 2, none⟩ u2).setCell ⟨b, 3, none⟩ u3).setCell ⟨b, 4, none⟩ u4) :=
  ((((h.setCell (p := ⟨b, 0, none⟩) hb u0).setCell (p := ⟨b, 1, none⟩) hb u1).setCell (p := ⟨b, 2, none⟩) hb u2).setCell (p := ⟨b, 3, none⟩) hb u3).setCell (p := ⟨b, 4, none⟩) hb u4
theorem size5 (w : World) (b : Nat) (u0 u1 u2 u3 u4 : Value) : (((((w.setCell ⟨b, 0, none⟩ u0).setCell ⟨b, 1, none⟩ u1).setCell ⟨b, 2, none⟩ u2).setCell ⟨b, 3, none⟩ u3).setCell ⟨b, 4, none⟩ u4).heap.size = w.heap.size := by simp [World.setCell]

end
end Go.Proofs.YtcchhbkbnbphhaaDoor

/- The model's l05Get, l05Put, l05Own, BusGet and BusPut. Written by gen_busspec.py. -/
namespace Go.Proofs.YtcchhbkbnbphhaaDoor
open Go.RowKit

section
variable (A0 A1 A2 A3 : Option Addr) (c0 c1 c2 c3 : Nat) (d0 d1 d2 : List Int) (d3 : List Bool) (d4 : Int) (w : World)
end
end Go.Proofs.YtcchhbkbnbphhaaDoor
