/- impl.MemOK, impl.BusGet, impl.BusPut on leaves. -/
import Derived.Test.YtieljgoodmoacaaBusTop
namespace Go.Proofs.Ytieljgoodmoacaa
open Go.RowKit

/-- BusGet's answer. -/
def getF (r i zs : List Int) (gs : List Bool) (st a : Int) : Int × Int := if codeIf (okMem r i zs gs st) (adB a) = 0 then (getV r i zs gs readV st a, 0) else (0, codeIf (okMem r i zs gs st) (adB a))
/-- BusPut's answer. -/
def putF (r i zs : List Int) (gs : List Bool) (st a v : Int) : List Int × List Int × List Int × List Bool × Int × Int :=
  if codeIf (okMem r i zs gs st) (adB a && byB v) = 0 then (putR r a v, putI i a v, putZ zs gs st a v, putG gs st a, putS st a v, 0) else ([], [], [], [], 0, codeIf (okMem r i zs gs st) (adB a && byB v))
theorem codeIf0 {a b : Bool} (h : codeIf a b = 0) : a = true ∧ b = true := by unfold codeIf at h; cases a <;> cases b <;> simp_all
theorem ownA4 {w : World} {lo g h hi L R : Nat} {A0 A1 A2 A3 : Option Addr} {c0 c1 c2 c3 : Nat} {d0 d1 d2 : List Int} {d3 : List Bool} (a : OwnI w lo g A0 d0) (b : OwnI w g h A1 d1) (c : OwnI w h hi A2 d2) (d : OwnB w h hi A3 d3) (q0 : L ≤ lo) (q1 : lo ≤ g) (q2 : g ≤ h) (q3 : h ≤ hi) (q4 : hi ≤ R) :
    OwnA w L R [.slice A0 d0.length c0, .slice A1 d1.length c1, .slice A2 d2.length c2, .slice A3 d3.length c3] [.I d0, .I d1, .I d2, .B d3] :=
  OwnA.append (lo := L) (hi := h) (L := L) (R := R) (OwnA.append (lo := lo) (hi := g) (lo' := g) (hi' := h) (L := L) (R := h) (OwnA.one (d := .I d0) ⟨A0, c0, rfl, a⟩) (OwnA.one (d := .I d1) ⟨A1, c1, rfl, b⟩) (.inl (Nat.le_refl _)) q0 (by omega) q2 (Nat.le_refl _)) (ownIB c d) (.inl (Nat.le_refl _)) (Nat.le_refl _) (by omega) (by omega) q4
theorem ownA4_nil (w : World) (L R : Nat) (hq : L ≤ R) : OwnA w L R [.slice none 0 0, .slice none 0 0, .slice none 0 0, .slice none 0 0] [.I [], .I [], .I [], .B []] :=
  ownA4 (lo := L) (g := L) (h := L) (hi := L) (d0 := []) (d1 := []) (d2 := []) (d3 := []) (.inl rfl) (.inl rfl) (.inl rfl) (.inl rfl) (Nat.le_refl _) (Nat.le_refl _) (Nat.le_refl _) (Nat.le_refl _) hq

section
variable (A0 A1 A2 A3 : Option Addr) (n0 n1 n2 n3 c0 c1 c2 c3 : Nat) (d0 d1 d2 : List Int) (d3 : List Bool) (d4 : Int) (w : World)
/-- A memory of the call's own, and a code. -/
def GivesMemCode (r i zs : List Int) (gs : List Bool) (st code : Int) (w : World) (e : Ending) (w' : World) : Prop :=
  ∃ A0 A1 A2 A3 c0 c1 c2 c3, e = .returned (.tuple #[.agg #[.slice A0 r.length c0, .slice A1 i.length c1, .slice A2 zs.length c2, .slice A3 gs.length c3, .int .i64 st], .int .i64 code]) ∧ Hid (OwnA w' w.heap.size w'.heap.size [.slice A0 r.length c0, .slice A1 i.length c1, .slice A2 zs.length c2, .slice A3 gs.length c3] [.I r, .I i, .I zs, .B gs]) ∧ Below w.heap.size w w'
theorem OwnI.far5 {w : World} {lo hi : Nat} {A : Option Addr} {zs : List Int} (h : OwnI w lo hi A zs) {b : Nat} {cs : Array Value} (X : Box w b 45 cs) (u0 u1 u2 u3 u4 : Value) : OwnI (((((w.setCell ⟨b, 0, none⟩ u0).setCell ⟨b, 1, none⟩ u1).setCell ⟨b, 2, none⟩ u2).setCell ⟨b, 3, none⟩ u3).setCell ⟨b, 4, none⟩ u4) lo hi A zs :=
  ((((h.farB X (by decide) 0 u0).farB (X.set 0 u0) (by decide) 1 u1).farB ((X.set 0 u0).set 1 u1) (by decide) 2 u2).farB (((X.set 0 u0).set 1 u1).set 2 u2) (by decide) 3 u3).farB ((((X.set 0 u0).set 1 u1).set 2 u2).set 3 u3) (by decide) 4 u4
theorem OwnB.far5 {w : World} {lo hi : Nat} {A : Option Addr} {gs : List Bool} (h : OwnB w lo hi A gs) {b : Nat} {cs : Array Value} (X : Box w b 45 cs) (u0 u1 u2 u3 u4 : Value) : OwnB (((((w.setCell ⟨b, 0, none⟩ u0).setCell ⟨b, 1, none⟩ u1).setCell ⟨b, 2, none⟩ u2).setCell ⟨b, 3, none⟩ u3).setCell ⟨b, 4, none⟩ u4) lo hi A gs :=
  ((((h.far X (by decide) 0 u0).far (X.set 0 u0) (by decide) 1 u1).far ((X.set 0 u0).set 1 u1) (by decide) 2 u2).far (((X.set 0 u0).set 1 u1).set 2 u2) (by decide) 3 u3).far ((((X.set 0 u0).set 1 u1).set 2 u2).set 3 u3) (by decide) 4 u4
theorem below5 {w0 w : World} {b : Nat} (h : Below w0.heap.size w0 w) (hb : w0.heap.size ≤ b) (u0 u1 u2 u3 u4 : Value) : Below w0.heap.size w0 (((((w.setCell ⟨b, 0, none⟩ u0).setCell ⟨b, 1, none⟩ u1).setCell ⟨b, 2, none⟩ u2).setCell ⟨b, 3, none⟩ u3).setCell ⟨b, 4, none⟩ u4) :=
  ((((h.setCell (p := ⟨b, 0, none⟩) hb u0).setCell (p := ⟨b, 1, none⟩) hb u1).setCell (p := ⟨b, 2, none⟩) hb u2).setCell (p := ⟨b, 3, none⟩) hb u3).setCell (p := ⟨b, 4, none⟩) hb u4
theorem size5 (w : World) (b : Nat) (u0 u1 u2 u3 u4 : Value) : (((((w.setCell ⟨b, 0, none⟩ u0).setCell ⟨b, 1, none⟩ u1).setCell ⟨b, 2, none⟩ u2).setCell ⟨b, 3, none⟩ u3).setCell ⟨b, 4, none⟩ u4).heap.size = w.heap.size := by simp [World.setCell]

end
end Go.Proofs.Ytieljgoodmoacaa
