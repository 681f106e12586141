/- Texts of this claim, one behind the other: ProcP1. -/
import Derived.Test.YtcchhbkbnbphhaaGreatDoorProcZ
import Derived.StillTailTactics
import Derived.Test.YtcchhbkbnbphhaaGreatDoorM10
/- perform: the composite of the 23 instructions' methods, and the call of one. Written by gen_procp.py. -/
namespace Go.Proofs.YtcchhbkbnbphhaaGreatDoor
open Go.RowKit

theorem run_store_func {P : Program} {w : World} {a : Addr} (f : Fn) (b l : Array Value) (m : Mode) : (store a (.func f b l) m).run P w = stored P w a (.func f b l) m := run_store P w a _ m rfl
def BoxN (W : World) (b : Nat) (t : TypeId) (n : Nat) : Prop := ∃ cs, Box W b t cs ∧ cs.size = n
theorem BoxN.set {W : World} {b : Nat} {t : TypeId} {n : Nat} (h : BoxN W b t n) (i : Nat) (v : Value) : BoxN (W.setCell ⟨b, i, none⟩ v) b t n := by
  obtain ⟨cs, X, e⟩ := h
  exact ⟨_, X.set i v, by rw [Array.size_setIfInBounds]; exact e⟩
theorem store_step {P : Program} {W : World} {b : Nat} {t : TypeId} {n : Nat} (h : BoxN W b t n) {i : Nat} (hi : i < n) (f : Fn) (x l : Array Value) : (store ⟨b, i, none⟩ (.func f x l)).run P W = .ok () (W.setCell ⟨b, i, none⟩ (.func f x l)) := by
  obtain ⟨cs, X, e⟩ := h
  have c := X.cell i (v := cs[i]'(by omega)) (by simp)
  have z := X.frozen i
  rw [run_store_func]
  simp [stored, c, z]
theorem chain_step {P : Program} {W : World} {b : Nat} {t : TypeId} {n : Nat} (h : BoxN W b t n) {i : Nat} (hi : i < n) {f : Fn} {x l : Array Value} {β : Type} {k : Unit → World → Result β} : ((store ⟨b, i, none⟩ (.func f x l)).run P W).andThen k = k () (W.setCell ⟨b, i, none⟩ (.func f x l)) := by
  rw [store_step h hi]; rfl
theorem upon_ex {β : Type} {Q : Result β → Prop} {R : Result β} {v : β} {Good : World → Prop} (h : ∃ wB, R = .ok v wB ∧ Good wB) (k : ∀ wB, Good wB → Q (.ok v wB)) : Q R := by
  obtain ⟨wB, rfl, g⟩ := h
  exact k wB g
def GClo (p k : Nat) (w : World) (e : Ending) (w' : World) : Prop := ∃ f q, e = .returned (.func (.func 122) #[] #[.pointer (some ⟨f, 0, none⟩), .pointer (some ⟨q, 0, none⟩)]) ∧ Hid (Below w.heap.size w w') ∧ Hid (Box w' f 118 #[.func (.func k) #[] #[]]) ∧ Hid (Box w' q 49 #[.pointer (some ⟨p, 0, none⟩)])
set_option maxRecDepth 100000 in
theorem prCombines (p k : Nat) (w : World) : Calls Tryz.prog 93 #[.pointer (some ⟨p, 0, none⟩), .func (.func k) #[] #[]] w (GClo p k w) := by
  refine (prCombining p k w).mono ?_
  rintro e w' ⟨rfl, rfl⟩
  refine ⟨_, _, rfl, Lib.hid (bt (alloc_below _ _) (alloc_below _ _)), Lib.hid ?_, Lib.hid ?_⟩
  · have := Box.new (w.alloc (.cells #[.pointer (some ⟨p, 0, none⟩)] 49)) 118 #[.func (.func k) #[] #[]]
    simpa using this
  · exact (Box.new _ _ _).step (alloc_below _ _)
theorem setA23 (z u0 u1 u2 u3 u4 u5 u6 u7 u8 u9 u10 u11 u12 u13 u14 u15 u16 u17 u18 u19 u20 u21 u22 : Value) : (((((((((((((((((((((((#[z, z, z, z, z, z, z, z, z, z, z, z, z, z, z, z, z, z, z, z, z, z, z].setIfInBounds 0 u0).setIfInBounds 1 u1).setIfInBounds 2 u2).setIfInBounds 3 u3).setIfInBounds 4 u4).setIfInBounds 5 u5).setIfInBounds 6 u6).setIfInBounds 7 u7).setIfInBounds 8 u8).setIfInBounds 9 u9).setIfInBounds 10 u10).setIfInBounds 11 u11).setIfInBounds 12 u12).setIfInBounds 13 u13).setIfInBounds 14 u14).setIfInBounds 15 u15).setIfInBounds 16 u16).setIfInBounds 17 u17).setIfInBounds 18 u18).setIfInBounds 19 u19).setIfInBounds 20 u20).setIfInBounds 21 u21).setIfInBounds 22 u22) = #[u0, u1, u2, u3, u4, u5, u6, u7, u8, u9, u10, u11, u12, u13, u14, u15, u16, u17, u18, u19, u20, u21, u22] := by kernel_rfl
theorem Box.all23 {w : World} {b : Nat} {t : TypeId} {z : Value} (X : Box w b t #[z, z, z, z, z, z, z, z, z, z, z, z, z, z, z, z, z, z, z, z, z, z, z]) (u0 u1 u2 u3 u4 u5 u6 u7 u8 u9 u10 u11 u12 u13 u14 u15 u16 u17 u18 u19 u20 u21 u22 : Value) : Box (((((((((((((((((((((((w.setCell ⟨b, 0, none⟩ u0).setCell ⟨b, 1, none⟩ u1).setCell ⟨b, 2, none⟩ u2).setCell ⟨b, 3, none⟩ u3).setCell ⟨b, 4, none⟩ u4).setCell ⟨b, 5, none⟩ u5).setCell ⟨b, 6, none⟩ u6).setCell ⟨b, 7, none⟩ u7).setCell ⟨b, 8, none⟩ u8).setCell ⟨b, 9, none⟩ u9).setCell ⟨b, 10, none⟩ u10).setCell ⟨b, 11, none⟩ u11).setCell ⟨b, 12, none⟩ u12).setCell ⟨b, 13, none⟩ u13).setCell ⟨b, 14, none⟩ u14).setCell ⟨b, 15, none⟩ u15).setCell ⟨b, 16, none⟩ u16).setCell ⟨b, 17, none⟩ u17).setCell ⟨b, 18, none⟩ u18).setCell ⟨b, 19, none⟩ u19).setCell ⟨b, 20, none⟩ u20).setCell ⟨b, 21, none⟩ u21).setCell ⟨b, 22, none⟩ u22) b t #[u0, u1, u2, u3, u4, u5, u6, u7, u8, u9, u10, u11, u12, u13, u14, u15, u16, u17, u18, u19, u20, u21, u22] ∧ Below b w (((((((((((((((((((((((w.setCell ⟨b, 0, none⟩ u0).setCell ⟨b, 1, none⟩ u1).setCell ⟨b, 2, none⟩ u2).setCell ⟨b, 3, none⟩ u3).setCell ⟨b, 4, none⟩ u4).setCell ⟨b, 5, none⟩ u5).setCell ⟨b, 6, none⟩ u6).setCell ⟨b, 7, none⟩ u7).setCell ⟨b, 8, none⟩ u8).setCell ⟨b, 9, none⟩ u9).setCell ⟨b, 10, none⟩ u10).setCell ⟨b, 11, none⟩ u11).setCell ⟨b, 12, none⟩ u12).setCell ⟨b, 13, none⟩ u13).setCell ⟨b, 14, none⟩ u14).setCell ⟨b, 15, none⟩ u15).setCell ⟨b, 16, none⟩ u16).setCell ⟨b, 17, none⟩ u17).setCell ⟨b, 18, none⟩ u18).setCell ⟨b, 19, none⟩ u19).setCell ⟨b, 20, none⟩ u20).setCell ⟨b, 21, none⟩ u21).setCell ⟨b, 22, none⟩ u22) := by
  constructor
  · have Y := (((((((((((((((((((((((X.set 0 u0).set 1 u1).set 2 u2).set 3 u3).set 4 u4).set 5 u5).set 6 u6).set 7 u7).set 8 u8).set 9 u9).set 10 u10).set 11 u11).set 12 u12).set 13 u13).set 14 u14).set 15 u15).set 16 u16).set 17 u17).set 18 u18).set 19 u19).set 20 u20).set 21 u21).set 22 u22)
    rw [setA23] at Y
    exact Y
  · exact ((((((((((((((((((((((((Below.refl _ _).setCell (p := ⟨b, 0, none⟩) (Nat.le_refl _) _).setCell (p := ⟨b, 1, none⟩) (Nat.le_refl _) _).setCell (p := ⟨b, 2, none⟩) (Nat.le_refl _) _).setCell (p := ⟨b, 3, none⟩) (Nat.le_refl _) _).setCell (p := ⟨b, 4, none⟩) (Nat.le_refl _) _).setCell (p := ⟨b, 5, none⟩) (Nat.le_refl _) _).setCell (p := ⟨b, 6, none⟩) (Nat.le_refl _) _).setCell (p := ⟨b, 7, none⟩) (Nat.le_refl _) _).setCell (p := ⟨b, 8, none⟩) (Nat.le_refl _) _).setCell (p := ⟨b, 9, none⟩) (Nat.le_refl _) _).setCell (p := ⟨b, 10, none⟩) (Nat.le_refl _) _).setCell (p := ⟨b, 11, none⟩) (Nat.le_refl _) _).setCell (p := ⟨b, 12, none⟩) (Nat.le_refl _) _).setCell (p := ⟨b, 13, none⟩) (Nat.le_refl _) _).setCell (p := ⟨b, 14, none⟩) (Nat.le_refl _) _).setCell (p := ⟨b, 15, none⟩) (Nat.le_refl _) _).setCell (p := ⟨b, 16, none⟩) (Nat.le_refl _) _).setCell (p := ⟨b, 17, none⟩) (Nat.le_refl _) _).setCell (p := ⟨b, 18, none⟩) (Nat.le_refl _) _).setCell (p := ⟨b, 19, none⟩) (Nat.le_refl _) _).setCell (p := ⟨b, 20, none⟩) (Nat.le_refl _) _).setCell (p := ⟨b, 21, none⟩) (Nat.le_refl _) _).setCell (p := ⟨b, 22, none⟩) (Nat.le_refl _) _)
end Go.Proofs.YtcchhbkbnbphhaaGreatDoor
