/- impl.bus.mem: the memory that the devices hold. Written by gen_busmem.py. -/
import Derived.Test.YtcchhbkbnbphhaaDoorM5
import Derived.Test.YtcchhbkbnbphhaaDoorChipFlash
namespace Go.Proofs.YtcchhbkbnbphhaaDoor
open Go.RowKit

def YV5 (b : Nat) (W : World) (j : Nat) : Value := (W.cell? ⟨b, j, none⟩).getD undef
theorem YV5.of {b : Nat} {W : World} {t : TypeId} {cs : Array Value} (h : Box W b t cs) (hs : cs.size = 5) (j : Nat) (hj : j < 5) : W.cell? ⟨b, j, none⟩ = some (YV5 b W j) := by
  have := h.cell j (Array.getElem?_eq_getElem (by omega : j < cs.size))
  unfold YV5; rw [this]; rfl
theorem arr5 (T : Array Value) (h : T.size = 5) : ∃ t0 t1 t2 t3 t4 : Value, T = #[t0, t1, t2, t3, t4] := by
  obtain ⟨l⟩ := T
  match l, h with
  | [t0, t1, t2, t3, t4], _ => exact ⟨t0, t1, t2, t3, t4, rfl⟩
theorem Box.all5 {w : World} {b : Nat} {t : TypeId} {cs : Array Value} (X : Box w b t cs) (hs : cs.size = 5) (u0 u1 u2 u3 u4 : Value) :
    Box (((((w.setCell ⟨b, 0, none⟩ u0).setCell ⟨b, 1, none⟩ u1).setCell ⟨b, 2, none⟩ u2).setCell ⟨b, 3, none⟩ u3).setCell ⟨b, 4, none⟩ u4) b t #[u0, u1, u2, u3, u4] := by
  have := ((((X.set 0 u0).set 1 u1).set 2 u2).set 3 u3).set 4 u4
  obtain ⟨t0, t1, t2, t3, t4, rfl⟩ := arr5 cs hs
  exact this
def RM (W0 : World) (m : Nat) (W : World) : Prop := Below (m + 1) W0 W ∧ W0.heap.size ≤ W.heap.size ∧ ∃ cs : Array Value, cs.size = 5 ∧ Box W (m + 1) 46 cs
theorem RM.le {W0 W : World} {m : Nat} (h : RM W0 m W) : m + 1 ≤ W.heap.size := by
  obtain ⟨a, q, cs, hs, b⟩ := h
  exact Nat.le_of_lt b.lt
theorem RM.alloc {W0 W : World} {m : Nat} (h : RM W0 m W) (o : Obj) : RM W0 m (W.alloc o) := by
  have hl := h.le
  obtain ⟨a, q, cs, hs, b⟩ := h
  exact ⟨a.trans ((alloc_below W o).mono hl), by simp; omega, cs, hs, b.alloc o⟩
theorem RM.step {W0 W W' : World} {m : Nat} (h : RM W0 m W) (k : Below W.heap.size W W') : RM W0 m W' := by
  have hl := h.le
  obtain ⟨a, q, cs, hs, b⟩ := h
  exact ⟨a.trans (k.mono hl), Nat.le_trans q k.size, cs, hs, b.step k⟩
theorem RM.set {W0 W : World} {m : Nat} (h : RM W0 m W) (j : Nat) (v : Value) : RM W0 m (W.setCell ⟨m + 1, j, none⟩ v) := by
  obtain ⟨a, q, cs, hs, b⟩ := h
  exact ⟨a.setCell (p := ⟨m + 1, j, none⟩) (Nat.le_refl _) v, by simpa [World.setCell] using q, _, by simpa using hs, b.set j v⟩
section
variable {M hs b0 b1 b2 : Nat} {s0 s1 : Value} {cs : List Value} {zs : List Int} {gs : List Bool} {st : Int} {w w' : World}
end

end Go.Proofs.YtcchhbkbnbphhaaDoor
