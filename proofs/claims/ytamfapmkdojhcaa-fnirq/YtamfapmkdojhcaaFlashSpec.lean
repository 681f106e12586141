/- The model's own copy of a flash, and what it does to one: l03Own, l03Program, l03Erase, l03Guard. -/
import Derived.Test.YtamfapmkdojhcaaFlashBits
import Derived.Test.YtamfapmkdojhcaaAppNew
import Derived.Test.YtamfapmkdojhcaaApp
namespace Go.Proofs.Ytamfapmkdojhcaa
open Go.RowKit

theorem ext_getD {α : Type} (d : α) {l m : List α} (hl : l.length = m.length) (h : ∀ i, i < l.length → l.getD i d = m.getD i d) : l = m := by
  apply List.ext_getElem hl
  intro i h1 h2
  have := h i h1
  rw [List.getD_eq_getElem?_getD, List.getD_eq_getElem?_getD, List.getElem?_eq_getElem h1, List.getElem?_eq_getElem h2] at this
  exact this
/-- The cells from a on and below b are 255. -/
def fillR (zs : List Int) (a b : Nat) : List Int := (List.range zs.length).map fun i => if a ≤ i ∧ i < b then 255 else zs.getD i 0
theorem fillR_len (zs : List Int) (a b : Nat) : (fillR zs a b).length = zs.length := by simp [fillR]
theorem fillR_at (zs : List Int) (a b i : Nat) (h : i < zs.length) : (fillR zs a b).getD i 0 = if a ≤ i ∧ i < b then 255 else zs.getD i 0 := by
  unfold fillR
  rw [List.getD_eq_getElem?_getD, List.getElem?_map, List.getElem?_range h]
  rfl
theorem fillR_none (zs : List Int) (a : Nat) : fillR zs a a = zs := by
  apply ext_getD 0 (fillR_len _ _ _)
  intro i hi
  rw [fillR_len] at hi
  rw [fillR_at _ _ _ _ hi, if_neg (by omega)]
theorem fillR_next (zs : List Int) (a b : Nat) (hab : a ≤ b) (hb : b < zs.length) : (fillR zs a b).set b 255 = fillR zs a (b + 1) := by
  apply ext_getD 0 (by simp [fillR_len])
  intro i hi
  have hi' : i < zs.length := by simpa [fillR_len] using hi
  rw [fillR_at _ _ _ _ hi']
  by_cases e : i = b
  · subst e
    rw [List.getD_eq_getElem?_getD, List.getElem?_set_self (by rw [fillR_len]; exact hb), if_pos ⟨hab, by omega⟩]
    rfl
  · rw [List.getD_eq_getElem?_getD, List.getElem?_set_ne (fun q => e q.symm), ← List.getD_eq_getElem?_getD, fillR_at _ _ _ _ hi']
    by_cases q : a ≤ i ∧ i < b
    · rw [if_pos q, if_pos (by omega)]
    · rw [if_neg q, if_neg (by omega)]
def progL (zs : List Int) (gs : List Bool) (k v : Nat) : List Int := if gs.getD (k / 16) false then zs else zs.set k (((zs.getD k 0).toNat &&& v : Nat) : Int)
def eraseL (zs : List Int) (gs : List Bool) (b : Nat) : List Int := if gs.getD b false then zs else fillR zs (b * 16) (b * 16 + 16)
theorem progL_len (zs : List Int) (gs : List Bool) (k v : Nat) : (progL zs gs k v).length = zs.length := by unfold progL; split <;> simp
theorem eraseL_len (zs : List Int) (gs : List Bool) (b : Nat) : (eraseL zs gs b).length = zs.length := by unfold eraseL; split <;> simp [fillR_len]

theorem at256 {zs : List Int} (h : ∀ z ∈ zs, 0 ≤ z ∧ z ≤ 255) (k : Nat) (hk : k < zs.length) : ∃ z : Nat, zs.getD k 0 = z ∧ z < 256 := by
  have := h (zs.getD k 0) (by rw [List.getD_eq_getElem?_getD, List.getElem?_eq_getElem hk]; exact List.getElem_mem _)
  exact ⟨(zs.getD k 0).toNat, by omega, by omega⟩

theorem Box.far3 {w : World} {b b' : Nat} {t : TypeId} {cs : Array Value} (X : Box w b t cs) (hb : b ≠ b') (u0 u1 u2 : Value) :
    Box (((w.setCell ⟨b', 0, none⟩ u0).setCell ⟨b', 1, none⟩ u1).setCell ⟨b', 2, none⟩ u2) b t cs := ((X.far (p := ⟨b', 0, none⟩) hb u0).far (p := ⟨b', 1, none⟩) hb u1).far (p := ⟨b', 2, none⟩) hb u2
theorem below3 {w0 w : World} {b : Nat} (h : Below w0.heap.size w0 w) (hb : w0.heap.size ≤ b) (u0 u1 u2 : Value) : Below w0.heap.size w0 (((w.setCell ⟨b, 0, none⟩ u0).setCell ⟨b, 1, none⟩ u1).setCell ⟨b, 2, none⟩ u2) :=
  ((h.setCell (p := ⟨b, 0, none⟩) hb u0).setCell (p := ⟨b, 1, none⟩) hb u1).setCell (p := ⟨b, 2, none⟩) hb u2
theorem size3 (w : World) (b : Nat) (u0 u1 u2 : Value) : (((w.setCell ⟨b, 0, none⟩ u0).setCell ⟨b, 1, none⟩ u1).setCell ⟨b, 2, none⟩ u2).heap.size = w.heap.size := by simp [World.setCell]

end Go.Proofs.Ytamfapmkdojhcaa
