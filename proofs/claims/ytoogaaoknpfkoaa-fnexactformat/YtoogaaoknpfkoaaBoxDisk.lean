/- A disk of the call's own behind a box: kept over what is new, and over writes elsewhere. -/
import Derived.Test.YtoogaaoknpfkoaaMark
namespace Go.Proofs.Ytoogaaoknpfkoaa
open Go.RowKit

/-- Block b holds this disk's two slices; their rows lie from lo on and below hi. -/
structure BD (w : World) (b lo hi : Nat) (A : Option Addr) (n c : Nat) (C : Option Addr) (m d : Nat) (ss : List ByteArray) (ws : List (Int × ByteArray)) : Prop where
  box : Box w b 26 #[.slice A n c, .slice C m d]
  s : OwnS w lo hi A ss
  r : OwnW w lo hi C ws

section
variable {w w' : World} {b lo hi : Nat} {A : Option Addr} {n c : Nat} {C : Option Addr} {m d : Nat} {ss : List ByteArray} {ws : List (Int × ByteArray)}
theorem BD.step (h : BD w b lo hi A n c C m d ss ws) (hb : Below w.heap.size w w') : BD w' b lo hi A n c C m d ss ws := ⟨h.box.step hb, h.s.below hb, h.r.below hb⟩
theorem BD.btw {l r : Nat} (h : BD w b lo hi A n c C m d ss ws) (hb : Btw l r w w') (h1 : b < l ∨ r ≤ b) (h2 : hi ≤ l ∨ r ≤ lo) : BD w' b lo hi A n c C m d ss ws := ⟨h.box.btw hb h1, h.s.btw hb h2, h.r.btw hb h2⟩
theorem BD.new (hs : OwnS w lo hi A ss) (hr : OwnW w lo hi C ws) : BD (w.alloc (.cells #[.slice A n c, .slice C m d] 26)) w.heap.size lo hi A n c C m d ss ws :=
  have k := (Below.refl w.heap.size w).alloc (Nat.le_refl _) (.cells #[.slice A n c, .slice C m d] 26)
  ⟨Box.new _ _ _, hs.below k, hr.below k⟩
theorem BD.f0 (h : BD w b lo hi A n c C m d ss ws) : w.cell? ⟨b, 0, none⟩ = some (.slice A n c) := h.box.cell 0 rfl
theorem BD.f1 (h : BD w b lo hi A n c C m d ss ws) : w.cell? ⟨b, 1, none⟩ = some (.slice C m d) := h.box.cell 1 rfl
end
theorem alloc_below (w : World) (o : Obj) : Below w.heap.size w (w.alloc o) := (Below.refl _ _).alloc (Nat.le_refl _) o
end Go.Proofs.Ytoogaaoknpfkoaa
