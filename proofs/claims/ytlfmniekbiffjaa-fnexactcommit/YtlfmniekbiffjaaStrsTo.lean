/- toStringS and eqStringS in the form that the laws' walks take. -/
import Derived.Test.YtlfmniekbiffjaaM5
namespace Go.Proofs.Ytlfmniekbiffjaa
open Go.RowKit
set_option maxRecDepth 100000 in
theorem eqStrSameC (A A' : Option Addr) (n n' c c' : Nat) (ss : List ByteArray) (w : World) (hl : ss.length = n) (hl' : ss.length = n') (hn : n ≤ maxLen) (h : StrL w A ss) (h' : StrL w A' ss) :
    Calls Try.prog 16 #[.slice A n c, .slice A' n' c'] w fun e w' => e = .returned (.bool true) ∧ Below w.heap.size w w' :=
  (eqStringS A A' n n' c c' ss ss w hl hl' hn (by omega) h h').mono fun e w' ⟨he, hb⟩ => ⟨by rw [he]; simp, hb⟩
set_option maxRecDepth 100000 in
theorem toStrsC (A : Option Addr) (n c : Nat) (ss : List ByteArray) (w : World) (hl : ss.length = n) (hn : n ≤ 1048576) (h : StrL w A ss) :
    Calls Try.prog 13 #[.slice A n c] w fun e w' => ∃ B k, e = .returned (.slice B n k) ∧ Hid (OwnS w' w.heap.size w'.heap.size B ss) ∧ Below w.heap.size w w' :=
  (toStringS A n c ss w hl hn h).mono fun e w' ⟨he, hb, hr⟩ => ⟨_, _, he, Lib.hid (own_of_rowS hl hr (Nat.le_refl _) hr.lt), hb⟩
end Go.Proofs.Ytlfmniekbiffjaa
