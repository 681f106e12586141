/- SameFlash and SameArray on leaves. -/
import Derived.Test.YtdanefhfngmipaaSameFlash
import Derived.Test.YtdanefhfngmipaaSameArray
import Derived.Test.YtdanefhfngmipaaGenFlash
namespace Go.Proofs.Ytdanefhfngmipaa
open Go.RowKit

section
variable (A0 A1 : Option Addr) (c0 c1 : Nat) (d0 : List Int) (d1 : List Bool) (d2 : Int) (B0 B1 : Option Addr) (e0 e1 : Nat) (g0 : List Int) (g1 : List Bool) (g2 : Int) (w : World)
set_option maxRecDepth 100000 in
theorem specSameFlashA (h : RepA w [.slice A0 d0.length c0, .slice A1 d1.length c1] [.I d0, .B d1]) (_c : CapA [.slice A0 d0.length c0, .slice A1 d1.length c1]) (z : szA [.I d0, .B d1] ≤ 1048576)
    (h' : RepA w [.slice B0 g0.length e0, .slice B1 g1.length e1] [.I g0, .B g1]) (_c' : CapA [.slice B0 g0.length e0, .slice B1 g1.length e1]) (z' : szA [.I g0, .B g1] ≤ 1048576) :
    Calls Try.prog 78 #[.agg #[.slice A0 d0.length c0, .slice A1 d1.length c1, .int .i64 d2], .agg #[.slice B0 g0.length e0, .slice B1 g1.length e1, .int .i64 g2]] w fun e w' => e = .returned (.bool (sameFl d0 g0 d1 g1 d2 g2)) ∧ Below w.heap.size w w' := by
  simp only [szA, Lf.sz] at z z'
  exact specSame A0 B0 A1 B1 _ _ _ _ _ _ _ _ d2 g2 d0 g0 d1 g1 w rfl rfl rfl rfl (by unfold maxLen; omega) (by unfold maxLen; omega) (by unfold maxLen; omega) (by unfold maxLen; omega) (repI h.1) (repI h'.1) (repB h.2.1) (repB h'.2.1)
set_option maxRecDepth 100000 in
theorem implSameFlashA (h : RepA w [.slice A0 d0.length c0, .slice A1 d1.length c1] [.I d0, .B d1]) (_c : CapA [.slice A0 d0.length c0, .slice A1 d1.length c1]) (z : szA [.I d0, .B d1] ≤ 1048576)
    (h' : RepA w [.slice B0 g0.length e0, .slice B1 g1.length e1] [.I g0, .B g1]) (_c' : CapA [.slice B0 g0.length e0, .slice B1 g1.length e1]) (z' : szA [.I g0, .B g1] ≤ 1048576) :
    Calls Try.prog 56 #[.agg #[.slice A0 d0.length c0, .slice A1 d1.length c1, .int .i64 d2], .agg #[.slice B0 g0.length e0, .slice B1 g1.length e1, .int .i64 g2]] w fun e w' => e = .returned (.bool (sameFl d0 g0 d1 g1 d2 g2)) ∧ Below w.heap.size w w' := by
  simp only [szA, Lf.sz] at z z'
  exact implSame A0 B0 A1 B1 _ _ _ _ _ _ _ _ d2 g2 d0 g0 d1 g1 w rfl rfl rfl rfl (by unfold maxLen; omega) (by unfold maxLen; omega) (by unfold maxLen; omega) (by unfold maxLen; omega) (repI h.1) (repI h'.1) (repB h.2.1) (repB h'.2.1)
end
end Go.Proofs.Ytdanefhfngmipaa
