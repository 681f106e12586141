/- BusRead on leaves. -/
import Derived.Test.YtdanefhfngmipaaChipRead
import Derived.Test.YtdanefhfngmipaaGenFlash
namespace Go.Proofs.Ytdanefhfngmipaa
open Go.RowKit

section
variable (A0 A1 : Option Addr) (c0 c1 : Nat) (d0 : List Int) (d1 : List Bool) (d2 a : Int) (w : World)
set_option maxRecDepth 100000 in
theorem specBusReadA (h : RepA w [.slice A0 d0.length c0, .slice A1 d1.length c1] [.I d0, .B d1]) (_c : CapA [.slice A0 d0.length c0, .slice A1 d1.length c1]) (z : szA [.I d0, .B d1] ≤ 1048576) :
    Calls Try.prog 23 #[.agg #[.slice A0 d0.length c0, .slice A1 d1.length c1, .int .i64 d2], .int .i64 a] w fun e w' => e = .returned (.tuple #[.int .i64 (readOf d0 d1 d2 a).1, .int .i64 (readOf d0 d1 d2 a).2]) ∧ Below w.heap.size w w' := by
  simp only [szA, Lf.sz] at z
  exact specBusRead A0 A1 _ c0 _ c1 d2 d0 d1 a w rfl rfl (by unfold maxLen; omega) (by unfold maxLen; omega) (repI h.1) (repB h.2.1)
set_option maxRecDepth 100000 in
theorem implBusReadA (h : RepA w [.slice A0 d0.length c0, .slice A1 d1.length c1] [.I d0, .B d1]) (_c : CapA [.slice A0 d0.length c0, .slice A1 d1.length c1]) (z : szA [.I d0, .B d1] ≤ 1048576) :
    Calls Try.prog 25 #[.agg #[.slice A0 d0.length c0, .slice A1 d1.length c1, .int .i64 d2], .int .i64 a] w fun e w' => e = .returned (.tuple #[.int .i64 (readOf d0 d1 d2 a).1, .int .i64 (readOf d0 d1 d2 a).2]) ∧ Below w.heap.size w w' := by
  simp only [szA, Lf.sz] at z
  exact implBusReadC A0 A1 _ c0 _ c1 d2 d0 d1 a w rfl rfl (by unfold maxLen; omega) (by unfold maxLen; omega) (repI h.1) (repB h.2.1)
end
end Go.Proofs.Ytdanefhfngmipaa
