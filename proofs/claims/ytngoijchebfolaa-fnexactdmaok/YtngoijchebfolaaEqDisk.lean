/- Contracts of the comparisons: eqStringS, eqWrite, eqWriteS, eqDisk. -/
import Derived.Test.YtngoijchebfolaaRows
import Derived.Test.YtngoijchebfolaaMem
import Derived.Deep.QuietTactic
import Derived.BigQuiet
import Derived.StillTailTactics
namespace Go.Proofs.Ytngoijchebfolaa
open Go.RowKit

theorem bdecide {p : Prop} [Decidable p] : (decide p = true) = p := by simp

end Go.Proofs.Ytngoijchebfolaa
