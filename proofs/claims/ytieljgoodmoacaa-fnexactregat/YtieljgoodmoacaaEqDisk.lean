/- Contracts of the comparisons: eqStringS, eqWrite, eqWriteS, eqDisk. -/
import Derived.Test.YtieljgoodmoacaaRows
import Derived.Test.YtieljgoodmoacaaMem
import Derived.Deep.QuietTactic
import Derived.BigQuiet
import Derived.StillTailTactics
namespace Go.Proofs.Ytieljgoodmoacaa
open Go.RowKit

theorem bdecide {p : Prop} [Decidable p] : (decide p = true) = p := by simp

end Go.Proofs.Ytieljgoodmoacaa
