/- Contracts of the comparisons: eqStringS, eqWrite, eqWriteS, eqDisk. -/
import Derived.Test.YtdanefhfngmipaaRows
import Derived.Test.YtdanefhfngmipaaMem
import Derived.Deep.QuietTactic
import Derived.BigQuiet
import Derived.StillTailTactics
namespace Go.Proofs.Ytdanefhfngmipaa
open Go.RowKit

theorem bdecide {p : Prop} [Decidable p] : (decide p = true) = p := by simp

end Go.Proofs.Ytdanefhfngmipaa
