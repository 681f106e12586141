/- Contracts of the comparisons: eqStringS, eqWrite, eqWriteS, eqDisk. -/
import Derived.Test.YtamfapmkdojhcaaRows
import Derived.Test.YtamfapmkdojhcaaMem
import Derived.Deep.QuietTactic
import Derived.BigQuiet
import Derived.StillTailTactics
namespace Go.Proofs.Ytamfapmkdojhcaa
open Go.RowKit

theorem bdecide {p : Prop} [Decidable p] : (decide p = true) = p := by simp

end Go.Proofs.Ytamfapmkdojhcaa
