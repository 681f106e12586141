/- The contract of impl.Commit. -/
import Derived.Test.YtcchhbkbnbphhaaM8
import Derived.Test.YtcchhbkbnbphhaaPlan
import Derived.Test.YtcchhbkbnbphhaaM7
import Derived.Test.YtcchhbkbnbphhaaSettleW
import Derived.Deep.RegionHeld3
namespace Go.Proofs.Ytcchhbkbnbphhaa
open Go.RowKit

theorem commit_code {ss ps : List ByteArray} {ws : List (Int × ByteArray)} {bud : Int} (h : askC ps ss ws = 0) (h2 : 0 ≤ bud ∧ bud ≤ 1000) (h3 : (planOf ss ps).2 ≠ 0) : commitOf ss ws ps bud = (ss, (planOf ss ps).2) := by unfold commitOf; rw [if_neg (by omega), if_neg (by omega), if_pos h3]
theorem commit_few {ss ps : List ByteArray} {ws : List (Int × ByteArray)} {u : Nat} (h : askC ps ss ws = 0) (h2 : u ≤ 1000) (h3 : (planOf ss ps).2 = 0) (h4 : u < (planOf ss ps).1.length) : commitOf ss ws ps u = (settleN ss ((planOf ss ps).1.take u) [1] u, 10) := by
  unfold commitOf; rw [if_neg (by omega), if_neg (by omega), if_neg (by omega), if_pos (by omega)]; rfl
theorem commit_all {ss ps : List ByteArray} {ws : List (Int × ByteArray)} {u : Nat} (h : askC ps ss ws = 0) (h2 : u ≤ 1000) (h3 : (planOf ss ps).2 = 0) (h4 : (planOf ss ps).1.length ≤ u) : commitOf ss ws ps u = (twoN ss (planOf ss ps).1 [1] [1], 0) := by
  unfold commitOf; rw [if_neg (by omega), if_neg (by omega), if_neg (by omega), if_neg (by omega)]

end Go.Proofs.Ytcchhbkbnbphhaa
