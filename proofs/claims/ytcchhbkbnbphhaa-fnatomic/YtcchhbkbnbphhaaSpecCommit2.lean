/- The contract of spec.Commit. -/
import Derived.Test.YtcchhbkbnbphhaaSpecCommit
namespace Go.Proofs.Ytcchhbkbnbphhaa
open Go.RowKit

theorem askC_long {ps ss : List ByteArray} {ws : List (Int × ByteArray)} (h : 4096 < ps.length) : askC ps ss ws = 2 := by
  have : pagesC ps = 2 := by unfold pagesC; rw [if_pos h]
  unfold askC
  rw [this]
  rfl
end Go.Proofs.Ytcchhbkbnbphhaa
