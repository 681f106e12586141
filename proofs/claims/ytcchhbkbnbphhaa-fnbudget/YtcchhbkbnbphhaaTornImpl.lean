/- The contract of impl.CommitTorn. Written by gen_tornimpl.py. -/
import Derived.Test.YtcchhbkbnbphhaaCommitImpl
namespace Go.Proofs.Ytcchhbkbnbphhaa
open Go.RowKit

section
variable {ss ps : List ByteArray} {ws : List (Int × ByteArray)} {ph : Int} {zs : List Int}
theorem torn_code (h0 : ¬ 4096 < zs.length) (h : askC ps ss ws = 0) (h2 : fateB ph = true ∧ okF zs = true) (h3 : (planOf ss ps).2 ≠ 0) : tornOf ss ws ps ph zs = (ss, (planOf ss ps).2) := by
  have : tornC ph zs = 0 := by unfold tornC; rw [if_pos h2]
  unfold tornOf; rw [if_neg h0, if_neg (by omega), if_neg (by omega), if_pos h3]
theorem torn_all (h0 : ¬ 4096 < zs.length) (h : askC ps ss ws = 0) (h2 : fateB ph = true ∧ okF zs = true) (h3 : (planOf ss ps).2 = 0) : tornOf ss ws ps ph zs = if ph = 0 then (settleN ss (planOf ss ps).1.dropLast zs (planOf ss ps).1.dropLast.length, 0) else
  if ph = 1 then (twoN ss (planOf ss ps).1 [1] zs, 0) else (twoN ss (planOf ss ps).1 [1] [1], 0) := by
  have : tornC ph zs = 0 := by unfold tornC; rw [if_pos h2]
  unfold tornOf; rw [if_neg h0, if_neg (by omega), if_neg (by omega), if_neg (by omega)]
end

theorem fateB_range {z : Int} (h : fateB z = true) : 0 ≤ z ∧ z ≤ 2 := by simpa [fateB] using h
end Go.Proofs.Ytcchhbkbnbphhaa
