/- Contracts of the model's crash: l01Crash; of the tests of fates. -/
import Derived.Test.YtagdclbpgkilgaaFlush
import Derived.WalkLawsBesides
namespace Go.Proofs.Ytagdclbpgkilgaa
open Go.RowKit

theorem tear_min (old x : ByteArray) : x.extract 0 (x.size / 2) ++ old.extract (min (x.size / 2) old.size) old.size = tearOf old x := by
  unfold tearOf
  split
  · rename_i h
    rw [Nat.min_eq_right h]
    apply WideShapes.bytes_inj
    simp [ByteArray.data_extract]
  · rename_i h
    rw [Nat.min_eq_left (by omega)]

end Go.Proofs.Ytagdclbpgkilgaa
