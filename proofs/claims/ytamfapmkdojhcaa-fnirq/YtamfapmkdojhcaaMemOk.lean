/- MemOK on both sides; impl.Mem.check; the regions on both sides. -/
import Derived.Test.YtamfapmkdojhcaaMemMath
import Derived.Test.YtamfapmkdojhcaaGenMem
namespace Go.Proofs.Ytamfapmkdojhcaa
open Go.RowKit

set_option maxRecDepth 100000 in
theorem l01In4095 (n : Int) (w : World) : Calls Try.prog 35 #[.int .i64 n, .int .i64 0, .int .i64 4095] w fun e w' => e = .returned (.bool (adB n)) ∧ w = w' := by
  go_enter Try.func35, Try.ntmps35
  go_wp2
  all_goals go_ret
  all_goals (refine ⟨ret_bool ?_, rfl⟩)
  all_goals (unfold adB; rw [Bool.eq_iff_iff]; simp; try omega)
set_option maxRecDepth 100000 in
theorem l01InF (n : Int) (w : World) : Calls Try.prog 35 #[.int .i64 n, .int .i64 512, .int .i64 767] w fun e w' => e = .returned (.bool (decide (512 ≤ n ∧ n ≤ 767))) ∧ w = w' := by
  go_enter Try.func35, Try.ntmps35
  go_wp2
  all_goals go_ret
  all_goals (refine ⟨ret_bool ?_, rfl⟩)
  all_goals (rw [Bool.eq_iff_iff]; simp; try omega)
end Go.Proofs.Ytamfapmkdojhcaa
