/- The laws' own functions over Timer, on leaves. Written by gen_t.py. -/
import Derived.Test.YtagdclbpgkilgaaGenC
namespace Go.Proofs.Ytagdclbpgkilgaa
open Go.RowKit

set_option maxRecDepth 100000 in
set_option maxHeartbeats 4000000 in
theorem toTimerA (d0 : Int) (d1 : Int) (d2 : Bool) (w : World) :
    Calls Try.prog 64 #[.agg #[.int .i64 d0, .int .i64 d1, .bool d2]] w (fun e w' => e = .returned (.agg #[.int .i64 d0, .int .i64 d1, .bool d2]) ∧ Below w.heap.size w w') := by
  go_enter Try.func64, Try.ntmps64
  go_wp2
  refine bodyPost_ret (v := .agg #[.int .i64 d0, .int .i64 d1, .bool d2]) (by simp [results, Try.results64, go_sem]) rfl ?_
  exact ⟨rfl, ((((Below.refl _ _).alloc (Nat.le_refl _) _).alloc (by simp) _).alloc (by simp; omega) _)⟩

set_option maxRecDepth 100000 in
set_option maxHeartbeats 4000000 in
theorem eqTimerA (d0 : Int) (d1 : Int) (d2 : Bool) (w : World) :
    Calls Try.prog 65 #[.agg #[.int .i64 d0, .int .i64 d1, .bool d2], .agg #[.int .i64 d0, .int .i64 d1, .bool d2]] w fun e w' => e = .returned (.bool true) ∧ Below w.heap.size w w' := by
  obtain ⟨W0, hW0⟩ : ∃ W0, W0 = ((w.alloc (.cells #[.int .i64 d0, .int .i64 d1, .bool d2] 54)).alloc (.cells #[.int .i64 d0, .int .i64 d1, .bool d2] 54)) := ⟨_, rfl⟩
  have hb0 : Below w.heap.size w W0 := by rw [hW0]; exact ((Below.refl _ _).alloc (Nat.le_refl _) _).alloc (by simp) _
  have X0 : Hid (Box W0 w.heap.size 54 #[.int .i64 d0, .int .i64 d1, .bool d2]) := Lib.hid (by rw [hW0]; exact (Box.new _ _ _).alloc _)
  have Y0 : Hid (Box W0 (w.heap.size + 1) 54 #[.int .i64 d0, .int .i64 d1, .bool d2]) := Lib.hid (by rw [hW0]; simpa using Box.new (w.alloc (.cells #[.int .i64 d0, .int .i64 d1, .bool d2] 54)) 54 #[.int .i64 d0, .int .i64 d1, .bool d2])
  have HW0 := Lib.hid hW0
  have hq0 : (d0 != d0) = false := by simp
  have hq1 : (d1 != d1) = false := by simp
  have hq2 : (d2 != d2) = false := by simp
  clear hW0
  go_enter Try.func65, Try.ntmps65
  go_wp2
  rw [← HW0.out]
  go_ret
  exact ⟨rfl, hb0⟩

end Go.Proofs.Ytagdclbpgkilgaa
