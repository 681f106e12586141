/- A timer's ticks; the iterator over the timers that come round. -/
import Derived.Test.YtagdclbpgkilgaaTimSet
import Derived.Test.YtagdclbpgkilgaaRangeSt
namespace Go.Proofs.Ytagdclbpgkilgaa
open Go.RowKit Go.Shelf

set_option maxRecDepth 100000 in
set_option maxHeartbeats 2000000 in
theorem tickOff (b off : Nat) (n : Int) (w : World) (hl : w.cell? ⟨b, off + 1, none⟩ = some (.int .i64 0)) :
    Calls Try.prog 88 #[.pointer (some ⟨b, off, none⟩), .int .i64 n] w fun e w' => e = .returned (.int .i64 0) ∧ w' = w := by
  go_enter Try.func88, Try.ntmps88
  go_wp2
  go_ret
  exact ⟨rfl, rfl⟩
set_option maxRecDepth 100000 in
set_option maxHeartbeats 2000000 in
theorem tickOn (b off : Nat) (c l n q r : Int) (w : World) (hc : w.cell? ⟨b, off, none⟩ = some (.int .i64 c)) (hl : w.cell? ⟨b, off + 1, none⟩ = some (.int .i64 l)) (hf : w.frozen? ⟨b, off, none⟩ = false)
    (c0 : 0 ≤ c) (c1 : c ≤ 255) (n0 : 0 ≤ n) (n1 : n ≤ 100255) (l0 : 0 < l) (l1 : l ≤ 256) (hq : (c + n) / l = q) (hr : (c + n) % l = r) :
    Calls Try.prog 88 #[.pointer (some ⟨b, off, none⟩), .int .i64 n] w fun e w' => e = .returned (.int .i64 q) ∧ w' = w.setCell ⟨b, off, none⟩ (.int .i64 r) := by
  have e1 : (c + n).tdiv l = q := by rw [Int.tdiv_eq_ediv_of_nonneg (by omega), hq]
  have e2 : (c + n).tmod l = r := by rw [Int.tmod_eq_emod_of_nonneg (by omega), hr]
  have hz : (l == 0) = false := by simpa using (by omega : l ≠ 0)
  have hq0 : 0 ≤ q := by rw [← hq]; exact Int.ediv_nonneg (by omega) (by omega)
  have hq1 : q ≤ c + n := by
    rw [← hq]
    exact Int.ediv_le_self _ (by omega)
  have hr0 : 0 ≤ r := by rw [← hr]; exact Int.emod_nonneg _ (by omega)
  have hr1 : r < l := by rw [← hr]; exact Int.emod_lt_of_pos _ l0
  go_enter Try.func88, Try.ntmps88
  go_wp2
  go_ret
  exact ⟨rfl, rfl⟩
end Go.Proofs.Ytagdclbpgkilgaa
