/- An interrupt controller's validity: levels, lines, IrqOK on both sides, the checks of a line. -/
import Derived.Test.YtieljgoodmoacaaChipOf
import Derived.Test.YtieljgoodmoacaaGenIrq
namespace Go.Proofs.Ytieljgoodmoacaa
open Go.RowKit

/-- From 0 to 7: a level, or a line. -/
def lvB (n : Int) : Bool := decide (0 ≤ n ∧ n ≤ 7)
def okIrq (d0 : List Int) (d1 : List Bool) : Bool := decide (d0.length = 8) && (decide (d1.length = 8) && d0.all lvB)
theorem lvB_range {n : Int} (h : lvB n = true) : 0 ≤ n ∧ n ≤ 7 := by simpa [lvB] using h
theorem okIrq_no1 (d0 : List Int) (d1 : List Bool) (h : d0.length ≠ 8) : okIrq d0 d1 = false := by unfold okIrq; simp [h]
theorem okIrq_no2 (d0 : List Int) (d1 : List Bool) (h : d1.length ≠ 8) : okIrq d0 d1 = false := by unfold okIrq; simp [h]
theorem okIrq_yes (d0 : List Int) (d1 : List Bool) (h : d0.length = 8) (h2 : d1.length = 8) : okIrq d0 d1 = d0.all lvB := by unfold okIrq; simp [h, h2]
theorem okIrq_len {d0 : List Int} {d1 : List Bool} (h : okIrq d0 d1 = true) : d0.length = 8 ∧ d1.length = 8 ∧ ∀ z ∈ d0, 0 ≤ z ∧ z ≤ 7 := by
  unfold okIrq at h
  simp only [Bool.and_eq_true, decide_eq_true_eq, List.all_eq_true] at h
  exact ⟨h.1, h.2.1, fun z hz => lvB_range (h.2.2 z hz)⟩
/-- What a check of a line answers. -/
def lineC (d0 : List Int) (d1 : List Bool) (n : Int) : Int := if okIrq d0 d1 then (if lvB n then 0 else 4) else 1

set_option maxRecDepth 100000 in
theorem isLine (n : Int) (w : World) : Calls Try.prog 47 #[.int .i64 n] w fun e w' => e = .returned (.bool (lvB n)) ∧ w = w' := by
  go_enter Try.func47, Try.ntmps47
  go_wp2
  all_goals go_ret
  all_goals (refine ⟨ret_bool ?_, rfl⟩)
  all_goals (unfold lvB; rw [Bool.eq_iff_iff]; simp; try omega)
set_option maxRecDepth 100000 in
theorem isLevel (n : Int) (w : World) : Calls Try.prog 48 #[.int .i64 n] w fun e w' => e = .returned (.bool (lvB n)) ∧ w = w' := by
  go_enter Try.func48, Try.ntmps48
  go_wp2
  all_goals go_ret
  all_goals (refine ⟨ret_bool ?_, rfl⟩)
  all_goals (unfold lvB; rw [Bool.eq_iff_iff]; simp; try omega)
set_option maxRecDepth 100000 in
theorem l01In7 (n : Int) (w : World) : Calls Try.prog 33 #[.int .i64 n, .int .i64 0, .int .i64 7] w fun e w' => e = .returned (.bool (lvB n)) ∧ w = w' := by
  go_enter Try.func33, Try.ntmps33
  go_wp2
  all_goals go_ret
  all_goals (refine ⟨ret_bool ?_, rfl⟩)
  all_goals (unfold lvB; rw [Bool.eq_iff_iff]; simp; try omega)

section
variable (A0 A1 : Option Addr) (n0 n1 c0 c1 : Nat) (d0 : List Int) (d1 : List Bool) (w : World)
end
end Go.Proofs.Ytieljgoodmoacaa
