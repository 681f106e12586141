/- Valid instructions, lengths and cycles: both sides. -/
import Derived.Test.YtieljgoodmoacaaOpTab
import Derived.Test.YtieljgoodmoacaaQuiet
namespace Go.Proofs.Ytieljgoodmoacaa
open Go.RowKit

def rngB (n lo hi : Int) : Bool := decide (lo ≤ n ∧ n ≤ hi)
def bitI (b : Bool) : Int := if b then 1 else 0
theorem rngB_t {n lo hi : Int} (h : lo ≤ n ∧ n ≤ hi) : rngB n lo hi = true := by simp [rngB, h]
theorem rngB_f {n lo hi : Int} (h : ¬ (lo ≤ n ∧ n ≤ hi)) : rngB n lo hi = false := by simp only [rngB, decide_eq_false_iff_not]; exact h
set_option maxRecDepth 100000 in
theorem l01InA (n lo hi : Int) (w : World) : Calls Try.prog 33 #[.int .i64 n, .int .i64 lo, .int .i64 hi] w fun e w' => e = .returned (.bool (rngB n lo hi)) ∧ w = w' := by
  go_enter Try.func33, Try.ntmps33
  go_wp2
  all_goals go_ret
  all_goals (refine ⟨ret_bool ?_, rfl⟩)
  all_goals (unfold rngB; rw [Bool.eq_iff_iff]; simp; try omega)
set_option maxRecDepth 100000 in
theorem isUpToA (n l : Int) (w : World) : Calls Try.prog 38 #[.int .i64 n, .int .i64 l] w fun e w' => e = .returned (.bool (rngB n 0 l)) ∧ w = w' := by
  go_enter Try.func38, Try.ntmps38
  go_wp2
  all_goals go_ret
  all_goals (refine ⟨ret_bool ?_, rfl⟩)
  all_goals (unfold rngB; rw [Bool.eq_iff_iff]; simp; try omega)
set_option maxRecDepth 100000 in
theorem isByteA (n : Int) (w : World) : Calls Try.prog 58 #[.int .i64 n] w fun e w' => e = .returned (.bool (rngB n 0 255)) ∧ w = w' := by
  go_enter Try.func58, Try.ntmps58
  go_wp2
  all_goals go_ret
  all_goals (refine ⟨ret_bool ?_, rfl⟩)
  all_goals (unfold rngB; rw [Bool.eq_iff_iff]; simp; try omega)
set_option maxRecDepth 100000 in
theorem l01BitA (b : Bool) (w : World) : Calls Try.prog 77 #[.bool b] w fun e w' => e = .returned (.int .i64 (bitI b)) ∧ w = w' := by
  cases b
  all_goals
    go_enter Try.func77, Try.ntmps77
    go_wp2
    go_ret
    exact ⟨rfl, rfl⟩
theorem okIns_op (op reg arg : Int) (h : ¬ (0 ≤ op ∧ op ≤ 21)) : okIns op reg arg = false := by unfold okIns; simp only [decide_eq_false_iff_not]; omega
theorem okIns_reg (op reg arg : Int) (h : ¬ (0 ≤ reg ∧ reg ≤ regT op)) : okIns op reg arg = false := by unfold okIns; simp only [decide_eq_false_iff_not]; omega
theorem okIns_arg (op reg arg : Int) (h0 : 0 ≤ op ∧ op ≤ 21) (h : 0 ≤ reg ∧ reg ≤ regT op) : okIns op reg arg = rngB arg 0 (argT op) := by
  unfold okIns rngB; rw [Bool.eq_iff_iff]; simp only [decide_eq_true_eq]; omega
theorem arg_len (op : Int) (h : ¬ op = 21) : argT op = (if lenT op = 1 then 0 else if lenT op = 2 then 255 else 4095) := by
  unfold argT lenT
  rw [if_neg h]
  by_cases h1 : op = 5 ∨ op = 20
  · rw [if_pos h1, if_pos (show op = 5 ∨ op = 20 ∨ op = 21 from by omega)]; rfl
  · rw [if_neg h1, if_neg (show ¬ (op = 5 ∨ op = 20 ∨ op = 21) from by omega)]
    split <;> rfl
theorem in_zero (n : Int) : rngB n 0 0 = (n == 0) := by unfold rngB; rw [Bool.eq_iff_iff]; simp; omega
section
variable (op reg arg : Int) (w : World)
end
end Go.Proofs.Ytieljgoodmoacaa
