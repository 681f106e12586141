/- The model's bus cycle: l03Third, l03Write, BusWrite. -/
import Derived.Test.YtcchhbkbnbphhaaGreatDoorCycleOf
import Derived.Test.YtcchhbkbnbphhaaGreatDoorM3
namespace Go.Proofs.YtcchhbkbnbphhaaGreatDoor
open Go.RowKit

def ReadsFlash (zs : List Int) (gs : List Bool) (st : Int) (w : World) (e : Ending) (w' : World) : Prop :=
  ∃ A n c C m d, e = .returned (.agg #[.slice A n c, .slice C m d, .int .i64 st]) ∧ Hid (zs.length = n) ∧ Hid (gs.length = m) ∧ Hid (IntL w' A zs) ∧ Hid (BoolL w' C gs) ∧ Below w.heap.size w w'

set_option maxRecDepth 100000 in
theorem l03Third (k v : Nat) (w : World) : Calls Tryz.prog 126 #[.int .i64 k, .int .i64 v] w fun e w' => e = .returned (.int .i64 (if (k : Int) = 85 then cmdS v else 0)) ∧ w = w' := by
  go_enter Tryz.func126, Tryz.ntmps126
  go_wp2
  all_goals go_ret
  all_goals (refine ⟨ret_int ?_, rfl⟩)
  all_goals (first | (unfold cmdS; simp_all; done) | simp_all)

theorem nextS_0 (k v : Nat) : nextS 0 k v = if ((k : Int) == 85) && ((v : Int) == 170) then 1 else 0 := by unfold nextS; simp
theorem nextS_4 (k v : Nat) : nextS 4 k v = if ((k : Int) == 85) && ((v : Int) == 170) then 5 else 0 := by unfold nextS; simp
theorem nextS_1 (k v : Nat) : nextS 1 k v = if ((k : Int) == 42) && ((v : Int) == 85) then 2 else 0 := by unfold nextS; simp
theorem nextS_5 (k v : Nat) : nextS 5 k v = if ((k : Int) == 42) && ((v : Int) == 85) then 6 else 0 := by unfold nextS; simp
theorem nextS_2 (k v : Nat) : nextS 2 k v = if (k : Int) = 85 then cmdS v else 0 := by unfold nextS; simp
theorem nextS_7 (k v : Nat) : nextS 7 k v = if ((v : Int) != 240) then 7 else 0 := by
  unfold nextS
  by_cases h : (v : Int) = 240 <;> simp [h]
theorem nextS_3 (k v : Nat) : nextS 3 k v = 0 := by unfold nextS; simp
theorem nextS_6 (k v : Nat) : nextS 6 k v = 0 := by unfold nextS; simp
theorem nextS_8 (k v : Nat) : nextS 8 k v = 0 := by unfold nextS; simp
theorem cyc_plain (zs : List Int) (gs : List Bool) (st : Int) (k v : Nat) (h3 : st ≠ 3) (h6 : st ≠ 6) (h8 : st ≠ 8) : cycZ zs gs st k v = zs ∧ cycG gs st k = gs :=
  ⟨by unfold cycZ; rw [if_neg h3, if_neg h6], by unfold cycG; rw [if_neg h8]⟩

structure Tests (k v : Nat) (b1 b2 b3 b4 : Bool) : Prop where
  t1 : ((k : Int) == 85) = b1
  t2 : ((v : Int) == 170) = b2
  t3 : ((k : Int) == 42) = b3
  t4 : ((v : Int) == 85) = b4

set_option maxRecDepth 100000 in
set_option maxHeartbeats 8000000 in
theorem writePlain (A C : Option Addr) (c d k v : Nat) (st s : Int) (w : World) (b1 b2 b3 b4 : Bool) (T : Tests k v b1 b2 b3 b4)
    (hst : (st = 0 ∧ s = if b1 && b2 then 1 else 0) ∨ (st = 4 ∧ s = if b1 && b2 then 5 else 0) ∨ (st = 1 ∧ s = if b3 && b4 then 2 else 0) ∨ (st = 5 ∧ s = if b3 && b4 then 6 else 0)) :
    Calls Tryz.prog 110 #[.agg #[.slice A 256 c, .slice C 16 d, .int .i64 st], .int .i64 k, .int .i64 v] w fun e w' => e = .returned (.agg #[.slice A 256 c, .slice C 16 d, .int .i64 s]) ∧ Below w.heap.size w w' := by
  obtain ⟨t1, t2, t3, t4⟩ := T
  rcases hst with ⟨rfl, rfl⟩ | ⟨rfl, rfl⟩ | ⟨rfl, rfl⟩ | ⟨rfl, rfl⟩
  all_goals (
    cases b1 <;> cases b2 <;> cases b3 <;> cases b4 <;> (
      go_enter Tryz.func110, Tryz.ntmps110
      go_wp2_with (first | (go_at_call 113; refine (l01Bit _ _).mono ?_; rintro e w' ⟨rfl, rfl⟩))
      refine bodyPost_ret (by simp [results, Tryz.results110, go_sem]; rfl) rfl ?_
      exact ⟨rfl, bt (alloc_below _ _) (alloc_below _ _)⟩))
end Go.Proofs.YtcchhbkbnbphhaaGreatDoor
