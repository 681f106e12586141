/- Texts of this claim, one behind the other: OpOk, OpLen, GenFlash, GenMem, GenIrq, IrqOk, RegFacts, RegLast, Settle, Flush, Crash, Src. -/
import Derived.Deep.RegionHeld3
import Derived.Laws.CopyOwn
import Derived.OwnWalk
import Derived.Laws.OwnMore
import Derived.WalkLawsBesides
import Derived.StillTailTactics
import Derived.IntWalk
import Derived.Test.YtcchhbkbnbphhaaGreatDoorM3
/- Valid instructions, lengths and cycles: both sides. -/
namespace Go.Proofs.YtcchhbkbnbphhaaGreatDoor
open Go.RowKit

def rngB (n lo hi : Int) : Bool := decide (lo ≤ n ∧ n ≤ hi)
def bitI (b : Bool) : Int := if b then 1 else 0
theorem rngB_t {n lo hi : Int} (h : lo ≤ n ∧ n ≤ hi) : rngB n lo hi = true := by simp [rngB, h]
theorem rngB_f {n lo hi : Int} (h : ¬ (lo ≤ n ∧ n ≤ hi)) : rngB n lo hi = false := by simp only [rngB, decide_eq_false_iff_not]; exact h
set_option maxRecDepth 100000 in
theorem l01InA (n lo hi : Int) (w : World) : Calls Tryz.prog 38 #[.int .i64 n, .int .i64 lo, .int .i64 hi] w fun e w' => e = .returned (.bool (rngB n lo hi)) ∧ w = w' := by
  go_enter Tryz.func38, Tryz.ntmps38
  go_wp2
  all_goals go_ret
  all_goals (refine ⟨ret_bool ?_, rfl⟩)
  all_goals (unfold rngB; rw [Bool.eq_iff_iff]; simp; try omega)
set_option maxRecDepth 100000 in
theorem isUpToA (n l : Int) (w : World) : Calls Tryz.prog 32 #[.int .i64 n, .int .i64 l] w fun e w' => e = .returned (.bool (rngB n 0 l)) ∧ w = w' := by
  go_enter Tryz.func32, Tryz.ntmps32
  go_wp2
  all_goals go_ret
  all_goals (refine ⟨ret_bool ?_, rfl⟩)
  all_goals (unfold rngB; rw [Bool.eq_iff_iff]; simp; try omega)
set_option maxRecDepth 100000 in
theorem l01BitA (b : Bool) (w : World) : Calls Tryz.prog 113 #[.bool b] w fun e w' => e = .returned (.int .i64 (bitI b)) ∧ w = w' := by
  cases b
  all_goals
    go_enter Tryz.func113, Tryz.ntmps113
    go_wp2
    go_ret
    exact ⟨rfl, rfl⟩
set_option maxRecDepth 100000 in
theorem l07RegA (n : Int) (w : World) : Calls Tryz.prog 123 #[.int .i64 n] w fun e w' => e = .returned (.bool (rngB n 5 14)) ∧ w = w' := by
  go_enter Tryz.func123, Tryz.ntmps123
  go_wp2_with (go_at_call 38; refine (l01InA _ _ _ _).mono ?_; rintro e w' ⟨rfl, rfl⟩)
  go_ret
  exact ⟨rfl, rfl⟩
set_option maxRecDepth 100000 in
theorem l07LengthA (n : Int) (w : World) : Calls Tryz.prog 62 #[.int .i64 n] w fun e w' => e = .returned (.int .i64 (lenT n)) ∧ w = w' := by
  by_cases h5 : n = 5
  · subst h5
    have HL : Hid (lenT 5 = 2) := Lib.hid (by decide)
    generalize lenT 5 = z at HL
    go_enter Tryz.func62, Tryz.ntmps62
    go_wp2
    go_ret
    exact ⟨ret_int HL.out.symm, rfl⟩
  by_cases h20 : n = 20
  · subst h20
    have HL : Hid (lenT 20 = 2) := Lib.hid (by decide)
    generalize lenT 20 = z at HL
    go_enter Tryz.func62, Tryz.ntmps62
    go_wp2
    go_ret
    exact ⟨ret_int HL.out.symm, rfl⟩
  by_cases h21 : n = 21
  · subst h21
    have HL : Hid (lenT 21 = 2) := Lib.hid (by decide)
    generalize lenT 21 = z at HL
    go_enter Tryz.func62, Tryz.ntmps62
    go_wp2
    go_ret
    exact ⟨ret_int HL.out.symm, rfl⟩
  by_cases h6 : n = 6
  · subst h6
    have HL : Hid (lenT 6 = 3) := Lib.hid (by decide)
    generalize lenT 6 = z at HL
    go_enter Tryz.func62, Tryz.ntmps62
    go_wp2
    go_ret
    exact ⟨ret_int HL.out.symm, rfl⟩
  by_cases h7 : n = 7
  · subst h7
    have HL : Hid (lenT 7 = 3) := Lib.hid (by decide)
    generalize lenT 7 = z at HL
    go_enter Tryz.func62, Tryz.ntmps62
    go_wp2
    go_ret
    exact ⟨ret_int HL.out.symm, rfl⟩
  by_cases h15 : n = 15
  · subst h15
    have HL : Hid (lenT 15 = 3) := Lib.hid (by decide)
    generalize lenT 15 = z at HL
    go_enter Tryz.func62, Tryz.ntmps62
    go_wp2
    go_ret
    exact ⟨ret_int HL.out.symm, rfl⟩
  by_cases h16 : n = 16
  · subst h16
    have HL : Hid (lenT 16 = 3) := Lib.hid (by decide)
    generalize lenT 16 = z at HL
    go_enter Tryz.func62, Tryz.ntmps62
    go_wp2
    go_ret
    exact ⟨ret_int HL.out.symm, rfl⟩
  by_cases h17 : n = 17
  · subst h17
    have HL : Hid (lenT 17 = 3) := Lib.hid (by decide)
    generalize lenT 17 = z at HL
    go_enter Tryz.func62, Tryz.ntmps62
    go_wp2
    go_ret
    exact ⟨ret_int HL.out.symm, rfl⟩
  by_cases h18 : n = 18
  · subst h18
    have HL : Hid (lenT 18 = 3) := Lib.hid (by decide)
    generalize lenT 18 = z at HL
    go_enter Tryz.func62, Tryz.ntmps62
    go_wp2
    go_ret
    exact ⟨ret_int HL.out.symm, rfl⟩
  have HL : Hid (lenT n = 1) := Lib.hid (by unfold lenT; rw [if_neg (by omega), if_neg (by omega)])
  generalize lenT n = z at HL
  go_enter Tryz.func62, Tryz.ntmps62
  go_wp2
  go_ret
  exact ⟨ret_int HL.out.symm, rfl⟩
set_option maxRecDepth 100000 in
theorem l07CyclesA (n : Int) (w : World) : Calls Tryz.prog 61 #[.int .i64 n] w fun e w' => e = .returned (.int .i64 (cycT n)) ∧ w = w' := by
  by_cases h18 : n = 18
  · subst h18
    have HL : Hid (cycT 18 = 8) := Lib.hid (by decide)
    generalize cycT 18 = z at HL
    go_enter Tryz.func61, Tryz.ntmps61
    go_wp2
    go_ret
    exact ⟨ret_int HL.out.symm, rfl⟩
  by_cases h19 : n = 19
  · subst h19
    have HL : Hid (cycT 19 = 8) := Lib.hid (by decide)
    generalize cycT 19 = z at HL
    go_enter Tryz.func61, Tryz.ntmps61
    go_wp2
    go_ret
    exact ⟨ret_int HL.out.symm, rfl⟩
  by_cases h2 : n = 2
  · subst h2
    have HL : Hid (cycT 2 = 8) := Lib.hid (by decide)
    generalize cycT 2 = z at HL
    go_enter Tryz.func61, Tryz.ntmps61
    go_wp2
    go_ret
    exact ⟨ret_int HL.out.symm, rfl⟩
  by_cases h20 : n = 20
  · subst h20
    have HL : Hid (cycT 20 = 12) := Lib.hid (by decide)
    generalize cycT 20 = z at HL
    go_enter Tryz.func61, Tryz.ntmps61
    go_wp2
    go_ret
    exact ⟨ret_int HL.out.symm, rfl⟩
  by_cases h22 : n = 22
  · subst h22
    have HL : Hid (cycT 22 = 12) := Lib.hid (by decide)
    generalize cycT 22 = z at HL
    go_enter Tryz.func61, Tryz.ntmps61
    go_wp2
    go_ret
    exact ⟨ret_int HL.out.symm, rfl⟩
  have HL : Hid (cycT n = 2 * lenT n) := Lib.hid (by unfold cycT; rw [if_neg (by omega), if_neg (by omega)])
  generalize cycT n = z at HL
  have hr := lenT_range n
  have HG := Lib.hid (l07LengthA n)
  generalize lenT n = l at HL hr HG
  obtain ⟨hr1, hr2⟩ := hr
  go_enter Tryz.func61, Tryz.ntmps61
  go_wp2_with (go_at_call 62; refine (HG.out _).mono ?_; rintro e w' ⟨rfl, rfl⟩)
  go_ret
  exact ⟨ret_int HL.out.symm, rfl⟩
theorem okIns_op (op reg arg : Int) (h : ¬ (0 ≤ op ∧ op ≤ 21)) : okIns op reg arg = false := by unfold okIns; simp only [decide_eq_false_iff_not]; omega
theorem okIns_reg (op reg arg : Int) (h : ¬ (0 ≤ reg ∧ reg ≤ regT op)) : okIns op reg arg = false := by unfold okIns; simp only [decide_eq_false_iff_not]; omega
theorem okIns_arg (op reg arg : Int) (h0 : 0 ≤ op ∧ op ≤ 21) (h : 0 ≤ reg ∧ reg ≤ regT op) : okIns op reg arg = rngB arg 0 (argT op) := by
  unfold okIns rngB; rw [Bool.eq_iff_iff]; simp only [decide_eq_true_eq]; omega
theorem arg_len (op : Int) (h : ¬ op = 21) : argT op = (if lenT op = 1 then 0 else if lenT op = 2 then 255 else 4095) := by
  unfold argT lenT
  rw [if_neg h]
  by_cases h1 : op = 5 ∨ op = 20
  · rw [if_pos h1, if_pos (show op = 5 ∨ op = 20 ∨ op = 21 from by omega)]; rfl
  · rw [if_neg h1, if_neg (show ¬ (op = 5 ∨ op = 20 ∨ op = 21) from by omega)]
    split <;> rfl
theorem in_zero (n : Int) : rngB n 0 0 = (n == 0) := by unfold rngB; rw [Bool.eq_iff_iff]; simp; omega
section
variable (op reg arg : Int) (w : World)
set_option maxRecDepth 100000 in
set_option maxHeartbeats 2000000 in
theorem valid (ht : OpsT w) : Calls Tryz.prog 116 #[.agg #[.int .i64 op, .int .i64 reg, .int .i64 arg]] w fun e w' => e = .returned (.bool (okIns op reg arg)) ∧ Below w.heap.size w w' := by
  have hb0 := alloc_below w (.cells #[.int .i64 op, .int .i64 reg, .int .i64 arg] 82)
  have HV := Lib.hid (ht.below hb0)
  have hlt := ht.lt
  clear ht
  by_cases h0 : 0 ≤ op ∧ op ≤ 21
  · have HY := Lib.hid (okIns_arg op reg arg h0)
    have HN := Lib.hid (okIns_reg op reg arg)
    obtain ⟨k, rfl⟩ : ∃ k : Nat, op = k := ⟨op.toNat, by omega⟩
    obtain ⟨-, h02⟩ := h0
    have h03 : ¬ (22 : Int) ≤ (k : Int) := by omega
    obtain ⟨c1, c2, c3, c4⟩ := HV.out k (by omega)
    generalize okIns k reg arg = o at HY HN ⊢
    generalize opWord k = s at c1
    generalize regT k = r at c2 HY HN
    generalize argT k = a at c3 HY HN
    generalize fixT k = c at c4
    by_cases h1 : 0 ≤ reg ∧ reg ≤ r
    · have q1 := rngB_t h1
      have HY := Lib.hid (HY.out h1)
      clear HV HN
      by_cases h2 : 0 ≤ arg ∧ arg ≤ a
      · have q2 := rngB_t h2
        have HY := Lib.hid (HY.out.trans q2)
        clear h1 h2
        go_enter Tryz.func116, Tryz.ntmps116
        go_wp2_with (go_at_call 32; refine (isUpToA _ _ _).mono ?_; rintro e w' ⟨rfl, rfl⟩)
        go_ret
        exact ⟨ret_bool HY.out.symm, hb0.alloc (by simp) _⟩
      · have q2 := rngB_f h2
        have HY := Lib.hid (HY.out.trans q2)
        clear h1 h2
        go_enter Tryz.func116, Tryz.ntmps116
        go_wp2_with (go_at_call 32; refine (isUpToA _ _ _).mono ?_; rintro e w' ⟨rfl, rfl⟩)
        go_ret
        exact ⟨ret_bool HY.out.symm, hb0.alloc (by simp) _⟩
    · have q1 := rngB_f h1
      have HY := Lib.hid (HN.out h1)
      clear HV HN h1
      go_enter Tryz.func116, Tryz.ntmps116
      go_wp2_with (go_at_call 32; refine (isUpToA _ _ _).mono ?_; rintro e w' ⟨rfl, rfl⟩)
      go_ret
      exact ⟨ret_bool HY.out.symm, hb0.alloc (by simp) _⟩
  · have HY := Lib.hid (okIns_op op reg arg h0)
    clear HV
    by_cases h1 : op < 0
    · clear h0
      go_enter Tryz.func116, Tryz.ntmps116
      go_wp2
      go_ret
      exact ⟨ret_bool HY.out.symm, hb0⟩
    · have h2 : 22 ≤ op := by omega
      clear h0
      go_enter Tryz.func116, Tryz.ntmps116
      go_wp2
      go_ret
      exact ⟨ret_bool HY.out.symm, hb0⟩

set_option maxRecDepth 100000 in
set_option maxHeartbeats 4000000 in
theorem specInstrOK : Calls Tryz.prog 107 #[.agg #[.int .i64 op, .int .i64 reg, .int .i64 arg]] w fun e w' => e = .returned (.bool (okIns op reg arg)) ∧ Below w.heap.size w w' := by
  have hb0 := alloc_below w (.cells #[.int .i64 op, .int .i64 reg, .int .i64 arg] 82)
  by_cases h0 : 0 ≤ op ∧ op ≤ 21
  · have HY := Lib.hid (okIns_arg op reg arg h0)
    have HN := Lib.hid (okIns_reg op reg arg)
    have p0 := rngB_t h0
    clear h0
    by_cases h5 : 5 ≤ op ∧ op ≤ 14
    · have p1 := rngB_t h5
      have HR : Hid (regT op = 3) := Lib.hid (by unfold regT; rw [if_pos h5])
      rw [HR.out] at HY HN
      have pb : bitI true = 1 := rfl
      clear h5
      by_cases h1 : 0 ≤ reg ∧ reg ≤ 3
      · have p2 := rngB_t h1
        have HY := Lib.hid (HY.out h1)
        clear HN h1
        have HG := Lib.hid (l07LengthA op)
        by_cases g0 : op = 21
        · subst g0
          have HY := Lib.hid HY.out
          generalize okIns 21 reg arg = o at HY ⊢
          have HA : Hid (argT 21 = 3) := Lib.hid (by decide)
          go_enter Tryz.func107, Tryz.ntmps107
          go_wp2
          go_quiet ((first | (go_at_call 38; exact quietSame (l01InA _ _ _ _)) | (go_at_call 123; exact quietSame (l07RegA _ _)) | (go_at_call 113; exact quietSame (l01BitA _ _))))
          go_wp2_with (first | (go_at_call 38; refine (l01InA _ _ _ _).mono ?_; rintro e w' ⟨rfl, rfl⟩) | (go_at_call 62; refine (HG.out _).mono ?_; rintro e w' ⟨rfl, rfl⟩))
          go_ret
          exact ⟨ret_bool (by rw [HY.out, HA.out]), below_drewN hb0 _⟩
        · have g1 := fun h => g0 h
          have HA := Lib.hid (arg_len op g0)
          clear g1
          generalize okIns op reg arg = o at HY ⊢
          have hl := lenT_range op
          generalize lenT op = l at HG HA hl
          have hl3 : l = 1 ∨ l = 2 ∨ l = 3 := by omega
          clear hl
          rcases hl3 with rfl | rfl | rfl
          · have HA2 := Lib.hid (HA.out.trans (show (if (1 : Int) = 1 then (0 : Int) else if (1 : Int) = 2 then 255 else 4095) = 0 from by decide))
            clear HA
            go_enter Tryz.func107, Tryz.ntmps107
            go_wp2
            go_quiet ((first | (go_at_call 38; exact quietSame (l01InA _ _ _ _)) | (go_at_call 123; exact quietSame (l07RegA _ _)) | (go_at_call 113; exact quietSame (l01BitA _ _))))
            go_wp2_with (first | (go_at_call 38; refine (l01InA _ _ _ _).mono ?_; rintro e w' ⟨rfl, rfl⟩) | (go_at_call 62; refine (HG.out _).mono ?_; rintro e w' ⟨rfl, rfl⟩))
            go_ret
            exact ⟨ret_bool (by rw [HY.out, HA2.out]; exact (in_zero _).symm), below_drewN hb0 _⟩
          · have HA2 := Lib.hid (HA.out.trans (show (if (2 : Int) = 1 then (0 : Int) else if (2 : Int) = 2 then 255 else 4095) = 255 from by decide))
            clear HA
            go_enter Tryz.func107, Tryz.ntmps107
            go_wp2
            go_quiet ((first | (go_at_call 38; exact quietSame (l01InA _ _ _ _)) | (go_at_call 123; exact quietSame (l07RegA _ _)) | (go_at_call 113; exact quietSame (l01BitA _ _))))
            go_wp2_with (first | (go_at_call 38; refine (l01InA _ _ _ _).mono ?_; rintro e w' ⟨rfl, rfl⟩) | (go_at_call 62; refine (HG.out _).mono ?_; rintro e w' ⟨rfl, rfl⟩))
            go_ret
            exact ⟨ret_bool (by rw [HY.out, HA2.out]), below_drewN hb0 _⟩
          · have HA2 := Lib.hid (HA.out.trans (show (if (3 : Int) = 1 then (0 : Int) else if (3 : Int) = 2 then 255 else 4095) = 4095 from by decide))
            clear HA
            go_enter Tryz.func107, Tryz.ntmps107
            go_wp2
            go_quiet ((first | (go_at_call 38; exact quietSame (l01InA _ _ _ _)) | (go_at_call 123; exact quietSame (l07RegA _ _)) | (go_at_call 113; exact quietSame (l01BitA _ _))))
            go_wp2_with (first | (go_at_call 38; refine (l01InA _ _ _ _).mono ?_; rintro e w' ⟨rfl, rfl⟩) | (go_at_call 62; refine (HG.out _).mono ?_; rintro e w' ⟨rfl, rfl⟩))
            go_ret
            exact ⟨ret_bool (by rw [HY.out, HA2.out]), below_drewN hb0 _⟩
      · have p2 := rngB_f h1
        have HY := Lib.hid (HN.out h1)
        clear HN h1
        go_enter Tryz.func107, Tryz.ntmps107
        go_wp2
        go_quiet ((first | (go_at_call 38; exact quietSame (l01InA _ _ _ _)) | (go_at_call 123; exact quietSame (l07RegA _ _)) | (go_at_call 113; exact quietSame (l01BitA _ _))))
        go_wp2
        go_ret
        exact ⟨ret_bool HY.out.symm, below_drewN hb0 _⟩
    · have p1 := rngB_f h5
      have HR : Hid (regT op = 0) := Lib.hid (by unfold regT; rw [if_neg h5])
      rw [HR.out] at HY HN
      have pb : bitI false = 0 := rfl
      clear h5
      by_cases h1 : 0 ≤ reg ∧ reg ≤ 0
      · have p2 := rngB_t h1
        have HY := Lib.hid (HY.out h1)
        clear HN h1
        have HG := Lib.hid (l07LengthA op)
        by_cases g0 : op = 21
        · subst g0
          have HY := Lib.hid HY.out
          generalize okIns 21 reg arg = o at HY ⊢
          have HA : Hid (argT 21 = 3) := Lib.hid (by decide)
          go_enter Tryz.func107, Tryz.ntmps107
          go_wp2
          go_quiet ((first | (go_at_call 38; exact quietSame (l01InA _ _ _ _)) | (go_at_call 123; exact quietSame (l07RegA _ _)) | (go_at_call 113; exact quietSame (l01BitA _ _))))
          go_wp2_with (first | (go_at_call 38; refine (l01InA _ _ _ _).mono ?_; rintro e w' ⟨rfl, rfl⟩) | (go_at_call 62; refine (HG.out _).mono ?_; rintro e w' ⟨rfl, rfl⟩))
          go_ret
          exact ⟨ret_bool (by rw [HY.out, HA.out]), below_drewN hb0 _⟩
        · have g1 := fun h => g0 h
          have HA := Lib.hid (arg_len op g0)
          clear g1
          generalize okIns op reg arg = o at HY ⊢
          have hl := lenT_range op
          generalize lenT op = l at HG HA hl
          have hl3 : l = 1 ∨ l = 2 ∨ l = 3 := by omega
          clear hl
          rcases hl3 with rfl | rfl | rfl
          · have HA2 := Lib.hid (HA.out.trans (show (if (1 : Int) = 1 then (0 : Int) else if (1 : Int) = 2 then 255 else 4095) = 0 from by decide))
            clear HA
            go_enter Tryz.func107, Tryz.ntmps107
            go_wp2
            go_quiet ((first | (go_at_call 38; exact quietSame (l01InA _ _ _ _)) | (go_at_call 123; exact quietSame (l07RegA _ _)) | (go_at_call 113; exact quietSame (l01BitA _ _))))
            go_wp2_with (first | (go_at_call 38; refine (l01InA _ _ _ _).mono ?_; rintro e w' ⟨rfl, rfl⟩) | (go_at_call 62; refine (HG.out _).mono ?_; rintro e w' ⟨rfl, rfl⟩))
            go_ret
            exact ⟨ret_bool (by rw [HY.out, HA2.out]; exact (in_zero _).symm), below_drewN hb0 _⟩
          · have HA2 := Lib.hid (HA.out.trans (show (if (2 : Int) = 1 then (0 : Int) else if (2 : Int) = 2 then 255 else 4095) = 255 from by decide))
            clear HA
            go_enter Tryz.func107, Tryz.ntmps107
            go_wp2
            go_quiet ((first | (go_at_call 38; exact quietSame (l01InA _ _ _ _)) | (go_at_call 123; exact quietSame (l07RegA _ _)) | (go_at_call 113; exact quietSame (l01BitA _ _))))
            go_wp2_with (first | (go_at_call 38; refine (l01InA _ _ _ _).mono ?_; rintro e w' ⟨rfl, rfl⟩) | (go_at_call 62; refine (HG.out _).mono ?_; rintro e w' ⟨rfl, rfl⟩))
            go_ret
            exact ⟨ret_bool (by rw [HY.out, HA2.out]), below_drewN hb0 _⟩
          · have HA2 := Lib.hid (HA.out.trans (show (if (3 : Int) = 1 then (0 : Int) else if (3 : Int) = 2 then 255 else 4095) = 4095 from by decide))
            clear HA
            go_enter Tryz.func107, Tryz.ntmps107
            go_wp2
            go_quiet ((first | (go_at_call 38; exact quietSame (l01InA _ _ _ _)) | (go_at_call 123; exact quietSame (l07RegA _ _)) | (go_at_call 113; exact quietSame (l01BitA _ _))))
            go_wp2_with (first | (go_at_call 38; refine (l01InA _ _ _ _).mono ?_; rintro e w' ⟨rfl, rfl⟩) | (go_at_call 62; refine (HG.out _).mono ?_; rintro e w' ⟨rfl, rfl⟩))
            go_ret
            exact ⟨ret_bool (by rw [HY.out, HA2.out]), below_drewN hb0 _⟩
      · have p2 := rngB_f h1
        have HY := Lib.hid (HN.out h1)
        clear HN h1
        go_enter Tryz.func107, Tryz.ntmps107
        go_wp2
        go_quiet ((first | (go_at_call 38; exact quietSame (l01InA _ _ _ _)) | (go_at_call 123; exact quietSame (l07RegA _ _)) | (go_at_call 113; exact quietSame (l01BitA _ _))))
        go_wp2
        go_ret
        exact ⟨ret_bool HY.out.symm, below_drewN hb0 _⟩
  · have HY := Lib.hid (okIns_op op reg arg h0)
    have p0 := rngB_f h0
    clear h0
    go_enter Tryz.func107, Tryz.ntmps107
    go_wp2
    go_quiet ((first | (go_at_call 38; exact quietSame (l01InA _ _ _ _)) | (go_at_call 123; exact quietSame (l07RegA _ _)) | (go_at_call 113; exact quietSame (l01BitA _ _))))
    go_wp2
    go_ret
    exact ⟨ret_bool HY.out.symm, below_drewN hb0 _⟩
end
end Go.Proofs.YtcchhbkbnbphhaaGreatDoor

/- LengthOf, CyclesOf on both sides. -/
namespace Go.Proofs.YtcchhbkbnbphhaaGreatDoor
open Go.RowKit

section
variable (n : Int) (w : World)
end
end Go.Proofs.YtcchhbkbnbphhaaGreatDoor

/- The laws' own functions over Flash, on leaves. Written by gen_t.py. -/
namespace Go.Proofs.YtcchhbkbnbphhaaGreatDoor
open Go.RowKit

end Go.Proofs.YtcchhbkbnbphhaaGreatDoor

/- The laws' own functions over Mem, on leaves. Written by gen_t.py. -/
namespace Go.Proofs.YtcchhbkbnbphhaaGreatDoor
open Go.RowKit

end Go.Proofs.YtcchhbkbnbphhaaGreatDoor

/- The laws' own functions over Irq, on leaves. Written by gen_t.py. -/
namespace Go.Proofs.YtcchhbkbnbphhaaGreatDoor
open Go.RowKit

end Go.Proofs.YtcchhbkbnbphhaaGreatDoor

/- An interrupt controller's validity: levels, lines, IrqOK on both sides, the checks of a line. -/
namespace Go.Proofs.YtcchhbkbnbphhaaGreatDoor
open Go.RowKit

def lvB (n : Int) : Bool := decide (0 ≤ n ∧ n ≤ 7)
set_option maxRecDepth 100000 in
theorem isLevel (n : Int) (w : World) : Calls Tryz.prog 36 #[.int .i64 n] w fun e w' => e = .returned (.bool (lvB n)) ∧ w = w' := by
  go_enter Tryz.func36, Tryz.ntmps36
  go_wp2
  all_goals go_ret
  all_goals (refine ⟨ret_bool ?_, rfl⟩)
  all_goals (unfold lvB; rw [Bool.eq_iff_iff]; simp; try omega)
section
variable (A0 A1 : Option Addr) (n0 n1 c0 c1 : Nat) (d0 : List Int) (d1 : List Bool) (w : World)
end
end Go.Proofs.YtcchhbkbnbphhaaGreatDoor

/- A region that draws its order, walked once by facts: each operation, once carried out, has its fact; a fact is kept by whatever comes behind it. -/
namespace Go.Proofs.YtcchhbkbnbphhaaGreatDoor
open Go.RowKit

def mask (l : List Nat) (T : Array Value) : Nat → Value := fun s => if l.contains s then T.getD s undef else undef
def regOk (ops : Array Oper) (sup bef : List (List Nat)) (base : List Nat) : Bool :=
  ((List.range ops.size).all fun i => match ops[i]? with
    | none => false
    | some o => o.guard.isNone && ((o.after.all fun e => !Region.binds .any e || decide (e.on < i)) && (((bef.getD i []).all fun j => o.after.any fun e => Region.binds .any e && (e.on == j || (bef.getD e.on []).contains j)) &&
        ((sup.getD i []).all fun s => (List.range ops.size).all fun j => (match ops[j]? with | some oj => oj.dst != some s | none => true) || ((j == i) || (bef.getD i []).contains j))))) &&
  (base.all fun s => (List.range ops.size).all fun j => match ops[j]? with | some oj => oj.dst != some s | none => true)

section
variable {P : Program} {ops : Array Oper} {Q : Exit → Act → World → Prop} {sup bef : List (List Nat)} {base : List Nat} {a : Act}

def StepF (P : Program) (Q : Exit → Act → World → Prop) (sup bef : List (List Nat)) (base : List Nat) (a : Act) (C : World → Prop) (F : Nat → (Nat → Value) → World → Prop) (i : Nat) (o : Oper) : Prop :=
  ∀ (T : Array Value) (W : World), T.size = a.tmps.size → (∀ s ∈ base, T.getD s undef = a.tmps.getD s undef) → C W → (∀ j ∈ bef.getD i [], F j (mask (sup.getD j []) T) W) →
    ∀ K : Act → World → Prop, Shut (∀ v W', C W' → (∀ j t, j ≠ i → F j t W → F j t W') → F i (mask (sup.getD i []) (Act.put { a with tmps := T } o.dst v).tmps) W' → K (Act.put { a with tmps := T } o.dst v) W') →
      Oper.wp P o { a with tmps := T } W K Q
def StepsF (P : Program) (Q : Exit → Act → World → Prop) (sup bef : List (List Nat)) (base : List Nat) (a : Act) (C : World → Prop) (F : Nat → (Nat → Value) → World → Prop) : Nat → List Oper → Prop
  | _, [] => True
  | i, o :: l => StepF P Q sup bef base a C F i o ∧ StepsF P Q sup bef base a C F (i + 1) l
theorem StepsF.get {C : World → Prop} {F : Nat → (Nat → Value) → World → Prop} : ∀ {l : List Oper} {i : Nat}, StepsF P Q sup bef base a C F i l → ∀ j o, l[j]? = some o → StepF P Q sup bef base a C F (i + j) o
  | [], _, _, j, o, h => by simp at h
  | o' :: l, i, hs, 0, o, h => by simp at h; subst h; exact hs.1
  | o' :: l, i, hs, j + 1, o, h => by
    have := StepsF.get hs.2 j o (by simpa using h)
    rwa [show i + 1 + j = i + (j + 1) by omega] at this

structure InvF (ops : Array Oper) (sup bef : List (List Nat)) (base : List Nat) (a : Act) (C : World → Prop) (F : Nat → (Nat → Value) → World → Prop) (L : Array Bool) (T : Array Value) (W : World) : Prop where
  size : T.size = a.tmps.size
  same : ∀ s ∈ base, T.getD s undef = a.tmps.getD s undef
  c : C W
  lsz : L.size = ops.size
  down : ∀ i, L.getD i false = true → ∀ j ∈ bef.getD i [], L.getD j false = true
  fact : ∀ i, L.getD i false = true → F i (mask (sup.getD i []) T) W

theorem getD_set_bool (L : Array Bool) (i j : Nat) (hi : i < L.size) : (L.setIfInBounds i true).getD j false = if j = i then true else L.getD j false := by
  simp only [Array.getD_eq_getD_getElem?]
  rw [Array.getElem?_setIfInBounds]
  by_cases h : i = j
  · subst h; simp [hi]
  · rw [if_neg h, if_neg (fun q => h q.symm)]
theorem getD_set_val (T : Array Value) (d s : Nat) (v : Value) (h : s ≠ d) : (T.setIfInBounds d v).getD s undef = T.getD s undef := by
  simp only [Array.getD_eq_getD_getElem?]
  rw [Array.getElem?_setIfInBounds, if_neg (fun q => h q.symm)]

theorem regOk_spec (h : regOk ops sup bef base = true) :
    (∀ (i : Nat) (o : Oper), ops[i]? = some o → o.guard = none ∧ (∀ e ∈ o.after, Region.binds .any e = true → e.on < i) ∧ (∀ j ∈ bef.getD i [], ∃ e ∈ o.after, Region.binds .any e = true ∧ (e.on = j ∨ j ∈ bef.getD e.on [])) ∧ (∀ s ∈ sup.getD i [], ∀ (j : Nat) (oj : Oper), ops[j]? = some oj → oj.dst = some s → j = i ∨ j ∈ bef.getD i [])) ∧
    (∀ s ∈ base, ∀ (j : Nat) (oj : Oper), ops[j]? = some oj → oj.dst ≠ some s) := by
  unfold regOk at h
  rw [Bool.and_eq_true, List.all_eq_true, List.all_eq_true] at h
  refine ⟨fun i o ho => ?_, fun s hs j oj hj hd => ?_⟩
  · have hi : i < ops.size := (Array.getElem?_eq_some_iff.1 ho).1
    have := h.1 i (List.mem_range.2 hi)
    rw [ho] at this
    simp only [Bool.and_eq_true, Array.all_eq_true_iff_forall_mem, List.all_eq_true, decide_eq_true_eq, Option.isNone_iff_eq_none] at this
    obtain ⟨h1, h2, h3, h4⟩ := this
    refine ⟨h1, fun e he hbd => ?_, fun j hj => ?_, fun s hs j oj hoj hd => ?_⟩
    · have := h2 e he
      rw [hbd] at this
      simpa using this
    · have := h3 j hj
      obtain ⟨e, he, hb⟩ := Array.any_eq_true'.1 this
      simp only [Bool.and_eq_true, Bool.or_eq_true, beq_iff_eq, List.contains_iff_mem] at hb
      exact ⟨e, he, hb⟩
    · have hj : j < ops.size := (Array.getElem?_eq_some_iff.1 hoj).1
      have := h4 s hs j (List.mem_range.2 hj)
      rw [hoj] at this
      simp only [hd, Bool.or_eq_true, bne_self_eq_false, beq_iff_eq, List.contains_iff_mem] at this
      simpa using this
  · have hj' : j < ops.size := (Array.getElem?_eq_some_iff.1 hj).1
    have := List.all_eq_true.1 (h.2 s hs) j (List.mem_range.2 hj')
    rw [hj] at this
    simp [hd] at this

theorem ready_nil_all {L : Array Bool} (hL : L.size = ops.size) (hlow : ∀ (i : Nat) (o : Oper), ops[i]? = some o → ∀ e ∈ o.after, Region.binds .any e = true → e.on < i) (h : Region.ready .any ops L = []) : ∀ i, i < ops.size → L.getD i false = true := by
  intro i
  induction i using Nat.strongRecOn with
  | ind i ih =>
    intro hi
    by_cases hl : L.getD i false = true
    · exact hl
    · exfalso
      have hm : i ∈ Region.ready .any ops L := mem_ready.2 ⟨by
        simp only [Array.getD_eq_getD_getElem?] at hl ⊢
        rw [Array.getElem?_eq_getElem (by omega)] at hl ⊢
        simpa using hl, ops[i], Array.getElem?_eq_getElem hi, fun e he hbd => ih e.on (hlow i _ (Array.getElem?_eq_getElem hi) e he hbd) (by have := hlow i _ (Array.getElem?_eq_getElem hi) e he hbd; omega)⟩
      rw [h] at hm
      cases hm

theorem wpAny_facts (hok : regOk ops sup bef base = true) (C : World → Prop) (F : Nat → (Nat → Value) → World → Prop)
    (hstep : StepsF P Q sup bef base a C F 0 ops.toList)
    (hend : ∀ T W, T.size = a.tmps.size → (∀ s ∈ base, T.getD s undef = a.tmps.getD s undef) → C W → (∀ i, i < ops.size → F i (mask (sup.getD i []) T) W) → Q .normal { a with tmps := T } W) :
    ∀ (fuel : Nat) (L : Array Bool) (T : Array Value) (W : World), InvF ops sup bef base a C F L T W → (L.toList.count false ≤ fuel) → wpAny P .any ops Q fuel L { a with tmps := T } W := by
  obtain ⟨hops, hbase⟩ := regOk_spec hok
  have hlow := fun i o ho => (hops i o ho).2.1
  have fin : ∀ L T W, InvF ops sup bef base a C F L T W → Region.ready .any ops L = [] → Q .normal { a with tmps := T } W := fun L T W I hr => hend T W I.size I.same I.c (fun i hi => I.fact i (ready_nil_all I.lsz hlow hr i hi))
  intro fuel
  induction fuel with
  | zero =>
    intro L T W I hf
    have hr : Region.ready .any ops L = [] := by
      apply List.eq_nil_iff_forall_not_mem.2
      intro j hj
      obtain ⟨h1, o, ho, _⟩ := mem_ready.1 hj
      have hjl : j < L.size := by rw [I.lsz]; exact (Array.getElem?_eq_some_iff.1 ho).1
      have : false ∈ L.toList := by
        simp only [Array.getD_eq_getD_getElem?] at h1
        rw [Array.getElem?_eq_getElem hjl] at h1
        simp only [Option.getD_some] at h1
        rw [← h1]
        simp
      have := List.count_pos_iff.2 this
      omega
    exact ⟨hr, fin L T W I hr⟩
  | succ fuel ih =>
    intro L T W I hf
    refine ⟨fin L T W I, fun i hi => ?_⟩
    obtain ⟨h1, o, ho, hall⟩ := mem_ready.1 hi
    have hil : i < L.size := by rw [I.lsz]; exact (Array.getElem?_eq_some_iff.1 ho).1
    have hlf : L.getD i false = false := by
      simp only [Array.getD_eq_getD_getElem?] at h1 ⊢
      rw [Array.getElem?_eq_getElem hil] at h1 ⊢
      simpa using h1
    obtain ⟨hg, hlo, hbf, hsp⟩ := hops i o ho
    have hbef : ∀ j ∈ bef.getD i [], L.getD j false = true := fun j hj => by
      obtain ⟨e, he, hb, q⟩ := hbf j hj
      have he' := hall e he hb
      rcases q with rfl | q
      · exact he'
      · exact I.down e.on he' j q
    have hs : StepF P Q sup bef base a C F i o := by
      have := hstep.get i o (by simpa using ho)
      simpa using this
    refine wpOp_step ho (fun K' hK => ?_)
    rw [if_pos (by simp [Region.wanted, hg])]
    refine hs T W I.size I.same I.c (fun j hj => I.fact j (hbef j hj)) K' (fun v W' hc hkeep hnew => hK _ _ ?_)
    have hnotin : ∀ k, L.getD k false = true → k ≠ i := fun k hk e => by subst e; rw [hlf] at hk; cases hk
    have hput : (Act.put { a with tmps := T } o.dst v) = { a with tmps := (Act.put { a with tmps := T } o.dst v).tmps } := by
      unfold Act.put; cases o.dst <;> rfl
    have hslot : ∀ s, o.dst ≠ some s → (Act.put { a with tmps := T } o.dst v).tmps.getD s undef = T.getD s undef := fun s hd => by
      cases hdd : o.dst with
      | none => rfl
      | some d => exact getD_set_val T d s v (fun e => hd (by rw [hdd, e]))
    rw [hput]
    refine ih _ _ W' ⟨?_, ?_, hc, by simpa using I.lsz, ?_, ?_⟩ ?_
    · rw [← I.size]; cases hdd : o.dst <;> simp [Act.put]
    · intro s hsb
      rw [hslot s (hbase s hsb i o ho)]
      exact I.same s hsb
    · intro k hk j hj
      rw [getD_set_bool L i k hil] at hk
      rw [getD_set_bool L i j hil]
      by_cases hki : k = i
      · subst hki
        rw [hbef j hj]; simp
      · rw [if_neg hki] at hk
        rw [I.down k hk j hj]; simp
    · intro k hk
      rw [getD_set_bool L i k hil] at hk
      by_cases hki : k = i
      · subst hki; exact hnew
      · rw [if_neg hki] at hk
        have hF := hkeep k _ hki (I.fact k hk)
        have hmk : mask (sup.getD k []) (Act.put { a with tmps := T } o.dst v).tmps = mask (sup.getD k []) T := by
          funext s
          unfold mask
          by_cases hsup : s ∈ sup.getD k []
          · rw [if_pos (List.contains_iff_mem.2 hsup), if_pos (List.contains_iff_mem.2 hsup)]
            refine hslot s (fun hd => ?_)
            have hko : k < ops.size := by
              rw [← I.lsz]
              apply Classical.byContradiction
              intro hn
              simp only [Array.getD_eq_getD_getElem?] at hk
              rw [Array.getElem?_eq_none (by omega)] at hk
              cases hk
            rcases (hops k _ (Array.getElem?_eq_getElem hko)).2.2.2 s hsup i o ho hd with q | q
            · exact hki q.symm
            · have := I.down k hk i q
              rw [hlf] at this
              cases this
          · rw [if_neg (fun q => hsup (List.contains_iff_mem.1 q)), if_neg (fun q => hsup (List.contains_iff_mem.1 q))]
        rw [hmk]; exact hF
    · have hset : (L.setIfInBounds i true).toList = L.toList.set i true := by simp
      rw [hset]
      have hct : (L.toList.set i true).count false + 1 = L.toList.count false := by
        have hx : L.toList[i]'(by simpa using hil) = false := by
          simp only [Array.getD_eq_getD_getElem?] at hlf
          rw [Array.getElem?_eq_getElem hil] at hlf
          simpa using hlf
        rw [List.count_set (by simpa using hil)]
        have hpos : 0 < L.toList.count false := List.count_pos_iff.2 (by rw [← hx]; exact List.getElem_mem _)
        rw [hx]
        simp only [beq_self_eq_true, if_true, show (true == false) = false from rfl, Bool.false_eq_true, if_false]
        omega
      omega

theorem wp_region_facts {id : Nat} {w : World} (hm : P.follows .mixedOrders = true) (sup bef : List (List Nat)) (base : List Nat) (hok : regOk ops sup bef base = true) (C : World → Prop) (F : Nat → (Nat → Value) → World → Prop) (hC : C w.drew)
    (hstep : StepsF P Q sup bef base a C F 0 ops.toList)
    (hend : ∀ T W, T.size = a.tmps.size → (∀ s ∈ base, T.getD s undef = a.tmps.getD s undef) → C W → (∀ i, i < ops.size → F i (mask (sup.getD i []) T) W) → Q .normal { a with tmps := T } W) :
    (Code.region id ops true).wp P Q a w := by
  refine wp_region_any hm ?_
  have := wpAny_facts hok C F hstep hend ops.size (Array.replicate ops.size false) a.tmps w.drew ⟨rfl, fun _ _ => rfl, hC, by simp, fun i hi => ?_, fun i hi => ?_⟩ (by simp)
  · exact this
  all_goals (
    exfalso
    simp only [Array.getD_eq_getD_getElem?] at hi
    rw [Array.getElem?_replicate] at hi
    split at hi <;> simp at hi)
end
end Go.Proofs.YtcchhbkbnbphhaaGreatDoor

/- A region that draws its order and whose last operation (a store, as a rule) waits for all others: walked once by facts; behind the last another thing holds of the world than ahead of it. -/
namespace Go.Proofs.YtcchhbkbnbphhaaGreatDoor
open Go.RowKit
section
variable {P : Program} {ops : Array Oper} {Q : Exit → Act → World → Prop} {sup bef : List (List Nat)} {base : List Nat} {a : Act}
def lastOk (ops : Array Oper) (bef : List (List Nat)) (z : Nat) : Bool := decide (z < ops.size) && (List.range ops.size).all fun i => decide (i = z) || (bef.getD z []).contains i
theorem lastOk_spec {z : Nat} (h : lastOk ops bef z = true) : z < ops.size ∧ ∀ i, i < ops.size → i ≠ z → i ∈ bef.getD z [] := by
  unfold lastOk at h
  rw [Bool.and_eq_true, List.all_eq_true] at h
  refine ⟨by simpa using h.1, fun i hi hne => ?_⟩
  have := h.2 i (List.mem_range.2 hi)
  rw [Bool.or_eq_true] at this
  rcases this with q | q
  · exact (hne (by simpa using q)).elim
  · exact List.contains_iff_mem.1 q
def StepZ (P : Program) (Q : Exit → Act → World → Prop) (sup bef : List (List Nat)) (base : List Nat) (a : Act) (z : Nat) (C0 C1 : World → Prop) (F : Nat → (Nat → Value) → World → Prop) (i : Nat) (o : Oper) : Prop :=
  ∀ (T : Array Value) (W : World), T.size = a.tmps.size → (∀ s ∈ base, T.getD s undef = a.tmps.getD s undef) → C0 W → (∀ j ∈ bef.getD i [], F j (mask (sup.getD j []) T) W) →
    ∀ K : Act → World → Prop, Shut (∀ v W', (if i = z then C1 W' else C0 W') → (∀ j t, j ≠ i → F j t W → F j t W') → F i (mask (sup.getD i []) (Act.put { a with tmps := T } o.dst v).tmps) W' → K (Act.put { a with tmps := T } o.dst v) W') →
      Oper.wp P o { a with tmps := T } W K Q
def StepsZ (P : Program) (Q : Exit → Act → World → Prop) (sup bef : List (List Nat)) (base : List Nat) (a : Act) (z : Nat) (C0 C1 : World → Prop) (F : Nat → (Nat → Value) → World → Prop) : Nat → List Oper → Prop
  | _, [] => True
  | i, o :: l => StepZ P Q sup bef base a z C0 C1 F i o ∧ StepsZ P Q sup bef base a z C0 C1 F (i + 1) l
theorem StepsZ.get {z : Nat} {C0 C1 : World → Prop} {F : Nat → (Nat → Value) → World → Prop} : ∀ {l : List Oper} {i : Nat}, StepsZ P Q sup bef base a z C0 C1 F i l → ∀ j o, l[j]? = some o → StepZ P Q sup bef base a z C0 C1 F (i + j) o
  | [], _, _, j, o, h => by simp at h
  | o' :: l, i, hs, 0, o, h => by simp at h; subst h; exact hs.1
  | o' :: l, i, hs, j + 1, o, h => by
    have := StepsZ.get hs.2 j o (by simpa using h)
    rwa [show i + 1 + j = i + (j + 1) by omega] at this
structure InvZ (ops : Array Oper) (sup bef : List (List Nat)) (base : List Nat) (a : Act) (z : Nat) (C0 C1 : World → Prop) (F : Nat → (Nat → Value) → World → Prop) (L : Array Bool) (T : Array Value) (W : World) : Prop where
  size : T.size = a.tmps.size
  same : ∀ s ∈ base, T.getD s undef = a.tmps.getD s undef
  c0 : L.getD z false = false → C0 W
  c1 : L.getD z false = true → C1 W
  lsz : L.size = ops.size
  down : ∀ i, L.getD i false = true → ∀ j ∈ bef.getD i [], L.getD j false = true
  fact : ∀ i, L.getD i false = true → F i (mask (sup.getD i []) T) W
theorem wpAny_last (hok : regOk ops sup bef base = true) (z : Nat) (hz : ∀ i, i < ops.size → i ≠ z → i ∈ bef.getD z []) (C0 C1 : World → Prop) (F : Nat → (Nat → Value) → World → Prop)
    (hstep : StepsZ P Q sup bef base a z C0 C1 F 0 ops.toList)
    (hend : ∀ T W, T.size = a.tmps.size → (∀ s ∈ base, T.getD s undef = a.tmps.getD s undef) → (if z < ops.size then C1 W else C0 W) → (∀ i, i < ops.size → F i (mask (sup.getD i []) T) W) → Q .normal { a with tmps := T } W) :
    ∀ (fuel : Nat) (L : Array Bool) (T : Array Value) (W : World), InvZ ops sup bef base a z C0 C1 F L T W → (L.toList.count false ≤ fuel) → wpAny P .any ops Q fuel L { a with tmps := T } W := by
  obtain ⟨hops, hbase⟩ := regOk_spec hok
  have hlow := fun i o ho => (hops i o ho).2.1
  have fin : ∀ L T W, InvZ ops sup bef base a z C0 C1 F L T W → Region.ready .any ops L = [] → Q .normal { a with tmps := T } W := fun L T W I hr => hend T W I.size I.same (by
    by_cases q : z < ops.size
    · rw [if_pos q]; exact I.c1 (ready_nil_all I.lsz hlow hr z q)
    · rw [if_neg q]; refine I.c0 ?_; simp only [Array.getD_eq_getD_getElem?]; rw [Array.getElem?_eq_none (by rw [I.lsz]; omega)]; rfl) (fun i hi => I.fact i (ready_nil_all I.lsz hlow hr i hi))
  intro fuel
  induction fuel with
  | zero =>
    intro L T W I hf
    have hr : Region.ready .any ops L = [] := by
      apply List.eq_nil_iff_forall_not_mem.2
      intro j hj
      obtain ⟨h1, o, ho, _⟩ := mem_ready.1 hj
      have hjl : j < L.size := by rw [I.lsz]; exact (Array.getElem?_eq_some_iff.1 ho).1
      have : false ∈ L.toList := by
        simp only [Array.getD_eq_getD_getElem?] at h1
        rw [Array.getElem?_eq_getElem hjl] at h1
        simp only [Option.getD_some] at h1
        rw [← h1]
        simp
      have := List.count_pos_iff.2 this
      omega
    exact ⟨hr, fin L T W I hr⟩
  | succ fuel ih =>
    intro L T W I hf
    refine ⟨fin L T W I, fun i hi => ?_⟩
    obtain ⟨h1, o, ho, hall⟩ := mem_ready.1 hi
    have hil : i < L.size := by rw [I.lsz]; exact (Array.getElem?_eq_some_iff.1 ho).1
    have hlf : L.getD i false = false := by
      simp only [Array.getD_eq_getD_getElem?] at h1 ⊢
      rw [Array.getElem?_eq_getElem hil] at h1 ⊢
      simpa using h1
    obtain ⟨hg, hlo, hbf, hsp⟩ := hops i o ho
    have hbef : ∀ j ∈ bef.getD i [], L.getD j false = true := fun j hj => by
      obtain ⟨e, he, hb, q⟩ := hbf j hj
      have he' := hall e he hb
      rcases q with rfl | q
      · exact he'
      · exact I.down e.on he' j q
    have hz0 : L.getD z false = false := by
      cases hq : L.getD z false with
      | false => rfl
      | true =>
        exfalso
        by_cases e : i = z
        · subst e; rw [hlf] at hq; cases hq
        · have := I.down z hq i (hz i (by rw [← I.lsz]; exact hil) e)
          rw [hlf] at this; cases this
    have hs : StepZ P Q sup bef base a z C0 C1 F i o := by
      have := hstep.get i o (by simpa using ho)
      simpa using this
    refine wpOp_step ho (fun K' hK => ?_)
    rw [if_pos (by simp [Region.wanted, hg])]
    refine hs T W I.size I.same (I.c0 hz0) (fun j hj => I.fact j (hbef j hj)) K' (fun v W' hc hkeep hnew => hK _ _ ?_)
    have hnotin : ∀ k, L.getD k false = true → k ≠ i := fun k hk e => by subst e; rw [hlf] at hk; cases hk
    have hput : (Act.put { a with tmps := T } o.dst v) = { a with tmps := (Act.put { a with tmps := T } o.dst v).tmps } := by
      unfold Act.put; cases o.dst <;> rfl
    have hslot : ∀ s, o.dst ≠ some s → (Act.put { a with tmps := T } o.dst v).tmps.getD s undef = T.getD s undef := fun s hd => by
      cases hdd : o.dst with
      | none => rfl
      | some d => exact getD_set_val T d s v (fun e => hd (by rw [hdd, e]))
    rw [hput]
    refine ih _ _ W' ⟨?_, ?_, fun q => ?_, fun q => ?_, by simpa using I.lsz, ?_, ?_⟩ ?_
    · rw [← I.size]; cases hdd : o.dst <;> simp [Act.put]
    · intro s hsb
      rw [hslot s (hbase s hsb i o ho)]
      exact I.same s hsb
    · rw [getD_set_bool L i z hil] at q
      by_cases e : z = i
      · rw [if_pos e] at q; cases q
      · rw [if_neg (fun h => e h.symm)] at hc; exact hc
    · rw [getD_set_bool L i z hil] at q
      by_cases e : z = i
      · rw [if_pos e.symm] at hc; exact hc
      · rw [if_neg e, hz0] at q; cases q
    · intro k hk j hj
      rw [getD_set_bool L i k hil] at hk
      rw [getD_set_bool L i j hil]
      by_cases hki : k = i
      · subst hki
        rw [hbef j hj]; simp
      · rw [if_neg hki] at hk
        rw [I.down k hk j hj]; simp
    · intro k hk
      rw [getD_set_bool L i k hil] at hk
      by_cases hki : k = i
      · subst hki; exact hnew
      · rw [if_neg hki] at hk
        have hF := hkeep k _ hki (I.fact k hk)
        have hmk : mask (sup.getD k []) (Act.put { a with tmps := T } o.dst v).tmps = mask (sup.getD k []) T := by
          funext s
          unfold mask
          by_cases hsup : s ∈ sup.getD k []
          · rw [if_pos (List.contains_iff_mem.2 hsup), if_pos (List.contains_iff_mem.2 hsup)]
            refine hslot s (fun hd => ?_)
            have hko : k < ops.size := by
              rw [← I.lsz]
              apply Classical.byContradiction
              intro hn
              simp only [Array.getD_eq_getD_getElem?] at hk
              rw [Array.getElem?_eq_none (by omega)] at hk
              cases hk
            rcases (hops k _ (Array.getElem?_eq_getElem hko)).2.2.2 s hsup i o ho hd with q | q
            · exact hki q.symm
            · have := I.down k hk i q
              rw [hlf] at this
              cases this
          · rw [if_neg (fun q => hsup (List.contains_iff_mem.1 q)), if_neg (fun q => hsup (List.contains_iff_mem.1 q))]
        rw [hmk]; exact hF
    · have hset : (L.setIfInBounds i true).toList = L.toList.set i true := by simp
      rw [hset]
      have hct : (L.toList.set i true).count false + 1 = L.toList.count false := by
        have hx : L.toList[i]'(by simpa using hil) = false := by
          simp only [Array.getD_eq_getD_getElem?] at hlf
          rw [Array.getElem?_eq_getElem hil] at hlf
          simpa using hlf
        rw [List.count_set (by simpa using hil)]
        have hpos : 0 < L.toList.count false := List.count_pos_iff.2 (by rw [← hx]; exact List.getElem_mem _)
        rw [hx]
        simp only [beq_self_eq_true, if_true, show (true == false) = false from rfl, Bool.false_eq_true, if_false]
        omega
      omega

theorem wp_region_last {id : Nat} {w : World} (hm : P.follows .mixedOrders = true) (sup bef : List (List Nat)) (base : List Nat) (hok : regOk ops sup bef base = true) (z : Nat) (hz : lastOk ops bef z = true) (C0 C1 : World → Prop) (F : Nat → (Nat → Value) → World → Prop) (hC : C0 w.drew)
    (hstep : StepsZ P Q sup bef base a z C0 C1 F 0 ops.toList)
    (hend : ∀ T W, T.size = a.tmps.size → (∀ s ∈ base, T.getD s undef = a.tmps.getD s undef) → C1 W → (∀ i, i < ops.size → F i (mask (sup.getD i []) T) W) → Q .normal { a with tmps := T } W) :
    (Code.region id ops true).wp P Q a w := by
  refine wp_region_any hm ?_
  have := wpAny_last hok z (lastOk_spec hz).2 C0 C1 F hstep (fun T W h1 h2 h3 h4 => hend T W h1 h2 (by rwa [if_pos (lastOk_spec hz).1] at h3) h4) ops.size (Array.replicate ops.size false) a.tmps w.drew ⟨rfl, fun _ _ => rfl, fun _ => hC, fun q => by simp only [Array.getD_eq_getD_getElem?] at q; rw [Array.getElem?_replicate] at q; split at q <;> simp at q, by simp, fun i hi => ?_, fun i hi => ?_⟩ (by simp)
  · exact this
  all_goals (
    exfalso
    simp only [Array.getD_eq_getD_getElem?] at hi
    rw [Array.getElem?_replicate] at hi
    split at hi <;> simp at hi)
end
end Go.Proofs.YtcchhbkbnbphhaaGreatDoor

/- Contracts of sectors, fateOf, tear, settle: what a crash makes of a disk. -/
namespace Go.Proofs.YtcchhbkbnbphhaaGreatDoor
open Go.RowKit

def cellsS (ss : List ByteArray) : List Value := ss.map Value.string
theorem cellsS_len (ss : List ByteArray) : (cellsS ss).length = ss.length := by simp [cellsS]
theorem StrL.src {w : World} {A : Option Addr} {ss : List ByteArray} (h : StrL w A ss) (hp : 0 < (cellsS ss).length) : ∃ ad, A = some ad ∧ ∀ j v, (cellsS ss)[j]? = some v → w.cell? (ad.add j) = some v := by
  rw [cellsS_len] at hp
  obtain ⟨b, off, e, _⟩ := h 0 hp
  refine ⟨⟨b, off, none⟩, e, fun j v hj => ?_⟩
  have hj' : j < ss.length := by have := (List.getElem?_eq_some_iff.1 hj).1; simpa [cellsS] using this
  obtain ⟨b', off', e', hc⟩ := h j hj'
  rw [e] at e'
  injection e' with e'
  injection e' with e1 e2
  subst e1 e2
  have hv : v = Value.string (ss.getD j ByteArray.empty) := by
    unfold cellsS at hj
    rw [List.getElem?_map, List.getElem?_eq_getElem hj', Option.map_some] at hj
    rw [List.getD_eq_getElem?_getD, List.getElem?_eq_getElem hj']
    exact (Option.some.inj hj).symm
  rw [hv, ← hc]
  unfold Addr.add
  by_cases h0 : j = 0
  · subst h0; simp
  · rw [if_neg h0]

theorem getD_set (l : List ByteArray) (p j : Nat) (x : ByteArray) (h : p < l.length) : (l.set p x).getD j ByteArray.empty = if j = p then x else l.getD j ByteArray.empty := by
  simp only [List.getD_eq_getElem?_getD, List.getElem?_set]
  by_cases e : j = p
  · subst e; rw [if_pos rfl, if_pos rfl, if_pos h]; rfl
  · rw [if_neg (fun h => e h.symm), if_neg e]
structure Ok (ss : List ByteArray) (ws : List (Int × ByteArray)) : Prop where
  n48 : ss.length = 48
  m60 : ws.length ≤ 60
  small : ∀ s ∈ ss, s.size ≤ 100
  smallW : ∀ x ∈ ws, x.2.size ≤ 100
  at_ : ∀ x ∈ ws, 0 ≤ x.1 ∧ x.1 ≤ 47
end Go.Proofs.YtcchhbkbnbphhaaGreatDoor

/- Contract of the model's flush: l01Flush. -/
namespace Go.Proofs.YtcchhbkbnbphhaaGreatDoor
open Go.RowKit

def RowS (w : World) (b n m : Nat) (l : List ByteArray) : Prop := l.length = n ∧ n ≤ m ∧ ∃ f, w.rowIs b 9 m f ∧ ∀ i, i < n → f i = .string (l.getD i ByteArray.empty)
theorem RowS.cell {w : World} {b n m p : Nat} {l : List ByteArray} (h : RowS w b n m l) (hp : p < n) : w.cell? ⟨b, p, none⟩ = some (.string (l.getD p ByteArray.empty)) := by
  obtain ⟨_, hm, f, hr, hf⟩ := h
  rw [← hf p hp]; exact hr.cell (by omega)
theorem RowS.frozen {w : World} {b n m : Nat} {l : List ByteArray} (h : RowS w b n m l) (p : Nat) : w.frozen? ⟨b, p, none⟩ = false := by
  obtain ⟨_, hm, f, hr, hf⟩ := h
  exact hr.frozen p
theorem RowS.lt {w : World} {b n m : Nat} {l : List ByteArray} (h : RowS w b n m l) : b < w.heap.size := by
  obtain ⟨_, hm, f, hr, hf⟩ := h
  exact hr.lt
theorem RowS.below {w w' : World} {b n m : Nat} {l : List ByteArray} (h : RowS w b n m l) (hb : Below w.heap.size w w') : RowS w' b n m l := by
  obtain ⟨hl, hm, f, hr, hf⟩ := h
  exact ⟨hl, hm, f, row_below hb hr hr.lt, hf⟩
theorem RowS.set {w : World} {b n m p : Nat} {l : List ByteArray} (h : RowS w b n m l) (hp : p < n) (x : ByteArray) : RowS (w.setCell ⟨b, p, none⟩ (.string x)) b n m (l.set p x) := by
  obtain ⟨hl, hm, f, hr, hf⟩ := h
  refine ⟨by simpa using hl, hm, _, hr.set p (.string x), fun i hi => ?_⟩
  rw [getD_set l p i x (by omega)]
  by_cases e : i = p
  · rw [if_pos e, if_pos e]
  · rw [if_neg e, if_neg e]; exact hf i hi
theorem RowS.far {w : World} {b n m : Nat} {l : List ByteArray} (h : RowS w b n m l) {a : Addr} (ha : b ≠ a.block) (v : Value) : RowS (w.setCell a v) b n m l := by
  obtain ⟨hl, hm, f, hr, hf⟩ := h
  exact ⟨hl, hm, f, hr.setOther ha v, hf⟩
theorem RowS.own {w : World} {b n m lo hi : Nat} {l : List ByteArray} (h : RowS w b n m l) (h1 : lo ≤ b) (h2 : b < hi) : OwnS w lo hi (some ⟨b, 0, none⟩) l := by
  obtain ⟨hl, hm, f, hr, hf⟩ := h
  exact .inr ⟨b, m, f, rfl, h1, h2, by omega, hr, fun i hi => hf i (by omega)⟩

end Go.Proofs.YtcchhbkbnbphhaaGreatDoor

/- Contracts of the model's crash: l01Crash; of the tests of fates. -/
namespace Go.Proofs.YtcchhbkbnbphhaaGreatDoor
open Go.RowKit

end Go.Proofs.YtcchhbkbnbphhaaGreatDoor

/- The model's source of draws: byte, next, chance. -/
namespace Go.Proofs.YtcchhbkbnbphhaaGreatDoor
open Go.RowKit

def ByB (w : World) (lo : Nat) (A : Option Addr) (zs : List Nat) : Prop :=
  ∀ i, i < zs.length → ∃ b off, A = some ⟨b, off, none⟩ ∧ b < lo ∧ w.cell? ⟨b, off + i, none⟩ = some (.int .u8 (zs.getD i 0 : Nat)) ∧ zs.getD i 0 < 256
theorem ByB.btw {w w' : World} {lo l h' : Nat} {A : Option Addr} {zs : List Nat} (h : ByB w lo A zs) (hb : Btw l h' w w') (ho : lo ≤ l) : ByB w' lo A zs := fun i hi => by
  obtain ⟨b, off, e, q1, q2, q3⟩ := h i hi
  exact ⟨b, off, e, q1, hb.cell q2 (.inl (by show b < l; omega)), q3⟩
def Src (w : World) (b : Nat) (A : Option Addr) (n c : Nat) (zs : List Nat) (K : Nat) : Prop :=
  ∃ k sd : Nat, Box w b 75 #[.slice A n c, .int .i64 k, .int .i64 sd] ∧ k ≤ K ∧ sd < 2147483648 ∧ zs.length = n ∧ ByB w b A zs
theorem Src.btw {w w' : World} {b l h' : Nat} {A : Option Addr} {n c : Nat} {zs : List Nat} {K : Nat} (h : Src w b A n c zs K) (hb : Btw l h' w w') (ho : b < l) : Src w' b A n c zs K := by
  obtain ⟨k, sd, q1, q2, q3, q4, q5⟩ := h
  exact ⟨k, sd, q1.btw hb (.inl ho), q2, q3, q4, q5.btw hb (by omega)⟩
theorem Src.lt {w : World} {b : Nat} {A : Option Addr} {n c : Nat} {zs : List Nat} {K : Nat} (h : Src w b A n c zs K) : b < w.heap.size := by
  obtain ⟨k, sd, q1, _⟩ := h
  exact q1.lt
theorem Src.mono {w : World} {b : Nat} {A : Option Addr} {n c : Nat} {zs : List Nat} {K K' : Nat} (h : Src w b A n c zs K) (hk : K ≤ K') : Src w b A n c zs K' := by
  obtain ⟨k, sd, q1, q2, q3⟩ := h
  exact ⟨k, sd, q1, by omega, q3⟩

theorem src_at {w : World} {b : Nat} {A : Option Addr} {n c : Nat} {k sd : Nat} (X : Box w b 75 #[.slice A n c, .int .i64 k, .int .i64 sd]) :
    Box (w.setCell ⟨b, 1, none⟩ (.int .i64 ((k : Int) + 1))) b 75 #[.slice A n c, .int .i64 ((k + 1 : Nat) : Int), .int .i64 sd] := X.set 1 (.int .i64 ((k : Int) + 1))
theorem src_seed {w : World} {b : Nat} {A : Option Addr} {n c : Nat} {k sd : Nat} (X : Box w b 75 #[.slice A n c, .int .i64 k, .int .i64 sd]) (s2 : Nat) :
    Box (w.setCell ⟨b, 2, none⟩ (.int .i64 (s2 : Int))) b 75 #[.slice A n c, .int .i64 k, .int .i64 s2] := X.set 2 (.int .i64 (s2 : Int))

def SrcX (w : World) (b : Nat) (A : Option Addr) (n c : Nat) (zs : List Nat) (k sd : Nat) : Prop :=
  Box w b 75 #[.slice A n c, .int .i64 k, .int .i64 sd] ∧ sd < 2147483648 ∧ zs.length = n ∧ ByB w b A zs
def byteV (zs : List Nat) (k sd : Nat) : Nat × Nat × Nat :=
  if k < zs.length then (zs.getD k 0, k + 1, (sd * 31 + zs.getD k 0 + 7) % 2147483648) else if 3000 < k + 1 then (0, k + 1, sd) else ((sd * 1103515245 + 12345) % 2147483648 / 65536 % 256, k + 1, (sd * 1103515245 + 12345) % 2147483648)
theorem byteV_at (zs : List Nat) (k sd : Nat) : (byteV zs k sd).2.1 = k + 1 := by
  unfold byteV; split
  · rfl
  · split <;> rfl
theorem SrcX.src {w : World} {b : Nat} {A : Option Addr} {n c : Nat} {zs : List Nat} {k sd : Nat} (h : SrcX w b A n c zs k sd) {K : Nat} (hk : k ≤ K) : Src w b A n c zs K := ⟨k, sd, h.1, hk, h.2.1, h.2.2.1, h.2.2.2⟩
theorem Src.exact {w : World} {b : Nat} {A : Option Addr} {n c : Nat} {zs : List Nat} {K : Nat} (h : Src w b A n c zs K) : ∃ k sd, k ≤ K ∧ SrcX w b A n c zs k sd := by
  obtain ⟨k, sd, q1, q2, q3, q4, q5⟩ := h
  exact ⟨k, sd, q2, q1, q3, q4, q5⟩
set_option maxRecDepth 100000 in
set_option maxHeartbeats 4000000 in
theorem srcByteX (b : Nat) (A : Option Addr) (n c : Nat) (zs : List Nat) (k sd : Nat) (w : World) (hk9 : k ≤ 1000000000) (h : SrcX w b A n c zs k sd) :
    Calls Tryz.prog 77 #[.pointer (some ⟨b, 0, none⟩)] w fun e w' => e = .returned (.int .i64 ((byteV zs k sd).1 : Nat)) ∧ Hid (SrcX w' b A n c zs (byteV zs k sd).2.1 (byteV zs k sd).2.2) ∧ Btw b (b + 1) w w' := by
  obtain ⟨X, hs, hl, hz⟩ := h
  have HX := Lib.hid (src_at X)
  have HB : Hid (Btw b (b + 1) w (w.setCell ⟨b, 1, none⟩ (.int .i64 ((k : Int) + 1)))) := Lib.hid ((Btw.refl b (b + 1) w).setCell (p := ⟨b, 1, none⟩) (by show b ≤ b; omega) (by show b < b + 1; omega) _)
  have HZ := Lib.hid (hz.btw HB.out (Nat.le_refl _))
  have HL := Lib.hid hl
  have f1 : w.cell? ⟨b, 1, none⟩ = some (.int .i64 k) := X.cell 1 rfl
  have g1 := X.frozen 1
  clear X hz hl
  go_enter Tryz.func77, Tryz.ntmps77
  go_wp2
  generalize w.setCell ⟨b, 1, none⟩ (.int .i64 ((k : Int) + 1)) = w1 at HX HB HZ ⊢
  clear f1 g1
  have f0 : w1.cell? ⟨b, 0, none⟩ = some (.slice A n c) := HX.out.cell 0 rfl
  have f1 : w1.cell? ⟨b, 1, none⟩ = some (.int .i64 ((k : Int) + 1)) := HX.out.cell 1 rfl
  have f2 : w1.cell? ⟨b, 2, none⟩ = some (.int .i64 sd) := HX.out.cell 2 rfl
  have g2 := HX.out.frozen 2
  by_cases hlt : k < n
  · have hlt' : (k : Int) + 1 ≤ (n : Int) := by omega
    have hk0 : (0 : Int) ≤ (k : Int) := by omega
    have hki : (k : Int) < (n : Int) := by omega
    obtain ⟨bb, off, rfl, hbb, hc, hv⟩ := HZ.out k (by rw [HL.out]; exact hlt)
    have HV : Hid (byteV zs k sd = (zs.getD k 0, k + 1, (sd * 31 + zs.getD k 0 + 7) % 2147483648)) := Lib.hid (by unfold byteV; rw [if_pos (by rw [HL.out]; exact hlt)])
    generalize zs.getD k 0 = x at hc hv HV
    have hne : ¬ bb = b := by omega
    go_quiet (fail)
    go_wp2
    have HX2 := Lib.hid (HX.out.drewN nq)
    have HB2 := Lib.hid (HB.out.drewN nq)
    have HZ2 := Lib.hid (HZ.out.btw ((Btw.refl b (b + 1) w1).drewN nq) (Nat.le_refl _))
    have hc2 : (w1.drewN nq).cell? ⟨bb, off + k, none⟩ = some (.int .u8 (x : Nat)) := hc
    clear f0 f1 f2 g2 hc HX HB HZ
    generalize w1.drewN nq = w2 at HX2 HB2 HZ2 hc2 ⊢
    have f0 : w2.cell? ⟨b, 0, none⟩ = some (.slice (some ⟨bb, off, none⟩) n c) := HX2.out.cell 0 rfl
    have f1 : w2.cell? ⟨b, 1, none⟩ = some (.int .i64 ((k : Int) + 1)) := HX2.out.cell 1 rfl
    have f2 : w2.cell? ⟨b, 2, none⟩ = some (.int .i64 sd) := HX2.out.cell 2 rfl
    have g2 := HX2.out.frozen 2
    have t0 : (0 : Int) ≤ (sd : Int) := by omega
    have u1 : IntKind.i64.wrap ((sd : Int) * 31) = (sd : Int) * 31 := IntWalk.i64_in _ ⟨by omega, by omega⟩
    have u2 : IntKind.i64.wrap (k : Int) = (k : Int) := IntWalk.i64_in _ ⟨by omega, by omega⟩
    have u3 : IntKind.i64.wrap (x : Int) = (x : Int) := IntWalk.i64_in _ ⟨by omega, by omega⟩
    have u4 : IntKind.i64.wrap ((sd : Int) * 31 + (x : Int)) = (sd : Int) * 31 + (x : Int) := IntWalk.i64_in _ ⟨by omega, by omega⟩
    have u5 : IntKind.i64.wrap ((sd : Int) * 31 + (x : Int) + 7) = (sd : Int) * 31 + (x : Int) + 7 := IntWalk.i64_in _ ⟨by omega, by omega⟩
    go_still_tail 21, (by kernel_rfl)
    change wpList _ _ _ _ _ w2.drew
    go_wp2
    clear u1 u2 u3 u4 u5
    have e1 : ((sd : Int) * 31 + (x : Int) + 7) % 2147483648 = (((sd * 31 + x + 7) % 2147483648 : Nat) : Int) := by omega
    have e2 : (sd * 31 + x + 7) % 2147483648 < 2147483648 := Nat.mod_lt _ (by omega)
    rw [e1]
    clear e1
    generalize (sd * 31 + x + 7) % 2147483648 = s2 at e2 HV ⊢
    have kA : Btw b (b + 1) w2 ((w2.setCell ⟨b, 2, none⟩ (.int .i64 (s2 : Int))).drew) := ((Btw.refl b (b + 1) _).setCell (p := ⟨b, 2, none⟩) (by show b ≤ b; omega) (by show b < b + 1; omega) _).drew
    have HX3 := Lib.hid (src_seed HX2.out s2).drew
    have HB3 := Lib.hid (HB2.out.trans kA)
    have HZ3 := Lib.hid (HZ2.out.btw kA (Nat.le_refl _))
    have hc3 := kA.cell hc2 (.inl hbb)
    clear f0 f1 f2 g2 hc2 HX2 HB2 HZ2 kA
    generalize (w2.setCell ⟨b, 2, none⟩ (.int .i64 (s2 : Int))).drew = w3 at HX3 HB3 HZ3 hc3 ⊢
    have f0 : w3.cell? ⟨b, 0, none⟩ = some (.slice (some ⟨bb, off, none⟩) n c) := HX3.out.cell 0 rfl
    have f1 : w3.cell? ⟨b, 1, none⟩ = some (.int .i64 ((k : Int) + 1)) := HX3.out.cell 1 rfl
    have u2 : IntKind.i64.wrap (k : Int) = (k : Int) := IntWalk.i64_in _ ⟨by omega, by omega⟩
    have u3 : IntKind.i64.wrap (x : Int) = (x : Int) := IntWalk.i64_in _ ⟨by omega, by omega⟩
    go_quiet (fail)
    clear u2 u3
    go_wp2
    refine bodyPost_ret (v := .int .i64 (x : Int)) (by simp [results, Tryz.results77, go_sem]) rfl ?_
    rw [HV.out]
    exact ⟨rfl, Lib.hid ⟨HX3.out.drewN _, e2, HL.out, HZ3.out.btw ((Btw.refl b (b + 1) w3).drewN _) (Nat.le_refl _)⟩, HB3.out.drewN _⟩
  · have hlt' : ¬ (k : Int) + 1 ≤ (n : Int) := by omega
    by_cases h3 : 3000 < (k : Int) + 1
    · have HV : Hid (byteV zs k sd = (0, k + 1, sd)) := Lib.hid (by unfold byteV; rw [if_neg (by rw [HL.out]; exact hlt), if_pos (by omega)])
      go_quiet (fail)
      go_wp2
      refine bodyPost_ret (v := .int .i64 ((0 : Nat) : Int)) (by simp [results, Tryz.results77, go_sem]) rfl ?_
      rw [HV.out]
      exact ⟨rfl, Lib.hid ⟨HX.out.drewN nq, hs, HL.out, HZ.out.btw ((Btw.refl b (b + 1) w1).drewN nq) (Nat.le_refl _)⟩, HB.out.drewN nq⟩
    · have HV : Hid (byteV zs k sd = ((sd * 1103515245 + 12345) % 2147483648 / 65536 % 256, k + 1, (sd * 1103515245 + 12345) % 2147483648)) := Lib.hid (by unfold byteV; rw [if_neg (by rw [HL.out]; exact hlt), if_neg (by omega)])
      go_quiet (fail)
      go_wp2
      have e1 : ((sd : Int) * 1103515245 + 12345) % 2147483648 = (((sd * 1103515245 + 12345) % 2147483648 : Nat) : Int) := by omega
      have e2 : (sd * 1103515245 + 12345) % 2147483648 < 2147483648 := Nat.mod_lt _ (by omega)
      rw [e1]
      generalize (sd * 1103515245 + 12345) % 2147483648 = s2 at e2 HV ⊢
      have e3 : (s2 : Int) / 65536 % 256 = ((s2 / 65536 % 256 : Nat) : Int) := by omega
      rw [e3]
      have kA : Btw b (b + 1) (w1.drewN nq) ((w1.drewN nq).setCell ⟨b, 2, none⟩ (.int .i64 (s2 : Int))) := (Btw.refl b (b + 1) _).setCell (p := ⟨b, 2, none⟩) (by show b ≤ b; omega) (by show b < b + 1; omega) _
      have kB := ((Btw.refl b (b + 1) w1).drewN nq).trans kA
      refine bodyPost_ret (v := .int .i64 ((s2 / 65536 % 256 : Nat) : Int)) (by simp [results, Tryz.results77, go_sem]) rfl ?_
      rw [HV.out]
      exact ⟨rfl, Lib.hid ⟨src_seed (HX.out.drewN nq) s2, e2, HL.out, HZ.out.btw kB (Nat.le_refl _)⟩, HB.out.trans kB⟩

end Go.Proofs.YtcchhbkbnbphhaaGreatDoor
