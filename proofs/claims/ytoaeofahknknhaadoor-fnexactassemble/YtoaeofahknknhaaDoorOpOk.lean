/- Valid instructions, lengths and cycles: both sides. -/
import Derived.Test.YtoaeofahknknhaaDoorOpTab
import Derived.Test.YtoaeofahknknhaaDoorQuiet
namespace Go.Proofs.YtoaeofahknknhaaDoor
open Go.RowKit

def rngB (n lo hi : Int) : Bool := decide (lo ≤ n ∧ n ≤ hi)
def bitI (b : Bool) : Int := if b then 1 else 0
theorem rngB_t {n lo hi : Int} (h : lo ≤ n ∧ n ≤ hi) : rngB n lo hi = true := by simp [rngB, h]
theorem rngB_f {n lo hi : Int} (h : ¬ (lo ≤ n ∧ n ≤ hi)) : rngB n lo hi = false := by simp only [rngB, decide_eq_false_iff_not]; exact h
set_option maxRecDepth 100000 in
theorem l01InA (n lo hi : Int) (w : World) : Calls Tryd.prog 64 #[.int .i64 n, .int .i64 lo, .int .i64 hi] w fun e w' => e = .returned (.bool (rngB n lo hi)) ∧ w = w' := by
  go_enter Tryd.func64, Tryd.ntmps64
  go_wp2
  all_goals go_ret
  all_goals (refine ⟨ret_bool ?_, rfl⟩)
  all_goals (unfold rngB; rw [Bool.eq_iff_iff]; simp; try omega)
set_option maxRecDepth 100000 in
theorem isUpToA (n l : Int) (w : World) : Calls Tryd.prog 72 #[.int .i64 n, .int .i64 l] w fun e w' => e = .returned (.bool (rngB n 0 l)) ∧ w = w' := by
  go_enter Tryd.func72, Tryd.ntmps72
  go_wp2
  all_goals go_ret
  all_goals (refine ⟨ret_bool ?_, rfl⟩)
  all_goals (unfold rngB; rw [Bool.eq_iff_iff]; simp; try omega)
set_option maxRecDepth 100000 in
theorem isByteA (n : Int) (w : World) : Calls Tryd.prog 56 #[.int .i64 n] w fun e w' => e = .returned (.bool (rngB n 0 255)) ∧ w = w' := by
  go_enter Tryd.func56, Tryd.ntmps56
  go_wp2
  all_goals go_ret
  all_goals (refine ⟨ret_bool ?_, rfl⟩)
  all_goals (unfold rngB; rw [Bool.eq_iff_iff]; simp; try omega)
set_option maxRecDepth 100000 in
theorem l01BitA (b : Bool) (w : World) : Calls Tryd.prog 65 #[.bool b] w fun e w' => e = .returned (.int .i64 (bitI b)) ∧ w = w' := by
  cases b
  all_goals
    go_enter Tryd.func65, Tryd.ntmps65
    go_wp2
    go_ret
    exact ⟨rfl, rfl⟩
set_option maxRecDepth 100000 in
theorem l07RegA (n : Int) (w : World) : Calls Tryd.prog 66 #[.int .i64 n] w fun e w' => e = .returned (.bool (rngB n 5 14)) ∧ w = w' := by
  go_enter Tryd.func66, Tryd.ntmps66
  go_wp2_with (go_at_call 64; refine (l01InA _ _ _ _).mono ?_; rintro e w' ⟨rfl, rfl⟩)
  go_ret
  exact ⟨rfl, rfl⟩
set_option maxRecDepth 100000 in
theorem l07OpA (n : Int) (w : World) : Calls Tryd.prog 54 #[.int .i64 n] w fun e w' => e = .returned (.bool (rngB n 0 22)) ∧ w = w' := by
  go_enter Tryd.func54, Tryd.ntmps54
  go_wp2_with (go_at_call 64; refine (l01InA _ _ _ _).mono ?_; rintro e w' ⟨rfl, rfl⟩)
  go_ret
  exact ⟨rfl, rfl⟩
set_option maxRecDepth 100000 in
theorem l07LengthA (n : Int) (w : World) : Calls Tryd.prog 67 #[.int .i64 n] w fun e w' => e = .returned (.int .i64 (lenT n)) ∧ w = w' := by
  by_cases h5 : n = 5
  · subst h5
    have HL : Hid (lenT 5 = 2) := Lib.hid (by decide)
    generalize lenT 5 = z at HL
    go_enter Tryd.func67, Tryd.ntmps67
    go_wp2
    go_ret
    exact ⟨ret_int HL.out.symm, rfl⟩
  by_cases h20 : n = 20
  · subst h20
    have HL : Hid (lenT 20 = 2) := Lib.hid (by decide)
    generalize lenT 20 = z at HL
    go_enter Tryd.func67, Tryd.ntmps67
    go_wp2
    go_ret
    exact ⟨ret_int HL.out.symm, rfl⟩
  by_cases h21 : n = 21
  · subst h21
    have HL : Hid (lenT 21 = 2) := Lib.hid (by decide)
    generalize lenT 21 = z at HL
    go_enter Tryd.func67, Tryd.ntmps67
    go_wp2
    go_ret
    exact ⟨ret_int HL.out.symm, rfl⟩
  by_cases h6 : n = 6
  · subst h6
    have HL : Hid (lenT 6 = 3) := Lib.hid (by decide)
    generalize lenT 6 = z at HL
    go_enter Tryd.func67, Tryd.ntmps67
    go_wp2
    go_ret
    exact ⟨ret_int HL.out.symm, rfl⟩
  by_cases h7 : n = 7
  · subst h7
    have HL : Hid (lenT 7 = 3) := Lib.hid (by decide)
    generalize lenT 7 = z at HL
    go_enter Tryd.func67, Tryd.ntmps67
    go_wp2
    go_ret
    exact ⟨ret_int HL.out.symm, rfl⟩
  by_cases h15 : n = 15
  · subst h15
    have HL : Hid (lenT 15 = 3) := Lib.hid (by decide)
    generalize lenT 15 = z at HL
    go_enter Tryd.func67, Tryd.ntmps67
    go_wp2
    go_ret
    exact ⟨ret_int HL.out.symm, rfl⟩
  by_cases h16 : n = 16
  · subst h16
    have HL : Hid (lenT 16 = 3) := Lib.hid (by decide)
    generalize lenT 16 = z at HL
    go_enter Tryd.func67, Tryd.ntmps67
    go_wp2
    go_ret
    exact ⟨ret_int HL.out.symm, rfl⟩
  by_cases h17 : n = 17
  · subst h17
    have HL : Hid (lenT 17 = 3) := Lib.hid (by decide)
    generalize lenT 17 = z at HL
    go_enter Tryd.func67, Tryd.ntmps67
    go_wp2
    go_ret
    exact ⟨ret_int HL.out.symm, rfl⟩
  by_cases h18 : n = 18
  · subst h18
    have HL : Hid (lenT 18 = 3) := Lib.hid (by decide)
    generalize lenT 18 = z at HL
    go_enter Tryd.func67, Tryd.ntmps67
    go_wp2
    go_ret
    exact ⟨ret_int HL.out.symm, rfl⟩
  have HL : Hid (lenT n = 1) := Lib.hid (by unfold lenT; rw [if_neg (by omega), if_neg (by omega)])
  generalize lenT n = z at HL
  go_enter Tryd.func67, Tryd.ntmps67
  go_wp2
  go_ret
  exact ⟨ret_int HL.out.symm, rfl⟩
set_option maxRecDepth 100000 in
theorem l07CyclesA (n : Int) (w : World) : Calls Tryd.prog 55 #[.int .i64 n] w fun e w' => e = .returned (.int .i64 (cycT n)) ∧ w = w' := by
  by_cases h18 : n = 18
  · subst h18
    have HL : Hid (cycT 18 = 8) := Lib.hid (by decide)
    generalize cycT 18 = z at HL
    go_enter Tryd.func55, Tryd.ntmps55
    go_wp2
    go_ret
    exact ⟨ret_int HL.out.symm, rfl⟩
  by_cases h19 : n = 19
  · subst h19
    have HL : Hid (cycT 19 = 8) := Lib.hid (by decide)
    generalize cycT 19 = z at HL
    go_enter Tryd.func55, Tryd.ntmps55
    go_wp2
    go_ret
    exact ⟨ret_int HL.out.symm, rfl⟩
  by_cases h2 : n = 2
  · subst h2
    have HL : Hid (cycT 2 = 8) := Lib.hid (by decide)
    generalize cycT 2 = z at HL
    go_enter Tryd.func55, Tryd.ntmps55
    go_wp2
    go_ret
    exact ⟨ret_int HL.out.symm, rfl⟩
  by_cases h20 : n = 20
  · subst h20
    have HL : Hid (cycT 20 = 12) := Lib.hid (by decide)
    generalize cycT 20 = z at HL
    go_enter Tryd.func55, Tryd.ntmps55
    go_wp2
    go_ret
    exact ⟨ret_int HL.out.symm, rfl⟩
  by_cases h22 : n = 22
  · subst h22
    have HL : Hid (cycT 22 = 12) := Lib.hid (by decide)
    generalize cycT 22 = z at HL
    go_enter Tryd.func55, Tryd.ntmps55
    go_wp2
    go_ret
    exact ⟨ret_int HL.out.symm, rfl⟩
  have HL : Hid (cycT n = 2 * lenT n) := Lib.hid (by unfold cycT; rw [if_neg (by omega), if_neg (by omega)])
  generalize cycT n = z at HL
  have hr := lenT_range n
  have HG := Lib.hid (l07LengthA n)
  generalize lenT n = l at HL hr HG
  obtain ⟨hr1, hr2⟩ := hr
  go_enter Tryd.func55, Tryd.ntmps55
  go_wp2_with (go_at_call 67; refine (HG.out _).mono ?_; rintro e w' ⟨rfl, rfl⟩)
  go_ret
  exact ⟨ret_int HL.out.symm, rfl⟩
theorem okIns_op (op reg arg : Int) (h : ¬ (0 ≤ op ∧ op ≤ 21)) : okIns op reg arg = false := by unfold okIns; simp only [decide_eq_false_iff_not]; omega
theorem okIns_reg (op reg arg : Int) (h : ¬ (0 ≤ reg ∧ reg ≤ regT op)) : okIns op reg arg = false := by unfold okIns; simp only [decide_eq_false_iff_not]; omega
theorem okIns_arg (op reg arg : Int) (h0 : 0 ≤ op ∧ op ≤ 21) (h : 0 ≤ reg ∧ reg ≤ regT op) : okIns op reg arg = rngB arg 0 (argT op) := by
  unfold okIns rngB; rw [Bool.eq_iff_iff]; simp only [decide_eq_true_eq]; omega
theorem arg_len (op : Int) (h : ¬ op = 21) : argT op = (if lenT op = 1 then 0 else if lenT op = 2 then 255 else 4095) := by
  unfold argT lenT
  rw [if_neg h]
  by_cases h1 : op = 5 ∨ op = 20
  · rw [if_pos h1, if_pos (show op = 5 ∨ op = 20 ∨ op = 21 from by omega)]; rfl
  · rw [if_neg h1, if_neg (show ¬ (op = 5 ∨ op = 20 ∨ op = 21) from by omega)]
    split <;> rfl
theorem in_zero (n : Int) : rngB n 0 0 = (n == 0) := by unfold rngB; rw [Bool.eq_iff_iff]; simp; omega
section
variable (op reg arg : Int) (w : World)
set_option maxRecDepth 100000 in
set_option maxHeartbeats 2000000 in
theorem valid (ht : OpsT w) : Calls Tryd.prog 45 #[.agg #[.int .i64 op, .int .i64 reg, .int .i64 arg]] w fun e w' => e = .returned (.bool (okIns op reg arg)) ∧ Below w.heap.size w w' := by
  have hb0 := alloc_below w (.cells #[.int .i64 op, .int .i64 reg, .int .i64 arg] 24)
  have HV := Lib.hid (ht.below hb0)
  have hlt := ht.lt
  clear ht
  by_cases h0 : 0 ≤ op ∧ op ≤ 21
  · have HY := Lib.hid (okIns_arg op reg arg h0)
    have HN := Lib.hid (okIns_reg op reg arg)
    obtain ⟨k, rfl⟩ : ∃ k : Nat, op = k := ⟨op.toNat, by omega⟩
    obtain ⟨-, h02⟩ := h0
    have h03 : ¬ (22 : Int) ≤ (k : Int) := by omega
    obtain ⟨c1, c2, c3, c4⟩ := HV.out k (by omega)
    generalize okIns k reg arg = o at HY HN ⊢
    generalize opWord k = s at c1
    generalize regT k = r at c2 HY HN
    generalize argT k = a at c3 HY HN
    generalize fixT k = c at c4
    by_cases h1 : 0 ≤ reg ∧ reg ≤ r
    · have q1 := rngB_t h1
      have HY := Lib.hid (HY.out h1)
      clear HV HN
      by_cases h2 : 0 ≤ arg ∧ arg ≤ a
      · have q2 := rngB_t h2
        have HY := Lib.hid (HY.out.trans q2)
        clear h1 h2
        go_enter Tryd.func45, Tryd.ntmps45
        go_wp2_with (go_at_call 72; refine (isUpToA _ _ _).mono ?_; rintro e w' ⟨rfl, rfl⟩)
        go_ret
        exact ⟨ret_bool HY.out.symm, hb0.alloc (by simp) _⟩
      · have q2 := rngB_f h2
        have HY := Lib.hid (HY.out.trans q2)
        clear h1 h2
        go_enter Tryd.func45, Tryd.ntmps45
        go_wp2_with (go_at_call 72; refine (isUpToA _ _ _).mono ?_; rintro e w' ⟨rfl, rfl⟩)
        go_ret
        exact ⟨ret_bool HY.out.symm, hb0.alloc (by simp) _⟩
    · have q1 := rngB_f h1
      have HY := Lib.hid (HN.out h1)
      clear HV HN h1
      go_enter Tryd.func45, Tryd.ntmps45
      go_wp2_with (go_at_call 72; refine (isUpToA _ _ _).mono ?_; rintro e w' ⟨rfl, rfl⟩)
      go_ret
      exact ⟨ret_bool HY.out.symm, hb0.alloc (by simp) _⟩
  · have HY := Lib.hid (okIns_op op reg arg h0)
    clear HV
    by_cases h1 : op < 0
    · clear h0
      go_enter Tryd.func45, Tryd.ntmps45
      go_wp2
      go_ret
      exact ⟨ret_bool HY.out.symm, hb0⟩
    · have h2 : 22 ≤ op := by omega
      clear h0
      go_enter Tryd.func45, Tryd.ntmps45
      go_wp2
      go_ret
      exact ⟨ret_bool HY.out.symm, hb0⟩

set_option maxRecDepth 100000 in
theorem implInstrOK (ht : OpsT w) : Calls Tryd.prog 22 #[.agg #[.int .i64 op, .int .i64 reg, .int .i64 arg]] w fun e w' => e = .returned (.bool (okIns op reg arg)) ∧ Below w.heap.size w w' := by
  have hb0 := alloc_below w (.cells #[.int .i64 op, .int .i64 reg, .int .i64 arg] 24)
  have HV := Lib.hid (valid op reg arg _ (ht.below hb0))
  clear ht
  go_enter Tryd.func22, Tryd.ntmps22
  go_wp2_with fail
  refine HV.out.mono ?_
  rintro e w1 ⟨rfl, hb1⟩
  go_wp2
  go_ret
  exact ⟨rfl, bt hb0 hb1⟩

set_option maxRecDepth 100000 in
set_option maxHeartbeats 4000000 in
theorem specInstrOK : Calls Tryd.prog 29 #[.agg #[.int .i64 op, .int .i64 reg, .int .i64 arg]] w fun e w' => e = .returned (.bool (okIns op reg arg)) ∧ Below w.heap.size w w' := by
  have hb0 := alloc_below w (.cells #[.int .i64 op, .int .i64 reg, .int .i64 arg] 24)
  by_cases h0 : 0 ≤ op ∧ op ≤ 21
  · have HY := Lib.hid (okIns_arg op reg arg h0)
    have HN := Lib.hid (okIns_reg op reg arg)
    have p0 := rngB_t h0
    clear h0
    by_cases h5 : 5 ≤ op ∧ op ≤ 14
    · have p1 := rngB_t h5
      have HR : Hid (regT op = 3) := Lib.hid (by unfold regT; rw [if_pos h5])
      rw [HR.out] at HY HN
      have pb : bitI true = 1 := rfl
      clear h5
      by_cases h1 : 0 ≤ reg ∧ reg ≤ 3
      · have p2 := rngB_t h1
        have HY := Lib.hid (HY.out h1)
        clear HN h1
        have HG := Lib.hid (l07LengthA op)
        by_cases g0 : op = 21
        · subst g0
          have HY := Lib.hid HY.out
          generalize okIns 21 reg arg = o at HY ⊢
          have HA : Hid (argT 21 = 3) := Lib.hid (by decide)
          go_enter Tryd.func29, Tryd.ntmps29
          go_wp2
          go_quiet ((first | (go_at_call 64; exact quietSame (l01InA _ _ _ _)) | (go_at_call 66; exact quietSame (l07RegA _ _)) | (go_at_call 65; exact quietSame (l01BitA _ _))))
          go_wp2_with (first | (go_at_call 64; refine (l01InA _ _ _ _).mono ?_; rintro e w' ⟨rfl, rfl⟩) | (go_at_call 67; refine (HG.out _).mono ?_; rintro e w' ⟨rfl, rfl⟩))
          go_ret
          exact ⟨ret_bool (by rw [HY.out, HA.out]), below_drewN hb0 _⟩
        · have g1 := fun h => g0 h
          have HA := Lib.hid (arg_len op g0)
          clear g1
          generalize okIns op reg arg = o at HY ⊢
          have hl := lenT_range op
          generalize lenT op = l at HG HA hl
          have hl3 : l = 1 ∨ l = 2 ∨ l = 3 := by omega
          clear hl
          rcases hl3 with rfl | rfl | rfl
          · have HA2 := Lib.hid (HA.out.trans (show (if (1 : Int) = 1 then (0 : Int) else if (1 : Int) = 2 then 255 else 4095) = 0 from by decide))
            clear HA
            go_enter Tryd.func29, Tryd.ntmps29
            go_wp2
            go_quiet ((first | (go_at_call 64; exact quietSame (l01InA _ _ _ _)) | (go_at_call 66; exact quietSame (l07RegA _ _)) | (go_at_call 65; exact quietSame (l01BitA _ _))))
            go_wp2_with (first | (go_at_call 64; refine (l01InA _ _ _ _).mono ?_; rintro e w' ⟨rfl, rfl⟩) | (go_at_call 67; refine (HG.out _).mono ?_; rintro e w' ⟨rfl, rfl⟩))
            go_ret
            exact ⟨ret_bool (by rw [HY.out, HA2.out]; exact (in_zero _).symm), below_drewN hb0 _⟩
          · have HA2 := Lib.hid (HA.out.trans (show (if (2 : Int) = 1 then (0 : Int) else if (2 : Int) = 2 then 255 else 4095) = 255 from by decide))
            clear HA
            go_enter Tryd.func29, Tryd.ntmps29
            go_wp2
            go_quiet ((first | (go_at_call 64; exact quietSame (l01InA _ _ _ _)) | (go_at_call 66; exact quietSame (l07RegA _ _)) | (go_at_call 65; exact quietSame (l01BitA _ _))))
            go_wp2_with (first | (go_at_call 64; refine (l01InA _ _ _ _).mono ?_; rintro e w' ⟨rfl, rfl⟩) | (go_at_call 67; refine (HG.out _).mono ?_; rintro e w' ⟨rfl, rfl⟩))
            go_ret
            exact ⟨ret_bool (by rw [HY.out, HA2.out]), below_drewN hb0 _⟩
          · have HA2 := Lib.hid (HA.out.trans (show (if (3 : Int) = 1 then (0 : Int) else if (3 : Int) = 2 then 255 else 4095) = 4095 from by decide))
            clear HA
            go_enter Tryd.func29, Tryd.ntmps29
            go_wp2
            go_quiet ((first | (go_at_call 64; exact quietSame (l01InA _ _ _ _)) | (go_at_call 66; exact quietSame (l07RegA _ _)) | (go_at_call 65; exact quietSame (l01BitA _ _))))
            go_wp2_with (first | (go_at_call 64; refine (l01InA _ _ _ _).mono ?_; rintro e w' ⟨rfl, rfl⟩) | (go_at_call 67; refine (HG.out _).mono ?_; rintro e w' ⟨rfl, rfl⟩))
            go_ret
            exact ⟨ret_bool (by rw [HY.out, HA2.out]), below_drewN hb0 _⟩
      · have p2 := rngB_f h1
        have HY := Lib.hid (HN.out h1)
        clear HN h1
        go_enter Tryd.func29, Tryd.ntmps29
        go_wp2
        go_quiet ((first | (go_at_call 64; exact quietSame (l01InA _ _ _ _)) | (go_at_call 66; exact quietSame (l07RegA _ _)) | (go_at_call 65; exact quietSame (l01BitA _ _))))
        go_wp2
        go_ret
        exact ⟨ret_bool HY.out.symm, below_drewN hb0 _⟩
    · have p1 := rngB_f h5
      have HR : Hid (regT op = 0) := Lib.hid (by unfold regT; rw [if_neg h5])
      rw [HR.out] at HY HN
      have pb : bitI false = 0 := rfl
      clear h5
      by_cases h1 : 0 ≤ reg ∧ reg ≤ 0
      · have p2 := rngB_t h1
        have HY := Lib.hid (HY.out h1)
        clear HN h1
        have HG := Lib.hid (l07LengthA op)
        by_cases g0 : op = 21
        · subst g0
          have HY := Lib.hid HY.out
          generalize okIns 21 reg arg = o at HY ⊢
          have HA : Hid (argT 21 = 3) := Lib.hid (by decide)
          go_enter Tryd.func29, Tryd.ntmps29
          go_wp2
          go_quiet ((first | (go_at_call 64; exact quietSame (l01InA _ _ _ _)) | (go_at_call 66; exact quietSame (l07RegA _ _)) | (go_at_call 65; exact quietSame (l01BitA _ _))))
          go_wp2_with (first | (go_at_call 64; refine (l01InA _ _ _ _).mono ?_; rintro e w' ⟨rfl, rfl⟩) | (go_at_call 67; refine (HG.out _).mono ?_; rintro e w' ⟨rfl, rfl⟩))
          go_ret
          exact ⟨ret_bool (by rw [HY.out, HA.out]), below_drewN hb0 _⟩
        · have g1 := fun h => g0 h
          have HA := Lib.hid (arg_len op g0)
          clear g1
          generalize okIns op reg arg = o at HY ⊢
          have hl := lenT_range op
          generalize lenT op = l at HG HA hl
          have hl3 : l = 1 ∨ l = 2 ∨ l = 3 := by omega
          clear hl
          rcases hl3 with rfl | rfl | rfl
          · have HA2 := Lib.hid (HA.out.trans (show (if (1 : Int) = 1 then (0 : Int) else if (1 : Int) = 2 then 255 else 4095) = 0 from by decide))
            clear HA
            go_enter Tryd.func29, Tryd.ntmps29
            go_wp2
            go_quiet ((first | (go_at_call 64; exact quietSame (l01InA _ _ _ _)) | (go_at_call 66; exact quietSame (l07RegA _ _)) | (go_at_call 65; exact quietSame (l01BitA _ _))))
            go_wp2_with (first | (go_at_call 64; refine (l01InA _ _ _ _).mono ?_; rintro e w' ⟨rfl, rfl⟩) | (go_at_call 67; refine (HG.out _).mono ?_; rintro e w' ⟨rfl, rfl⟩))
            go_ret
            exact ⟨ret_bool (by rw [HY.out, HA2.out]; exact (in_zero _).symm), below_drewN hb0 _⟩
          · have HA2 := Lib.hid (HA.out.trans (show (if (2 : Int) = 1 then (0 : Int) else if (2 : Int) = 2 then 255 else 4095) = 255 from by decide))
            clear HA
            go_enter Tryd.func29, Tryd.ntmps29
            go_wp2
            go_quiet ((first | (go_at_call 64; exact quietSame (l01InA _ _ _ _)) | (go_at_call 66; exact quietSame (l07RegA _ _)) | (go_at_call 65; exact quietSame (l01BitA _ _))))
            go_wp2_with (first | (go_at_call 64; refine (l01InA _ _ _ _).mono ?_; rintro e w' ⟨rfl, rfl⟩) | (go_at_call 67; refine (HG.out _).mono ?_; rintro e w' ⟨rfl, rfl⟩))
            go_ret
            exact ⟨ret_bool (by rw [HY.out, HA2.out]), below_drewN hb0 _⟩
          · have HA2 := Lib.hid (HA.out.trans (show (if (3 : Int) = 1 then (0 : Int) else if (3 : Int) = 2 then 255 else 4095) = 4095 from by decide))
            clear HA
            go_enter Tryd.func29, Tryd.ntmps29
            go_wp2
            go_quiet ((first | (go_at_call 64; exact quietSame (l01InA _ _ _ _)) | (go_at_call 66; exact quietSame (l07RegA _ _)) | (go_at_call 65; exact quietSame (l01BitA _ _))))
            go_wp2_with (first | (go_at_call 64; refine (l01InA _ _ _ _).mono ?_; rintro e w' ⟨rfl, rfl⟩) | (go_at_call 67; refine (HG.out _).mono ?_; rintro e w' ⟨rfl, rfl⟩))
            go_ret
            exact ⟨ret_bool (by rw [HY.out, HA2.out]), below_drewN hb0 _⟩
      · have p2 := rngB_f h1
        have HY := Lib.hid (HN.out h1)
        clear HN h1
        go_enter Tryd.func29, Tryd.ntmps29
        go_wp2
        go_quiet ((first | (go_at_call 64; exact quietSame (l01InA _ _ _ _)) | (go_at_call 66; exact quietSame (l07RegA _ _)) | (go_at_call 65; exact quietSame (l01BitA _ _))))
        go_wp2
        go_ret
        exact ⟨ret_bool HY.out.symm, below_drewN hb0 _⟩
  · have HY := Lib.hid (okIns_op op reg arg h0)
    have p0 := rngB_f h0
    clear h0
    go_enter Tryd.func29, Tryd.ntmps29
    go_wp2
    go_quiet ((first | (go_at_call 64; exact quietSame (l01InA _ _ _ _)) | (go_at_call 66; exact quietSame (l07RegA _ _)) | (go_at_call 65; exact quietSame (l01BitA _ _))))
    go_wp2
    go_ret
    exact ⟨ret_bool HY.out.symm, below_drewN hb0 _⟩
end
end Go.Proofs.YtoaeofahknknhaaDoor
