/- Texts of this claim, one behind the other: OpOk, Digs, Wds, ReadExt, App, OpLen. -/
import Derived.Test.YtcchhbkbnbphhaaDoorRows
import Derived.Laws.AppendOwn
import Derived.OwnWalk
import Derived.Test.YtcchhbkbnbphhaaDoorM1
/- Valid instructions, lengths and cycles: both sides. -/
namespace Go.Proofs.YtcchhbkbnbphhaaDoor
open Go.RowKit

def rngB (n lo hi : Int) : Bool := decide (lo ≤ n ∧ n ≤ hi)
def bitI (b : Bool) : Int := if b then 1 else 0
theorem rngB_t {n lo hi : Int} (h : lo ≤ n ∧ n ≤ hi) : rngB n lo hi = true := by simp [rngB, h]
theorem rngB_f {n lo hi : Int} (h : ¬ (lo ≤ n ∧ n ≤ hi)) : rngB n lo hi = false := by simp only [rngB, decide_eq_false_iff_not]; exact h
set_option maxRecDepth 100000 in
theorem l01InA (n lo hi : Int) (w : World) : Calls Tryd.prog 47 #[.int .i64 n, .int .i64 lo, .int .i64 hi] w fun e w' => e = .returned (.bool (rngB n lo hi)) ∧ w = w' := by
  go_enter Tryd.func47, Tryd.ntmps47
  go_wp2
  all_goals go_ret
  all_goals (refine ⟨ret_bool ?_, rfl⟩)
  all_goals (unfold rngB; rw [Bool.eq_iff_iff]; simp; try omega)
set_option maxRecDepth 100000 in
theorem isUpToA (n l : Int) (w : World) : Calls Tryd.prog 46 #[.int .i64 n, .int .i64 l] w fun e w' => e = .returned (.bool (rngB n 0 l)) ∧ w = w' := by
  go_enter Tryd.func46, Tryd.ntmps46
  go_wp2
  all_goals go_ret
  all_goals (refine ⟨ret_bool ?_, rfl⟩)
  all_goals (unfold rngB; rw [Bool.eq_iff_iff]; simp; try omega)
set_option maxRecDepth 100000 in
theorem isByteA (n : Int) (w : World) : Calls Tryd.prog 35 #[.int .i64 n] w fun e w' => e = .returned (.bool (rngB n 0 255)) ∧ w = w' := by
  go_enter Tryd.func35, Tryd.ntmps35
  go_wp2
  all_goals go_ret
  all_goals (refine ⟨ret_bool ?_, rfl⟩)
  all_goals (unfold rngB; rw [Bool.eq_iff_iff]; simp; try omega)
set_option maxRecDepth 100000 in
theorem l01BitA (b : Bool) (w : World) : Calls Tryd.prog 48 #[.bool b] w fun e w' => e = .returned (.int .i64 (bitI b)) ∧ w = w' := by
  cases b
  all_goals
    go_enter Tryd.func48, Tryd.ntmps48
    go_wp2
    go_ret
    exact ⟨rfl, rfl⟩
set_option maxRecDepth 100000 in
theorem l07RegA (n : Int) (w : World) : Calls Tryd.prog 44 #[.int .i64 n] w fun e w' => e = .returned (.bool (rngB n 5 14)) ∧ w = w' := by
  go_enter Tryd.func44, Tryd.ntmps44
  go_wp2_with (go_at_call 47; refine (l01InA _ _ _ _).mono ?_; rintro e w' ⟨rfl, rfl⟩)
  go_ret
  exact ⟨rfl, rfl⟩
set_option maxRecDepth 100000 in
theorem l07OpA (n : Int) (w : World) : Calls Tryd.prog 33 #[.int .i64 n] w fun e w' => e = .returned (.bool (rngB n 0 22)) ∧ w = w' := by
  go_enter Tryd.func33, Tryd.ntmps33
  go_wp2_with (go_at_call 47; refine (l01InA _ _ _ _).mono ?_; rintro e w' ⟨rfl, rfl⟩)
  go_ret
  exact ⟨rfl, rfl⟩
set_option maxRecDepth 100000 in
theorem l07LengthA (n : Int) (w : World) : Calls Tryd.prog 45 #[.int .i64 n] w fun e w' => e = .returned (.int .i64 (lenT n)) ∧ w = w' := by
  by_cases h5 : n = 5
  · subst h5
    have HL : Hid (lenT 5 = 2) := Lib.hid (by decide)
    generalize lenT 5 = z at HL
    go_enter Tryd.func45, Tryd.ntmps45
    go_wp2
    go_ret
    exact ⟨ret_int HL.out.symm, rfl⟩
  by_cases h20 : n = 20
  · subst h20
    have HL : Hid (lenT 20 = 2) := Lib.hid (by decide)
    generalize lenT 20 = z at HL
    go_enter Tryd.func45, Tryd.ntmps45
    go_wp2
    go_ret
    exact ⟨ret_int HL.out.symm, rfl⟩
  by_cases h21 : n = 21
  · subst h21
    have HL : Hid (lenT 21 = 2) := Lib.hid (by decide)
    generalize lenT 21 = z at HL
    go_enter Tryd.func45, Tryd.ntmps45
    go_wp2
    go_ret
    exact ⟨ret_int HL.out.symm, rfl⟩
  by_cases h6 : n = 6
  · subst h6
    have HL : Hid (lenT 6 = 3) := Lib.hid (by decide)
    generalize lenT 6 = z at HL
    go_enter Tryd.func45, Tryd.ntmps45
    go_wp2
    go_ret
    exact ⟨ret_int HL.out.symm, rfl⟩
  by_cases h7 : n = 7
  · subst h7
    have HL : Hid (lenT 7 = 3) := Lib.hid (by decide)
    generalize lenT 7 = z at HL
    go_enter Tryd.func45, Tryd.ntmps45
    go_wp2
    go_ret
    exact ⟨ret_int HL.out.symm, rfl⟩
  by_cases h15 : n = 15
  · subst h15
    have HL : Hid (lenT 15 = 3) := Lib.hid (by decide)
    generalize lenT 15 = z at HL
    go_enter Tryd.func45, Tryd.ntmps45
    go_wp2
    go_ret
    exact ⟨ret_int HL.out.symm, rfl⟩
  by_cases h16 : n = 16
  · subst h16
    have HL : Hid (lenT 16 = 3) := Lib.hid (by decide)
    generalize lenT 16 = z at HL
    go_enter Tryd.func45, Tryd.ntmps45
    go_wp2
    go_ret
    exact ⟨ret_int HL.out.symm, rfl⟩
  by_cases h17 : n = 17
  · subst h17
    have HL : Hid (lenT 17 = 3) := Lib.hid (by decide)
    generalize lenT 17 = z at HL
    go_enter Tryd.func45, Tryd.ntmps45
    go_wp2
    go_ret
    exact ⟨ret_int HL.out.symm, rfl⟩
  by_cases h18 : n = 18
  · subst h18
    have HL : Hid (lenT 18 = 3) := Lib.hid (by decide)
    generalize lenT 18 = z at HL
    go_enter Tryd.func45, Tryd.ntmps45
    go_wp2
    go_ret
    exact ⟨ret_int HL.out.symm, rfl⟩
  have HL : Hid (lenT n = 1) := Lib.hid (by unfold lenT; rw [if_neg (by omega), if_neg (by omega)])
  generalize lenT n = z at HL
  go_enter Tryd.func45, Tryd.ntmps45
  go_wp2
  go_ret
  exact ⟨ret_int HL.out.symm, rfl⟩
set_option maxRecDepth 100000 in
theorem l07CyclesA (n : Int) (w : World) : Calls Tryd.prog 34 #[.int .i64 n] w fun e w' => e = .returned (.int .i64 (cycT n)) ∧ w = w' := by
  by_cases h18 : n = 18
  · subst h18
    have HL : Hid (cycT 18 = 8) := Lib.hid (by decide)
    generalize cycT 18 = z at HL
    go_enter Tryd.func34, Tryd.ntmps34
    go_wp2
    go_ret
    exact ⟨ret_int HL.out.symm, rfl⟩
  by_cases h19 : n = 19
  · subst h19
    have HL : Hid (cycT 19 = 8) := Lib.hid (by decide)
    generalize cycT 19 = z at HL
    go_enter Tryd.func34, Tryd.ntmps34
    go_wp2
    go_ret
    exact ⟨ret_int HL.out.symm, rfl⟩
  by_cases h2 : n = 2
  · subst h2
    have HL : Hid (cycT 2 = 8) := Lib.hid (by decide)
    generalize cycT 2 = z at HL
    go_enter Tryd.func34, Tryd.ntmps34
    go_wp2
    go_ret
    exact ⟨ret_int HL.out.symm, rfl⟩
  by_cases h20 : n = 20
  · subst h20
    have HL : Hid (cycT 20 = 12) := Lib.hid (by decide)
    generalize cycT 20 = z at HL
    go_enter Tryd.func34, Tryd.ntmps34
    go_wp2
    go_ret
    exact ⟨ret_int HL.out.symm, rfl⟩
  by_cases h22 : n = 22
  · subst h22
    have HL : Hid (cycT 22 = 12) := Lib.hid (by decide)
    generalize cycT 22 = z at HL
    go_enter Tryd.func34, Tryd.ntmps34
    go_wp2
    go_ret
    exact ⟨ret_int HL.out.symm, rfl⟩
  have HL : Hid (cycT n = 2 * lenT n) := Lib.hid (by unfold cycT; rw [if_neg (by omega), if_neg (by omega)])
  generalize cycT n = z at HL
  have hr := lenT_range n
  have HG := Lib.hid (l07LengthA n)
  generalize lenT n = l at HL hr HG
  obtain ⟨hr1, hr2⟩ := hr
  go_enter Tryd.func34, Tryd.ntmps34
  go_wp2_with (go_at_call 45; refine (HG.out _).mono ?_; rintro e w' ⟨rfl, rfl⟩)
  go_ret
  exact ⟨ret_int HL.out.symm, rfl⟩
theorem okIns_op (op reg arg : Int) (h : ¬ (0 ≤ op ∧ op ≤ 21)) : okIns op reg arg = false := by unfold okIns; simp only [decide_eq_false_iff_not]; omega
theorem okIns_reg (op reg arg : Int) (h : ¬ (0 ≤ reg ∧ reg ≤ regT op)) : okIns op reg arg = false := by unfold okIns; simp only [decide_eq_false_iff_not]; omega
theorem okIns_arg (op reg arg : Int) (h0 : 0 ≤ op ∧ op ≤ 21) (h : 0 ≤ reg ∧ reg ≤ regT op) : okIns op reg arg = rngB arg 0 (argT op) := by
  unfold okIns rngB; rw [Bool.eq_iff_iff]; simp only [decide_eq_true_eq]; omega
theorem arg_len (op : Int) (h : ¬ op = 21) : argT op = (if lenT op = 1 then 0 else if lenT op = 2 then 255 else 4095) := by
  unfold argT lenT
  rw [if_neg h]
  by_cases h1 : op = 5 ∨ op = 20
  · rw [if_pos h1, if_pos (show op = 5 ∨ op = 20 ∨ op = 21 from by omega)]; rfl
  · rw [if_neg h1, if_neg (show ¬ (op = 5 ∨ op = 20 ∨ op = 21) from by omega)]
    split <;> rfl
theorem in_zero (n : Int) : rngB n 0 0 = (n == 0) := by unfold rngB; rw [Bool.eq_iff_iff]; simp; omega
section
variable (op reg arg : Int) (w : World)
set_option maxRecDepth 100000 in
set_option maxHeartbeats 2000000 in
theorem valid (ht : OpsT w) : Calls Tryd.prog 23 #[.agg #[.int .i64 op, .int .i64 reg, .int .i64 arg]] w fun e w' => e = .returned (.bool (okIns op reg arg)) ∧ Below w.heap.size w w' := by
  have hb0 := alloc_below w (.cells #[.int .i64 op, .int .i64 reg, .int .i64 arg] 24)
  have HV := Lib.hid (ht.below hb0)
  have hlt := ht.lt
  clear ht
  by_cases h0 : 0 ≤ op ∧ op ≤ 21
  · have HY := Lib.hid (okIns_arg op reg arg h0)
    have HN := Lib.hid (okIns_reg op reg arg)
    obtain ⟨k, rfl⟩ : ∃ k : Nat, op = k := ⟨op.toNat, by omega⟩
    obtain ⟨-, h02⟩ := h0
    have h03 : ¬ (22 : Int) ≤ (k : Int) := by omega
    obtain ⟨c1, c2, c3, c4⟩ := HV.out k (by omega)
    generalize okIns k reg arg = o at HY HN ⊢
    generalize opWord k = s at c1
    generalize regT k = r at c2 HY HN
    generalize argT k = a at c3 HY HN
    generalize fixT k = c at c4
    by_cases h1 : 0 ≤ reg ∧ reg ≤ r
    · have q1 := rngB_t h1
      have HY := Lib.hid (HY.out h1)
      clear HV HN
      by_cases h2 : 0 ≤ arg ∧ arg ≤ a
      · have q2 := rngB_t h2
        have HY := Lib.hid (HY.out.trans q2)
        clear h1 h2
        go_enter Tryd.func23, Tryd.ntmps23
        go_wp2_with (go_at_call 46; refine (isUpToA _ _ _).mono ?_; rintro e w' ⟨rfl, rfl⟩)
        go_ret
        exact ⟨ret_bool HY.out.symm, hb0.alloc (by simp) _⟩
      · have q2 := rngB_f h2
        have HY := Lib.hid (HY.out.trans q2)
        clear h1 h2
        go_enter Tryd.func23, Tryd.ntmps23
        go_wp2_with (go_at_call 46; refine (isUpToA _ _ _).mono ?_; rintro e w' ⟨rfl, rfl⟩)
        go_ret
        exact ⟨ret_bool HY.out.symm, hb0.alloc (by simp) _⟩
    · have q1 := rngB_f h1
      have HY := Lib.hid (HN.out h1)
      clear HV HN h1
      go_enter Tryd.func23, Tryd.ntmps23
      go_wp2_with (go_at_call 46; refine (isUpToA _ _ _).mono ?_; rintro e w' ⟨rfl, rfl⟩)
      go_ret
      exact ⟨ret_bool HY.out.symm, hb0.alloc (by simp) _⟩
  · have HY := Lib.hid (okIns_op op reg arg h0)
    clear HV
    by_cases h1 : op < 0
    · clear h0
      go_enter Tryd.func23, Tryd.ntmps23
      go_wp2
      go_ret
      exact ⟨ret_bool HY.out.symm, hb0⟩
    · have h2 : 22 ≤ op := by omega
      clear h0
      go_enter Tryd.func23, Tryd.ntmps23
      go_wp2
      go_ret
      exact ⟨ret_bool HY.out.symm, hb0⟩

set_option maxRecDepth 100000 in
theorem implInstrOK (ht : OpsT w) : Calls Tryd.prog 14 #[.agg #[.int .i64 op, .int .i64 reg, .int .i64 arg]] w fun e w' => e = .returned (.bool (okIns op reg arg)) ∧ Below w.heap.size w w' := by
  have hb0 := alloc_below w (.cells #[.int .i64 op, .int .i64 reg, .int .i64 arg] 24)
  have HV := Lib.hid (valid op reg arg _ (ht.below hb0))
  clear ht
  go_enter Tryd.func14, Tryd.ntmps14
  go_wp2_with fail
  refine HV.out.mono ?_
  rintro e w1 ⟨rfl, hb1⟩
  go_wp2
  go_ret
  exact ⟨rfl, bt hb0 hb1⟩

set_option maxRecDepth 100000 in
set_option maxHeartbeats 4000000 in
theorem specInstrOK : Calls Tryd.prog 25 #[.agg #[.int .i64 op, .int .i64 reg, .int .i64 arg]] w fun e w' => e = .returned (.bool (okIns op reg arg)) ∧ Below w.heap.size w w' := by
  have hb0 := alloc_below w (.cells #[.int .i64 op, .int .i64 reg, .int .i64 arg] 24)
  by_cases h0 : 0 ≤ op ∧ op ≤ 21
  · have HY := Lib.hid (okIns_arg op reg arg h0)
    have HN := Lib.hid (okIns_reg op reg arg)
    have p0 := rngB_t h0
    clear h0
    by_cases h5 : 5 ≤ op ∧ op ≤ 14
    · have p1 := rngB_t h5
      have HR : Hid (regT op = 3) := Lib.hid (by unfold regT; rw [if_pos h5])
      rw [HR.out] at HY HN
      have pb : bitI true = 1 := rfl
      clear h5
      by_cases h1 : 0 ≤ reg ∧ reg ≤ 3
      · have p2 := rngB_t h1
        have HY := Lib.hid (HY.out h1)
        clear HN h1
        have HG := Lib.hid (l07LengthA op)
        by_cases g0 : op = 21
        · subst g0
          have HY := Lib.hid HY.out
          generalize okIns 21 reg arg = o at HY ⊢
          have HA : Hid (argT 21 = 3) := Lib.hid (by decide)
          go_enter Tryd.func25, Tryd.ntmps25
          go_wp2
          go_quiet ((first | (go_at_call 47; exact quietSame (l01InA _ _ _ _)) | (go_at_call 44; exact quietSame (l07RegA _ _)) | (go_at_call 48; exact quietSame (l01BitA _ _))))
          go_wp2_with (first | (go_at_call 47; refine (l01InA _ _ _ _).mono ?_; rintro e w' ⟨rfl, rfl⟩) | (go_at_call 45; refine (HG.out _).mono ?_; rintro e w' ⟨rfl, rfl⟩))
          go_ret
          exact ⟨ret_bool (by rw [HY.out, HA.out]), below_drewN hb0 _⟩
        · have g1 := fun h => g0 h
          have HA := Lib.hid (arg_len op g0)
          clear g1
          generalize okIns op reg arg = o at HY ⊢
          have hl := lenT_range op
          generalize lenT op = l at HG HA hl
          have hl3 : l = 1 ∨ l = 2 ∨ l = 3 := by omega
          clear hl
          rcases hl3 with rfl | rfl | rfl
          · have HA2 := Lib.hid (HA.out.trans (show (if (1 : Int) = 1 then (0 : Int) else if (1 : Int) = 2 then 255 else 4095) = 0 from by decide))
            clear HA
            go_enter Tryd.func25, Tryd.ntmps25
            go_wp2
            go_quiet ((first | (go_at_call 47; exact quietSame (l01InA _ _ _ _)) | (go_at_call 44; exact quietSame (l07RegA _ _)) | (go_at_call 48; exact quietSame (l01BitA _ _))))
            go_wp2_with (first | (go_at_call 47; refine (l01InA _ _ _ _).mono ?_; rintro e w' ⟨rfl, rfl⟩) | (go_at_call 45; refine (HG.out _).mono ?_; rintro e w' ⟨rfl, rfl⟩))
            go_ret
            exact ⟨ret_bool (by rw [HY.out, HA2.out]; exact (in_zero _).symm), below_drewN hb0 _⟩
          · have HA2 := Lib.hid (HA.out.trans (show (if (2 : Int) = 1 then (0 : Int) else if (2 : Int) = 2 then 255 else 4095) = 255 from by decide))
            clear HA
            go_enter Tryd.func25, Tryd.ntmps25
            go_wp2
            go_quiet ((first | (go_at_call 47; exact quietSame (l01InA _ _ _ _)) | (go_at_call 44; exact quietSame (l07RegA _ _)) | (go_at_call 48; exact quietSame (l01BitA _ _))))
            go_wp2_with (first | (go_at_call 47; refine (l01InA _ _ _ _).mono ?_; rintro e w' ⟨rfl, rfl⟩) | (go_at_call 45; refine (HG.out _).mono ?_; rintro e w' ⟨rfl, rfl⟩))
            go_ret
            exact ⟨ret_bool (by rw [HY.out, HA2.out]), below_drewN hb0 _⟩
          · have HA2 := Lib.hid (HA.out.trans (show (if (3 : Int) = 1 then (0 : Int) else if (3 : Int) = 2 then 255 else 4095) = 4095 from by decide))
            clear HA
            go_enter Tryd.func25, Tryd.ntmps25
            go_wp2
            go_quiet ((first | (go_at_call 47; exact quietSame (l01InA _ _ _ _)) | (go_at_call 44; exact quietSame (l07RegA _ _)) | (go_at_call 48; exact quietSame (l01BitA _ _))))
            go_wp2_with (first | (go_at_call 47; refine (l01InA _ _ _ _).mono ?_; rintro e w' ⟨rfl, rfl⟩) | (go_at_call 45; refine (HG.out _).mono ?_; rintro e w' ⟨rfl, rfl⟩))
            go_ret
            exact ⟨ret_bool (by rw [HY.out, HA2.out]), below_drewN hb0 _⟩
      · have p2 := rngB_f h1
        have HY := Lib.hid (HN.out h1)
        clear HN h1
        go_enter Tryd.func25, Tryd.ntmps25
        go_wp2
        go_quiet ((first | (go_at_call 47; exact quietSame (l01InA _ _ _ _)) | (go_at_call 44; exact quietSame (l07RegA _ _)) | (go_at_call 48; exact quietSame (l01BitA _ _))))
        go_wp2
        go_ret
        exact ⟨ret_bool HY.out.symm, below_drewN hb0 _⟩
    · have p1 := rngB_f h5
      have HR : Hid (regT op = 0) := Lib.hid (by unfold regT; rw [if_neg h5])
      rw [HR.out] at HY HN
      have pb : bitI false = 0 := rfl
      clear h5
      by_cases h1 : 0 ≤ reg ∧ reg ≤ 0
      · have p2 := rngB_t h1
        have HY := Lib.hid (HY.out h1)
        clear HN h1
        have HG := Lib.hid (l07LengthA op)
        by_cases g0 : op = 21
        · subst g0
          have HY := Lib.hid HY.out
          generalize okIns 21 reg arg = o at HY ⊢
          have HA : Hid (argT 21 = 3) := Lib.hid (by decide)
          go_enter Tryd.func25, Tryd.ntmps25
          go_wp2
          go_quiet ((first | (go_at_call 47; exact quietSame (l01InA _ _ _ _)) | (go_at_call 44; exact quietSame (l07RegA _ _)) | (go_at_call 48; exact quietSame (l01BitA _ _))))
          go_wp2_with (first | (go_at_call 47; refine (l01InA _ _ _ _).mono ?_; rintro e w' ⟨rfl, rfl⟩) | (go_at_call 45; refine (HG.out _).mono ?_; rintro e w' ⟨rfl, rfl⟩))
          go_ret
          exact ⟨ret_bool (by rw [HY.out, HA.out]), below_drewN hb0 _⟩
        · have g1 := fun h => g0 h
          have HA := Lib.hid (arg_len op g0)
          clear g1
          generalize okIns op reg arg = o at HY ⊢
          have hl := lenT_range op
          generalize lenT op = l at HG HA hl
          have hl3 : l = 1 ∨ l = 2 ∨ l = 3 := by omega
          clear hl
          rcases hl3 with rfl | rfl | rfl
          · have HA2 := Lib.hid (HA.out.trans (show (if (1 : Int) = 1 then (0 : Int) else if (1 : Int) = 2 then 255 else 4095) = 0 from by decide))
            clear HA
            go_enter Tryd.func25, Tryd.ntmps25
            go_wp2
            go_quiet ((first | (go_at_call 47; exact quietSame (l01InA _ _ _ _)) | (go_at_call 44; exact quietSame (l07RegA _ _)) | (go_at_call 48; exact quietSame (l01BitA _ _))))
            go_wp2_with (first | (go_at_call 47; refine (l01InA _ _ _ _).mono ?_; rintro e w' ⟨rfl, rfl⟩) | (go_at_call 45; refine (HG.out _).mono ?_; rintro e w' ⟨rfl, rfl⟩))
            go_ret
            exact ⟨ret_bool (by rw [HY.out, HA2.out]; exact (in_zero _).symm), below_drewN hb0 _⟩
          · have HA2 := Lib.hid (HA.out.trans (show (if (2 : Int) = 1 then (0 : Int) else if (2 : Int) = 2 then 255 else 4095) = 255 from by decide))
            clear HA
            go_enter Tryd.func25, Tryd.ntmps25
            go_wp2
            go_quiet ((first | (go_at_call 47; exact quietSame (l01InA _ _ _ _)) | (go_at_call 44; exact quietSame (l07RegA _ _)) | (go_at_call 48; exact quietSame (l01BitA _ _))))
            go_wp2_with (first | (go_at_call 47; refine (l01InA _ _ _ _).mono ?_; rintro e w' ⟨rfl, rfl⟩) | (go_at_call 45; refine (HG.out _).mono ?_; rintro e w' ⟨rfl, rfl⟩))
            go_ret
            exact ⟨ret_bool (by rw [HY.out, HA2.out]), below_drewN hb0 _⟩
          · have HA2 := Lib.hid (HA.out.trans (show (if (3 : Int) = 1 then (0 : Int) else if (3 : Int) = 2 then 255 else 4095) = 4095 from by decide))
            clear HA
            go_enter Tryd.func25, Tryd.ntmps25
            go_wp2
            go_quiet ((first | (go_at_call 47; exact quietSame (l01InA _ _ _ _)) | (go_at_call 44; exact quietSame (l07RegA _ _)) | (go_at_call 48; exact quietSame (l01BitA _ _))))
            go_wp2_with (first | (go_at_call 47; refine (l01InA _ _ _ _).mono ?_; rintro e w' ⟨rfl, rfl⟩) | (go_at_call 45; refine (HG.out _).mono ?_; rintro e w' ⟨rfl, rfl⟩))
            go_ret
            exact ⟨ret_bool (by rw [HY.out, HA2.out]), below_drewN hb0 _⟩
      · have p2 := rngB_f h1
        have HY := Lib.hid (HN.out h1)
        clear HN h1
        go_enter Tryd.func25, Tryd.ntmps25
        go_wp2
        go_quiet ((first | (go_at_call 47; exact quietSame (l01InA _ _ _ _)) | (go_at_call 44; exact quietSame (l07RegA _ _)) | (go_at_call 48; exact quietSame (l01BitA _ _))))
        go_wp2
        go_ret
        exact ⟨ret_bool HY.out.symm, below_drewN hb0 _⟩
  · have HY := Lib.hid (okIns_op op reg arg h0)
    have p0 := rngB_f h0
    clear h0
    go_enter Tryd.func25, Tryd.ntmps25
    go_wp2
    go_quiet ((first | (go_at_call 47; exact quietSame (l01InA _ _ _ _)) | (go_at_call 44; exact quietSame (l07RegA _ _)) | (go_at_call 48; exact quietSame (l01BitA _ _))))
    go_wp2
    go_ret
    exact ⟨ret_bool HY.out.symm, below_drewN hb0 _⟩
end
end Go.Proofs.YtcchhbkbnbphhaaDoor

/- Digits of numbers, as lists of bytes. Nothing here walks. -/
namespace Go.Proofs.YtcchhbkbnbphhaaDoor

def dg (n : Nat) : UInt8 := UInt8.ofNat (48 + n % 10)
def decF : Nat → Nat → List UInt8
  | 0, _ => []
  | f + 1, n => if n < 10 then [dg n] else decF f (n / 10) ++ [dg n]
theorem decF_len : ∀ f n, (decF f n).length ≤ f
  | 0, _ => by simp [decF]
  | f + 1, n => by
    rw [decF]
    split
    · simp
    · have := decF_len f (n / 10)
      simp; omega
def bs (l : List UInt8) : ByteArray := ⟨l.toArray⟩
theorem bs_app (a b : List UInt8) : bs a ++ bs b = bs (a ++ b) := by
  apply ByteArray.ext
  simp [bs]
theorem bs_size (a : List UInt8) : (bs a).size = a.length := rfl
end Go.Proofs.YtcchhbkbnbphhaaDoor

/- Words of a text: maximal runs of bytes other than spaces. Nothing here walks. -/
namespace Go.Proofs.YtcchhbkbnbphhaaDoor

def wordsA (cur : List UInt8) : List UInt8 → List (List UInt8)
  | [] => if cur = [] then [] else [cur]
  | c :: r => if c = 32 then (if cur = [] then wordsA [] r else cur :: wordsA [] r) else wordsA (cur ++ [c]) r
def wordsB (s : ByteArray) : List ByteArray := (wordsA [] s.data.toList).map bs
theorem wordsA_trim : ∀ l : List UInt8, wordsA [] (l.dropWhile (· == 32)) = wordsA [] l
  | [] => rfl
  | c :: r => by
    by_cases h : c = 32
    · subst h
      rw [List.dropWhile_cons_of_pos (by simp), wordsA_trim r]
      simp [wordsA]
    · rw [List.dropWhile_cons_of_neg (by simpa using h)]
theorem wordsA_none : ∀ (l cur : List UInt8), (∀ k : Nat, l[k]? ≠ some 32) → wordsA cur l = if cur ++ l = [] then [] else [cur ++ l]
  | [], cur, _ => by simp [wordsA]
  | c :: r, cur, h => by
    have hc : c ≠ 32 := fun e => h 0 (by simp [e])
    rw [wordsA, if_neg hc, wordsA_none r (cur ++ [c]) (fun k => by have := h (k + 1); simpa using this)]
    simp
theorem wordsA_some : ∀ (l cur : List UInt8) (i : Nat), l[i]? = some 32 → (∀ k : Nat, k < i → l[k]? ≠ some 32) → wordsA cur l = if cur ++ l.take i = [] then wordsA [] (l.drop (i + 1)) else (cur ++ l.take i) :: wordsA [] (l.drop (i + 1))
  | [], cur, i, h, _ => by simp at h
  | c :: r, cur, 0, h, _ => by
    have hc : c = 32 := by simpa using h
    rw [wordsA, if_pos hc]
    simp
  | c :: r, cur, i + 1, h, hk => by
    have hc : c ≠ 32 := fun e => hk 0 (by omega) (by simp [e])
    rw [wordsA, if_neg hc, wordsA_some r (cur ++ [c]) i (by simpa using h) (fun k hki => by have := hk (k + 1) (by omega); simpa using this)]
    simp
theorem wordsA_mem : ∀ (l cur : List UInt8), ∀ x ∈ wordsA cur l, x ≠ [] ∧ x.length ≤ l.length + cur.length
  | [], cur => by
    intro x hx
    unfold wordsA at hx
    split at hx
    · cases hx
    · rename_i h
      simp at hx
      subst hx
      exact ⟨h, by omega⟩
  | c :: r, cur => by
    intro x hx
    unfold wordsA at hx
    split at hx
    · split at hx
      · have := wordsA_mem r [] x hx; simp at this ⊢; exact ⟨this.1, by omega⟩
      · rename_i h
        rcases List.mem_cons.1 hx with rfl | hx
        · exact ⟨h, by simp only [List.length_cons]; omega⟩
        · have := wordsA_mem r [] x hx; simp at this ⊢; exact ⟨this.1, by omega⟩
    · have := wordsA_mem r (cur ++ [c]) x hx; simp at this ⊢; exact ⟨this.1, by omega⟩
theorem bs_toList (l : List UInt8) : (bs l).data.toList = l := by simp [bs]
theorem bs_of (s : ByteArray) : bs s.data.toList = s := by cases s; simp [bs]
theorem wordsB_bs (l : List UInt8) : wordsB (bs l) = (wordsA [] l).map bs := by unfold wordsB; rw [bs_toList]
end Go.Proofs.YtcchhbkbnbphhaaDoor

/- A part of a text, as a list. -/
namespace Go.Proofs.YtcchhbkbnbphhaaDoor
theorem ext_list (t : ByteArray) (i j : Nat) : (t.extract i j).data.toList = (t.data.toList.drop i).take (j - i) := by
  rw [ByteArray.data_extract, Array.toList_extract, List.extract_eq_take_drop]
end Go.Proofs.YtcchhbkbnbphhaaDoor

/- Appending one element to a slice of the call's own; what such a slice is good for. -/
namespace Go.Proofs.YtcchhbkbnbphhaaDoor
open Go.RowKit

structure Elem (P : Program) (e : TypeId) (z : Value) (size bytes : Nat) : Prop where
  info : ∃ i : TypeInfo, P.info? e = some i ∧ i.zero = some z ∧ i.size = size ∧ i.bytes = bytes
  cells : z.cells.size = size
  pos : 0 < size

abbrev RowV (w : World) (base : Nat) (e : TypeId) (size : Nat) (v : Value) (n : Nat) (xs : List Value) : Prop := w.ownsRow base e size v n xs

theorem rowv_ge {w : World} {base n : Nat} {e : TypeId} {size : Nat} {v : Value} {xs : List Value} (h : w.ownsRow base e size v n xs) : ∀ k, v.ownBlock = some k → base ≤ k := by
  intro k hk
  rcases h.2 with ⟨rfl, _⟩ | ⟨g, cap, cur, rfl, q1, q2⟩
  · simp [Value.ownBlock] at hk
  · simp [Value.ownBlock] at hk; omega
theorem rowv_keep {w w' : World} {base n : Nat} {e : TypeId} {size : Nat} {v : Value} {xs : List Value} (h : w.ownsRow base e size v n xs) (hk : ∀ k, base ≤ k → k < w.heap.size → w'.heap[k]? = w.heap[k]?) : w'.ownsRow base e size v n xs := by
  obtain ⟨h1, h0 | ⟨g, cap, cur, rfl, q1, q2, q3⟩⟩ := h
  · exact ⟨h1, .inl h0⟩
  · refine ⟨h1, .inr ⟨g, cap, cur, rfl, q1, ?_, q3⟩⟩
    have hlt : g < w.heap.size := by
      rcases Nat.lt_or_ge g w.heap.size with hlt | hge
      · exact hlt
      · rw [Array.getElem?_eq_none hge] at q2; cases q2
    rw [hk g q1 hlt]; exact q2
theorem rowv_below {w w' : World} {base n : Nat} {e : TypeId} {size : Nat} {v : Value} {xs : List Value} (h : w.ownsRow base e size v n xs) (hb : Below w.heap.size w w') : w'.ownsRow base e size v n xs := rowv_keep h (fun k _ hk => hb.block k hk)
theorem rowv_nil (w : World) (base : Nat) (e : TypeId) (size : Nat) : w.ownsRow base e size (.slice none 0 0) 0 [] := World.ownsRow_nil w base e size
theorem rowv_form {w : World} {base n : Nat} {e : TypeId} {size : Nat} {v : Value} {xs : List Value} (h : w.ownsRow base e size v n xs) : ∃ A cap, v = .slice A n cap ∧ n ≤ cap := by
  rcases h.2 with ⟨rfl, rfl⟩ | ⟨g, cap, cur, rfl, _, _, q, _⟩
  · exact ⟨none, 0, rfl, Nat.le_refl _⟩
  · exact ⟨_, cap, rfl, q⟩
theorem wpList_app_one {P : Program} {w : World} {ops : Array Oper} {rest : List Oper} {o : Oper} {a : Act} {Q : Exit → Act → World → Prop} (hgd : o.guard = none) (s x : Operand) (t e : TypeId)
    (ho : o.op = .call { callee := .builtin .append, args := #[s, x], argTypes := #[t, t] }) (z : Value) (size bytes : Nat) (E : Elem P e z size bytes) (ht : P.underlying t = some (.slice e))
    (base : Nat) (v : Value) (n : Nat) (xs : List Value) (hs : a.eval s = v) (hown : w.ownsRow base e size v n xs)
    (b c : Nat) (hx : a.eval x = .slice (some ⟨b, 0, none⟩) 1 c) (news : List Value) (hl : news.length = size) (hnews : ∀ j u, news[j]? = some u → w.cell? ⟨b, j, none⟩ = some u) (h1 : ∀ u ∈ news, u.oneCell' = true)
    (h63 : n + 1 ≤ maxLen) (hby : (n + 1) * bytes ≤ 140737488355328) (hbase : base ≤ w.heap.size)
    (hK : ∀ A cap w', w'.ownsRow base e size (.slice A (n + 1) cap) (n + 1) (xs ++ news) → n + 1 ≤ cap → w.grownBy w' v.ownBlock → Below base w w' → wpList P ops Q rest (a.put o.dst (.slice A (n + 1) cap)) w') : wpList P ops Q (o :: rest) a w := by
  obtain ⟨i, hi, hz, hsz, hb⟩ := E.info
  refine wpList_append_own w hgd s x t ho base e i z size bytes ht hi hz hsz hb E.cells E.pos v n xs hs hown ⟨b, 0, none⟩ 1 c news hx (by rw [hl]; omega) (fun j u hj => ?_) h1 h63 hby hbase (fun v' w' h2 h3 _ => ?_)
  · have := hnews j u hj
    unfold Addr.add
    by_cases h0 : j = 0
    · subst h0; simpa using this
    · rw [if_neg h0]; simpa using this
  · obtain ⟨A, cap, rfl, hcap⟩ := rowv_form h2
    exact hK A cap w' h2 hcap h3 ((Below.refl base w).grown h3 hbase (rowv_ge hown))

theorem wpList_app_many {P : Program} {w : World} {ops : Array Oper} {rest : List Oper} {o : Oper} {a : Act} {Q : Exit → Act → World → Prop} (hgd : o.guard = none) (s x : Operand) (t e : TypeId)
    (ho : o.op = .call { callee := .builtin .append, args := #[s, x], argTypes := #[t, t] }) (z : Value) (size bytes : Nat) (E : Elem P e z size bytes) (ht : P.underlying t = some (.slice e))
    (base : Nat) (v : Value) (n : Nat) (xs : List Value) (hs : a.eval s = v) (hown : w.ownsRow base e size v n xs)
    (ad : Addr) (m c : Nat) (hx : a.eval x = .slice (some ad) m c) (news : List Value) (hl : news.length = m * size) (hnews : ∀ j u, news[j]? = some u → w.cell? (ad.add j) = some u) (h1 : ∀ u ∈ news, u.oneCell' = true)
    (h63 : n + m ≤ maxLen) (hby : (n + m) * bytes ≤ 140737488355328) (hbase : base ≤ w.heap.size)
    (hK : ∀ A cap w', w'.ownsRow base e size (.slice A (n + m) cap) (n + m) (xs ++ news) → n + m ≤ cap → w.grownBy w' v.ownBlock → Below base w w' → wpList P ops Q rest (a.put o.dst (.slice A (n + m) cap)) w') : wpList P ops Q (o :: rest) a w := by
  obtain ⟨i, hi, hz, hsz, hb⟩ := E.info
  refine wpList_append_own w hgd s x t ho base e i z size bytes ht hi hz hsz hb E.cells E.pos v n xs hs hown ad m c news hx hl hnews h1 h63 hby hbase (fun v' w' h2 h3 _ => ?_)
  obtain ⟨A, cap, rfl, hcap⟩ := rowv_form h2
  exact hK A cap w' h2 hcap h3 ((Below.refl base w).grown h3 hbase (rowv_ge hown))

theorem Box.grown {w w' : World} {b base n : Nat} {t e : TypeId} {cs : Array Value} {size : Nat} {v : Value} {xs : List Value} (h : Box w b t cs) (hr : w.ownsRow base e size v n xs) (ht : t ≠ e) (hg : w.grownBy w' v.ownBlock) : Box w' b t cs := by
  have hlt := h.lt
  refine (hg.block b hlt ?_).trans h
  rcases hr.2 with ⟨rfl, _⟩ | ⟨g, cap, cur, rfl, _, q2, _⟩
  · simp [Value.ownBlock]
  · simp only [Value.ownBlock, ne_eq, Option.some.injEq]
    rintro rfl
    unfold Box at h
    rw [h] at q2
    injection q2 with q2
    injection q2 with _ q3
    exact ht q3
set_option maxRecDepth 100000 in
theorem elemInt : Elem Tryd.prog 3 (.int .i64 0) 1 8 := ⟨⟨_, rfl, rfl, rfl, rfl⟩, rfl, by decide⟩
set_option maxRecDepth 100000 in
theorem elemStr : Elem Tryd.prog 9 (.string ByteArray.empty) 1 16 := ⟨⟨_, rfl, rfl, rfl, rfl⟩, rfl, by decide⟩
def GroI (w : World) (base : Nat) (v : Value) (zs : List Int) : Prop := w.ownsRow base 3 1 v zs.length (zs.map (Value.int .i64))
def GroS (w : World) (base : Nat) (v : Value) (ss : List ByteArray) : Prop := w.ownsRow base 9 1 v ss.length (ss.map Value.string)
theorem GroI.own {w : World} {base lo : Nat} {A : Option Addr} {n c : Nat} {zs : List Int} (h : GroI w base (.slice A n c) zs) (hb : lo ≤ base) : OwnI w lo w.heap.size A zs := by
  obtain ⟨h1, ⟨h0, h2⟩ | ⟨g, cap, cur, hv, q1, q2, q3, q4, q5, q6⟩⟩ := h
  · exact .inl (List.eq_nil_of_length_eq_zero h2)
  · injection hv with hv1 hv2 hv3
    refine .inr ⟨g, cap, fun i => cur.getD i (.int .i64 0), hv1, by omega, (Array.getElem?_eq_some_iff.1 q2).1, q3, ⟨cur, q2, by omega, fun i hi => ?_⟩, fun i hi => ?_⟩
    · simp [Array.getElem?_eq_getElem (show i < cur.size by omega)]
    · have : (cur.toList.take (zs.length * 1))[i]? = (zs.map (Value.int .i64))[i]? := by rw [q6]
      rw [List.getElem?_take, if_pos (by omega), Array.getElem?_toList, List.getElem?_map, List.getElem?_eq_getElem hi] at this
      simp [this, List.getD_eq_getElem?_getD, List.getElem?_eq_getElem hi]
theorem GroS.own {w : World} {base lo : Nat} {A : Option Addr} {n c : Nat} {ss : List ByteArray} (h : GroS w base (.slice A n c) ss) (hb : lo ≤ base) : OwnS w lo w.heap.size A ss := by
  obtain ⟨h1, ⟨h0, h2⟩ | ⟨g, cap, cur, hv, q1, q2, q3, q4, q5, q6⟩⟩ := h
  · exact .inl (List.eq_nil_of_length_eq_zero h2)
  · injection hv with hv1 hv2 hv3
    refine .inr ⟨g, cap, fun i => cur.getD i (.int .i64 0), hv1, by omega, (Array.getElem?_eq_some_iff.1 q2).1, q3, ⟨cur, q2, by omega, fun i hi => ?_⟩, fun i hi => ?_⟩
    · simp [Array.getElem?_eq_getElem (show i < cur.size by omega)]
    · have : (cur.toList.take (ss.length * 1))[i]? = (ss.map Value.string)[i]? := by rw [q6]
      rw [List.getElem?_take, if_pos (by omega), Array.getElem?_toList, List.getElem?_map, List.getElem?_eq_getElem hi] at this
      simp [this, List.getD_eq_getElem?_getD, List.getElem?_eq_getElem hi]
theorem GroI.len {w : World} {base : Nat} {A : Option Addr} {n c : Nat} {zs : List Int} (h : GroI w base (.slice A n c) zs) : zs.length = n := by
  obtain ⟨A', cap, hv, _⟩ := rowv_form h
  injection hv with _ hv2 _; exact hv2.symm
theorem GroS.len {w : World} {base : Nat} {A : Option Addr} {n c : Nat} {ss : List ByteArray} (h : GroS w base (.slice A n c) ss) : ss.length = n := by
  obtain ⟨A', cap, hv, _⟩ := rowv_form h
  injection hv with _ hv2 _; exact hv2.symm
end Go.Proofs.YtcchhbkbnbphhaaDoor

/- LengthOf, CyclesOf on both sides. -/
namespace Go.Proofs.YtcchhbkbnbphhaaDoor
open Go.RowKit

def lenF (n : Int) : Int × Int := if rngB n 0 22 then (lenT n, 0) else (0, 4)
def cycF (n : Int) : Int × Int := if rngB n 0 22 then (cycT n, 0) else (0, 4)
section
variable (n : Int) (w : World)
set_option maxRecDepth 100000 in
theorem specCyclesOf : Calls Tryd.prog 12 #[.int .i64 n] w fun e w' => e = .returned (.tuple #[.int .i64 (cycF n).1, .int .i64 (cycF n).2]) ∧ Below w.heap.size w w' := by
  have HG := Lib.hid (l07CyclesA n)
  by_cases h : 0 ≤ n ∧ n ≤ 22
  · have q := rngB_t h
    have HF : Hid (cycF n = (cycT n, 0)) := Lib.hid (by unfold cycF; rw [q]; rfl)
    rw [HF.out]
    clear h HF
    generalize cycT n = l at HG ⊢
    go_enter Tryd.func12, Tryd.ntmps12
    go_wp2_with (first | (go_at_call 33; refine (l07OpA _ _).mono ?_; rintro e w' ⟨rfl, rfl⟩) | (go_at_call 34; refine (HG.out _).mono ?_; rintro e w' ⟨rfl, rfl⟩))
    go_ret2
    exact ⟨rfl, Below.refl _ _⟩
  · have q := rngB_f h
    have HF : Hid (cycF n = (0, 4)) := Lib.hid (by unfold cycF; rw [q]; rfl)
    rw [HF.out]
    clear h HF
    go_enter Tryd.func12, Tryd.ntmps12
    go_wp2_with (first | (go_at_call 33; refine (l07OpA _ _).mono ?_; rintro e w' ⟨rfl, rfl⟩))
    go_ret2
    exact ⟨rfl, Below.refl _ _⟩
set_option maxRecDepth 100000 in
theorem implLengthOf (ht : OpsT w) : Calls Tryd.prog 8 #[.int .i64 n] w fun e w' => e = .returned (.tuple #[.int .i64 (lenF n).1, .int .i64 (lenF n).2]) ∧ Below w.heap.size w w' := by
  by_cases h : 0 ≤ n ∧ n ≤ 22
  · have HF : Hid (lenF n = (lenT n, 0)) := Lib.hid (by unfold lenF; rw [rngB_t h]; rfl)
    rw [HF.out]
    have HO := Lib.hid (operationOf_in n w h.1 h.2 ht)
    have HL := Lib.hid (lenA_arg n)
    clear h HF ht
    generalize lenT n = l at HL ⊢
    generalize opWord n.toNat = s at HO
    generalize regT n = r at HO
    generalize argT n = a at HO HL
    generalize fixT n = c at HO
    go_enter Tryd.func8, Tryd.ntmps8
    go_wp2_with fail
    refine HO.out.mono ?_
    rintro e w1 ⟨rfl, hb1⟩
    go_wp2_with fail
    refine (opLength s r a c _).mono ?_
    rintro e w2 ⟨rfl, hb2⟩
    rw [HL.out]
    go_wp2
    go_ret2
    exact ⟨rfl, bt (bt hb1 (alloc_below _ _)) hb2⟩
  · have HF : Hid (lenF n = (0, 4)) := Lib.hid (by unfold lenF; rw [rngB_f h]; rfl)
    rw [HF.out]
    have HO := Lib.hid (operationOf_out n w (by omega))
    clear h HF ht
    go_enter Tryd.func8, Tryd.ntmps8
    go_wp2_with fail
    refine HO.out.mono ?_
    rintro e w1 ⟨rfl, hb1⟩
    go_wp2
    go_ret2
    exact ⟨rfl, bt hb1 (alloc_below _ _)⟩
set_option maxRecDepth 100000 in
theorem implCyclesOf (ht : OpsT w) : Calls Tryd.prog 11 #[.int .i64 n] w fun e w' => e = .returned (.tuple #[.int .i64 (cycF n).1, .int .i64 (cycF n).2]) ∧ Below w.heap.size w w' := by
  by_cases h : 0 ≤ n ∧ n ≤ 22
  · have HF : Hid (cycF n = (cycT n, 0)) := Lib.hid (by unfold cycF; rw [rngB_t h]; rfl)
    rw [HF.out]
    have HO := Lib.hid (operationOf_in n w h.1 h.2 ht)
    have HL : Hid ((if 0 < fixT n then fixT n else 2 * lenA_ (argT n)) = cycT n) := Lib.hid (by rw [lenA_arg]; exact fix_cyc n)
    clear h HF ht
    generalize cycT n = l at HL ⊢
    generalize opWord n.toNat = s at HO
    generalize regT n = r at HO
    generalize argT n = a at HO HL
    generalize fixT n = c at HO HL
    go_enter Tryd.func11, Tryd.ntmps11
    go_wp2_with fail
    refine HO.out.mono ?_
    rintro e w1 ⟨rfl, hb1⟩
    go_wp2_with fail
    refine (opCycles s r a c _).mono ?_
    rintro e w2 ⟨rfl, hb2⟩
    rw [HL.out]
    go_wp2
    go_ret2
    exact ⟨rfl, bt (bt hb1 (alloc_below _ _)) hb2⟩
  · have HF : Hid (cycF n = (0, 4)) := Lib.hid (by unfold cycF; rw [rngB_f h]; rfl)
    rw [HF.out]
    have HO := Lib.hid (operationOf_out n w (by omega))
    clear h HF ht
    go_enter Tryd.func11, Tryd.ntmps11
    go_wp2_with fail
    refine HO.out.mono ?_
    rintro e w1 ⟨rfl, hb1⟩
    go_wp2
    go_ret2
    exact ⟨rfl, bt hb1 (alloc_below _ _)⟩
set_option maxRecDepth 100000 in
theorem implLengthOfA (a0d0 : Int) (w : World) (t : OpsT w) : Calls Tryd.prog 8 #[.int .i64 a0d0] w fun e w' => e = .returned (.tuple #[.int .i64 (lenF a0d0).1, .int .i64 (lenF a0d0).2]) ∧ Below w.heap.size w w' := implLengthOf a0d0 w t
set_option maxRecDepth 100000 in
theorem specCyclesOfA (a0d0 : Int) (w : World) : Calls Tryd.prog 12 #[.int .i64 a0d0] w fun e w' => e = .returned (.tuple #[.int .i64 (cycF a0d0).1, .int .i64 (cycF a0d0).2]) ∧ Below w.heap.size w w' := specCyclesOf a0d0 w
set_option maxRecDepth 100000 in
theorem implCyclesOfA (a0d0 : Int) (w : World) (t : OpsT w) : Calls Tryd.prog 11 #[.int .i64 a0d0] w fun e w' => e = .returned (.tuple #[.int .i64 (cycF a0d0).1, .int .i64 (cycF a0d0).2]) ∧ Below w.heap.size w w' := implCyclesOf a0d0 w t
set_option maxRecDepth 100000 in
theorem implInstrOKA (d0 d1 d2 : Int) (w : World) (t : OpsT w) : Calls Tryd.prog 14 #[.agg #[.int .i64 d0, .int .i64 d1, .int .i64 d2]] w fun e w' => e = .returned (.bool (okIns d0 d1 d2)) ∧ Below w.heap.size w w' := implInstrOK d0 d1 d2 w t
end
end Go.Proofs.YtcchhbkbnbphhaaDoor
