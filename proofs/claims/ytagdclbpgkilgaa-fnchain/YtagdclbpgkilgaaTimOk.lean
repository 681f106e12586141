/- Timers that are valid, on both sides; the checks. Written by gen_timok.py. -/
import Derived.Test.YtagdclbpgkilgaaTimMath
import Derived.Test.YtagdclbpgkilgaaRowsTimer
namespace Go.Proofs.Ytagdclbpgkilgaa
open Go.RowKit

set_option maxRecDepth 100000 in
theorem inT (n a b : Int) (w : World) : Calls Try.prog 51 #[.int .i64 n, .int .i64 a, .int .i64 b] w fun e w' => e = .returned (.bool (decide (a ≤ n ∧ n ≤ b))) ∧ w = w' := by
  go_enter Try.func51, Try.ntmps51
  go_wp2
  all_goals go_ret
  all_goals (refine ⟨ret_bool ?_, rfl⟩)
  all_goals (rw [Bool.eq_iff_iff]; simp; try omega)
set_option maxRecDepth 100000 in
theorem upT (n m : Int) (w : World) : Calls Try.prog 57 #[.int .i64 n, .int .i64 m] w fun e w' => e = .returned (.bool (decide (0 ≤ n ∧ n ≤ m))) ∧ w = w' := by
  go_enter Try.func57, Try.ntmps57
  go_wp2
  all_goals go_ret
  all_goals (refine ⟨ret_bool ?_, rfl⟩)
  all_goals (rw [Bool.eq_iff_iff]; simp; try omega)
set_option maxRecDepth 100000 in
theorem isT (n : Int) (w : World) : Calls Try.prog 62 #[.int .i64 n] w fun e w' => e = .returned (.bool (iB n)) ∧ w = w' := by
  go_enter Try.func62, Try.ntmps62
  go_wp2
  all_goals go_ret
  all_goals (refine ⟨ret_bool ?_, rfl⟩)
  all_goals (unfold iB; rw [Bool.eq_iff_iff]; simp; try omega)
set_option maxRecDepth 100000 in
theorem mayT (n : Int) (w : World) : Calls Try.prog 63 #[.int .i64 n] w fun e w' => e = .returned (.bool (decide (0 < n))) ∧ w = w' := by
  go_enter Try.func63, Try.ntmps63
  go_wp2
  all_goals go_ret
  all_goals (refine ⟨ret_bool ?_, rfl⟩)
  all_goals (first | rfl | (rw [Bool.eq_iff_iff]; simp; try omega))

set_option maxRecDepth 100000 in
set_option maxHeartbeats 2000000 in
theorem timerValid (c l : Int) (h : Bool) (w : World) : Calls Try.prog 89 #[.agg #[.int .i64 c, .int .i64 l, .bool h]] w fun e w' => e = .returned (.bool (tmB (c, l, h))) ∧ Below w.heap.size w w' := by
  have hb0 := alloc_below w (.cells #[.int .i64 c, .int .i64 l, .bool h] 54)
  obtain ⟨r, hr⟩ : ∃ r, tmB (c, l, h) = r := ⟨_, rfl⟩
  rw [hr]
  unfold tmB limB cntB at hr
  simp only at hr
  cases h0 : decide (0 ≤ l ∧ l ≤ 256) with
  | false =>
    rw [h0, Bool.false_and] at hr
    have HR := Lib.hid hr
    clear hr
    go_enter Try.func89, Try.ntmps89
    go_wp2_with (first | (go_at_call 57; refine (upT _ _ _).mono ?_; rintro e w' ⟨rfl, rfl⟩; rw [h0]))
    go_ret
    exact ⟨ret_bool HR.out, hb0⟩
  | true =>
    rw [h0, Bool.true_and] at hr
    have hl : 0 ≤ l ∧ l ≤ 256 := by simpa using h0
    obtain ⟨l0, l1⟩ := hl
    have h1 : decide (0 ≤ c ∧ c ≤ max (l - 1) 0) = r := hr
    clear hr
    by_cases hl : l = 0
    · subst hl
      have h1 : decide (0 ≤ c ∧ c ≤ 0) = r := h1
      go_enter Try.func89, Try.ntmps89
      go_wp2_with (first | (go_at_call 57; refine (upT _ _ _).mono ?_; rintro e w' ⟨rfl, rfl⟩; (first | rw [h0] | rw [h1])))
      go_ret
      exact ⟨rfl, hb0⟩
    · have l2 : 0 ≤ l - 1 := by omega
      rw [show max (l - 1) 0 = l - 1 by omega] at h1
      go_enter Try.func89, Try.ntmps89
      go_wp2_with (first | (go_at_call 57; refine (upT _ _ _).mono ?_; rintro e w' ⟨rfl, rfl⟩; (first | rw [h0] | rw [h1])))
      go_ret
      exact ⟨rfl, hb0⟩


set_option maxRecDepth 100000 in
set_option maxHeartbeats 4000000 in
theorem specTimersOK (A : Option Addr) (n c : Nat) (rs : List TTimer) (w : World) (hl : rs.length = n) (hn : n ≤ maxLen) (h : RowTimer w A rs) :
    Calls Try.prog 28 #[.slice A n c] w fun e w' => e = .returned (.bool (timB rs)) ∧ Below w.heap.size w w' := by
  unfold maxLen at hn
  have HL := Lib.hid hl
  have H := Lib.hid h
  clear hl h
  by_cases hm : 4096 < n
  · have hq : (4096 : Int) < (n : Int) := by omega
    have HF : Hid (timB rs = false) := Lib.hid (timB_no (by rw [HL.out]; omega))
    clear hm
    go_enter Try.func28, Try.ntmps28
    go_wp2
    go_ret
    exact ⟨ret_bool HF.out.symm, Below.refl _ _⟩
  · have hq : ¬ (4096 : Int) < (n : Int) := by omega
    clear hm
    go_enter Try.func28, Try.ntmps28
    go_wp2
    go_loopw [3] (fun i wr => ∃ k : Nat, k ≤ n ∧ i = .int .i64 k ∧ Hid (∀ j, j < k → okT rs j = true) ∧ Below w.heap.size w wr) (fun i _ => n - (intOf i).toNat)
    case atStart => exact ⟨0, Nat.zero_le _, rfl, Lib.hid (fun j hj => absurd hj (by omega)), Below.refl _ _⟩
    case round =>
      obtain ⟨k, hk, rfl, HT, hbw⟩ := hrel
      by_cases hlt : k < n
      · obtain ⟨b, off, rfl, c0, c1, c2⟩ := (H.out.below hbw).at k (by rw [HL.out]; exact hlt)
        have HS : Hid (okT rs k = (tmB (rs.getD k zTimer) && !((rs.getD k zTimer).2.2 && decide (k = 0)))) := Lib.hid rfl
        have HN := Lib.hid (fun (hE : okT rs k = false) => timB_bad (rs := rs) (i := k) (by rw [HL.out]; exact hlt) hE)
        generalize rs.getD k zTimer = x at c0 c1 c2 HS
        obtain ⟨x1, x2, x3⟩ := x
        have hi : (k : Int) < (n : Int) := by omega
        have hbe := bt hbw (alloc_below wr (.cells #[.int .i64 x1, .int .i64 x2, .bool x3] 54))
        unfold tmB limB cntB at HS
        simp only at HS
        cases h0 : decide (0 ≤ x2 ∧ x2 ≤ 256) with
        | false =>
          rw [h0] at HS
          have HF := Lib.hid (HN.out (by rw [HS.out]; rfl))
          clear HS HN
          go_wp2_with (first | (go_at_call 51; refine (inT _ _ _ _).mono ?_; rintro e w' ⟨rfl, rfl⟩; rw [h0]))
          go_ret
          exact ⟨ret_bool HF.out.symm, hbe⟩
        | true =>
          have hl2 : 0 ≤ x2 ∧ x2 ≤ 256 := by simpa using h0
          obtain ⟨l0, l1⟩ := hl2
          by_cases hx : x2 = 0
          · subst hx
            cases h1 : decide (0 ≤ x1 ∧ x1 ≤ 0) with
            | false =>
              rw [h0, (show decide (0 ≤ x1 ∧ x1 ≤ max ((0 : Int) - 1) 0) = _ from h1)] at HS
              have HF := Lib.hid (HN.out (by rw [HS.out]; rfl))
              clear HS HN
              go_wp2_with (first | (go_at_call 51; refine (inT _ _ _ _).mono ?_; rintro e w' ⟨rfl, rfl⟩; (first | rw [h0] | rw [h1])))
              go_ret
              exact ⟨ret_bool HF.out.symm, hbe⟩
            | true =>
              rw [h0, (show decide (0 ≤ x1 ∧ x1 ≤ max ((0 : Int) - 1) 0) = _ from h1)] at HS
              cases x3 with
              | false =>
                have HO : Hid (okT rs k = true) := Lib.hid (by rw [HS.out]; rfl)
                clear HS HN
                go_wp2_with (first | (go_at_call 51; refine (inT _ _ _ _).mono ?_; rintro e w' ⟨rfl, rfl⟩; (first | rw [h0] | rw [h1])))
                go_roundw
                case rel => exact ⟨k + 1, by omega, by go_num, Lib.hid (fun j hj => by rcases Nat.lt_succ_iff_lt_or_eq.1 hj with g | rfl; exact HT.out j g; exact HO.out), hbe⟩
                case measure => simp [intOf]; omega
              | true =>
                by_cases hz : k = 0
                · have hz' : ((k : Int) == 0) = true := by simpa using hz
                  have HF := Lib.hid (HN.out (by rw [HS.out, hz]; rfl))
                  clear HS HN hz
                  go_wp2_with (first | (go_at_call 51; refine (inT _ _ _ _).mono ?_; rintro e w' ⟨rfl, rfl⟩; (first | rw [h0] | rw [h1])))
                  go_ret
                  exact ⟨ret_bool HF.out.symm, hbe⟩
                · have hz' : ((k : Int) == 0) = false := by simpa using hz
                  have HO : Hid (okT rs k = true) := Lib.hid (by rw [HS.out]; simp [hz])
                  clear HS HN hz
                  go_wp2_with (first | (go_at_call 51; refine (inT _ _ _ _).mono ?_; rintro e w' ⟨rfl, rfl⟩; (first | rw [h0] | rw [h1])))
                  go_roundw
                  case rel => exact ⟨k + 1, by omega, by go_num, Lib.hid (fun j hj => by rcases Nat.lt_succ_iff_lt_or_eq.1 hj with g | rfl; exact HT.out j g; exact HO.out), hbe⟩
                  case measure => simp [intOf]; omega
          · have l2 : 0 ≤ x2 - 1 := by omega
            rw [show max (x2 - 1) 0 = x2 - 1 by omega] at HS
            cases h1 : decide (0 ≤ x1 ∧ x1 ≤ x2 - 1) with
            | false =>
              rw [h0, h1] at HS
              have HF := Lib.hid (HN.out (by rw [HS.out]; rfl))
              clear HS HN
              go_wp2_with (first | (go_at_call 51; refine (inT _ _ _ _).mono ?_; rintro e w' ⟨rfl, rfl⟩; (first | rw [h0] | rw [h1])))
              go_ret
              exact ⟨ret_bool HF.out.symm, hbe⟩
            | true =>
              rw [h0, h1] at HS
              cases x3 with
              | false =>
                have HO : Hid (okT rs k = true) := Lib.hid (by rw [HS.out]; rfl)
                clear HS HN
                go_wp2_with (first | (go_at_call 51; refine (inT _ _ _ _).mono ?_; rintro e w' ⟨rfl, rfl⟩; (first | rw [h0] | rw [h1])))
                go_roundw
                case rel => exact ⟨k + 1, by omega, by go_num, Lib.hid (fun j hj => by rcases Nat.lt_succ_iff_lt_or_eq.1 hj with g | rfl; exact HT.out j g; exact HO.out), hbe⟩
                case measure => simp [intOf]; omega
              | true =>
                by_cases hz : k = 0
                · have hz' : ((k : Int) == 0) = true := by simpa using hz
                  have HF := Lib.hid (HN.out (by rw [HS.out, hz]; rfl))
                  clear HS HN hz
                  go_wp2_with (first | (go_at_call 51; refine (inT _ _ _ _).mono ?_; rintro e w' ⟨rfl, rfl⟩; (first | rw [h0] | rw [h1])))
                  go_ret
                  exact ⟨ret_bool HF.out.symm, hbe⟩
                · have hz' : ((k : Int) == 0) = false := by simpa using hz
                  have HO : Hid (okT rs k = true) := Lib.hid (by rw [HS.out]; simp [hz])
                  clear HS HN hz
                  go_wp2_with (first | (go_at_call 51; refine (inT _ _ _ _).mono ?_; rintro e w' ⟨rfl, rfl⟩; (first | rw [h0] | rw [h1])))
                  go_roundw
                  case rel => exact ⟨k + 1, by omega, by go_num, Lib.hid (fun j hj => by rcases Nat.lt_succ_iff_lt_or_eq.1 hj with g | rfl; exact HT.out j g; exact HO.out), hbe⟩
                  case measure => simp [intOf]; omega
      · have HD : Hid (timB rs = ((n : Int) == 4)) := Lib.hid (by rw [timB_all (fun i hi => HT.out i (by have := HL.out; omega)), HL.out, Bool.eq_iff_iff]; simp; omega)
        clear HT
        go_wp2
        go_ret
        exact ⟨ret_bool HD.out.symm, hbw⟩

set_option maxRecDepth 100000 in
set_option maxHeartbeats 4000000 in
theorem allTimers (A : Option Addr) (n c : Nat) (rs : List TTimer) (w : World) (hl : rs.length = n) (hn : n ≤ maxLen) (h : RowTimer w A rs) :
    Calls Try.prog 61 #[.slice A n c] w fun e w' => e = .returned (.bool (timB rs)) ∧ Below w.heap.size w w' := by
  unfold maxLen at hn
  by_cases hm : n = 4
  · subst hm
    have HL := Lib.hid hl
    have H := Lib.hid h
    clear hl h
    go_enter Try.func61, Try.ntmps61
    go_wp2
    go_loopw [10] (fun i wr => ∃ k : Nat, k ≤ 4 ∧ i = .int .i64 k ∧ Hid (∀ j, j < k → okT rs j = true) ∧ Below w.heap.size w wr) (fun i _ => 4 - (intOf i).toNat)
    case atStart => exact ⟨0, Nat.zero_le _, rfl, Lib.hid (fun j hj => absurd hj (by omega)), Below.refl _ _⟩
    case round =>
      obtain ⟨k, hk, rfl, HT, hbw⟩ := hrel
      by_cases hlt : k < 4
      · obtain ⟨b, off, rfl, c0, c1, c2⟩ := (H.out.below hbw).at k (by rw [HL.out]; exact hlt)
        have HS : Hid (okT rs k = (tmB (rs.getD k zTimer) && !((rs.getD k zTimer).2.2 && decide (k = 0)))) := Lib.hid rfl
        have HN := Lib.hid (fun (hE : okT rs k = false) => timB_bad (rs := rs) (i := k) (by rw [HL.out]; exact hlt) hE)
        generalize rs.getD k zTimer = x at c0 c1 c2 HS
        obtain ⟨x1, x2, x3⟩ := x
        have hi : (k : Int) < 4 := by omega
        obtain ⟨W0, hW0⟩ : ∃ W0, W0 = wr.alloc (.cells #[.int .i64 x1, .int .i64 x2, .bool x3] 54) := ⟨_, rfl⟩
        have hbe : Below w.heap.size w W0 := by rw [hW0]; exact bt hbw (alloc_below wr _)
        have X0 : Hid (Box W0 wr.heap.size 54 #[.int .i64 x1, .int .i64 x2, .bool x3]) := Lib.hid (by rw [hW0]; exact Box.new _ _ _)
        have HW0 := Lib.hid hW0
        have HC := Lib.hid (timerValid x1 x2 x3 W0)
        clear hW0
        simp only at HS
        cases hE : tmB (x1, x2, x3) with
        | false =>
          rw [hE] at HC HS
          have HF := Lib.hid (HN.out (by rw [HS.out]; rfl))
          clear HS HN hE
          go_wp2_with fail
          rw [← HW0.out]
          refine HC.out.mono ?_
          rintro e w1 ⟨rfl, hb1⟩
          clear c0 c1 c2
          go_wp2
          go_ret
          exact ⟨ret_bool HF.out.symm, bt hbe hb1⟩
        | true =>
          rw [hE] at HC HS
          clear hE
          cases x3 with
          | false =>
            have HO : Hid (okT rs k = true) := Lib.hid (by rw [HS.out]; rfl)
            clear HS HN
            go_wp2_with fail
            rw [← HW0.out]
            refine HC.out.mono ?_
            rintro e w1 ⟨rfl, hb1⟩
            have f2 := (X0.out.step hb1).cell 2 rfl
            clear c0 c1 c2
            go_wp2
            go_roundw
            case rel => exact ⟨k + 1, by omega, by go_num, Lib.hid (fun j hj => by rcases Nat.lt_succ_iff_lt_or_eq.1 hj with g | rfl; exact HT.out j g; exact HO.out), bt hbe hb1⟩
            case measure => simp [intOf]; omega
          | true =>
            by_cases hz : k = 0
            · have hz' : decide ((0 : Int) < (k : Int)) = false := by simp; omega
              have HF := Lib.hid (HN.out (by rw [HS.out, hz]; rfl))
              clear HS HN hz
              go_wp2_with fail
              rw [← HW0.out]
              refine HC.out.mono ?_
              rintro e w1 ⟨rfl, hb1⟩
              have f2 := (X0.out.step hb1).cell 2 rfl
              clear c0 c1 c2
              go_wp2_with (first | (go_at_call 63; refine (mayT _ _).mono ?_; rintro e w' ⟨rfl, rfl⟩; rw [hz']))
              go_ret
              exact ⟨ret_bool HF.out.symm, bt hbe hb1⟩
            · have hz' : decide ((0 : Int) < (k : Int)) = true := by simp; omega
              have HO : Hid (okT rs k = true) := Lib.hid (by rw [HS.out]; simp [hz])
              clear HS HN hz
              go_wp2_with fail
              rw [← HW0.out]
              refine HC.out.mono ?_
              rintro e w1 ⟨rfl, hb1⟩
              have f2 := (X0.out.step hb1).cell 2 rfl
              clear c0 c1 c2
              go_wp2_with (first | (go_at_call 63; refine (mayT _ _).mono ?_; rintro e w' ⟨rfl, rfl⟩; rw [hz']))
              go_roundw
              case rel => exact ⟨k + 1, by omega, by go_num, Lib.hid (fun j hj => by rcases Nat.lt_succ_iff_lt_or_eq.1 hj with g | rfl; exact HT.out j g; exact HO.out), bt hbe hb1⟩
              case measure => simp [intOf]; omega
      · have HD : Hid (timB rs = true) := Lib.hid (by rw [timB_all (fun i hi => HT.out i (by have := HL.out; omega)), HL.out]; rfl)
        have hi : ¬ (k : Int) < 4 := by omega
        clear HT
        go_wp2
        go_ret
        exact ⟨ret_bool HD.out.symm, hbw⟩
  · have hq : ((n : Int) != 4) = true := by simp; omega
    have HF : Hid (timB rs = false) := Lib.hid (timB_no (by omega))
    clear hm hl h
    go_enter Try.func61, Try.ntmps61
    go_wp2
    go_ret
    exact ⟨ret_bool HF.out.symm, Below.refl _ _⟩
set_option maxRecDepth 100000 in
theorem implTimersOK (A : Option Addr) (n c : Nat) (rs : List TTimer) (w : World) (hl : rs.length = n) (hn : n ≤ maxLen) (h : RowTimer w A rs) :
    Calls Try.prog 24 #[.slice A n c] w fun e w' => e = .returned (.bool (timB rs)) ∧ Below w.heap.size w w' := by
  have H := Lib.hid (allTimers A n c rs w hl hn h)
  clear hl hn h
  go_enter Try.func24, Try.ntmps24
  go_wp2_with fail
  refine H.out.mono ?_
  rintro e w1 ⟨rfl, hb⟩
  go_wp2
  go_ret
  exact ⟨rfl, hb⟩
set_option maxRecDepth 100000 in
theorem checkTimers (A : Option Addr) (n c : Nat) (rs : List TTimer) (w : World) (hl : rs.length = n) (hn : n ≤ maxLen) (h : RowTimer w A rs) :
    Calls Try.prog 56 #[.slice A n c] w fun e w' => e = .returned (.int .i64 (timC rs)) ∧ Below w.heap.size w w' := by
  have H := Lib.hid (allTimers A n c rs w hl hn h)
  have HR : Hid (timC rs = if 4096 < rs.length then 2 else if timB rs = true then 0 else 1) := Lib.hid rfl
  rw [hl] at HR
  unfold maxLen at hn
  clear hl h
  generalize timC rs = r at HR
  by_cases hm : 4096 < n
  · have hq : (4096 : Int) < (n : Int) := by omega
    have HF : Hid (r = 2) := Lib.hid (by rw [HR.out, if_pos hm])
    clear hm HR H
    go_enter Try.func56, Try.ntmps56
    go_wp2
    go_ret
    exact ⟨ret_int HF.out.symm, Below.refl _ _⟩
  · have hq : ¬ (4096 : Int) < (n : Int) := by omega
    rw [if_neg hm] at HR
    clear hm
    cases h1 : timB rs with
    | true =>
      rw [h1] at H HR
      have HF : Hid (r = 0) := Lib.hid (by rw [HR.out]; rfl)
      clear HR h1
      go_enter Try.func56, Try.ntmps56
      go_wp2_with fail
      refine H.out.mono ?_
      rintro e w1 ⟨rfl, hb⟩
      go_wp2
      go_ret
      exact ⟨ret_int HF.out.symm, hb⟩
    | false =>
      rw [h1] at H HR
      have HF : Hid (r = 1) := Lib.hid (by rw [HR.out]; rfl)
      clear HR h1
      go_enter Try.func56, Try.ntmps56
      go_wp2_with fail
      refine H.out.mono ?_
      rintro e w1 ⟨rfl, hb⟩
      go_wp2
      go_ret
      exact ⟨ret_int HF.out.symm, hb⟩
section
variable (A0 : Option Addr) (c0 : Nat) (d0 : List TTimer) (w : World)
theorem rowsOfT {w : World} {A : Option Addr} {c : Nat} {rs : List TTimer} (h : RepA w [.slice A rs.length c] [rTimer rs]) : RowTimer w A rs := (rep_rTimer.1 h.1).2
theorem rowsLenT {rs : List TTimer} (z : szA [rTimer rs] ≤ 1048576) : rs.length ≤ maxLen := by
  simp only [szA, sz_rTimer] at z
  unfold maxLen; omega
set_option maxRecDepth 100000 in
theorem specTimersOKA (h : RepA w [.slice A0 d0.length c0] [rTimer d0]) (_c : CapA [.slice A0 d0.length c0]) (z : szA [rTimer d0] ≤ 1048576) :
    Calls Try.prog 28 #[.slice A0 d0.length c0] w fun e w' => e = .returned (.bool (timB d0)) ∧ Below w.heap.size w w' := specTimersOK A0 _ c0 d0 w rfl (rowsLenT z) (rowsOfT h)
set_option maxRecDepth 100000 in
theorem implTimersOKA (h : RepA w [.slice A0 d0.length c0] [rTimer d0]) (_c : CapA [.slice A0 d0.length c0]) (z : szA [rTimer d0] ≤ 1048576) :
    Calls Try.prog 24 #[.slice A0 d0.length c0] w fun e w' => e = .returned (.bool (timB d0)) ∧ Below w.heap.size w w' := implTimersOK A0 _ c0 d0 w rfl (rowsLenT z) (rowsOfT h)
end
end Go.Proofs.Ytagdclbpgkilgaa
