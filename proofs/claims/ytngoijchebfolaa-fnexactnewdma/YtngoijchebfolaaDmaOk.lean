/- Channels that are valid, on both sides; the checks. Written by gen_dmaok.py. -/
import Derived.Test.YtngoijchebfolaaDmaMath
import Derived.Test.YtngoijchebfolaaOkDisk
namespace Go.Proofs.Ytngoijchebfolaa
open Go.RowKit

set_option maxRecDepth 100000 in
theorem l01InN (n a b : Int) (w : World) : Calls Try.prog 51 #[.int .i64 n, .int .i64 a, .int .i64 b] w fun e w' => e = .returned (.bool (decide (a ≤ n ∧ n ≤ b))) ∧ w = w' := by
  go_enter Try.func51, Try.ntmps51
  go_wp2
  all_goals go_ret
  all_goals (refine ⟨ret_bool ?_, rfl⟩)
  all_goals (rw [Bool.eq_iff_iff]; simp; try omega)
set_option maxRecDepth 100000 in
theorem isChannelB (n : Int) (w : World) : Calls Try.prog 80 #[.int .i64 n] w fun e w' => e = .returned (.bool (chanB n)) ∧ w = w' := by
  go_enter Try.func80, Try.ntmps80
  go_wp2
  all_goals go_ret
  all_goals (refine ⟨ret_bool ?_, rfl⟩)
  all_goals (unfold chanB; rw [Bool.eq_iff_iff]; simp; try omega)
set_option maxRecDepth 100000 in
theorem l05At9 (n : Int) (w : World) : Calls Try.prog 97 #[.int .i64 n] w fun e w' => e = .returned (.bool (adC n)) ∧ w = w' := by
  go_enter Try.func97, Try.ntmps97
  go_wp2_with (first | (go_at_call 51; refine (l01InN _ _ _ _).mono ?_; rintro e w' ⟨rfl, rfl⟩))
  all_goals go_ret
  all_goals (refine ⟨ret_bool ?_, rfl⟩)
  all_goals (unfold adC; rw [Bool.eq_iff_iff]; simp; try omega)
set_option maxRecDepth 100000 in
theorem isAddress9 (n : Int) (w : World) : Calls Try.prog 81 #[.int .i64 n] w fun e w' => e = .returned (.bool (adC n)) ∧ w = w' := by
  go_enter Try.func81, Try.ntmps81
  go_wp2
  all_goals go_ret
  all_goals (refine ⟨ret_bool ?_, rfl⟩)
  all_goals (unfold adC; rw [Bool.eq_iff_iff]; simp; try omega)
set_option maxRecDepth 100000 in
theorem isByte9 (n : Int) (w : World) : Calls Try.prog 82 #[.int .i64 n] w fun e w' => e = .returned (.bool (byC n)) ∧ w = w' := by
  go_enter Try.func82, Try.ntmps82
  go_wp2
  all_goals go_ret
  all_goals (refine ⟨ret_bool ?_, rfl⟩)
  all_goals (unfold byC; rw [Bool.eq_iff_iff]; simp; try omega)
set_option maxRecDepth 100000 in
theorem upTo9 (n : Int) (w : World) : Calls Try.prog 83 #[.int .i64 n, .int .i64 1] w fun e w' => e = .returned (.bool (upB n)) ∧ w = w' := by
  go_enter Try.func83, Try.ntmps83
  go_wp2
  all_goals go_ret
  all_goals (refine ⟨ret_bool ?_, rfl⟩)
  all_goals (unfold upB; rw [Bool.eq_iff_iff]; simp; try omega)

set_option maxRecDepth 100000 in
set_option maxHeartbeats 2000000 in
theorem l09Channel (x1 x2 x3 x4 : Int) (w : World) : Calls Try.prog 75 #[.agg #[.int .i64 x1, .int .i64 x2, .int .i64 x3, .int .i64 x4]] w fun e w' => e = .returned (.bool (chB (x1, x2, x3, x4))) ∧ Below w.heap.size w w' := by
  have hb0 := alloc_below w (.cells #[.int .i64 x1, .int .i64 x2, .int .i64 x3, .int .i64 x4] 36)
  obtain ⟨r, hr⟩ : ∃ r, chB (x1, x2, x3, x4) = r := ⟨_, rfl⟩
  rw [hr]
  unfold chB at hr
  simp only at hr
  by_cases h0 : adC x1 = true
  · skip
    by_cases h1 : adC x2 = true
    · skip
      by_cases h2 : byC x3 = true
      · skip
        by_cases h3 : upB x4 = true
        · skip
          have HR : Hid (r = true) := Lib.hid (by rw [← hr]; simp [h0, h1, h2, h3])
          clear hr
          have h2 : decide (0 ≤ x3 ∧ x3 ≤ 255) = true := h2
          have h3 : decide (0 ≤ x4 ∧ x4 ≤ 1) = true := h3
          go_enter Try.func75, Try.ntmps75
          go_wp2_with (first | (go_at_call 97; refine (l05At9 _ _).mono ?_; rintro e w' ⟨rfl, rfl⟩; (first | rw [h0] | rw [h1] | rw [h2] | rw [h3])) | (go_at_call 51; refine (l01InN _ _ _ _).mono ?_; rintro e w' ⟨rfl, rfl⟩; (first | rw [h0] | rw [h1] | rw [h2] | rw [h3])))
          go_ret
          exact ⟨ret_bool HR.out.symm, hb0⟩
        · have h3 : upB x4 = false := by simpa using h3
          have HR : Hid (r = false) := Lib.hid (by rw [← hr]; simp [h0, h1, h2, h3])
          clear hr
          have h2 : decide (0 ≤ x3 ∧ x3 ≤ 255) = true := h2
          have h3 : decide (0 ≤ x4 ∧ x4 ≤ 1) = false := h3
          go_enter Try.func75, Try.ntmps75
          go_wp2_with (first | (go_at_call 97; refine (l05At9 _ _).mono ?_; rintro e w' ⟨rfl, rfl⟩; (first | rw [h0] | rw [h1] | rw [h2] | rw [h3])) | (go_at_call 51; refine (l01InN _ _ _ _).mono ?_; rintro e w' ⟨rfl, rfl⟩; (first | rw [h0] | rw [h1] | rw [h2] | rw [h3])))
          go_ret
          exact ⟨ret_bool HR.out.symm, hb0⟩
      · have h2 : byC x3 = false := by simpa using h2
        have HR : Hid (r = false) := Lib.hid (by rw [← hr]; simp [h0, h1, h2])
        clear hr
        have h2 : decide (0 ≤ x3 ∧ x3 ≤ 255) = false := h2
        go_enter Try.func75, Try.ntmps75
        go_wp2_with (first | (go_at_call 97; refine (l05At9 _ _).mono ?_; rintro e w' ⟨rfl, rfl⟩; (first | rw [h0] | rw [h1] | rw [h2])) | (go_at_call 51; refine (l01InN _ _ _ _).mono ?_; rintro e w' ⟨rfl, rfl⟩; (first | rw [h0] | rw [h1] | rw [h2])))
        go_ret
        exact ⟨ret_bool HR.out.symm, hb0⟩
    · have h1 : adC x2 = false := by simpa using h1
      have HR : Hid (r = false) := Lib.hid (by rw [← hr]; simp [h0, h1])
      clear hr
      go_enter Try.func75, Try.ntmps75
      go_wp2_with (first | (go_at_call 97; refine (l05At9 _ _).mono ?_; rintro e w' ⟨rfl, rfl⟩; (first | rw [h0] | rw [h1])) | (go_at_call 51; refine (l01InN _ _ _ _).mono ?_; rintro e w' ⟨rfl, rfl⟩; (first | rw [h0] | rw [h1])))
      go_ret
      exact ⟨ret_bool HR.out.symm, hb0⟩
  · have h0 : adC x1 = false := by simpa using h0
    have HR : Hid (r = false) := Lib.hid (by rw [← hr]; simp [h0])
    clear hr
    go_enter Try.func75, Try.ntmps75
    go_wp2_with (first | (go_at_call 97; refine (l05At9 _ _).mono ?_; rintro e w' ⟨rfl, rfl⟩; (first | rw [h0])) | (go_at_call 51; refine (l01InN _ _ _ _).mono ?_; rintro e w' ⟨rfl, rfl⟩; (first | rw [h0])))
    go_ret
    exact ⟨ret_bool HR.out.symm, hb0⟩

set_option maxRecDepth 100000 in
set_option maxHeartbeats 2000000 in
theorem channelValid (x1 x2 x3 x4 : Int) (w : World) : Calls Try.prog 42 #[.agg #[.int .i64 x1, .int .i64 x2, .int .i64 x3, .int .i64 x4]] w fun e w' => e = .returned (.bool (chB (x1, x2, x3, x4))) ∧ Below w.heap.size w w' := by
  have hb0 := alloc_below w (.cells #[.int .i64 x1, .int .i64 x2, .int .i64 x3, .int .i64 x4] 36)
  obtain ⟨r, hr⟩ : ∃ r, chB (x1, x2, x3, x4) = r := ⟨_, rfl⟩
  rw [hr]
  unfold chB at hr
  simp only at hr
  by_cases h0 : adC x1 = true
  · skip
    by_cases h1 : adC x2 = true
    · skip
      by_cases h2 : byC x3 = true
      · skip
        by_cases h3 : upB x4 = true
        · skip
          have HR : Hid (r = true) := Lib.hid (by rw [← hr]; simp [h0, h1, h2, h3])
          clear hr
          go_enter Try.func42, Try.ntmps42
          go_wp2_with (first | (go_at_call 81; refine (isAddress9 _ _).mono ?_; rintro e w' ⟨rfl, rfl⟩; (first | rw [h0] | rw [h1] | rw [h2] | rw [h3])) | (go_at_call 82; refine (isByte9 _ _).mono ?_; rintro e w' ⟨rfl, rfl⟩; (first | rw [h0] | rw [h1] | rw [h2] | rw [h3])) | (go_at_call 83; refine (upTo9 _ _).mono ?_; rintro e w' ⟨rfl, rfl⟩; (first | rw [h0] | rw [h1] | rw [h2] | rw [h3])))
          go_ret
          exact ⟨ret_bool HR.out.symm, hb0⟩
        · have h3 : upB x4 = false := by simpa using h3
          have HR : Hid (r = false) := Lib.hid (by rw [← hr]; simp [h0, h1, h2, h3])
          clear hr
          go_enter Try.func42, Try.ntmps42
          go_wp2_with (first | (go_at_call 81; refine (isAddress9 _ _).mono ?_; rintro e w' ⟨rfl, rfl⟩; (first | rw [h0] | rw [h1] | rw [h2] | rw [h3])) | (go_at_call 82; refine (isByte9 _ _).mono ?_; rintro e w' ⟨rfl, rfl⟩; (first | rw [h0] | rw [h1] | rw [h2] | rw [h3])) | (go_at_call 83; refine (upTo9 _ _).mono ?_; rintro e w' ⟨rfl, rfl⟩; (first | rw [h0] | rw [h1] | rw [h2] | rw [h3])))
          go_ret
          exact ⟨ret_bool HR.out.symm, hb0⟩
      · have h2 : byC x3 = false := by simpa using h2
        have HR : Hid (r = false) := Lib.hid (by rw [← hr]; simp [h0, h1, h2])
        clear hr
        go_enter Try.func42, Try.ntmps42
        go_wp2_with (first | (go_at_call 81; refine (isAddress9 _ _).mono ?_; rintro e w' ⟨rfl, rfl⟩; (first | rw [h0] | rw [h1] | rw [h2])) | (go_at_call 82; refine (isByte9 _ _).mono ?_; rintro e w' ⟨rfl, rfl⟩; (first | rw [h0] | rw [h1] | rw [h2])) | (go_at_call 83; refine (upTo9 _ _).mono ?_; rintro e w' ⟨rfl, rfl⟩; (first | rw [h0] | rw [h1] | rw [h2])))
        go_ret
        exact ⟨ret_bool HR.out.symm, hb0⟩
    · have h1 : adC x2 = false := by simpa using h1
      have HR : Hid (r = false) := Lib.hid (by rw [← hr]; simp [h0, h1])
      clear hr
      go_enter Try.func42, Try.ntmps42
      go_wp2_with (first | (go_at_call 81; refine (isAddress9 _ _).mono ?_; rintro e w' ⟨rfl, rfl⟩; (first | rw [h0] | rw [h1])) | (go_at_call 82; refine (isByte9 _ _).mono ?_; rintro e w' ⟨rfl, rfl⟩; (first | rw [h0] | rw [h1])) | (go_at_call 83; refine (upTo9 _ _).mono ?_; rintro e w' ⟨rfl, rfl⟩; (first | rw [h0] | rw [h1])))
      go_ret
      exact ⟨ret_bool HR.out.symm, hb0⟩
  · have h0 : adC x1 = false := by simpa using h0
    have HR : Hid (r = false) := Lib.hid (by rw [← hr]; simp [h0])
    clear hr
    go_enter Try.func42, Try.ntmps42
    go_wp2_with (first | (go_at_call 81; refine (isAddress9 _ _).mono ?_; rintro e w' ⟨rfl, rfl⟩; (first | rw [h0])) | (go_at_call 82; refine (isByte9 _ _).mono ?_; rintro e w' ⟨rfl, rfl⟩; (first | rw [h0])) | (go_at_call 83; refine (upTo9 _ _).mono ?_; rintro e w' ⟨rfl, rfl⟩; (first | rw [h0])))
    go_ret
    exact ⟨ret_bool HR.out.symm, hb0⟩

set_option maxRecDepth 100000 in
set_option maxHeartbeats 2000000 in
theorem specDmaOK (A : Option Addr) (n c : Nat) (rs : List TChannel) (w : World) (hl : rs.length = n) (hn : n ≤ maxLen) (h : RowChannel w A rs) :
    Calls Try.prog 31 #[.slice A n c] w fun e w' => e = .returned (.bool (dmaB rs)) ∧ Below w.heap.size w w' := by
  unfold maxLen at hn
  have HL := Lib.hid hl
  have H := Lib.hid h
  clear hl h
  by_cases hm : 4096 < n
  · have hq : (4096 : Int) < (n : Int) := by omega
    have HF : Hid (dmaB rs = false) := Lib.hid (dmaB_no (by rw [HL.out]; omega))
    clear hm
    go_enter Try.func31, Try.ntmps31
    go_wp2
    go_ret
    exact ⟨ret_bool HF.out.symm, Below.refl _ _⟩
  · have hq : ¬ (4096 : Int) < (n : Int) := by omega
    clear hm
    go_enter Try.func31, Try.ntmps31
    go_wp2
    go_loopw [3] (fun i wr => ∃ k : Nat, k ≤ n ∧ i = .int .i64 k ∧ Hid (rs.all chB = (rs.drop k).all chB) ∧ Below w.heap.size w wr) (fun i _ => n - (intOf i).toNat)
    case atStart => exact ⟨0, Nat.zero_le _, rfl, Lib.hid rfl, Below.refl _ _⟩
    case round =>
      obtain ⟨k, hk, rfl, HT, hbw⟩ := hrel
      by_cases hlt : k < n
      · obtain ⟨b, off, rfl, c0, c1, c2, c3⟩ := (H.out.below hbw).at k (by rw [HL.out]; exact hlt)
        have HS := Lib.hid (all_step chB rs zChannel k (by rw [HL.out]; exact hlt))
        generalize rs.getD k zChannel = x at c0 c1 c2 c3 HS
        obtain ⟨x1, x2, x3, x4⟩ := x
        have hi : (k : Int) < (n : Int) := by omega
        have HC := Lib.hid (l09Channel x1 x2 x3 x4)
        by_cases hE : chB (x1, x2, x3, x4) = true
        · rw [hE] at HC
          go_wp2_with fail
          refine (HC.out _).mono ?_
          rintro e w1 ⟨rfl, hb1⟩
          clear c0 c1 c2 c3
          go_wp2
          go_roundw
          case rel => exact ⟨k + 1, by omega, by go_num, Lib.hid (by rw [HT.out, HS.out, hE]; rfl), bt hbw hb1⟩
          case measure => simp [intOf]; omega
        · have hE' : chB (x1, x2, x3, x4) = false := by simpa using hE
          rw [hE'] at HC
          clear hE
          go_wp2_with fail
          refine (HC.out _).mono ?_
          rintro e w1 ⟨rfl, hb1⟩
          clear c0 c1 c2 c3
          go_wp2
          go_ret
          exact ⟨ret_bool (by unfold dmaB; rw [HT.out, HS.out, hE']; simp), bt hbw hb1⟩
      · have HT2 : Hid (rs.all chB = true) := Lib.hid (by rw [HT.out]; exact all_end _ _ _ (by rw [HL.out]; omega))
        have HD : Hid (dmaB rs = ((n : Int) == 4)) := Lib.hid (by unfold dmaB; rw [HT2.out, HL.out, Bool.eq_iff_iff]; simp; omega)
        clear HT HT2
        go_wp2
        go_ret
        exact ⟨ret_bool HD.out.symm, hbw⟩
set_option maxRecDepth 100000 in
set_option maxHeartbeats 2000000 in
theorem allChannels (A : Option Addr) (n c : Nat) (rs : List TChannel) (w : World) (hl : rs.length = n) (hn : n ≤ maxLen) (h : RowChannel w A rs) :
    Calls Try.prog 48 #[.slice A n c] w fun e w' => e = .returned (.bool (dmaB rs)) ∧ Below w.heap.size w w' := by
  unfold maxLen at hn
  by_cases hm : n = 4
  · subst hm
    have HL := Lib.hid hl
    have H := Lib.hid h
    have HY := Lib.hid (dmaB_yes hl)
    clear hl h
    generalize dmaB rs = r at HY
    go_enter Try.func48, Try.ntmps48
    go_wp2
    go_loopw [7] (fun i wr => ∃ k : Nat, k ≤ 4 ∧ i = .int .i64 k ∧ Hid (rs.all chB = (rs.drop k).all chB) ∧ Below w.heap.size w wr) (fun i _ => 4 - (intOf i).toNat)
    case atStart => exact ⟨0, Nat.zero_le _, rfl, Lib.hid rfl, Below.refl _ _⟩
    case round =>
      obtain ⟨k, hk, rfl, HT, hbw⟩ := hrel
      by_cases hlt : k < 4
      · obtain ⟨b, off, rfl, c0, c1, c2, c3⟩ := (H.out.below hbw).at k (by rw [HL.out]; exact hlt)
        have HS := Lib.hid (all_step chB rs zChannel k (by rw [HL.out]; exact hlt))
        generalize rs.getD k zChannel = x at c0 c1 c2 c3 HS
        obtain ⟨x1, x2, x3, x4⟩ := x
        have hi : (k : Int) < 4 := by omega
        have HC := Lib.hid (channelValid x1 x2 x3 x4)
        by_cases hE : chB (x1, x2, x3, x4) = true
        · rw [hE] at HC
          go_wp2_with fail
          refine (HC.out _).mono ?_
          rintro e w1 ⟨rfl, hb1⟩
          clear c0 c1 c2 c3
          go_wp2
          go_roundw
          case rel => exact ⟨k + 1, by omega, by go_num, Lib.hid (by rw [HT.out, HS.out, hE]; rfl), bt hbw hb1⟩
          case measure => simp [intOf]; omega
        · have hE' : chB (x1, x2, x3, x4) = false := by simpa using hE
          rw [hE'] at HC
          clear hE
          go_wp2_with fail
          refine (HC.out _).mono ?_
          rintro e w1 ⟨rfl, hb1⟩
          clear c0 c1 c2 c3
          go_wp2
          go_ret
          exact ⟨ret_bool (by rw [HY.out, HT.out, HS.out, hE']; simp), bt hbw hb1⟩
      · have HT2 : Hid (r = true) := Lib.hid (by rw [HY.out, HT.out]; exact all_end _ _ _ (by rw [HL.out]; omega))
        have hi : ¬ (k : Int) < 4 := by omega
        clear HT
        go_wp2
        go_ret
        exact ⟨ret_bool HT2.out.symm, hbw⟩
  · have hq : ((n : Int) != 4) = true := by simp; omega
    have HF : Hid (dmaB rs = false) := Lib.hid (dmaB_no (by omega))
    clear hm hl h
    go_enter Try.func48, Try.ntmps48
    go_wp2
    go_ret
    exact ⟨ret_bool HF.out.symm, Below.refl _ _⟩
set_option maxRecDepth 100000 in
theorem implDmaOK (A : Option Addr) (n c : Nat) (rs : List TChannel) (w : World) (hl : rs.length = n) (hn : n ≤ maxLen) (h : RowChannel w A rs) :
    Calls Try.prog 14 #[.slice A n c] w fun e w' => e = .returned (.bool (dmaB rs)) ∧ Below w.heap.size w w' := by
  have H := Lib.hid (allChannels A n c rs w hl hn h)
  clear hl hn h
  go_enter Try.func14, Try.ntmps14
  go_wp2_with fail
  refine H.out.mono ?_
  rintro e w1 ⟨rfl, hb⟩
  go_wp2
  go_ret
  exact ⟨rfl, hb⟩
set_option maxRecDepth 100000 in
theorem checkChannel (A : Option Addr) (n c : Nat) (rs : List TChannel) (i : Int) (w : World) (hl : rs.length = n) (hn : n ≤ maxLen) (h : RowChannel w A rs) :
    Calls Try.prog 41 #[.slice A n c, .int .i64 i] w fun e w' => e = .returned (.int .i64 (chanC rs i)) ∧ Below w.heap.size w w' := by
  have H := Lib.hid (allChannels A n c rs w hl hn h)
  have HR : Hid (chanC rs i = if 4096 < rs.length then 2 else if dmaB rs = true then (if chanB i = true then 0 else 4) else 1) := Lib.hid rfl
  rw [hl] at HR
  unfold maxLen at hn
  clear hl h
  generalize chanC rs i = r at HR
  by_cases hm : 4096 < n
  · have hq : (4096 : Int) < (n : Int) := by omega
    have HF : Hid (r = 2) := Lib.hid (by rw [HR.out, if_pos hm])
    clear hm HR H
    go_enter Try.func41, Try.ntmps41
    go_wp2
    go_ret
    exact ⟨ret_int HF.out.symm, Below.refl _ _⟩
  · have hq : ¬ (4096 : Int) < (n : Int) := by omega
    by_cases h1 : dmaB rs = true
    · have HF : Hid (r = if chanB i = true then 0 else 4) := Lib.hid (by rw [HR.out, if_neg hm, if_pos h1])
      rw [h1] at H
      clear hm HR h1
      have HC := Lib.hid (isChannelB i)
      cases h2 : chanB i with
      | true =>
        rw [h2] at HF HC
        go_enter Try.func41, Try.ntmps41
        go_wp2_with fail
        refine H.out.mono ?_
        rintro e w1 ⟨rfl, hb⟩
        go_wp2_with fail
        refine (HC.out _).mono ?_
        rintro e w2 ⟨rfl, rfl⟩
        go_wp2
        go_ret
        exact ⟨ret_int HF.out.symm, hb⟩
      | false =>
        rw [h2] at HF HC
        go_enter Try.func41, Try.ntmps41
        go_wp2_with fail
        refine H.out.mono ?_
        rintro e w1 ⟨rfl, hb⟩
        go_wp2_with fail
        refine (HC.out _).mono ?_
        rintro e w2 ⟨rfl, rfl⟩
        go_wp2
        go_ret
        exact ⟨ret_int HF.out.symm, hb⟩
    · have h1' : dmaB rs = false := by simpa using h1
      have HF : Hid (r = 1) := Lib.hid (by rw [HR.out, if_neg hm, if_neg h1])
      rw [h1'] at H
      clear hm HR h1 h1'
      go_enter Try.func41, Try.ntmps41
      go_wp2_with fail
      refine H.out.mono ?_
      rintro e w1 ⟨rfl, hb⟩
      go_wp2
      go_ret
      exact ⟨ret_int HF.out.symm, hb⟩
section
variable (A0 : Option Addr) (c0 : Nat) (d0 : List TChannel) (w : World)
theorem rowsOf {w : World} {A : Option Addr} {c : Nat} {rs : List TChannel} (h : RepA w [.slice A rs.length c] [rChannel rs]) : RowChannel w A rs := (rep_rChannel.1 h.1).2
theorem rowsLen {rs : List TChannel} (z : szA [rChannel rs] ≤ 1048576) : rs.length ≤ maxLen := by
  simp only [szA, sz_rChannel] at z
  unfold maxLen; omega
set_option maxRecDepth 100000 in
theorem specDmaOKA (h : RepA w [.slice A0 d0.length c0] [rChannel d0]) (_c : CapA [.slice A0 d0.length c0]) (z : szA [rChannel d0] ≤ 1048576) :
    Calls Try.prog 31 #[.slice A0 d0.length c0] w fun e w' => e = .returned (.bool (dmaB d0)) ∧ Below w.heap.size w w' := specDmaOK A0 _ c0 d0 w rfl (rowsLen z) (rowsOf h)
set_option maxRecDepth 100000 in
theorem implDmaOKA (h : RepA w [.slice A0 d0.length c0] [rChannel d0]) (_c : CapA [.slice A0 d0.length c0]) (z : szA [rChannel d0] ≤ 1048576) :
    Calls Try.prog 14 #[.slice A0 d0.length c0] w fun e w' => e = .returned (.bool (dmaB d0)) ∧ Below w.heap.size w w' := implDmaOK A0 _ c0 d0 w rfl (rowsLen z) (rowsOf h)
end
end Go.Proofs.Ytngoijchebfolaa
