/- An interrupt controller's validity: levels, lines, IrqOK on both sides, the checks of a line. -/
import Derived.Test.YtamfapmkdojhcaaChipOf
import Derived.Test.YtamfapmkdojhcaaGenIrq
namespace Go.Proofs.Ytamfapmkdojhcaa
open Go.RowKit

/-- From 0 to 7: a level, or a line. -/
def lvB (n : Int) : Bool := decide (0 ≤ n ∧ n ≤ 7)
def okIrq (d0 : List Int) (d1 : List Bool) : Bool := decide (d0.length = 8) && (decide (d1.length = 8) && d0.all lvB)
theorem lvB_range {n : Int} (h : lvB n = true) : 0 ≤ n ∧ n ≤ 7 := by simpa [lvB] using h
theorem okIrq_no1 (d0 : List Int) (d1 : List Bool) (h : d0.length ≠ 8) : okIrq d0 d1 = false := by unfold okIrq; simp [h]
theorem okIrq_no2 (d0 : List Int) (d1 : List Bool) (h : d1.length ≠ 8) : okIrq d0 d1 = false := by unfold okIrq; simp [h]
theorem okIrq_yes (d0 : List Int) (d1 : List Bool) (h : d0.length = 8) (h2 : d1.length = 8) : okIrq d0 d1 = d0.all lvB := by unfold okIrq; simp [h, h2]
theorem okIrq_len {d0 : List Int} {d1 : List Bool} (h : okIrq d0 d1 = true) : d0.length = 8 ∧ d1.length = 8 ∧ ∀ z ∈ d0, 0 ≤ z ∧ z ≤ 7 := by
  unfold okIrq at h
  simp only [Bool.and_eq_true, decide_eq_true_eq, List.all_eq_true] at h
  exact ⟨h.1, h.2.1, fun z hz => lvB_range (h.2.2 z hz)⟩
/-- What a check of a line answers. -/
def lineC (d0 : List Int) (d1 : List Bool) (n : Int) : Int := if okIrq d0 d1 then (if lvB n then 0 else 4) else 1

set_option maxRecDepth 100000 in
theorem isLine (n : Int) (w : World) : Calls Try.prog 58 #[.int .i64 n] w fun e w' => e = .returned (.bool (lvB n)) ∧ w = w' := by
  go_enter Try.func58, Try.ntmps58
  go_wp2
  all_goals go_ret
  all_goals (refine ⟨ret_bool ?_, rfl⟩)
  all_goals (unfold lvB; rw [Bool.eq_iff_iff]; simp; try omega)
set_option maxRecDepth 100000 in
theorem isLevel (n : Int) (w : World) : Calls Try.prog 32 #[.int .i64 n] w fun e w' => e = .returned (.bool (lvB n)) ∧ w = w' := by
  go_enter Try.func32, Try.ntmps32
  go_wp2
  all_goals go_ret
  all_goals (refine ⟨ret_bool ?_, rfl⟩)
  all_goals (unfold lvB; rw [Bool.eq_iff_iff]; simp; try omega)
set_option maxRecDepth 100000 in
theorem l01In7 (n : Int) (w : World) : Calls Try.prog 35 #[.int .i64 n, .int .i64 0, .int .i64 7] w fun e w' => e = .returned (.bool (lvB n)) ∧ w = w' := by
  go_enter Try.func35, Try.ntmps35
  go_wp2
  all_goals go_ret
  all_goals (refine ⟨ret_bool ?_, rfl⟩)
  all_goals (unfold lvB; rw [Bool.eq_iff_iff]; simp; try omega)

set_option maxRecDepth 100000 in
set_option maxHeartbeats 1000000 in
theorem allLevels (A : Option Addr) (n c : Nat) (zs : List Int) (w : World) (hl : zs.length = n) (hn : n ≤ maxLen) (h : IntL w A zs) :
    Calls Try.prog 55 #[.slice A n c] w fun e w' => e = .returned (.bool (zs.all lvB)) ∧ w = w' := by
  unfold maxLen at hn
  have HL := Lib.hid hl
  have H := Lib.hid h
  clear hl h
  go_enter Try.func55, Try.ntmps55
  go_wp2
  go_loop [7] (fun i => ∃ k : Nat, k ≤ n ∧ i = .int .i64 k ∧ Hid (zs.all lvB = (zs.drop k).all lvB)) (fun i => n - (intOf i).toNat)
  case atStart => exact ⟨0, Nat.zero_le _, rfl, Lib.hid rfl⟩
  case round =>
    obtain ⟨k, hk, rfl, HT⟩ := hrel
    by_cases hlt : k < n
    · obtain ⟨b, off, rfl, hc⟩ := H.out k (by rw [HL.out]; exact hlt)
      have HS := Lib.hid (all_step lvB zs 0 k (by rw [HL.out]; exact hlt))
      generalize zs.getD k 0 = x at hc HS
      have hi : (k : Int) < (n : Int) := by omega
      by_cases hE : lvB x = true
      · go_wp2_with (first | (go_at_call 32; refine (isLevel _ _).mono ?_; rintro e w' ⟨rfl, rfl⟩; rw [hE]))
        go_round
        case rel => exact ⟨k + 1, by omega, by go_num, Lib.hid (by rw [HT.out, HS.out, hE]; rfl)⟩
        case measure => simp [intOf]; omega
      · have hE' : lvB x = false := by simpa using hE
        clear hE
        go_wp2_with (first | (go_at_call 32; refine (isLevel _ _).mono ?_; rintro e w' ⟨rfl, rfl⟩; rw [hE']))
        go_ret
        exact ⟨ret_bool (by rw [HT.out, HS.out, hE']; rfl), rfl⟩
    · have HT2 : Hid (zs.all lvB = true) := Lib.hid (by rw [HT.out]; exact all_end _ _ _ (by rw [HL.out]; omega))
      go_wp2
      go_ret
      exact ⟨ret_bool HT2.out.symm, rfl⟩

section
variable (A0 A1 : Option Addr) (n0 n1 c0 c1 : Nat) (d0 : List Int) (d1 : List Bool) (w : World)
set_option maxRecDepth 100000 in
set_option maxHeartbeats 2000000 in
theorem irqValid (l0 : d0.length = n0) (l1 : d1.length = n1) (m0 : n0 ≤ maxLen) (m1 : n1 ≤ maxLen) (h0 : IntL w A0 d0) :
    Calls Try.prog 31 #[.agg #[.slice A0 n0 c0, .slice A1 n1 c1]] w fun e w' => e = .returned (.bool (okIrq d0 d1)) ∧ Below w.heap.size w w' := by
  have hb0 := alloc_below w (.cells #[.slice A0 n0 c0, .slice A1 n1 c1] 26)
  have HB0 := Lib.hid (allLevels A0 n0 c0 d0 _ l0 m0 (h0.below hb0))
  have HL := Lib.hid (And.intro l0 l1)
  unfold maxLen at m0 m1
  clear l0 l1 h0
  by_cases e0 : n0 = 8
  · have q0 : ((n0 : Int) == 8) = true := by simp; omega
    by_cases e1 : n1 = 8
    · have q1 : ((n1 : Int) == 8) = true := by simp; omega
      have HY := Lib.hid (okIrq_yes d0 d1 (by rw [HL.out.1]; exact e0) (by rw [HL.out.2]; exact e1))
      generalize okIrq d0 d1 = r at HY
      generalize d0.all lvB = o at HB0 HY
      clear e0 e1
      go_enter Try.func31, Try.ntmps31
      go_wp2_with fail
      refine HB0.out.mono ?_
      rintro e w' ⟨rfl, rfl⟩
      go_wp2
      all_goals go_ret
      all_goals exact ⟨ret_bool HY.out.symm, hb0⟩
    · have q1 : ((n1 : Int) == 8) = false := by simp; omega
      have HY := Lib.hid (okIrq_no2 d0 d1 (by rw [HL.out.2]; exact e1))
      clear e0 e1
      go_enter Try.func31, Try.ntmps31
      go_wp2
      all_goals go_ret
      all_goals exact ⟨ret_bool HY.out.symm, hb0⟩
  · have q0 : ((n0 : Int) == 8) = false := by simp; omega
    have HY := Lib.hid (okIrq_no1 d0 d1 (by rw [HL.out.1]; exact e0))
    clear e0
    go_enter Try.func31, Try.ntmps31
    go_wp2
    all_goals go_ret
    all_goals exact ⟨ret_bool HY.out.symm, hb0⟩

set_option maxRecDepth 100000 in
set_option maxHeartbeats 2000000 in
theorem specIrqOK (l0 : d0.length = n0) (l1 : d1.length = n1) (m0 : n0 ≤ maxLen) (m1 : n1 ≤ maxLen) (h0 : IntL w A0 d0) :
    Calls Try.prog 24 #[.agg #[.slice A0 n0 c0, .slice A1 n1 c1]] w fun e w' => e = .returned (.bool (okIrq d0 d1)) ∧ Below w.heap.size w w' := by
  have hb0 := alloc_below w (.cells #[.slice A0 n0 c0, .slice A1 n1 c1] 26)
  have X0 := Lib.hid (Box.new w 26 #[.slice A0 n0 c0, .slice A1 n1 c1])
  have H := Lib.hid (h0.below hb0)
  have HL := Lib.hid (And.intro l0 l1)
  unfold maxLen at m0 m1
  clear l0 l1 h0
  obtain ⟨W0, hW0⟩ : ∃ W0, W0 = (w.alloc (.cells #[.slice A0 n0 c0, .slice A1 n1 c1] 26)) := ⟨_, rfl⟩
  rw [← hW0] at hb0 X0 H
  have HW0 := Lib.hid hW0
  clear hW0
  by_cases e0 : n0 = 8
  · have q0 : ((n0 : Int) != 8) = false := by simp; omega
    by_cases e1 : n1 = 8
    · have q1 : ((n1 : Int) != 8) = false := by simp; omega
      have HY := Lib.hid (okIrq_yes d0 d1 (by rw [HL.out.1]; exact e0) (by rw [HL.out.2]; exact e1))
      have HL8 : Hid (d0.length = 8) := Lib.hid (by rw [HL.out.1]; exact e0)
      generalize okIrq d0 d1 = r at HY
      subst e0
      clear e1
      go_enter Try.func24, Try.ntmps24
      go_wp2
      rw [← HW0.out]
      go_loop [3] (fun i => ∃ k : Nat, k ≤ 8 ∧ i = .int .i64 k ∧ Hid (d0.all lvB = (d0.drop k).all lvB)) (fun i => 8 - (intOf i).toNat)
      case atStart => exact ⟨0, Nat.zero_le _, rfl, Lib.hid rfl⟩
      case round =>
        obtain ⟨k, hk, rfl, HT⟩ := hrel
        by_cases hlt : k < 8
        · obtain ⟨b, off, rfl, hc⟩ := H.out k (by rw [HL8.out]; exact hlt)
          have HS := Lib.hid (all_step lvB d0 0 k (by rw [HL8.out]; exact hlt))
          generalize d0.getD k 0 = x at hc HS
          have hi : (k : Int) < 8 := by omega
          have x0 := X0.out.cell 0 rfl
          by_cases hE : lvB x = true
          · go_wp2_with (first | (go_at_call 35; refine (l01In7 _ _).mono ?_; rintro e w' ⟨rfl, rfl⟩; rw [hE]))
            go_round
            case rel => exact ⟨k + 1, by omega, by go_num, Lib.hid (by rw [HT.out, HS.out, hE]; rfl)⟩
            case measure => simp [intOf]; omega
          · have hE' : lvB x = false := by simpa using hE
            clear hE
            go_wp2_with (first | (go_at_call 35; refine (l01In7 _ _).mono ?_; rintro e w' ⟨rfl, rfl⟩; rw [hE']))
            go_ret
            exact ⟨ret_bool (by rw [HY.out, HT.out, HS.out, hE']; rfl), hb0⟩
        · have HT2 : Hid (r = true) := Lib.hid (by rw [HY.out, HT.out]; exact all_end _ _ _ (by rw [HL8.out]; omega))
          go_wp2
          go_ret
          exact ⟨ret_bool HT2.out.symm, hb0⟩
    · have q1 : ((n1 : Int) != 8) = true := by simp; omega
      have HY := Lib.hid (okIrq_no2 d0 d1 (by rw [HL.out.2]; exact e1))
      clear e0 e1
      go_enter Try.func24, Try.ntmps24
      go_wp2
      rw [← HW0.out]
      all_goals go_ret
      all_goals exact ⟨ret_bool HY.out.symm, hb0⟩
  · have q0 : ((n0 : Int) != 8) = true := by simp; omega
    have HY := Lib.hid (okIrq_no1 d0 d1 (by rw [HL.out.1]; exact e0))
    clear e0
    go_enter Try.func24, Try.ntmps24
    go_wp2
    rw [← HW0.out]
    all_goals go_ret
    all_goals exact ⟨ret_bool HY.out.symm, hb0⟩

set_option maxRecDepth 100000 in
theorem implIrqOK (l0 : d0.length = n0) (l1 : d1.length = n1) (m0 : n0 ≤ maxLen) (m1 : n1 ≤ maxLen) (h0 : IntL w A0 d0) :
    Calls Try.prog 17 #[.agg #[.slice A0 n0 c0, .slice A1 n1 c1]] w fun e w' => e = .returned (.bool (okIrq d0 d1)) ∧ Below w.heap.size w w' := by
  have hb0 := alloc_below w (.cells #[.slice A0 n0 c0, .slice A1 n1 c1] 26)
  have HV := Lib.hid (irqValid A0 A1 n0 n1 c0 c1 d0 d1 _ l0 l1 m0 m1 (h0.below hb0))
  clear l0 l1 m0 m1 h0
  go_enter Try.func17, Try.ntmps17
  go_wp2_with fail
  refine HV.out.mono ?_
  rintro e w1 ⟨rfl, hb1⟩
  go_wp2
  go_ret
  exact ⟨rfl, bt hb0 hb1⟩

set_option maxRecDepth 100000 in
set_option maxHeartbeats 1000000 in
theorem checkLine (n : Int) (l0 : d0.length = n0) (l1 : d1.length = n1) (m0 : n0 ≤ maxLen) (m1 : n1 ≤ maxLen) (h0 : IntL w A0 d0) :
    Calls Try.prog 38 #[.agg #[.slice A0 n0 c0, .slice A1 n1 c1], .int .i64 n] w fun e w' => e = .returned (.int .i64 (lineC d0 d1 n)) ∧ Below w.heap.size w w' := by
  have hb0 := alloc_below w (.cells #[.slice A0 n0 c0, .slice A1 n1 c1] 26)
  have HV := Lib.hid (irqValid A0 A1 n0 n1 c0 c1 d0 d1 _ l0 l1 m0 m1 (h0.below hb0))
  obtain ⟨r, hr⟩ : ∃ r, lineC d0 d1 n = r := ⟨_, rfl⟩
  rw [hr]
  unfold lineC at hr
  generalize okIrq d0 d1 = o at HV hr
  obtain ⟨v, hv⟩ : ∃ v, lvB n = v := ⟨_, rfl⟩
  rw [hv] at hr
  clear l0 l1 m0 m1 h0
  cases o <;> cases v <;> (
    simp only [if_true, if_false, Bool.false_eq_true] at hr
    subst hr
    go_enter Try.func38, Try.ntmps38
    go_wp2_with fail
    refine HV.out.mono ?_
    rintro e w1 ⟨rfl, hb1⟩
    go_wp2_with (first | (go_at_call 58; refine (isLine _ _).mono ?_; rintro e w' ⟨rfl, rfl⟩; rw [hv]))
    go_ret
    exact ⟨rfl, bt hb0 hb1⟩)

set_option maxRecDepth 100000 in
set_option maxHeartbeats 1000000 in
theorem l06Ask (n : Int) (l0 : d0.length = n0) (l1 : d1.length = n1) (m0 : n0 ≤ maxLen) (m1 : n1 ≤ maxLen) (h0 : IntL w A0 d0) :
    Calls Try.prog 50 #[.agg #[.slice A0 n0 c0, .slice A1 n1 c1], .int .i64 n] w fun e w' => e = .returned (.int .i64 (lineC d0 d1 n)) ∧ Below w.heap.size w w' := by
  have hb0 := alloc_below w (.cells #[.slice A0 n0 c0, .slice A1 n1 c1] 26)
  have HV := Lib.hid (specIrqOK A0 A1 n0 n1 c0 c1 d0 d1 _ l0 l1 m0 m1 (h0.below hb0))
  obtain ⟨r, hr⟩ : ∃ r, lineC d0 d1 n = r := ⟨_, rfl⟩
  rw [hr]
  unfold lineC at hr
  generalize okIrq d0 d1 = o at HV hr
  obtain ⟨v, hv⟩ : ∃ v, lvB n = v := ⟨_, rfl⟩
  rw [hv] at hr
  clear l0 l1 m0 m1 h0
  cases o <;> cases v <;> (
    simp only [if_true, if_false, Bool.false_eq_true] at hr
    subst hr
    go_enter Try.func50, Try.ntmps50
    go_wp2_with fail
    refine HV.out.mono ?_
    rintro e w1 ⟨rfl, hb1⟩
    go_wp2_with (first | (go_at_call 35; refine (l01In7 _ _).mono ?_; rintro e w' ⟨rfl, rfl⟩; rw [hv]))
    go_ret
    exact ⟨rfl, bt hb0 hb1⟩)
end
end Go.Proofs.Ytamfapmkdojhcaa
