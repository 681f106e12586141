/- MemOK on both sides; impl.Mem.check; the regions on both sides. -/
import Derived.Test.YtieljgoodmoacaaMemMath
import Derived.Test.YtieljgoodmoacaaGenMem
namespace Go.Proofs.Ytieljgoodmoacaa
open Go.RowKit

set_option maxRecDepth 100000 in
theorem isAddress (n : Int) (w : World) : Calls Try.prog 57 #[.int .i64 n] w fun e w' => e = .returned (.bool (adB n)) ∧ w = w' := by
  go_enter Try.func57, Try.ntmps57
  go_wp2
  all_goals go_ret
  all_goals (refine ⟨ret_bool ?_, rfl⟩)
  all_goals (unfold adB; rw [Bool.eq_iff_iff]; simp; try omega)
set_option maxRecDepth 100000 in
theorem l01In4095 (n : Int) (w : World) : Calls Try.prog 33 #[.int .i64 n, .int .i64 0, .int .i64 4095] w fun e w' => e = .returned (.bool (adB n)) ∧ w = w' := by
  go_enter Try.func33, Try.ntmps33
  go_wp2
  all_goals go_ret
  all_goals (refine ⟨ret_bool ?_, rfl⟩)
  all_goals (unfold adB; rw [Bool.eq_iff_iff]; simp; try omega)
set_option maxRecDepth 100000 in
theorem l05At (n : Int) (w : World) : Calls Try.prog 32 #[.int .i64 n] w fun e w' => e = .returned (.bool (adB n)) ∧ w = w' := by
  go_enter Try.func32, Try.ntmps32
  go_wp2_with (first | (go_at_call 33; refine (l01In4095 _ _).mono ?_; rintro e w' ⟨rfl, rfl⟩))
  all_goals go_ret
  all_goals exact ⟨rfl, rfl⟩
set_option maxRecDepth 100000 in
theorem l01InF (n : Int) (w : World) : Calls Try.prog 33 #[.int .i64 n, .int .i64 512, .int .i64 767] w fun e w' => e = .returned (.bool (decide (512 ≤ n ∧ n ≤ 767))) ∧ w = w' := by
  go_enter Try.func33, Try.ntmps33
  go_wp2
  all_goals go_ret
  all_goals (refine ⟨ret_bool ?_, rfl⟩)
  all_goals (rw [Bool.eq_iff_iff]; simp; try omega)
set_option maxRecDepth 100000 in
theorem regionOf (n : Int) (w : World) (h0 : 0 ≤ n) (h1 : n ≤ 4095) : Calls Try.prog 84 #[.int .i64 n] w fun e w' => e = .returned (.tuple #[.int .i64 (regR n), .int .i64 (regK n)]) ∧ w = w' := by
  obtain ⟨r, hr⟩ : ∃ r, regR n = r := ⟨_, rfl⟩
  obtain ⟨k, hk⟩ : ∃ k, regK n = k := ⟨_, rfl⟩
  rw [hr, hk]
  unfold regR at hr
  unfold regK at hk
  by_cases a : n < 256
  · rw [if_pos a] at hr hk
    subst hr hk
    go_enter Try.func84, Try.ntmps84
    go_wp2
    exact bodyPost_ret (v := .tuple #[.int .i64 1, .int .i64 n]) (by simp [results, Try.results84, go_sem]) rfl ⟨rfl, rfl⟩
  · rw [if_neg a] at hr hk
    by_cases b : n < 288
    · rw [if_pos b] at hr hk
      have HE := Lib.hid hk
      clear hk
      subst hr
      go_enter Try.func84, Try.ntmps84
      go_wp2
      exact bodyPost_ret (v := .tuple #[.int .i64 2, .int .i64 (n - 256)]) (by simp [results, Try.results84, go_sem]; try omega) rfl ⟨by rw [HE.out], rfl⟩
    · rw [if_neg b] at hr hk
      by_cases c : 512 ≤ n
      · by_cases d : n < 768
        · rw [if_pos ⟨c, by omega⟩] at hr hk
          have HE := Lib.hid hk
          clear hk
          subst hr
          go_enter Try.func84, Try.ntmps84
          go_wp2
          exact bodyPost_ret (v := .tuple #[.int .i64 3, .int .i64 (n - 512)]) (by simp [results, Try.results84, go_sem]; try omega) rfl ⟨by rw [HE.out], rfl⟩
        · rw [if_neg (by omega)] at hr hk
          subst hr hk
          go_enter Try.func84, Try.ntmps84
          go_wp2
          exact bodyPost_ret (v := .tuple #[.int .i64 0, .int .i64 0]) (by simp [results, Try.results84, go_sem]) rfl ⟨rfl, rfl⟩
      · rw [if_neg (by omega)] at hr hk
        subst hr hk
        go_enter Try.func84, Try.ntmps84
        go_wp2
        exact bodyPost_ret (v := .tuple #[.int .i64 0, .int .i64 0]) (by simp [results, Try.results84, go_sem]) rfl ⟨rfl, rfl⟩
set_option maxRecDepth 100000 in
theorem l05Region (n : Int) (w : World) (h0 : 0 ≤ n) (h1 : n ≤ 4095) : Calls Try.prog 82 #[.int .i64 n] w fun e w' => e = .returned (.tuple #[.int .i64 (regR n), .int .i64 (regK n)]) ∧ w = w' := by
  obtain ⟨r, hr⟩ : ∃ r, regR n = r := ⟨_, rfl⟩
  obtain ⟨k, hk⟩ : ∃ k, regK n = k := ⟨_, rfl⟩
  rw [hr, hk]
  unfold regR at hr
  unfold regK at hk
  by_cases a : n < 256
  · rw [if_pos a] at hr hk
    subst hr hk
    go_enter Try.func82, Try.ntmps82
    go_wp2
    exact bodyPost_ret (v := .tuple #[.int .i64 1, .int .i64 n]) (by simp [results, Try.results82, go_sem]) rfl ⟨rfl, rfl⟩
  · rw [if_neg a] at hr hk
    by_cases b : n < 288
    · rw [if_pos b] at hr hk
      have HE := Lib.hid hk
      clear hk
      subst hr
      go_enter Try.func82, Try.ntmps82
      go_wp2
      exact bodyPost_ret (v := .tuple #[.int .i64 2, .int .i64 (n - 256)]) (by simp [results, Try.results82, go_sem]; try omega) rfl ⟨by rw [HE.out], rfl⟩
    · rw [if_neg b] at hr hk
      by_cases c : 512 ≤ n ∧ n ≤ 767
      · rw [if_pos c] at hr hk
        have HE := Lib.hid hk
        have HC := Lib.hid (decide_eq_true c)
        clear hk
        subst hr
        have c1 := c.1
        have c2 := c.2
        clear c
        go_enter Try.func82, Try.ntmps82
        go_wp2_with (first | (go_at_call 33; refine (l01InF _ _).mono ?_; rintro e w' ⟨rfl, rfl⟩; rw [HC.out]))
        exact bodyPost_ret (v := .tuple #[.int .i64 3, .int .i64 (n - 512)]) (by simp [results, Try.results82, go_sem]; try omega) rfl ⟨by rw [HE.out], rfl⟩
      · rw [if_neg c] at hr hk
        have HC := Lib.hid (decide_eq_false c)
        clear c
        subst hr hk
        go_enter Try.func82, Try.ntmps82
        go_wp2_with (first | (go_at_call 33; refine (l01InF _ _).mono ?_; rintro e w' ⟨rfl, rfl⟩; rw [HC.out]))
        exact bodyPost_ret (v := .tuple #[.int .i64 0, .int .i64 0]) (by simp [results, Try.results82, go_sem]) rfl ⟨rfl, rfl⟩

set_option maxRecDepth 100000 in
set_option maxHeartbeats 1000000 in
theorem l05Bytes (A : Option Addr) (n c : Nat) (zs : List Int) (w : World) (hl : zs.length = n) (hn : n ≤ maxLen) (h : IntL w A zs) :
    Calls Try.prog 34 #[.slice A n c] w fun e w' => e = .returned (.bool (zs.all byB)) ∧ w = w' := by
  unfold maxLen at hn
  have HL := Lib.hid hl
  have H := Lib.hid h
  clear hl h
  go_enter Try.func34, Try.ntmps34
  go_wp2
  go_loop [3] (fun i => ∃ k : Nat, k ≤ n ∧ i = .int .i64 k ∧ Hid (zs.all byB = (zs.drop k).all byB)) (fun i => n - (intOf i).toNat)
  case atStart => exact ⟨0, Nat.zero_le _, rfl, Lib.hid rfl⟩
  case round =>
    obtain ⟨k, hk, rfl, HT⟩ := hrel
    by_cases hlt : k < n
    · obtain ⟨b, off, rfl, hc⟩ := H.out k (by rw [HL.out]; exact hlt)
      have HS := Lib.hid (all_step byB zs 0 k (by rw [HL.out]; exact hlt))
      generalize zs.getD k 0 = x at hc HS
      have hi : (k : Int) < (n : Int) := by omega
      by_cases hE : byB x = true
      · go_wp2_with (first | (go_at_call 33; refine (l01In255 _ _).mono ?_; rintro e w' ⟨rfl, rfl⟩; rw [hE]))
        go_round
        case rel => exact ⟨k + 1, by omega, by go_num, Lib.hid (by rw [HT.out, HS.out, hE]; rfl)⟩
        case measure => simp [intOf]; omega
      · have hE' : byB x = false := by simpa using hE
        clear hE
        go_wp2_with (first | (go_at_call 33; refine (l01In255 _ _).mono ?_; rintro e w' ⟨rfl, rfl⟩; rw [hE']))
        go_ret
        exact ⟨ret_bool (by rw [HT.out, HS.out, hE']; rfl), rfl⟩
    · have HT2 : Hid (zs.all byB = true) := Lib.hid (by rw [HT.out]; exact all_end _ _ _ (by rw [HL.out]; omega))
      go_wp2
      go_ret
      exact ⟨ret_bool HT2.out.symm, rfl⟩

section
variable (A0 A1 A2 A3 : Option Addr) (n0 n1 n2 n3 c0 c1 c2 c3 : Nat) (d0 d1 d2 : List Int) (d3 : List Bool) (d4 : Int) (w : World)
set_option maxRecDepth 100000 in
set_option maxHeartbeats 4000000 in
theorem memValid (l0 : d0.length = n0) (l1 : d1.length = n1) (l2 : d2.length = n2) (l3 : d3.length = n3) (m0 : n0 ≤ maxLen) (m1 : n1 ≤ maxLen) (m2 : n2 ≤ maxLen) (m3 : n3 ≤ maxLen) (h0 : IntL w A0 d0) (h1 : IntL w A1 d1) (h2 : IntL w A2 d2) :
    Calls Try.prog 46 #[.agg #[.slice A0 n0 c0, .slice A1 n1 c1, .slice A2 n2 c2, .slice A3 n3 c3, .int .i64 d4]] w fun e w' => e = .returned (.bool (okMem d0 d1 d2 d3 d4)) ∧ Below w.heap.size w w' := by
  have hb0 := alloc_below w (.cells #[.slice A0 n0 c0, .slice A1 n1 c1, .slice A2 n2 c2, .slice A3 n3 c3, .int .i64 d4] 45)
  have HB0 := Lib.hid (allBytes A0 n0 c0 d0 _ l0 m0 (h0.below hb0))
  have HB1 := Lib.hid (allBytes A1 n1 c1 d1 _ l1 m1 (h1.below hb0))
  have HF := Lib.hid (flashValid A2 A3 n2 c2 n3 c3 d4 d2 d3 _ l2 l3 m2 m3 (h2.below hb0))
  have HL := Lib.hid (And.intro l0 l1)
  unfold maxLen at m0 m1 m2 m3
  clear l0 l1 l2 l3 h0 h1 h2
  by_cases e0 : n0 = 256
  · have q0 : ((n0 : Int) == 256) = true := by simp; omega
    by_cases e1 : n1 = 32
    · have q1 : ((n1 : Int) == 32) = true := by simp; omega
      by_cases e2 : d0.all byB = true
      · by_cases e3 : d1.all byB = true
        · have HY := Lib.hid (okMem_yes d0 d1 d2 d3 d4 (by rw [HL.out.1]; exact e0) (by rw [HL.out.2]; exact e1) e2 e3)
          rw [e2] at HB0
          rw [e3] at HB1
          generalize okMem d0 d1 d2 d3 d4 = r at HY
          generalize okFlash d2 d3 d4 = o at HF HY
          clear e0 e1 e2 e3
          go_enter Try.func46, Try.ntmps46
          go_wp2_with fail
          refine HB0.out.mono ?_
          rintro e w' ⟨rfl, rfl⟩
          go_wp2_with fail
          refine HB1.out.mono ?_
          rintro e w' ⟨rfl, rfl⟩
          go_wp2_with fail
          refine HF.out.mono ?_
          rintro e w2 ⟨rfl, hb2⟩
          go_wp2
          all_goals go_ret
          all_goals exact ⟨ret_bool HY.out.symm, bt hb0 hb2⟩
        · have e3' : d1.all byB = false := by simpa using e3
          have HY := Lib.hid (okMem_no4 d0 d1 d2 d3 d4 e3')
          rw [e2] at HB0
          rw [e3'] at HB1
          clear e0 e1 e2 e3 e3'
          go_enter Try.func46, Try.ntmps46
          go_wp2_with fail
          refine HB0.out.mono ?_
          rintro e w' ⟨rfl, rfl⟩
          go_wp2_with fail
          refine HB1.out.mono ?_
          rintro e w' ⟨rfl, rfl⟩
          go_wp2
          all_goals go_ret
          all_goals exact ⟨ret_bool HY.out.symm, hb0⟩
      · have e2' : d0.all byB = false := by simpa using e2
        have HY := Lib.hid (okMem_no3 d0 d1 d2 d3 d4 e2')
        rw [e2'] at HB0
        clear e0 e1 e2 e2'
        go_enter Try.func46, Try.ntmps46
        go_wp2_with fail
        refine HB0.out.mono ?_
        rintro e w' ⟨rfl, rfl⟩
        go_wp2
        all_goals go_ret
        all_goals exact ⟨ret_bool HY.out.symm, hb0⟩
    · have q1 : ((n1 : Int) == 32) = false := by simp; omega
      have HY := Lib.hid (okMem_no2 d0 d1 d2 d3 d4 (by rw [HL.out.2]; exact e1))
      clear e0 e1
      go_enter Try.func46, Try.ntmps46
      go_wp2
      all_goals go_ret
      all_goals exact ⟨ret_bool HY.out.symm, hb0⟩
  · have q0 : ((n0 : Int) == 256) = false := by simp; omega
    have HY := Lib.hid (okMem_no1 d0 d1 d2 d3 d4 (by rw [HL.out.1]; exact e0))
    clear e0
    go_enter Try.func46, Try.ntmps46
    go_wp2
    all_goals go_ret
    all_goals exact ⟨ret_bool HY.out.symm, hb0⟩

set_option maxRecDepth 100000 in
set_option maxHeartbeats 4000000 in
theorem specMemOK (l0 : d0.length = n0) (l1 : d1.length = n1) (l2 : d2.length = n2) (l3 : d3.length = n3) (m0 : n0 ≤ maxLen) (m1 : n1 ≤ maxLen) (m2 : n2 ≤ maxLen) (m3 : n3 ≤ maxLen) (h0 : IntL w A0 d0) (h1 : IntL w A1 d1) (h2 : IntL w A2 d2) :
    Calls Try.prog 41 #[.agg #[.slice A0 n0 c0, .slice A1 n1 c1, .slice A2 n2 c2, .slice A3 n3 c3, .int .i64 d4]] w fun e w' => e = .returned (.bool (okMem d0 d1 d2 d3 d4)) ∧ Below w.heap.size w w' := by
  have hb0 := alloc_below w (.cells #[.slice A0 n0 c0, .slice A1 n1 c1, .slice A2 n2 c2, .slice A3 n3 c3, .int .i64 d4] 45)
  have HB0 := Lib.hid (l05Bytes A0 n0 c0 d0 _ l0 m0 (h0.below hb0))
  have HB1 := Lib.hid (l05Bytes A1 n1 c1 d1 _ l1 m1 (h1.below hb0))
  have HF := Lib.hid (specFlashOK A2 A3 n2 c2 n3 c3 d4 d2 d3 _ l2 l3 m2 m3 (h2.below hb0))
  have HL := Lib.hid (And.intro l0 l1)
  unfold maxLen at m0 m1 m2 m3
  clear l0 l1 l2 l3 h0 h1 h2
  by_cases e0 : n0 = 256
  · have q0 : ((n0 : Int) == 256) = true := by simp; omega
    by_cases e1 : n1 = 32
    · have q1 : ((n1 : Int) == 32) = true := by simp; omega
      by_cases e2 : d0.all byB = true
      · by_cases e3 : d1.all byB = true
        · have HY := Lib.hid (okMem_yes d0 d1 d2 d3 d4 (by rw [HL.out.1]; exact e0) (by rw [HL.out.2]; exact e1) e2 e3)
          rw [e2] at HB0
          rw [e3] at HB1
          generalize okMem d0 d1 d2 d3 d4 = r at HY
          generalize okFlash d2 d3 d4 = o at HF HY
          clear e0 e1 e2 e3
          go_enter Try.func41, Try.ntmps41
          go_wp2_with fail
          refine HB0.out.mono ?_
          rintro e w' ⟨rfl, rfl⟩
          go_wp2_with fail
          refine HB1.out.mono ?_
          rintro e w' ⟨rfl, rfl⟩
          go_wp2_with fail
          refine HF.out.mono ?_
          rintro e w2 ⟨rfl, hb2⟩
          go_wp2
          all_goals go_ret
          all_goals exact ⟨ret_bool HY.out.symm, bt hb0 hb2⟩
        · have e3' : d1.all byB = false := by simpa using e3
          have HY := Lib.hid (okMem_no4 d0 d1 d2 d3 d4 e3')
          rw [e2] at HB0
          rw [e3'] at HB1
          clear e0 e1 e2 e3 e3'
          go_enter Try.func41, Try.ntmps41
          go_wp2_with fail
          refine HB0.out.mono ?_
          rintro e w' ⟨rfl, rfl⟩
          go_wp2_with fail
          refine HB1.out.mono ?_
          rintro e w' ⟨rfl, rfl⟩
          go_wp2
          all_goals go_ret
          all_goals exact ⟨ret_bool HY.out.symm, hb0⟩
      · have e2' : d0.all byB = false := by simpa using e2
        have HY := Lib.hid (okMem_no3 d0 d1 d2 d3 d4 e2')
        rw [e2'] at HB0
        clear e0 e1 e2 e2'
        go_enter Try.func41, Try.ntmps41
        go_wp2_with fail
        refine HB0.out.mono ?_
        rintro e w' ⟨rfl, rfl⟩
        go_wp2
        all_goals go_ret
        all_goals exact ⟨ret_bool HY.out.symm, hb0⟩
    · have q1 : ((n1 : Int) == 32) = false := by simp; omega
      have HY := Lib.hid (okMem_no2 d0 d1 d2 d3 d4 (by rw [HL.out.2]; exact e1))
      clear e0 e1
      go_enter Try.func41, Try.ntmps41
      go_wp2
      all_goals go_ret
      all_goals exact ⟨ret_bool HY.out.symm, hb0⟩
  · have q0 : ((n0 : Int) == 256) = false := by simp; omega
    have HY := Lib.hid (okMem_no1 d0 d1 d2 d3 d4 (by rw [HL.out.1]; exact e0))
    clear e0
    go_enter Try.func41, Try.ntmps41
    go_wp2
    all_goals go_ret
    all_goals exact ⟨ret_bool HY.out.symm, hb0⟩
end
end Go.Proofs.Ytieljgoodmoacaa
