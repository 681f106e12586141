/- SameMem on both sides; the memory bus's functions on leaves. Written by a script (gen_memapi.py). -/
import Derived.Test.YtdanefhfngmipaaMemOwn
import Derived.Test.YtdanefhfngmipaaSameFlashA
namespace Go.Proofs.Ytdanefhfngmipaa
open Go.RowKit

set_option maxRecDepth 100000 in
set_option maxHeartbeats 1000000 in
theorem l05Ints (A A' : Option Addr) (n n' c c' : Nat) (ss ss' : List Int) (w : World) (hl : ss.length = n) (hl' : ss'.length = n') (hn : n ≤ maxLen) (hn' : n' ≤ maxLen)
    (h : IntL w A ss) (h' : IntL w A' ss') :
    Calls Try.prog 77 #[.slice A n c, .slice A' n' c'] w fun e w' => e = .returned (.bool (decide (ss = ss'))) ∧ Below w.heap.size w w' := by
  unfold maxLen at hn hn'
  have HL := Lib.hid hl
  have HL' := Lib.hid hl'
  have H := Lib.hid h
  have H' := Lib.hid h'
  clear hl hl' h h'
  by_cases hne : n = n'
  · subst hne
    have hb : ((n : Int) != (n : Int)) = false := by simp
    go_enter Try.func77, Try.ntmps77
    go_wp2
    go_loopw [5] (fun i wr => ∃ k : Nat, k ≤ n ∧ i = .int .i64 k ∧ Hid (ss.take k = ss'.take k) ∧ Below w.heap.size w wr) (fun i _ => n - (intOf i).toNat)
    case atStart => exact ⟨0, Nat.zero_le _, rfl, Lib.hid rfl, Below.refl _ _⟩
    case round =>
      obtain ⟨k, hk, rfl, HT, hbw⟩ := hrel
      by_cases hlt : k < n
      · obtain ⟨b, off, rfl, hc⟩ := (H.out.below hbw) k (by rw [HL.out]; exact hlt)
        obtain ⟨b', off', rfl, hc'⟩ := (H'.out.below hbw) k (by rw [HL'.out]; exact hlt)
        have HN := Lib.hid (fun e => take_next 0 HT.out (by rw [HL.out]; exact hlt) (by rw [HL'.out]; exact hlt) e)
        have HX := Lib.hid (fun e => ne_of_at (l := ss) (m := ss') (k := k) 0 e)
        generalize ss.getD k 0 = x at hc HN HX
        generalize ss'.getD k 0 = y at hc' HN HX
        have hi : (k : Int) < (n : Int) := by omega
        by_cases hE : x = y
        · have hq1 : (x == y) = true := by simp [hE]
          have hq2 : (x != y) = false := by simp [hE]
          have HE := Lib.hid hE
          clear hE
          go_wp2
          go_quiet (fail)
          go_wp2
          go_roundw
          case rel => exact ⟨k + 1, by omega, by go_num, Lib.hid (HN.out HE.out), below_drewN hbw _⟩
          case measure => simp [intOf]; omega
        · have hq1 : (x == y) = false := by simp [hE]
          have hq2 : (x != y) = true := by simp [hE]
          have HE := Lib.hid hE
          clear hE
          go_wp2
          go_quiet (fail)
          go_wp2
          go_ret
          exact ⟨ret_bool (by simp [HX.out HE.out]), below_drewN hbw _⟩
      · go_wp2
        go_ret
        exact ⟨ret_bool (by simp [take_all HT.out (by rw [HL.out]; omega) (by rw [HL'.out]; omega)]), hbw⟩
  · have hb : ((n : Int) != (n' : Int)) = true := by simp; omega
    have HF : Hid (decide (ss = ss') = false) := Lib.hid (by simp; intro e; apply hne; rw [← HL.out, ← HL'.out, e])
    clear hne
    go_enter Try.func77, Try.ntmps77
    go_wp2
    go_ret
    exact ⟨ret_bool HF.out.symm, Below.refl _ _⟩


def sameMm (d0 d1 d2 : List Int) (d3 : List Bool) (d4 : Int) (g0 g1 g2 : List Int) (g3 : List Bool) (g4 : Int) : Bool := decide (d0 = g0) && (decide (d1 = g1) && sameFl d2 g2 d3 g3 d4 g4)
section
variable (A0 A1 A2 A3 : Option Addr) (n0 n1 n2 n3 c0 c1 c2 c3 : Nat) (d0 d1 d2 : List Int) (d3 : List Bool) (d4 : Int) (B0 B1 B2 B3 : Option Addr) (m0 m1 m2 m3 e0 e1 e2 e3 : Nat) (g0 g1 g2 : List Int) (g3 : List Bool) (g4 : Int) (w : World)
set_option maxRecDepth 100000 in
set_option maxHeartbeats 2000000 in
theorem implSameMem (l0 : d0.length = n0) (l1 : d1.length = n1) (l2 : d2.length = n2) (l3 : d3.length = n3) (p0 : g0.length = m0) (p1 : g1.length = m1) (p2 : g2.length = m2) (p3 : g3.length = m3)
    (b0 : n0 ≤ maxLen) (b1 : n1 ≤ maxLen) (b2 : n2 ≤ maxLen) (b3 : n3 ≤ maxLen) (k0 : m0 ≤ maxLen) (k1 : m1 ≤ maxLen) (k2 : m2 ≤ maxLen) (k3 : m3 ≤ maxLen)
    (h0 : IntL w A0 d0) (h1 : IntL w A1 d1) (h2 : IntL w A2 d2) (h3 : BoolL w A3 d3) (j0 : IntL w B0 g0) (j1 : IntL w B1 g1) (j2 : IntL w B2 g2) (j3 : BoolL w B3 g3) :
    Calls Try.prog 19 #[.agg #[.slice A0 n0 c0, .slice A1 n1 c1, .slice A2 n2 c2, .slice A3 n3 c3, .int .i64 d4], .agg #[.slice B0 m0 e0, .slice B1 m1 e1, .slice B2 m2 e2, .slice B3 m3 e3, .int .i64 g4]] w fun e w' => e = .returned (.bool (sameMm d0 d1 d2 d3 d4 g0 g1 g2 g3 g4)) ∧ Below w.heap.size w w' := by
  obtain ⟨W0, hW0⟩ : ∃ W0, W0 = ((w.alloc (.cells #[.slice A0 n0 c0, .slice A1 n1 c1, .slice A2 n2 c2, .slice A3 n3 c3, .int .i64 d4] 28)).alloc (.cells #[.slice B0 m0 e0, .slice B1 m1 e1, .slice B2 m2 e2, .slice B3 m3 e3, .int .i64 g4] 28)) := ⟨_, rfl⟩
  have hb0 : Below w.heap.size w W0 := by rw [hW0]; exact bt (alloc_below _ _) (alloc_below _ _)
  have X0 : Hid (Box W0 w.heap.size 28 #[.slice A0 n0 c0, .slice A1 n1 c1, .slice A2 n2 c2, .slice A3 n3 c3, .int .i64 d4]) := Lib.hid (by rw [hW0]; exact (Box.new _ _ _).alloc _)
  have Y0 : Hid (Box W0 (w.heap.size + 1) 28 #[.slice B0 m0 e0, .slice B1 m1 e1, .slice B2 m2 e2, .slice B3 m3 e3, .int .i64 g4]) := Lib.hid (by rw [hW0]; simpa using Box.new (w.alloc (.cells #[.slice A0 n0 c0, .slice A1 n1 c1, .slice A2 n2 c2, .slice A3 n3 c3, .int .i64 d4] 28)) 28 #[.slice B0 m0 e0, .slice B1 m1 e1, .slice B2 m2 e2, .slice B3 m3 e3, .int .i64 g4])
  have H0 := Lib.hid (fun W (hb : Below w.heap.size w W) => equalI A0 B0 n0 m0 c0 e0 d0 g0 W l0 p0 b0 k0 (h0.below hb) (j0.below hb))
  have H1 := Lib.hid (fun W (hb : Below w.heap.size w W) => equalI A1 B1 n1 m1 c1 e1 d1 g1 W l1 p1 b1 k1 (h1.below hb) (j1.below hb))
  have H2 := Lib.hid (fun W (hb : Below w.heap.size w W) => implSame A2 B2 A3 B3 n2 m2 n3 m3 c2 e2 c3 e3 d4 g4 d2 g2 d3 g3 W l2 p2 l3 p3 b2 k2 b3 k3 (h2.below hb) (j2.below hb) (h3.below hb) (j3.below hb))
  have HR : Hid (sameMm d0 d1 d2 d3 d4 g0 g1 g2 g3 g4 = (decide (d0 = g0) && (decide (d1 = g1) && sameFl d2 g2 d3 g3 d4 g4))) := Lib.hid rfl
  generalize sameMm d0 d1 d2 d3 d4 g0 g1 g2 g3 g4 = r at HR
  generalize decide (d0 = g0) = r0 at H0 HR
  generalize decide (d1 = g1) = r1 at H1 HR
  generalize sameFl d2 g2 d3 g3 d4 g4 = r2 at H2 HR
  have HW0 := Lib.hid hW0
  have x0 := X0.out.cell 0 rfl
  have y0 := Y0.out.cell 0 rfl
  rw [HW0.out] at x0 y0
  clear l0 l1 l2 l3 p0 p1 p2 p3 b0 b1 b2 b3 k0 k1 k2 k3 h0 h1 h2 h3 j0 j1 j2 j3 hW0
  go_enter Try.func19, Try.ntmps19
  go_wp2_with fail
  rw [← HW0.out]
  refine (H0.out _ hb0).mono ?_
  rintro e w1 ⟨rfl, hb1⟩
  have q1 := bt hb0 hb1
  have X1 := X0.out.step hb1
  have Y1 := Y0.out.step hb1
  have x1 := X1.cell 1 rfl
  have y1 := Y1.cell 1 rfl
  have HX1 := Lib.hid (And.intro X1 Y1)
  clear x0 y0 X1 Y1
  cases r0
  · go_wp2
    go_ret
    exact ⟨ret_bool HR.out.symm, q1⟩
  · go_wp2_with fail
    refine (H1.out _ q1).mono ?_
    rintro e w2 ⟨rfl, hb2⟩
    have q2 := bt q1 hb2
    have X2 := HX1.out.1.step hb2
    have Y2 := HX1.out.2.step hb2
    have x2 := X2.cell 2 rfl
    have x3 := X2.cell 3 rfl
    have x4 := X2.cell 4 rfl
    have y2 := Y2.cell 2 rfl
    have y3 := Y2.cell 3 rfl
    have y4 := Y2.cell 4 rfl
    clear x1 y1 X2 Y2 HX1
    cases r1
    · go_wp2
      go_ret
      exact ⟨ret_bool HR.out.symm, q2⟩
    · go_wp2_with fail
      refine (H2.out _ q2).mono ?_
      rintro e w3 ⟨rfl, hb3⟩
      go_wp2
      go_ret
      exact ⟨ret_bool HR.out.symm, bt q2 hb3⟩
set_option maxRecDepth 100000 in
set_option maxHeartbeats 2000000 in
theorem specSameMem (l0 : d0.length = n0) (l1 : d1.length = n1) (l2 : d2.length = n2) (l3 : d3.length = n3) (p0 : g0.length = m0) (p1 : g1.length = m1) (p2 : g2.length = m2) (p3 : g3.length = m3)
    (b0 : n0 ≤ maxLen) (b1 : n1 ≤ maxLen) (b2 : n2 ≤ maxLen) (b3 : n3 ≤ maxLen) (k0 : m0 ≤ maxLen) (k1 : m1 ≤ maxLen) (k2 : m2 ≤ maxLen) (k3 : m3 ≤ maxLen)
    (h0 : IntL w A0 d0) (h1 : IntL w A1 d1) (h2 : IntL w A2 d2) (h3 : BoolL w A3 d3) (j0 : IntL w B0 g0) (j1 : IntL w B1 g1) (j2 : IntL w B2 g2) (j3 : BoolL w B3 g3) :
    Calls Try.prog 40 #[.agg #[.slice A0 n0 c0, .slice A1 n1 c1, .slice A2 n2 c2, .slice A3 n3 c3, .int .i64 d4], .agg #[.slice B0 m0 e0, .slice B1 m1 e1, .slice B2 m2 e2, .slice B3 m3 e3, .int .i64 g4]] w fun e w' => e = .returned (.bool (sameMm d0 d1 d2 d3 d4 g0 g1 g2 g3 g4)) ∧ Below w.heap.size w w' := by
  obtain ⟨W0, hW0⟩ : ∃ W0, W0 = ((w.alloc (.cells #[.slice A0 n0 c0, .slice A1 n1 c1, .slice A2 n2 c2, .slice A3 n3 c3, .int .i64 d4] 28)).alloc (.cells #[.slice B0 m0 e0, .slice B1 m1 e1, .slice B2 m2 e2, .slice B3 m3 e3, .int .i64 g4] 28)) := ⟨_, rfl⟩
  have hb0 : Below w.heap.size w W0 := by rw [hW0]; exact bt (alloc_below _ _) (alloc_below _ _)
  have X0 : Hid (Box W0 w.heap.size 28 #[.slice A0 n0 c0, .slice A1 n1 c1, .slice A2 n2 c2, .slice A3 n3 c3, .int .i64 d4]) := Lib.hid (by rw [hW0]; exact (Box.new _ _ _).alloc _)
  have Y0 : Hid (Box W0 (w.heap.size + 1) 28 #[.slice B0 m0 e0, .slice B1 m1 e1, .slice B2 m2 e2, .slice B3 m3 e3, .int .i64 g4]) := Lib.hid (by rw [hW0]; simpa using Box.new (w.alloc (.cells #[.slice A0 n0 c0, .slice A1 n1 c1, .slice A2 n2 c2, .slice A3 n3 c3, .int .i64 d4] 28)) 28 #[.slice B0 m0 e0, .slice B1 m1 e1, .slice B2 m2 e2, .slice B3 m3 e3, .int .i64 g4])
  have H0 := Lib.hid (fun W (hb : Below w.heap.size w W) => l05Ints A0 B0 n0 m0 c0 e0 d0 g0 W l0 p0 b0 k0 (h0.below hb) (j0.below hb))
  have H1 := Lib.hid (fun W (hb : Below w.heap.size w W) => l05Ints A1 B1 n1 m1 c1 e1 d1 g1 W l1 p1 b1 k1 (h1.below hb) (j1.below hb))
  have H2 := Lib.hid (fun W (hb : Below w.heap.size w W) => specSame A2 B2 A3 B3 n2 m2 n3 m3 c2 e2 c3 e3 d4 g4 d2 g2 d3 g3 W l2 p2 l3 p3 b2 k2 b3 k3 (h2.below hb) (j2.below hb) (h3.below hb) (j3.below hb))
  have HR : Hid (sameMm d0 d1 d2 d3 d4 g0 g1 g2 g3 g4 = (decide (d0 = g0) && (decide (d1 = g1) && sameFl d2 g2 d3 g3 d4 g4))) := Lib.hid rfl
  generalize sameMm d0 d1 d2 d3 d4 g0 g1 g2 g3 g4 = r at HR
  generalize decide (d0 = g0) = r0 at H0 HR
  generalize decide (d1 = g1) = r1 at H1 HR
  generalize sameFl d2 g2 d3 g3 d4 g4 = r2 at H2 HR
  have HW0 := Lib.hid hW0
  have x0 := X0.out.cell 0 rfl
  have y0 := Y0.out.cell 0 rfl
  rw [HW0.out] at x0 y0
  clear l0 l1 l2 l3 p0 p1 p2 p3 b0 b1 b2 b3 k0 k1 k2 k3 h0 h1 h2 h3 j0 j1 j2 j3 hW0
  go_enter Try.func40, Try.ntmps40
  go_wp2_with fail
  rw [← HW0.out]
  refine (H0.out _ hb0).mono ?_
  rintro e w1 ⟨rfl, hb1⟩
  have q1 := bt hb0 hb1
  have X1 := X0.out.step hb1
  have Y1 := Y0.out.step hb1
  have x1 := X1.cell 1 rfl
  have y1 := Y1.cell 1 rfl
  have HX1 := Lib.hid (And.intro X1 Y1)
  clear x0 y0 X1 Y1
  cases r0
  · go_wp2
    go_ret
    exact ⟨ret_bool HR.out.symm, q1⟩
  · go_wp2_with fail
    refine (H1.out _ q1).mono ?_
    rintro e w2 ⟨rfl, hb2⟩
    have q2 := bt q1 hb2
    have X2 := HX1.out.1.step hb2
    have Y2 := HX1.out.2.step hb2
    have x2 := X2.cell 2 rfl
    have x3 := X2.cell 3 rfl
    have x4 := X2.cell 4 rfl
    have y2 := Y2.cell 2 rfl
    have y3 := Y2.cell 3 rfl
    have y4 := Y2.cell 4 rfl
    clear x1 y1 X2 Y2 HX1
    cases r1
    · go_wp2
      go_ret
      exact ⟨ret_bool HR.out.symm, q2⟩
    · go_wp2_with fail
      refine (H2.out _ q2).mono ?_
      rintro e w3 ⟨rfl, hb3⟩
      go_wp2
      go_ret
      exact ⟨ret_bool HR.out.symm, bt q2 hb3⟩
end

theorem putF_bnd (d0 d1 d2 : List Int) (d3 : List Bool) (d4 a v : Int) (h : szA [.I d0, .I d1, .I d2, .B d3] ≤ 1048576) : lenA [.I (putF d0 d1 d2 d3 d4 a v).1, .I (putF d0 d1 d2 d3 d4 a v).2.1, .I (putF d0 d1 d2 d3 d4 a v).2.2.1, .B (putF d0 d1 d2 d3 d4 a v).2.2.2.1] ≤ 4294967296 := by
  have q := Nat.le_trans (szA_len _) h
  simp only [lenA, Lf.len] at q ⊢
  unfold putF
  split
  · simp only [putR_len, putI_len, putZ_len, putG_len]; omega
  · simp
section
variable (A0 A1 A2 A3 : Option Addr) (c0 c1 c2 c3 : Nat) (d0 d1 d2 : List Int) (d3 : List Bool) (d4 : Int) (w : World)
set_option maxRecDepth 100000 in
theorem specMemOKA (h : RepA w [.slice A0 d0.length c0, .slice A1 d1.length c1, .slice A2 d2.length c2, .slice A3 d3.length c3] [.I d0, .I d1, .I d2, .B d3]) (_c : CapA [.slice A0 d0.length c0, .slice A1 d1.length c1, .slice A2 d2.length c2, .slice A3 d3.length c3]) (z : szA [.I d0, .I d1, .I d2, .B d3] ≤ 1048576) :
    Calls Try.prog 28 #[.agg #[.slice A0 d0.length c0, .slice A1 d1.length c1, .slice A2 d2.length c2, .slice A3 d3.length c3, .int .i64 d4]] w fun e w' => e = .returned (.bool (okMem d0 d1 d2 d3 d4)) ∧ Below w.heap.size w w' := by
  simp only [szA, Lf.sz] at z
  exact specMemOK A0 A1 A2 A3 _ _ _ _ c0 c1 c2 c3 d0 d1 d2 d3 d4 w rfl rfl rfl rfl (by unfold maxLen; omega) (by unfold maxLen; omega) (by unfold maxLen; omega) (by unfold maxLen; omega) (repI h.1) (repI h.2.1) (repI h.2.2.1)
set_option maxRecDepth 100000 in
theorem implMemOKA (h : RepA w [.slice A0 d0.length c0, .slice A1 d1.length c1, .slice A2 d2.length c2, .slice A3 d3.length c3] [.I d0, .I d1, .I d2, .B d3]) (_c : CapA [.slice A0 d0.length c0, .slice A1 d1.length c1, .slice A2 d2.length c2, .slice A3 d3.length c3]) (z : szA [.I d0, .I d1, .I d2, .B d3] ≤ 1048576) :
    Calls Try.prog 18 #[.agg #[.slice A0 d0.length c0, .slice A1 d1.length c1, .slice A2 d2.length c2, .slice A3 d3.length c3, .int .i64 d4]] w fun e w' => e = .returned (.bool (okMem d0 d1 d2 d3 d4)) ∧ Below w.heap.size w w' := by
  simp only [szA, Lf.sz] at z
  exact implMemOK A0 A1 A2 A3 _ _ _ _ c0 c1 c2 c3 d0 d1 d2 d3 d4 w rfl rfl rfl rfl (by unfold maxLen; omega) (by unfold maxLen; omega) (by unfold maxLen; omega) (by unfold maxLen; omega) (repI h.1) (repI h.2.1) (repI h.2.2.1)
end
section
variable (A0 A1 A2 A3 : Option Addr) (c0 c1 c2 c3 : Nat) (d0 d1 d2 : List Int) (d3 : List Bool) (d4 : Int) (a : Int) (w : World)
set_option maxRecDepth 100000 in
theorem specBusGetA (h : RepA w [.slice A0 d0.length c0, .slice A1 d1.length c1, .slice A2 d2.length c2, .slice A3 d3.length c3] [.I d0, .I d1, .I d2, .B d3]) (_c : CapA [.slice A0 d0.length c0, .slice A1 d1.length c1, .slice A2 d2.length c2, .slice A3 d3.length c3]) (z : szA [.I d0, .I d1, .I d2, .B d3] ≤ 1048576) :
    Calls Try.prog 39 #[.agg #[.slice A0 d0.length c0, .slice A1 d1.length c1, .slice A2 d2.length c2, .slice A3 d3.length c3, .int .i64 d4], .int .i64 a] w fun e w' => e = .returned (.tuple #[.int .i64 (getF d0 d1 d2 d3 d4 a).1, .int .i64 (getF d0 d1 d2 d3 d4 a).2]) ∧ Below w.heap.size w w' := by
  simp only [szA, Lf.sz] at z
  exact specBusGet A0 A1 A2 A3 _ _ _ _ c0 c1 c2 c3 d0 d1 d2 d3 d4 w a rfl rfl rfl rfl (by unfold maxLen; omega) (by unfold maxLen; omega) (by unfold maxLen; omega) (by unfold maxLen; omega) (repI h.1) (repI h.2.1) (repI h.2.2.1) (repB h.2.2.2.1)
set_option maxRecDepth 100000 in
theorem implBusGetA (h : RepA w [.slice A0 d0.length c0, .slice A1 d1.length c1, .slice A2 d2.length c2, .slice A3 d3.length c3] [.I d0, .I d1, .I d2, .B d3]) (_c : CapA [.slice A0 d0.length c0, .slice A1 d1.length c1, .slice A2 d2.length c2, .slice A3 d3.length c3]) (z : szA [.I d0, .I d1, .I d2, .B d3] ≤ 1048576) :
    Calls Try.prog 15 #[.agg #[.slice A0 d0.length c0, .slice A1 d1.length c1, .slice A2 d2.length c2, .slice A3 d3.length c3, .int .i64 d4], .int .i64 a] w fun e w' => e = .returned (.tuple #[.int .i64 (getF d0 d1 d2 d3 d4 a).1, .int .i64 (getF d0 d1 d2 d3 d4 a).2]) ∧ Below w.heap.size w w' := by
  simp only [szA, Lf.sz] at z
  exact implBusGet A0 A1 A2 A3 _ _ _ _ c0 c1 c2 c3 d0 d1 d2 d3 d4 w a rfl rfl rfl rfl (by unfold maxLen; omega) (by unfold maxLen; omega) (by unfold maxLen; omega) (by unfold maxLen; omega) (repI h.1) (repI h.2.1) (repI h.2.2.1) (repB h.2.2.2.1)
end
section
variable (A0 A1 A2 A3 : Option Addr) (c0 c1 c2 c3 : Nat) (d0 d1 d2 : List Int) (d3 : List Bool) (d4 : Int) (a v : Int) (w : World)
set_option maxRecDepth 100000 in
theorem specBusPutA (h : RepA w [.slice A0 d0.length c0, .slice A1 d1.length c1, .slice A2 d2.length c2, .slice A3 d3.length c3] [.I d0, .I d1, .I d2, .B d3]) (_c : CapA [.slice A0 d0.length c0, .slice A1 d1.length c1, .slice A2 d2.length c2, .slice A3 d3.length c3]) (z : szA [.I d0, .I d1, .I d2, .B d3] ≤ 1048576) :
    Calls Try.prog 14 #[.agg #[.slice A0 d0.length c0, .slice A1 d1.length c1, .slice A2 d2.length c2, .slice A3 d3.length c3, .int .i64 d4], .int .i64 a, .int .i64 v] w (fun e w' => ∃ rA0 rA1 rA2 rA3 rc0 rc1 rc2 rc3, e = .returned (.tuple #[.agg #[.slice rA0 (putF d0 d1 d2 d3 d4 a v).1.length rc0, .slice rA1 (putF d0 d1 d2 d3 d4 a v).2.1.length rc1, .slice rA2 (putF d0 d1 d2 d3 d4 a v).2.2.1.length rc2, .slice rA3 (putF d0 d1 d2 d3 d4 a v).2.2.2.1.length rc3, .int .i64 (putF d0 d1 d2 d3 d4 a v).2.2.2.2.1], .int .i64 (putF d0 d1 d2 d3 d4 a v).2.2.2.2.2]) ∧ Hid (OwnA w' w.heap.size w'.heap.size [.slice rA0 (putF d0 d1 d2 d3 d4 a v).1.length rc0, .slice rA1 (putF d0 d1 d2 d3 d4 a v).2.1.length rc1, .slice rA2 (putF d0 d1 d2 d3 d4 a v).2.2.1.length rc2, .slice rA3 (putF d0 d1 d2 d3 d4 a v).2.2.2.1.length rc3] [.I (putF d0 d1 d2 d3 d4 a v).1, .I (putF d0 d1 d2 d3 d4 a v).2.1, .I (putF d0 d1 d2 d3 d4 a v).2.2.1, .B (putF d0 d1 d2 d3 d4 a v).2.2.2.1]) ∧ Below w.heap.size w w') := by
  simp only [szA, Lf.sz] at z
  exact specBusPut A0 A1 A2 A3 _ _ _ _ c0 c1 c2 c3 d0 d1 d2 d3 d4 w a v rfl rfl rfl rfl (by unfold maxLen; omega) (by unfold maxLen; omega) (by unfold maxLen; omega) (by unfold maxLen; omega) (repI h.1) (repI h.2.1) (repI h.2.2.1) (repB h.2.2.2.1)
set_option maxRecDepth 100000 in
theorem implBusPutA (h : RepA w [.slice A0 d0.length c0, .slice A1 d1.length c1, .slice A2 d2.length c2, .slice A3 d3.length c3] [.I d0, .I d1, .I d2, .B d3]) (_c : CapA [.slice A0 d0.length c0, .slice A1 d1.length c1, .slice A2 d2.length c2, .slice A3 d3.length c3]) (z : szA [.I d0, .I d1, .I d2, .B d3] ≤ 1048576) :
    Calls Try.prog 13 #[.agg #[.slice A0 d0.length c0, .slice A1 d1.length c1, .slice A2 d2.length c2, .slice A3 d3.length c3, .int .i64 d4], .int .i64 a, .int .i64 v] w (fun e w' => ∃ rA0 rA1 rA2 rA3 rc0 rc1 rc2 rc3, e = .returned (.tuple #[.agg #[.slice rA0 (putF d0 d1 d2 d3 d4 a v).1.length rc0, .slice rA1 (putF d0 d1 d2 d3 d4 a v).2.1.length rc1, .slice rA2 (putF d0 d1 d2 d3 d4 a v).2.2.1.length rc2, .slice rA3 (putF d0 d1 d2 d3 d4 a v).2.2.2.1.length rc3, .int .i64 (putF d0 d1 d2 d3 d4 a v).2.2.2.2.1], .int .i64 (putF d0 d1 d2 d3 d4 a v).2.2.2.2.2]) ∧ Hid (OwnA w' w.heap.size w'.heap.size [.slice rA0 (putF d0 d1 d2 d3 d4 a v).1.length rc0, .slice rA1 (putF d0 d1 d2 d3 d4 a v).2.1.length rc1, .slice rA2 (putF d0 d1 d2 d3 d4 a v).2.2.1.length rc2, .slice rA3 (putF d0 d1 d2 d3 d4 a v).2.2.2.1.length rc3] [.I (putF d0 d1 d2 d3 d4 a v).1, .I (putF d0 d1 d2 d3 d4 a v).2.1, .I (putF d0 d1 d2 d3 d4 a v).2.2.1, .B (putF d0 d1 d2 d3 d4 a v).2.2.2.1]) ∧ Below w.heap.size w w') := by
  simp only [szA, Lf.sz] at z
  exact implBusPut A0 A1 A2 A3 _ _ _ _ c0 c1 c2 c3 d0 d1 d2 d3 d4 w a v rfl rfl rfl rfl (by unfold maxLen; omega) (by unfold maxLen; omega) (by unfold maxLen; omega) (by unfold maxLen; omega) (repI h.1) (repI h.2.1) (repI h.2.2.1) (repB h.2.2.2.1)
end
section
variable (A0 A1 A2 A3 : Option Addr) (c0 c1 c2 c3 : Nat) (d0 d1 d2 : List Int) (d3 : List Bool) (d4 : Int) (B0 B1 B2 B3 : Option Addr) (e0 e1 e2 e3 : Nat) (g0 g1 g2 : List Int) (g3 : List Bool) (g4 : Int) (w : World)
set_option maxRecDepth 100000 in
theorem specSameMemA (h : RepA w [.slice A0 d0.length c0, .slice A1 d1.length c1, .slice A2 d2.length c2, .slice A3 d3.length c3] [.I d0, .I d1, .I d2, .B d3]) (_c : CapA [.slice A0 d0.length c0, .slice A1 d1.length c1, .slice A2 d2.length c2, .slice A3 d3.length c3]) (z : szA [.I d0, .I d1, .I d2, .B d3] ≤ 1048576) (h' : RepA w [.slice B0 g0.length e0, .slice B1 g1.length e1, .slice B2 g2.length e2, .slice B3 g3.length e3] [.I g0, .I g1, .I g2, .B g3]) (_c' : CapA [.slice B0 g0.length e0, .slice B1 g1.length e1, .slice B2 g2.length e2, .slice B3 g3.length e3]) (z' : szA [.I g0, .I g1, .I g2, .B g3] ≤ 1048576) :
    Calls Try.prog 40 #[.agg #[.slice A0 d0.length c0, .slice A1 d1.length c1, .slice A2 d2.length c2, .slice A3 d3.length c3, .int .i64 d4], .agg #[.slice B0 g0.length e0, .slice B1 g1.length e1, .slice B2 g2.length e2, .slice B3 g3.length e3, .int .i64 g4]] w fun e w' => e = .returned (.bool (sameMm d0 d1 d2 d3 d4 g0 g1 g2 g3 g4)) ∧ Below w.heap.size w w' := by
  simp only [szA, Lf.sz] at z z'
  exact specSameMem A0 A1 A2 A3 _ _ _ _ c0 c1 c2 c3 d0 d1 d2 d3 d4 B0 B1 B2 B3 _ _ _ _ e0 e1 e2 e3 g0 g1 g2 g3 g4 w rfl rfl rfl rfl rfl rfl rfl rfl (by unfold maxLen; omega) (by unfold maxLen; omega) (by unfold maxLen; omega) (by unfold maxLen; omega) (by unfold maxLen; omega) (by unfold maxLen; omega) (by unfold maxLen; omega) (by unfold maxLen; omega) (repI h.1) (repI h.2.1) (repI h.2.2.1) (repB h.2.2.2.1) (repI h'.1) (repI h'.2.1) (repI h'.2.2.1) (repB h'.2.2.2.1)
set_option maxRecDepth 100000 in
theorem implSameMemA (h : RepA w [.slice A0 d0.length c0, .slice A1 d1.length c1, .slice A2 d2.length c2, .slice A3 d3.length c3] [.I d0, .I d1, .I d2, .B d3]) (_c : CapA [.slice A0 d0.length c0, .slice A1 d1.length c1, .slice A2 d2.length c2, .slice A3 d3.length c3]) (z : szA [.I d0, .I d1, .I d2, .B d3] ≤ 1048576) (h' : RepA w [.slice B0 g0.length e0, .slice B1 g1.length e1, .slice B2 g2.length e2, .slice B3 g3.length e3] [.I g0, .I g1, .I g2, .B g3]) (_c' : CapA [.slice B0 g0.length e0, .slice B1 g1.length e1, .slice B2 g2.length e2, .slice B3 g3.length e3]) (z' : szA [.I g0, .I g1, .I g2, .B g3] ≤ 1048576) :
    Calls Try.prog 19 #[.agg #[.slice A0 d0.length c0, .slice A1 d1.length c1, .slice A2 d2.length c2, .slice A3 d3.length c3, .int .i64 d4], .agg #[.slice B0 g0.length e0, .slice B1 g1.length e1, .slice B2 g2.length e2, .slice B3 g3.length e3, .int .i64 g4]] w fun e w' => e = .returned (.bool (sameMm d0 d1 d2 d3 d4 g0 g1 g2 g3 g4)) ∧ Below w.heap.size w w' := by
  simp only [szA, Lf.sz] at z z'
  exact implSameMem A0 A1 A2 A3 _ _ _ _ c0 c1 c2 c3 d0 d1 d2 d3 d4 B0 B1 B2 B3 _ _ _ _ e0 e1 e2 e3 g0 g1 g2 g3 g4 w rfl rfl rfl rfl rfl rfl rfl rfl (by unfold maxLen; omega) (by unfold maxLen; omega) (by unfold maxLen; omega) (by unfold maxLen; omega) (by unfold maxLen; omega) (by unfold maxLen; omega) (by unfold maxLen; omega) (by unfold maxLen; omega) (repI h.1) (repI h.2.1) (repI h.2.2.1) (repB h.2.2.2.1) (repI h'.1) (repI h'.2.1) (repI h'.2.2.1) (repB h'.2.2.2.1)
end
end Go.Proofs.Ytdanefhfngmipaa
