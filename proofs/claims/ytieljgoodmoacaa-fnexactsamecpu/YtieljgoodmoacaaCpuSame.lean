/- SameCpu on both sides, on leaves. Written by gen_cpusame.py. -/
import Derived.Test.YtieljgoodmoacaaSameFlash
import Derived.Test.YtieljgoodmoacaaCpuMath
namespace Go.Proofs.Ytieljgoodmoacaa
open Go.RowKit

set_option maxRecDepth 100000 in
set_option maxHeartbeats 1000000 in
theorem l05IntsC (A A' : Option Addr) (n n' c c' : Nat) (ss ss' : List Int) (w : World) (hl : ss.length = n) (hl' : ss'.length = n') (hn : n ≤ maxLen) (hn' : n' ≤ maxLen)
    (h : IntL w A ss) (h' : IntL w A' ss') :
    Calls Try.prog 55 #[.slice A n c, .slice A' n' c'] w fun e w' => e = .returned (.bool (decide (ss = ss'))) ∧ Below w.heap.size w w' := by
  unfold maxLen at hn hn'
  have HL := Lib.hid hl
  have HL' := Lib.hid hl'
  have H := Lib.hid h
  have H' := Lib.hid h'
  clear hl hl' h h'
  by_cases hne : n = n'
  · subst hne
    have hb : ((n : Int) != (n : Int)) = false := by simp
    go_enter Try.func55, Try.ntmps55
    go_wp2
    go_loopw [5] (fun i wr => ∃ k : Nat, k ≤ n ∧ i = .int .i64 k ∧ Hid (ss.take k = ss'.take k) ∧ Below w.heap.size w wr) (fun i _ => n - (intOf i).toNat)
    case atStart => exact ⟨0, Nat.zero_le _, rfl, Lib.hid rfl, Below.refl _ _⟩
    case round =>
      obtain ⟨k, hk, rfl, HT, hbw⟩ := hrel
      by_cases hlt : k < n
      · obtain ⟨b, off, rfl, hc⟩ := (H.out.below hbw) k (by rw [HL.out]; exact hlt)
        obtain ⟨b', off', rfl, hc'⟩ := (H'.out.below hbw) k (by rw [HL'.out]; exact hlt)
        have HN := Lib.hid (fun e => take_next 0 HT.out (by rw [HL.out]; exact hlt) (by rw [HL'.out]; exact hlt) e)
        have HX := Lib.hid (fun e => ne_of_at (l := ss) (m := ss') (k := k) 0 e)
        generalize ss.getD k 0 = x at hc HN HX
        generalize ss'.getD k 0 = y at hc' HN HX
        have hi : (k : Int) < (n : Int) := by omega
        by_cases hE : x = y
        · have hq1 : (x == y) = true := by simp [hE]
          have hq2 : (x != y) = false := by simp [hE]
          have HE := Lib.hid hE
          clear hE
          go_wp2
          go_quiet (fail)
          go_wp2
          go_roundw
          case rel => exact ⟨k + 1, by omega, by go_num, Lib.hid (HN.out HE.out), below_drewN hbw _⟩
          case measure => simp [intOf]; omega
        · have hq1 : (x == y) = false := by simp [hE]
          have hq2 : (x != y) = true := by simp [hE]
          have HE := Lib.hid hE
          clear hE
          go_wp2
          go_quiet (fail)
          go_wp2
          go_ret
          exact ⟨ret_bool (by simp [HX.out HE.out]), below_drewN hbw _⟩
      · go_wp2
        go_ret
        exact ⟨ret_bool (by simp [take_all HT.out (by rw [HL.out]; omega) (by rw [HL'.out]; omega)]), hbw⟩
  · have hb : ((n : Int) != (n' : Int)) = true := by simp; omega
    have HF : Hid (decide (ss = ss') = false) := Lib.hid (by simp; intro e; apply hne; rw [← HL.out, ← HL'.out, e])
    clear hne
    go_enter Try.func55, Try.ntmps55
    go_wp2
    go_ret
    exact ⟨ret_bool HF.out.symm, Below.refl _ _⟩



def sameCp (d0 d1 d2 d3 : Int) (d4 d5 d6 d7 : Bool) (d8 : List Int) (g0 g1 g2 g3 : Int) (g4 g5 g6 g7 : Bool) (g8 : List Int) : Bool := (d0 == g0) && ((d1 == g1) && ((d2 == g2) && ((d3 == g3) && ((d4 == g4) && ((d5 == g5) && ((d6 == g6) && ((d7 == g7) && decide (d8 = g8))))))))

set_option maxRecDepth 100000 in
set_option maxHeartbeats 4000000 in
theorem specSameCpu (A B : Option Addr) (n k c e : Nat) (d0 d1 d2 d3 : Int) (d4 d5 d6 d7 : Bool) (d8 : List Int) (g0 g1 g2 g3 : Int) (g4 g5 g6 g7 : Bool) (g8 : List Int) (w : World) (l0 : d8.length = n) (p0 : g8.length = k) (m0 : n ≤ maxLen) (k0 : k ≤ maxLen) (h0 : IntL w A d8) (j0 : IntL w B g8) :
    Calls Try.prog 26 #[.agg #[.int .i64 d0, .int .i64 d1, .int .i64 d2, .int .i64 d3, .bool d4, .bool d5, .bool d6, .bool d7, .slice A n c], .agg #[.int .i64 g0, .int .i64 g1, .int .i64 g2, .int .i64 g3, .bool g4, .bool g5, .bool g6, .bool g7, .slice B k e]] w fun e w' => e = .returned (.bool (sameCp d0 d1 d2 d3 d4 d5 d6 d7 d8 g0 g1 g2 g3 g4 g5 g6 g7 g8)) ∧ Below w.heap.size w w' := by
  obtain ⟨W0, hW0⟩ : ∃ W0, W0 = ((w.alloc (.cells #[.int .i64 d0, .int .i64 d1, .int .i64 d2, .int .i64 d3, .bool d4, .bool d5, .bool d6, .bool d7, .slice A n c] 24)).alloc (.cells #[.int .i64 g0, .int .i64 g1, .int .i64 g2, .int .i64 g3, .bool g4, .bool g5, .bool g6, .bool g7, .slice B k e] 24)) := ⟨_, rfl⟩
  have hb0 : Below w.heap.size w W0 := by rw [hW0]; exact bt (alloc_below _ _) (alloc_below _ _)
  have HE := Lib.hid (l05IntsC A B n k c e d8 g8 _ l0 p0 m0 k0 (h0.below hb0) (j0.below hb0))
  have HY : Hid (sameCp d0 d1 d2 d3 d4 d5 d6 d7 d8 g0 g1 g2 g3 g4 g5 g6 g7 g8 = ((d0 == g0) && ((d1 == g1) && ((d2 == g2) && ((d3 == g3) && ((d4 == g4) && ((d5 == g5) && ((d6 == g6) && ((d7 == g7) && decide (d8 = g8)))))))))) := Lib.hid rfl
  generalize sameCp d0 d1 d2 d3 d4 d5 d6 d7 d8 g0 g1 g2 g3 g4 g5 g6 g7 g8 = r at HY ⊢
  generalize decide (d8 = g8) = q at HE HY
  have HW0 := Lib.hid hW0
  have HB0 := Lib.hid hb0
  clear l0 p0 m0 k0 h0 j0 hW0 hb0
  by_cases h0 : (d0 == g0) = true
  · skip
    by_cases h1 : (d1 == g1) = true
    · skip
      by_cases h2 : (d2 == g2) = true
      · skip
        by_cases h3 : (d3 == g3) = true
        · skip
          by_cases h4 : (d4 == g4) = true
          · skip
            by_cases h5 : (d5 == g5) = true
            · skip
              by_cases h6 : (d6 == g6) = true
              · skip
                by_cases h7 : (d7 == g7) = true
                · skip
                  have HR : Hid (r = q) := Lib.hid (by rw [HY.out]; simp [h0, h1, h2, h3, h4, h5, h6, h7])
                  clear HY
                  go_enter Try.func26, Try.ntmps26
                  go_wp2_with fail
                  rw [← HW0.out]
                  refine HE.out.mono ?_
                  rintro e' w1 ⟨rfl, hb1⟩
                  go_wp2
                  all_goals go_ret
                  all_goals exact ⟨ret_bool HR.out.symm, bt HB0.out hb1⟩
                · have h7 : (d7 == g7) = false := by simpa using h7
                  have HR : Hid (r = false) := Lib.hid (by rw [HY.out]; simp [h0, h1, h2, h3, h4, h5, h6, h7])
                  clear HY
                  go_enter Try.func26, Try.ntmps26
                  go_wp2
                  rw [← HW0.out]
                  all_goals go_ret
                  all_goals exact ⟨ret_bool HR.out.symm, HB0.out⟩
              · have h6 : (d6 == g6) = false := by simpa using h6
                have HR : Hid (r = false) := Lib.hid (by rw [HY.out]; simp [h0, h1, h2, h3, h4, h5, h6])
                clear HY
                go_enter Try.func26, Try.ntmps26
                go_wp2
                rw [← HW0.out]
                all_goals go_ret
                all_goals exact ⟨ret_bool HR.out.symm, HB0.out⟩
            · have h5 : (d5 == g5) = false := by simpa using h5
              have HR : Hid (r = false) := Lib.hid (by rw [HY.out]; simp [h0, h1, h2, h3, h4, h5])
              clear HY
              go_enter Try.func26, Try.ntmps26
              go_wp2
              rw [← HW0.out]
              all_goals go_ret
              all_goals exact ⟨ret_bool HR.out.symm, HB0.out⟩
          · have h4 : (d4 == g4) = false := by simpa using h4
            have HR : Hid (r = false) := Lib.hid (by rw [HY.out]; simp [h0, h1, h2, h3, h4])
            clear HY
            go_enter Try.func26, Try.ntmps26
            go_wp2
            rw [← HW0.out]
            all_goals go_ret
            all_goals exact ⟨ret_bool HR.out.symm, HB0.out⟩
        · have h3 : (d3 == g3) = false := by simpa using h3
          have HR : Hid (r = false) := Lib.hid (by rw [HY.out]; simp [h0, h1, h2, h3])
          clear HY
          go_enter Try.func26, Try.ntmps26
          go_wp2
          rw [← HW0.out]
          all_goals go_ret
          all_goals exact ⟨ret_bool HR.out.symm, HB0.out⟩
      · have h2 : (d2 == g2) = false := by simpa using h2
        have HR : Hid (r = false) := Lib.hid (by rw [HY.out]; simp [h0, h1, h2])
        clear HY
        go_enter Try.func26, Try.ntmps26
        go_wp2
        rw [← HW0.out]
        all_goals go_ret
        all_goals exact ⟨ret_bool HR.out.symm, HB0.out⟩
    · have h1 : (d1 == g1) = false := by simpa using h1
      have HR : Hid (r = false) := Lib.hid (by rw [HY.out]; simp [h0, h1])
      clear HY
      go_enter Try.func26, Try.ntmps26
      go_wp2
      rw [← HW0.out]
      all_goals go_ret
      all_goals exact ⟨ret_bool HR.out.symm, HB0.out⟩
  · have h0 : (d0 == g0) = false := by simpa using h0
    have HR : Hid (r = false) := Lib.hid (by rw [HY.out]; simp [h0])
    clear HY
    go_enter Try.func26, Try.ntmps26
    go_wp2
    rw [← HW0.out]
    all_goals go_ret
    all_goals exact ⟨ret_bool HR.out.symm, HB0.out⟩

set_option maxRecDepth 100000 in
set_option maxHeartbeats 4000000 in
theorem implSameCpu (A B : Option Addr) (n k c e : Nat) (d0 d1 d2 d3 : Int) (d4 d5 d6 d7 : Bool) (d8 : List Int) (g0 g1 g2 g3 : Int) (g4 g5 g6 g7 : Bool) (g8 : List Int) (w : World) (l0 : d8.length = n) (p0 : g8.length = k) (m0 : n ≤ maxLen) (k0 : k ≤ maxLen) (h0 : IntL w A d8) (j0 : IntL w B g8) :
    Calls Try.prog 27 #[.agg #[.int .i64 d0, .int .i64 d1, .int .i64 d2, .int .i64 d3, .bool d4, .bool d5, .bool d6, .bool d7, .slice A n c], .agg #[.int .i64 g0, .int .i64 g1, .int .i64 g2, .int .i64 g3, .bool g4, .bool g5, .bool g6, .bool g7, .slice B k e]] w fun e w' => e = .returned (.bool (sameCp d0 d1 d2 d3 d4 d5 d6 d7 d8 g0 g1 g2 g3 g4 g5 g6 g7 g8)) ∧ Below w.heap.size w w' := by
  obtain ⟨W0, hW0⟩ : ∃ W0, W0 = ((w.alloc (.cells #[.int .i64 d0, .int .i64 d1, .int .i64 d2, .int .i64 d3, .bool d4, .bool d5, .bool d6, .bool d7, .slice A n c] 24)).alloc (.cells #[.int .i64 g0, .int .i64 g1, .int .i64 g2, .int .i64 g3, .bool g4, .bool g5, .bool g6, .bool g7, .slice B k e] 24)) := ⟨_, rfl⟩
  have hb0 : Below w.heap.size w W0 := by rw [hW0]; exact bt (alloc_below _ _) (alloc_below _ _)
  have HE := Lib.hid (equalI A B n k c e d8 g8 _ l0 p0 m0 k0 (h0.below hb0) (j0.below hb0))
  have HY : Hid (sameCp d0 d1 d2 d3 d4 d5 d6 d7 d8 g0 g1 g2 g3 g4 g5 g6 g7 g8 = ((d0 == g0) && ((d1 == g1) && ((d2 == g2) && ((d3 == g3) && ((d4 == g4) && ((d5 == g5) && ((d6 == g6) && ((d7 == g7) && decide (d8 = g8)))))))))) := Lib.hid rfl
  generalize sameCp d0 d1 d2 d3 d4 d5 d6 d7 d8 g0 g1 g2 g3 g4 g5 g6 g7 g8 = r at HY ⊢
  generalize decide (d8 = g8) = q at HE HY
  have HW0 := Lib.hid hW0
  have HB0 := Lib.hid hb0
  clear l0 p0 m0 k0 h0 j0 hW0 hb0
  by_cases h0 : (d0 == g0) = true
  · skip
    by_cases h1 : (d1 == g1) = true
    · skip
      by_cases h2 : (d2 == g2) = true
      · skip
        by_cases h3 : (d3 == g3) = true
        · skip
          by_cases h4 : (d4 == g4) = true
          · skip
            by_cases h5 : (d5 == g5) = true
            · skip
              by_cases h6 : (d6 == g6) = true
              · skip
                by_cases h7 : (d7 == g7) = true
                · skip
                  have HR : Hid (r = q) := Lib.hid (by rw [HY.out]; simp [h0, h1, h2, h3, h4, h5, h6, h7])
                  clear HY
                  go_enter Try.func27, Try.ntmps27
                  go_wp2_with fail
                  rw [← HW0.out]
                  refine HE.out.mono ?_
                  rintro e' w1 ⟨rfl, hb1⟩
                  go_wp2
                  all_goals go_ret
                  all_goals exact ⟨ret_bool HR.out.symm, bt HB0.out hb1⟩
                · have h7 : (d7 == g7) = false := by simpa using h7
                  have HR : Hid (r = false) := Lib.hid (by rw [HY.out]; simp [h0, h1, h2, h3, h4, h5, h6, h7])
                  clear HY
                  go_enter Try.func27, Try.ntmps27
                  go_wp2
                  rw [← HW0.out]
                  all_goals go_ret
                  all_goals exact ⟨ret_bool HR.out.symm, HB0.out⟩
              · have h6 : (d6 == g6) = false := by simpa using h6
                have HR : Hid (r = false) := Lib.hid (by rw [HY.out]; simp [h0, h1, h2, h3, h4, h5, h6])
                clear HY
                go_enter Try.func27, Try.ntmps27
                go_wp2
                rw [← HW0.out]
                all_goals go_ret
                all_goals exact ⟨ret_bool HR.out.symm, HB0.out⟩
            · have h5 : (d5 == g5) = false := by simpa using h5
              have HR : Hid (r = false) := Lib.hid (by rw [HY.out]; simp [h0, h1, h2, h3, h4, h5])
              clear HY
              go_enter Try.func27, Try.ntmps27
              go_wp2
              rw [← HW0.out]
              all_goals go_ret
              all_goals exact ⟨ret_bool HR.out.symm, HB0.out⟩
          · have h4 : (d4 == g4) = false := by simpa using h4
            have HR : Hid (r = false) := Lib.hid (by rw [HY.out]; simp [h0, h1, h2, h3, h4])
            clear HY
            go_enter Try.func27, Try.ntmps27
            go_wp2
            rw [← HW0.out]
            all_goals go_ret
            all_goals exact ⟨ret_bool HR.out.symm, HB0.out⟩
        · have h3 : (d3 == g3) = false := by simpa using h3
          have HR : Hid (r = false) := Lib.hid (by rw [HY.out]; simp [h0, h1, h2, h3])
          clear HY
          go_enter Try.func27, Try.ntmps27
          go_wp2
          rw [← HW0.out]
          all_goals go_ret
          all_goals exact ⟨ret_bool HR.out.symm, HB0.out⟩
      · have h2 : (d2 == g2) = false := by simpa using h2
        have HR : Hid (r = false) := Lib.hid (by rw [HY.out]; simp [h0, h1, h2])
        clear HY
        go_enter Try.func27, Try.ntmps27
        go_wp2
        rw [← HW0.out]
        all_goals go_ret
        all_goals exact ⟨ret_bool HR.out.symm, HB0.out⟩
    · have h1 : (d1 == g1) = false := by simpa using h1
      have HR : Hid (r = false) := Lib.hid (by rw [HY.out]; simp [h0, h1])
      clear HY
      go_enter Try.func27, Try.ntmps27
      go_wp2
      rw [← HW0.out]
      all_goals go_ret
      all_goals exact ⟨ret_bool HR.out.symm, HB0.out⟩
  · have h0 : (d0 == g0) = false := by simpa using h0
    have HR : Hid (r = false) := Lib.hid (by rw [HY.out]; simp [h0])
    clear HY
    go_enter Try.func27, Try.ntmps27
    go_wp2
    rw [← HW0.out]
    all_goals go_ret
    all_goals exact ⟨ret_bool HR.out.symm, HB0.out⟩
set_option maxRecDepth 100000 in
theorem specSameCpuA (A : Option Addr) (c : Nat) (d0 d1 d2 d3 : Int) (d4 d5 d6 d7 : Bool) (d8 : List Int) (B : Option Addr) (e : Nat) (g0 g1 g2 g3 : Int) (g4 g5 g6 g7 : Bool) (g8 : List Int) (w : World) (h : RepA w [.slice A d8.length c] [.I d8]) (_c : CapA [.slice A d8.length c]) (z : szA [.I d8] ≤ 1048576) (h' : RepA w [.slice B g8.length e] [.I g8]) (_c' : CapA [.slice B g8.length e]) (z' : szA [.I g8] ≤ 1048576) :
    Calls Try.prog 26 #[.agg #[.int .i64 d0, .int .i64 d1, .int .i64 d2, .int .i64 d3, .bool d4, .bool d5, .bool d6, .bool d7, .slice A d8.length c], .agg #[.int .i64 g0, .int .i64 g1, .int .i64 g2, .int .i64 g3, .bool g4, .bool g5, .bool g6, .bool g7, .slice B g8.length e]] w fun e w' => e = .returned (.bool (sameCp d0 d1 d2 d3 d4 d5 d6 d7 d8 g0 g1 g2 g3 g4 g5 g6 g7 g8)) ∧ Below w.heap.size w w' := by
  simp only [szA, Lf.sz] at z z'
  exact specSameCpu A B _ _ c e d0 d1 d2 d3 d4 d5 d6 d7 d8 g0 g1 g2 g3 g4 g5 g6 g7 g8 w rfl rfl (by unfold maxLen; omega) (by unfold maxLen; omega) (repI h.1) (repI h'.1)
set_option maxRecDepth 100000 in
theorem implSameCpuA (A : Option Addr) (c : Nat) (d0 d1 d2 d3 : Int) (d4 d5 d6 d7 : Bool) (d8 : List Int) (B : Option Addr) (e : Nat) (g0 g1 g2 g3 : Int) (g4 g5 g6 g7 : Bool) (g8 : List Int) (w : World) (h : RepA w [.slice A d8.length c] [.I d8]) (_c : CapA [.slice A d8.length c]) (z : szA [.I d8] ≤ 1048576) (h' : RepA w [.slice B g8.length e] [.I g8]) (_c' : CapA [.slice B g8.length e]) (z' : szA [.I g8] ≤ 1048576) :
    Calls Try.prog 27 #[.agg #[.int .i64 d0, .int .i64 d1, .int .i64 d2, .int .i64 d3, .bool d4, .bool d5, .bool d6, .bool d7, .slice A d8.length c], .agg #[.int .i64 g0, .int .i64 g1, .int .i64 g2, .int .i64 g3, .bool g4, .bool g5, .bool g6, .bool g7, .slice B g8.length e]] w fun e w' => e = .returned (.bool (sameCp d0 d1 d2 d3 d4 d5 d6 d7 d8 g0 g1 g2 g3 g4 g5 g6 g7 g8)) ∧ Below w.heap.size w w' := by
  simp only [szA, Lf.sz] at z z'
  exact implSameCpu A B _ _ c e d0 d1 d2 d3 d4 d5 d6 d7 d8 g0 g1 g2 g3 g4 g5 g6 g7 g8 w rfl rfl (by unfold maxLen; omega) (by unfold maxLen; omega) (repI h.1) (repI h'.1)
end Go.Proofs.Ytieljgoodmoacaa
