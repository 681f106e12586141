/- CpuOK, RegAt, NewCpu, SameCpu on both sides, on leaves. Written by gen_cpuok.py. -/
import Derived.Test.YtcchhbkbnbphhaaGreatDoorM7
import Derived.Test.YtcchhbkbnbphhaaGreatDoorM3
import Derived.Deep.RegionHeld3
namespace Go.Proofs.YtcchhbkbnbphhaaGreatDoor
open Go.RowKit

def okCpu (d0 d1 d2 d3 : Int) (d8 : List Int) : Bool := rngB d0 0 4095 && (rngB d1 0 255 && (rngB d2 0 3 && (rngB d3 0 7 && (decide (d8.length = 16) && d8.all byB))))
set_option maxRecDepth 100000 in
theorem isAddressR (n : Int) (w : World) : Calls Tryz.prog 45 #[.int .i64 n] w fun e w' => e = .returned (.bool (rngB n 0 4095)) ∧ w = w' := isAddress n w
set_option maxRecDepth 100000 in
theorem isByteR (n : Int) (w : World) : Calls Tryz.prog 46 #[.int .i64 n] w fun e w' => e = .returned (.bool (rngB n 0 255)) ∧ w = w' := isByte n w
set_option maxRecDepth 100000 in
theorem isLevelR (n : Int) (w : World) : Calls Tryz.prog 36 #[.int .i64 n] w fun e w' => e = .returned (.bool (rngB n 0 7)) ∧ w = w' := isLevel n w
set_option maxRecDepth 100000 in
theorem isLineR (n : Int) (w : World) : Calls Tryz.prog 35 #[.int .i64 n] w fun e w' => e = .returned (.bool (rngB n 0 7)) ∧ w = w' := isLine n w
set_option maxRecDepth 100000 in
theorem l05AtR (n : Int) (w : World) : Calls Tryz.prog 56 #[.int .i64 n] w fun e w' => e = .returned (.bool (rngB n 0 4095)) ∧ w = w' := l05At n w

set_option maxRecDepth 100000 in
set_option maxHeartbeats 4000000 in
theorem specCpuOK (A : Option Addr) (n c : Nat) (d0 d1 d2 d3 : Int) (d4 d5 d6 d7 : Bool) (d8 : List Int) (w : World) (l0 : d8.length = n) (m0 : n ≤ maxLen) (h0 : IntL w A d8) :
    Calls Tryz.prog 25 #[.agg #[.int .i64 d0, .int .i64 d1, .int .i64 d2, .int .i64 d3, .bool d4, .bool d5, .bool d6, .bool d7, .slice A n c]] w fun e w' => e = .returned (.bool (okCpu d0 d1 d2 d3 d8)) ∧ Below w.heap.size w w' := by
  have hb0 := alloc_below w (.cells #[.int .i64 d0, .int .i64 d1, .int .i64 d2, .int .i64 d3, .bool d4, .bool d5, .bool d6, .bool d7, .slice A n c] 25)
  have HB := Lib.hid (l05Bytes A n c d8 _ l0 m0 (h0.below hb0))
  have HY : Hid (okCpu d0 d1 d2 d3 d8 = (rngB d0 0 4095 && (rngB d1 0 255 && (rngB d2 0 3 && (rngB d3 0 7 && (decide (n = 16) && d8.all byB)))))) := Lib.hid (by unfold okCpu; rw [l0])
  generalize okCpu d0 d1 d2 d3 d8 = r at HY ⊢
  unfold maxLen at m0
  clear l0 h0
  by_cases h0 : rngB d0 0 4095 = true
  · skip
    by_cases h1 : rngB d1 0 255 = true
    · skip
      by_cases h2 : rngB d2 0 3 = true
      · skip
        by_cases h3 : rngB d3 0 7 = true
        · skip
          by_cases e4 : n = 16
          · have q4 : ((n : Int) == 16) = true := by simp; omega
            by_cases h5 : d8.all byB = true
            · skip
              have HR : Hid (r = true) := Lib.hid (by rw [HY.out]; simp [h0, h1, h2, h3, h5, e4])
              clear HY e4
              go_enter Tryz.func25, Tryz.ntmps25
              go_wp2_with (first | (go_at_call 56; refine (l05AtR _ _).mono ?_; rintro e w' ⟨rfl, rfl⟩; (first | rw [h0])) | (go_at_call 38; refine (l01InA _ _ _ _).mono ?_; rintro e w' ⟨rfl, rfl⟩; (first | rw [h1] | rw [h2] | rw [h3])))
              refine HB.out.mono ?_
              rintro e w' ⟨rfl, rfl⟩
              rw [h5]
              go_wp2
              all_goals go_ret
              all_goals exact ⟨ret_bool HR.out.symm, hb0⟩
            · have h5' : d8.all byB = false := by simpa using h5
              clear h5
              have HR : Hid (r = false) := Lib.hid (by rw [HY.out]; simp [h0, h1, h2, h3, h5', e4])
              clear HY e4
              go_enter Tryz.func25, Tryz.ntmps25
              go_wp2_with (first | (go_at_call 56; refine (l05AtR _ _).mono ?_; rintro e w' ⟨rfl, rfl⟩; (first | rw [h0])) | (go_at_call 38; refine (l01InA _ _ _ _).mono ?_; rintro e w' ⟨rfl, rfl⟩; (first | rw [h1] | rw [h2] | rw [h3])))
              refine HB.out.mono ?_
              rintro e w' ⟨rfl, rfl⟩
              rw [h5']
              go_wp2
              all_goals go_ret
              all_goals exact ⟨ret_bool HR.out.symm, hb0⟩
          · have q4 : ((n : Int) == 16) = false := by simp; omega
            have HR : Hid (r = false) := Lib.hid (by rw [HY.out]; simp [h0, h1, h2, h3, e4])
            clear HY e4
            go_enter Tryz.func25, Tryz.ntmps25
            go_wp2_with (first | (go_at_call 56; refine (l05AtR _ _).mono ?_; rintro e w' ⟨rfl, rfl⟩; (first | rw [h0])) | (go_at_call 38; refine (l01InA _ _ _ _).mono ?_; rintro e w' ⟨rfl, rfl⟩; (first | rw [h1] | rw [h2] | rw [h3])))
            all_goals go_ret
            all_goals exact ⟨ret_bool HR.out.symm, hb0⟩
        · have h3' : rngB d3 0 7 = false := by simpa using h3
          clear h3
          have HR : Hid (r = false) := Lib.hid (by rw [HY.out]; simp [h0, h1, h2, h3'])
          clear HY
          go_enter Tryz.func25, Tryz.ntmps25
          go_wp2_with (first | (go_at_call 56; refine (l05AtR _ _).mono ?_; rintro e w' ⟨rfl, rfl⟩; (first | rw [h0])) | (go_at_call 38; refine (l01InA _ _ _ _).mono ?_; rintro e w' ⟨rfl, rfl⟩; (first | rw [h1] | rw [h2] | rw [h3'])))
          all_goals go_ret
          all_goals exact ⟨ret_bool HR.out.symm, hb0⟩
      · have h2' : rngB d2 0 3 = false := by simpa using h2
        clear h2
        have HR : Hid (r = false) := Lib.hid (by rw [HY.out]; simp [h0, h1, h2'])
        clear HY
        go_enter Tryz.func25, Tryz.ntmps25
        go_wp2_with (first | (go_at_call 56; refine (l05AtR _ _).mono ?_; rintro e w' ⟨rfl, rfl⟩; (first | rw [h0])) | (go_at_call 38; refine (l01InA _ _ _ _).mono ?_; rintro e w' ⟨rfl, rfl⟩; (first | rw [h1] | rw [h2'])))
        all_goals go_ret
        all_goals exact ⟨ret_bool HR.out.symm, hb0⟩
    · have h1' : rngB d1 0 255 = false := by simpa using h1
      clear h1
      have HR : Hid (r = false) := Lib.hid (by rw [HY.out]; simp [h0, h1'])
      clear HY
      go_enter Tryz.func25, Tryz.ntmps25
      go_wp2_with (first | (go_at_call 56; refine (l05AtR _ _).mono ?_; rintro e w' ⟨rfl, rfl⟩; (first | rw [h0])) | (go_at_call 38; refine (l01InA _ _ _ _).mono ?_; rintro e w' ⟨rfl, rfl⟩; (first | rw [h1'])))
      all_goals go_ret
      all_goals exact ⟨ret_bool HR.out.symm, hb0⟩
  · have h0' : rngB d0 0 4095 = false := by simpa using h0
    clear h0
    have HR : Hid (r = false) := Lib.hid (by rw [HY.out]; simp [h0'])
    clear HY
    go_enter Tryz.func25, Tryz.ntmps25
    go_wp2_with (first | (go_at_call 56; refine (l05AtR _ _).mono ?_; rintro e w' ⟨rfl, rfl⟩; (first | rw [h0'])))
    all_goals go_ret
    all_goals exact ⟨ret_bool HR.out.symm, hb0⟩

set_option maxRecDepth 100000 in
set_option maxHeartbeats 4000000 in
theorem implValid (A : Option Addr) (n c : Nat) (d0 d1 d2 d3 : Int) (d4 d5 d6 d7 : Bool) (d8 : List Int) (w : World) (l0 : d8.length = n) (m0 : n ≤ maxLen) (h0 : IntL w A d8) :
    Calls Tryz.prog 20 #[.agg #[.int .i64 d0, .int .i64 d1, .int .i64 d2, .int .i64 d3, .bool d4, .bool d5, .bool d6, .bool d7, .slice A n c]] w fun e w' => e = .returned (.bool (okCpu d0 d1 d2 d3 d8)) ∧ Below w.heap.size w w' := by
  have hb0 := alloc_below w (.cells #[.int .i64 d0, .int .i64 d1, .int .i64 d2, .int .i64 d3, .bool d4, .bool d5, .bool d6, .bool d7, .slice A n c] 25)
  have HB := Lib.hid (allBytes A n c d8 _ l0 m0 (h0.below hb0))
  have HY : Hid (okCpu d0 d1 d2 d3 d8 = (rngB d0 0 4095 && (rngB d1 0 255 && (rngB d2 0 3 && (rngB d3 0 7 && (decide (n = 16) && d8.all byB)))))) := Lib.hid (by unfold okCpu; rw [l0])
  generalize okCpu d0 d1 d2 d3 d8 = r at HY ⊢
  unfold maxLen at m0
  clear l0 h0
  by_cases h0 : rngB d0 0 4095 = true
  · skip
    by_cases h1 : rngB d1 0 255 = true
    · skip
      by_cases h2 : rngB d2 0 3 = true
      · skip
        by_cases h3 : rngB d3 0 7 = true
        · skip
          by_cases e4 : n = 16
          · have q4 : ((n : Int) == 16) = true := by simp; omega
            by_cases h5 : d8.all byB = true
            · skip
              have HR : Hid (r = true) := Lib.hid (by rw [HY.out]; simp [h0, h1, h2, h3, h5, e4])
              clear HY e4
              go_enter Tryz.func20, Tryz.ntmps20
              go_wp2_with (first | (go_at_call 45; refine (isAddressR _ _).mono ?_; rintro e w' ⟨rfl, rfl⟩; (first | rw [h0])) | (go_at_call 46; refine (isByteR _ _).mono ?_; rintro e w' ⟨rfl, rfl⟩; (first | rw [h1])) | (go_at_call 32; refine (isUpToA _ _ _).mono ?_; rintro e w' ⟨rfl, rfl⟩; (first | rw [h2])) | (go_at_call 36; refine (isLevelR _ _).mono ?_; rintro e w' ⟨rfl, rfl⟩; (first | rw [h3])))
              refine HB.out.mono ?_
              rintro e w' ⟨rfl, rfl⟩
              rw [h5]
              go_wp2
              all_goals go_ret
              all_goals exact ⟨ret_bool HR.out.symm, hb0⟩
            · have h5' : d8.all byB = false := by simpa using h5
              clear h5
              have HR : Hid (r = false) := Lib.hid (by rw [HY.out]; simp [h0, h1, h2, h3, h5', e4])
              clear HY e4
              go_enter Tryz.func20, Tryz.ntmps20
              go_wp2_with (first | (go_at_call 45; refine (isAddressR _ _).mono ?_; rintro e w' ⟨rfl, rfl⟩; (first | rw [h0])) | (go_at_call 46; refine (isByteR _ _).mono ?_; rintro e w' ⟨rfl, rfl⟩; (first | rw [h1])) | (go_at_call 32; refine (isUpToA _ _ _).mono ?_; rintro e w' ⟨rfl, rfl⟩; (first | rw [h2])) | (go_at_call 36; refine (isLevelR _ _).mono ?_; rintro e w' ⟨rfl, rfl⟩; (first | rw [h3])))
              refine HB.out.mono ?_
              rintro e w' ⟨rfl, rfl⟩
              rw [h5']
              go_wp2
              all_goals go_ret
              all_goals exact ⟨ret_bool HR.out.symm, hb0⟩
          · have q4 : ((n : Int) == 16) = false := by simp; omega
            have HR : Hid (r = false) := Lib.hid (by rw [HY.out]; simp [h0, h1, h2, h3, e4])
            clear HY e4
            go_enter Tryz.func20, Tryz.ntmps20
            go_wp2_with (first | (go_at_call 45; refine (isAddressR _ _).mono ?_; rintro e w' ⟨rfl, rfl⟩; (first | rw [h0])) | (go_at_call 46; refine (isByteR _ _).mono ?_; rintro e w' ⟨rfl, rfl⟩; (first | rw [h1])) | (go_at_call 32; refine (isUpToA _ _ _).mono ?_; rintro e w' ⟨rfl, rfl⟩; (first | rw [h2])) | (go_at_call 36; refine (isLevelR _ _).mono ?_; rintro e w' ⟨rfl, rfl⟩; (first | rw [h3])))
            all_goals go_ret
            all_goals exact ⟨ret_bool HR.out.symm, hb0⟩
        · have h3' : rngB d3 0 7 = false := by simpa using h3
          clear h3
          have HR : Hid (r = false) := Lib.hid (by rw [HY.out]; simp [h0, h1, h2, h3'])
          clear HY
          go_enter Tryz.func20, Tryz.ntmps20
          go_wp2_with (first | (go_at_call 45; refine (isAddressR _ _).mono ?_; rintro e w' ⟨rfl, rfl⟩; (first | rw [h0])) | (go_at_call 46; refine (isByteR _ _).mono ?_; rintro e w' ⟨rfl, rfl⟩; (first | rw [h1])) | (go_at_call 32; refine (isUpToA _ _ _).mono ?_; rintro e w' ⟨rfl, rfl⟩; (first | rw [h2])) | (go_at_call 36; refine (isLevelR _ _).mono ?_; rintro e w' ⟨rfl, rfl⟩; (first | rw [h3'])))
          all_goals go_ret
          all_goals exact ⟨ret_bool HR.out.symm, hb0⟩
      · have h2' : rngB d2 0 3 = false := by simpa using h2
        clear h2
        have HR : Hid (r = false) := Lib.hid (by rw [HY.out]; simp [h0, h1, h2'])
        clear HY
        go_enter Tryz.func20, Tryz.ntmps20
        go_wp2_with (first | (go_at_call 45; refine (isAddressR _ _).mono ?_; rintro e w' ⟨rfl, rfl⟩; (first | rw [h0])) | (go_at_call 46; refine (isByteR _ _).mono ?_; rintro e w' ⟨rfl, rfl⟩; (first | rw [h1])) | (go_at_call 32; refine (isUpToA _ _ _).mono ?_; rintro e w' ⟨rfl, rfl⟩; (first | rw [h2'])))
        all_goals go_ret
        all_goals exact ⟨ret_bool HR.out.symm, hb0⟩
    · have h1' : rngB d1 0 255 = false := by simpa using h1
      clear h1
      have HR : Hid (r = false) := Lib.hid (by rw [HY.out]; simp [h0, h1'])
      clear HY
      go_enter Tryz.func20, Tryz.ntmps20
      go_wp2_with (first | (go_at_call 45; refine (isAddressR _ _).mono ?_; rintro e w' ⟨rfl, rfl⟩; (first | rw [h0])) | (go_at_call 46; refine (isByteR _ _).mono ?_; rintro e w' ⟨rfl, rfl⟩; (first | rw [h1'])))
      all_goals go_ret
      all_goals exact ⟨ret_bool HR.out.symm, hb0⟩
  · have h0' : rngB d0 0 4095 = false := by simpa using h0
    clear h0
    have HR : Hid (r = false) := Lib.hid (by rw [HY.out]; simp [h0'])
    clear HY
    go_enter Tryz.func20, Tryz.ntmps20
    go_wp2_with (first | (go_at_call 45; refine (isAddressR _ _).mono ?_; rintro e w' ⟨rfl, rfl⟩; (first | rw [h0'])))
    all_goals go_ret
    all_goals exact ⟨ret_bool HR.out.symm, hb0⟩

set_option maxRecDepth 100000 in
theorem cpuPlace (A : Option Addr) (c : Nat) (d : CD) (w : World) (k : Int) (hb : 0 ≤ d.bank ∧ d.bank ≤ 3) (h0 : 0 ≤ k) (h1 : k ≤ 3) :
    Calls Tryz.prog 33 #[.agg #[.int .i64 d.pc, .int .i64 d.sp, .int .i64 d.bank, .int .i64 d.level, .bool d.zero, .bool d.carry, .bool d.on, .bool d.halt, .slice A 16 c], .int .i64 k] w fun e w' => e = .returned (.int .i64 (4 * d.bank + k)) ∧ Below w.heap.size w w' := by
  obtain ⟨W1, hW1⟩ : ∃ W1, W1 = (w.alloc (.cells #[.int .i64 d.pc, .int .i64 d.sp, .int .i64 d.bank, .int .i64 d.level, .bool d.zero, .bool d.carry, .bool d.on, .bool d.halt, .slice A 16 c] 25)) := ⟨_, rfl⟩
  have hb0 : Below w.heap.size w W1 := by rw [hW1]; exact ((Below.refl _ _).alloc (Nat.le_refl _) _)
  have Z2 : Hid (W1.heap.size = w.heap.size + 1) := Lib.hid (by rw [hW1]; simp)
  have X3 : Hid (Box W1 (w.heap.size) 25 #[.int .i64 d.pc, .int .i64 d.sp, .int .i64 d.bank, .int .i64 d.level, .bool d.zero, .bool d.carry, .bool d.on, .bool d.halt, .slice A 16 c]) := Lib.hid (by rw [hW1]; exact (Box.new w 25 #[.int .i64 d.pc, .int .i64 d.sp, .int .i64 d.bank, .int .i64 d.level, .bool d.zero, .bool d.carry, .bool d.on, .bool d.halt, .slice A 16 c]))
  have HW0 := Lib.hid hW1
  clear hW1
  have f4 := X3.out.cell 0 rfl
  have f5 := X3.out.cell 1 rfl
  have f6 := X3.out.cell 2 rfl
  have f7 := X3.out.cell 3 rfl
  have f8 := X3.out.cell 4 rfl
  have f9 := X3.out.cell 5 rfl
  have f10 := X3.out.cell 6 rfl
  have f11 := X3.out.cell 7 rfl
  have f12 := X3.out.cell 8 rfl
  rw [HW0.out] at f4 f5 f6 f7 f8 f9 f10 f11 f12
  have HB := Lib.hid hb0
  rw [HW0.out] at HB
  clear hb0
  obtain ⟨q1, q2⟩ := hb
  go_enter Tryz.func33, Tryz.ntmps33
  go_wp2
  go_ret
  exact ⟨rfl, HB.out⟩

theorem rngB_says {n lo hi : Int} (h : rngB n lo hi = true) : lo ≤ n ∧ n ≤ hi := by simpa [rngB] using h

end Go.Proofs.YtcchhbkbnbphhaaGreatDoor
