/- CpuOK, RegAt, NewCpu, SameCpu on both sides, on leaves. Written by gen_cpuok.py. -/
import Derived.Test.YtcchhbkbnbphhaaGreatDoorM7
import Derived.Test.YtcchhbkbnbphhaaGreatDoorM4
import Derived.Deep.RegionHeld3
namespace Go.Proofs.YtcchhbkbnbphhaaGreatDoor
open Go.RowKit

def okCpu (d0 d1 d2 d3 : Int) (d8 : List Int) : Bool := rngB d0 0 4095 && (rngB d1 0 255 && (rngB d2 0 3 && (rngB d3 0 7 && (decide (d8.length = 16) && d8.all byB))))
set_option maxRecDepth 100000 in
theorem isAddressR (n : Int) (w : World) : Calls Tryz.prog 45 #[.int .i64 n] w fun e w' => e = .returned (.bool (rngB n 0 4095)) ∧ w = w' := isAddress n w
set_option maxRecDepth 100000 in
theorem isByteR (n : Int) (w : World) : Calls Tryz.prog 46 #[.int .i64 n] w fun e w' => e = .returned (.bool (rngB n 0 255)) ∧ w = w' := isByte n w
set_option maxRecDepth 100000 in
theorem isLevelR (n : Int) (w : World) : Calls Tryz.prog 36 #[.int .i64 n] w fun e w' => e = .returned (.bool (rngB n 0 7)) ∧ w = w' := isLevel n w
set_option maxRecDepth 100000 in
theorem l05AtR (n : Int) (w : World) : Calls Tryz.prog 56 #[.int .i64 n] w fun e w' => e = .returned (.bool (rngB n 0 4095)) ∧ w = w' := l05At n w

set_option maxRecDepth 100000 in
set_option maxHeartbeats 4000000 in
theorem specCpuOK (A : Option Addr) (n c : Nat) (d0 d1 d2 d3 : Int) (d4 d5 d6 d7 : Bool) (d8 : List Int) (w : World) (l0 : d8.length = n) (m0 : n ≤ maxLen) (h0 : IntL w A d8) :
    Calls Tryz.prog 25 #[.agg #[.int .i64 d0, .int .i64 d1, .int .i64 d2, .int .i64 d3, .bool d4, .bool d5, .bool d6, .bool d7, .slice A n c]] w fun e w' => e = .returned (.bool (okCpu d0 d1 d2 d3 d8)) ∧ Below w.heap.size w w' := by
  have hb0 := alloc_below w (.cells #[.int .i64 d0, .int .i64 d1, .int .i64 d2, .int .i64 d3, .bool d4, .bool d5, .bool d6, .bool d7, .slice A n c] 25)
  have HB := Lib.hid (l05Bytes A n c d8 _ l0 m0 (h0.below hb0))
  have HY : Hid (okCpu d0 d1 d2 d3 d8 = (rngB d0 0 4095 && (rngB d1 0 255 && (rngB d2 0 3 && (rngB d3 0 7 && (decide (n = 16) && d8.all byB)))))) := Lib.hid (by unfold okCpu; rw [l0])
  generalize okCpu d0 d1 d2 d3 d8 = r at HY ⊢
  unfold maxLen at m0
  clear l0 h0
  by_cases h0 : rngB d0 0 4095 = true
  · skip
    by_cases h1 : rngB d1 0 255 = true
    · skip
      by_cases h2 : rngB d2 0 3 = true
      · skip
        by_cases h3 : rngB d3 0 7 = true
        · skip
          by_cases e4 : n = 16
          · have q4 : ((n : Int) == 16) = true := by simp; omega
            by_cases h5 : d8.all byB = true
            · skip
              have HR : Hid (r = true) := Lib.hid (by rw [HY.out]; simp [h0, h1, h2, h3, h5, e4])
              clear HY e4
              go_enter Tryz.func25, Tryz.ntmps25
              go_wp2_with (first | (go_at_call 56; refine (l05AtR _ _).mono ?_; rintro e w' ⟨rfl, rfl⟩; (first | rw [h0])) | (go_at_call 38; refine (l01InA _ _ _ _).mono ?_; rintro e w' ⟨rfl, rfl⟩; (first | rw [h1] | rw [h2] | rw [h3])))
              refine HB.out.mono ?_
              rintro e w' ⟨rfl, rfl⟩
              rw [h5]
              go_wp2
              all_goals go_ret
              all_goals exact ⟨ret_bool HR.out.symm, hb0⟩
            · have h5' : d8.all byB = false := by simpa using h5
              clear h5
              have HR : Hid (r = false) := Lib.hid (by rw [HY.out]; simp [h0, h1, h2, h3, h5', e4])
              clear HY e4
              go_enter Tryz.func25, Tryz.ntmps25
              go_wp2_with (first | (go_at_call 56; refine (l05AtR _ _).mono ?_; rintro e w' ⟨rfl, rfl⟩; (first | rw [h0])) | (go_at_call 38; refine (l01InA _ _ _ _).mono ?_; rintro e w' ⟨rfl, rfl⟩; (first | rw [h1] | rw [h2] | rw [h3])))
              refine HB.out.mono ?_
              rintro e w' ⟨rfl, rfl⟩
              rw [h5']
              go_wp2
              all_goals go_ret
              all_goals exact ⟨ret_bool HR.out.symm, hb0⟩
          · have q4 : ((n : Int) == 16) = false := by simp; omega
            have HR : Hid (r = false) := Lib.hid (by rw [HY.out]; simp [h0, h1, h2, h3, e4])
            clear HY e4
            go_enter Tryz.func25, Tryz.ntmps25
            go_wp2_with (first | (go_at_call 56; refine (l05AtR _ _).mono ?_; rintro e w' ⟨rfl, rfl⟩; (first | rw [h0])) | (go_at_call 38; refine (l01InA _ _ _ _).mono ?_; rintro e w' ⟨rfl, rfl⟩; (first | rw [h1] | rw [h2] | rw [h3])))
            all_goals go_ret
            all_goals exact ⟨ret_bool HR.out.symm, hb0⟩
        · have h3' : rngB d3 0 7 = false := by simpa using h3
          clear h3
          have HR : Hid (r = false) := Lib.hid (by rw [HY.out]; simp [h0, h1, h2, h3'])
          clear HY
          go_enter Tryz.func25, Tryz.ntmps25
          go_wp2_with (first | (go_at_call 56; refine (l05AtR _ _).mono ?_; rintro e w' ⟨rfl, rfl⟩; (first | rw [h0])) | (go_at_call 38; refine (l01InA _ _ _ _).mono ?_; rintro e w' ⟨rfl, rfl⟩; (first | rw [h1] | rw [h2] | rw [h3'])))
          all_goals go_ret
          all_goals exact ⟨ret_bool HR.out.symm, hb0⟩
      · have h2' : rngB d2 0 3 = false := by simpa using h2
        clear h2
        have HR : Hid (r = false) := Lib.hid (by rw [HY.out]; simp [h0, h1, h2'])
        clear HY
        go_enter Tryz.func25, Tryz.ntmps25
        go_wp2_with (first | (go_at_call 56; refine (l05AtR _ _).mono ?_; rintro e w' ⟨rfl, rfl⟩; (first | rw [h0])) | (go_at_call 38; refine (l01InA _ _ _ _).mono ?_; rintro e w' ⟨rfl, rfl⟩; (first | rw [h1] | rw [h2'])))
        all_goals go_ret
        all_goals exact ⟨ret_bool HR.out.symm, hb0⟩
    · have h1' : rngB d1 0 255 = false := by simpa using h1
      clear h1
      have HR : Hid (r = false) := Lib.hid (by rw [HY.out]; simp [h0, h1'])
      clear HY
      go_enter Tryz.func25, Tryz.ntmps25
      go_wp2_with (first | (go_at_call 56; refine (l05AtR _ _).mono ?_; rintro e w' ⟨rfl, rfl⟩; (first | rw [h0])) | (go_at_call 38; refine (l01InA _ _ _ _).mono ?_; rintro e w' ⟨rfl, rfl⟩; (first | rw [h1'])))
      all_goals go_ret
      all_goals exact ⟨ret_bool HR.out.symm, hb0⟩
  · have h0' : rngB d0 0 4095 = false := by simpa using h0
    clear h0
    have HR : Hid (r = false) := Lib.hid (by rw [HY.out]; simp [h0'])
    clear HY
    go_enter Tryz.func25, Tryz.ntmps25
    go_wp2_with (first | (go_at_call 56; refine (l05AtR _ _).mono ?_; rintro e w' ⟨rfl, rfl⟩; (first | rw [h0'])))
    all_goals go_ret
    all_goals exact ⟨ret_bool HR.out.symm, hb0⟩

set_option maxRecDepth 100000 in
set_option maxHeartbeats 4000000 in
theorem implValid (A : Option Addr) (n c : Nat) (d0 d1 d2 d3 : Int) (d4 d5 d6 d7 : Bool) (d8 : List Int) (w : World) (l0 : d8.length = n) (m0 : n ≤ maxLen) (h0 : IntL w A d8) :
    Calls Tryz.prog 20 #[.agg #[.int .i64 d0, .int .i64 d1, .int .i64 d2, .int .i64 d3, .bool d4, .bool d5, .bool d6, .bool d7, .slice A n c]] w fun e w' => e = .returned (.bool (okCpu d0 d1 d2 d3 d8)) ∧ Below w.heap.size w w' := by
  have hb0 := alloc_below w (.cells #[.int .i64 d0, .int .i64 d1, .int .i64 d2, .int .i64 d3, .bool d4, .bool d5, .bool d6, .bool d7, .slice A n c] 25)
  have HB := Lib.hid (allBytes A n c d8 _ l0 m0 (h0.below hb0))
  have HY : Hid (okCpu d0 d1 d2 d3 d8 = (rngB d0 0 4095 && (rngB d1 0 255 && (rngB d2 0 3 && (rngB d3 0 7 && (decide (n = 16) && d8.all byB)))))) := Lib.hid (by unfold okCpu; rw [l0])
  generalize okCpu d0 d1 d2 d3 d8 = r at HY ⊢
  unfold maxLen at m0
  clear l0 h0
  by_cases h0 : rngB d0 0 4095 = true
  · skip
    by_cases h1 : rngB d1 0 255 = true
    · skip
      by_cases h2 : rngB d2 0 3 = true
      · skip
        by_cases h3 : rngB d3 0 7 = true
        · skip
          by_cases e4 : n = 16
          · have q4 : ((n : Int) == 16) = true := by simp; omega
            by_cases h5 : d8.all byB = true
            · skip
              have HR : Hid (r = true) := Lib.hid (by rw [HY.out]; simp [h0, h1, h2, h3, h5, e4])
              clear HY e4
              go_enter Tryz.func20, Tryz.ntmps20
              go_wp2_with (first | (go_at_call 45; refine (isAddressR _ _).mono ?_; rintro e w' ⟨rfl, rfl⟩; (first | rw [h0])) | (go_at_call 46; refine (isByteR _ _).mono ?_; rintro e w' ⟨rfl, rfl⟩; (first | rw [h1])) | (go_at_call 32; refine (isUpToA _ _ _).mono ?_; rintro e w' ⟨rfl, rfl⟩; (first | rw [h2])) | (go_at_call 36; refine (isLevelR _ _).mono ?_; rintro e w' ⟨rfl, rfl⟩; (first | rw [h3])))
              refine HB.out.mono ?_
              rintro e w' ⟨rfl, rfl⟩
              rw [h5]
              go_wp2
              all_goals go_ret
              all_goals exact ⟨ret_bool HR.out.symm, hb0⟩
            · have h5' : d8.all byB = false := by simpa using h5
              clear h5
              have HR : Hid (r = false) := Lib.hid (by rw [HY.out]; simp [h0, h1, h2, h3, h5', e4])
              clear HY e4
              go_enter Tryz.func20, Tryz.ntmps20
              go_wp2_with (first | (go_at_call 45; refine (isAddressR _ _).mono ?_; rintro e w' ⟨rfl, rfl⟩; (first | rw [h0])) | (go_at_call 46; refine (isByteR _ _).mono ?_; rintro e w' ⟨rfl, rfl⟩; (first | rw [h1])) | (go_at_call 32; refine (isUpToA _ _ _).mono ?_; rintro e w' ⟨rfl, rfl⟩; (first | rw [h2])) | (go_at_call 36; refine (isLevelR _ _).mono ?_; rintro e w' ⟨rfl, rfl⟩; (first | rw [h3])))
              refine HB.out.mono ?_
              rintro e w' ⟨rfl, rfl⟩
              rw [h5']
              go_wp2
              all_goals go_ret
              all_goals exact ⟨ret_bool HR.out.symm, hb0⟩
          · have q4 : ((n : Int) == 16) = false := by simp; omega
            have HR : Hid (r = false) := Lib.hid (by rw [HY.out]; simp [h0, h1, h2, h3, e4])
            clear HY e4
            go_enter Tryz.func20, Tryz.ntmps20
            go_wp2_with (first | (go_at_call 45; refine (isAddressR _ _).mono ?_; rintro e w' ⟨rfl, rfl⟩; (first | rw [h0])) | (go_at_call 46; refine (isByteR _ _).mono ?_; rintro e w' ⟨rfl, rfl⟩; (first | rw [h1])) | (go_at_call 32; refine (isUpToA _ _ _).mono ?_; rintro e w' ⟨rfl, rfl⟩; (first | rw [h2])) | (go_at_call 36; refine (isLevelR _ _).mono ?_; rintro e w' ⟨rfl, rfl⟩; (first | rw [h3])))
            all_goals go_ret
            all_goals exact ⟨ret_bool HR.out.symm, hb0⟩
        · have h3' : rngB d3 0 7 = false := by simpa using h3
          clear h3
          have HR : Hid (r = false) := Lib.hid (by rw [HY.out]; simp [h0, h1, h2, h3'])
          clear HY
          go_enter Tryz.func20, Tryz.ntmps20
          go_wp2_with (first | (go_at_call 45; refine (isAddressR _ _).mono ?_; rintro e w' ⟨rfl, rfl⟩; (first | rw [h0])) | (go_at_call 46; refine (isByteR _ _).mono ?_; rintro e w' ⟨rfl, rfl⟩; (first | rw [h1])) | (go_at_call 32; refine (isUpToA _ _ _).mono ?_; rintro e w' ⟨rfl, rfl⟩; (first | rw [h2])) | (go_at_call 36; refine (isLevelR _ _).mono ?_; rintro e w' ⟨rfl, rfl⟩; (first | rw [h3'])))
          all_goals go_ret
          all_goals exact ⟨ret_bool HR.out.symm, hb0⟩
      · have h2' : rngB d2 0 3 = false := by simpa using h2
        clear h2
        have HR : Hid (r = false) := Lib.hid (by rw [HY.out]; simp [h0, h1, h2'])
        clear HY
        go_enter Tryz.func20, Tryz.ntmps20
        go_wp2_with (first | (go_at_call 45; refine (isAddressR _ _).mono ?_; rintro e w' ⟨rfl, rfl⟩; (first | rw [h0])) | (go_at_call 46; refine (isByteR _ _).mono ?_; rintro e w' ⟨rfl, rfl⟩; (first | rw [h1])) | (go_at_call 32; refine (isUpToA _ _ _).mono ?_; rintro e w' ⟨rfl, rfl⟩; (first | rw [h2'])))
        all_goals go_ret
        all_goals exact ⟨ret_bool HR.out.symm, hb0⟩
    · have h1' : rngB d1 0 255 = false := by simpa using h1
      clear h1
      have HR : Hid (r = false) := Lib.hid (by rw [HY.out]; simp [h0, h1'])
      clear HY
      go_enter Tryz.func20, Tryz.ntmps20
      go_wp2_with (first | (go_at_call 45; refine (isAddressR _ _).mono ?_; rintro e w' ⟨rfl, rfl⟩; (first | rw [h0])) | (go_at_call 46; refine (isByteR _ _).mono ?_; rintro e w' ⟨rfl, rfl⟩; (first | rw [h1'])))
      all_goals go_ret
      all_goals exact ⟨ret_bool HR.out.symm, hb0⟩
  · have h0' : rngB d0 0 4095 = false := by simpa using h0
    clear h0
    have HR : Hid (r = false) := Lib.hid (by rw [HY.out]; simp [h0'])
    clear HY
    go_enter Tryz.func20, Tryz.ntmps20
    go_wp2_with (first | (go_at_call 45; refine (isAddressR _ _).mono ?_; rintro e w' ⟨rfl, rfl⟩; (first | rw [h0'])))
    all_goals go_ret
    all_goals exact ⟨ret_bool HR.out.symm, hb0⟩

set_option maxRecDepth 100000 in
theorem implCpuOK (A : Option Addr) (n c : Nat) (d0 d1 d2 d3 : Int) (d4 d5 d6 d7 : Bool) (d8 : List Int) (w : World) (l0 : d8.length = n) (m0 : n ≤ maxLen) (h0 : IntL w A d8) :
    Calls Tryz.prog 11 #[.agg #[.int .i64 d0, .int .i64 d1, .int .i64 d2, .int .i64 d3, .bool d4, .bool d5, .bool d6, .bool d7, .slice A n c]] w fun e w' => e = .returned (.bool (okCpu d0 d1 d2 d3 d8)) ∧ Below w.heap.size w w' := by
  have hb0 := alloc_below w (.cells #[.int .i64 d0, .int .i64 d1, .int .i64 d2, .int .i64 d3, .bool d4, .bool d5, .bool d6, .bool d7, .slice A n c] 25)
  have HV := Lib.hid (implValid A n c d0 d1 d2 d3 d4 d5 d6 d7 d8 _ l0 m0 (h0.below hb0))
  clear l0 m0 h0
  go_enter Tryz.func11, Tryz.ntmps11
  go_wp2_with fail
  refine HV.out.mono ?_
  rintro e w1 ⟨rfl, hb1⟩
  go_wp2
  go_ret
  exact ⟨rfl, bt hb0 hb1⟩

set_option maxRecDepth 100000 in
theorem cpuPlace (A : Option Addr) (c : Nat) (d : CD) (w : World) (k : Int) (hb : 0 ≤ d.bank ∧ d.bank ≤ 3) (h0 : 0 ≤ k) (h1 : k ≤ 3) :
    Calls Tryz.prog 33 #[.agg #[.int .i64 d.pc, .int .i64 d.sp, .int .i64 d.bank, .int .i64 d.level, .bool d.zero, .bool d.carry, .bool d.on, .bool d.halt, .slice A 16 c], .int .i64 k] w fun e w' => e = .returned (.int .i64 (4 * d.bank + k)) ∧ Below w.heap.size w w' := by
  obtain ⟨W1, hW1⟩ : ∃ W1, W1 = (w.alloc (.cells #[.int .i64 d.pc, .int .i64 d.sp, .int .i64 d.bank, .int .i64 d.level, .bool d.zero, .bool d.carry, .bool d.on, .bool d.halt, .slice A 16 c] 25)) := ⟨_, rfl⟩
  have hb0 : Below w.heap.size w W1 := by rw [hW1]; exact ((Below.refl _ _).alloc (Nat.le_refl _) _)
  have Z2 : Hid (W1.heap.size = w.heap.size + 1) := Lib.hid (by rw [hW1]; simp)
  have X3 : Hid (Box W1 (w.heap.size) 25 #[.int .i64 d.pc, .int .i64 d.sp, .int .i64 d.bank, .int .i64 d.level, .bool d.zero, .bool d.carry, .bool d.on, .bool d.halt, .slice A 16 c]) := Lib.hid (by rw [hW1]; exact (Box.new w 25 #[.int .i64 d.pc, .int .i64 d.sp, .int .i64 d.bank, .int .i64 d.level, .bool d.zero, .bool d.carry, .bool d.on, .bool d.halt, .slice A 16 c]))
  have HW0 := Lib.hid hW1
  clear hW1
  have f4 := X3.out.cell 0 rfl
  have f5 := X3.out.cell 1 rfl
  have f6 := X3.out.cell 2 rfl
  have f7 := X3.out.cell 3 rfl
  have f8 := X3.out.cell 4 rfl
  have f9 := X3.out.cell 5 rfl
  have f10 := X3.out.cell 6 rfl
  have f11 := X3.out.cell 7 rfl
  have f12 := X3.out.cell 8 rfl
  rw [HW0.out] at f4 f5 f6 f7 f8 f9 f10 f11 f12
  have HB := Lib.hid hb0
  rw [HW0.out] at HB
  clear hb0
  obtain ⟨q1, q2⟩ := hb
  go_enter Tryz.func33, Tryz.ntmps33
  go_wp2
  go_ret
  exact ⟨rfl, HB.out⟩

def regF (d0 d1 d2 d3 : Int) (d8 : List Int) (k : Int) : Int × Int := if okCpu d0 d1 d2 d3 d8 then (if rngB k 0 3 then (d8.getD (4 * d2 + k).toNat 0, 0) else (0, 4)) else (0, 1)
theorem okCpu_ok {d0 d1 d2 d3 : Int} {d8 : List Int} (h : okCpu d0 d1 d2 d3 d8 = true) (d4 d5 d6 d7 : Bool) : (⟨d0, d1, d2, d3, d4, d5, d6, d7, d8⟩ : CD).Ok := CD.ok_iff.1 h
theorem rngB_says {n lo hi : Int} (h : rngB n lo hi = true) : lo ≤ n ∧ n ≤ hi := by simpa [rngB] using h

set_option maxRecDepth 100000 in
set_option maxHeartbeats 2000000 in
theorem l08RegL0 (A : Option Addr) (c : Nat) (d0 d1 d2 d3 : Int) (d4 d5 d6 d7 : Bool) (w : World) (k : Int) (j : Nat) (x : Int) (hj : 4 * d2 + k = j) (hl : j < 16) (h20 : 0 ≤ d2) (h21 : d2 ≤ 3) (hk0 : 0 ≤ k) (hk1 : k ≤ 3) (h : ∀ W, Below w.heap.size w W → ∃ b off, A = some ⟨b, off, none⟩ ∧ W.cell? ⟨b, off + j, none⟩ = some (.int .i64 x)) :
    Calls Tryz.prog 67 #[.agg #[.int .i64 d0, .int .i64 d1, .int .i64 d2, .int .i64 d3, .bool d4, .bool d5, .bool d6, .bool d7, .slice A 16 c], .int .i64 k] w fun e w' => e = .returned (.int .i64 x) ∧ Below w.heap.size w w' := by
  obtain ⟨W1, hW1⟩ : ∃ W1, W1 = (w.alloc (.cells #[.int .i64 d0, .int .i64 d1, .int .i64 d2, .int .i64 d3, .bool d4, .bool d5, .bool d6, .bool d7, .slice A 16 c] 25)) := ⟨_, rfl⟩
  have hb0 : Below w.heap.size w W1 := by rw [hW1]; exact ((Below.refl _ _).alloc (Nat.le_refl _) _)
  have Z2 : Hid (W1.heap.size = w.heap.size + 1) := Lib.hid (by rw [hW1]; simp)
  have X3 : Hid (Box W1 (w.heap.size) 25 #[.int .i64 d0, .int .i64 d1, .int .i64 d2, .int .i64 d3, .bool d4, .bool d5, .bool d6, .bool d7, .slice A 16 c]) := Lib.hid (by rw [hW1]; exact (Box.new w 25 #[.int .i64 d0, .int .i64 d1, .int .i64 d2, .int .i64 d3, .bool d4, .bool d5, .bool d6, .bool d7, .slice A 16 c]))
  have HW0 := Lib.hid hW1
  clear hW1
  have f4 := X3.out.cell 0 rfl
  have f5 := X3.out.cell 1 rfl
  have f6 := X3.out.cell 2 rfl
  have f7 := X3.out.cell 3 rfl
  have f8 := X3.out.cell 4 rfl
  have f9 := X3.out.cell 5 rfl
  have f10 := X3.out.cell 6 rfl
  have f11 := X3.out.cell 7 rfl
  have f12 := X3.out.cell 8 rfl
  rw [HW0.out] at f4 f5 f6 f7 f8 f9 f10 f11 f12
  obtain ⟨bb, off, rfl, hc⟩ := h _ hb0
  rw [HW0.out] at hc
  have HB := Lib.hid hb0
  rw [HW0.out] at HB
  clear hb0 h
  have hjj : (j : Int) < 16 := by omega
  go_enter Tryz.func67, Tryz.ntmps67
  go_wp2
  go_ret
  exact ⟨rfl, HB.out⟩

set_option maxRecDepth 100000 in
set_option maxHeartbeats 4000000 in
theorem implRegAt (A : Option Addr) (n c : Nat) (d0 d1 d2 d3 : Int) (d4 d5 d6 d7 : Bool) (d8 : List Int) (k : Int) (w : World) (l0 : d8.length = n) (m0 : n ≤ maxLen) (h0 : IntL w A d8) :
    Calls Tryz.prog 12 #[.agg #[.int .i64 d0, .int .i64 d1, .int .i64 d2, .int .i64 d3, .bool d4, .bool d5, .bool d6, .bool d7, .slice A n c], .int .i64 k] w fun e w' => e = .returned (.tuple #[.int .i64 (regF d0 d1 d2 d3 d8 k).1, .int .i64 (regF d0 d1 d2 d3 d8 k).2]) ∧ Below w.heap.size w w' := by
  have hb0 := alloc_below w (.cells #[.int .i64 d0, .int .i64 d1, .int .i64 d2, .int .i64 d3, .bool d4, .bool d5, .bool d6, .bool d7, .slice A n c] 25)
  have X0 := Lib.hid (Box.new w 25 #[.int .i64 d0, .int .i64 d1, .int .i64 d2, .int .i64 d3, .bool d4, .bool d5, .bool d6, .bool d7, .slice A n c])
  have HV := Lib.hid (implValid A n c d0 d1 d2 d3 d4 d5 d6 d7 d8 _ l0 m0 (h0.below hb0))
  have HR : Hid (regF d0 d1 d2 d3 d8 k = if okCpu d0 d1 d2 d3 d8 then (if rngB k 0 3 then (d8.getD (4 * d2 + k).toNat 0, 0) else (0, 4)) else (0, 1)) := Lib.hid rfl
  generalize regF d0 d1 d2 d3 d8 k = r at HR ⊢
  have HOk : Hid (okCpu d0 d1 d2 d3 d8 = true → (⟨d0, d1, d2, d3, d4, d5, d6, d7, d8⟩ : CD).Ok) := Lib.hid (fun h => okCpu_ok h d4 d5 d6 d7)
  have H := Lib.hid (And.intro l0 h0)
  generalize okCpu d0 d1 d2 d3 d8 = ok at HV HR HOk
  clear l0 m0 h0
  cases ok
  · have HZ : Hid (r = (0, 1)) := Lib.hid (by rw [HR.out]; rfl)
    clear HR HOk
    go_enter Tryz.func12, Tryz.ntmps12
    go_wp2_with fail
    refine HV.out.mono ?_
    rintro e w1 ⟨rfl, hb1⟩
    go_wp2
    refine bodyPost_ret (v := .tuple #[.int .i64 0, .int .i64 1]) (by simp [results, Tryz.results12, go_sem]) rfl ?_
    exact ⟨by rw [HZ.out], bt hb0 hb1⟩
  · have hok := HOk.out rfl
    obtain rfl : n = 16 := H.out.1.symm.trans hok.len
    by_cases hk : rngB k 0 3 = true
    · have HZ : Hid (r = (d8.getD (4 * d2 + k).toNat 0, 0)) := Lib.hid (by rw [HR.out, hk]; rfl)
      obtain ⟨k0, k1⟩ := rngB_says hk
      have hbk := hok.bank
      obtain ⟨b0, b1⟩ := hbk
      simp only at b0 b1
      obtain ⟨j, hj⟩ : ∃ j : Nat, 4 * d2 + k = j := ⟨(4 * d2 + k).toNat, by omega⟩
      have HRd : Hid (∀ W, Below w.heap.size w W → ∃ b off, A = some ⟨b, off, none⟩ ∧ W.cell? ⟨b, off + j, none⟩ = some (.int .i64 (d8.getD j 0))) := Lib.hid (fun W hb => (H.out.2.below hb) j (by have q : d8.length = 16 := hok.len; omega))
      have hj16 : (j : Int) < 16 := by omega
      rw [show (4 * d2 + k).toNat = j from by omega] at HZ
      generalize d8.getD j 0 = x at HZ HRd
      clear HR HOk
      have HPl := Lib.hid (fun W => cpuPlace A c ⟨d0, d1, d2, d3, d4, d5, d6, d7, d8⟩ W k ⟨b0, b1⟩ k0 k1)
      simp only [hj] at HPl
      go_enter Tryz.func12, Tryz.ntmps12
      go_wp2_with fail
      refine HV.out.mono ?_
      rintro e w1 ⟨rfl, hb1⟩
      have x0 := (X0.out.step hb1).cell 0 rfl
      have x1 := (X0.out.step hb1).cell 1 rfl
      have x2 := (X0.out.step hb1).cell 2 rfl
      have x3 := (X0.out.step hb1).cell 3 rfl
      have x4 := (X0.out.step hb1).cell 4 rfl
      have x5 := (X0.out.step hb1).cell 5 rfl
      have x6 := (X0.out.step hb1).cell 6 rfl
      have x7 := (X0.out.step hb1).cell 7 rfl
      have x8 := (X0.out.step hb1).cell 8 rfl
      have hbx := bt hb0 hb1
      have HXs := Lib.hid (X0.out.step hb1)
      clear X0 HV H hok
      obtain ⟨bb, off, rfl, hc⟩ := HRd.out _ hbx
      have HK : Hid (∀ W, Below w1.heap.size w1 W → W.cell? ⟨w.heap.size, 0, none⟩ = some (.int .i64 d0) ∧ W.cell? ⟨w.heap.size, 1, none⟩ = some (.int .i64 d1) ∧ W.cell? ⟨w.heap.size, 2, none⟩ = some (.int .i64 d2) ∧ W.cell? ⟨w.heap.size, 3, none⟩ = some (.int .i64 d3) ∧ W.cell? ⟨w.heap.size, 4, none⟩ = some (.bool d4) ∧ W.cell? ⟨w.heap.size, 5, none⟩ = some (.bool d5) ∧ W.cell? ⟨w.heap.size, 6, none⟩ = some (.bool d6) ∧ W.cell? ⟨w.heap.size, 7, none⟩ = some (.bool d7) ∧ W.cell? ⟨w.heap.size, 8, none⟩ = some (.slice (some ⟨bb, off, none⟩) 16 c) ∧ W.cell? ⟨bb, off + j, none⟩ = some (.int .i64 x)) := Lib.hid (fun W hb => ⟨(HXs.out.step hb).cell 0 rfl, (HXs.out.step hb).cell 1 rfl, (HXs.out.step hb).cell 2 rfl, (HXs.out.step hb).cell 3 rfl, (HXs.out.step hb).cell 4 rfl, (HXs.out.step hb).cell 5 rfl, (HXs.out.step hb).cell 6 rfl, (HXs.out.step hb).cell 7 rfl, (HXs.out.step hb).cell 8 rfl, (hb.cell (cell_lt hc)).trans hc⟩)
      have hd1 : Below w1.heap.size w1 w1.drew := (Below.refl _ _).drew
      go_wp2_with (first | (go_at_call 32; refine (isUpToA _ _ _).mono ?_; rintro e w' ⟨rfl, rfl⟩; rw [hk]))
      go_region_held3 (fun W => W.cell? ⟨w.heap.size, 0, none⟩ = some (.int .i64 d0) ∧ W.cell? ⟨w.heap.size, 1, none⟩ = some (.int .i64 d1) ∧ W.cell? ⟨w.heap.size, 2, none⟩ = some (.int .i64 d2) ∧ W.cell? ⟨w.heap.size, 3, none⟩ = some (.int .i64 d3) ∧ W.cell? ⟨w.heap.size, 4, none⟩ = some (.bool d4) ∧ W.cell? ⟨w.heap.size, 5, none⟩ = some (.bool d5) ∧ W.cell? ⟨w.heap.size, 6, none⟩ = some (.bool d6) ∧ W.cell? ⟨w.heap.size, 7, none⟩ = some (.bool d7) ∧ W.cell? ⟨w.heap.size, 8, none⟩ = some (.slice (some ⟨bb, off, none⟩) 16 c) ∧ W.cell? ⟨bb, off + j, none⟩ = some (.int .i64 x))
        (first | exact HK.out _ hd1 | exact HK.out _ (bt hd1 hb2))
        (first | (go_at_call 33; refine (HPl.out _).mono ?_; rintro e w2 ⟨rfl, hb2⟩; have hc2 := (hb2.cell (cell_lt hc)).trans hc))
      go_wp2
      refine bodyPost_ret (v := .tuple #[.int .i64 x, .int .i64 0]) (by simp [results, Tryz.results12, go_sem]) rfl ?_
      exact ⟨by rw [HZ.out], bt hbx (bt hd1 hb2)⟩
    · have hk' : rngB k 0 3 = false := by simpa using hk
      have HZ : Hid (r = (0, 4)) := Lib.hid (by rw [HR.out, hk']; rfl)
      clear HR HOk hk
      go_enter Tryz.func12, Tryz.ntmps12
      go_wp2_with fail
      refine HV.out.mono ?_
      rintro e w1 ⟨rfl, hb1⟩
      have hbx := bt hb0 hb1
      go_wp2_with (first | (go_at_call 32; refine (isUpToA _ _ _).mono ?_; rintro e w' ⟨rfl, rfl⟩; rw [hk']))
      refine bodyPost_ret (v := .tuple #[.int .i64 0, .int .i64 4]) (by simp [results, Tryz.results12, go_sem]) rfl ?_
      exact ⟨by rw [HZ.out], hbx⟩
end Go.Proofs.YtcchhbkbnbphhaaGreatDoor
