/- LengthOf, CyclesOf on both sides. -/
import Derived.Test.YtoaeofahknknhaaDoorOpOk
namespace Go.Proofs.YtoaeofahknknhaaDoor
open Go.RowKit

def lenF (n : Int) : Int × Int := if rngB n 0 22 then (lenT n, 0) else (0, 4)
def cycF (n : Int) : Int × Int := if rngB n 0 22 then (cycT n, 0) else (0, 4)
theorem tup2 {a b c d : Int} (h : (a, b) = (c, d)) : Ending.returned (.tuple #[.int .i64 a, .int .i64 b]) = .returned (.tuple #[.int .i64 c, .int .i64 d]) := by
  injection h with h1 h2; rw [h1, h2]
section
variable (n : Int) (w : World)
set_option maxRecDepth 100000 in
theorem specLengthOf : Calls Tryd.prog 31 #[.int .i64 n] w fun e w' => e = .returned (.tuple #[.int .i64 (lenF n).1, .int .i64 (lenF n).2]) ∧ Below w.heap.size w w' := by
  have HG := Lib.hid (l07LengthA n)
  by_cases h : 0 ≤ n ∧ n ≤ 22
  · have q := rngB_t h
    have HF : Hid (lenF n = (lenT n, 0)) := Lib.hid (by unfold lenF; rw [q]; rfl)
    rw [HF.out]
    clear h HF
    generalize lenT n = l at HG ⊢
    go_enter Tryd.func31, Tryd.ntmps31
    go_wp2_with (first | (go_at_call 54; refine (l07OpA _ _).mono ?_; rintro e w' ⟨rfl, rfl⟩) | (go_at_call 67; refine (HG.out _).mono ?_; rintro e w' ⟨rfl, rfl⟩))
    go_ret2
    exact ⟨rfl, Below.refl _ _⟩
  · have q := rngB_f h
    have HF : Hid (lenF n = (0, 4)) := Lib.hid (by unfold lenF; rw [q]; rfl)
    rw [HF.out]
    clear h HF
    go_enter Tryd.func31, Tryd.ntmps31
    go_wp2_with (first | (go_at_call 54; refine (l07OpA _ _).mono ?_; rintro e w' ⟨rfl, rfl⟩))
    go_ret2
    exact ⟨rfl, Below.refl _ _⟩
set_option maxRecDepth 100000 in
theorem specCyclesOf : Calls Tryd.prog 20 #[.int .i64 n] w fun e w' => e = .returned (.tuple #[.int .i64 (cycF n).1, .int .i64 (cycF n).2]) ∧ Below w.heap.size w w' := by
  have HG := Lib.hid (l07CyclesA n)
  by_cases h : 0 ≤ n ∧ n ≤ 22
  · have q := rngB_t h
    have HF : Hid (cycF n = (cycT n, 0)) := Lib.hid (by unfold cycF; rw [q]; rfl)
    rw [HF.out]
    clear h HF
    generalize cycT n = l at HG ⊢
    go_enter Tryd.func20, Tryd.ntmps20
    go_wp2_with (first | (go_at_call 54; refine (l07OpA _ _).mono ?_; rintro e w' ⟨rfl, rfl⟩) | (go_at_call 55; refine (HG.out _).mono ?_; rintro e w' ⟨rfl, rfl⟩))
    go_ret2
    exact ⟨rfl, Below.refl _ _⟩
  · have q := rngB_f h
    have HF : Hid (cycF n = (0, 4)) := Lib.hid (by unfold cycF; rw [q]; rfl)
    rw [HF.out]
    clear h HF
    go_enter Tryd.func20, Tryd.ntmps20
    go_wp2_with (first | (go_at_call 54; refine (l07OpA _ _).mono ?_; rintro e w' ⟨rfl, rfl⟩))
    go_ret2
    exact ⟨rfl, Below.refl _ _⟩
set_option maxRecDepth 100000 in
theorem implLengthOf (ht : OpsT w) : Calls Tryd.prog 16 #[.int .i64 n] w fun e w' => e = .returned (.tuple #[.int .i64 (lenF n).1, .int .i64 (lenF n).2]) ∧ Below w.heap.size w w' := by
  by_cases h : 0 ≤ n ∧ n ≤ 22
  · have HF : Hid (lenF n = (lenT n, 0)) := Lib.hid (by unfold lenF; rw [rngB_t h]; rfl)
    rw [HF.out]
    have HO := Lib.hid (operationOf_in n w h.1 h.2 ht)
    have HL := Lib.hid (lenA_arg n)
    clear h HF ht
    generalize lenT n = l at HL ⊢
    generalize opWord n.toNat = s at HO
    generalize regT n = r at HO
    generalize argT n = a at HO HL
    generalize fixT n = c at HO
    go_enter Tryd.func16, Tryd.ntmps16
    go_wp2_with fail
    refine HO.out.mono ?_
    rintro e w1 ⟨rfl, hb1⟩
    go_wp2_with fail
    refine (opLength s r a c _).mono ?_
    rintro e w2 ⟨rfl, hb2⟩
    rw [HL.out]
    go_wp2
    go_ret2
    exact ⟨rfl, bt (bt hb1 (alloc_below _ _)) hb2⟩
  · have HF : Hid (lenF n = (0, 4)) := Lib.hid (by unfold lenF; rw [rngB_f h]; rfl)
    rw [HF.out]
    have HO := Lib.hid (operationOf_out n w (by omega))
    clear h HF ht
    go_enter Tryd.func16, Tryd.ntmps16
    go_wp2_with fail
    refine HO.out.mono ?_
    rintro e w1 ⟨rfl, hb1⟩
    go_wp2
    go_ret2
    exact ⟨rfl, bt hb1 (alloc_below _ _)⟩
set_option maxRecDepth 100000 in
theorem implCyclesOf (ht : OpsT w) : Calls Tryd.prog 19 #[.int .i64 n] w fun e w' => e = .returned (.tuple #[.int .i64 (cycF n).1, .int .i64 (cycF n).2]) ∧ Below w.heap.size w w' := by
  by_cases h : 0 ≤ n ∧ n ≤ 22
  · have HF : Hid (cycF n = (cycT n, 0)) := Lib.hid (by unfold cycF; rw [rngB_t h]; rfl)
    rw [HF.out]
    have HO := Lib.hid (operationOf_in n w h.1 h.2 ht)
    have HL : Hid ((if 0 < fixT n then fixT n else 2 * lenA_ (argT n)) = cycT n) := Lib.hid (by rw [lenA_arg]; exact fix_cyc n)
    clear h HF ht
    generalize cycT n = l at HL ⊢
    generalize opWord n.toNat = s at HO
    generalize regT n = r at HO
    generalize argT n = a at HO HL
    generalize fixT n = c at HO HL
    go_enter Tryd.func19, Tryd.ntmps19
    go_wp2_with fail
    refine HO.out.mono ?_
    rintro e w1 ⟨rfl, hb1⟩
    go_wp2_with fail
    refine (opCycles s r a c _).mono ?_
    rintro e w2 ⟨rfl, hb2⟩
    rw [HL.out]
    go_wp2
    go_ret2
    exact ⟨rfl, bt (bt hb1 (alloc_below _ _)) hb2⟩
  · have HF : Hid (cycF n = (0, 4)) := Lib.hid (by unfold cycF; rw [rngB_f h]; rfl)
    rw [HF.out]
    have HO := Lib.hid (operationOf_out n w (by omega))
    clear h HF ht
    go_enter Tryd.func19, Tryd.ntmps19
    go_wp2_with fail
    refine HO.out.mono ?_
    rintro e w1 ⟨rfl, hb1⟩
    go_wp2
    go_ret2
    exact ⟨rfl, bt hb1 (alloc_below _ _)⟩
set_option maxRecDepth 100000 in
theorem specLengthOfA (a0d0 : Int) (w : World) : Calls Tryd.prog 31 #[.int .i64 a0d0] w fun e w' => e = .returned (.tuple #[.int .i64 (lenF a0d0).1, .int .i64 (lenF a0d0).2]) ∧ Below w.heap.size w w' := specLengthOf a0d0 w
set_option maxRecDepth 100000 in
theorem implLengthOfA (a0d0 : Int) (w : World) (t : OpsT w) : Calls Tryd.prog 16 #[.int .i64 a0d0] w fun e w' => e = .returned (.tuple #[.int .i64 (lenF a0d0).1, .int .i64 (lenF a0d0).2]) ∧ Below w.heap.size w w' := implLengthOf a0d0 w t
set_option maxRecDepth 100000 in
theorem specCyclesOfA (a0d0 : Int) (w : World) : Calls Tryd.prog 20 #[.int .i64 a0d0] w fun e w' => e = .returned (.tuple #[.int .i64 (cycF a0d0).1, .int .i64 (cycF a0d0).2]) ∧ Below w.heap.size w w' := specCyclesOf a0d0 w
set_option maxRecDepth 100000 in
theorem implCyclesOfA (a0d0 : Int) (w : World) (t : OpsT w) : Calls Tryd.prog 19 #[.int .i64 a0d0] w fun e w' => e = .returned (.tuple #[.int .i64 (cycF a0d0).1, .int .i64 (cycF a0d0).2]) ∧ Below w.heap.size w w' := implCyclesOf a0d0 w t
set_option maxRecDepth 100000 in
theorem specInstrOKA (d0 d1 d2 : Int) (w : World) : Calls Tryd.prog 29 #[.agg #[.int .i64 d0, .int .i64 d1, .int .i64 d2]] w fun e w' => e = .returned (.bool (okIns d0 d1 d2)) ∧ Below w.heap.size w w' := specInstrOK d0 d1 d2 w
set_option maxRecDepth 100000 in
theorem implInstrOKA (d0 d1 d2 : Int) (w : World) (t : OpsT w) : Calls Tryd.prog 22 #[.agg #[.int .i64 d0, .int .i64 d1, .int .i64 d2]] w fun e w' => e = .returned (.bool (okIns d0 d1 d2)) ∧ Below w.heap.size w w' := implInstrOK d0 d1 d2 w t
end
end Go.Proofs.YtoaeofahknknhaaDoor
