/- For every string, laws.FnExactReadInstr returns true: impl.ReadInstr answers as the model spec.ReadInstr, every field, leaves its arguments alone, and its result is memory of its own. Condition: the listed tables start as the program's text lays them (the card ties them to it). -/
import Derived.Test.YtoaeofahknknhaaDoorReadS
import Derived.Test.YtoaeofahknknhaaDoorGenOpen
import Derived.Test.YtoaeofahknknhaaDoorLaid
import Derived.Test.YtoaeofahknknhaaDoorFactA
import Derived.Test.YtoaeofahknknhaaDoorFactB
import Derived.Test.YtoaeofahknknhaaDoorFactC
import Derived.Test.YtoaeofahknknhaaDoorFactD
import Derived.Deep.RegionHeld3
import Derived.ProofKit
import Derived.OpenShut
import Derived.ShutString
import Derived.ChangeOld
/-! ReadInstr, both sides. -/
namespace Go.Proofs.YtoaeofahknknhaaDoor
open Go.RowKit

def rdI (s : ByteArray) : (Int × Int × Int) × Int := if 65536 < s.size then ((0, 0, 0), 2) else if (rdF s).2 then ((rdF s).1, 0) else ((0, 0, 0), 3)
theorem rdI_long {s : ByteArray} (h : 65536 < s.size) : rdI s = ((0, 0, 0), 2) := by unfold rdI; rw [if_pos h]
theorem rdI_ok {s : ByteArray} (h : ¬ 65536 < s.size) {a b c : Int} (r : rdF s = ((a, b, c), true)) : rdI s = ((a, b, c), 0) := by unfold rdI; rw [if_neg h, r]; rfl
theorem rdI_no {s : ByteArray} (h : ¬ 65536 < s.size) {a b c : Int} (r : rdF s = ((a, b, c), false)) : rdI s = ((0, 0, 0), 3) := by unfold rdI; rw [if_neg h, r]; rfl

set_option maxHeartbeats 4000000 in
set_option maxRecDepth 100000 in
theorem implReadInstr (s : ByteArray) (w : World) (hs : s.size ≤ 1048576) (ht : OpsT w) : Calls Tryd.prog 18 #[.string s] w fun e w' => e = .returned (.tuple #[.agg #[.int .i64 (rdI s).1.1, .int .i64 (rdI s).1.2.1, .int .i64 (rdI s).1.2.2], .int .i64 (rdI s).2]) ∧ Below w.heap.size w w' := by
  have HS0 := Lib.hid hs
  obtain ⟨W0, hW0⟩ : ∃ W0, W0 = w.alloc (.cells #[.int .i64 0, .int .i64 0, .int .i64 0] 24) := ⟨_, rfl⟩
  have hb0 : Below w.heap.size w W0 := by rw [hW0]; exact alloc_below _ _
  have X0 : Hid (Box W0 w.heap.size 24 #[.int .i64 0, .int .i64 0, .int .i64 0]) := Lib.hid (by rw [hW0]; exact Box.new _ _ _)
  have HW0 := Lib.hid hW0
  have HB0 := Lib.hid hb0
  have HT := Lib.hid (ht.below hb0)
  clear ht
  clear hW0 hb0
  by_cases hl : 65536 < s.size
  · have i1 : (65536 : Int) < (s.size : Int) := by omega
    have HF := Lib.hid (rdI_long hl)
    generalize rdI s = R at HF ⊢
    clear hl
    go_enter Tryd.func18, Tryd.ntmps18
    go_wp2
    rw [← HW0.out]
    have HRes := X0
    refine bodyPost_ret (v := .tuple #[.agg #[.int .i64 0, .int .i64 0, .int .i64 0], .int .i64 2]) (by simp [results, Tryd.results18, go_sem, HRes.out.cell 0 rfl, HRes.out.cell 1 rfl, HRes.out.cell 2 rfl]) rfl ?_
    exact ⟨by rw [HF.out], HB0.out⟩
  · have i1 : ¬ (65536 : Int) < (s.size : Int) := by omega
    have HOk := Lib.hid (fun a b c r => @rdI_ok s hl a b c r)
    have HNo := Lib.hid (fun a b c r => @rdI_no s hl a b c r)
    generalize rdI s = R at HOk HNo ⊢
    clear hl
    have HC := Lib.hid (fun m W t v => readI m s W (by have := HS0.out; omega) t v)
    generalize rdF s = r at HC HOk HNo
    obtain ⟨⟨a, b, c⟩, ok⟩ := r
    go_enter Tryd.func18, Tryd.ntmps18
    go_wp2_with fail
    rw [← HW0.out]
    refine (newVoc W0 HT.out).mono ?_
    rintro e w1 ⟨m, rfl, HV, hb⟩
    have HB1 := Lib.hid (bt HB0.out hb)
    have X1 := Lib.hid (X0.out.step hb)
    have HT1 := Lib.hid (HT.out.below hb)
    clear hb X0 HB0 HT HW0
    go_wp2_with fail
    refine (HC.out m w1 HT1.out HV.out).mono ?_
    rintro e w2 ⟨rfl, hb⟩
    have HB2 := Lib.hid (bt HB1.out hb)
    have X2 := Lib.hid (X1.out.step hb)
    clear hb
    obtain ⟨W3, hW3⟩ : ∃ W, W = w2.alloc (.cells #[.int .i64 a, .int .i64 b, .int .i64 c] 24) := ⟨_, rfl⟩
    have hb3 : Below w2.heap.size w2 W3 := by rw [hW3]; exact alloc_below _ _
    have Y3 : Hid (Box W3 w2.heap.size 24 #[.int .i64 a, .int .i64 b, .int .i64 c]) := Lib.hid (by rw [hW3]; exact Box.new _ _ _)
    have HW3 := Lib.hid hW3
    have HB3 := Lib.hid (bt HB2.out hb3)
    have X3 := Lib.hid (X2.out.step hb3)
    clear hW3 hb3
    cases ok with
    | false =>
      have HF := Lib.hid (HNo.out a b c rfl)
      have g0 := X3.out.cell 0 rfl
      have g1 := X3.out.cell 1 rfl
      have g2 := X3.out.cell 2 rfl
      have gn0 := X3.out.frozen 0
      have gn1 := X3.out.frozen 1
      have gn2 := X3.out.frozen 2
      rw [HW3.out] at g0 g1 g2 gn0 gn1 gn2
      go_wp2
      rw [← HW3.out]
      have HRes := Lib.hid (((X3.out.set 0 (.int .i64 0)).set 1 (.int .i64 0)).set 2 (.int .i64 0))
      refine bodyPost_ret (v := .tuple #[.agg #[.int .i64 0, .int .i64 0, .int .i64 0], .int .i64 3]) (by simp [results, Tryd.results18, go_sem, HRes.out.cell 0 rfl, HRes.out.cell 1 rfl, HRes.out.cell 2 rfl]) rfl ?_
      exact ⟨by rw [HF.out], ((HB3.out.setCell (Nat.le_refl _) _).setCell (Nat.le_refl _) _).setCell (Nat.le_refl _) _⟩
    | true =>
      have HF := Lib.hid (HOk.out a b c rfl)
      have y0 := Y3.out.cell 0 rfl
      have y1 := Y3.out.cell 1 rfl
      have y2 := Y3.out.cell 2 rfl
      have g0 := X3.out.cell 0 rfl
      have g1 := X3.out.cell 1 rfl
      have g2 := X3.out.cell 2 rfl
      have gn0 := X3.out.frozen 0
      have gn1 := X3.out.frozen 1
      have gn2 := X3.out.frozen 2
      rw [HW3.out] at y0 y1 y2 g0 g1 g2 gn0 gn1 gn2
      go_wp2
      rw [← HW3.out]
      have HRes := Lib.hid (((X3.out.set 0 (.int .i64 a)).set 1 (.int .i64 b)).set 2 (.int .i64 c))
      refine bodyPost_ret (v := .tuple #[.agg #[.int .i64 a, .int .i64 b, .int .i64 c], .int .i64 0]) (by simp [results, Tryd.results18, go_sem, HRes.out.cell 0 rfl, HRes.out.cell 1 rfl, HRes.out.cell 2 rfl]) rfl ?_
      exact ⟨by rw [HF.out], ((HB3.out.setCell (Nat.le_refl _) _).setCell (Nat.le_refl _) _).setCell (Nat.le_refl _) _⟩
set_option maxHeartbeats 4000000 in
set_option maxRecDepth 100000 in
theorem specReadInstr (s : ByteArray) (w : World) (hs : s.size ≤ 1048576) : Calls Tryd.prog 37 #[.string s] w fun e w' => e = .returned (.tuple #[.agg #[.int .i64 (rdI s).1.1, .int .i64 (rdI s).1.2.1, .int .i64 (rdI s).1.2.2], .int .i64 (rdI s).2]) ∧ Below w.heap.size w w' := by
  have HS0 := Lib.hid hs
  obtain ⟨W0, hW0⟩ : ∃ W0, W0 = w.alloc (.cells #[.int .i64 0, .int .i64 0, .int .i64 0] 24) := ⟨_, rfl⟩
  have hb0 : Below w.heap.size w W0 := by rw [hW0]; exact alloc_below _ _
  have X0 : Hid (Box W0 w.heap.size 24 #[.int .i64 0, .int .i64 0, .int .i64 0]) := Lib.hid (by rw [hW0]; exact Box.new _ _ _)
  have HW0 := Lib.hid hW0
  have HB0 := Lib.hid hb0
  clear hW0 hb0
  by_cases hl : 65536 < s.size
  · have i1 : (65536 : Int) < (s.size : Int) := by omega
    have HF := Lib.hid (rdI_long hl)
    generalize rdI s = R at HF ⊢
    clear hl
    go_enter Tryd.func37, Tryd.ntmps37
    go_wp2
    rw [← HW0.out]
    have HRes := X0
    refine bodyPost_ret (v := .tuple #[.agg #[.int .i64 0, .int .i64 0, .int .i64 0], .int .i64 2]) (by simp [results, Tryd.results37, go_sem, HRes.out.cell 0 rfl, HRes.out.cell 1 rfl, HRes.out.cell 2 rfl]) rfl ?_
    exact ⟨by rw [HF.out], HB0.out⟩
  · have i1 : ¬ (65536 : Int) < (s.size : Int) := by omega
    have HOk := Lib.hid (fun a b c r => @rdI_ok s hl a b c r)
    have HNo := Lib.hid (fun a b c r => @rdI_no s hl a b c r)
    generalize rdI s = R at HOk HNo ⊢
    clear hl
    have HC := Lib.hid (fun  W => readM s W (by have := HS0.out; omega))
    generalize rdF s = r at HC HOk HNo
    obtain ⟨⟨a, b, c⟩, ok⟩ := r
    go_enter Tryd.func37, Tryd.ntmps37
    go_wp2_with fail
    rw [← HW0.out]
    refine (HC.out W0).mono ?_
    rintro e w2 ⟨rfl, hb⟩
    have HB2 := Lib.hid (bt HB0.out hb)
    have X2 := Lib.hid (X0.out.step hb)
    clear hb
    obtain ⟨W3, hW3⟩ : ∃ W, W = w2.alloc (.cells #[.int .i64 a, .int .i64 b, .int .i64 c] 24) := ⟨_, rfl⟩
    have hb3 : Below w2.heap.size w2 W3 := by rw [hW3]; exact alloc_below _ _
    have Y3 : Hid (Box W3 w2.heap.size 24 #[.int .i64 a, .int .i64 b, .int .i64 c]) := Lib.hid (by rw [hW3]; exact Box.new _ _ _)
    have HW3 := Lib.hid hW3
    have HB3 := Lib.hid (bt HB2.out hb3)
    have X3 := Lib.hid (X2.out.step hb3)
    clear hW3 hb3
    cases ok with
    | false =>
      have HF := Lib.hid (HNo.out a b c rfl)
      have g0 := X3.out.cell 0 rfl
      have g1 := X3.out.cell 1 rfl
      have g2 := X3.out.cell 2 rfl
      have gn0 := X3.out.frozen 0
      have gn1 := X3.out.frozen 1
      have gn2 := X3.out.frozen 2
      rw [HW3.out] at g0 g1 g2 gn0 gn1 gn2
      go_wp2
      rw [← HW3.out]
      have HRes := Lib.hid (((X3.out.set 0 (.int .i64 0)).set 1 (.int .i64 0)).set 2 (.int .i64 0))
      refine bodyPost_ret (v := .tuple #[.agg #[.int .i64 0, .int .i64 0, .int .i64 0], .int .i64 3]) (by simp [results, Tryd.results37, go_sem, HRes.out.cell 0 rfl, HRes.out.cell 1 rfl, HRes.out.cell 2 rfl]) rfl ?_
      exact ⟨by rw [HF.out], ((HB3.out.setCell (Nat.le_refl _) _).setCell (Nat.le_refl _) _).setCell (Nat.le_refl _) _⟩
    | true =>
      have HF := Lib.hid (HOk.out a b c rfl)
      have y0 := Y3.out.cell 0 rfl
      have y1 := Y3.out.cell 1 rfl
      have y2 := Y3.out.cell 2 rfl
      have g0 := X3.out.cell 0 rfl
      have g1 := X3.out.cell 1 rfl
      have g2 := X3.out.cell 2 rfl
      have gn0 := X3.out.frozen 0
      have gn1 := X3.out.frozen 1
      have gn2 := X3.out.frozen 2
      rw [HW3.out] at y0 y1 y2 g0 g1 g2 gn0 gn1 gn2
      go_wp2
      rw [← HW3.out]
      have HRes := Lib.hid (((X3.out.set 0 (.int .i64 a)).set 1 (.int .i64 b)).set 2 (.int .i64 c))
      refine bodyPost_ret (v := .tuple #[.agg #[.int .i64 a, .int .i64 b, .int .i64 c], .int .i64 0]) (by simp [results, Tryd.results37, go_sem, HRes.out.cell 0 rfl, HRes.out.cell 1 rfl, HRes.out.cell 2 rfl]) rfl ?_
      exact ⟨by rw [HF.out], ((HB3.out.setCell (Nat.le_refl _) _).setCell (Nat.le_refl _) _).setCell (Nat.le_refl _) _⟩
set_option maxRecDepth 100000 in
theorem specReadInstrA (a0d0 : ByteArray) (w : World) (s : a0d0.size ≤ 1048576) : Calls Tryd.prog 37 #[.string a0d0] w fun e w' => e = .returned (.tuple #[.agg #[.int .i64 (rdI a0d0).1.1, .int .i64 (rdI a0d0).1.2.1, .int .i64 (rdI a0d0).1.2.2], .int .i64 (rdI a0d0).2]) ∧ Below w.heap.size w w' := specReadInstr a0d0 w s
set_option maxRecDepth 100000 in
theorem implReadInstrA (a0d0 : ByteArray) (w : World) (s : a0d0.size ≤ 1048576) (t : OpsT w) : Calls Tryd.prog 18 #[.string a0d0] w fun e w' => e = .returned (.tuple #[.agg #[.int .i64 (rdI a0d0).1.1, .int .i64 (rdI a0d0).1.2.1, .int .i64 (rdI a0d0).1.2.2], .int .i64 (rdI a0d0).2]) ∧ Below w.heap.size w w' := implReadInstr a0d0 w s t
end Go.Proofs.YtoaeofahknknhaaDoor

namespace Go.Proofs.YtoaeofahknknhaaDoor.fnExactReadInstr
open Go.RowKit

set_option maxRecDepth 100000 in
set_option maxHeartbeats 16000000 in
theorem walk (a0d0 : ByteArray) (w : World) (h0 : a0d0.size ≤ maxLen) (ht : OpsT w) :
    Calls Tryd.prog 11 #[.string a0d0] w fun e w' => e = .returned (.bool true) ∧ Below w.heap.size w w' := by
  have HT := Lib.hid ht
  clear ht
  have HSpec := Lib.hid (fun W (s0 : a0d0.size ≤ 1048576) => specReadInstrA a0d0 W s0)
  have HImpl := Lib.hid (fun W (s0 : a0d0.size ≤ 1048576) (t : OpsT W) => implReadInstrA a0d0 W s0 t)
  generalize (rdI a0d0).1.1 = r0d0 at HSpec HImpl
  generalize (rdI a0d0).1.2.1 = r0d1 at HSpec HImpl
  generalize (rdI a0d0).1.2.2 = r0d2 at HSpec HImpl
  generalize (rdI a0d0).2 = r1d0 at HSpec HImpl
  have qr1d0 : (r1d0 != r1d0) = false := by simp
  unfold maxLen at h0
  by_cases hlen0 : 1048576 < a0d0.size
  · have hq0 : (1048576 : Int) < (a0d0.size : Int) := by omega
    clear hlen0
    go_enter Tryd.func11, Tryd.ntmps11
    go_wp2
    go_ret
    exact ⟨rfl, (Below.refl _ _)⟩
  have hq0 : ¬ (1048576 : Int) < (a0d0.size : Int) := by omega
  have z0 : a0d0.size ≤ 1048576 := by omega
  clear hlen0
  clear h0
  have H0 : Hid (Below w.heap.size w w) := Lib.hid (Below.refl _ _)
  go_enter Tryd.func11, Tryd.ntmps11
  go_wp2_with fail
  refine (HSpec.out w z0).mono ?_
  rintro e w1 ⟨rfl, hc⟩
  have H2 := Lib.hid (bt H0.out hc)
  have Z3 : Hid (w.heap.size ≤ w1.heap.size) := Lib.hid hc.size
  clear H0 hc
  clear HSpec
  obtain ⟨W4, hW4⟩ : ∃ W4, W4 = (w1.alloc (.cells #[.int .i64 r0d0, .int .i64 r0d1, .int .i64 r0d2] 24)) := ⟨_, rfl⟩
  have hba : Below w1.heap.size w1 W4 := by rw [hW4]; exact ((Below.refl _ _).alloc (Nat.le_refl _) _)
  have Z5 : Hid (W4.heap.size = w1.heap.size + 1) := Lib.hid (by rw [hW4]; simp)
  have B6 : Hid (Box W4 (w1.heap.size) 24 #[.int .i64 r0d0, .int .i64 r0d1, .int .i64 r0d2]) := Lib.hid (by rw [hW4]; exact (Box.new w1 24 #[.int .i64 r0d0, .int .i64 r0d1, .int .i64 r0d2]))
  have H7 := Lib.hid (bt H2.out hba)
  have Z8 : Hid (w1.heap.size ≤ W4.heap.size) := Lib.hid hba.size
  clear H2 hba
  have HW4 := Lib.hid hW4
  clear hW4
  go_wp2_with fail
  rw [← HW4.out]
  refine (HImpl.out W4 z0 (HT.out.below (H7.out))).mono ?_
  rintro e w9 ⟨rfl, hc⟩
  clear HW4
  have F10 := Lib.hid (B6.out.step hc)
  have H11 := Lib.hid (bt H7.out hc)
  have Z12 : Hid (W4.heap.size ≤ w9.heap.size) := Lib.hid hc.size
  clear B6 H7 hc
  obtain ⟨W13, hW13⟩ : ∃ W13, W13 = (w9.alloc (.cells #[.int .i64 r0d0, .int .i64 r0d1, .int .i64 r0d2] 24)) := ⟨_, rfl⟩
  have hba : Below w9.heap.size w9 W13 := by rw [hW13]; exact ((Below.refl _ _).alloc (Nat.le_refl _) _)
  have Z14 : Hid (W13.heap.size = w9.heap.size + 1) := Lib.hid (by rw [hW13]; simp)
  have B15 : Hid (Box W13 (w9.heap.size) 24 #[.int .i64 r0d0, .int .i64 r0d1, .int .i64 r0d2]) := Lib.hid (by rw [hW13]; exact (Box.new w9 24 #[.int .i64 r0d0, .int .i64 r0d1, .int .i64 r0d2]))
  have F16 := Lib.hid (F10.out.step hba)
  have H17 := Lib.hid (bt H11.out hba)
  have Z18 : Hid (w9.heap.size ≤ W13.heap.size) := Lib.hid hba.size
  clear F10 H11 hba
  have HW13 := Lib.hid hW13
  clear hW13
  have f0 : W13.cell? ⟨w1.heap.size, 0, none⟩ = some (.int .i64 r0d0) := F16.out.cell 0 rfl
  have f1 : W13.cell? ⟨w1.heap.size, 1, none⟩ = some (.int .i64 r0d1) := F16.out.cell 1 rfl
  have f2 : W13.cell? ⟨w1.heap.size, 2, none⟩ = some (.int .i64 r0d2) := F16.out.cell 2 rfl
  rw [HW13.out] at f0 f1 f2
  go_wp2_with fail
  rw [← HW13.out]
  refine (eqInstrA r0d0 r0d1 r0d2 W13).mono ?_
  rintro e w19 ⟨rfl, hc⟩
  clear f0 f1 f2 HW13
  have F20 := Lib.hid (F16.out.step hc)
  have F21 := Lib.hid (B15.out.step hc)
  have H22 := Lib.hid (bt H17.out hc)
  have Z23 : Hid (W13.heap.size ≤ w19.heap.size) := Lib.hid hc.size
  clear F16 B15 H17 hc
  go_wp2
  go_ret
  exact ⟨rfl, H22.out⟩

/-! The row's step and the card. -/
open Go.ChangeShapes Go.WideShapes Go.ChangeAt
open Go.ChangeMaps (open_string shut_string)
set_option maxRecDepth 100000 in
theorem laidOut : laidOutB Tryd.prog = true := factLaid
set_option maxRecDepth 100000 in
theorem laid_met (os : Os) (args : Array Value) : laidMet Tryd.prog Rows.fnExactReadInstrRow.laid ((laidWorld os).forCall (fun _ _ => 0) ⟨#[], args, []⟩).memory :=
  laidMet_of_run' 8 (by kernel_rfl) (by kernel_rfl)
set_option maxRecDepth 100000 in
theorem laid_of {W : World} (h : laidMetH Tryd.prog Rows.fnExactReadInstrRow.laid W) : laidMet Tryd.prog Rows.fnExactReadInstrRow.laid W := h
set_option maxRecDepth 100000 in
theorem ops_of {W : World} (h : laidMetH Tryd.prog Rows.fnExactReadInstrRow.laid W) : W.var? Tryd.prog "loop.example/g00563/impl.operations" = some opCells :=
  var_of_reads (reads_of_laid (laid_of h) (by unfold Rows.fnExactReadInstrRow; repeat (first | exact List.Mem.head _ | apply List.Mem.tail)))
set_option maxRecDepth 100000 in
theorem contract (H : Type) (enc : TypeId × Value → H) (W : World) (base : Nat) (args : Array Value) (ds gs : List (DataW H)) (before : List MemPlace)
    (hval0 : ∀ (j : Nat) t v, Tryd.f11.params[j]? = some t → args[j]? = some v → Value.okWide Tryd.prog W .any base t v)
    (hW : DataW.Whole enc Tryd.prog Tryd.f11.params.toList Rows.fnExactReadInstrSpec.vars false W args.toList ds gs before) (hL : laidMetH Tryd.prog Rows.fnExactReadInstrRow.laid W) :
    Calls Tryd.prog 11 args W fun e W' => ∃ v, e = .returned v ∧ Rows.fnExactReadInstrSpec.post enc Tryd.prog Tryd.f11 false true false false W args v W' := by
  have hval : ∀ (j : Nat) t v, Tryd.f11.params[j]? = some t → args[j]? = some v → Value.okWide Tryd.prog W .any base t v := hval0
  have hW' := hW
  obtain ⟨p, q, hA0, hV0, rfl, hfz, hnd⟩ := hW
  have hA : DataW.TrodAll enc Tryd.prog W 0 (fun _ => true) true Tryd.f11.params.toList args.toList ds p := hA0
  have hV : DataW.TrodVars enc Tryd.prog W (fun _ => true) ["loop.example/g00563/impl.operations"] gs q := hV0
  rw [Tryd.params11] at hA hval
  obtain ⟨v0, vs0, d0, ds0, p0, q0, hargs, rfl, rfl, h0, r0⟩ := trodAll_cons hA
  obtain ⟨rfl, rfl, rfl⟩ := trodAll_nil r0
  obtain rfl : args = #[v0] := by cases args; simp_all
  obtain ⟨a0, rfl, rfl, rfl, w0⟩ := open_string Tryd.underlying9 (hval 0 9 v0 rfl rfl) h0
  obtain ⟨g, t, cs, fuel, d, p', rfl, hg, ht, hvar, hd, rfl⟩ := trodVars_one hV
  obtain rfl := Option.some.inj (gOps.symm.trans hg)
  obtain rfl := Option.some.inj (gOpsType.symm.trans ht)
  obtain rfl : cs = opCells := Option.some.inj (hvar.symm.trans (ops_of hL))
  obtain ⟨rfl, rfl⟩ := DataW.Trod.unique (v := .agg opCells) ⟨fuel, hd⟩ ⟨4, reads_ops enc W _⟩
  clear hA0 hV0 hval0
  have HT := opsT_of_var hvar
  refine (walk a0 W w0 HT).mono fun e W' ⟨he, bel⟩ => ?_
  subst he
  exact ⟨_, rfl, _, _, _, [], _, _, hW', trodAll_mk1 (shut_bool Tryd.underlying4 _), (trodAll_cons_mk (shut_string Tryd.underlying9 w0) trodAll_mk0), ⟨0, 92, opCells, 4, [], [], hg, ht, var?_below bel hg HT.lt hvar, reads_ops enc W' _, rfl, rfl⟩, bel.frame _, fun h => by cases h⟩

set_option maxRecDepth 100000 in
theorem reads (os : Os) {H : Type} (enc : TypeId × Value → H) : ∃ x, DataW.whole enc Tryd.prog ((laidWorld os).forCall (fun _ _ => 0) ⟨#[], #[.string ByteArray.empty], []⟩).memory Tryd.f11.params.toList Rows.fnExactReadInstrSpec.vars false (#[.string ByteArray.empty] : Array Value).toList 8 = some x :=
  Option.isSome_iff_exists.1 (by kernel_rfl)

set_option maxRecDepth 100000 in
theorem lifted (os : Os) (started : os.Started) (H : Type) (enc : TypeId × Value → H) (F : Stop.Interp) :
    ReturnsInHanded {} Tryd.checked os 11 .any ((OpenSpec.ofChange Rows.fnExactReadInstrSpec).preRow enc Tryd.prog Tryd.f11 Rows.fnExactReadInstrRow.domain false Rows.fnExactReadInstrRow.laid) (((OpenSpec.ofChange Rows.fnExactReadInstrSpec).at F).post enc Tryd.prog Tryd.f11 false true false false) := by
  obtain ⟨x, hx⟩ := reads os enc
  refine returnsInHanded_of_row (C := Tryd.checked) (s := OpenSpec.ofChange Rows.fnExactReadInstrSpec) ownK started (by kernel_rfl) Tryd.func11
    (witness_row_at (enc := enc) (C := Tryd.checked) false (laidWorld os) #[.string ByteArray.empty] rfl (by kernel_rfl) (by kernel_rfl) (by kernel_rfl)
      (OpenSpec.preRow_of_cond 8 hx rfl (fun k hk => by cases hk) (by kernel_rfl) (laid_met os _))) ?_
  intro W base args ds gs before hval hW _ _ _ hL _ _
  exact contract H enc W base args ds gs before hval hW hL

theorem k0 : (Rows.fnExactReadInstrRow.wf (OpenSpec.ofChange Rows.fnExactReadInstrSpec)) = true := by kernel_rfl
set_option maxRecDepth 100000 in
theorem k3 : (Tryd.f11.params.all (Tryd.prog.readableRec ·)) = true := by kernel_rfl
set_option maxRecDepth 100000 in
theorem k4 : (namedTie Tryd.prog Rows.fnExactReadInstrRow.named Rows.fnExactReadInstrSpec.vars) = true := by kernel_rfl
theorem k5 : ((Rows.fnExactReadInstrRow.stops == [])) = true := by kernel_rfl
set_option maxRecDepth 100000 in
theorem k6 : ((Tryd.prog.stops == [])) = true := by kernel_rfl
theorem k7 : ((Rows.fnExactReadInstrRow.knobs == [])) = true := by kernel_rfl
set_option maxRecDepth 100000 in
theorem k8 : ((Tryd.prog.stopKnobs == [])) = true := by kernel_rfl
set_option maxRecDepth 100000 in
theorem k9 : ((Rows.fnExactReadInstrRow.inPlace == Tryd.prog.inPlace 11)) = true := by kernel_rfl
set_option maxRecDepth 100000 in
theorem k10 : ((Rows.fnExactReadInstrRow.unfollowed == Tryd.prog.unfollowed 11)) = true := by kernel_rfl
set_option maxRecDepth 100000 in
theorem k11 : ((Rows.fnExactReadInstrRow.recurses == Tryd.prog.recurses 11)) = true := by kernel_rfl
set_option maxRecDepth 100000 in
theorem k12 : ((Rows.fnExactReadInstrRow.named == Tryd.prog.varsNamed 11)) = true := by kernel_rfl
set_option maxRecDepth 100000 in
theorem k13 : ((Rows.fnExactReadInstrRow.maps == (Tryd.f11.params.toList ++ Rows.fnExactReadInstrSpec.plain.varTypes Tryd.prog).any (Tryd.prog.mapsRec ·))) = true := by kernel_rfl
set_option maxRecDepth 100000 in
theorem k14 : ((Rows.fnExactReadInstrRow.ifaces == (Tryd.f11.params.toList ++ Rows.fnExactReadInstrSpec.plain.varTypes Tryd.prog).any (Tryd.prog.ifacesRec ·))) = true := by kernel_rfl
set_option maxRecDepth 100000 in
theorem k15 : ((Rows.fnExactReadInstrRow.mapsOut == Tryd.prog.mapsAmong Tryd.f11.resultTypes.toList)) = true := by kernel_rfl
set_option maxRecDepth 100000 in
theorem k16 : ((Rows.fnExactReadInstrRow.loops == (Tryd.f11.params.toList ++ Rows.fnExactReadInstrSpec.plain.varTypes Tryd.prog).any (Tryd.prog.loopsFrom ·))) = true := by kernel_rfl
set_option maxRecDepth 100000 in
theorem k17 : ((Rows.fnExactReadInstrRow.wideKeys == (Tryd.f11.params.toList ++ Rows.fnExactReadInstrSpec.plain.varTypes Tryd.prog ++ Tryd.f11.resultTypes.toList).any (Tryd.prog.wideKeysFrom ·))) = true := by kernel_rfl
set_option maxRecDepth 100000 in
theorem k18 : (Rows.fnExactReadInstrSpec.vars.all (Tryd.prog.varReadable ·)) = true := by kernel_rfl
set_option maxRecDepth 100000 in
theorem k19 : (Tryd.f11.resultTypes.all (fun t => Tryd.prog.readableRec t && decide (t < Tryd.prog.types.size))) = true := by kernel_rfl
set_option maxRecDepth 100000 in
theorem k20 : ((Rows.fnExactReadInstrRow.ifacesOut == Tryd.f11.resultTypes.toList.any (Tryd.prog.ifacesRec ·))) = true := by kernel_rfl
set_option maxRecDepth 100000 in
theorem k21 : ((Rows.fnExactReadInstrRow.loopsOut == Tryd.f11.resultTypes.toList.any (Tryd.prog.loopsFrom ·))) = true := by kernel_rfl
set_option maxRecDepth 100000 in
theorem k22 : ((Rows.fnExactReadInstrRow.plainKeys == Tryd.prog.plainKeys)) = true := by kernel_rfl
theorem k23 : (Rows.fnExactReadInstrRow.shortTexts.isNone) = true := by kernel_rfl
set_option maxRecDepth 100000 in
theorem k28 : ((Rows.fnExactReadInstrRow.kinds == (if Rows.fnExactReadInstrRow.domain.isEmpty then [] else Tryd.f11.params.toList.map fun t => match Tryd.prog.underlying t with | some (.int k) => some k | _ => none))) = true := by kernel_rfl
theorem k29 : ((Rows.fnExactReadInstrRow.pinned == Rows.fnExactReadInstrRow.pinnedBy)) = true := by kernel_rfl
set_option maxRecDepth 100000 in
theorem k30 : ((Rows.fnExactReadInstrRow.veiled == (Tryd.f11.params.toList ++ Rows.fnExactReadInstrSpec.plain.varTypes Tryd.prog ++ Tryd.f11.resultTypes.toList).any (Tryd.prog.veiledRec ·))) = true := by kernel_rfl
set_option maxRecDepth 100000 in
theorem k31 : (Rows.fnExactReadInstrRow.veiledFits Tryd.prog Tryd.f11.params.toList (Tryd.f11.params.toList ++ Rows.fnExactReadInstrSpec.plain.varTypes Tryd.prog ++ Tryd.f11.resultTypes.toList)) = true := by kernel_rfl
set_option maxRecDepth 100000 in
theorem facts : joinedFacts Tryd.prog 11 Tryd.f11 Rows.fnExactReadInstrSpec Rows.fnExactReadInstrRow = true := (and_mk (and_mk (and_mk (and_mk (and_mk (and_mk (and_mk (and_mk (and_mk (and_mk (and_mk (and_mk (and_mk (and_mk (and_mk (and_mk (and_mk (and_mk (and_mk (and_mk (and_mk (and_mk (and_mk (and_mk (and_mk (and_mk (and_mk (and_mk (and_mk (and_mk (and_mk k0 factLaid) factRowed) k3) k4) k5) k6) k7) k8) k9) k10) k11) k12) k13) k14) k15) k16) k17) k18) k19) k20) k21) k22) k23) factHeard) factEnter) factLift) factMake) k28) k29) k30) k31)
set_option maxRecDepth 100000 in
theorem named : Tryd.prog.funcNamed Rows.fnExactReadInstrRow.func = some 11 := by kernel_rfl
set_option maxRecDepth 100000 in
theorem inst : Tryd.f11.isInstance Tryd.prog Rows.fnExactReadInstrRow.origin Rows.fnExactReadInstrRow.targs := of_decide_eq_true (by kernel_rfl)
set_option maxRecDepth 100000 in
theorem said : Rows.FnExactReadInstrSaid :=
  OpenClaim.holds_of_cond 11 Tryd.f11 rfl rfl rfl rfl rfl rfl rfl ⟨rfl, rfl, rfl, rfl, rfl⟩ rfl rfl rfl rfl rfl named Tryd.func11 facts
    inst (by unfold Func.isWrapper; first | (rw [if_pos (by decide +kernel)]; kernel_rfl) | (rw [if_neg (by decide +kernel)]; exact ⟨rfl, rfl⟩))
    (fun os started H enc _ F => by rw [OpenClaim.pre_eq_preRow]; exact lifted os started H enc F)

set_option maxRecDepth 100000 in
theorem plain (f : FuncId) (fn : Func) (hf : Tryd.pinned.checked.prog.funcNamed "loop.example/g00563/laws.FnExactReadInstr" = some f) (hfn : Tryd.pinned.checked.prog.funcs[f]? = some fn) :
    false = Tryd.pinned.checked.prog.looks [] ∧ ∀ (j : Nat) t, fn.params[j]? = some t → Tryd.pinned.checked.prog.wantsStandIn t = false := by
  obtain rfl : f = 11 := Option.some.inj ((show Tryd.prog.funcNamed "loop.example/g00563/laws.FnExactReadInstr" = some 11 by kernel_rfl).symm.trans hf) |>.symm
  obtain rfl : fn = Tryd.f11 := (Option.some.inj (Tryd.func11.symm.trans hfn)).symm
  refine ⟨by kernel_rfl, fun j t ht => ?_⟩
  rw [Tryd.params11] at ht
  have hm := Array.mem_of_getElem? ht
  simp only [List.mem_toArray, List.mem_cons, List.not_mem_nil, or_false] at hm
  subst hm; exact (show Tryd.prog.wantsStandIn _ = false by kernel_rfl)

theorem card : Rows.FnExactReadInstrCardSaid :=
  Claim7.holds_tied_plain_at .later [] _ _ _ _ said (fun _ h => by cases h) (by kernel_rfl) (fun _ h => by cases h) fnExactReadInstr_row_tie rfl ⟨rfl, rfl⟩ (by kernel_rfl) rfl plain (by kernel_rfl)
#print axioms card
end Go.Proofs.YtoaeofahknknhaaDoor.fnExactReadInstr
