/- ReadInstr, both sides. Written by gen_readi.py. -/
import Derived.Test.YtcchhbkbnbphhaaDoorReadS
namespace Go.Proofs.YtcchhbkbnbphhaaDoor
open Go.RowKit

def rdI (s : ByteArray) : (Int × Int × Int) × Int := if 65536 < s.size then ((0, 0, 0), 2) else if (rdF s).2 then ((rdF s).1, 0) else ((0, 0, 0), 3)
theorem rdI_long {s : ByteArray} (h : 65536 < s.size) : rdI s = ((0, 0, 0), 2) := by unfold rdI; rw [if_pos h]
theorem rdI_ok {s : ByteArray} (h : ¬ 65536 < s.size) {a b c : Int} (r : rdF s = ((a, b, c), true)) : rdI s = ((a, b, c), 0) := by unfold rdI; rw [if_neg h, r]; rfl
theorem rdI_no {s : ByteArray} (h : ¬ 65536 < s.size) {a b c : Int} (r : rdF s = ((a, b, c), false)) : rdI s = ((0, 0, 0), 3) := by unfold rdI; rw [if_neg h, r]; rfl

set_option maxHeartbeats 4000000 in
set_option maxRecDepth 100000 in
theorem implReadInstr (s : ByteArray) (w : World) (hs : s.size ≤ 1048576) (ht : OpsT w) : Calls Tryd.prog 10 #[.string s] w fun e w' => e = .returned (.tuple #[.agg #[.int .i64 (rdI s).1.1, .int .i64 (rdI s).1.2.1, .int .i64 (rdI s).1.2.2], .int .i64 (rdI s).2]) ∧ Below w.heap.size w w' := by
  have HS0 := Lib.hid hs
  obtain ⟨W0, hW0⟩ : ∃ W0, W0 = w.alloc (.cells #[.int .i64 0, .int .i64 0, .int .i64 0] 24) := ⟨_, rfl⟩
  have hb0 : Below w.heap.size w W0 := by rw [hW0]; exact alloc_below _ _
  have X0 : Hid (Box W0 w.heap.size 24 #[.int .i64 0, .int .i64 0, .int .i64 0]) := Lib.hid (by rw [hW0]; exact Box.new _ _ _)
  have HW0 := Lib.hid hW0
  have HB0 := Lib.hid hb0
  have HT := Lib.hid (ht.below hb0)
  clear ht
  clear hW0 hb0
  by_cases hl : 65536 < s.size
  · have i1 : (65536 : Int) < (s.size : Int) := by omega
    have HF := Lib.hid (rdI_long hl)
    generalize rdI s = R at HF ⊢
    clear hl
    go_enter Tryd.func10, Tryd.ntmps10
    go_wp2
    rw [← HW0.out]
    have HRes := X0
    refine bodyPost_ret (v := .tuple #[.agg #[.int .i64 0, .int .i64 0, .int .i64 0], .int .i64 2]) (by simp [results, Tryd.results10, go_sem, HRes.out.cell 0 rfl, HRes.out.cell 1 rfl, HRes.out.cell 2 rfl]) rfl ?_
    exact ⟨by rw [HF.out], HB0.out⟩
  · have i1 : ¬ (65536 : Int) < (s.size : Int) := by omega
    have HOk := Lib.hid (fun a b c r => @rdI_ok s hl a b c r)
    have HNo := Lib.hid (fun a b c r => @rdI_no s hl a b c r)
    generalize rdI s = R at HOk HNo ⊢
    clear hl
    have HC := Lib.hid (fun m W t v => readI m s W (by have := HS0.out; omega) t v)
    generalize rdF s = r at HC HOk HNo
    obtain ⟨⟨a, b, c⟩, ok⟩ := r
    go_enter Tryd.func10, Tryd.ntmps10
    go_wp2_with fail
    rw [← HW0.out]
    refine (newVoc W0 HT.out).mono ?_
    rintro e w1 ⟨m, rfl, HV, hb⟩
    have HB1 := Lib.hid (bt HB0.out hb)
    have X1 := Lib.hid (X0.out.step hb)
    have HT1 := Lib.hid (HT.out.below hb)
    clear hb X0 HB0 HT HW0
    go_wp2_with fail
    refine (HC.out m w1 HT1.out HV.out).mono ?_
    rintro e w2 ⟨rfl, hb⟩
    have HB2 := Lib.hid (bt HB1.out hb)
    have X2 := Lib.hid (X1.out.step hb)
    clear hb
    obtain ⟨W3, hW3⟩ : ∃ W, W = w2.alloc (.cells #[.int .i64 a, .int .i64 b, .int .i64 c] 24) := ⟨_, rfl⟩
    have hb3 : Below w2.heap.size w2 W3 := by rw [hW3]; exact alloc_below _ _
    have Y3 : Hid (Box W3 w2.heap.size 24 #[.int .i64 a, .int .i64 b, .int .i64 c]) := Lib.hid (by rw [hW3]; exact Box.new _ _ _)
    have HW3 := Lib.hid hW3
    have HB3 := Lib.hid (bt HB2.out hb3)
    have X3 := Lib.hid (X2.out.step hb3)
    clear hW3 hb3
    cases ok with
    | false =>
      have HF := Lib.hid (HNo.out a b c rfl)
      have g0 := X3.out.cell 0 rfl
      have g1 := X3.out.cell 1 rfl
      have g2 := X3.out.cell 2 rfl
      have gn0 := X3.out.frozen 0
      have gn1 := X3.out.frozen 1
      have gn2 := X3.out.frozen 2
      rw [HW3.out] at g0 g1 g2 gn0 gn1 gn2
      go_wp2
      rw [← HW3.out]
      have HRes := Lib.hid (((X3.out.set 0 (.int .i64 0)).set 1 (.int .i64 0)).set 2 (.int .i64 0))
      refine bodyPost_ret (v := .tuple #[.agg #[.int .i64 0, .int .i64 0, .int .i64 0], .int .i64 3]) (by simp [results, Tryd.results10, go_sem, HRes.out.cell 0 rfl, HRes.out.cell 1 rfl, HRes.out.cell 2 rfl]) rfl ?_
      exact ⟨by rw [HF.out], ((HB3.out.setCell (Nat.le_refl _) _).setCell (Nat.le_refl _) _).setCell (Nat.le_refl _) _⟩
    | true =>
      have HF := Lib.hid (HOk.out a b c rfl)
      have y0 := Y3.out.cell 0 rfl
      have y1 := Y3.out.cell 1 rfl
      have y2 := Y3.out.cell 2 rfl
      have g0 := X3.out.cell 0 rfl
      have g1 := X3.out.cell 1 rfl
      have g2 := X3.out.cell 2 rfl
      have gn0 := X3.out.frozen 0
      have gn1 := X3.out.frozen 1
      have gn2 := X3.out.frozen 2
      rw [HW3.out] at y0 y1 y2 g0 g1 g2 gn0 gn1 gn2
      go_wp2
      rw [← HW3.out]
      have HRes := Lib.hid (((X3.out.set 0 (.int .i64 a)).set 1 (.int .i64 b)).set 2 (.int .i64 c))
      refine bodyPost_ret (v := .tuple #[.agg #[.int .i64 a, .int .i64 b, .int .i64 c], .int .i64 0]) (by simp [results, Tryd.results10, go_sem, HRes.out.cell 0 rfl, HRes.out.cell 1 rfl, HRes.out.cell 2 rfl]) rfl ?_
      exact ⟨by rw [HF.out], ((HB3.out.setCell (Nat.le_refl _) _).setCell (Nat.le_refl _) _).setCell (Nat.le_refl _) _⟩
set_option maxRecDepth 100000 in
theorem implReadInstrA (a0d0 : ByteArray) (w : World) (s : a0d0.size ≤ 1048576) (t : OpsT w) : Calls Tryd.prog 10 #[.string a0d0] w fun e w' => e = .returned (.tuple #[.agg #[.int .i64 (rdI a0d0).1.1, .int .i64 (rdI a0d0).1.2.1, .int .i64 (rdI a0d0).1.2.2], .int .i64 (rdI a0d0).2]) ∧ Below w.heap.size w w' := implReadInstr a0d0 w s t
end Go.Proofs.YtcchhbkbnbphhaaDoor
