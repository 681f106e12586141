/- Decode on both sides, whole. Written by gen_opdec2.py. -/
import Derived.Test.YtoaeofahknknhaaDoorOpDec
namespace Go.Proofs.YtoaeofahknknhaaDoor
open Go.RowKit
theorem decF_t {a b c : Int} (h : (0 ≤ a ∧ a ≤ 255) ∧ (0 ≤ b ∧ b ≤ 255) ∧ (0 ≤ c ∧ c ≤ 255)) : decF a b c = (decV a b c, 0) := by unfold decF; rw [byT_t h]; rfl
theorem decF_f {a b c : Int} (h : ¬ ((0 ≤ a ∧ a ≤ 255) ∧ (0 ≤ b ∧ b ≤ 255) ∧ (0 ≤ c ∧ c ≤ 255))) : decF a b c = ((0, 0, 0), 4) := by unfold decF; rw [byT_f h]; rfl
section
variable (a b c : Int) (w : World)
set_option maxRecDepth 100000 in
set_option maxHeartbeats 4000000 in
theorem implDecode (ht : OpsT w) : Calls Tryd.prog 24 #[.int .i64 a, .int .i64 b, .int .i64 c] w fun e w' => e = .returned (.tuple #[.agg #[.int .i64 (decF a b c).1.1, .int .i64 (decF a b c).1.2.1, .int .i64 (decF a b c).1.2.2], .int .i64 (decF a b c).2]) ∧ Below w.heap.size w w' := by
  have hlt := ht.lt
  have HT := Lib.hid ht
  clear ht
  by_cases h : (0 ≤ a ∧ a ≤ 255) ∧ (0 ≤ b ∧ b ≤ 255) ∧ (0 ≤ c ∧ c ≤ 255)
  · have HF := Lib.hid (decF_t h)
    have p1 := inB_t h.1
    have p2 := inB_t h.2.1
    have p3 := inB_t h.2.2
    obtain ⟨⟨a0, a1⟩, ⟨b0, b1⟩, ⟨c0, c1⟩⟩ := h
    have HO := Lib.hid (fun W (t : OpsT W) => decodeI a b c W t a0 a1 b0 b1 c0 c1)
    rw [HF.out]
    generalize decV a b c = v at HO ⊢
    obtain ⟨x, y, z⟩ := v
    clear HF
    obtain ⟨W0, hW0⟩ : ∃ W0, W0 = w.alloc (.cells #[.int .i64 0, .int .i64 0, .int .i64 0] 24) := ⟨_, rfl⟩
    have hw0 : Below w.heap.size w W0 := by rw [hW0]; exact alloc_below _ _
    have X0 : Hid (Box W0 w.heap.size 24 #[.int .i64 0, .int .i64 0, .int .i64 0]) := Lib.hid (by rw [hW0]; exact Box.new _ _ _)
    have HW0 := Lib.hid hW0
    have HB0 := Lib.hid hw0
    clear hW0 hw0
    go_enter Tryd.func24, Tryd.ntmps24
    go_wp2_with (go_at_call 56; refine (isByteA _ _).mono ?_; rintro e w' ⟨rfl, rfl⟩)
    rw [← HW0.out]
    refine (HO.out _ (HT.out.below HB0.out)).mono ?_
    rintro e w2 ⟨rfl, hb⟩
    have HB3 := Lib.hid (bt HB0.out hb)
    have V0 := Lib.hid (X0.out.step hb)
    clear hb X0
    have g0 := V0.out.cell 0 rfl
    have g1 := V0.out.cell 1 rfl
    have g2 := V0.out.cell 2 rfl
    have n0 := V0.out.frozen 0
    have n1 := V0.out.frozen 1
    have n2 := V0.out.frozen 2
    go_wp2
    have HR := Lib.hid (((V0.out.set 0 (.int .i64 x)).set 1 (.int .i64 y)).set 2 (.int .i64 z))
    refine bodyPost_ret (v := .tuple #[.agg #[.int .i64 (x), .int .i64 (y), .int .i64 (z)], .int .i64 0]) (by simp [results, Tryd.results24, go_sem, HR.out.cell 0 rfl, HR.out.cell 1 rfl, HR.out.cell 2 rfl]) rfl ?_
    exact ⟨rfl, ((HB3.out.setCell (Nat.le_refl _) _).setCell (Nat.le_refl _) _).setCell (Nat.le_refl _) _⟩
  · have HF := Lib.hid (decF_f h)
    rw [HF.out]
    clear HF HT
    by_cases h1 : 0 ≤ a ∧ a ≤ 255
    · have p1 := inB_t h1
      by_cases h2 : 0 ≤ b ∧ b ≤ 255
      · have p2 := inB_t h2
        have p3 := inB_f (fun h3 => h ⟨h1, h2, h3⟩)
        clear h1 h2
        clear h
        go_enter Tryd.func24, Tryd.ntmps24
        go_wp2_with (go_at_call 56; refine (isByteA _ _).mono ?_; rintro e w' ⟨rfl, rfl⟩)
        refine bodyPost_ret (v := .tuple #[.agg #[.int .i64 (0), .int .i64 (0), .int .i64 (0)], .int .i64 4]) (by simp [results, Tryd.results24, go_sem]) rfl ?_
        exact ⟨rfl, alloc_below _ _⟩
      · have p2 := inB_f h2
        clear h1 h2
        clear h
        go_enter Tryd.func24, Tryd.ntmps24
        go_wp2_with (go_at_call 56; refine (isByteA _ _).mono ?_; rintro e w' ⟨rfl, rfl⟩)
        refine bodyPost_ret (v := .tuple #[.agg #[.int .i64 (0), .int .i64 (0), .int .i64 (0)], .int .i64 4]) (by simp [results, Tryd.results24, go_sem]) rfl ?_
        exact ⟨rfl, alloc_below _ _⟩
    · have p1 := inB_f h1
      clear h1
      clear h
      go_enter Tryd.func24, Tryd.ntmps24
      go_wp2_with (go_at_call 56; refine (isByteA _ _).mono ?_; rintro e w' ⟨rfl, rfl⟩)
      refine bodyPost_ret (v := .tuple #[.agg #[.int .i64 (0), .int .i64 (0), .int .i64 (0)], .int .i64 4]) (by simp [results, Tryd.results24, go_sem]) rfl ?_
      exact ⟨rfl, alloc_below _ _⟩
theorem all3 : [a, b, c].all byN = byT a b c := by simp [byN, byT]
set_option maxRecDepth 100000 in
set_option maxHeartbeats 4000000 in
theorem specDecode : Calls Tryd.prog 25 #[.int .i64 a, .int .i64 b, .int .i64 c] w fun e w' => e = .returned (.tuple #[.agg #[.int .i64 (decF a b c).1.1, .int .i64 (decF a b c).1.2.1, .int .i64 (decF a b c).1.2.2], .int .i64 (decF a b c).2]) ∧ Below w.heap.size w w' := by
  obtain ⟨W0, hW0⟩ : ∃ W0, W0 = (w.alloc (.cells #[.int .i64 0, .int .i64 0, .int .i64 0] 24)).alloc (.cells #[.int .i64 a, .int .i64 b, .int .i64 c] 3) := ⟨_, rfl⟩
  have hw0 : Below w.heap.size w W0 := by rw [hW0]; exact ((Below.refl _ _).alloc (Nat.le_refl _) _).alloc (by simp) _
  have X0 : Hid (Box W0 w.heap.size 24 #[.int .i64 0, .int .i64 0, .int .i64 0]) := Lib.hid (by rw [hW0]; exact (Box.new _ _ _).alloc _)
  have X1 : Box W0 (w.heap.size + 1) 3 #[.int .i64 a, .int .i64 b, .int .i64 c] := by rw [hW0]; simpa using Box.new (w.alloc (.cells #[.int .i64 0, .int .i64 0, .int .i64 0] 24)) 3 #[.int .i64 a, .int .i64 b, .int .i64 c]
  have HY := Lib.hid (l05BytesA (some ⟨w.heap.size + 1, 0, none⟩) 3 3 [a, b, c] W0 rfl (by unfold maxLen; omega) (fun i hi => ⟨_, _, rfl, by
    match i, hi with
    | 0, _ => exact X1.cell 0 rfl
    | 1, _ => exact X1.cell 1 rfl
    | 2, _ => exact X1.cell 2 rfl⟩))
  rw [all3] at HY
  have HW0 := Lib.hid hW0
  have HB0 := Lib.hid hw0
  clear hW0 hw0 X1
  by_cases h : (0 ≤ a ∧ a ≤ 255) ∧ (0 ≤ b ∧ b ≤ 255) ∧ (0 ≤ c ∧ c ≤ 255)
  · have HF := Lib.hid (decF_t h)
    have HT := byT_t h
    rw [HT] at HY
    clear HT
    obtain ⟨⟨a0, a1⟩, ⟨b0, b1⟩, ⟨c0, c1⟩⟩ := h
    have HO := Lib.hid (fun W => l07DecodeS a b c W a0 a1 b0 b1 c0 c1)
    rw [HF.out]
    generalize decV a b c = v at HO ⊢
    obtain ⟨x, y, z⟩ := v
    clear HF
    go_enter Tryd.func25, Tryd.ntmps25
    go_wp2_with fail
    rw [← HW0.out]
    refine HY.out.mono ?_
    rintro e w' ⟨rfl, rfl⟩
    go_wp2_with fail
    refine (HO.out _).mono ?_
    rintro e w2 ⟨rfl, hb⟩
    have HB3 := Lib.hid (bt HB0.out hb)
    have V0 := Lib.hid (X0.out.step hb)
    clear hb X0
    have g0 := V0.out.cell 0 rfl
    have g1 := V0.out.cell 1 rfl
    have g2 := V0.out.cell 2 rfl
    have n0 := V0.out.frozen 0
    have n1 := V0.out.frozen 1
    have n2 := V0.out.frozen 2
    go_wp2
    have HR := Lib.hid (((V0.out.set 0 (.int .i64 x)).set 1 (.int .i64 y)).set 2 (.int .i64 z))
    refine bodyPost_ret (v := .tuple #[.agg #[.int .i64 (x), .int .i64 (y), .int .i64 (z)], .int .i64 0]) (by simp [results, Tryd.results25, go_sem, HR.out.cell 0 rfl, HR.out.cell 1 rfl, HR.out.cell 2 rfl]) rfl ?_
    exact ⟨rfl, ((HB3.out.setCell (Nat.le_refl _) _).setCell (Nat.le_refl _) _).setCell (Nat.le_refl _) _⟩
  · have HF := Lib.hid (decF_f h)
    have HT := byT_f h
    rw [HT] at HY
    rw [HF.out]
    clear HF HT h
    have g0 := X0.out.cell 0 rfl
    have g1 := X0.out.cell 1 rfl
    have g2 := X0.out.cell 2 rfl
    have n0 := X0.out.frozen 0
    have n1 := X0.out.frozen 1
    have n2 := X0.out.frozen 2
    go_enter Tryd.func25, Tryd.ntmps25
    go_wp2_with fail
    rw [← HW0.out]
    refine HY.out.mono ?_
    rintro e w' ⟨rfl, rfl⟩
    go_wp2
    have HR := Lib.hid (((X0.out.set 0 (.int .i64 0)).set 1 (.int .i64 0)).set 2 (.int .i64 0))
    refine bodyPost_ret (v := .tuple #[.agg #[.int .i64 (0), .int .i64 (0), .int .i64 (0)], .int .i64 4]) (by simp [results, Tryd.results25, go_sem, HR.out.cell 0 rfl, HR.out.cell 1 rfl, HR.out.cell 2 rfl]) rfl ?_
    exact ⟨rfl, ((HB0.out.setCell (Nat.le_refl _) _).setCell (Nat.le_refl _) _).setCell (Nat.le_refl _) _⟩
end
set_option maxRecDepth 100000 in
theorem specDecodeA (a0 b0 c0 : Int) (w : World) : Calls Tryd.prog 25 #[.int .i64 a0, .int .i64 b0, .int .i64 c0] w fun e w' => e = .returned (.tuple #[.agg #[.int .i64 (decF a0 b0 c0).1.1, .int .i64 (decF a0 b0 c0).1.2.1, .int .i64 (decF a0 b0 c0).1.2.2], .int .i64 (decF a0 b0 c0).2]) ∧ Below w.heap.size w w' := specDecode a0 b0 c0 w
set_option maxRecDepth 100000 in
theorem implDecodeA (a0 b0 c0 : Int) (w : World) (t : OpsT w) : Calls Tryd.prog 24 #[.int .i64 a0, .int .i64 b0, .int .i64 c0] w fun e w' => e = .returned (.tuple #[.agg #[.int .i64 (decF a0 b0 c0).1.1, .int .i64 (decF a0 b0 c0).1.2.1, .int .i64 (decF a0 b0 c0).1.2.2], .int .i64 (decF a0 b0 c0).2]) ∧ Below w.heap.size w w' := implDecode a0 b0 c0 w t
end Go.Proofs.YtoaeofahknknhaaDoor
