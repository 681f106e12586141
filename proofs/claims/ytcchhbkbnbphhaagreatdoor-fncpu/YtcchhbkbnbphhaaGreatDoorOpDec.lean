/- Decode on both sides. -/
import Derived.Test.YtcchhbkbnbphhaaGreatDoorM4
namespace Go.Proofs.YtcchhbkbnbphhaaGreatDoor
open Go.RowKit

def decArg (a b c : Int) : Int := if lenT (a / 8) = 2 then b else if lenT (a / 8) = 3 then b + 256 * c else 0
def decV (a b c : Int) : Int × Int × Int := if okIns (a / 8) (a % 8) (decArg a b c) then (a / 8, a % 8, decArg a b c) else (22, 0, 0)
section
variable (a b c : Int) (w : World)
set_option maxRecDepth 100000 in
set_option maxHeartbeats 8000000 in
theorem decodeI (ht : OpsT w) (ha0 : 0 ≤ a) (ha1 : a ≤ 255) (hb0 : 0 ≤ b) (hb1 : b ≤ 255) (hc0 : 0 ≤ c) (hc1 : c ≤ 255) :
    Calls Tryz.prog 82 #[.int .i64 a, .int .i64 b, .int .i64 c] w fun e w' => e = .returned (.agg #[.int .i64 (decV a b c).1, .int .i64 (decV a b c).2.1, .int .i64 (decV a b c).2.2]) ∧ Below w.heap.size w w' := by
  have HT := Lib.hid ht
  have hlt := ht.lt
  clear ht
  by_cases h22 : 22 ≤ a / 8
  · have HV : Hid (decV a b c = (22, 0, 0)) := Lib.hid (by unfold decV; rw [okIns_op _ _ _ (by omega)]; rfl)
    rw [HV.out]
    clear HV HT
    go_enter Tryz.func82, Tryz.ntmps82
    go_wp2
    refine bodyPost_ret (v := .agg #[.int .i64 22, .int .i64 0, .int .i64 0]) (by simp [results, Tryz.results82, go_sem]) rfl ?_
    exact ⟨rfl, (((Below.refl _ _).alloc (Nat.le_refl _) _).alloc (by simp) _).alloc (by simp; omega) _⟩
  · have HV : Hid (decV a b c = if okIns (a / 8) (a % 8) (decArg a b c) then (a / 8, a % 8, decArg a b c) else (22, 0, 0)) := Lib.hid rfl
    generalize decV a b c = dv at HV ⊢
    have HD : Hid (decArg a b c = if lenT (a / 8) = 2 then b else if lenT (a / 8) = 3 then b + 256 * c else 0) := Lib.hid rfl
    generalize decArg a b c = da at HV HD
    obtain ⟨k, hk⟩ : ∃ k : Nat, a / 8 = k := ⟨(a / 8).toNat, by omega⟩
    have hk2 : k < 22 := by omega
    rw [hk] at HV HD
    have HO := Lib.hid (fun W (h : OpsT W) => valid k (a % 8) da W h)
    generalize okIns k (a % 8) da = ok at HV HO
    obtain ⟨c1, c2, c3, c4⟩ := HT.out k (by omega)
    have HL := Lib.hid (lenA_arg k)
    have hl := lenT_range k
    generalize lenT k = l at HL HD hl
    generalize opWord k = s at c1
    generalize regT k = r at c2
    generalize argT k = ar at c3 HL
    generalize fixT k = cy at c4
    have hl3 : l = 1 ∨ l = 2 ∨ l = 3 := by omega
    have h23 : ¬ (22 : Int) ≤ (k : Int) := by omega
    obtain ⟨W0, hW0⟩ : ∃ W0, W0 = ((w.alloc (.cells #[.int .i64 0, .int .i64 0, .int .i64 0] 82)).alloc (.cells #[.int .i64 (22), .int .i64 (0), .int .i64 (0)] 82)).alloc (.cells #[.int .i64 ((k : Int)), .int .i64 (a % 8), .int .i64 (0)] 82) := ⟨_, rfl⟩
    have hw0 : Below w.heap.size w W0 := by rw [hW0]; exact (((Below.refl _ _).alloc (Nat.le_refl _) _).alloc (by simp) _).alloc (by simp; omega) _
    have X0 : Hid (Box W0 w.heap.size 82 #[.int .i64 0, .int .i64 0, .int .i64 0]) := Lib.hid (by rw [hW0]; exact ((Box.new _ _ _).alloc _).alloc _)
    have X1 : Hid (Box W0 (w.heap.size + 1) 82 #[.int .i64 (22), .int .i64 (0), .int .i64 (0)]) := Lib.hid (by rw [hW0]; simpa using (Box.new (w.alloc (.cells #[.int .i64 0, .int .i64 0, .int .i64 0] 82)) 82 #[.int .i64 (22), .int .i64 (0), .int .i64 (0)]).alloc _)
    have X2 : Hid (Box W0 (w.heap.size + 1 + 1) 82 #[.int .i64 ((k : Int)), .int .i64 (a % 8), .int .i64 (0)]) := Lib.hid (by rw [hW0]; simpa using Box.new ((w.alloc (.cells #[.int .i64 0, .int .i64 0, .int .i64 0] 82)).alloc (.cells #[.int .i64 (22), .int .i64 (0), .int .i64 (0)] 82)) 82 #[.int .i64 ((k : Int)), .int .i64 (a % 8), .int .i64 (0)])
    have HW0 := Lib.hid hW0
    have HB0 := Lib.hid hw0
    clear hl h22 hW0 hw0
    rcases hl3 with rfl | rfl | rfl
    · have e : da = 0 := HD.out
      rw [e] at HV HO
      clear HD e da
      cases ok
      · have HV2 : dv = ((22 : Int), 0, 0) := HV.out
        subst HV2
        clear HV
        go_enter Tryz.func82, Tryz.ntmps82
        go_wp2_with fail
        rw [← HW0.out]
        refine (opLength s r ar cy _).mono ?_
        rintro e w1 ⟨rfl, hb⟩
        rw [HL.out]
        have HB1 := Lib.hid (bt HB0.out hb)
        have Y0 := Lib.hid (X0.out.step hb)
        have Y1 := Lib.hid (X1.out.step hb)
        have Y2 := Lib.hid (X2.out.step hb)
        have HV1 := Lib.hid (HT.out.below HB1.out)
        clear hb X0 X1 X2 HB0 c1 c2 c3 c4
        have y0 := Y2.out.cell 0 rfl
        have y1 := Y2.out.cell 1 rfl
        have y2 := Y2.out.cell 2 rfl
        have z2 := Y2.out.frozen 2
        go_wp2_with fail
        have HB2 := HB1
        have Z0 := Y0
        have Z1 := Y1
        have Z2 := Y2
        have HV2 := HV1
        clear Y0 Y1 Y2 HB1 HV1
        refine (HO.out _ HV2.out).mono ?_
        rintro e w2 ⟨rfl, hb⟩
        clear y0 y1 y2 z2
        have HB3 := Lib.hid (bt HB2.out hb)
        have V0 := Lib.hid (Z0.out.step hb)
        have V1 := Lib.hid (Z1.out.step hb)
        have V2 : Hid (Box w2 (w.heap.size + 1 + 1) 82 #[.int .i64 ((k : Int)), .int .i64 (a % 8), .int .i64 (0)]) := Lib.hid (Z2.out.step hb)
        clear hb Z0 Z1 Z2 HB2 HV2
        have u0 := V1.out.cell 0 rfl
        have u1 := V1.out.cell 1 rfl
        have u2 := V1.out.cell 2 rfl
        have g0 := V0.out.cell 0 rfl
        have g1 := V0.out.cell 1 rfl
        have g2 := V0.out.cell 2 rfl
        have n0 := V0.out.frozen 0
        have n1 := V0.out.frozen 1
        have n2 := V0.out.frozen 2
        go_wp2
        have HR := Lib.hid (((V0.out.set 0 (.int .i64 ((22 : Int)))).set 1 (.int .i64 (0))).set 2 (.int .i64 (0)))
        refine bodyPost_ret (v := .agg #[.int .i64 ((22 : Int)), .int .i64 (0), .int .i64 (0)]) (by simp [results, Tryz.results82, go_sem, HR.out.cell 0 rfl, HR.out.cell 1 rfl, HR.out.cell 2 rfl]) rfl ?_
        exact ⟨rfl, ((HB3.out.setCell (Nat.le_refl _) _).setCell (Nat.le_refl _) _).setCell (Nat.le_refl _) _⟩
      · have HV2 : dv = ((k : Int), a % 8, 0) := HV.out
        subst HV2
        clear HV
        go_enter Tryz.func82, Tryz.ntmps82
        go_wp2_with fail
        rw [← HW0.out]
        refine (opLength s r ar cy _).mono ?_
        rintro e w1 ⟨rfl, hb⟩
        rw [HL.out]
        have HB1 := Lib.hid (bt HB0.out hb)
        have Y0 := Lib.hid (X0.out.step hb)
        have Y1 := Lib.hid (X1.out.step hb)
        have Y2 := Lib.hid (X2.out.step hb)
        have HV1 := Lib.hid (HT.out.below HB1.out)
        clear hb X0 X1 X2 HB0 c1 c2 c3 c4
        have y0 := Y2.out.cell 0 rfl
        have y1 := Y2.out.cell 1 rfl
        have y2 := Y2.out.cell 2 rfl
        have z2 := Y2.out.frozen 2
        go_wp2_with fail
        have HB2 := HB1
        have Z0 := Y0
        have Z1 := Y1
        have Z2 := Y2
        have HV2 := HV1
        clear Y0 Y1 Y2 HB1 HV1
        refine (HO.out _ HV2.out).mono ?_
        rintro e w2 ⟨rfl, hb⟩
        clear y0 y1 y2 z2
        have HB3 := Lib.hid (bt HB2.out hb)
        have V0 := Lib.hid (Z0.out.step hb)
        have V1 := Lib.hid (Z1.out.step hb)
        have V2 : Hid (Box w2 (w.heap.size + 1 + 1) 82 #[.int .i64 ((k : Int)), .int .i64 (a % 8), .int .i64 (0)]) := Lib.hid (Z2.out.step hb)
        clear hb Z0 Z1 Z2 HB2 HV2
        have u0 := V2.out.cell 0 rfl
        have u1 := V2.out.cell 1 rfl
        have u2 := V2.out.cell 2 rfl
        have g0 := V0.out.cell 0 rfl
        have g1 := V0.out.cell 1 rfl
        have g2 := V0.out.cell 2 rfl
        have n0 := V0.out.frozen 0
        have n1 := V0.out.frozen 1
        have n2 := V0.out.frozen 2
        go_wp2
        have HR := Lib.hid (((V0.out.set 0 (.int .i64 ((k : Int)))).set 1 (.int .i64 (a % 8))).set 2 (.int .i64 (0)))
        refine bodyPost_ret (v := .agg #[.int .i64 ((k : Int)), .int .i64 (a % 8), .int .i64 (0)]) (by simp [results, Tryz.results82, go_sem, HR.out.cell 0 rfl, HR.out.cell 1 rfl, HR.out.cell 2 rfl]) rfl ?_
        exact ⟨rfl, ((HB3.out.setCell (Nat.le_refl _) _).setCell (Nat.le_refl _) _).setCell (Nat.le_refl _) _⟩
    · have e : da = b := HD.out
      rw [e] at HV HO
      clear HD e da
      cases ok
      · have HV2 : dv = ((22 : Int), 0, 0) := HV.out
        subst HV2
        clear HV
        go_enter Tryz.func82, Tryz.ntmps82
        go_wp2_with fail
        rw [← HW0.out]
        refine (opLength s r ar cy _).mono ?_
        rintro e w1 ⟨rfl, hb⟩
        rw [HL.out]
        have HB1 := Lib.hid (bt HB0.out hb)
        have Y0 := Lib.hid (X0.out.step hb)
        have Y1 := Lib.hid (X1.out.step hb)
        have Y2 := Lib.hid (X2.out.step hb)
        have HV1 := Lib.hid (HT.out.below HB1.out)
        clear hb X0 X1 X2 HB0 c1 c2 c3 c4
        have y0 := Y2.out.cell 0 rfl
        have y1 := Y2.out.cell 1 rfl
        have y2 := Y2.out.cell 2 rfl
        have z2 := Y2.out.frozen 2
        go_wp2_with fail
        have HB2 : Hid (Below w.heap.size w (w1.setCell ⟨w.heap.size + 1 + 1, 2, none⟩ (.int .i64 (b)))) := Lib.hid (HB1.out.setCell (by show w.heap.size ≤ w.heap.size + 1 + 1; omega) _)
        have Z0 := Lib.hid (Y0.out.far (p := ⟨w.heap.size + 1 + 1, 2, none⟩) (by show w.heap.size ≠ w.heap.size + 1 + 1; omega) (.int .i64 (b)))
        have Z1 := Lib.hid (Y1.out.far (p := ⟨w.heap.size + 1 + 1, 2, none⟩) (by show w.heap.size + 1 ≠ w.heap.size + 1 + 1; omega) (.int .i64 (b)))
        have Z2 := Lib.hid (Y2.out.set 2 (.int .i64 (b)))
        have HV2 := Lib.hid (HT.out.below HB2.out)
        clear Y0 Y1 Y2 HB1 HV1
        refine (HO.out _ HV2.out).mono ?_
        rintro e w2 ⟨rfl, hb⟩
        clear y0 y1 y2 z2
        have HB3 := Lib.hid (bt HB2.out hb)
        have V0 := Lib.hid (Z0.out.step hb)
        have V1 := Lib.hid (Z1.out.step hb)
        have V2 : Hid (Box w2 (w.heap.size + 1 + 1) 82 #[.int .i64 ((k : Int)), .int .i64 (a % 8), .int .i64 (b)]) := Lib.hid (Z2.out.step hb)
        clear hb Z0 Z1 Z2 HB2 HV2
        have u0 := V1.out.cell 0 rfl
        have u1 := V1.out.cell 1 rfl
        have u2 := V1.out.cell 2 rfl
        have g0 := V0.out.cell 0 rfl
        have g1 := V0.out.cell 1 rfl
        have g2 := V0.out.cell 2 rfl
        have n0 := V0.out.frozen 0
        have n1 := V0.out.frozen 1
        have n2 := V0.out.frozen 2
        go_wp2
        have HR := Lib.hid (((V0.out.set 0 (.int .i64 ((22 : Int)))).set 1 (.int .i64 (0))).set 2 (.int .i64 (0)))
        refine bodyPost_ret (v := .agg #[.int .i64 ((22 : Int)), .int .i64 (0), .int .i64 (0)]) (by simp [results, Tryz.results82, go_sem, HR.out.cell 0 rfl, HR.out.cell 1 rfl, HR.out.cell 2 rfl]) rfl ?_
        exact ⟨rfl, ((HB3.out.setCell (Nat.le_refl _) _).setCell (Nat.le_refl _) _).setCell (Nat.le_refl _) _⟩
      · have HV2 : dv = ((k : Int), a % 8, b) := HV.out
        subst HV2
        clear HV
        go_enter Tryz.func82, Tryz.ntmps82
        go_wp2_with fail
        rw [← HW0.out]
        refine (opLength s r ar cy _).mono ?_
        rintro e w1 ⟨rfl, hb⟩
        rw [HL.out]
        have HB1 := Lib.hid (bt HB0.out hb)
        have Y0 := Lib.hid (X0.out.step hb)
        have Y1 := Lib.hid (X1.out.step hb)
        have Y2 := Lib.hid (X2.out.step hb)
        have HV1 := Lib.hid (HT.out.below HB1.out)
        clear hb X0 X1 X2 HB0 c1 c2 c3 c4
        have y0 := Y2.out.cell 0 rfl
        have y1 := Y2.out.cell 1 rfl
        have y2 := Y2.out.cell 2 rfl
        have z2 := Y2.out.frozen 2
        go_wp2_with fail
        have HB2 : Hid (Below w.heap.size w (w1.setCell ⟨w.heap.size + 1 + 1, 2, none⟩ (.int .i64 (b)))) := Lib.hid (HB1.out.setCell (by show w.heap.size ≤ w.heap.size + 1 + 1; omega) _)
        have Z0 := Lib.hid (Y0.out.far (p := ⟨w.heap.size + 1 + 1, 2, none⟩) (by show w.heap.size ≠ w.heap.size + 1 + 1; omega) (.int .i64 (b)))
        have Z1 := Lib.hid (Y1.out.far (p := ⟨w.heap.size + 1 + 1, 2, none⟩) (by show w.heap.size + 1 ≠ w.heap.size + 1 + 1; omega) (.int .i64 (b)))
        have Z2 := Lib.hid (Y2.out.set 2 (.int .i64 (b)))
        have HV2 := Lib.hid (HT.out.below HB2.out)
        clear Y0 Y1 Y2 HB1 HV1
        refine (HO.out _ HV2.out).mono ?_
        rintro e w2 ⟨rfl, hb⟩
        clear y0 y1 y2 z2
        have HB3 := Lib.hid (bt HB2.out hb)
        have V0 := Lib.hid (Z0.out.step hb)
        have V1 := Lib.hid (Z1.out.step hb)
        have V2 : Hid (Box w2 (w.heap.size + 1 + 1) 82 #[.int .i64 ((k : Int)), .int .i64 (a % 8), .int .i64 (b)]) := Lib.hid (Z2.out.step hb)
        clear hb Z0 Z1 Z2 HB2 HV2
        have u0 := V2.out.cell 0 rfl
        have u1 := V2.out.cell 1 rfl
        have u2 := V2.out.cell 2 rfl
        have g0 := V0.out.cell 0 rfl
        have g1 := V0.out.cell 1 rfl
        have g2 := V0.out.cell 2 rfl
        have n0 := V0.out.frozen 0
        have n1 := V0.out.frozen 1
        have n2 := V0.out.frozen 2
        go_wp2
        have HR := Lib.hid (((V0.out.set 0 (.int .i64 ((k : Int)))).set 1 (.int .i64 (a % 8))).set 2 (.int .i64 (b)))
        refine bodyPost_ret (v := .agg #[.int .i64 ((k : Int)), .int .i64 (a % 8), .int .i64 (b)]) (by simp [results, Tryz.results82, go_sem, HR.out.cell 0 rfl, HR.out.cell 1 rfl, HR.out.cell 2 rfl]) rfl ?_
        exact ⟨rfl, ((HB3.out.setCell (Nat.le_refl _) _).setCell (Nat.le_refl _) _).setCell (Nat.le_refl _) _⟩
    · have e : da = b + 256 * c := HD.out
      rw [e] at HV HO
      clear HD e da
      cases ok
      · have HV2 : dv = ((22 : Int), 0, 0) := HV.out
        subst HV2
        clear HV
        go_enter Tryz.func82, Tryz.ntmps82
        go_wp2_with fail
        rw [← HW0.out]
        refine (opLength s r ar cy _).mono ?_
        rintro e w1 ⟨rfl, hb⟩
        rw [HL.out]
        have HB1 := Lib.hid (bt HB0.out hb)
        have Y0 := Lib.hid (X0.out.step hb)
        have Y1 := Lib.hid (X1.out.step hb)
        have Y2 := Lib.hid (X2.out.step hb)
        have HV1 := Lib.hid (HT.out.below HB1.out)
        clear hb X0 X1 X2 HB0 c1 c2 c3 c4
        have y0 := Y2.out.cell 0 rfl
        have y1 := Y2.out.cell 1 rfl
        have y2 := Y2.out.cell 2 rfl
        have z2 := Y2.out.frozen 2
        go_wp2_with fail
        have HB2 : Hid (Below w.heap.size w (w1.setCell ⟨w.heap.size + 1 + 1, 2, none⟩ (.int .i64 (b + 256 * c)))) := Lib.hid (HB1.out.setCell (by show w.heap.size ≤ w.heap.size + 1 + 1; omega) _)
        have Z0 := Lib.hid (Y0.out.far (p := ⟨w.heap.size + 1 + 1, 2, none⟩) (by show w.heap.size ≠ w.heap.size + 1 + 1; omega) (.int .i64 (b + 256 * c)))
        have Z1 := Lib.hid (Y1.out.far (p := ⟨w.heap.size + 1 + 1, 2, none⟩) (by show w.heap.size + 1 ≠ w.heap.size + 1 + 1; omega) (.int .i64 (b + 256 * c)))
        have Z2 := Lib.hid (Y2.out.set 2 (.int .i64 (b + 256 * c)))
        have HV2 := Lib.hid (HT.out.below HB2.out)
        clear Y0 Y1 Y2 HB1 HV1
        refine (HO.out _ HV2.out).mono ?_
        rintro e w2 ⟨rfl, hb⟩
        clear y0 y1 y2 z2
        have HB3 := Lib.hid (bt HB2.out hb)
        have V0 := Lib.hid (Z0.out.step hb)
        have V1 := Lib.hid (Z1.out.step hb)
        have V2 : Hid (Box w2 (w.heap.size + 1 + 1) 82 #[.int .i64 ((k : Int)), .int .i64 (a % 8), .int .i64 (b + 256 * c)]) := Lib.hid (Z2.out.step hb)
        clear hb Z0 Z1 Z2 HB2 HV2
        have u0 := V1.out.cell 0 rfl
        have u1 := V1.out.cell 1 rfl
        have u2 := V1.out.cell 2 rfl
        have g0 := V0.out.cell 0 rfl
        have g1 := V0.out.cell 1 rfl
        have g2 := V0.out.cell 2 rfl
        have n0 := V0.out.frozen 0
        have n1 := V0.out.frozen 1
        have n2 := V0.out.frozen 2
        go_wp2
        have HR := Lib.hid (((V0.out.set 0 (.int .i64 ((22 : Int)))).set 1 (.int .i64 (0))).set 2 (.int .i64 (0)))
        refine bodyPost_ret (v := .agg #[.int .i64 ((22 : Int)), .int .i64 (0), .int .i64 (0)]) (by simp [results, Tryz.results82, go_sem, HR.out.cell 0 rfl, HR.out.cell 1 rfl, HR.out.cell 2 rfl]) rfl ?_
        exact ⟨rfl, ((HB3.out.setCell (Nat.le_refl _) _).setCell (Nat.le_refl _) _).setCell (Nat.le_refl _) _⟩
      · have HV2 : dv = ((k : Int), a % 8, b + 256 * c) := HV.out
        subst HV2
        clear HV
        go_enter Tryz.func82, Tryz.ntmps82
        go_wp2_with fail
        rw [← HW0.out]
        refine (opLength s r ar cy _).mono ?_
        rintro e w1 ⟨rfl, hb⟩
        rw [HL.out]
        have HB1 := Lib.hid (bt HB0.out hb)
        have Y0 := Lib.hid (X0.out.step hb)
        have Y1 := Lib.hid (X1.out.step hb)
        have Y2 := Lib.hid (X2.out.step hb)
        have HV1 := Lib.hid (HT.out.below HB1.out)
        clear hb X0 X1 X2 HB0 c1 c2 c3 c4
        have y0 := Y2.out.cell 0 rfl
        have y1 := Y2.out.cell 1 rfl
        have y2 := Y2.out.cell 2 rfl
        have z2 := Y2.out.frozen 2
        go_wp2_with fail
        have HB2 : Hid (Below w.heap.size w (w1.setCell ⟨w.heap.size + 1 + 1, 2, none⟩ (.int .i64 (b + 256 * c)))) := Lib.hid (HB1.out.setCell (by show w.heap.size ≤ w.heap.size + 1 + 1; omega) _)
        have Z0 := Lib.hid (Y0.out.far (p := ⟨w.heap.size + 1 + 1, 2, none⟩) (by show w.heap.size ≠ w.heap.size + 1 + 1; omega) (.int .i64 (b + 256 * c)))
        have Z1 := Lib.hid (Y1.out.far (p := ⟨w.heap.size + 1 + 1, 2, none⟩) (by show w.heap.size + 1 ≠ w.heap.size + 1 + 1; omega) (.int .i64 (b + 256 * c)))
        have Z2 := Lib.hid (Y2.out.set 2 (.int .i64 (b + 256 * c)))
        have HV2 := Lib.hid (HT.out.below HB2.out)
        clear Y0 Y1 Y2 HB1 HV1
        refine (HO.out _ HV2.out).mono ?_
        rintro e w2 ⟨rfl, hb⟩
        clear y0 y1 y2 z2
        have HB3 := Lib.hid (bt HB2.out hb)
        have V0 := Lib.hid (Z0.out.step hb)
        have V1 := Lib.hid (Z1.out.step hb)
        have V2 : Hid (Box w2 (w.heap.size + 1 + 1) 82 #[.int .i64 ((k : Int)), .int .i64 (a % 8), .int .i64 (b + 256 * c)]) := Lib.hid (Z2.out.step hb)
        clear hb Z0 Z1 Z2 HB2 HV2
        have u0 := V2.out.cell 0 rfl
        have u1 := V2.out.cell 1 rfl
        have u2 := V2.out.cell 2 rfl
        have g0 := V0.out.cell 0 rfl
        have g1 := V0.out.cell 1 rfl
        have g2 := V0.out.cell 2 rfl
        have n0 := V0.out.frozen 0
        have n1 := V0.out.frozen 1
        have n2 := V0.out.frozen 2
        go_wp2
        have HR := Lib.hid (((V0.out.set 0 (.int .i64 ((k : Int)))).set 1 (.int .i64 (a % 8))).set 2 (.int .i64 (b + 256 * c)))
        refine bodyPost_ret (v := .agg #[.int .i64 ((k : Int)), .int .i64 (a % 8), .int .i64 (b + 256 * c)]) (by simp [results, Tryz.results82, go_sem, HR.out.cell 0 rfl, HR.out.cell 1 rfl, HR.out.cell 2 rfl]) rfl ?_
        exact ⟨rfl, ((HB3.out.setCell (Nat.le_refl _) _).setCell (Nat.le_refl _) _).setCell (Nat.le_refl _) _⟩
set_option maxRecDepth 100000 in
set_option maxHeartbeats 8000000 in
theorem l07DecodeS (ha0 : 0 ≤ a) (ha1 : a ≤ 255) (hb0 : 0 ≤ b) (hb1 : b ≤ 255) (hc0 : 0 ≤ c) (hc1 : c ≤ 255) :
    Calls Tryz.prog 59 #[.int .i64 a, .int .i64 b, .int .i64 c] w fun e w' => e = .returned (.agg #[.int .i64 (decV a b c).1, .int .i64 (decV a b c).2.1, .int .i64 (decV a b c).2.2]) ∧ Below w.heap.size w w' := by
  have HV : Hid (decV a b c = if okIns (a / 8) (a % 8) (decArg a b c) then (a / 8, a % 8, decArg a b c) else (22, 0, 0)) := Lib.hid rfl
  generalize decV a b c = dv at HV ⊢
  have HD : Hid (decArg a b c = if lenT (a / 8) = 2 then b else if lenT (a / 8) = 3 then b + 256 * c else 0) := Lib.hid rfl
  generalize decArg a b c = da at HV HD
  have HO := Lib.hid (fun W => specInstrOK (a / 8) (a % 8) da W)
  generalize okIns (a / 8) (a % 8) da = ok at HV HO
  have HL := Lib.hid (l07LengthA (a / 8))
  have hl := lenT_range (a / 8)
  generalize lenT (a / 8) = l at HL HD hl
  have hl3 : l = 1 ∨ l = 2 ∨ l = 3 := by omega
  obtain ⟨W0, hW0⟩ : ∃ W0, W0 = (w.alloc (.cells #[.int .i64 0, .int .i64 0, .int .i64 0] 82)).alloc (.cells #[.int .i64 (a / 8), .int .i64 (a % 8), .int .i64 (0)] 82) := ⟨_, rfl⟩
  have hw0 : Below w.heap.size w W0 := by rw [hW0]; exact ((Below.refl _ _).alloc (Nat.le_refl _) _).alloc (by simp) _
  have X0 : Hid (Box W0 w.heap.size 82 #[.int .i64 0, .int .i64 0, .int .i64 0]) := Lib.hid (by rw [hW0]; exact (Box.new _ _ _).alloc _)
  have X1 : Hid (Box W0 (w.heap.size + 1) 82 #[.int .i64 (a / 8), .int .i64 (a % 8), .int .i64 (0)]) := Lib.hid (by rw [hW0]; simpa using Box.new (w.alloc (.cells #[.int .i64 0, .int .i64 0, .int .i64 0] 82)) 82 #[.int .i64 (a / 8), .int .i64 (a % 8), .int .i64 (0)])
  have HW0 := Lib.hid hW0
  have HB0 := Lib.hid hw0
  clear hl hW0 hw0
  rcases hl3 with rfl | rfl | rfl
  · have e : da = 0 := HD.out
    rw [e] at HV HO
    clear HD e da
    cases ok
    · have HV2 : dv = ((22 : Int), 0, 0) := HV.out
      subst HV2
      clear HV
      have x0 := X1.out.cell 0 rfl
      have x1 := X1.out.cell 1 rfl
      have x2 := X1.out.cell 2 rfl
      have m2 := X1.out.frozen 2
      go_enter Tryz.func59, Tryz.ntmps59
      go_wp2_with fail
      rw [← HW0.out]
      refine (HL.out _).mono ?_
      rintro e w' ⟨rfl, rfl⟩
      go_wp2_with fail
      have HB2 := HB0
      have Z0 := X0
      have Z1 := X1
      refine (HO.out _).mono ?_
      rintro e w2 ⟨rfl, hb⟩
      clear x0 x1 x2 m2
      have HB3 := Lib.hid (bt HB2.out hb)
      have V0 := Lib.hid (Z0.out.step hb)
      have V1 : Hid (Box w2 (w.heap.size + 1) 82 #[.int .i64 (a / 8), .int .i64 (a % 8), .int .i64 (0)]) := Lib.hid (Z1.out.step hb)
      clear hb Z0 Z1 HB2
      have u0 := V1.out.cell 0 rfl
      have u1 := V1.out.cell 1 rfl
      have u2 := V1.out.cell 2 rfl
      have g0 := V0.out.cell 0 rfl
      have g1 := V0.out.cell 1 rfl
      have g2 := V0.out.cell 2 rfl
      have n0 := V0.out.frozen 0
      have n1 := V0.out.frozen 1
      have n2 := V0.out.frozen 2
      go_wp2
      have HR := Lib.hid (((V0.out.set 0 (.int .i64 ((22 : Int)))).set 1 (.int .i64 (0))).set 2 (.int .i64 (0)))
      refine bodyPost_ret (v := .agg #[.int .i64 ((22 : Int)), .int .i64 (0), .int .i64 (0)]) (by simp [results, Tryz.results59, go_sem, HR.out.cell 0 rfl, HR.out.cell 1 rfl, HR.out.cell 2 rfl]) rfl ?_
      exact ⟨rfl, ((HB3.out.setCell (Nat.le_refl _) _).setCell (Nat.le_refl _) _).setCell (Nat.le_refl _) _⟩
    · have HV2 : dv = (a / 8, a % 8, 0) := HV.out
      subst HV2
      clear HV
      have x0 := X1.out.cell 0 rfl
      have x1 := X1.out.cell 1 rfl
      have x2 := X1.out.cell 2 rfl
      have m2 := X1.out.frozen 2
      go_enter Tryz.func59, Tryz.ntmps59
      go_wp2_with fail
      rw [← HW0.out]
      refine (HL.out _).mono ?_
      rintro e w' ⟨rfl, rfl⟩
      go_wp2_with fail
      have HB2 := HB0
      have Z0 := X0
      have Z1 := X1
      refine (HO.out _).mono ?_
      rintro e w2 ⟨rfl, hb⟩
      clear x0 x1 x2 m2
      have HB3 := Lib.hid (bt HB2.out hb)
      have V0 := Lib.hid (Z0.out.step hb)
      have V1 : Hid (Box w2 (w.heap.size + 1) 82 #[.int .i64 (a / 8), .int .i64 (a % 8), .int .i64 (0)]) := Lib.hid (Z1.out.step hb)
      clear hb Z0 Z1 HB2
      have u0 := V1.out.cell 0 rfl
      have u1 := V1.out.cell 1 rfl
      have u2 := V1.out.cell 2 rfl
      have g0 := V0.out.cell 0 rfl
      have g1 := V0.out.cell 1 rfl
      have g2 := V0.out.cell 2 rfl
      have n0 := V0.out.frozen 0
      have n1 := V0.out.frozen 1
      have n2 := V0.out.frozen 2
      go_wp2
      have HR := Lib.hid (((V0.out.set 0 (.int .i64 (a / 8))).set 1 (.int .i64 (a % 8))).set 2 (.int .i64 (0)))
      refine bodyPost_ret (v := .agg #[.int .i64 (a / 8), .int .i64 (a % 8), .int .i64 (0)]) (by simp [results, Tryz.results59, go_sem, HR.out.cell 0 rfl, HR.out.cell 1 rfl, HR.out.cell 2 rfl]) rfl ?_
      exact ⟨rfl, ((HB3.out.setCell (Nat.le_refl _) _).setCell (Nat.le_refl _) _).setCell (Nat.le_refl _) _⟩
  · have e : da = b := HD.out
    rw [e] at HV HO
    clear HD e da
    cases ok
    · have HV2 : dv = ((22 : Int), 0, 0) := HV.out
      subst HV2
      clear HV
      have x0 := X1.out.cell 0 rfl
      have x1 := X1.out.cell 1 rfl
      have x2 := X1.out.cell 2 rfl
      have m2 := X1.out.frozen 2
      go_enter Tryz.func59, Tryz.ntmps59
      go_wp2_with fail
      rw [← HW0.out]
      refine (HL.out _).mono ?_
      rintro e w' ⟨rfl, rfl⟩
      go_wp2_with fail
      have HB2 : Hid (Below w.heap.size w (W0.setCell ⟨w.heap.size + 1, 2, none⟩ (.int .i64 (b)))) := Lib.hid (HB0.out.setCell (by show w.heap.size ≤ w.heap.size + 1; omega) _)
      have Z0 := Lib.hid (X0.out.far (p := ⟨w.heap.size + 1, 2, none⟩) (by show w.heap.size ≠ w.heap.size + 1; omega) (.int .i64 (b)))
      have Z1 := Lib.hid (X1.out.set 2 (.int .i64 (b)))
      refine (HO.out _).mono ?_
      rintro e w2 ⟨rfl, hb⟩
      clear x0 x1 x2 m2
      have HB3 := Lib.hid (bt HB2.out hb)
      have V0 := Lib.hid (Z0.out.step hb)
      have V1 : Hid (Box w2 (w.heap.size + 1) 82 #[.int .i64 (a / 8), .int .i64 (a % 8), .int .i64 (b)]) := Lib.hid (Z1.out.step hb)
      clear hb Z0 Z1 HB2
      have u0 := V1.out.cell 0 rfl
      have u1 := V1.out.cell 1 rfl
      have u2 := V1.out.cell 2 rfl
      have g0 := V0.out.cell 0 rfl
      have g1 := V0.out.cell 1 rfl
      have g2 := V0.out.cell 2 rfl
      have n0 := V0.out.frozen 0
      have n1 := V0.out.frozen 1
      have n2 := V0.out.frozen 2
      go_wp2
      have HR := Lib.hid (((V0.out.set 0 (.int .i64 ((22 : Int)))).set 1 (.int .i64 (0))).set 2 (.int .i64 (0)))
      refine bodyPost_ret (v := .agg #[.int .i64 ((22 : Int)), .int .i64 (0), .int .i64 (0)]) (by simp [results, Tryz.results59, go_sem, HR.out.cell 0 rfl, HR.out.cell 1 rfl, HR.out.cell 2 rfl]) rfl ?_
      exact ⟨rfl, ((HB3.out.setCell (Nat.le_refl _) _).setCell (Nat.le_refl _) _).setCell (Nat.le_refl _) _⟩
    · have HV2 : dv = (a / 8, a % 8, b) := HV.out
      subst HV2
      clear HV
      have x0 := X1.out.cell 0 rfl
      have x1 := X1.out.cell 1 rfl
      have x2 := X1.out.cell 2 rfl
      have m2 := X1.out.frozen 2
      go_enter Tryz.func59, Tryz.ntmps59
      go_wp2_with fail
      rw [← HW0.out]
      refine (HL.out _).mono ?_
      rintro e w' ⟨rfl, rfl⟩
      go_wp2_with fail
      have HB2 : Hid (Below w.heap.size w (W0.setCell ⟨w.heap.size + 1, 2, none⟩ (.int .i64 (b)))) := Lib.hid (HB0.out.setCell (by show w.heap.size ≤ w.heap.size + 1; omega) _)
      have Z0 := Lib.hid (X0.out.far (p := ⟨w.heap.size + 1, 2, none⟩) (by show w.heap.size ≠ w.heap.size + 1; omega) (.int .i64 (b)))
      have Z1 := Lib.hid (X1.out.set 2 (.int .i64 (b)))
      refine (HO.out _).mono ?_
      rintro e w2 ⟨rfl, hb⟩
      clear x0 x1 x2 m2
      have HB3 := Lib.hid (bt HB2.out hb)
      have V0 := Lib.hid (Z0.out.step hb)
      have V1 : Hid (Box w2 (w.heap.size + 1) 82 #[.int .i64 (a / 8), .int .i64 (a % 8), .int .i64 (b)]) := Lib.hid (Z1.out.step hb)
      clear hb Z0 Z1 HB2
      have u0 := V1.out.cell 0 rfl
      have u1 := V1.out.cell 1 rfl
      have u2 := V1.out.cell 2 rfl
      have g0 := V0.out.cell 0 rfl
      have g1 := V0.out.cell 1 rfl
      have g2 := V0.out.cell 2 rfl
      have n0 := V0.out.frozen 0
      have n1 := V0.out.frozen 1
      have n2 := V0.out.frozen 2
      go_wp2
      have HR := Lib.hid (((V0.out.set 0 (.int .i64 (a / 8))).set 1 (.int .i64 (a % 8))).set 2 (.int .i64 (b)))
      refine bodyPost_ret (v := .agg #[.int .i64 (a / 8), .int .i64 (a % 8), .int .i64 (b)]) (by simp [results, Tryz.results59, go_sem, HR.out.cell 0 rfl, HR.out.cell 1 rfl, HR.out.cell 2 rfl]) rfl ?_
      exact ⟨rfl, ((HB3.out.setCell (Nat.le_refl _) _).setCell (Nat.le_refl _) _).setCell (Nat.le_refl _) _⟩
  · have e : da = b + 256 * c := HD.out
    rw [e] at HV HO
    clear HD e da
    cases ok
    · have HV2 : dv = ((22 : Int), 0, 0) := HV.out
      subst HV2
      clear HV
      have x0 := X1.out.cell 0 rfl
      have x1 := X1.out.cell 1 rfl
      have x2 := X1.out.cell 2 rfl
      have m2 := X1.out.frozen 2
      go_enter Tryz.func59, Tryz.ntmps59
      go_wp2_with fail
      rw [← HW0.out]
      refine (HL.out _).mono ?_
      rintro e w' ⟨rfl, rfl⟩
      go_wp2_with fail
      have HB2 : Hid (Below w.heap.size w (W0.setCell ⟨w.heap.size + 1, 2, none⟩ (.int .i64 (b + 256 * c)))) := Lib.hid (HB0.out.setCell (by show w.heap.size ≤ w.heap.size + 1; omega) _)
      have Z0 := Lib.hid (X0.out.far (p := ⟨w.heap.size + 1, 2, none⟩) (by show w.heap.size ≠ w.heap.size + 1; omega) (.int .i64 (b + 256 * c)))
      have Z1 := Lib.hid (X1.out.set 2 (.int .i64 (b + 256 * c)))
      refine (HO.out _).mono ?_
      rintro e w2 ⟨rfl, hb⟩
      clear x0 x1 x2 m2
      have HB3 := Lib.hid (bt HB2.out hb)
      have V0 := Lib.hid (Z0.out.step hb)
      have V1 : Hid (Box w2 (w.heap.size + 1) 82 #[.int .i64 (a / 8), .int .i64 (a % 8), .int .i64 (b + 256 * c)]) := Lib.hid (Z1.out.step hb)
      clear hb Z0 Z1 HB2
      have u0 := V1.out.cell 0 rfl
      have u1 := V1.out.cell 1 rfl
      have u2 := V1.out.cell 2 rfl
      have g0 := V0.out.cell 0 rfl
      have g1 := V0.out.cell 1 rfl
      have g2 := V0.out.cell 2 rfl
      have n0 := V0.out.frozen 0
      have n1 := V0.out.frozen 1
      have n2 := V0.out.frozen 2
      go_wp2
      have HR := Lib.hid (((V0.out.set 0 (.int .i64 ((22 : Int)))).set 1 (.int .i64 (0))).set 2 (.int .i64 (0)))
      refine bodyPost_ret (v := .agg #[.int .i64 ((22 : Int)), .int .i64 (0), .int .i64 (0)]) (by simp [results, Tryz.results59, go_sem, HR.out.cell 0 rfl, HR.out.cell 1 rfl, HR.out.cell 2 rfl]) rfl ?_
      exact ⟨rfl, ((HB3.out.setCell (Nat.le_refl _) _).setCell (Nat.le_refl _) _).setCell (Nat.le_refl _) _⟩
    · have HV2 : dv = (a / 8, a % 8, b + 256 * c) := HV.out
      subst HV2
      clear HV
      have x0 := X1.out.cell 0 rfl
      have x1 := X1.out.cell 1 rfl
      have x2 := X1.out.cell 2 rfl
      have m2 := X1.out.frozen 2
      go_enter Tryz.func59, Tryz.ntmps59
      go_wp2_with fail
      rw [← HW0.out]
      refine (HL.out _).mono ?_
      rintro e w' ⟨rfl, rfl⟩
      go_wp2_with fail
      have HB2 : Hid (Below w.heap.size w (W0.setCell ⟨w.heap.size + 1, 2, none⟩ (.int .i64 (b + 256 * c)))) := Lib.hid (HB0.out.setCell (by show w.heap.size ≤ w.heap.size + 1; omega) _)
      have Z0 := Lib.hid (X0.out.far (p := ⟨w.heap.size + 1, 2, none⟩) (by show w.heap.size ≠ w.heap.size + 1; omega) (.int .i64 (b + 256 * c)))
      have Z1 := Lib.hid (X1.out.set 2 (.int .i64 (b + 256 * c)))
      refine (HO.out _).mono ?_
      rintro e w2 ⟨rfl, hb⟩
      clear x0 x1 x2 m2
      have HB3 := Lib.hid (bt HB2.out hb)
      have V0 := Lib.hid (Z0.out.step hb)
      have V1 : Hid (Box w2 (w.heap.size + 1) 82 #[.int .i64 (a / 8), .int .i64 (a % 8), .int .i64 (b + 256 * c)]) := Lib.hid (Z1.out.step hb)
      clear hb Z0 Z1 HB2
      have u0 := V1.out.cell 0 rfl
      have u1 := V1.out.cell 1 rfl
      have u2 := V1.out.cell 2 rfl
      have g0 := V0.out.cell 0 rfl
      have g1 := V0.out.cell 1 rfl
      have g2 := V0.out.cell 2 rfl
      have n0 := V0.out.frozen 0
      have n1 := V0.out.frozen 1
      have n2 := V0.out.frozen 2
      go_wp2
      have HR := Lib.hid (((V0.out.set 0 (.int .i64 (a / 8))).set 1 (.int .i64 (a % 8))).set 2 (.int .i64 (b + 256 * c)))
      refine bodyPost_ret (v := .agg #[.int .i64 (a / 8), .int .i64 (a % 8), .int .i64 (b + 256 * c)]) (by simp [results, Tryz.results59, go_sem, HR.out.cell 0 rfl, HR.out.cell 1 rfl, HR.out.cell 2 rfl]) rfl ?_
      exact ⟨rfl, ((HB3.out.setCell (Nat.le_refl _) _).setCell (Nat.le_refl _) _).setCell (Nat.le_refl _) _⟩
end
end Go.Proofs.YtcchhbkbnbphhaaGreatDoor
