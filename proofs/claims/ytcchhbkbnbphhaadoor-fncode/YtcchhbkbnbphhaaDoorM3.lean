/- Texts of this claim, one behind the other: OpDec, OpEnc, Root, Sets, RootOk, NumWalk, ReadDisk, DigWalk. -/
import Derived.Maps.Own
import Derived.IntWalk
import Derived.Deep.RegionHeld3
import Derived.Laws.IdiomStrings
import Derived.Deep.DrawnRows
import Derived.Test.YtcchhbkbnbphhaaDoorM2
/- Decode on both sides. -/
namespace Go.Proofs.YtcchhbkbnbphhaaDoor
open Go.RowKit

def decArg (a b c : Int) : Int := if lenT (a / 8) = 2 then b else if lenT (a / 8) = 3 then b + 256 * c else 0
def decV (a b c : Int) : Int × Int × Int := if okIns (a / 8) (a % 8) (decArg a b c) then (a / 8, a % 8, decArg a b c) else (22, 0, 0)
def byT (a b c : Int) : Bool := rngB a 0 255 && (rngB b 0 255 && rngB c 0 255)
def dcdF (a b c : Int) : (Int × Int × Int) × Int := if byT a b c then (decV a b c, 0) else ((0, 0, 0), 4)
theorem byT_t {a b c : Int} (h : (0 ≤ a ∧ a ≤ 255) ∧ (0 ≤ b ∧ b ≤ 255) ∧ (0 ≤ c ∧ c ≤ 255)) : byT a b c = true := by unfold byT; rw [rngB_t h.1, rngB_t h.2.1, rngB_t h.2.2]; rfl
theorem byT_f {a b c : Int} (h : ¬ ((0 ≤ a ∧ a ≤ 255) ∧ (0 ≤ b ∧ b ≤ 255) ∧ (0 ≤ c ∧ c ≤ 255))) : byT a b c = false := by
  unfold byT
  by_cases h1 : 0 ≤ a ∧ a ≤ 255
  · by_cases h2 : 0 ≤ b ∧ b ≤ 255
    · rw [rngB_t h1, rngB_t h2, rngB_f (fun h3 => h ⟨h1, h2, h3⟩)]; rfl
    · rw [rngB_t h1, rngB_f h2]; rfl
  · rw [rngB_f h1]; rfl
def byN (n : Int) : Bool := rngB n 0 255
set_option maxRecDepth 100000 in
set_option maxHeartbeats 1000000 in
theorem l05BytesA (A : Option Addr) (n c : Nat) (zs : List Int) (w : World) (hl : zs.length = n) (hn : n ≤ maxLen) (h : IntL w A zs) :
    Calls Tryd.prog 37 #[.slice A n c] w fun e w' => e = .returned (.bool (zs.all byN)) ∧ w = w' := by
  unfold maxLen at hn
  have HL := Lib.hid hl
  have H := Lib.hid h
  clear hl h
  go_enter Tryd.func37, Tryd.ntmps37
  go_wp2
  go_loop [3] (fun i => ∃ k : Nat, k ≤ n ∧ i = .int .i64 k ∧ Hid (zs.all byN = (zs.drop k).all byN)) (fun i => n - (intOf i).toNat)
  case atStart => exact ⟨0, Nat.zero_le _, rfl, Lib.hid rfl⟩
  case round =>
    obtain ⟨k, hk, rfl, HT⟩ := hrel
    by_cases hlt : k < n
    · obtain ⟨b, off, rfl, hc⟩ := H.out k (by rw [HL.out]; exact hlt)
      have HS := Lib.hid (all_step byN zs 0 k (by rw [HL.out]; exact hlt))
      generalize zs.getD k 0 = x at hc HS
      have hi : (k : Int) < (n : Int) := by omega
      by_cases hE : rngB x 0 255 = true
      · go_wp2_with (first | (go_at_call 47; refine (l01InA _ _ _ _).mono ?_; rintro e w' ⟨rfl, rfl⟩; rw [hE]))
        go_round
        case rel => exact ⟨k + 1, by omega, by go_num, Lib.hid (by rw [HT.out, HS.out, show byN x = true from hE]; rfl)⟩
        case measure => simp [intOf]; omega
      · have hE' : rngB x 0 255 = false := by simpa using hE
        clear hE
        go_wp2_with (first | (go_at_call 47; refine (l01InA _ _ _ _).mono ?_; rintro e w' ⟨rfl, rfl⟩; rw [hE']))
        go_ret
        exact ⟨ret_bool (by rw [HT.out, HS.out, show byN x = false from hE']; rfl), rfl⟩
    · have HT2 : Hid (zs.all byN = true) := Lib.hid (by rw [HT.out]; exact all_end _ _ _ (by rw [HL.out]; omega))
      go_wp2
      go_ret
      exact ⟨ret_bool HT2.out.symm, rfl⟩

section
variable (a b c : Int) (w : World)
set_option maxRecDepth 100000 in
set_option maxHeartbeats 8000000 in
theorem decodeI (ht : OpsT w) (ha0 : 0 ≤ a) (ha1 : a ≤ 255) (hb0 : 0 ≤ b) (hb1 : b ≤ 255) (hc0 : 0 ≤ c) (hc1 : c ≤ 255) :
    Calls Tryd.prog 36 #[.int .i64 a, .int .i64 b, .int .i64 c] w fun e w' => e = .returned (.agg #[.int .i64 (decV a b c).1, .int .i64 (decV a b c).2.1, .int .i64 (decV a b c).2.2]) ∧ Below w.heap.size w w' := by
  have HT := Lib.hid ht
  have hlt := ht.lt
  clear ht
  by_cases h22 : 22 ≤ a / 8
  · have HV : Hid (decV a b c = (22, 0, 0)) := Lib.hid (by unfold decV; rw [okIns_op _ _ _ (by omega)]; rfl)
    rw [HV.out]
    clear HV HT
    go_enter Tryd.func36, Tryd.ntmps36
    go_wp2
    refine bodyPost_ret (v := .agg #[.int .i64 22, .int .i64 0, .int .i64 0]) (by simp [results, Tryd.results36, go_sem]) rfl ?_
    exact ⟨rfl, (((Below.refl _ _).alloc (Nat.le_refl _) _).alloc (by simp) _).alloc (by simp; omega) _⟩
  · have HV : Hid (decV a b c = if okIns (a / 8) (a % 8) (decArg a b c) then (a / 8, a % 8, decArg a b c) else (22, 0, 0)) := Lib.hid rfl
    generalize decV a b c = dv at HV ⊢
    have HD : Hid (decArg a b c = if lenT (a / 8) = 2 then b else if lenT (a / 8) = 3 then b + 256 * c else 0) := Lib.hid rfl
    generalize decArg a b c = da at HV HD
    obtain ⟨k, hk⟩ : ∃ k : Nat, a / 8 = k := ⟨(a / 8).toNat, by omega⟩
    have hk2 : k < 22 := by omega
    rw [hk] at HV HD
    have HO := Lib.hid (fun W (h : OpsT W) => valid k (a % 8) da W h)
    generalize okIns k (a % 8) da = ok at HV HO
    obtain ⟨c1, c2, c3, c4⟩ := HT.out k (by omega)
    have HL := Lib.hid (lenA_arg k)
    have hl := lenT_range k
    generalize lenT k = l at HL HD hl
    generalize opWord k = s at c1
    generalize regT k = r at c2
    generalize argT k = ar at c3 HL
    generalize fixT k = cy at c4
    have hl3 : l = 1 ∨ l = 2 ∨ l = 3 := by omega
    have h23 : ¬ (22 : Int) ≤ (k : Int) := by omega
    obtain ⟨W0, hW0⟩ : ∃ W0, W0 = ((w.alloc (.cells #[.int .i64 0, .int .i64 0, .int .i64 0] 24)).alloc (.cells #[.int .i64 (22), .int .i64 (0), .int .i64 (0)] 24)).alloc (.cells #[.int .i64 ((k : Int)), .int .i64 (a % 8), .int .i64 (0)] 24) := ⟨_, rfl⟩
    have hw0 : Below w.heap.size w W0 := by rw [hW0]; exact (((Below.refl _ _).alloc (Nat.le_refl _) _).alloc (by simp) _).alloc (by simp; omega) _
    have X0 : Hid (Box W0 w.heap.size 24 #[.int .i64 0, .int .i64 0, .int .i64 0]) := Lib.hid (by rw [hW0]; exact ((Box.new _ _ _).alloc _).alloc _)
    have X1 : Hid (Box W0 (w.heap.size + 1) 24 #[.int .i64 (22), .int .i64 (0), .int .i64 (0)]) := Lib.hid (by rw [hW0]; simpa using (Box.new (w.alloc (.cells #[.int .i64 0, .int .i64 0, .int .i64 0] 24)) 24 #[.int .i64 (22), .int .i64 (0), .int .i64 (0)]).alloc _)
    have X2 : Hid (Box W0 (w.heap.size + 1 + 1) 24 #[.int .i64 ((k : Int)), .int .i64 (a % 8), .int .i64 (0)]) := Lib.hid (by rw [hW0]; simpa using Box.new ((w.alloc (.cells #[.int .i64 0, .int .i64 0, .int .i64 0] 24)).alloc (.cells #[.int .i64 (22), .int .i64 (0), .int .i64 (0)] 24)) 24 #[.int .i64 ((k : Int)), .int .i64 (a % 8), .int .i64 (0)])
    have HW0 := Lib.hid hW0
    have HB0 := Lib.hid hw0
    clear hl h22 hW0 hw0
    rcases hl3 with rfl | rfl | rfl
    · have e : da = 0 := HD.out
      rw [e] at HV HO
      clear HD e da
      cases ok
      · have HV2 : dv = ((22 : Int), 0, 0) := HV.out
        subst HV2
        clear HV
        go_enter Tryd.func36, Tryd.ntmps36
        go_wp2_with fail
        rw [← HW0.out]
        refine (opLength s r ar cy _).mono ?_
        rintro e w1 ⟨rfl, hb⟩
        rw [HL.out]
        have HB1 := Lib.hid (bt HB0.out hb)
        have Y0 := Lib.hid (X0.out.step hb)
        have Y1 := Lib.hid (X1.out.step hb)
        have Y2 := Lib.hid (X2.out.step hb)
        have HV1 := Lib.hid (HT.out.below HB1.out)
        clear hb X0 X1 X2 HB0 c1 c2 c3 c4
        have y0 := Y2.out.cell 0 rfl
        have y1 := Y2.out.cell 1 rfl
        have y2 := Y2.out.cell 2 rfl
        have z2 := Y2.out.frozen 2
        go_wp2_with fail
        have HB2 := HB1
        have Z0 := Y0
        have Z1 := Y1
        have Z2 := Y2
        have HV2 := HV1
        clear Y0 Y1 Y2 HB1 HV1
        refine (HO.out _ HV2.out).mono ?_
        rintro e w2 ⟨rfl, hb⟩
        clear y0 y1 y2 z2
        have HB3 := Lib.hid (bt HB2.out hb)
        have V0 := Lib.hid (Z0.out.step hb)
        have V1 := Lib.hid (Z1.out.step hb)
        have V2 : Hid (Box w2 (w.heap.size + 1 + 1) 24 #[.int .i64 ((k : Int)), .int .i64 (a % 8), .int .i64 (0)]) := Lib.hid (Z2.out.step hb)
        clear hb Z0 Z1 Z2 HB2 HV2
        have u0 := V1.out.cell 0 rfl
        have u1 := V1.out.cell 1 rfl
        have u2 := V1.out.cell 2 rfl
        have g0 := V0.out.cell 0 rfl
        have g1 := V0.out.cell 1 rfl
        have g2 := V0.out.cell 2 rfl
        have n0 := V0.out.frozen 0
        have n1 := V0.out.frozen 1
        have n2 := V0.out.frozen 2
        go_wp2
        have HR := Lib.hid (((V0.out.set 0 (.int .i64 ((22 : Int)))).set 1 (.int .i64 (0))).set 2 (.int .i64 (0)))
        refine bodyPost_ret (v := .agg #[.int .i64 ((22 : Int)), .int .i64 (0), .int .i64 (0)]) (by simp [results, Tryd.results36, go_sem, HR.out.cell 0 rfl, HR.out.cell 1 rfl, HR.out.cell 2 rfl]) rfl ?_
        exact ⟨rfl, ((HB3.out.setCell (Nat.le_refl _) _).setCell (Nat.le_refl _) _).setCell (Nat.le_refl _) _⟩
      · have HV2 : dv = ((k : Int), a % 8, 0) := HV.out
        subst HV2
        clear HV
        go_enter Tryd.func36, Tryd.ntmps36
        go_wp2_with fail
        rw [← HW0.out]
        refine (opLength s r ar cy _).mono ?_
        rintro e w1 ⟨rfl, hb⟩
        rw [HL.out]
        have HB1 := Lib.hid (bt HB0.out hb)
        have Y0 := Lib.hid (X0.out.step hb)
        have Y1 := Lib.hid (X1.out.step hb)
        have Y2 := Lib.hid (X2.out.step hb)
        have HV1 := Lib.hid (HT.out.below HB1.out)
        clear hb X0 X1 X2 HB0 c1 c2 c3 c4
        have y0 := Y2.out.cell 0 rfl
        have y1 := Y2.out.cell 1 rfl
        have y2 := Y2.out.cell 2 rfl
        have z2 := Y2.out.frozen 2
        go_wp2_with fail
        have HB2 := HB1
        have Z0 := Y0
        have Z1 := Y1
        have Z2 := Y2
        have HV2 := HV1
        clear Y0 Y1 Y2 HB1 HV1
        refine (HO.out _ HV2.out).mono ?_
        rintro e w2 ⟨rfl, hb⟩
        clear y0 y1 y2 z2
        have HB3 := Lib.hid (bt HB2.out hb)
        have V0 := Lib.hid (Z0.out.step hb)
        have V1 := Lib.hid (Z1.out.step hb)
        have V2 : Hid (Box w2 (w.heap.size + 1 + 1) 24 #[.int .i64 ((k : Int)), .int .i64 (a % 8), .int .i64 (0)]) := Lib.hid (Z2.out.step hb)
        clear hb Z0 Z1 Z2 HB2 HV2
        have u0 := V2.out.cell 0 rfl
        have u1 := V2.out.cell 1 rfl
        have u2 := V2.out.cell 2 rfl
        have g0 := V0.out.cell 0 rfl
        have g1 := V0.out.cell 1 rfl
        have g2 := V0.out.cell 2 rfl
        have n0 := V0.out.frozen 0
        have n1 := V0.out.frozen 1
        have n2 := V0.out.frozen 2
        go_wp2
        have HR := Lib.hid (((V0.out.set 0 (.int .i64 ((k : Int)))).set 1 (.int .i64 (a % 8))).set 2 (.int .i64 (0)))
        refine bodyPost_ret (v := .agg #[.int .i64 ((k : Int)), .int .i64 (a % 8), .int .i64 (0)]) (by simp [results, Tryd.results36, go_sem, HR.out.cell 0 rfl, HR.out.cell 1 rfl, HR.out.cell 2 rfl]) rfl ?_
        exact ⟨rfl, ((HB3.out.setCell (Nat.le_refl _) _).setCell (Nat.le_refl _) _).setCell (Nat.le_refl _) _⟩
    · have e : da = b := HD.out
      rw [e] at HV HO
      clear HD e da
      cases ok
      · have HV2 : dv = ((22 : Int), 0, 0) := HV.out
        subst HV2
        clear HV
        go_enter Tryd.func36, Tryd.ntmps36
        go_wp2_with fail
        rw [← HW0.out]
        refine (opLength s r ar cy _).mono ?_
        rintro e w1 ⟨rfl, hb⟩
        rw [HL.out]
        have HB1 := Lib.hid (bt HB0.out hb)
        have Y0 := Lib.hid (X0.out.step hb)
        have Y1 := Lib.hid (X1.out.step hb)
        have Y2 := Lib.hid (X2.out.step hb)
        have HV1 := Lib.hid (HT.out.below HB1.out)
        clear hb X0 X1 X2 HB0 c1 c2 c3 c4
        have y0 := Y2.out.cell 0 rfl
        have y1 := Y2.out.cell 1 rfl
        have y2 := Y2.out.cell 2 rfl
        have z2 := Y2.out.frozen 2
        go_wp2_with fail
        have HB2 : Hid (Below w.heap.size w (w1.setCell ⟨w.heap.size + 1 + 1, 2, none⟩ (.int .i64 (b)))) := Lib.hid (HB1.out.setCell (by show w.heap.size ≤ w.heap.size + 1 + 1; omega) _)
        have Z0 := Lib.hid (Y0.out.far (p := ⟨w.heap.size + 1 + 1, 2, none⟩) (by show w.heap.size ≠ w.heap.size + 1 + 1; omega) (.int .i64 (b)))
        have Z1 := Lib.hid (Y1.out.far (p := ⟨w.heap.size + 1 + 1, 2, none⟩) (by show w.heap.size + 1 ≠ w.heap.size + 1 + 1; omega) (.int .i64 (b)))
        have Z2 := Lib.hid (Y2.out.set 2 (.int .i64 (b)))
        have HV2 := Lib.hid (HT.out.below HB2.out)
        clear Y0 Y1 Y2 HB1 HV1
        refine (HO.out _ HV2.out).mono ?_
        rintro e w2 ⟨rfl, hb⟩
        clear y0 y1 y2 z2
        have HB3 := Lib.hid (bt HB2.out hb)
        have V0 := Lib.hid (Z0.out.step hb)
        have V1 := Lib.hid (Z1.out.step hb)
        have V2 : Hid (Box w2 (w.heap.size + 1 + 1) 24 #[.int .i64 ((k : Int)), .int .i64 (a % 8), .int .i64 (b)]) := Lib.hid (Z2.out.step hb)
        clear hb Z0 Z1 Z2 HB2 HV2
        have u0 := V1.out.cell 0 rfl
        have u1 := V1.out.cell 1 rfl
        have u2 := V1.out.cell 2 rfl
        have g0 := V0.out.cell 0 rfl
        have g1 := V0.out.cell 1 rfl
        have g2 := V0.out.cell 2 rfl
        have n0 := V0.out.frozen 0
        have n1 := V0.out.frozen 1
        have n2 := V0.out.frozen 2
        go_wp2
        have HR := Lib.hid (((V0.out.set 0 (.int .i64 ((22 : Int)))).set 1 (.int .i64 (0))).set 2 (.int .i64 (0)))
        refine bodyPost_ret (v := .agg #[.int .i64 ((22 : Int)), .int .i64 (0), .int .i64 (0)]) (by simp [results, Tryd.results36, go_sem, HR.out.cell 0 rfl, HR.out.cell 1 rfl, HR.out.cell 2 rfl]) rfl ?_
        exact ⟨rfl, ((HB3.out.setCell (Nat.le_refl _) _).setCell (Nat.le_refl _) _).setCell (Nat.le_refl _) _⟩
      · have HV2 : dv = ((k : Int), a % 8, b) := HV.out
        subst HV2
        clear HV
        go_enter Tryd.func36, Tryd.ntmps36
        go_wp2_with fail
        rw [← HW0.out]
        refine (opLength s r ar cy _).mono ?_
        rintro e w1 ⟨rfl, hb⟩
        rw [HL.out]
        have HB1 := Lib.hid (bt HB0.out hb)
        have Y0 := Lib.hid (X0.out.step hb)
        have Y1 := Lib.hid (X1.out.step hb)
        have Y2 := Lib.hid (X2.out.step hb)
        have HV1 := Lib.hid (HT.out.below HB1.out)
        clear hb X0 X1 X2 HB0 c1 c2 c3 c4
        have y0 := Y2.out.cell 0 rfl
        have y1 := Y2.out.cell 1 rfl
        have y2 := Y2.out.cell 2 rfl
        have z2 := Y2.out.frozen 2
        go_wp2_with fail
        have HB2 : Hid (Below w.heap.size w (w1.setCell ⟨w.heap.size + 1 + 1, 2, none⟩ (.int .i64 (b)))) := Lib.hid (HB1.out.setCell (by show w.heap.size ≤ w.heap.size + 1 + 1; omega) _)
        have Z0 := Lib.hid (Y0.out.far (p := ⟨w.heap.size + 1 + 1, 2, none⟩) (by show w.heap.size ≠ w.heap.size + 1 + 1; omega) (.int .i64 (b)))
        have Z1 := Lib.hid (Y1.out.far (p := ⟨w.heap.size + 1 + 1, 2, none⟩) (by show w.heap.size + 1 ≠ w.heap.size + 1 + 1; omega) (.int .i64 (b)))
        have Z2 := Lib.hid (Y2.out.set 2 (.int .i64 (b)))
        have HV2 := Lib.hid (HT.out.below HB2.out)
        clear Y0 Y1 Y2 HB1 HV1
        refine (HO.out _ HV2.out).mono ?_
        rintro e w2 ⟨rfl, hb⟩
        clear y0 y1 y2 z2
        have HB3 := Lib.hid (bt HB2.out hb)
        have V0 := Lib.hid (Z0.out.step hb)
        have V1 := Lib.hid (Z1.out.step hb)
        have V2 : Hid (Box w2 (w.heap.size + 1 + 1) 24 #[.int .i64 ((k : Int)), .int .i64 (a % 8), .int .i64 (b)]) := Lib.hid (Z2.out.step hb)
        clear hb Z0 Z1 Z2 HB2 HV2
        have u0 := V2.out.cell 0 rfl
        have u1 := V2.out.cell 1 rfl
        have u2 := V2.out.cell 2 rfl
        have g0 := V0.out.cell 0 rfl
        have g1 := V0.out.cell 1 rfl
        have g2 := V0.out.cell 2 rfl
        have n0 := V0.out.frozen 0
        have n1 := V0.out.frozen 1
        have n2 := V0.out.frozen 2
        go_wp2
        have HR := Lib.hid (((V0.out.set 0 (.int .i64 ((k : Int)))).set 1 (.int .i64 (a % 8))).set 2 (.int .i64 (b)))
        refine bodyPost_ret (v := .agg #[.int .i64 ((k : Int)), .int .i64 (a % 8), .int .i64 (b)]) (by simp [results, Tryd.results36, go_sem, HR.out.cell 0 rfl, HR.out.cell 1 rfl, HR.out.cell 2 rfl]) rfl ?_
        exact ⟨rfl, ((HB3.out.setCell (Nat.le_refl _) _).setCell (Nat.le_refl _) _).setCell (Nat.le_refl _) _⟩
    · have e : da = b + 256 * c := HD.out
      rw [e] at HV HO
      clear HD e da
      cases ok
      · have HV2 : dv = ((22 : Int), 0, 0) := HV.out
        subst HV2
        clear HV
        go_enter Tryd.func36, Tryd.ntmps36
        go_wp2_with fail
        rw [← HW0.out]
        refine (opLength s r ar cy _).mono ?_
        rintro e w1 ⟨rfl, hb⟩
        rw [HL.out]
        have HB1 := Lib.hid (bt HB0.out hb)
        have Y0 := Lib.hid (X0.out.step hb)
        have Y1 := Lib.hid (X1.out.step hb)
        have Y2 := Lib.hid (X2.out.step hb)
        have HV1 := Lib.hid (HT.out.below HB1.out)
        clear hb X0 X1 X2 HB0 c1 c2 c3 c4
        have y0 := Y2.out.cell 0 rfl
        have y1 := Y2.out.cell 1 rfl
        have y2 := Y2.out.cell 2 rfl
        have z2 := Y2.out.frozen 2
        go_wp2_with fail
        have HB2 : Hid (Below w.heap.size w (w1.setCell ⟨w.heap.size + 1 + 1, 2, none⟩ (.int .i64 (b + 256 * c)))) := Lib.hid (HB1.out.setCell (by show w.heap.size ≤ w.heap.size + 1 + 1; omega) _)
        have Z0 := Lib.hid (Y0.out.far (p := ⟨w.heap.size + 1 + 1, 2, none⟩) (by show w.heap.size ≠ w.heap.size + 1 + 1; omega) (.int .i64 (b + 256 * c)))
        have Z1 := Lib.hid (Y1.out.far (p := ⟨w.heap.size + 1 + 1, 2, none⟩) (by show w.heap.size + 1 ≠ w.heap.size + 1 + 1; omega) (.int .i64 (b + 256 * c)))
        have Z2 := Lib.hid (Y2.out.set 2 (.int .i64 (b + 256 * c)))
        have HV2 := Lib.hid (HT.out.below HB2.out)
        clear Y0 Y1 Y2 HB1 HV1
        refine (HO.out _ HV2.out).mono ?_
        rintro e w2 ⟨rfl, hb⟩
        clear y0 y1 y2 z2
        have HB3 := Lib.hid (bt HB2.out hb)
        have V0 := Lib.hid (Z0.out.step hb)
        have V1 := Lib.hid (Z1.out.step hb)
        have V2 : Hid (Box w2 (w.heap.size + 1 + 1) 24 #[.int .i64 ((k : Int)), .int .i64 (a % 8), .int .i64 (b + 256 * c)]) := Lib.hid (Z2.out.step hb)
        clear hb Z0 Z1 Z2 HB2 HV2
        have u0 := V1.out.cell 0 rfl
        have u1 := V1.out.cell 1 rfl
        have u2 := V1.out.cell 2 rfl
        have g0 := V0.out.cell 0 rfl
        have g1 := V0.out.cell 1 rfl
        have g2 := V0.out.cell 2 rfl
        have n0 := V0.out.frozen 0
        have n1 := V0.out.frozen 1
        have n2 := V0.out.frozen 2
        go_wp2
        have HR := Lib.hid (((V0.out.set 0 (.int .i64 ((22 : Int)))).set 1 (.int .i64 (0))).set 2 (.int .i64 (0)))
        refine bodyPost_ret (v := .agg #[.int .i64 ((22 : Int)), .int .i64 (0), .int .i64 (0)]) (by simp [results, Tryd.results36, go_sem, HR.out.cell 0 rfl, HR.out.cell 1 rfl, HR.out.cell 2 rfl]) rfl ?_
        exact ⟨rfl, ((HB3.out.setCell (Nat.le_refl _) _).setCell (Nat.le_refl _) _).setCell (Nat.le_refl _) _⟩
      · have HV2 : dv = ((k : Int), a % 8, b + 256 * c) := HV.out
        subst HV2
        clear HV
        go_enter Tryd.func36, Tryd.ntmps36
        go_wp2_with fail
        rw [← HW0.out]
        refine (opLength s r ar cy _).mono ?_
        rintro e w1 ⟨rfl, hb⟩
        rw [HL.out]
        have HB1 := Lib.hid (bt HB0.out hb)
        have Y0 := Lib.hid (X0.out.step hb)
        have Y1 := Lib.hid (X1.out.step hb)
        have Y2 := Lib.hid (X2.out.step hb)
        have HV1 := Lib.hid (HT.out.below HB1.out)
        clear hb X0 X1 X2 HB0 c1 c2 c3 c4
        have y0 := Y2.out.cell 0 rfl
        have y1 := Y2.out.cell 1 rfl
        have y2 := Y2.out.cell 2 rfl
        have z2 := Y2.out.frozen 2
        go_wp2_with fail
        have HB2 : Hid (Below w.heap.size w (w1.setCell ⟨w.heap.size + 1 + 1, 2, none⟩ (.int .i64 (b + 256 * c)))) := Lib.hid (HB1.out.setCell (by show w.heap.size ≤ w.heap.size + 1 + 1; omega) _)
        have Z0 := Lib.hid (Y0.out.far (p := ⟨w.heap.size + 1 + 1, 2, none⟩) (by show w.heap.size ≠ w.heap.size + 1 + 1; omega) (.int .i64 (b + 256 * c)))
        have Z1 := Lib.hid (Y1.out.far (p := ⟨w.heap.size + 1 + 1, 2, none⟩) (by show w.heap.size + 1 ≠ w.heap.size + 1 + 1; omega) (.int .i64 (b + 256 * c)))
        have Z2 := Lib.hid (Y2.out.set 2 (.int .i64 (b + 256 * c)))
        have HV2 := Lib.hid (HT.out.below HB2.out)
        clear Y0 Y1 Y2 HB1 HV1
        refine (HO.out _ HV2.out).mono ?_
        rintro e w2 ⟨rfl, hb⟩
        clear y0 y1 y2 z2
        have HB3 := Lib.hid (bt HB2.out hb)
        have V0 := Lib.hid (Z0.out.step hb)
        have V1 := Lib.hid (Z1.out.step hb)
        have V2 : Hid (Box w2 (w.heap.size + 1 + 1) 24 #[.int .i64 ((k : Int)), .int .i64 (a % 8), .int .i64 (b + 256 * c)]) := Lib.hid (Z2.out.step hb)
        clear hb Z0 Z1 Z2 HB2 HV2
        have u0 := V2.out.cell 0 rfl
        have u1 := V2.out.cell 1 rfl
        have u2 := V2.out.cell 2 rfl
        have g0 := V0.out.cell 0 rfl
        have g1 := V0.out.cell 1 rfl
        have g2 := V0.out.cell 2 rfl
        have n0 := V0.out.frozen 0
        have n1 := V0.out.frozen 1
        have n2 := V0.out.frozen 2
        go_wp2
        have HR := Lib.hid (((V0.out.set 0 (.int .i64 ((k : Int)))).set 1 (.int .i64 (a % 8))).set 2 (.int .i64 (b + 256 * c)))
        refine bodyPost_ret (v := .agg #[.int .i64 ((k : Int)), .int .i64 (a % 8), .int .i64 (b + 256 * c)]) (by simp [results, Tryd.results36, go_sem, HR.out.cell 0 rfl, HR.out.cell 1 rfl, HR.out.cell 2 rfl]) rfl ?_
        exact ⟨rfl, ((HB3.out.setCell (Nat.le_refl _) _).setCell (Nat.le_refl _) _).setCell (Nat.le_refl _) _⟩
set_option maxRecDepth 100000 in
set_option maxHeartbeats 8000000 in
theorem l07DecodeS (ha0 : 0 ≤ a) (ha1 : a ≤ 255) (hb0 : 0 ≤ b) (hb1 : b ≤ 255) (hc0 : 0 ≤ c) (hc1 : c ≤ 255) :
    Calls Tryd.prog 38 #[.int .i64 a, .int .i64 b, .int .i64 c] w fun e w' => e = .returned (.agg #[.int .i64 (decV a b c).1, .int .i64 (decV a b c).2.1, .int .i64 (decV a b c).2.2]) ∧ Below w.heap.size w w' := by
  have HV : Hid (decV a b c = if okIns (a / 8) (a % 8) (decArg a b c) then (a / 8, a % 8, decArg a b c) else (22, 0, 0)) := Lib.hid rfl
  generalize decV a b c = dv at HV ⊢
  have HD : Hid (decArg a b c = if lenT (a / 8) = 2 then b else if lenT (a / 8) = 3 then b + 256 * c else 0) := Lib.hid rfl
  generalize decArg a b c = da at HV HD
  have HO := Lib.hid (fun W => specInstrOK (a / 8) (a % 8) da W)
  generalize okIns (a / 8) (a % 8) da = ok at HV HO
  have HL := Lib.hid (l07LengthA (a / 8))
  have hl := lenT_range (a / 8)
  generalize lenT (a / 8) = l at HL HD hl
  have hl3 : l = 1 ∨ l = 2 ∨ l = 3 := by omega
  obtain ⟨W0, hW0⟩ : ∃ W0, W0 = (w.alloc (.cells #[.int .i64 0, .int .i64 0, .int .i64 0] 24)).alloc (.cells #[.int .i64 (a / 8), .int .i64 (a % 8), .int .i64 (0)] 24) := ⟨_, rfl⟩
  have hw0 : Below w.heap.size w W0 := by rw [hW0]; exact ((Below.refl _ _).alloc (Nat.le_refl _) _).alloc (by simp) _
  have X0 : Hid (Box W0 w.heap.size 24 #[.int .i64 0, .int .i64 0, .int .i64 0]) := Lib.hid (by rw [hW0]; exact (Box.new _ _ _).alloc _)
  have X1 : Hid (Box W0 (w.heap.size + 1) 24 #[.int .i64 (a / 8), .int .i64 (a % 8), .int .i64 (0)]) := Lib.hid (by rw [hW0]; simpa using Box.new (w.alloc (.cells #[.int .i64 0, .int .i64 0, .int .i64 0] 24)) 24 #[.int .i64 (a / 8), .int .i64 (a % 8), .int .i64 (0)])
  have HW0 := Lib.hid hW0
  have HB0 := Lib.hid hw0
  clear hl hW0 hw0
  rcases hl3 with rfl | rfl | rfl
  · have e : da = 0 := HD.out
    rw [e] at HV HO
    clear HD e da
    cases ok
    · have HV2 : dv = ((22 : Int), 0, 0) := HV.out
      subst HV2
      clear HV
      have x0 := X1.out.cell 0 rfl
      have x1 := X1.out.cell 1 rfl
      have x2 := X1.out.cell 2 rfl
      have m2 := X1.out.frozen 2
      go_enter Tryd.func38, Tryd.ntmps38
      go_wp2_with fail
      rw [← HW0.out]
      refine (HL.out _).mono ?_
      rintro e w' ⟨rfl, rfl⟩
      go_wp2_with fail
      have HB2 := HB0
      have Z0 := X0
      have Z1 := X1
      refine (HO.out _).mono ?_
      rintro e w2 ⟨rfl, hb⟩
      clear x0 x1 x2 m2
      have HB3 := Lib.hid (bt HB2.out hb)
      have V0 := Lib.hid (Z0.out.step hb)
      have V1 : Hid (Box w2 (w.heap.size + 1) 24 #[.int .i64 (a / 8), .int .i64 (a % 8), .int .i64 (0)]) := Lib.hid (Z1.out.step hb)
      clear hb Z0 Z1 HB2
      have u0 := V1.out.cell 0 rfl
      have u1 := V1.out.cell 1 rfl
      have u2 := V1.out.cell 2 rfl
      have g0 := V0.out.cell 0 rfl
      have g1 := V0.out.cell 1 rfl
      have g2 := V0.out.cell 2 rfl
      have n0 := V0.out.frozen 0
      have n1 := V0.out.frozen 1
      have n2 := V0.out.frozen 2
      go_wp2
      have HR := Lib.hid (((V0.out.set 0 (.int .i64 ((22 : Int)))).set 1 (.int .i64 (0))).set 2 (.int .i64 (0)))
      refine bodyPost_ret (v := .agg #[.int .i64 ((22 : Int)), .int .i64 (0), .int .i64 (0)]) (by simp [results, Tryd.results38, go_sem, HR.out.cell 0 rfl, HR.out.cell 1 rfl, HR.out.cell 2 rfl]) rfl ?_
      exact ⟨rfl, ((HB3.out.setCell (Nat.le_refl _) _).setCell (Nat.le_refl _) _).setCell (Nat.le_refl _) _⟩
    · have HV2 : dv = (a / 8, a % 8, 0) := HV.out
      subst HV2
      clear HV
      have x0 := X1.out.cell 0 rfl
      have x1 := X1.out.cell 1 rfl
      have x2 := X1.out.cell 2 rfl
      have m2 := X1.out.frozen 2
      go_enter Tryd.func38, Tryd.ntmps38
      go_wp2_with fail
      rw [← HW0.out]
      refine (HL.out _).mono ?_
      rintro e w' ⟨rfl, rfl⟩
      go_wp2_with fail
      have HB2 := HB0
      have Z0 := X0
      have Z1 := X1
      refine (HO.out _).mono ?_
      rintro e w2 ⟨rfl, hb⟩
      clear x0 x1 x2 m2
      have HB3 := Lib.hid (bt HB2.out hb)
      have V0 := Lib.hid (Z0.out.step hb)
      have V1 : Hid (Box w2 (w.heap.size + 1) 24 #[.int .i64 (a / 8), .int .i64 (a % 8), .int .i64 (0)]) := Lib.hid (Z1.out.step hb)
      clear hb Z0 Z1 HB2
      have u0 := V1.out.cell 0 rfl
      have u1 := V1.out.cell 1 rfl
      have u2 := V1.out.cell 2 rfl
      have g0 := V0.out.cell 0 rfl
      have g1 := V0.out.cell 1 rfl
      have g2 := V0.out.cell 2 rfl
      have n0 := V0.out.frozen 0
      have n1 := V0.out.frozen 1
      have n2 := V0.out.frozen 2
      go_wp2
      have HR := Lib.hid (((V0.out.set 0 (.int .i64 (a / 8))).set 1 (.int .i64 (a % 8))).set 2 (.int .i64 (0)))
      refine bodyPost_ret (v := .agg #[.int .i64 (a / 8), .int .i64 (a % 8), .int .i64 (0)]) (by simp [results, Tryd.results38, go_sem, HR.out.cell 0 rfl, HR.out.cell 1 rfl, HR.out.cell 2 rfl]) rfl ?_
      exact ⟨rfl, ((HB3.out.setCell (Nat.le_refl _) _).setCell (Nat.le_refl _) _).setCell (Nat.le_refl _) _⟩
  · have e : da = b := HD.out
    rw [e] at HV HO
    clear HD e da
    cases ok
    · have HV2 : dv = ((22 : Int), 0, 0) := HV.out
      subst HV2
      clear HV
      have x0 := X1.out.cell 0 rfl
      have x1 := X1.out.cell 1 rfl
      have x2 := X1.out.cell 2 rfl
      have m2 := X1.out.frozen 2
      go_enter Tryd.func38, Tryd.ntmps38
      go_wp2_with fail
      rw [← HW0.out]
      refine (HL.out _).mono ?_
      rintro e w' ⟨rfl, rfl⟩
      go_wp2_with fail
      have HB2 : Hid (Below w.heap.size w (W0.setCell ⟨w.heap.size + 1, 2, none⟩ (.int .i64 (b)))) := Lib.hid (HB0.out.setCell (by show w.heap.size ≤ w.heap.size + 1; omega) _)
      have Z0 := Lib.hid (X0.out.far (p := ⟨w.heap.size + 1, 2, none⟩) (by show w.heap.size ≠ w.heap.size + 1; omega) (.int .i64 (b)))
      have Z1 := Lib.hid (X1.out.set 2 (.int .i64 (b)))
      refine (HO.out _).mono ?_
      rintro e w2 ⟨rfl, hb⟩
      clear x0 x1 x2 m2
      have HB3 := Lib.hid (bt HB2.out hb)
      have V0 := Lib.hid (Z0.out.step hb)
      have V1 : Hid (Box w2 (w.heap.size + 1) 24 #[.int .i64 (a / 8), .int .i64 (a % 8), .int .i64 (b)]) := Lib.hid (Z1.out.step hb)
      clear hb Z0 Z1 HB2
      have u0 := V1.out.cell 0 rfl
      have u1 := V1.out.cell 1 rfl
      have u2 := V1.out.cell 2 rfl
      have g0 := V0.out.cell 0 rfl
      have g1 := V0.out.cell 1 rfl
      have g2 := V0.out.cell 2 rfl
      have n0 := V0.out.frozen 0
      have n1 := V0.out.frozen 1
      have n2 := V0.out.frozen 2
      go_wp2
      have HR := Lib.hid (((V0.out.set 0 (.int .i64 ((22 : Int)))).set 1 (.int .i64 (0))).set 2 (.int .i64 (0)))
      refine bodyPost_ret (v := .agg #[.int .i64 ((22 : Int)), .int .i64 (0), .int .i64 (0)]) (by simp [results, Tryd.results38, go_sem, HR.out.cell 0 rfl, HR.out.cell 1 rfl, HR.out.cell 2 rfl]) rfl ?_
      exact ⟨rfl, ((HB3.out.setCell (Nat.le_refl _) _).setCell (Nat.le_refl _) _).setCell (Nat.le_refl _) _⟩
    · have HV2 : dv = (a / 8, a % 8, b) := HV.out
      subst HV2
      clear HV
      have x0 := X1.out.cell 0 rfl
      have x1 := X1.out.cell 1 rfl
      have x2 := X1.out.cell 2 rfl
      have m2 := X1.out.frozen 2
      go_enter Tryd.func38, Tryd.ntmps38
      go_wp2_with fail
      rw [← HW0.out]
      refine (HL.out _).mono ?_
      rintro e w' ⟨rfl, rfl⟩
      go_wp2_with fail
      have HB2 : Hid (Below w.heap.size w (W0.setCell ⟨w.heap.size + 1, 2, none⟩ (.int .i64 (b)))) := Lib.hid (HB0.out.setCell (by show w.heap.size ≤ w.heap.size + 1; omega) _)
      have Z0 := Lib.hid (X0.out.far (p := ⟨w.heap.size + 1, 2, none⟩) (by show w.heap.size ≠ w.heap.size + 1; omega) (.int .i64 (b)))
      have Z1 := Lib.hid (X1.out.set 2 (.int .i64 (b)))
      refine (HO.out _).mono ?_
      rintro e w2 ⟨rfl, hb⟩
      clear x0 x1 x2 m2
      have HB3 := Lib.hid (bt HB2.out hb)
      have V0 := Lib.hid (Z0.out.step hb)
      have V1 : Hid (Box w2 (w.heap.size + 1) 24 #[.int .i64 (a / 8), .int .i64 (a % 8), .int .i64 (b)]) := Lib.hid (Z1.out.step hb)
      clear hb Z0 Z1 HB2
      have u0 := V1.out.cell 0 rfl
      have u1 := V1.out.cell 1 rfl
      have u2 := V1.out.cell 2 rfl
      have g0 := V0.out.cell 0 rfl
      have g1 := V0.out.cell 1 rfl
      have g2 := V0.out.cell 2 rfl
      have n0 := V0.out.frozen 0
      have n1 := V0.out.frozen 1
      have n2 := V0.out.frozen 2
      go_wp2
      have HR := Lib.hid (((V0.out.set 0 (.int .i64 (a / 8))).set 1 (.int .i64 (a % 8))).set 2 (.int .i64 (b)))
      refine bodyPost_ret (v := .agg #[.int .i64 (a / 8), .int .i64 (a % 8), .int .i64 (b)]) (by simp [results, Tryd.results38, go_sem, HR.out.cell 0 rfl, HR.out.cell 1 rfl, HR.out.cell 2 rfl]) rfl ?_
      exact ⟨rfl, ((HB3.out.setCell (Nat.le_refl _) _).setCell (Nat.le_refl _) _).setCell (Nat.le_refl _) _⟩
  · have e : da = b + 256 * c := HD.out
    rw [e] at HV HO
    clear HD e da
    cases ok
    · have HV2 : dv = ((22 : Int), 0, 0) := HV.out
      subst HV2
      clear HV
      have x0 := X1.out.cell 0 rfl
      have x1 := X1.out.cell 1 rfl
      have x2 := X1.out.cell 2 rfl
      have m2 := X1.out.frozen 2
      go_enter Tryd.func38, Tryd.ntmps38
      go_wp2_with fail
      rw [← HW0.out]
      refine (HL.out _).mono ?_
      rintro e w' ⟨rfl, rfl⟩
      go_wp2_with fail
      have HB2 : Hid (Below w.heap.size w (W0.setCell ⟨w.heap.size + 1, 2, none⟩ (.int .i64 (b + 256 * c)))) := Lib.hid (HB0.out.setCell (by show w.heap.size ≤ w.heap.size + 1; omega) _)
      have Z0 := Lib.hid (X0.out.far (p := ⟨w.heap.size + 1, 2, none⟩) (by show w.heap.size ≠ w.heap.size + 1; omega) (.int .i64 (b + 256 * c)))
      have Z1 := Lib.hid (X1.out.set 2 (.int .i64 (b + 256 * c)))
      refine (HO.out _).mono ?_
      rintro e w2 ⟨rfl, hb⟩
      clear x0 x1 x2 m2
      have HB3 := Lib.hid (bt HB2.out hb)
      have V0 := Lib.hid (Z0.out.step hb)
      have V1 : Hid (Box w2 (w.heap.size + 1) 24 #[.int .i64 (a / 8), .int .i64 (a % 8), .int .i64 (b + 256 * c)]) := Lib.hid (Z1.out.step hb)
      clear hb Z0 Z1 HB2
      have u0 := V1.out.cell 0 rfl
      have u1 := V1.out.cell 1 rfl
      have u2 := V1.out.cell 2 rfl
      have g0 := V0.out.cell 0 rfl
      have g1 := V0.out.cell 1 rfl
      have g2 := V0.out.cell 2 rfl
      have n0 := V0.out.frozen 0
      have n1 := V0.out.frozen 1
      have n2 := V0.out.frozen 2
      go_wp2
      have HR := Lib.hid (((V0.out.set 0 (.int .i64 ((22 : Int)))).set 1 (.int .i64 (0))).set 2 (.int .i64 (0)))
      refine bodyPost_ret (v := .agg #[.int .i64 ((22 : Int)), .int .i64 (0), .int .i64 (0)]) (by simp [results, Tryd.results38, go_sem, HR.out.cell 0 rfl, HR.out.cell 1 rfl, HR.out.cell 2 rfl]) rfl ?_
      exact ⟨rfl, ((HB3.out.setCell (Nat.le_refl _) _).setCell (Nat.le_refl _) _).setCell (Nat.le_refl _) _⟩
    · have HV2 : dv = (a / 8, a % 8, b + 256 * c) := HV.out
      subst HV2
      clear HV
      have x0 := X1.out.cell 0 rfl
      have x1 := X1.out.cell 1 rfl
      have x2 := X1.out.cell 2 rfl
      have m2 := X1.out.frozen 2
      go_enter Tryd.func38, Tryd.ntmps38
      go_wp2_with fail
      rw [← HW0.out]
      refine (HL.out _).mono ?_
      rintro e w' ⟨rfl, rfl⟩
      go_wp2_with fail
      have HB2 : Hid (Below w.heap.size w (W0.setCell ⟨w.heap.size + 1, 2, none⟩ (.int .i64 (b + 256 * c)))) := Lib.hid (HB0.out.setCell (by show w.heap.size ≤ w.heap.size + 1; omega) _)
      have Z0 := Lib.hid (X0.out.far (p := ⟨w.heap.size + 1, 2, none⟩) (by show w.heap.size ≠ w.heap.size + 1; omega) (.int .i64 (b + 256 * c)))
      have Z1 := Lib.hid (X1.out.set 2 (.int .i64 (b + 256 * c)))
      refine (HO.out _).mono ?_
      rintro e w2 ⟨rfl, hb⟩
      clear x0 x1 x2 m2
      have HB3 := Lib.hid (bt HB2.out hb)
      have V0 := Lib.hid (Z0.out.step hb)
      have V1 : Hid (Box w2 (w.heap.size + 1) 24 #[.int .i64 (a / 8), .int .i64 (a % 8), .int .i64 (b + 256 * c)]) := Lib.hid (Z1.out.step hb)
      clear hb Z0 Z1 HB2
      have u0 := V1.out.cell 0 rfl
      have u1 := V1.out.cell 1 rfl
      have u2 := V1.out.cell 2 rfl
      have g0 := V0.out.cell 0 rfl
      have g1 := V0.out.cell 1 rfl
      have g2 := V0.out.cell 2 rfl
      have n0 := V0.out.frozen 0
      have n1 := V0.out.frozen 1
      have n2 := V0.out.frozen 2
      go_wp2
      have HR := Lib.hid (((V0.out.set 0 (.int .i64 (a / 8))).set 1 (.int .i64 (a % 8))).set 2 (.int .i64 (b + 256 * c)))
      refine bodyPost_ret (v := .agg #[.int .i64 (a / 8), .int .i64 (a % 8), .int .i64 (b + 256 * c)]) (by simp [results, Tryd.results38, go_sem, HR.out.cell 0 rfl, HR.out.cell 1 rfl, HR.out.cell 2 rfl]) rfl ?_
      exact ⟨rfl, ((HB3.out.setCell (Nat.le_refl _) _).setCell (Nat.le_refl _) _).setCell (Nat.le_refl _) _⟩
end
end Go.Proofs.YtcchhbkbnbphhaaDoor

/- Encode, the program's: the bytes of an instruction. -/
namespace Go.Proofs.YtcchhbkbnbphhaaDoor
open Go.RowKit

def encR (arg : Int) : Nat → Int
  | 0 => arg
  | k + 1 => encR arg k / 256
def encP (arg : Int) : Nat → List Int
  | 0 => []
  | k + 1 => encP arg k ++ [encR arg k % 256]
theorem encR_nonneg (arg : Int) (h : 0 ≤ arg) : ∀ k, 0 ≤ encR arg k
  | 0 => h
  | k + 1 => Int.ediv_nonneg (encR_nonneg arg h k) (by omega)
theorem encR_le (arg : Int) (h : 0 ≤ arg) (h2 : arg ≤ 4095) : ∀ k, encR arg k ≤ 4095
  | 0 => h2
  | k + 1 => by
    have := encR_le arg h h2 k
    have := encR_nonneg arg h k
    show encR arg k / 256 ≤ 4095
    omega
theorem encP_len (arg : Int) (k : Nat) : (encP arg k).length = k := by
  induction k with
  | zero => rfl
  | succ k ih => simp only [encP, List.length_append, ih]; rfl
def encL (op reg arg : Int) : List Int := (8 * op + reg) :: encP arg ((lenT op).toNat - 1)
theorem encL_len (op reg arg : Int) : (encL op reg arg).length = (lenT op).toNat := by
  have := lenT_range op
  simp only [encL, List.length_cons, encP_len]; omega
def encF (op reg arg : Int) : List Int × Int := if okIns op reg arg then (encL op reg arg, 0) else ([], 1)
def sliceLen : Value → Nat
  | .slice _ n _ => n
  | _ => 0
theorem rowv_box {w : World} {base g : Nat} {t : TypeId} {cs : Array Value} (hb : base ≤ g) (hg : Box w g t cs) (hm : cs.size ≤ maxLen) : w.ownsRow base t 1 (.slice (some ⟨g, 0, none⟩) cs.size cs.size) cs.size cs.toList :=
  ⟨by simp, .inr ⟨g, cs.size, cs, rfl, hb, hg, Nat.le_refl _, hm, by simp, by rw [Nat.mul_one]; exact List.take_of_length_le (by simp)⟩⟩
def GivesI (zs : List Int) (w : World) (e : Ending) (w' : World) : Prop := ∃ A n c, e = .returned (.slice A n c) ∧ zs.length = n ∧ Hid (OwnI w' w.heap.size w'.heap.size A zs) ∧ Below w.heap.size w w'

set_option maxRecDepth 100000 in
set_option maxHeartbeats 4000000 in
theorem insBytes (op : Nat) (reg arg : Int) (w : World) (ht : OpsT w) (h0 : op ≤ 21) (hr0 : 0 ≤ reg) (hr1 : reg ≤ 3) (ha0 : 0 ≤ arg) (ha1 : arg ≤ 4095) :
    Calls Tryd.prog 24 #[.agg #[.int .i64 op, .int .i64 reg, .int .i64 arg]] w (GivesI (encL op reg arg) w) := by
  have hlt := ht.lt
  have HC : Hid (∀ W, Below w.heap.size w W → W.cell? ⟨0, op * 4, none⟩ = some (.string (opWord op)) ∧ W.cell? ⟨0, op * 4 + 1, none⟩ = some (.int .i64 (regT op)) ∧ W.cell? ⟨0, op * 4 + 2, none⟩ = some (.int .i64 (argT op)) ∧ W.cell? ⟨0, op * 4 + 3, none⟩ = some (.int .i64 (fixT op))) := Lib.hid (fun W hb => (ht.below hb) op (by omega))
  have HL := Lib.hid (lenA_arg op)
  have hl := lenT_range op
  have HE : Hid (encL op reg arg = (8 * (op : Int) + reg) :: encP arg ((lenT op).toNat - 1)) := Lib.hid rfl
  generalize encL op reg arg = zs at HE ⊢
  obtain ⟨l, hll⟩ : ∃ l : Nat, lenT op = l := ⟨(lenT op).toNat, by omega⟩
  rw [hll] at HL HE hl
  rw [show ((l : Int)).toNat = l from by omega] at HE
  clear hll ht
  generalize opWord op = s at HC
  generalize regT op = r at HC
  generalize argT op = ar at HC HL
  generalize fixT op = cy at HC
  have hl1 : 1 ≤ l := by omega
  have hl3 : l ≤ 3 := by omega
  have HN := Lib.hid (encR_nonneg arg ha0)
  have HM := Lib.hid (encR_le arg ha0 ha1)
  have HP := Lib.hid (encP_len arg)
  obtain ⟨W0, hW0⟩ : ∃ W0, W0 = (w.alloc (.cells #[.int .i64 op, .int .i64 reg, .int .i64 arg] 24)).alloc (.cells #[.int .i64 (8 * op + reg)] 3) := ⟨_, rfl⟩
  have hb0 : Below w.heap.size w W0 := by rw [hW0]; exact bt (alloc_below _ _) (alloc_below _ _)
  have X0 : Hid (Box W0 w.heap.size 24 #[.int .i64 op, .int .i64 reg, .int .i64 arg]) := Lib.hid (by rw [hW0]; exact (Box.new _ _ _).alloc _)
  have X1 : Hid (Box W0 (w.heap.size + 1) 3 #[.int .i64 (8 * op + reg)]) := Lib.hid (by rw [hW0]; simpa using Box.new (w.alloc (.cells #[.int .i64 op, .int .i64 reg, .int .i64 arg] 24)) 3 #[.int .i64 (8 * op + reg)])
  have hs0 : w.heap.size + 1 ≤ W0.heap.size := by have := X1.out.lt; omega
  have HW0 := Lib.hid hW0
  have HB0 := Lib.hid hb0
  clear hW0 hb0 hl
  go_enter Tryd.func24, Tryd.ntmps24
  go_wp2
  rw [← HW0.out]
  clear HW0
  go_loopw [3, 4] (fun u v wr => ∃ (j : Nat) (A' : Option Addr) (c' : Nat), j + 1 ≤ l ∧ u = .slice A' (j + 1) c' ∧ v = .int .i64 (encR arg j) ∧ Hid (Below w.heap.size w wr) ∧ Hid (GroI wr (w.heap.size + 1) (.slice A' (j + 1) c') ((8 * op + reg) :: encP arg j)) ∧ Hid (Box wr w.heap.size 24 #[.int .i64 op, .int .i64 reg, .int .i64 arg]) ∧ w.heap.size + 1 ≤ wr.heap.size) (fun u _ _ => 4 - sliceLen u)
  case atStart => exact ⟨0, _, 1, hl1, rfl, rfl, HB0, Lib.hid (rowv_box (Nat.le_refl _) X1.out (by show 1 ≤ maxLen; unfold maxLen; omega)), X0, hs0⟩
  case round =>
    clear HB0 X0 X1 hs0
    obtain ⟨j, A', c', hj, rfl, rfl, HB, HG, X0, hsz⟩ := hrel
    have x0 := X0.out.cell 0 rfl
    have x1 := X0.out.cell 1 rfl
    have x2 := X0.out.cell 2 rfl
    obtain ⟨c1, c2, c3, c4⟩ := HC.out wr HB.out
    have hlw : 0 < wr.heap.size := by omega
    by_cases hlt : j + 1 < l
    · have hcmp : ((j + 1 : Nat) : Int) < (l : Int) := by omega
      have HRk : Hid (wr.ownsRow (w.heap.size + 1) 3 1 (.slice A' (j + 1) c') (j + 1) (((8 * op + reg) :: encP arg j).map (Value.int .i64))) := Lib.hid (by have := HG.out; unfold GroI at this; rwa [List.length_cons, HP.out] at this)
      have hr0' := HN.out j
      have hr1' := HM.out j
      have HS1 : Hid (encR arg (j + 1) = encR arg j / 256) := Lib.hid rfl
      have HS2 : Hid (encP arg (j + 1) = encP arg j ++ [encR arg j % 256]) := Lib.hid rfl
      generalize encR arg j = rest at HS1 HS2 hr0' hr1' ⊢
      clear HG
      go_wp2_with fail
      refine (opLength s r ar cy _).mono ?_
      rintro e w1 ⟨rfl, hb⟩
      rw [HL.out]
      have HB1 := Lib.hid (bt HB.out hb)
      have HR1 := Lib.hid (rowv_below HRk.out hb)
      have X1 := Lib.hid (X0.out.step hb)
      have hs1 : w.heap.size + 1 ≤ w1.heap.size := Nat.le_trans hsz hb.size
      clear hb x0 x1 x2 c1 c2 c3 c4 X0 HB HRk hsz hlw
      have HBa : Hid (Below w1.heap.size w1 (w1.alloc (.cells #[.int .i64 (rest % 256)] 3))) := Lib.hid (alloc_below _ _)
      have HOw := Lib.hid (rowv_below HR1.out HBa.out)
      have HNw : Hid (∀ i u, [Value.int .i64 (rest % 256)][i]? = some u → (w1.alloc (.cells #[.int .i64 (rest % 256)] 3)).cell? ⟨w1.heap.size, i, none⟩ = some u) := Lib.hid (fun i u hi => by
        match i, hi with
        | 0, hi => simp at hi; subst hi; exact (Box.new w1 3 #[.int .i64 (rest % 256)]).cell 0 rfl)
      have hm : ((j + 1 : Nat) : Int) + 1 ≤ 1000 := by omega
      go_wp2_with (at_builtin; refine wpList_app_one rfl (.tmp 22) (.tmp 25) 26 3 rfl (.int .i64 0) 1 8 elemInt Tryd.underlying26 (w.heap.size + 1) (.slice A' (j + 1) c') (j + 1) (((8 * op + reg) :: encP arg j).map (Value.int .i64)) rfl ?hown w1.heap.size 1 rfl [.int .i64 (rest % 256)] rfl ?hnews ?hone ?h63 ?hby ?hbase ?_)
      case hown => exact HOw.out
      case hnews => exact HNw.out
      case hone => intro u hu; simp at hu; subst hu; rfl
      case h63 => unfold maxLen; omega
      case hby => omega
      case hbase => simp; omega
      intro A2 c2 w2 hR2 hc2 hg2 hb2
      have HR2 := Lib.hid hR2
      have X2 := Lib.hid ((X1.out.step HBa.out).below hb2 (by omega))
      have HB2 := Lib.hid ((bt HB1.out HBa.out).trans (hb2.mono (by omega)))
      have hs2 : w.heap.size + 1 ≤ w2.heap.size := Nat.le_trans (Nat.le_trans hs1 HBa.out.size) hb2.size
      clear hR2 hb2 hg2
      go_wp2
      go_roundw
      case rel =>
        refine ⟨j + 1, A2, c2, by omega, rfl, by rw [HS1.out], HB2, Lib.hid ?_, X2, hs2⟩
        unfold GroI; rw [HS2.out, List.length_cons, List.length_append, HP.out, ← List.cons_append, List.map_append]; exact HR2.out
      case measure => simp [sliceLen]; omega
    · obtain rfl : l = j + 1 := by omega
      have hcmp : ¬ ((j + 1 : Nat) : Int) < ((j + 1 : Nat) : Int) := by omega
      go_wp2_with fail
      refine (opLength s r ar cy _).mono ?_
      rintro e w1 ⟨rfl, hb⟩
      rw [HL.out]
      have HB1 := Lib.hid (bt HB.out hb)
      have HO : Hid (OwnI w1 w.heap.size w1.heap.size A' ((8 * op + reg) :: encP arg j)) := Lib.hid ((HG.out.own (Nat.le_succ _)).below hb |>.wideB (Nat.le_refl _) hb.size)
      clear hb x0 x1 x2 c1 c2 c3 c4 X0 HB HG
      go_wp2
      go_ret
      exact ⟨_, _, _, rfl, by rw [HE.out, List.length_cons, HP.out]; omega, by rw [HE.out]; exact HO, HB1.out⟩
end Go.Proofs.YtcchhbkbnbphhaaDoor

/- Contracts of szRoot, toRoot, eqRoot, markRoot, heldRoot; a root behind a box. -/
namespace Go.Proofs.YtcchhbkbnbphhaaDoor
open Go.RowKit

section
variable {w w' : World} {b lo hi : Nat} {g : Int} {A : Option Addr} {n c : Nat} {zs : List Int}
end
theorem OwnI.wide {w : World} {lo hi lo' hi' : Nat} {A : Option Addr} {zs : List Int} (h : OwnI w lo hi A zs) (h1 : lo' ≤ lo) (h2 : hi ≤ hi') : OwnI w lo' hi' A zs := by
  rcases h with e | ⟨b, m, f, e, p1, p2, hm, hr, hf⟩
  · exact .inl e
  · exact .inr ⟨b, m, f, e, by omega, by omega, hm, hr, hf⟩
theorem OwnI.far {w : World} {lo hi : Nat} {A : Option Addr} {zs : List Int} (h : OwnI w lo hi A zs) {b : Nat} {t : TypeId} {cs : Array Value} (X : Box w b t cs) (ht : t ≠ 3) (i : Nat) (u : Value) : OwnI (w.setCell ⟨b, i, none⟩ u) lo hi A zs := by
  rcases h with e | ⟨b', m, f, e, p1, p2, hm, hr, hf⟩
  · exact .inl e
  · exact .inr ⟨b', m, f, e, p1, p2, hm, hr.setOther (a := ⟨b, i, none⟩) (by exact (X.ne hr ht).symm) u, hf⟩

end Go.Proofs.YtcchhbkbnbphhaaDoor

/- A map[int]bool of the call's own whose values are all true: a set of integers, as the list of its keys. -/
namespace Go.Proofs.YtcchhbkbnbphhaaDoor
open Go.RowKit

def SetI (w : World) (b : Nat) (ks : List Int) : Prop :=
  ∃ es clock, w.heap[b]? = some (.map es clock) ∧ es.toList.map (·.key) = ks.map (Value.int .i64) ∧ ∀ x ∈ es.toList, x.val = .bool true
theorem SetI.lt {w : World} {b : Nat} {ks : List Int} (h : SetI w b ks) : b < w.heap.size := by
  obtain ⟨es, clock, hb, _⟩ := h
  exact (Array.getElem?_eq_some_iff.1 hb).1
theorem SetI.below {w w' : World} {b : Nat} {ks : List Int} (h : SetI w b ks) (hb : Below w.heap.size w w') : SetI w' b ks := by
  have hlt := h.lt
  obtain ⟨es, clock, h1, h2, h3⟩ := h
  exact ⟨es, clock, (hb.block b hlt).trans h1, h2, h3⟩
theorem SetI.made (w : World) : SetI (w.alloc (.map #[] 0)) w.heap.size [] := ⟨#[], 0, (MapKept.heap_alloc w _).1, by simp, by simp⟩

section
variable {P : Program} {t k e : TypeId}
end

end Go.Proofs.YtcchhbkbnbphhaaDoor

/- Contracts of both RootOK and of what they call. -/
namespace Go.Proofs.YtcchhbkbnbphhaaDoor
open Go.RowKit

end Go.Proofs.YtcchhbkbnbphhaaDoor

/- Contracts of the readers of digits: isDigit, l00Digit, allDigits, numberOf, l02Fixed. -/
namespace Go.Proofs.YtcchhbkbnbphhaaDoor
open Go.RowKit

def digB (n : Int) : Bool := decide (48 ≤ n ∧ n ≤ 57)
set_option maxRecDepth 100000 in
theorem isDigit (n : Int) (w : World) : Calls Tryd.prog 70 #[.int .u8 n] w fun e w' => e = .returned (.bool (digB n)) ∧ w = w' := by
  go_enter Tryd.func70, Tryd.ntmps70
  go_wp2
  all_goals go_ret
  all_goals (refine ⟨ret_bool ?_, rfl⟩)
  all_goals (unfold digB; rw [Bool.eq_iff_iff]; simp; try omega)
def digC (c : UInt8) : Bool := digB c.toNat
def allDig (l : List UInt8) : Bool := l.all digC
theorem allDig_step (s : ByteArray) (k : Nat) (h : k < s.size) : allDig (s.data.toList.drop k) = (digB s[k].toNat && allDig (s.data.toList.drop (k + 1))) := by
  unfold allDig
  rw [List.drop_eq_getElem_cons (by simpa using h)]; rfl
theorem allDig_end (s : ByteArray) (k : Nat) (h : s.size ≤ k) : allDig (s.data.toList.drop k) = true := by
  rw [List.drop_of_length_le (by simpa using h)]; rfl

set_option maxRecDepth 100000 in
set_option maxHeartbeats 1000000 in
theorem allDigits (s : ByteArray) (w : World) (hs : s.size ≤ maxLen) : Calls Tryd.prog 62 #[.string s] w fun e w' => e = .returned (.bool (allDig s.data.toList)) ∧ w = w' := by
  unfold maxLen at hs
  go_enter Tryd.func62, Tryd.ntmps62
  go_wp2
  go_loop [3] (fun i => ∃ k : Nat, k ≤ s.size ∧ i = .int .i64 k ∧ Hid (allDig s.data.toList = allDig (s.data.toList.drop k))) (fun i => s.size - (intOf i).toNat)
  case atStart => exact ⟨0, Nat.zero_le _, rfl, Lib.hid rfl⟩
  case round =>
    obtain ⟨k, hk, rfl, HT⟩ := hrel
    by_cases hlt : k < s.size
    · have HS := Lib.hid (allDig_step s k hlt)
      have HC := Lib.hid (fun W => isDigit (s[k].toNat : Int) W)
      by_cases hE : digB (s[k].toNat : Int) = true
      · have HE := Lib.hid hE
        rw [hE] at HC
        clear hE
        go_wp2_with (first | (go_at_call 70; refine (HC.out _).mono ?_; rintro e w' ⟨rfl, rfl⟩))
        go_round
        case rel => exact ⟨k + 1, by omega, by go_num, Lib.hid (by rw [HT.out, HS.out, HE.out]; rfl)⟩
        case measure => simp [intOf]; omega
      · have hE' : digB (s[k].toNat : Int) = false := by simpa using hE
        have HE := Lib.hid hE'
        rw [hE'] at HC
        clear hE hE'
        go_wp2_with (first | (go_at_call 70; refine (HC.out _).mono ?_; rintro e w' ⟨rfl, rfl⟩))
        go_ret
        exact ⟨ret_bool (by rw [HT.out, HS.out, HE.out]; rfl), rfl⟩
    · go_wp2
      go_ret
      exact ⟨ret_bool (by rw [HT.out]; exact (allDig_end s k (by omega)).symm), rfl⟩

def numOf (l : List UInt8) : Nat := l.foldl (fun n c => 10 * n + (c.toNat - 48)) 0
theorem numOf_step (s : ByteArray) (k : Nat) (h : k < s.size) : numOf (s.data.toList.take (k + 1)) = 10 * numOf (s.data.toList.take k) + (s[k].toNat - 48) := by
  unfold numOf
  rw [List.take_succ_eq_append_getElem (by simpa using h), List.foldl_append]; rfl
theorem fold_lt (l : List UInt8) (h : allDig l = true) : ∀ m, l.foldl (fun n c => 10 * n + (c.toNat - 48)) m < (m + 1) * 10 ^ l.length := by
  induction l with
  | nil => intro m; simp
  | cons a r ih =>
    intro m
    unfold allDig at h
    rw [List.all_cons, Bool.and_eq_true] at h
    have ha : (a.toNat : Int) ≤ 57 := by have := h.1; unfold digC digB at this; simp at this; omega
    rw [List.foldl_cons]
    refine Nat.lt_of_lt_of_le (ih h.2 _) ?_
    rw [List.length_cons, Nat.pow_succ, Nat.mul_comm (10 ^ r.length) 10, ← Nat.mul_assoc]
    exact Nat.mul_le_mul_right _ (by omega)
theorem numOf_lt (l : List UInt8) (h : allDig l = true) : numOf l < 10 ^ l.length := by
  have := fold_lt l h 0
  simpa [numOf] using this
theorem allDig_take (l : List UInt8) (k : Nat) (h : allDig l = true) : allDig (l.take k) = true := by
  unfold allDig at *
  rw [List.all_eq_true] at *
  exact fun x hx => h x (List.mem_of_mem_take hx)
theorem allDig_at (s : ByteArray) (k : Nat) (h : k < s.size) (ha : allDig s.data.toList = true) : 48 ≤ s[k].toNat ∧ s[k].toNat ≤ 57 := by
  unfold allDig at ha
  rw [List.all_eq_true] at ha
  have := ha s[k] (by exact List.getElem_mem (l := s.data.toList) (n := k) (by simpa using h))
  unfold digC digB at this
  simp at this
  omega

set_option maxRecDepth 100000 in
set_option maxHeartbeats 1000000 in
theorem numberOf (s : ByteArray) (w : World) (hs : s.size ≤ 17) (hd : allDig s.data.toList = true) : Calls Tryd.prog 63 #[.string s] w fun e w' => e = .returned (.int .i64 (numOf s.data.toList : Nat)) ∧ w = w' := by
  have HD := Lib.hid hd
  clear hd
  go_enter Tryd.func63, Tryd.ntmps63
  go_wp2
  go_loop [3, 4] (fun n i => ∃ k : Nat, k ≤ s.size ∧ i = .int .i64 k ∧ n = .int .i64 (numOf (s.data.toList.take k) : Nat)) (fun _ i => s.size - (intOf i).toNat)
  case atStart => exact ⟨0, Nat.zero_le _, rfl, rfl⟩
  case round =>
    obtain ⟨k, hk, rfl, rfl⟩ := hrel
    have hb : numOf (s.data.toList.take k) < 100000000000000000 := by
      refine Nat.lt_of_lt_of_le (numOf_lt _ (allDig_take _ k HD.out)) ?_
      rw [List.length_take]
      exact Nat.le_trans (Nat.pow_le_pow_right (by omega) (show min k s.data.toList.length ≤ 17 by omega)) (by decide)
    by_cases hlt : k < s.size
    · have HS := Lib.hid (numOf_step s k hlt)
      have hc := allDig_at s k hlt HD.out
      generalize numOf (s.data.toList.take k) = m at HS hb
      obtain ⟨hc1, hc2⟩ := hc
      have hw : IntKind.u8.wrap ((s[k].toNat : Int) - 48) = (s[k].toNat : Int) - 48 := IntWalk.u8_in _ (by omega)
      go_wp2
      go_round
      case rel => exact ⟨k + 1, by omega, by go_num, by rw [HS.out]; congr 1; omega⟩
      case measure => simp [intOf]; omega
    · have HF : Hid (numOf (s.data.toList.take k) = numOf s.data.toList) := Lib.hid (by rw [List.take_of_length_le (by simpa using by omega)])
      generalize numOf (s.data.toList.take k) = m at HF hb
      go_wp2
      go_ret
      exact ⟨ret_int (by rw [HF.out]), rfl⟩

/- What a root's text says. -/
end Go.Proofs.YtcchhbkbnbphhaaDoor

/- Contracts of l01Read and of both ReadDisk. -/
namespace Go.Proofs.YtcchhbkbnbphhaaDoor
open Go.RowKit

def down (ws : List (Int × ByteArray)) (at_ : Int) : Nat → Option ByteArray
  | 0 => none
  | k + 1 => if (ws.getD k (0, ByteArray.empty)).1 = at_ then some (ws.getD k (0, ByteArray.empty)).2 else down ws at_ k
end Go.Proofs.YtcchhbkbnbphhaaDoor

/- Contracts of the digits' functions: l00Digits, l02Digits, digitsOf. -/
namespace Go.Proofs.YtcchhbkbnbphhaaDoor
open Go.RowKit

end Go.Proofs.YtcchhbkbnbphhaaDoor
