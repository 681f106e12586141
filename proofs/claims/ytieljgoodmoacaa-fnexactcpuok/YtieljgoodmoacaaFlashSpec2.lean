/- The model's l03Guard and l03Erase. -/
import Derived.Test.YtieljgoodmoacaaFlashSpec
namespace Go.Proofs.Ytieljgoodmoacaa
open Go.RowKit

set_option maxRecDepth 100000 in
set_option maxHeartbeats 4000000 in
theorem l03Guard (A C : Option Addr) (n c m d k : Nat) (st : Int) (zs : List Int) (gs : List Bool) (w : World) (hl : zs.length = n) (hm : gs.length = m) (hn : n = 256) (hmm : m = 16) (hk : k < 16) (h : IntL w A zs) (g : BoolL w C gs) :
    Calls Try.prog 87 #[.agg #[.slice A n c, .slice C m d, .int .i64 st], .int .i64 k] w (GivesFlash zs (gs.set k true) st w) := by
  obtain ⟨W0, hW0⟩ : ∃ W0, W0 = ((w.alloc (.cells #[.slice A n c, .slice C m d, .int .i64 st] 43)).alloc (.cells #[.slice none 0 0, .slice none 0 0, .int .i64 0] 43)) := ⟨_, rfl⟩
  have hb0 : Below w.heap.size w W0 := by rw [hW0]; exact bt (alloc_below _ _) (alloc_below _ _)
  have X0 : Box W0 w.heap.size 43 #[.slice A n c, .slice C m d, .int .i64 st] := by rw [hW0]; exact (Box.new _ _ _).alloc _
  have Y0 : Box W0 (w.heap.size + 1) 43 #[.slice none 0 0, .slice none 0 0, .int .i64 0] := by rw [hW0]; simpa using Box.new (w.alloc (.cells #[.slice A n c, .slice C m d, .int .i64 st] 43)) 43 #[.slice none 0 0, .slice none 0 0, .int .i64 0]
  have HO := Lib.hid (l03Own A C n c m d st zs gs W0 hl hm hn hmm (h.below hb0) (g.below hb0))
  have HLen : Hid (zs.length = 256 ∧ gs.length = 16) := Lib.hid ⟨by omega, by omega⟩
  have HX := Lib.hid (And.intro X0 Y0)
  have HW0 := Lib.hid hW0
  clear hl hm h g hW0 X0 Y0 hn hmm
  have hki : (k : Int) < 16 := by omega
  go_enter Try.func87, Try.ntmps87
  go_wp2_with fail
  rw [← HW0.out]
  refine HO.out.mono ?_
  rintro e w1 ⟨A1, n1, c1, C1, m1, d1, rfl, L1, M1, S1, R1, hb1⟩
  obtain rfl : n1 = 256 := by have := L1.out; have := HLen.out; omega
  obtain rfl : m1 = 16 := by have := M1.out; have := HLen.out; omega
  have X1 := HX.out.1.step hb1
  have Y1 := HX.out.2.step hb1
  have a0 := X1.cell 0 rfl
  have a1 := X1.cell 1 rfl
  have a2 := X1.cell 2 rfl
  have a0z := X1.frozen 0
  have a1z := X1.frozen 1
  have a2z := X1.frozen 2
  obtain ⟨w2, hw2⟩ : ∃ w2, w2 = ((w1.setCell ⟨w.heap.size, 0, none⟩ (.slice A1 256 c1)).setCell ⟨w.heap.size, 1, none⟩ (.slice C1 16 d1)).setCell ⟨w.heap.size, 2, none⟩ (.int .i64 st) := ⟨_, rfl⟩
  have X2 : Box w2 w.heap.size 43 #[.slice A1 256 c1, .slice C1 16 d1, .int .i64 st] := by rw [hw2]; exact X1.flash3 rfl _ _ _
  have Y2 : Box w2 (w.heap.size + 1) 43 #[.slice none 0 0, .slice none 0 0, .int .i64 0] := by rw [hw2]; exact Y1.far3 (by omega) _ _ _
  have S2 : Hid (OwnI w2 w.heap.size w2.heap.size A1 zs) := Lib.hid (by rw [hw2]; exact (S1.out.far3 X1 _ _ _).wideB hb0.size (by rw [size3]; exact Nat.le_refl _))
  have R2 : Hid (OwnB w2 w.heap.size w2.heap.size C1 gs) := Lib.hid (by rw [hw2]; exact (R1.out.far3 X1 _ _ _).wide hb0.size (by rw [size3]; exact Nat.le_refl _))
  have hb2 : Below w.heap.size w w2 := by rw [hw2]; exact below3 (bt hb0 hb1) (Nat.le_refl _) _ _ _
  obtain ⟨bg, mg, fg, rfl, hcg, hfg, hlo, hhi, hrg, hput⟩ := R2.out.put k (by have := HLen.out; omega)
  generalize gs.getD k false = q at hcg
  have HPut := Lib.hid (And.intro hlo hput)
  have X3 := X2.other hrg (by decide) k (.bool true)
  have Y3 := Y2.other hrg (by decide) k (.bool true)
  have S3 := Lib.hid (S2.out.other hrg (by decide) k (.bool true))
  have x0 := X2.cell 0 rfl
  have x1 := X2.cell 1 rfl
  have u0 := X3.cell 0 rfl
  have u1 := X3.cell 1 rfl
  have u2 := X3.cell 2 rfl
  have t0 := Y3.cell 0 rfl
  have t1 := Y3.cell 1 rfl
  have t2 := Y3.cell 2 rfl
  have t0z := Y3.frozen 0
  have t1z := Y3.frozen 1
  have t2z := Y3.frozen 2
  have HYs := Lib.hid Y3
  have HB2 := Lib.hid (And.intro hb2 hw2)
  rw [hw2] at hcg hfg x0 x1 u0 u1 u2 t0 t1 t2 t0z t1z t2z
  clear X1 Y1 S1 R1 hb0 hb1 hw2 X2 Y2 hb2 hlo hhi hrg hput X3 Y3 HO HX HW0 fg
  go_wp2
  refine bodyPost_ret (v := .agg #[.slice A1 256 c1, .slice (some ⟨bg, 0, none⟩) 16 d1, .int .i64 st]) (by simp [results, Try.results87, go_sem, t0, t1, t2]) rfl ?_
  rw [← HB2.out.2]
  refine ⟨_, _, _, _, _, _, rfl, Lib.hid HLen.out.1, Lib.hid (by rw [List.length_set]; exact HLen.out.2), Lib.hid ?_, Lib.hid ?_, ?_⟩
  · exact (S3.out.far3 HYs.out _ _ _).wideB (Nat.le_refl _) (by rw [size3]; simp [World.setCell])
  · exact ((HPut.out.2 true).far3 HYs.out _ _ _).wide (Nat.le_refl _) (by rw [size3]; simp [World.setCell])
  · exact below3 (HB2.out.1.setCell (p := ⟨bg, k, none⟩) HPut.out.1 _) (by omega) _ _ _

set_option maxRecDepth 100000 in
set_option maxHeartbeats 4000000 in
theorem l03Erase (A C : Option Addr) (n c m d k : Nat) (st : Int) (zs : List Int) (gs : List Bool) (w : World) (hl : zs.length = n) (hm : gs.length = m) (hn : n = 256) (hmm : m = 16) (hk : k < 16) (h : IntL w A zs) (g : BoolL w C gs) :
    Calls Try.prog 89 #[.agg #[.slice A n c, .slice C m d, .int .i64 st], .int .i64 k] w (GivesFlash (eraseL zs gs k) gs st w) := by
  obtain ⟨W0, hW0⟩ : ∃ W0, W0 = ((w.alloc (.cells #[.slice A n c, .slice C m d, .int .i64 st] 43)).alloc (.cells #[.slice none 0 0, .slice none 0 0, .int .i64 0] 43)) := ⟨_, rfl⟩
  have hb0 : Below w.heap.size w W0 := by rw [hW0]; exact bt (alloc_below _ _) (alloc_below _ _)
  have X0 : Box W0 w.heap.size 43 #[.slice A n c, .slice C m d, .int .i64 st] := by rw [hW0]; exact (Box.new _ _ _).alloc _
  have Y0 : Box W0 (w.heap.size + 1) 43 #[.slice none 0 0, .slice none 0 0, .int .i64 0] := by rw [hW0]; simpa using Box.new (w.alloc (.cells #[.slice A n c, .slice C m d, .int .i64 st] 43)) 43 #[.slice none 0 0, .slice none 0 0, .int .i64 0]
  have HO := Lib.hid (l03Own A C n c m d st zs gs W0 hl hm hn hmm (h.below hb0) (g.below hb0))
  have HLen : Hid (zs.length = 256 ∧ gs.length = 16) := Lib.hid ⟨by omega, by omega⟩
  have HE : Hid (∀ q, gs.getD k false = q → eraseL zs gs k = if q then zs else fillR zs (k * 16) (k * 16 + 16)) := Lib.hid (by intro q hq; unfold eraseL; rw [hq])
  generalize eraseL zs gs k = r at HE
  have HX := Lib.hid (And.intro X0 Y0)
  have HW0 := Lib.hid hW0
  clear hl hm h g hW0 X0 Y0 hn hmm
  have hki : (k : Int) < 16 := by omega
  go_enter Try.func89, Try.ntmps89
  go_wp2_with fail
  rw [← HW0.out]
  refine HO.out.mono ?_
  rintro e w1 ⟨A1, n1, c1, C1, m1, d1, rfl, L1, M1, S1, R1, hb1⟩
  obtain rfl : n1 = 256 := by have := L1.out; have := HLen.out; omega
  obtain rfl : m1 = 16 := by have := M1.out; have := HLen.out; omega
  have X1 := HX.out.1.step hb1
  have Y1 := HX.out.2.step hb1
  have a0 := X1.cell 0 rfl
  have a1 := X1.cell 1 rfl
  have a2 := X1.cell 2 rfl
  have a0z := X1.frozen 0
  have a1z := X1.frozen 1
  have a2z := X1.frozen 2
  obtain ⟨w2, hw2⟩ : ∃ w2, w2 = ((w1.setCell ⟨w.heap.size, 0, none⟩ (.slice A1 256 c1)).setCell ⟨w.heap.size, 1, none⟩ (.slice C1 16 d1)).setCell ⟨w.heap.size, 2, none⟩ (.int .i64 st) := ⟨_, rfl⟩
  have X2 : Hid (Box w2 w.heap.size 43 #[.slice A1 256 c1, .slice C1 16 d1, .int .i64 st]) := Lib.hid (by rw [hw2]; exact X1.flash3 rfl _ _ _)
  have Y2 : Hid (Box w2 (w.heap.size + 1) 43 #[.slice none 0 0, .slice none 0 0, .int .i64 0]) := Lib.hid (by rw [hw2]; exact Y1.far3 (by omega) _ _ _)
  have S2 : Hid (OwnI w2 w.heap.size w2.heap.size A1 zs) := Lib.hid (by rw [hw2]; exact (S1.out.far3 X1 _ _ _).wideB hb0.size (by rw [size3]; exact Nat.le_refl _))
  have R2 : Hid (OwnB w2 w.heap.size w2.heap.size C1 gs) := Lib.hid (by rw [hw2]; exact (R1.out.far3 X1 _ _ _).wide hb0.size (by rw [size3]; exact Nat.le_refl _))
  have hb2 : Below w.heap.size w w2 := by rw [hw2]; exact below3 (bt hb0 hb1) (Nat.le_refl _) _ _ _
  have HW2 := Lib.hid hw2
  clear X1 Y1 S1 R1 hb0 hb1 hw2 HO HX HW0
  go_wp2
  rw [← HW2.out]
  clear a0 a1 a2 a0z a1z a2z HW2
  go_loopw [5] (fun i wr => ∃ j : Nat, j ≤ 16 ∧ i = .int .i64 j ∧ Hid (gs.getD k false = true → j = 0) ∧ Below w.heap.size w wr ∧ Hid (Box wr w.heap.size 43 #[.slice A1 256 c1, .slice C1 16 d1, .int .i64 st]) ∧ Hid (Box wr (w.heap.size + 1) 43 #[.slice none 0 0, .slice none 0 0, .int .i64 0]) ∧ Hid (OwnI wr w.heap.size wr.heap.size A1 (fillR zs (k * 16) (k * 16 + j))) ∧ Hid (OwnB wr w.heap.size wr.heap.size C1 gs)) (fun i _ => 16 - (intOf i).toNat)
  case atStart => exact ⟨0, by omega, rfl, Lib.hid (fun _ => rfl), hb2, X2, Y2, Lib.hid (by rw [Nat.add_zero, fillR_none]; exact S2.out), R2⟩
  case round =>
    clear hb2 X2 Y2 S2 R2
    obtain ⟨j, hj, rfl, HJ, hbw, X, Y, S, R⟩ := hrel
    have x0 := X.out.cell 0 rfl
    have x1 := X.out.cell 1 rfl
    have x2 := X.out.cell 2 rfl
    have y0 := Y.out.cell 0 rfl
    have y1 := Y.out.cell 1 rfl
    have y2 := Y.out.cell 2 rfl
    have y0z := Y.out.frozen 0
    have y1z := Y.out.frozen 1
    have y2z := Y.out.frozen 2
    obtain ⟨bg, mg, fg, rfl, hcg, -, -, -, -, -⟩ := R.out.put k (by have := HLen.out; omega)
    have HE2 := Lib.hid (HE.out _ rfl)
    generalize gs.getD k false = q at hcg HE2 HJ
    cases q
    · by_cases hlt : j < 16
      · obtain ⟨ba, ma, fa, rfl, hca, hfa, hlo, hhi, hra, hput⟩ := S.out.put (k * 16 + j) (by rw [fillR_len]; have := HLen.out; omega)
        generalize (fillR zs (k * 16) (k * 16 + j)).getD (k * 16 + j) 0 = z at hca
        have hq := hput 255
        rw [fillR_next _ _ _ (by omega) (by have := HLen.out; omega)] at hq
        have HQ := Lib.hid hq
        have HX := Lib.hid (X.out.other hra (by decide) (k * 16 + j) (.int .i64 255))
        have HY := Lib.hid (Y.out.other hra (by decide) (k * 16 + j) (.int .i64 255))
        have HR := Lib.hid (R.out.other hra (by decide) (k * 16 + j) (.int .i64 255))
        have hb' : Below w.heap.size w (wr.setCell ⟨ba, k * 16 + j, none⟩ (.int .i64 255)) := hbw.setCell (p := ⟨ba, k * 16 + j, none⟩) hlo _
        have hi : (j : Int) < 16 := by omega
        have hidx : (k : Int) * 16 + (j : Int) < 256 := by omega
        clear hq hput hra hlo hhi X Y S R fa fg HE2 hbw
        go_wp2
        go_roundw
        case rel => exact ⟨j + 1, by omega, by go_num, Lib.hid (fun e => by cases e), hb', HX, HY, Lib.hid (HQ.out.wideB (Nat.le_refl _) (by simp [World.setCell])), Lib.hid (HR.out.wide (Nat.le_refl _) (by simp [World.setCell]))⟩
        case measure => simp [intOf]; omega
      · obtain rfl : j = 16 := by omega
        have HEr : Hid (r = fillR zs (k * 16) (k * 16 + 16)) := Lib.hid (by rw [HE2.out]; rfl)
        clear HE2 HE HJ
        go_wp2
        refine bodyPost_ret (v := .agg #[.slice A1 256 c1, .slice (some ⟨bg, 0, none⟩) 16 d1, .int .i64 st]) (by simp [results, Try.results89, go_sem, y0, y1, y2]) rfl ?_
        rw [HEr.out]
        refine ⟨_, _, _, _, _, _, rfl, Lib.hid (by rw [fillR_len]; exact HLen.out.1), Lib.hid HLen.out.2, Lib.hid ?_, Lib.hid ?_, ?_⟩
        · exact (S.out.far3 Y.out _ _ _).wideB (Nat.le_refl _) (by rw [size3]; exact Nat.le_refl _)
        · exact (R.out.far3 Y.out _ _ _).wide (Nat.le_refl _) (by rw [size3]; exact Nat.le_refl _)
        · exact below3 hbw (by omega) _ _ _
    · obtain rfl : j = 0 := HJ.out rfl
      have HEr : Hid (r = zs) := Lib.hid (by rw [HE2.out]; rfl)
      have S' : Hid (OwnI wr w.heap.size wr.heap.size A1 zs) := Lib.hid (by have := S.out; rwa [Nat.add_zero, fillR_none] at this)
      clear HE2 HE HJ S
      go_wp2
      refine bodyPost_ret (v := .agg #[.slice A1 256 c1, .slice (some ⟨bg, 0, none⟩) 16 d1, .int .i64 st]) (by simp [results, Try.results89, go_sem, y0, y1, y2]) rfl ?_
      rw [HEr.out]
      refine ⟨_, _, _, _, _, _, rfl, Lib.hid HLen.out.1, Lib.hid HLen.out.2, Lib.hid ?_, Lib.hid ?_, ?_⟩
      · exact (S'.out.far3 Y.out _ _ _).wideB (Nat.le_refl _) (by rw [size3]; exact Nat.le_refl _)
      · exact (R.out.far3 Y.out _ _ _).wide (Nat.le_refl _) (by rw [size3]; exact Nat.le_refl _)
      · exact below3 hbw (by omega) _ _ _
end Go.Proofs.Ytieljgoodmoacaa
