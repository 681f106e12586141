/- Texts of this claim, one behind the other: GenMem, MemOk, GenIrq, IrqOk, CpuOk, RegFacts, Kit8, CloneI. -/
import Derived.Deep.RegionHeld3
import Derived.Laws.Tables
import Derived.Lib.SliceRun
import Derived.Test.YtngoijchebfolaaM3
/- The laws' own functions over Mem, on leaves. Written by gen_t.py. -/
namespace Go.Proofs.Ytngoijchebfolaa
open Go.RowKit

set_option maxRecDepth 100000 in
set_option maxHeartbeats 2000000 in
theorem szMemA (vA0 vA1 vA2 vA3 : Option Addr) (vc0 vc1 vc2 vc3 : Nat) (d0 : List Int) (d1 : List Int) (d2 : List Int) (d3 : List Bool) (d4 : Int) (left : Int) (w : World) (h : RepA w [.slice vA0 d0.length vc0, .slice vA1 d1.length vc1, .slice vA2 d2.length vc2, .slice vA3 d3.length vc3] [Lf.I d0, Lf.I d1, Lf.I d2, Lf.B d3]) (hf : FitA [Lf.I d0, Lf.I d1, Lf.I d2, Lf.B d3]) (h0 : 0 ≤ left) (h1 : left ≤ 1048576) :
    Calls Try.prog 19 #[.agg #[.slice vA0 d0.length vc0, .slice vA1 d1.length vc1, .slice vA2 d2.length vc2, .slice vA3 d3.length vc3, .int .i64 d4], .int .i64 left] w (Left left (szA [Lf.I d0, Lf.I d1, Lf.I d2, Lf.B d3]) w) := by
  have H0 := Lib.hid (fun W (hb : Below w.heap.size w W) l g0 g1 => szLI (.slice vA0 d0.length vc0) d0 l W ((h.below hb).1) (hf _ (by simp)) g0 g1)
  have H1 := Lib.hid (fun W (hb : Below w.heap.size w W) l g0 g1 => szLI (.slice vA1 d1.length vc1) d1 l W ((h.below hb).2.1) (hf _ (by simp)) g0 g1)
  have H2 := Lib.hid (fun W (hb : Below w.heap.size w W) l g0 g1 => szFlashA vA2 vA3 vc2 vc3 d2 d3 d4 l W (h.below hb |> fun h => ⟨h.2.2.1, h.2.2.2.1, trivial⟩) (hf.sub (by simp +contextual)) g0 g1)
  have HR : Hid (szA [Lf.I d0, Lf.I d1, Lf.I d2, Lf.B d3] = (Lf.sz (Lf.I d0)) + (Lf.sz (Lf.I d1)) + szA [Lf.I d2, Lf.B d3]) := Lib.hid (by simp only [szA]; omega)
  generalize szA [Lf.I d0, Lf.I d1, Lf.I d2, Lf.B d3] = sa at HR ⊢
  generalize (Lf.sz (Lf.I d0)) = z0 at HR H0
  generalize (Lf.sz (Lf.I d1)) = z1 at HR H1
  generalize szA [Lf.I d2, Lf.B d3] = z2 at HR H2
  have hb0 := alloc_below w (.cells #[.slice vA0 d0.length vc0, .slice vA1 d1.length vc1, .slice vA2 d2.length vc2, .slice vA3 d3.length vc3, .int .i64 d4] 47)
  have X := Lib.hid (Box.new w 47 #[.slice vA0 d0.length vc0, .slice vA1 d1.length vc1, .slice vA2 d2.length vc2, .slice vA3 d3.length vc3, .int .i64 d4])
  clear h hf
  go_enter Try.func19, Try.ntmps19
  go_wp2_with fail
  refine (H0.out _ hb0 _ (by omega) (by omega)).mono ?_
  rintro e w1 ⟨hres, hc1⟩
  have X1 := Lib.hid (X.out.step hc1)
  have hb1 := bt hb0 hc1
  clear X hb0 hc1
  rcases hres with rfl | ⟨rfl, hle0⟩
  · go_wp2
    go_ret
    exact ⟨.inl rfl, hb1⟩
  have hp0 : ¬ left - (z0 : Int) < 0 := by omega
  have f1 := X1.out.cell 1 rfl
  go_wp2_with fail
  refine (H1.out _ hb1 _ (by omega) (by omega)).mono ?_
  rintro e w2 ⟨hres, hc2⟩
  have X2 := Lib.hid (X1.out.step hc2)
  have hb2 := bt hb1 hc2
  clear X1 hb1 hc2 f1
  rcases hres with rfl | ⟨rfl, hle1⟩
  · go_wp2
    go_ret
    exact ⟨.inl rfl, hb2⟩
  have hp1 : ¬ left - (z0 : Int) - (z1 : Int) < 0 := by omega
  have f2 := X2.out.cell 2 rfl
  have f3 := X2.out.cell 3 rfl
  have f4 := X2.out.cell 4 rfl
  go_wp2_with fail
  refine (H2.out _ hb2 _ (by omega) (by omega)).mono ?_
  rintro e w3 ⟨hres, hc3⟩
  have X3 := Lib.hid (X2.out.step hc3)
  have hb3 := bt hb2 hc3
  clear X2 hb2 hc3 f2 f3 f4
  rcases hres with rfl | ⟨rfl, hle2⟩
  · go_wp2
    go_ret
    exact ⟨.inl rfl, hb3⟩
  have hp2 : ¬ left - (z0 : Int) - (z1 : Int) - (z2 : Int) < 0 := by omega
  go_wp2
  go_ret
  exact ⟨.inr ⟨ret_int (by have := HR.out; omega), by have := HR.out; omega⟩, hb3⟩

set_option maxRecDepth 100000 in
set_option maxHeartbeats 4000000 in
theorem toMemA (vA0 vA1 vA2 vA3 : Option Addr) (vc0 vc1 vc2 vc3 : Nat) (d0 : List Int) (d1 : List Int) (d2 : List Int) (d3 : List Bool) (d4 : Int) (w : World) (h : RepA w [.slice vA0 d0.length vc0, .slice vA1 d1.length vc1, .slice vA2 d2.length vc2, .slice vA3 d3.length vc3] [Lf.I d0, Lf.I d1, Lf.I d2, Lf.B d3]) (hn : szA [Lf.I d0, Lf.I d1, Lf.I d2, Lf.B d3] ≤ 1048576) :
    Calls Try.prog 22 #[.agg #[.slice vA0 d0.length vc0, .slice vA1 d1.length vc1, .slice vA2 d2.length vc2, .slice vA3 d3.length vc3, .int .i64 d4]] w (fun e w' => ∃ uA0 uA1 uA2 uA3 uc0 uc1 uc2 uc3, e = .returned (.agg #[.slice uA0 d0.length uc0, .slice uA1 d1.length uc1, .slice uA2 d2.length uc2, .slice uA3 d3.length uc3, .int .i64 d4]) ∧ Hid (OwnA w' w.heap.size w'.heap.size [.slice uA0 d0.length uc0, .slice uA1 d1.length uc1, .slice uA2 d2.length uc2, .slice uA3 d3.length uc3] [Lf.I d0, Lf.I d1, Lf.I d2, Lf.B d3]) ∧ Hid (CapA [.slice uA0 d0.length uc0, .slice uA1 d1.length uc1, .slice uA2 d2.length uc2, .slice uA3 d3.length uc3]) ∧ Below w.heap.size w w') := by
  obtain ⟨W0, hW0⟩ : ∃ W0, W0 = (((w.alloc (.cells #[.slice vA0 d0.length vc0, .slice vA1 d1.length vc1, .slice vA2 d2.length vc2, .slice vA3 d3.length vc3, .int .i64 d4] 47)).alloc (.cells #[.slice none 0 0, .slice none 0 0, .slice none 0 0, .slice none 0 0, .int .i64 0] 28)).alloc (.cells #[.slice none 0 0, .slice none 0 0, .slice none 0 0, .slice none 0 0, .int .i64 0] 28)) := ⟨_, rfl⟩
  have hs0 : W0.heap.size = w.heap.size + 1 + 1 + 1 := by rw [hW0]; simp
  have hb0 : Below w.heap.size w W0 := by rw [hW0]; exact (((Below.refl _ _).alloc (Nat.le_refl _) _).alloc (by simp) _).alloc (by simp; omega) _
  have X0 : Hid (Box W0 w.heap.size 47 #[.slice vA0 d0.length vc0, .slice vA1 d1.length vc1, .slice vA2 d2.length vc2, .slice vA3 d3.length vc3, .int .i64 d4]) := Lib.hid (by rw [hW0]; exact ((Box.new _ _ _).alloc _).alloc _)
  have Y0 : Hid (Box W0 (w.heap.size + 1) 28 #[.slice none 0 0, .slice none 0 0, .slice none 0 0, .slice none 0 0, .int .i64 0]) := Lib.hid (by rw [hW0]; simpa using (Box.new (w.alloc (.cells #[.slice vA0 d0.length vc0, .slice vA1 d1.length vc1, .slice vA2 d2.length vc2, .slice vA3 d3.length vc3, .int .i64 d4] 47)) 28 #[.slice none 0 0, .slice none 0 0, .slice none 0 0, .slice none 0 0, .int .i64 0]).alloc (.cells #[.slice none 0 0, .slice none 0 0, .slice none 0 0, .slice none 0 0, .int .i64 0] 28))
  have Z0 : Hid (Box W0 (w.heap.size + 1 + 1) 28 #[.slice none 0 0, .slice none 0 0, .slice none 0 0, .slice none 0 0, .int .i64 0]) := Lib.hid (by rw [hW0]; simpa using Box.new ((w.alloc (.cells #[.slice vA0 d0.length vc0, .slice vA1 d1.length vc1, .slice vA2 d2.length vc2, .slice vA3 d3.length vc3, .int .i64 d4] 47)).alloc (.cells #[.slice none 0 0, .slice none 0 0, .slice none 0 0, .slice none 0 0, .int .i64 0] 28)) 28 #[.slice none 0 0, .slice none 0 0, .slice none 0 0, .slice none 0 0, .int .i64 0])
  have O0 : Hid (OwnA W0 (w.heap.size + 3) W0.heap.size [] []) := Lib.hid (OwnA.nil _ _ _)
  have H0 := Lib.hid (fun W (hb : Below w.heap.size w W) => toLI (.slice vA0 d0.length vc0) d0 W ((h.below hb).1) (by simp only [szA, Lf.sz] at hn; omega))
  have H1 := Lib.hid (fun W (hb : Below w.heap.size w W) => toLI (.slice vA1 d1.length vc1) d1 W ((h.below hb).2.1) (by simp only [szA, Lf.sz] at hn; omega))
  have H2 := Lib.hid (fun W (hb : Below w.heap.size w W) => toFlashA vA2 vA3 vc2 vc3 d2 d3 d4 W (h.below hb |> fun h => ⟨h.2.2.1, h.2.2.2.1, trivial⟩) (by simp only [szA, Lf.sz] at hn ⊢; omega))
  have HW0 := Lib.hid hW0
  have HS0 := Lib.hid hs0
  clear h hn hW0 hs0
  go_enter Try.func22, Try.ntmps22
  go_wp2_with fail
  rw [← HW0.out]
  refine (H0.out _ hb0).mono ?_
  rintro e w1 ⟨uA0, uc0, rfl, N1, K0, hc⟩
  have hq0 : w.heap.size + 3 ≤ W0.heap.size := by have := Z0.out.lt; omega
  have X1 := Lib.hid (X0.out.step hc)
  have Y1 := Lib.hid (Y0.out.step hc)
  have Z1 := Lib.hid (Z0.out.step hc)
  have O1 : Hid (OwnA w1 (w.heap.size + 3) w1.heap.size [.slice uA0 d0.length uc0] [Lf.I d0]) := Lib.hid ((O0.out.below hc).append (OwnA.one N1.out) (.inl (Nat.le_refl _)) (Nat.le_refl _) hq0 hc.size (Nat.le_refl _))
  have hb1 := bt hb0 hc
  clear X0 Y0 Z0 O0 hb0 hc N1 hq0 HW0 HS0
  have fa1 := X1.out.cell 1 rfl
  have fz0 := Z1.out.cell 0 rfl
  have gz0 := Z1.out.frozen 0
  go_wp2_with fail
  obtain ⟨V1, hV1⟩ : ∃ V1, V1 = (w1.setCell ⟨w.heap.size + 1 + 1, 0, none⟩ (.slice uA0 d0.length uc0)) := ⟨_, rfl⟩
  have X2 : Hid (Box V1 w.heap.size 47 #[.slice vA0 d0.length vc0, .slice vA1 d1.length vc1, .slice vA2 d2.length vc2, .slice vA3 d3.length vc3, .int .i64 d4]) := Lib.hid (by rw [hV1]; exact (X1.out.far (p := ⟨w.heap.size + 1 + 1, 0, none⟩) (by show w.heap.size ≠ w.heap.size + 1 + 1; omega) (.slice uA0 d0.length uc0)))
  have Y2 : Hid (Box V1 (w.heap.size + 1) 28 #[.slice none 0 0, .slice none 0 0, .slice none 0 0, .slice none 0 0, .int .i64 0]) := Lib.hid (by rw [hV1]; exact (Y1.out.far (p := ⟨w.heap.size + 1 + 1, 0, none⟩) (by show w.heap.size + 1 ≠ w.heap.size + 1 + 1; omega) (.slice uA0 d0.length uc0)))
  have Z2 : Hid (Box V1 (w.heap.size + 1 + 1) 28 #[.slice uA0 d0.length uc0, .slice none 0 0, .slice none 0 0, .slice none 0 0, .int .i64 0]) := Lib.hid (by rw [hV1]; exact (Z1.out.set 0 (.slice uA0 d0.length uc0)))
  have hsz2 : V1.heap.size = w1.heap.size := by rw [hV1]; simp [World.setCell]
  have O2 : Hid (OwnA V1 (w.heap.size + 3) V1.heap.size [.slice uA0 d0.length uc0] [Lf.I d0]) := Lib.hid (by rw [hsz2, hV1]; exact (O1.out.set (p := ⟨w.heap.size + 1 + 1, 0, none⟩) (by show w.heap.size + 1 + 1 < w.heap.size + 3; omega) (.slice uA0 d0.length uc0)))
  have hb2 : Below w.heap.size w V1 := by rw [hV1]; exact (hb1.setCell (p := ⟨w.heap.size + 1 + 1, 0, none⟩) (by show w.heap.size ≤ w.heap.size + 1 + 1; omega) (.slice uA0 d0.length uc0))
  rw [← hV1]
  clear X1 Y1 Z1 O1 hb1 hV1 hsz2 fa1 fz0 gz0
  refine (H1.out _ hb2).mono ?_
  rintro e w2 ⟨uA1, uc1, rfl, N1, K1, hc⟩
  have hq0 : w.heap.size + 3 ≤ V1.heap.size := by have := Z2.out.lt; omega
  have X3 := Lib.hid (X2.out.step hc)
  have Y3 := Lib.hid (Y2.out.step hc)
  have Z3 := Lib.hid (Z2.out.step hc)
  have O3 : Hid (OwnA w2 (w.heap.size + 3) w2.heap.size [.slice uA0 d0.length uc0, .slice uA1 d1.length uc1] [Lf.I d0, Lf.I d1]) := Lib.hid ((O2.out.below hc).append (OwnA.one N1.out) (.inl (Nat.le_refl _)) (Nat.le_refl _) hq0 hc.size (Nat.le_refl _))
  have hb3 := bt hb2 hc
  clear X2 Y2 Z2 O2 hb2 hc N1 hq0
  have fa2 := X3.out.cell 2 rfl
  have fa3 := X3.out.cell 3 rfl
  have fa4 := X3.out.cell 4 rfl
  have fz1 := Z3.out.cell 1 rfl
  have gz1 := Z3.out.frozen 1
  go_wp2_with fail
  obtain ⟨V2, hV2⟩ : ∃ V2, V2 = (w2.setCell ⟨w.heap.size + 1 + 1, 1, none⟩ (.slice uA1 d1.length uc1)) := ⟨_, rfl⟩
  have X4 : Hid (Box V2 w.heap.size 47 #[.slice vA0 d0.length vc0, .slice vA1 d1.length vc1, .slice vA2 d2.length vc2, .slice vA3 d3.length vc3, .int .i64 d4]) := Lib.hid (by rw [hV2]; exact (X3.out.far (p := ⟨w.heap.size + 1 + 1, 1, none⟩) (by show w.heap.size ≠ w.heap.size + 1 + 1; omega) (.slice uA1 d1.length uc1)))
  have Y4 : Hid (Box V2 (w.heap.size + 1) 28 #[.slice none 0 0, .slice none 0 0, .slice none 0 0, .slice none 0 0, .int .i64 0]) := Lib.hid (by rw [hV2]; exact (Y3.out.far (p := ⟨w.heap.size + 1 + 1, 1, none⟩) (by show w.heap.size + 1 ≠ w.heap.size + 1 + 1; omega) (.slice uA1 d1.length uc1)))
  have Z4 : Hid (Box V2 (w.heap.size + 1 + 1) 28 #[.slice uA0 d0.length uc0, .slice uA1 d1.length uc1, .slice none 0 0, .slice none 0 0, .int .i64 0]) := Lib.hid (by rw [hV2]; exact (Z3.out.set 1 (.slice uA1 d1.length uc1)))
  have hsz4 : V2.heap.size = w2.heap.size := by rw [hV2]; simp [World.setCell]
  have O4 : Hid (OwnA V2 (w.heap.size + 3) V2.heap.size [.slice uA0 d0.length uc0, .slice uA1 d1.length uc1] [Lf.I d0, Lf.I d1]) := Lib.hid (by rw [hsz4, hV2]; exact (O3.out.set (p := ⟨w.heap.size + 1 + 1, 1, none⟩) (by show w.heap.size + 1 + 1 < w.heap.size + 3; omega) (.slice uA1 d1.length uc1)))
  have hb4 : Below w.heap.size w V2 := by rw [hV2]; exact (hb3.setCell (p := ⟨w.heap.size + 1 + 1, 1, none⟩) (by show w.heap.size ≤ w.heap.size + 1 + 1; omega) (.slice uA1 d1.length uc1))
  rw [← hV2]
  clear X3 Y3 Z3 O3 hb3 hV2 hsz4 fa2 fa3 fa4 fz1 gz1
  refine (H2.out _ hb4).mono ?_
  rintro e w3 ⟨uA2, uA3, uc2, uc3, rfl, N1, K2, hc⟩
  have hq0 : w.heap.size + 3 ≤ V2.heap.size := by have := Z4.out.lt; omega
  have X5 := Lib.hid (X4.out.step hc)
  have Y5 := Lib.hid (Y4.out.step hc)
  have Z5 := Lib.hid (Z4.out.step hc)
  have O5 : Hid (OwnA w3 (w.heap.size + 3) w3.heap.size [.slice uA0 d0.length uc0, .slice uA1 d1.length uc1, .slice uA2 d2.length uc2, .slice uA3 d3.length uc3] [Lf.I d0, Lf.I d1, Lf.I d2, Lf.B d3]) := Lib.hid ((O4.out.below hc).append N1.out (.inl (Nat.le_refl _)) (Nat.le_refl _) hq0 hc.size (Nat.le_refl _))
  have hb5 := bt hb4 hc
  clear X4 Y4 Z4 O4 hb4 hc N1 hq0
  have fz2 := Z5.out.cell 2 rfl
  have gz2 := Z5.out.frozen 2
  have fz3 := Z5.out.cell 3 rfl
  have gz3 := Z5.out.frozen 3
  have fz4 := Z5.out.cell 4 rfl
  have gz4 := Z5.out.frozen 4
  have fz0 := Z5.out.cell 0 rfl
  have fy0 := Y5.out.cell 0 rfl
  have gy0 := Y5.out.frozen 0
  have fz1 := Z5.out.cell 1 rfl
  have fy1 := Y5.out.cell 1 rfl
  have gy1 := Y5.out.frozen 1
  have fy2 := Y5.out.cell 2 rfl
  have gy2 := Y5.out.frozen 2
  have fy3 := Y5.out.cell 3 rfl
  have gy3 := Y5.out.frozen 3
  have fy4 := Y5.out.cell 4 rfl
  have gy4 := Y5.out.frozen 4
  go_wp2
  refine bodyPost_ret (v := .agg #[.slice uA0 d0.length uc0, .slice uA1 d1.length uc1, .slice uA2 d2.length uc2, .slice uA3 d3.length uc3, .int .i64 d4]) (by simp [results, Try.results22, go_sem, fy0, fy1, fy2, fy3, fy4]) rfl ?_
  refine ⟨uA0, uA1, uA2, uA3, uc0, uc1, uc2, uc3, rfl, Lib.hid ((((((((((O5.out.set (p := ⟨w.heap.size + 1 + 1, 2, none⟩) (by show w.heap.size + 1 + 1 < w.heap.size + 3; omega) _).set (p := ⟨w.heap.size + 1 + 1, 3, none⟩) (by show w.heap.size + 1 + 1 < w.heap.size + 3; omega) _).set (p := ⟨w.heap.size + 1 + 1, 4, none⟩) (by show w.heap.size + 1 + 1 < w.heap.size + 3; omega) _).set (p := ⟨w.heap.size + 1, 0, none⟩) (by show w.heap.size + 1 < w.heap.size + 3; omega) _).set (p := ⟨w.heap.size + 1, 1, none⟩) (by show w.heap.size + 1 < w.heap.size + 3; omega) _).set (p := ⟨w.heap.size + 1, 2, none⟩) (by show w.heap.size + 1 < w.heap.size + 3; omega) _).set (p := ⟨w.heap.size + 1, 3, none⟩) (by show w.heap.size + 1 < w.heap.size + 3; omega) _).set (p := ⟨w.heap.size + 1, 4, none⟩) (by show w.heap.size + 1 < w.heap.size + 3; omega) _)).wide (by omega) (by simp [World.setCell])), Lib.hid (CapA.cons K0.out (CapA.cons K1.out (CapA.app K2.out CapA.nil))), ((((((((hb5.setCell (p := ⟨w.heap.size + 1 + 1, 2, none⟩) (by show w.heap.size ≤ w.heap.size + 1 + 1; omega) _).setCell (p := ⟨w.heap.size + 1 + 1, 3, none⟩) (by show w.heap.size ≤ w.heap.size + 1 + 1; omega) _).setCell (p := ⟨w.heap.size + 1 + 1, 4, none⟩) (by show w.heap.size ≤ w.heap.size + 1 + 1; omega) _).setCell (p := ⟨w.heap.size + 1, 0, none⟩) (by show w.heap.size ≤ w.heap.size + 1; omega) _).setCell (p := ⟨w.heap.size + 1, 1, none⟩) (by show w.heap.size ≤ w.heap.size + 1; omega) _).setCell (p := ⟨w.heap.size + 1, 2, none⟩) (by show w.heap.size ≤ w.heap.size + 1; omega) _).setCell (p := ⟨w.heap.size + 1, 3, none⟩) (by show w.heap.size ≤ w.heap.size + 1; omega) _).setCell (p := ⟨w.heap.size + 1, 4, none⟩) (by show w.heap.size ≤ w.heap.size + 1; omega) _)⟩

set_option maxRecDepth 100000 in
set_option maxHeartbeats 4000000 in
theorem eqMemA (vA0 vA1 vA2 vA3 : Option Addr) (vc0 vc1 vc2 vc3 : Nat) (uA0 uA1 uA2 uA3 : Option Addr) (uc0 uc1 uc2 uc3 : Nat) (d0 : List Int) (d1 : List Int) (d2 : List Int) (d3 : List Bool) (d4 : Int) (w : World) (h : RepA w [.slice vA0 d0.length vc0, .slice vA1 d1.length vc1, .slice vA2 d2.length vc2, .slice vA3 d3.length vc3] [Lf.I d0, Lf.I d1, Lf.I d2, Lf.B d3]) (h' : RepA w [.slice uA0 d0.length uc0, .slice uA1 d1.length uc1, .slice uA2 d2.length uc2, .slice uA3 d3.length uc3] [Lf.I d0, Lf.I d1, Lf.I d2, Lf.B d3]) (hn : lenA [Lf.I d0, Lf.I d1, Lf.I d2, Lf.B d3] ≤ maxLen) :
    Calls Try.prog 25 #[.agg #[.slice vA0 d0.length vc0, .slice vA1 d1.length vc1, .slice vA2 d2.length vc2, .slice vA3 d3.length vc3, .int .i64 d4], .agg #[.slice uA0 d0.length uc0, .slice uA1 d1.length uc1, .slice uA2 d2.length uc2, .slice uA3 d3.length uc3, .int .i64 d4]] w fun e w' => e = .returned (.bool true) ∧ Below w.heap.size w w' := by
  have H0 := Lib.hid (fun W (hb : Below w.heap.size w W) => eqLI (.slice vA0 d0.length vc0) (.slice uA0 d0.length uc0) d0 W ((h.below hb).1) ((h'.below hb).1) (by simp only [lenA, Lf.len] at hn; omega))
  have H1 := Lib.hid (fun W (hb : Below w.heap.size w W) => eqLI (.slice vA1 d1.length vc1) (.slice uA1 d1.length uc1) d1 W ((h.below hb).2.1) ((h'.below hb).2.1) (by simp only [lenA, Lf.len] at hn; omega))
  have H2 := Lib.hid (fun W (hb : Below w.heap.size w W) => eqFlashA vA2 vA3 vc2 vc3 uA2 uA3 uc2 uc3 d2 d3 d4 W (h.below hb |> fun h => ⟨h.2.2.1, h.2.2.2.1, trivial⟩) (h'.below hb |> fun h => ⟨h.2.2.1, h.2.2.2.1, trivial⟩) (by simp only [lenA, Lf.len] at hn ⊢; omega))
  obtain ⟨W0, hW0⟩ : ∃ W0, W0 = ((w.alloc (.cells #[.slice vA0 d0.length vc0, .slice vA1 d1.length vc1, .slice vA2 d2.length vc2, .slice vA3 d3.length vc3, .int .i64 d4] 28)).alloc (.cells #[.slice uA0 d0.length uc0, .slice uA1 d1.length uc1, .slice uA2 d2.length uc2, .slice uA3 d3.length uc3, .int .i64 d4] 28)) := ⟨_, rfl⟩
  have hb0 : Below w.heap.size w W0 := by rw [hW0]; exact ((Below.refl _ _).alloc (Nat.le_refl _) _).alloc (by simp) _
  have X0 : Hid (Box W0 w.heap.size 28 #[.slice vA0 d0.length vc0, .slice vA1 d1.length vc1, .slice vA2 d2.length vc2, .slice vA3 d3.length vc3, .int .i64 d4]) := Lib.hid (by rw [hW0]; exact (Box.new _ _ _).alloc _)
  have Y0 : Hid (Box W0 (w.heap.size + 1) 28 #[.slice uA0 d0.length uc0, .slice uA1 d1.length uc1, .slice uA2 d2.length uc2, .slice uA3 d3.length uc3, .int .i64 d4]) := Lib.hid (by rw [hW0]; simpa using Box.new (w.alloc (.cells #[.slice vA0 d0.length vc0, .slice vA1 d1.length vc1, .slice vA2 d2.length vc2, .slice vA3 d3.length vc3, .int .i64 d4] 28)) 28 #[.slice uA0 d0.length uc0, .slice uA1 d1.length uc1, .slice uA2 d2.length uc2, .slice uA3 d3.length uc3, .int .i64 d4])
  have HW0 := Lib.hid hW0
  have hq4 : (d4 != d4) = false := by simp
  clear hW0 h h' hn
  go_enter Try.func25, Try.ntmps25
  go_wp2_with fail
  rw [← HW0.out]
  refine (H0.out _ hb0).mono ?_
  rintro e w1 ⟨rfl, hc⟩
  have X1 := Lib.hid (X0.out.step hc)
  have Y1 := Lib.hid (Y0.out.step hc)
  have hb1 := bt hb0 hc
  clear X0 Y0 hb0 hc HW0
  have k1 := X1.out.cell 1 rfl
  have l1 := Y1.out.cell 1 rfl
  go_wp2_with fail
  refine (H1.out _ hb1).mono ?_
  rintro e w2 ⟨rfl, hc⟩
  have X2 := Lib.hid (X1.out.step hc)
  have Y2 := Lib.hid (Y1.out.step hc)
  have hb2 := bt hb1 hc
  clear X1 Y1 hb1 hc k1 l1
  have k2 := X2.out.cell 2 rfl
  have l2 := Y2.out.cell 2 rfl
  have k3 := X2.out.cell 3 rfl
  have l3 := Y2.out.cell 3 rfl
  have k4 := X2.out.cell 4 rfl
  have l4 := Y2.out.cell 4 rfl
  go_wp2_with fail
  refine (H2.out _ hb2).mono ?_
  rintro e w3 ⟨rfl, hc⟩
  have X3 := Lib.hid (X2.out.step hc)
  have Y3 := Lib.hid (Y2.out.step hc)
  have hb3 := bt hb2 hc
  clear X2 Y2 hb2 hc k2 l2 k3 l3 k4 l4
  go_wp2
  go_ret
  exact ⟨rfl, hb3⟩

set_option maxRecDepth 100000 in
set_option maxHeartbeats 4000000 in
theorem markMemA (vA0 vA1 vA2 vA3 : Option Addr) (vc0 vc1 vc2 vc3 : Nat) (d0 : List Int) (d1 : List Int) (d2 : List Int) (d3 : List Bool) (d4 : Int) (k lo hi : Nat) (w : World) (h : OwnA w lo hi [.slice vA0 d0.length vc0, .slice vA1 d1.length vc1, .slice vA2 d2.length vc2, .slice vA3 d3.length vc3] [Lf.I d0, Lf.I d1, Lf.I d2, Lf.B d3]) (hhi : hi ≤ w.heap.size) (hk : 1 ≤ k) (hB : BndA [Lf.I d0, Lf.I d1, Lf.I d2, Lf.B d3]) (hk2 : k + lenA [Lf.I d0, Lf.I d1, Lf.I d2, Lf.B d3] ≤ 549755813888) :
    Calls Try.prog 27 #[.agg #[.slice vA0 d0.length vc0, .slice vA1 d1.length vc1, .slice vA2 d2.length vc2, .slice vA3 d3.length vc3, .int .i64 d4], .int .i64 (k : Int)] w fun e w' => e = .returned (.int .i64 ((k + lenA [Lf.I d0, Lf.I d1, Lf.I d2, Lf.B d3] : Nat) : Int)) ∧ Hid (OwnA w' lo hi [.slice vA0 d0.length vc0, .slice vA1 d1.length vc1, .slice vA2 d2.length vc2, .slice vA3 d3.length vc3] (marksA k [Lf.I d0, Lf.I d1, Lf.I d2, Lf.B d3])) ∧ Touch [.slice vA0 d0.length vc0, .slice vA1 d1.length vc1, .slice vA2 d2.length vc2, .slice vA3 d3.length vc3] w w' := by
  have hb0 := alloc_below w (.cells #[.slice vA0 d0.length vc0, .slice vA1 d1.length vc1, .slice vA2 d2.length vc2, .slice vA3 d3.length vc3, .int .i64 d4] 28)
  have X0 := Lib.hid (Box.new w 28 #[.slice vA0 d0.length vc0, .slice vA1 d1.length vc1, .slice vA2 d2.length vc2, .slice vA3 d3.length vc3, .int .i64 d4])
  have O0 := Lib.hid (h.below hb0)
  have T0 := Lib.hid (Touch.of_below hb0 [.slice vA0 d0.length vc0, .slice vA1 d1.length vc1, .slice vA2 d2.length vc2, .slice vA3 d3.length vc3])
  have H0 := Lib.hid (fun W (o : OwnL W lo hi (.slice vA0 d0.length vc0) (Lf.I d0)) => markLI (.slice vA0 d0.length vc0) d0 (k) lo hi W o (by omega) (hB (Lf.I d0) (by simp)) (by simp only [lenA] at hk2 ⊢; omega))
  have H1 := Lib.hid (fun W (o : OwnL W lo hi (.slice vA1 d1.length vc1) (Lf.I d1)) => markLI (.slice vA1 d1.length vc1) d1 (k + (Lf.len (Lf.I d0))) lo hi W o (by omega) (hB (Lf.I d1) (by simp)) (by simp only [lenA] at hk2 ⊢; omega))
  have H2 := Lib.hid (fun W (o : OwnA W lo hi [.slice vA2 d2.length vc2, .slice vA3 d3.length vc3] [Lf.I d2, Lf.B d3]) (hs : hi ≤ W.heap.size) => markFlashA vA2 vA3 vc2 vc3 d2 d3 d4 (k + (Lf.len (Lf.I d0)) + (Lf.len (Lf.I d1))) lo hi W o hs (by omega) (hB.sub (by simp +contextual)) (by simp only [lenA] at hk2 ⊢; omega))
  have HH := Lib.hid hhi
  clear h hb0 hB hk2 hk hhi
  go_enter Try.func27, Try.ntmps27
  have G0 := OwnA.seg (a := []) (m := [.slice vA0 d0.length vc0]) (b := [.slice vA1 d1.length vc1, .slice vA2 d2.length vc2, .slice vA3 d3.length vc3]) (da := []) (dm := [Lf.I d0]) (db := [Lf.I d1, Lf.I d2, Lf.B d3]) O0.out rfl rfl
  have HC0 := Lib.hid (H0.out _ G0.1.1)
  clear G0
  go_wp2_with fail
  refine HC0.out.mono ?_
  rintro e w1 ⟨rfl, M0, U0⟩
  have O1 := Lib.hid (OwnA.reseg (a := []) (m := [.slice vA0 d0.length vc0]) (b := [.slice vA1 d1.length vc1, .slice vA2 d2.length vc2, .slice vA3 d3.length vc3]) (da := []) (dm := [Lf.I d0]) (db := [Lf.I d1, Lf.I d2, Lf.B d3]) (dm' := [(Lf.I d0).marks (k)]) O0.out rfl rfl (OwnA.one M0.out) U0)
  have T1 := Lib.hid (T0.out.chain (U0.mem (by simp +contextual)))
  have X1 : Hid (Box w1 w.heap.size 28 #[.slice vA0 d0.length vc0, .slice vA1 d1.length vc1, .slice vA2 d2.length vc2, .slice vA3 d3.length vc3, .int .i64 d4]) := Lib.hid (X0.out.touch (OwnA.seg (a := []) (m := [.slice vA0 d0.length vc0]) (b := [.slice vA1 d1.length vc1, .slice vA2 d2.length vc2, .slice vA3 d3.length vc3]) (da := []) (dm := [Lf.I d0]) (db := [Lf.I d1, Lf.I d2, Lf.B d3]) O0.out rfl rfl) U0 (.inr HH.out))
  clear X0 O0 T0 M0 U0 HC0
  have f1 := X1.out.cell 1 rfl
  have G1 := OwnA.seg (a := [.slice vA0 d0.length vc0]) (m := [.slice vA1 d1.length vc1]) (b := [.slice vA2 d2.length vc2, .slice vA3 d3.length vc3]) (da := [(Lf.I d0).marks (k)]) (dm := [Lf.I d1]) (db := [Lf.I d2, Lf.B d3]) O1.out rfl rfl
  have HC1 := Lib.hid (H1.out _ G1.1.1)
  clear G1
  go_wp2_with fail
  try rw [HKe1.out]
  refine HC1.out.mono ?_
  rintro e w2 ⟨rfl, M1, U1⟩
  have O2 := Lib.hid (OwnA.reseg (a := [.slice vA0 d0.length vc0]) (m := [.slice vA1 d1.length vc1]) (b := [.slice vA2 d2.length vc2, .slice vA3 d3.length vc3]) (da := [(Lf.I d0).marks (k)]) (dm := [Lf.I d1]) (db := [Lf.I d2, Lf.B d3]) (dm' := [(Lf.I d1).marks (k + (Lf.len (Lf.I d0)))]) O1.out rfl rfl (OwnA.one M1.out) U1)
  have T2 := Lib.hid (T1.out.chain (U1.mem (by simp +contextual)))
  have X2 : Hid (Box w2 w.heap.size 28 #[.slice vA0 d0.length vc0, .slice vA1 d1.length vc1, .slice vA2 d2.length vc2, .slice vA3 d3.length vc3, .int .i64 d4]) := Lib.hid (X1.out.touch (OwnA.seg (a := [.slice vA0 d0.length vc0]) (m := [.slice vA1 d1.length vc1]) (b := [.slice vA2 d2.length vc2, .slice vA3 d3.length vc3]) (da := [(Lf.I d0).marks (k)]) (dm := [Lf.I d1]) (db := [Lf.I d2, Lf.B d3]) O1.out rfl rfl) U1 (.inr HH.out))
  clear X1 O1 T1 M1 U1 HC1 f1
  have f2 := X2.out.cell 2 rfl
  have f3 := X2.out.cell 3 rfl
  have f4 := X2.out.cell 4 rfl
  have G2 := OwnA.seg (a := [.slice vA0 d0.length vc0, .slice vA1 d1.length vc1]) (m := [.slice vA2 d2.length vc2, .slice vA3 d3.length vc3]) (b := []) (da := [(Lf.I d0).marks (k), (Lf.I d1).marks (k + (Lf.len (Lf.I d0)))]) (dm := [Lf.I d2, Lf.B d3]) (db := []) O2.out rfl rfl
  have HC2 := Lib.hid (H2.out _ G2 (Nat.le_trans HH.out (by have := X2.out.lt; have := T2.out.size; omega)))
  clear G2
  go_wp2_with fail
  try rw [HKe2.out]
  refine HC2.out.mono ?_
  rintro e w3 ⟨rfl, M2, U2⟩
  have O3 := Lib.hid (OwnA.reseg (a := [.slice vA0 d0.length vc0, .slice vA1 d1.length vc1]) (m := [.slice vA2 d2.length vc2, .slice vA3 d3.length vc3]) (b := []) (da := [(Lf.I d0).marks (k), (Lf.I d1).marks (k + (Lf.len (Lf.I d0)))]) (dm := [Lf.I d2, Lf.B d3]) (db := []) (dm' := marksA (k + (Lf.len (Lf.I d0)) + (Lf.len (Lf.I d1))) [Lf.I d2, Lf.B d3]) O2.out rfl rfl M2.out U2)
  have T3 := Lib.hid (T2.out.chain (U2.mem (by simp +contextual)))
  have X3 : Hid (Box w3 w.heap.size 28 #[.slice vA0 d0.length vc0, .slice vA1 d1.length vc1, .slice vA2 d2.length vc2, .slice vA3 d3.length vc3, .int .i64 d4]) := Lib.hid (X2.out.touch (OwnA.seg (a := [.slice vA0 d0.length vc0, .slice vA1 d1.length vc1]) (m := [.slice vA2 d2.length vc2, .slice vA3 d3.length vc3]) (b := []) (da := [(Lf.I d0).marks (k), (Lf.I d1).marks (k + (Lf.len (Lf.I d0)))]) (dm := [Lf.I d2, Lf.B d3]) (db := []) O2.out rfl rfl) U2 (.inr HH.out))
  clear X2 O2 T2 M2 U2 HC2 f2 f3 f4
  go_wp2
  go_ret
  refine ⟨?_, Lib.hid ?_, T3.out⟩
  · refine ret_int ?_
    simp only [lenA]; omega
  · have := O3.out
    first | exact this | (simp only [marksA, lenA, List.cons_append, List.nil_append, Nat.add_zero, Nat.add_assoc] at this ⊢; exact this)

set_option maxRecDepth 100000 in
set_option maxHeartbeats 4000000 in
theorem heldMemA (vA0 vA1 vA2 vA3 : Option Addr) (vc0 vc1 vc2 vc3 : Nat) (d0 : List Int) (d1 : List Int) (d2 : List Int) (d3 : List Bool) (d4 : Int) (k : Nat) (w : World) (h : RepA w [.slice vA0 d0.length vc0, .slice vA1 d1.length vc1, .slice vA2 d2.length vc2, .slice vA3 d3.length vc3] (marksA k [Lf.I d0, Lf.I d1, Lf.I d2, Lf.B d3])) (hk : 1 ≤ k) (hB : BndA [Lf.I d0, Lf.I d1, Lf.I d2, Lf.B d3]) (hk2 : k + lenA [Lf.I d0, Lf.I d1, Lf.I d2, Lf.B d3] ≤ 549755813888) :
    Calls Try.prog 29 #[.agg #[.slice vA0 d0.length vc0, .slice vA1 d1.length vc1, .slice vA2 d2.length vc2, .slice vA3 d3.length vc3, .int .i64 d4], .int .i64 (k : Int)] w fun e w' => e = .returned (.int .i64 ((k + lenA [Lf.I d0, Lf.I d1, Lf.I d2, Lf.B d3] : Nat) : Int)) ∧ Below w.heap.size w w' := by
  have hb0 := alloc_below w (.cells #[.slice vA0 d0.length vc0, .slice vA1 d1.length vc1, .slice vA2 d2.length vc2, .slice vA3 d3.length vc3, .int .i64 d4] 28)
  have X0 := Lib.hid (Box.new w 28 #[.slice vA0 d0.length vc0, .slice vA1 d1.length vc1, .slice vA2 d2.length vc2, .slice vA3 d3.length vc3, .int .i64 d4])
  simp only [marksA] at h
  have H0 := Lib.hid (fun W (hb : Below w.heap.size w W) => heldLI (.slice vA0 d0.length vc0) d0 (k) W (by have := (h.below hb).1; simpa only [Nat.add_assoc] using this) (by omega) (hB (Lf.I d0) (by simp)) (by simp only [lenA] at hk2 ⊢; omega))
  have H1 := Lib.hid (fun W (hb : Below w.heap.size w W) => heldLI (.slice vA1 d1.length vc1) d1 (k + (Lf.len (Lf.I d0))) W (by have := (h.below hb).2.1; simpa only [Nat.add_assoc] using this) (by omega) (hB (Lf.I d1) (by simp)) (by simp only [lenA] at hk2 ⊢; omega))
  have H2 := Lib.hid (fun W (hb : Below w.heap.size w W) => heldFlashA vA2 vA3 vc2 vc3 d2 d3 d4 (k + (Lf.len (Lf.I d0)) + (Lf.len (Lf.I d1))) W (by have := h.below hb; simp only [marksA, lenA, Nat.add_zero, Nat.add_assoc] at this ⊢; exact ⟨this.2.2.1, this.2.2.2.1, trivial⟩) (by omega) (hB.sub (by simp +contextual)) (by simp only [lenA] at hk2 ⊢; omega))
  clear h hB hk hk2
  go_enter Try.func29, Try.ntmps29
  go_wp2_with fail
  refine (H0.out _ hb0).mono ?_
  rintro e w1 ⟨rfl, hc⟩
  have X1 := Lib.hid (X0.out.step hc)
  have hb1 := bt hb0 hc
  clear X0 hb0 hc
  have hp0 : ¬ ((k + (Lf.len (Lf.I d0)) : Nat) : Int) < 0 := by omega
  have f1 := X1.out.cell 1 rfl
  go_wp2_with fail
  refine (H1.out _ hb1).mono ?_
  rintro e w2 ⟨rfl, hc⟩
  have X2 := Lib.hid (X1.out.step hc)
  have hb2 := bt hb1 hc
  clear X1 hb1 hc f1
  have hp1 : ¬ ((k + (Lf.len (Lf.I d0)) + (Lf.len (Lf.I d1)) : Nat) : Int) < 0 := by omega
  have f2 := X2.out.cell 2 rfl
  have f3 := X2.out.cell 3 rfl
  have f4 := X2.out.cell 4 rfl
  go_wp2_with fail
  refine (H2.out _ hb2).mono ?_
  rintro e w3 ⟨rfl, hc⟩
  have X3 := Lib.hid (X2.out.step hc)
  have hb3 := bt hb2 hc
  clear X2 hb2 hc f2 f3 f4
  have hp2 : ¬ ((k + (Lf.len (Lf.I d0)) + (Lf.len (Lf.I d1)) + lenA [Lf.I d2, Lf.B d3] : Nat) : Int) < 0 := by omega
  go_wp2
  go_ret
  exact ⟨ret_int (by simp only [lenA]; omega), hb3⟩

end Go.Proofs.Ytngoijchebfolaa

/- MemOK on both sides; impl.Mem.check; the regions on both sides. -/
namespace Go.Proofs.Ytngoijchebfolaa
open Go.RowKit

set_option maxRecDepth 100000 in
theorem isAddress (n : Int) (w : World) : Calls Try.prog 81 #[.int .i64 n] w fun e w' => e = .returned (.bool (adB n)) ∧ w = w' := by
  go_enter Try.func81, Try.ntmps81
  go_wp2
  all_goals go_ret
  all_goals (refine ⟨ret_bool ?_, rfl⟩)
  all_goals (unfold adB; rw [Bool.eq_iff_iff]; simp; try omega)
set_option maxRecDepth 100000 in
theorem l01In4095 (n : Int) (w : World) : Calls Try.prog 51 #[.int .i64 n, .int .i64 0, .int .i64 4095] w fun e w' => e = .returned (.bool (adB n)) ∧ w = w' := by
  go_enter Try.func51, Try.ntmps51
  go_wp2
  all_goals go_ret
  all_goals (refine ⟨ret_bool ?_, rfl⟩)
  all_goals (unfold adB; rw [Bool.eq_iff_iff]; simp; try omega)
set_option maxRecDepth 100000 in
theorem l05At (n : Int) (w : World) : Calls Try.prog 97 #[.int .i64 n] w fun e w' => e = .returned (.bool (adB n)) ∧ w = w' := by
  go_enter Try.func97, Try.ntmps97
  go_wp2_with (first | (go_at_call 51; refine (l01In4095 _ _).mono ?_; rintro e w' ⟨rfl, rfl⟩))
  all_goals go_ret
  all_goals exact ⟨rfl, rfl⟩
set_option maxRecDepth 100000 in
theorem l01InF (n : Int) (w : World) : Calls Try.prog 51 #[.int .i64 n, .int .i64 512, .int .i64 767] w fun e w' => e = .returned (.bool (decide (512 ≤ n ∧ n ≤ 767))) ∧ w = w' := by
  go_enter Try.func51, Try.ntmps51
  go_wp2
  all_goals go_ret
  all_goals (refine ⟨ret_bool ?_, rfl⟩)
  all_goals (rw [Bool.eq_iff_iff]; simp; try omega)
set_option maxRecDepth 100000 in
theorem regionOf (n : Int) (w : World) (h0 : 0 ≤ n) (h1 : n ≤ 4095) : Calls Try.prog 114 #[.int .i64 n] w fun e w' => e = .returned (.tuple #[.int .i64 (regR n), .int .i64 (regK n)]) ∧ w = w' := by
  obtain ⟨r, hr⟩ : ∃ r, regR n = r := ⟨_, rfl⟩
  obtain ⟨k, hk⟩ : ∃ k, regK n = k := ⟨_, rfl⟩
  rw [hr, hk]
  unfold regR at hr
  unfold regK at hk
  by_cases a : n < 256
  · rw [if_pos a] at hr hk
    subst hr hk
    go_enter Try.func114, Try.ntmps114
    go_wp2
    exact bodyPost_ret (v := .tuple #[.int .i64 1, .int .i64 n]) (by simp [results, Try.results114, go_sem]) rfl ⟨rfl, rfl⟩
  · rw [if_neg a] at hr hk
    by_cases b : n < 288
    · rw [if_pos b] at hr hk
      have HE := Lib.hid hk
      clear hk
      subst hr
      go_enter Try.func114, Try.ntmps114
      go_wp2
      exact bodyPost_ret (v := .tuple #[.int .i64 2, .int .i64 (n - 256)]) (by simp [results, Try.results114, go_sem]; try omega) rfl ⟨by rw [HE.out], rfl⟩
    · rw [if_neg b] at hr hk
      by_cases c : 512 ≤ n
      · by_cases d : n < 768
        · rw [if_pos ⟨c, by omega⟩] at hr hk
          have HE := Lib.hid hk
          clear hk
          subst hr
          go_enter Try.func114, Try.ntmps114
          go_wp2
          exact bodyPost_ret (v := .tuple #[.int .i64 3, .int .i64 (n - 512)]) (by simp [results, Try.results114, go_sem]; try omega) rfl ⟨by rw [HE.out], rfl⟩
        · rw [if_neg (by omega)] at hr hk
          subst hr hk
          go_enter Try.func114, Try.ntmps114
          go_wp2
          exact bodyPost_ret (v := .tuple #[.int .i64 0, .int .i64 0]) (by simp [results, Try.results114, go_sem]) rfl ⟨rfl, rfl⟩
      · rw [if_neg (by omega)] at hr hk
        subst hr hk
        go_enter Try.func114, Try.ntmps114
        go_wp2
        exact bodyPost_ret (v := .tuple #[.int .i64 0, .int .i64 0]) (by simp [results, Try.results114, go_sem]) rfl ⟨rfl, rfl⟩
set_option maxRecDepth 100000 in
theorem l05Region (n : Int) (w : World) (h0 : 0 ≤ n) (h1 : n ≤ 4095) : Calls Try.prog 116 #[.int .i64 n] w fun e w' => e = .returned (.tuple #[.int .i64 (regR n), .int .i64 (regK n)]) ∧ w = w' := by
  obtain ⟨r, hr⟩ : ∃ r, regR n = r := ⟨_, rfl⟩
  obtain ⟨k, hk⟩ : ∃ k, regK n = k := ⟨_, rfl⟩
  rw [hr, hk]
  unfold regR at hr
  unfold regK at hk
  by_cases a : n < 256
  · rw [if_pos a] at hr hk
    subst hr hk
    go_enter Try.func116, Try.ntmps116
    go_wp2
    exact bodyPost_ret (v := .tuple #[.int .i64 1, .int .i64 n]) (by simp [results, Try.results116, go_sem]) rfl ⟨rfl, rfl⟩
  · rw [if_neg a] at hr hk
    by_cases b : n < 288
    · rw [if_pos b] at hr hk
      have HE := Lib.hid hk
      clear hk
      subst hr
      go_enter Try.func116, Try.ntmps116
      go_wp2
      exact bodyPost_ret (v := .tuple #[.int .i64 2, .int .i64 (n - 256)]) (by simp [results, Try.results116, go_sem]; try omega) rfl ⟨by rw [HE.out], rfl⟩
    · rw [if_neg b] at hr hk
      by_cases c : 512 ≤ n ∧ n ≤ 767
      · rw [if_pos c] at hr hk
        have HE := Lib.hid hk
        have HC := Lib.hid (decide_eq_true c)
        clear hk
        subst hr
        have c1 := c.1
        have c2 := c.2
        clear c
        go_enter Try.func116, Try.ntmps116
        go_wp2_with (first | (go_at_call 51; refine (l01InF _ _).mono ?_; rintro e w' ⟨rfl, rfl⟩; rw [HC.out]))
        exact bodyPost_ret (v := .tuple #[.int .i64 3, .int .i64 (n - 512)]) (by simp [results, Try.results116, go_sem]; try omega) rfl ⟨by rw [HE.out], rfl⟩
      · rw [if_neg c] at hr hk
        have HC := Lib.hid (decide_eq_false c)
        clear c
        subst hr hk
        go_enter Try.func116, Try.ntmps116
        go_wp2_with (first | (go_at_call 51; refine (l01InF _ _).mono ?_; rintro e w' ⟨rfl, rfl⟩; rw [HC.out]))
        exact bodyPost_ret (v := .tuple #[.int .i64 0, .int .i64 0]) (by simp [results, Try.results116, go_sem]) rfl ⟨rfl, rfl⟩

set_option maxRecDepth 100000 in
set_option maxHeartbeats 1000000 in
theorem l05Bytes (A : Option Addr) (n c : Nat) (zs : List Int) (w : World) (hl : zs.length = n) (hn : n ≤ maxLen) (h : IntL w A zs) :
    Calls Try.prog 91 #[.slice A n c] w fun e w' => e = .returned (.bool (zs.all byB)) ∧ w = w' := by
  unfold maxLen at hn
  have HL := Lib.hid hl
  have H := Lib.hid h
  clear hl h
  go_enter Try.func91, Try.ntmps91
  go_wp2
  go_loop [3] (fun i => ∃ k : Nat, k ≤ n ∧ i = .int .i64 k ∧ Hid (zs.all byB = (zs.drop k).all byB)) (fun i => n - (intOf i).toNat)
  case atStart => exact ⟨0, Nat.zero_le _, rfl, Lib.hid rfl⟩
  case round =>
    obtain ⟨k, hk, rfl, HT⟩ := hrel
    by_cases hlt : k < n
    · obtain ⟨b, off, rfl, hc⟩ := H.out k (by rw [HL.out]; exact hlt)
      have HS := Lib.hid (all_step byB zs 0 k (by rw [HL.out]; exact hlt))
      generalize zs.getD k 0 = x at hc HS
      have hi : (k : Int) < (n : Int) := by omega
      by_cases hE : byB x = true
      · go_wp2_with (first | (go_at_call 51; refine (l01In255 _ _).mono ?_; rintro e w' ⟨rfl, rfl⟩; rw [hE]))
        go_round
        case rel => exact ⟨k + 1, by omega, by go_num, Lib.hid (by rw [HT.out, HS.out, hE]; rfl)⟩
        case measure => simp [intOf]; omega
      · have hE' : byB x = false := by simpa using hE
        clear hE
        go_wp2_with (first | (go_at_call 51; refine (l01In255 _ _).mono ?_; rintro e w' ⟨rfl, rfl⟩; rw [hE']))
        go_ret
        exact ⟨ret_bool (by rw [HT.out, HS.out, hE']; rfl), rfl⟩
    · have HT2 : Hid (zs.all byB = true) := Lib.hid (by rw [HT.out]; exact all_end _ _ _ (by rw [HL.out]; omega))
      go_wp2
      go_ret
      exact ⟨ret_bool HT2.out.symm, rfl⟩

section
variable (A0 A1 A2 A3 : Option Addr) (n0 n1 n2 n3 c0 c1 c2 c3 : Nat) (d0 d1 d2 : List Int) (d3 : List Bool) (d4 : Int) (w : World)
set_option maxRecDepth 100000 in
set_option maxHeartbeats 4000000 in
theorem memValid (l0 : d0.length = n0) (l1 : d1.length = n1) (l2 : d2.length = n2) (l3 : d3.length = n3) (m0 : n0 ≤ maxLen) (m1 : n1 ≤ maxLen) (m2 : n2 ≤ maxLen) (m3 : n3 ≤ maxLen) (h0 : IntL w A0 d0) (h1 : IntL w A1 d1) (h2 : IntL w A2 d2) :
    Calls Try.prog 64 #[.agg #[.slice A0 n0 c0, .slice A1 n1 c1, .slice A2 n2 c2, .slice A3 n3 c3, .int .i64 d4]] w fun e w' => e = .returned (.bool (okMem d0 d1 d2 d3 d4)) ∧ Below w.heap.size w w' := by
  have hb0 := alloc_below w (.cells #[.slice A0 n0 c0, .slice A1 n1 c1, .slice A2 n2 c2, .slice A3 n3 c3, .int .i64 d4] 28)
  have HB0 := Lib.hid (allBytes A0 n0 c0 d0 _ l0 m0 (h0.below hb0))
  have HB1 := Lib.hid (allBytes A1 n1 c1 d1 _ l1 m1 (h1.below hb0))
  have HF := Lib.hid (flashValid A2 A3 n2 c2 n3 c3 d4 d2 d3 _ l2 l3 m2 m3 (h2.below hb0))
  have HL := Lib.hid (And.intro l0 l1)
  unfold maxLen at m0 m1 m2 m3
  clear l0 l1 l2 l3 h0 h1 h2
  by_cases e0 : n0 = 256
  · have q0 : ((n0 : Int) == 256) = true := by simp; omega
    by_cases e1 : n1 = 32
    · have q1 : ((n1 : Int) == 32) = true := by simp; omega
      by_cases e2 : d0.all byB = true
      · by_cases e3 : d1.all byB = true
        · have HY := Lib.hid (okMem_yes d0 d1 d2 d3 d4 (by rw [HL.out.1]; exact e0) (by rw [HL.out.2]; exact e1) e2 e3)
          rw [e2] at HB0
          rw [e3] at HB1
          generalize okMem d0 d1 d2 d3 d4 = r at HY
          generalize okFlash d2 d3 d4 = o at HF HY
          clear e0 e1 e2 e3
          go_enter Try.func64, Try.ntmps64
          go_wp2_with fail
          refine HB0.out.mono ?_
          rintro e w' ⟨rfl, rfl⟩
          go_wp2_with fail
          refine HB1.out.mono ?_
          rintro e w' ⟨rfl, rfl⟩
          go_wp2_with fail
          refine HF.out.mono ?_
          rintro e w2 ⟨rfl, hb2⟩
          go_wp2
          all_goals go_ret
          all_goals exact ⟨ret_bool HY.out.symm, bt hb0 hb2⟩
        · have e3' : d1.all byB = false := by simpa using e3
          have HY := Lib.hid (okMem_no4 d0 d1 d2 d3 d4 e3')
          rw [e2] at HB0
          rw [e3'] at HB1
          clear e0 e1 e2 e3 e3'
          go_enter Try.func64, Try.ntmps64
          go_wp2_with fail
          refine HB0.out.mono ?_
          rintro e w' ⟨rfl, rfl⟩
          go_wp2_with fail
          refine HB1.out.mono ?_
          rintro e w' ⟨rfl, rfl⟩
          go_wp2
          all_goals go_ret
          all_goals exact ⟨ret_bool HY.out.symm, hb0⟩
      · have e2' : d0.all byB = false := by simpa using e2
        have HY := Lib.hid (okMem_no3 d0 d1 d2 d3 d4 e2')
        rw [e2'] at HB0
        clear e0 e1 e2 e2'
        go_enter Try.func64, Try.ntmps64
        go_wp2_with fail
        refine HB0.out.mono ?_
        rintro e w' ⟨rfl, rfl⟩
        go_wp2
        all_goals go_ret
        all_goals exact ⟨ret_bool HY.out.symm, hb0⟩
    · have q1 : ((n1 : Int) == 32) = false := by simp; omega
      have HY := Lib.hid (okMem_no2 d0 d1 d2 d3 d4 (by rw [HL.out.2]; exact e1))
      clear e0 e1
      go_enter Try.func64, Try.ntmps64
      go_wp2
      all_goals go_ret
      all_goals exact ⟨ret_bool HY.out.symm, hb0⟩
  · have q0 : ((n0 : Int) == 256) = false := by simp; omega
    have HY := Lib.hid (okMem_no1 d0 d1 d2 d3 d4 (by rw [HL.out.1]; exact e0))
    clear e0
    go_enter Try.func64, Try.ntmps64
    go_wp2
    all_goals go_ret
    all_goals exact ⟨ret_bool HY.out.symm, hb0⟩

set_option maxRecDepth 100000 in
set_option maxHeartbeats 4000000 in
theorem specMemOK (l0 : d0.length = n0) (l1 : d1.length = n1) (l2 : d2.length = n2) (l3 : d3.length = n3) (m0 : n0 ≤ maxLen) (m1 : n1 ≤ maxLen) (m2 : n2 ≤ maxLen) (m3 : n3 ≤ maxLen) (h0 : IntL w A0 d0) (h1 : IntL w A1 d1) (h2 : IntL w A2 d2) :
    Calls Try.prog 50 #[.agg #[.slice A0 n0 c0, .slice A1 n1 c1, .slice A2 n2 c2, .slice A3 n3 c3, .int .i64 d4]] w fun e w' => e = .returned (.bool (okMem d0 d1 d2 d3 d4)) ∧ Below w.heap.size w w' := by
  have hb0 := alloc_below w (.cells #[.slice A0 n0 c0, .slice A1 n1 c1, .slice A2 n2 c2, .slice A3 n3 c3, .int .i64 d4] 28)
  have HB0 := Lib.hid (l05Bytes A0 n0 c0 d0 _ l0 m0 (h0.below hb0))
  have HB1 := Lib.hid (l05Bytes A1 n1 c1 d1 _ l1 m1 (h1.below hb0))
  have HF := Lib.hid (specFlashOK A2 A3 n2 c2 n3 c3 d4 d2 d3 _ l2 l3 m2 m3 (h2.below hb0))
  have HL := Lib.hid (And.intro l0 l1)
  unfold maxLen at m0 m1 m2 m3
  clear l0 l1 l2 l3 h0 h1 h2
  by_cases e0 : n0 = 256
  · have q0 : ((n0 : Int) == 256) = true := by simp; omega
    by_cases e1 : n1 = 32
    · have q1 : ((n1 : Int) == 32) = true := by simp; omega
      by_cases e2 : d0.all byB = true
      · by_cases e3 : d1.all byB = true
        · have HY := Lib.hid (okMem_yes d0 d1 d2 d3 d4 (by rw [HL.out.1]; exact e0) (by rw [HL.out.2]; exact e1) e2 e3)
          rw [e2] at HB0
          rw [e3] at HB1
          generalize okMem d0 d1 d2 d3 d4 = r at HY
          generalize okFlash d2 d3 d4 = o at HF HY
          clear e0 e1 e2 e3
          go_enter Try.func50, Try.ntmps50
          go_wp2_with fail
          refine HB0.out.mono ?_
          rintro e w' ⟨rfl, rfl⟩
          go_wp2_with fail
          refine HB1.out.mono ?_
          rintro e w' ⟨rfl, rfl⟩
          go_wp2_with fail
          refine HF.out.mono ?_
          rintro e w2 ⟨rfl, hb2⟩
          go_wp2
          all_goals go_ret
          all_goals exact ⟨ret_bool HY.out.symm, bt hb0 hb2⟩
        · have e3' : d1.all byB = false := by simpa using e3
          have HY := Lib.hid (okMem_no4 d0 d1 d2 d3 d4 e3')
          rw [e2] at HB0
          rw [e3'] at HB1
          clear e0 e1 e2 e3 e3'
          go_enter Try.func50, Try.ntmps50
          go_wp2_with fail
          refine HB0.out.mono ?_
          rintro e w' ⟨rfl, rfl⟩
          go_wp2_with fail
          refine HB1.out.mono ?_
          rintro e w' ⟨rfl, rfl⟩
          go_wp2
          all_goals go_ret
          all_goals exact ⟨ret_bool HY.out.symm, hb0⟩
      · have e2' : d0.all byB = false := by simpa using e2
        have HY := Lib.hid (okMem_no3 d0 d1 d2 d3 d4 e2')
        rw [e2'] at HB0
        clear e0 e1 e2 e2'
        go_enter Try.func50, Try.ntmps50
        go_wp2_with fail
        refine HB0.out.mono ?_
        rintro e w' ⟨rfl, rfl⟩
        go_wp2
        all_goals go_ret
        all_goals exact ⟨ret_bool HY.out.symm, hb0⟩
    · have q1 : ((n1 : Int) == 32) = false := by simp; omega
      have HY := Lib.hid (okMem_no2 d0 d1 d2 d3 d4 (by rw [HL.out.2]; exact e1))
      clear e0 e1
      go_enter Try.func50, Try.ntmps50
      go_wp2
      all_goals go_ret
      all_goals exact ⟨ret_bool HY.out.symm, hb0⟩
  · have q0 : ((n0 : Int) == 256) = false := by simp; omega
    have HY := Lib.hid (okMem_no1 d0 d1 d2 d3 d4 (by rw [HL.out.1]; exact e0))
    clear e0
    go_enter Try.func50, Try.ntmps50
    go_wp2
    all_goals go_ret
    all_goals exact ⟨ret_bool HY.out.symm, hb0⟩
end
end Go.Proofs.Ytngoijchebfolaa

/- The laws' own functions over Irq, on leaves. Written by gen_t.py. -/
namespace Go.Proofs.Ytngoijchebfolaa
open Go.RowKit

end Go.Proofs.Ytngoijchebfolaa

/- An interrupt controller's validity: levels, lines, IrqOK on both sides, the checks of a line. -/
namespace Go.Proofs.Ytngoijchebfolaa
open Go.RowKit

/-- From 0 to 7: a level, or a line. -/
def lvB (n : Int) : Bool := decide (0 ≤ n ∧ n ≤ 7)
def okIrq (d0 : List Int) (d1 : List Bool) : Bool := decide (d0.length = 8) && (decide (d1.length = 8) && d0.all lvB)
theorem lvB_range {n : Int} (h : lvB n = true) : 0 ≤ n ∧ n ≤ 7 := by simpa [lvB] using h
theorem okIrq_no1 (d0 : List Int) (d1 : List Bool) (h : d0.length ≠ 8) : okIrq d0 d1 = false := by unfold okIrq; simp [h]
theorem okIrq_no2 (d0 : List Int) (d1 : List Bool) (h : d1.length ≠ 8) : okIrq d0 d1 = false := by unfold okIrq; simp [h]
theorem okIrq_yes (d0 : List Int) (d1 : List Bool) (h : d0.length = 8) (h2 : d1.length = 8) : okIrq d0 d1 = d0.all lvB := by unfold okIrq; simp [h, h2]
theorem okIrq_len {d0 : List Int} {d1 : List Bool} (h : okIrq d0 d1 = true) : d0.length = 8 ∧ d1.length = 8 ∧ ∀ z ∈ d0, 0 ≤ z ∧ z ≤ 7 := by
  unfold okIrq at h
  simp only [Bool.and_eq_true, decide_eq_true_eq, List.all_eq_true] at h
  exact ⟨h.1, h.2.1, fun z hz => lvB_range (h.2.2 z hz)⟩
/-- What a check of a line answers. -/
def lineC (d0 : List Int) (d1 : List Bool) (n : Int) : Int := if okIrq d0 d1 then (if lvB n then 0 else 4) else 1

set_option maxRecDepth 100000 in
theorem isLine (n : Int) (w : World) : Calls Try.prog 65 #[.int .i64 n] w fun e w' => e = .returned (.bool (lvB n)) ∧ w = w' := by
  go_enter Try.func65, Try.ntmps65
  go_wp2
  all_goals go_ret
  all_goals (refine ⟨ret_bool ?_, rfl⟩)
  all_goals (unfold lvB; rw [Bool.eq_iff_iff]; simp; try omega)
set_option maxRecDepth 100000 in
theorem isLevel (n : Int) (w : World) : Calls Try.prog 66 #[.int .i64 n] w fun e w' => e = .returned (.bool (lvB n)) ∧ w = w' := by
  go_enter Try.func66, Try.ntmps66
  go_wp2
  all_goals go_ret
  all_goals (refine ⟨ret_bool ?_, rfl⟩)
  all_goals (unfold lvB; rw [Bool.eq_iff_iff]; simp; try omega)
set_option maxRecDepth 100000 in
theorem l01In7 (n : Int) (w : World) : Calls Try.prog 51 #[.int .i64 n, .int .i64 0, .int .i64 7] w fun e w' => e = .returned (.bool (lvB n)) ∧ w = w' := by
  go_enter Try.func51, Try.ntmps51
  go_wp2
  all_goals go_ret
  all_goals (refine ⟨ret_bool ?_, rfl⟩)
  all_goals (unfold lvB; rw [Bool.eq_iff_iff]; simp; try omega)

section
variable (A0 A1 : Option Addr) (n0 n1 c0 c1 : Nat) (d0 : List Int) (d1 : List Bool) (w : World)
end
end Go.Proofs.Ytngoijchebfolaa

/- CpuOK, RegAt, NewCpu, SameCpu on both sides, on leaves. Written by gen_cpuok.py. -/
namespace Go.Proofs.Ytngoijchebfolaa
open Go.RowKit

def okCpu (d0 d1 d2 d3 : Int) (d8 : List Int) : Bool := rngB d0 0 4095 && (rngB d1 0 255 && (rngB d2 0 3 && (rngB d3 0 7 && (decide (d8.length = 16) && d8.all byB))))
set_option maxRecDepth 100000 in
theorem isAddressR (n : Int) (w : World) : Calls Try.prog 81 #[.int .i64 n] w fun e w' => e = .returned (.bool (rngB n 0 4095)) ∧ w = w' := isAddress n w
set_option maxRecDepth 100000 in
theorem isByteR (n : Int) (w : World) : Calls Try.prog 82 #[.int .i64 n] w fun e w' => e = .returned (.bool (rngB n 0 255)) ∧ w = w' := isByte n w
set_option maxRecDepth 100000 in
theorem isLevelR (n : Int) (w : World) : Calls Try.prog 66 #[.int .i64 n] w fun e w' => e = .returned (.bool (rngB n 0 7)) ∧ w = w' := isLevel n w
set_option maxRecDepth 100000 in
theorem isLineR (n : Int) (w : World) : Calls Try.prog 65 #[.int .i64 n] w fun e w' => e = .returned (.bool (rngB n 0 7)) ∧ w = w' := isLine n w
set_option maxRecDepth 100000 in
theorem l05AtR (n : Int) (w : World) : Calls Try.prog 97 #[.int .i64 n] w fun e w' => e = .returned (.bool (rngB n 0 4095)) ∧ w = w' := l05At n w

set_option maxRecDepth 100000 in
set_option maxHeartbeats 4000000 in
theorem specCpuOK (A : Option Addr) (n c : Nat) (d0 d1 d2 d3 : Int) (d4 d5 d6 d7 : Bool) (d8 : List Int) (w : World) (l0 : d8.length = n) (m0 : n ≤ maxLen) (h0 : IntL w A d8) :
    Calls Try.prog 58 #[.agg #[.int .i64 d0, .int .i64 d1, .int .i64 d2, .int .i64 d3, .bool d4, .bool d5, .bool d6, .bool d7, .slice A n c]] w fun e w' => e = .returned (.bool (okCpu d0 d1 d2 d3 d8)) ∧ Below w.heap.size w w' := by
  have hb0 := alloc_below w (.cells #[.int .i64 d0, .int .i64 d1, .int .i64 d2, .int .i64 d3, .bool d4, .bool d5, .bool d6, .bool d7, .slice A n c] 50)
  have HB := Lib.hid (l05Bytes A n c d8 _ l0 m0 (h0.below hb0))
  have HY : Hid (okCpu d0 d1 d2 d3 d8 = (rngB d0 0 4095 && (rngB d1 0 255 && (rngB d2 0 3 && (rngB d3 0 7 && (decide (n = 16) && d8.all byB)))))) := Lib.hid (by unfold okCpu; rw [l0])
  generalize okCpu d0 d1 d2 d3 d8 = r at HY ⊢
  unfold maxLen at m0
  clear l0 h0
  by_cases h0 : rngB d0 0 4095 = true
  · skip
    by_cases h1 : rngB d1 0 255 = true
    · skip
      by_cases h2 : rngB d2 0 3 = true
      · skip
        by_cases h3 : rngB d3 0 7 = true
        · skip
          by_cases e4 : n = 16
          · have q4 : ((n : Int) == 16) = true := by simp; omega
            by_cases h5 : d8.all byB = true
            · skip
              have HR : Hid (r = true) := Lib.hid (by rw [HY.out]; simp [h0, h1, h2, h3, h5, e4])
              clear HY e4
              go_enter Try.func58, Try.ntmps58
              go_wp2_with (first | (go_at_call 97; refine (l05AtR _ _).mono ?_; rintro e w' ⟨rfl, rfl⟩; (first | rw [h0])) | (go_at_call 51; refine (l01InA _ _ _ _).mono ?_; rintro e w' ⟨rfl, rfl⟩; (first | rw [h1] | rw [h2] | rw [h3])))
              refine HB.out.mono ?_
              rintro e w' ⟨rfl, rfl⟩
              rw [h5]
              go_wp2
              all_goals go_ret
              all_goals exact ⟨ret_bool HR.out.symm, hb0⟩
            · have h5' : d8.all byB = false := by simpa using h5
              clear h5
              have HR : Hid (r = false) := Lib.hid (by rw [HY.out]; simp [h0, h1, h2, h3, h5', e4])
              clear HY e4
              go_enter Try.func58, Try.ntmps58
              go_wp2_with (first | (go_at_call 97; refine (l05AtR _ _).mono ?_; rintro e w' ⟨rfl, rfl⟩; (first | rw [h0])) | (go_at_call 51; refine (l01InA _ _ _ _).mono ?_; rintro e w' ⟨rfl, rfl⟩; (first | rw [h1] | rw [h2] | rw [h3])))
              refine HB.out.mono ?_
              rintro e w' ⟨rfl, rfl⟩
              rw [h5']
              go_wp2
              all_goals go_ret
              all_goals exact ⟨ret_bool HR.out.symm, hb0⟩
          · have q4 : ((n : Int) == 16) = false := by simp; omega
            have HR : Hid (r = false) := Lib.hid (by rw [HY.out]; simp [h0, h1, h2, h3, e4])
            clear HY e4
            go_enter Try.func58, Try.ntmps58
            go_wp2_with (first | (go_at_call 97; refine (l05AtR _ _).mono ?_; rintro e w' ⟨rfl, rfl⟩; (first | rw [h0])) | (go_at_call 51; refine (l01InA _ _ _ _).mono ?_; rintro e w' ⟨rfl, rfl⟩; (first | rw [h1] | rw [h2] | rw [h3])))
            all_goals go_ret
            all_goals exact ⟨ret_bool HR.out.symm, hb0⟩
        · have h3' : rngB d3 0 7 = false := by simpa using h3
          clear h3
          have HR : Hid (r = false) := Lib.hid (by rw [HY.out]; simp [h0, h1, h2, h3'])
          clear HY
          go_enter Try.func58, Try.ntmps58
          go_wp2_with (first | (go_at_call 97; refine (l05AtR _ _).mono ?_; rintro e w' ⟨rfl, rfl⟩; (first | rw [h0])) | (go_at_call 51; refine (l01InA _ _ _ _).mono ?_; rintro e w' ⟨rfl, rfl⟩; (first | rw [h1] | rw [h2] | rw [h3'])))
          all_goals go_ret
          all_goals exact ⟨ret_bool HR.out.symm, hb0⟩
      · have h2' : rngB d2 0 3 = false := by simpa using h2
        clear h2
        have HR : Hid (r = false) := Lib.hid (by rw [HY.out]; simp [h0, h1, h2'])
        clear HY
        go_enter Try.func58, Try.ntmps58
        go_wp2_with (first | (go_at_call 97; refine (l05AtR _ _).mono ?_; rintro e w' ⟨rfl, rfl⟩; (first | rw [h0])) | (go_at_call 51; refine (l01InA _ _ _ _).mono ?_; rintro e w' ⟨rfl, rfl⟩; (first | rw [h1] | rw [h2'])))
        all_goals go_ret
        all_goals exact ⟨ret_bool HR.out.symm, hb0⟩
    · have h1' : rngB d1 0 255 = false := by simpa using h1
      clear h1
      have HR : Hid (r = false) := Lib.hid (by rw [HY.out]; simp [h0, h1'])
      clear HY
      go_enter Try.func58, Try.ntmps58
      go_wp2_with (first | (go_at_call 97; refine (l05AtR _ _).mono ?_; rintro e w' ⟨rfl, rfl⟩; (first | rw [h0])) | (go_at_call 51; refine (l01InA _ _ _ _).mono ?_; rintro e w' ⟨rfl, rfl⟩; (first | rw [h1'])))
      all_goals go_ret
      all_goals exact ⟨ret_bool HR.out.symm, hb0⟩
  · have h0' : rngB d0 0 4095 = false := by simpa using h0
    clear h0
    have HR : Hid (r = false) := Lib.hid (by rw [HY.out]; simp [h0'])
    clear HY
    go_enter Try.func58, Try.ntmps58
    go_wp2_with (first | (go_at_call 97; refine (l05AtR _ _).mono ?_; rintro e w' ⟨rfl, rfl⟩; (first | rw [h0'])))
    all_goals go_ret
    all_goals exact ⟨ret_bool HR.out.symm, hb0⟩

set_option maxRecDepth 100000 in
set_option maxHeartbeats 4000000 in
theorem implValid (A : Option Addr) (n c : Nat) (d0 d1 d2 d3 : Int) (d4 d5 d6 d7 : Bool) (d8 : List Int) (w : World) (l0 : d8.length = n) (m0 : n ≤ maxLen) (h0 : IntL w A d8) :
    Calls Try.prog 63 #[.agg #[.int .i64 d0, .int .i64 d1, .int .i64 d2, .int .i64 d3, .bool d4, .bool d5, .bool d6, .bool d7, .slice A n c]] w fun e w' => e = .returned (.bool (okCpu d0 d1 d2 d3 d8)) ∧ Below w.heap.size w w' := by
  have hb0 := alloc_below w (.cells #[.int .i64 d0, .int .i64 d1, .int .i64 d2, .int .i64 d3, .bool d4, .bool d5, .bool d6, .bool d7, .slice A n c] 50)
  have HB := Lib.hid (allBytes A n c d8 _ l0 m0 (h0.below hb0))
  have HY : Hid (okCpu d0 d1 d2 d3 d8 = (rngB d0 0 4095 && (rngB d1 0 255 && (rngB d2 0 3 && (rngB d3 0 7 && (decide (n = 16) && d8.all byB)))))) := Lib.hid (by unfold okCpu; rw [l0])
  generalize okCpu d0 d1 d2 d3 d8 = r at HY ⊢
  unfold maxLen at m0
  clear l0 h0
  by_cases h0 : rngB d0 0 4095 = true
  · skip
    by_cases h1 : rngB d1 0 255 = true
    · skip
      by_cases h2 : rngB d2 0 3 = true
      · skip
        by_cases h3 : rngB d3 0 7 = true
        · skip
          by_cases e4 : n = 16
          · have q4 : ((n : Int) == 16) = true := by simp; omega
            by_cases h5 : d8.all byB = true
            · skip
              have HR : Hid (r = true) := Lib.hid (by rw [HY.out]; simp [h0, h1, h2, h3, h5, e4])
              clear HY e4
              go_enter Try.func63, Try.ntmps63
              go_wp2_with (first | (go_at_call 81; refine (isAddressR _ _).mono ?_; rintro e w' ⟨rfl, rfl⟩; (first | rw [h0])) | (go_at_call 82; refine (isByteR _ _).mono ?_; rintro e w' ⟨rfl, rfl⟩; (first | rw [h1])) | (go_at_call 83; refine (isUpToA _ _ _).mono ?_; rintro e w' ⟨rfl, rfl⟩; (first | rw [h2])) | (go_at_call 66; refine (isLevelR _ _).mono ?_; rintro e w' ⟨rfl, rfl⟩; (first | rw [h3])))
              refine HB.out.mono ?_
              rintro e w' ⟨rfl, rfl⟩
              rw [h5]
              go_wp2
              all_goals go_ret
              all_goals exact ⟨ret_bool HR.out.symm, hb0⟩
            · have h5' : d8.all byB = false := by simpa using h5
              clear h5
              have HR : Hid (r = false) := Lib.hid (by rw [HY.out]; simp [h0, h1, h2, h3, h5', e4])
              clear HY e4
              go_enter Try.func63, Try.ntmps63
              go_wp2_with (first | (go_at_call 81; refine (isAddressR _ _).mono ?_; rintro e w' ⟨rfl, rfl⟩; (first | rw [h0])) | (go_at_call 82; refine (isByteR _ _).mono ?_; rintro e w' ⟨rfl, rfl⟩; (first | rw [h1])) | (go_at_call 83; refine (isUpToA _ _ _).mono ?_; rintro e w' ⟨rfl, rfl⟩; (first | rw [h2])) | (go_at_call 66; refine (isLevelR _ _).mono ?_; rintro e w' ⟨rfl, rfl⟩; (first | rw [h3])))
              refine HB.out.mono ?_
              rintro e w' ⟨rfl, rfl⟩
              rw [h5']
              go_wp2
              all_goals go_ret
              all_goals exact ⟨ret_bool HR.out.symm, hb0⟩
          · have q4 : ((n : Int) == 16) = false := by simp; omega
            have HR : Hid (r = false) := Lib.hid (by rw [HY.out]; simp [h0, h1, h2, h3, e4])
            clear HY e4
            go_enter Try.func63, Try.ntmps63
            go_wp2_with (first | (go_at_call 81; refine (isAddressR _ _).mono ?_; rintro e w' ⟨rfl, rfl⟩; (first | rw [h0])) | (go_at_call 82; refine (isByteR _ _).mono ?_; rintro e w' ⟨rfl, rfl⟩; (first | rw [h1])) | (go_at_call 83; refine (isUpToA _ _ _).mono ?_; rintro e w' ⟨rfl, rfl⟩; (first | rw [h2])) | (go_at_call 66; refine (isLevelR _ _).mono ?_; rintro e w' ⟨rfl, rfl⟩; (first | rw [h3])))
            all_goals go_ret
            all_goals exact ⟨ret_bool HR.out.symm, hb0⟩
        · have h3' : rngB d3 0 7 = false := by simpa using h3
          clear h3
          have HR : Hid (r = false) := Lib.hid (by rw [HY.out]; simp [h0, h1, h2, h3'])
          clear HY
          go_enter Try.func63, Try.ntmps63
          go_wp2_with (first | (go_at_call 81; refine (isAddressR _ _).mono ?_; rintro e w' ⟨rfl, rfl⟩; (first | rw [h0])) | (go_at_call 82; refine (isByteR _ _).mono ?_; rintro e w' ⟨rfl, rfl⟩; (first | rw [h1])) | (go_at_call 83; refine (isUpToA _ _ _).mono ?_; rintro e w' ⟨rfl, rfl⟩; (first | rw [h2])) | (go_at_call 66; refine (isLevelR _ _).mono ?_; rintro e w' ⟨rfl, rfl⟩; (first | rw [h3'])))
          all_goals go_ret
          all_goals exact ⟨ret_bool HR.out.symm, hb0⟩
      · have h2' : rngB d2 0 3 = false := by simpa using h2
        clear h2
        have HR : Hid (r = false) := Lib.hid (by rw [HY.out]; simp [h0, h1, h2'])
        clear HY
        go_enter Try.func63, Try.ntmps63
        go_wp2_with (first | (go_at_call 81; refine (isAddressR _ _).mono ?_; rintro e w' ⟨rfl, rfl⟩; (first | rw [h0])) | (go_at_call 82; refine (isByteR _ _).mono ?_; rintro e w' ⟨rfl, rfl⟩; (first | rw [h1])) | (go_at_call 83; refine (isUpToA _ _ _).mono ?_; rintro e w' ⟨rfl, rfl⟩; (first | rw [h2'])))
        all_goals go_ret
        all_goals exact ⟨ret_bool HR.out.symm, hb0⟩
    · have h1' : rngB d1 0 255 = false := by simpa using h1
      clear h1
      have HR : Hid (r = false) := Lib.hid (by rw [HY.out]; simp [h0, h1'])
      clear HY
      go_enter Try.func63, Try.ntmps63
      go_wp2_with (first | (go_at_call 81; refine (isAddressR _ _).mono ?_; rintro e w' ⟨rfl, rfl⟩; (first | rw [h0])) | (go_at_call 82; refine (isByteR _ _).mono ?_; rintro e w' ⟨rfl, rfl⟩; (first | rw [h1'])))
      all_goals go_ret
      all_goals exact ⟨ret_bool HR.out.symm, hb0⟩
  · have h0' : rngB d0 0 4095 = false := by simpa using h0
    clear h0
    have HR : Hid (r = false) := Lib.hid (by rw [HY.out]; simp [h0'])
    clear HY
    go_enter Try.func63, Try.ntmps63
    go_wp2_with (first | (go_at_call 81; refine (isAddressR _ _).mono ?_; rintro e w' ⟨rfl, rfl⟩; (first | rw [h0'])))
    all_goals go_ret
    all_goals exact ⟨ret_bool HR.out.symm, hb0⟩

/-- A register of the bank, and the code. -/
def regF (d0 d1 d2 d3 : Int) (d8 : List Int) (k : Int) : Int × Int := if okCpu d0 d1 d2 d3 d8 then (if rngB k 0 3 then (d8.getD (4 * d2 + k).toNat 0, 0) else (0, 4)) else (0, 1)
theorem okCpu_ok {d0 d1 d2 d3 : Int} {d8 : List Int} (h : okCpu d0 d1 d2 d3 d8 = true) (d4 d5 d6 d7 : Bool) : (⟨d0, d1, d2, d3, d4, d5, d6, d7, d8⟩ : CD).Ok := CD.ok_iff.1 h
theorem rngB_says {n lo hi : Int} (h : rngB n lo hi = true) : lo ≤ n ∧ n ≤ hi := by simpa [rngB] using h

set_option maxRecDepth 100000 in
theorem specCpuOKA (A : Option Addr) (c : Nat) (d0 d1 d2 d3 : Int) (d4 d5 d6 d7 : Bool) (d8 : List Int) (w : World) (h : RepA w [.slice A d8.length c] [.I d8]) (_c : CapA [.slice A d8.length c]) (z : szA [.I d8] ≤ 1048576) :
    Calls Try.prog 58 #[.agg #[.int .i64 d0, .int .i64 d1, .int .i64 d2, .int .i64 d3, .bool d4, .bool d5, .bool d6, .bool d7, .slice A d8.length c]] w fun e w' => e = .returned (.bool (okCpu d0 d1 d2 d3 d8)) ∧ Below w.heap.size w w' := by
  simp only [szA, Lf.sz] at z
  exact specCpuOK A _ c d0 d1 d2 d3 d4 d5 d6 d7 d8 w rfl (by unfold maxLen; omega) (repI h.1)
end Go.Proofs.Ytngoijchebfolaa

/- A region that draws its order, walked once by facts: each operation, once carried out, has its fact; a fact is kept by whatever comes behind it. -/
namespace Go.Proofs.Ytngoijchebfolaa
open Go.RowKit

/-- The slots that a fact looks at. -/
def mask (l : List Nat) (T : Array Value) : Nat → Value := fun s => if l.contains s then T.getD s undef else undef
/-- 'bef': what must have come up before an operation (closed under itself); 'sup': the slots of its fact; 'base': slots that the region leaves alone. -/
def regOk (ops : Array Oper) (sup bef : List (List Nat)) (base : List Nat) : Bool :=
  ((List.range ops.size).all fun i => match ops[i]? with
    | none => false
    | some o => o.guard.isNone && ((o.after.all fun e => !Region.binds .any e || decide (e.on < i)) && (((bef.getD i []).all fun j => o.after.any fun e => Region.binds .any e && (e.on == j || (bef.getD e.on []).contains j)) &&
        ((sup.getD i []).all fun s => (List.range ops.size).all fun j => (match ops[j]? with | some oj => oj.dst != some s | none => true) || ((j == i) || (bef.getD i []).contains j))))) &&
  (base.all fun s => (List.range ops.size).all fun j => match ops[j]? with | some oj => oj.dst != some s | none => true)

section
variable {P : Program} {ops : Array Oper} {Q : Exit → Act → World → Prop} {sup bef : List (List Nat)} {base : List Nat} {a : Act}

/-- What one operation owes. -/
def StepF (P : Program) (Q : Exit → Act → World → Prop) (sup bef : List (List Nat)) (base : List Nat) (a : Act) (C : World → Prop) (F : Nat → (Nat → Value) → World → Prop) (i : Nat) (o : Oper) : Prop :=
  ∀ (T : Array Value) (W : World), T.size = a.tmps.size → (∀ s ∈ base, T.getD s undef = a.tmps.getD s undef) → C W → (∀ j ∈ bef.getD i [], F j (mask (sup.getD j []) T) W) →
    ∀ K : Act → World → Prop, Shut (∀ v W', C W' → (∀ j t, j ≠ i → F j t W → F j t W') → F i (mask (sup.getD i []) (Act.put { a with tmps := T } o.dst v).tmps) W' → K (Act.put { a with tmps := T } o.dst v) W') →
      Oper.wp P o { a with tmps := T } W K Q
def StepsF (P : Program) (Q : Exit → Act → World → Prop) (sup bef : List (List Nat)) (base : List Nat) (a : Act) (C : World → Prop) (F : Nat → (Nat → Value) → World → Prop) : Nat → List Oper → Prop
  | _, [] => True
  | i, o :: l => StepF P Q sup bef base a C F i o ∧ StepsF P Q sup bef base a C F (i + 1) l
theorem StepsF.get {C : World → Prop} {F : Nat → (Nat → Value) → World → Prop} : ∀ {l : List Oper} {i : Nat}, StepsF P Q sup bef base a C F i l → ∀ j o, l[j]? = some o → StepF P Q sup bef base a C F (i + j) o
  | [], _, _, j, o, h => by simp at h
  | o' :: l, i, hs, 0, o, h => by simp at h; subst h; exact hs.1
  | o' :: l, i, hs, j + 1, o, h => by
    have := StepsF.get hs.2 j o (by simpa using h)
    rwa [show i + 1 + j = i + (j + 1) by omega] at this

structure InvF (ops : Array Oper) (sup bef : List (List Nat)) (base : List Nat) (a : Act) (C : World → Prop) (F : Nat → (Nat → Value) → World → Prop) (L : Array Bool) (T : Array Value) (W : World) : Prop where
  size : T.size = a.tmps.size
  same : ∀ s ∈ base, T.getD s undef = a.tmps.getD s undef
  c : C W
  lsz : L.size = ops.size
  down : ∀ i, L.getD i false = true → ∀ j ∈ bef.getD i [], L.getD j false = true
  fact : ∀ i, L.getD i false = true → F i (mask (sup.getD i []) T) W

theorem getD_set_bool (L : Array Bool) (i j : Nat) (hi : i < L.size) : (L.setIfInBounds i true).getD j false = if j = i then true else L.getD j false := by
  simp only [Array.getD_eq_getD_getElem?]
  rw [Array.getElem?_setIfInBounds]
  by_cases h : i = j
  · subst h; simp [hi]
  · rw [if_neg h, if_neg (fun q => h q.symm)]
theorem getD_set_val (T : Array Value) (d s : Nat) (v : Value) (h : s ≠ d) : (T.setIfInBounds d v).getD s undef = T.getD s undef := by
  simp only [Array.getD_eq_getD_getElem?]
  rw [Array.getElem?_setIfInBounds, if_neg (fun q => h q.symm)]

theorem regOk_spec (h : regOk ops sup bef base = true) :
    (∀ (i : Nat) (o : Oper), ops[i]? = some o → o.guard = none ∧ (∀ e ∈ o.after, Region.binds .any e = true → e.on < i) ∧ (∀ j ∈ bef.getD i [], ∃ e ∈ o.after, Region.binds .any e = true ∧ (e.on = j ∨ j ∈ bef.getD e.on [])) ∧ (∀ s ∈ sup.getD i [], ∀ (j : Nat) (oj : Oper), ops[j]? = some oj → oj.dst = some s → j = i ∨ j ∈ bef.getD i [])) ∧
    (∀ s ∈ base, ∀ (j : Nat) (oj : Oper), ops[j]? = some oj → oj.dst ≠ some s) := by
  unfold regOk at h
  rw [Bool.and_eq_true, List.all_eq_true, List.all_eq_true] at h
  refine ⟨fun i o ho => ?_, fun s hs j oj hj hd => ?_⟩
  · have hi : i < ops.size := (Array.getElem?_eq_some_iff.1 ho).1
    have := h.1 i (List.mem_range.2 hi)
    rw [ho] at this
    simp only [Bool.and_eq_true, Array.all_eq_true_iff_forall_mem, List.all_eq_true, decide_eq_true_eq, Option.isNone_iff_eq_none] at this
    obtain ⟨h1, h2, h3, h4⟩ := this
    refine ⟨h1, fun e he hbd => ?_, fun j hj => ?_, fun s hs j oj hoj hd => ?_⟩
    · have := h2 e he
      rw [hbd] at this
      simpa using this
    · have := h3 j hj
      obtain ⟨e, he, hb⟩ := Array.any_eq_true'.1 this
      simp only [Bool.and_eq_true, Bool.or_eq_true, beq_iff_eq, List.contains_iff_mem] at hb
      exact ⟨e, he, hb⟩
    · have hj : j < ops.size := (Array.getElem?_eq_some_iff.1 hoj).1
      have := h4 s hs j (List.mem_range.2 hj)
      rw [hoj] at this
      simp only [hd, Bool.or_eq_true, bne_self_eq_false, beq_iff_eq, List.contains_iff_mem] at this
      simpa using this
  · have hj' : j < ops.size := (Array.getElem?_eq_some_iff.1 hj).1
    have := List.all_eq_true.1 (h.2 s hs) j (List.mem_range.2 hj')
    rw [hj] at this
    simp [hd] at this

theorem ready_nil_all {L : Array Bool} (hL : L.size = ops.size) (hlow : ∀ (i : Nat) (o : Oper), ops[i]? = some o → ∀ e ∈ o.after, Region.binds .any e = true → e.on < i) (h : Region.ready .any ops L = []) : ∀ i, i < ops.size → L.getD i false = true := by
  intro i
  induction i using Nat.strongRecOn with
  | ind i ih =>
    intro hi
    by_cases hl : L.getD i false = true
    · exact hl
    · exfalso
      have hm : i ∈ Region.ready .any ops L := mem_ready.2 ⟨by
        simp only [Array.getD_eq_getD_getElem?] at hl ⊢
        rw [Array.getElem?_eq_getElem (by omega)] at hl ⊢
        simpa using hl, ops[i], Array.getElem?_eq_getElem hi, fun e he hbd => ih e.on (hlow i _ (Array.getElem?_eq_getElem hi) e he hbd) (by have := hlow i _ (Array.getElem?_eq_getElem hi) e he hbd; omega)⟩
      rw [h] at hm
      cases hm

theorem wpAny_facts (hok : regOk ops sup bef base = true) (C : World → Prop) (F : Nat → (Nat → Value) → World → Prop)
    (hstep : StepsF P Q sup bef base a C F 0 ops.toList)
    (hend : ∀ T W, T.size = a.tmps.size → (∀ s ∈ base, T.getD s undef = a.tmps.getD s undef) → C W → (∀ i, i < ops.size → F i (mask (sup.getD i []) T) W) → Q .normal { a with tmps := T } W) :
    ∀ (fuel : Nat) (L : Array Bool) (T : Array Value) (W : World), InvF ops sup bef base a C F L T W → (L.toList.count false ≤ fuel) → wpAny P .any ops Q fuel L { a with tmps := T } W := by
  obtain ⟨hops, hbase⟩ := regOk_spec hok
  have hlow := fun i o ho => (hops i o ho).2.1
  have fin : ∀ L T W, InvF ops sup bef base a C F L T W → Region.ready .any ops L = [] → Q .normal { a with tmps := T } W := fun L T W I hr => hend T W I.size I.same I.c (fun i hi => I.fact i (ready_nil_all I.lsz hlow hr i hi))
  intro fuel
  induction fuel with
  | zero =>
    intro L T W I hf
    have hr : Region.ready .any ops L = [] := by
      apply List.eq_nil_iff_forall_not_mem.2
      intro j hj
      obtain ⟨h1, o, ho, _⟩ := mem_ready.1 hj
      have hjl : j < L.size := by rw [I.lsz]; exact (Array.getElem?_eq_some_iff.1 ho).1
      have : false ∈ L.toList := by
        simp only [Array.getD_eq_getD_getElem?] at h1
        rw [Array.getElem?_eq_getElem hjl] at h1
        simp only [Option.getD_some] at h1
        rw [← h1]
        simp
      have := List.count_pos_iff.2 this
      omega
    exact ⟨hr, fin L T W I hr⟩
  | succ fuel ih =>
    intro L T W I hf
    refine ⟨fin L T W I, fun i hi => ?_⟩
    obtain ⟨h1, o, ho, hall⟩ := mem_ready.1 hi
    have hil : i < L.size := by rw [I.lsz]; exact (Array.getElem?_eq_some_iff.1 ho).1
    have hlf : L.getD i false = false := by
      simp only [Array.getD_eq_getD_getElem?] at h1 ⊢
      rw [Array.getElem?_eq_getElem hil] at h1 ⊢
      simpa using h1
    obtain ⟨hg, hlo, hbf, hsp⟩ := hops i o ho
    have hbef : ∀ j ∈ bef.getD i [], L.getD j false = true := fun j hj => by
      obtain ⟨e, he, hb, q⟩ := hbf j hj
      have he' := hall e he hb
      rcases q with rfl | q
      · exact he'
      · exact I.down e.on he' j q
    have hs : StepF P Q sup bef base a C F i o := by
      have := hstep.get i o (by simpa using ho)
      simpa using this
    refine wpOp_step ho (fun K' hK => ?_)
    rw [if_pos (by simp [Region.wanted, hg])]
    refine hs T W I.size I.same I.c (fun j hj => I.fact j (hbef j hj)) K' (fun v W' hc hkeep hnew => hK _ _ ?_)
    have hnotin : ∀ k, L.getD k false = true → k ≠ i := fun k hk e => by subst e; rw [hlf] at hk; cases hk
    have hput : (Act.put { a with tmps := T } o.dst v) = { a with tmps := (Act.put { a with tmps := T } o.dst v).tmps } := by
      unfold Act.put; cases o.dst <;> rfl
    have hslot : ∀ s, o.dst ≠ some s → (Act.put { a with tmps := T } o.dst v).tmps.getD s undef = T.getD s undef := fun s hd => by
      cases hdd : o.dst with
      | none => rfl
      | some d => exact getD_set_val T d s v (fun e => hd (by rw [hdd, e]))
    rw [hput]
    refine ih _ _ W' ⟨?_, ?_, hc, by simpa using I.lsz, ?_, ?_⟩ ?_
    · rw [← I.size]; cases hdd : o.dst <;> simp [Act.put]
    · intro s hsb
      rw [hslot s (hbase s hsb i o ho)]
      exact I.same s hsb
    · intro k hk j hj
      rw [getD_set_bool L i k hil] at hk
      rw [getD_set_bool L i j hil]
      by_cases hki : k = i
      · subst hki
        rw [hbef j hj]; simp
      · rw [if_neg hki] at hk
        rw [I.down k hk j hj]; simp
    · intro k hk
      rw [getD_set_bool L i k hil] at hk
      by_cases hki : k = i
      · subst hki; exact hnew
      · rw [if_neg hki] at hk
        have hF := hkeep k _ hki (I.fact k hk)
        have hmk : mask (sup.getD k []) (Act.put { a with tmps := T } o.dst v).tmps = mask (sup.getD k []) T := by
          funext s
          unfold mask
          by_cases hsup : s ∈ sup.getD k []
          · rw [if_pos (List.contains_iff_mem.2 hsup), if_pos (List.contains_iff_mem.2 hsup)]
            refine hslot s (fun hd => ?_)
            have hko : k < ops.size := by
              rw [← I.lsz]
              apply Classical.byContradiction
              intro hn
              simp only [Array.getD_eq_getD_getElem?] at hk
              rw [Array.getElem?_eq_none (by omega)] at hk
              cases hk
            rcases (hops k _ (Array.getElem?_eq_getElem hko)).2.2.2 s hsup i o ho hd with q | q
            · exact hki q.symm
            · have := I.down k hk i q
              rw [hlf] at this
              cases this
          · rw [if_neg (fun q => hsup (List.contains_iff_mem.1 q)), if_neg (fun q => hsup (List.contains_iff_mem.1 q))]
        rw [hmk]; exact hF
    · have hset : (L.setIfInBounds i true).toList = L.toList.set i true := by simp
      rw [hset]
      have hct : (L.toList.set i true).count false + 1 = L.toList.count false := by
        have hx : L.toList[i]'(by simpa using hil) = false := by
          simp only [Array.getD_eq_getD_getElem?] at hlf
          rw [Array.getElem?_eq_getElem hil] at hlf
          simpa using hlf
        rw [List.count_set (by simpa using hil)]
        have hpos : 0 < L.toList.count false := List.count_pos_iff.2 (by rw [← hx]; exact List.getElem_mem _)
        rw [hx]
        simp only [beq_self_eq_true, if_true, show (true == false) = false from rfl, Bool.false_eq_true, if_false]
        omega
      omega

/-- The law. -/
theorem wp_region_facts {id : Nat} {w : World} (hm : P.follows .mixedOrders = true) (sup bef : List (List Nat)) (base : List Nat) (hok : regOk ops sup bef base = true) (C : World → Prop) (F : Nat → (Nat → Value) → World → Prop) (hC : C w.drew)
    (hstep : StepsF P Q sup bef base a C F 0 ops.toList)
    (hend : ∀ T W, T.size = a.tmps.size → (∀ s ∈ base, T.getD s undef = a.tmps.getD s undef) → C W → (∀ i, i < ops.size → F i (mask (sup.getD i []) T) W) → Q .normal { a with tmps := T } W) :
    (Code.region id ops true).wp P Q a w := by
  refine wp_region_any hm ?_
  have := wpAny_facts hok C F hstep hend ops.size (Array.replicate ops.size false) a.tmps w.drew ⟨rfl, fun _ _ => rfl, hC, by simp, fun i hi => ?_, fun i hi => ?_⟩ (by simp)
  · exact this
  all_goals (
    exfalso
    simp only [Array.getD_eq_getD_getElem?] at hi
    rw [Array.getElem?_replicate] at hi
    split at hi <;> simp at hi)
end
end Go.Proofs.Ytngoijchebfolaa

/- Rows that a store into a smaller box leaves alone; regions that hand back two structs. -/
namespace Go.Proofs.Ytngoijchebfolaa
open Go.RowKit

theorem IntL.offBtw {w w' : World} {A : Option Addr} {zs : List Int} {b : Nat} {t : TypeId} {cs : Array Value} (h : IntL w A zs) (X : Box w b t cs) (hl : cs.size < zs.length) (hb : Btw b (b + 1) w w') : IntL w' A zs := fun i hi => by
  obtain ⟨b1, off, e, hc⟩ := h i hi
  obtain ⟨b2, off2, e2, hc2⟩ := h cs.size hl
  have e3 := e.symm.trans e2
  injection e3 with e3
  injection e3 with e4 e5 _
  subst e4 e5
  refine ⟨b1, off, e, hb.cell hc ?_⟩
  show b1 < b ∨ b + 1 ≤ b1
  rcases Nat.lt_trichotomy b1 b with q | q | q
  · exact .inl q
  · exfalso
    subst q
    rw [cell_of_row _ _ _ _ _ _ X, Array.getElem?_eq_none (by omega)] at hc2
    cases hc2
  · exact .inr q
theorem BoolL.offBtw {w w' : World} {A : Option Addr} {zs : List Bool} {b : Nat} {t : TypeId} {cs : Array Value} (h : BoolL w A zs) (X : Box w b t cs) (hl : cs.size < zs.length) (hb : Btw b (b + 1) w w') : BoolL w' A zs := fun i hi => by
  obtain ⟨b1, off, e, hc⟩ := h i hi
  obtain ⟨b2, off2, e2, hc2⟩ := h cs.size hl
  have e3 := e.symm.trans e2
  injection e3 with e3
  injection e3 with e4 e5 _
  subst e4 e5
  refine ⟨b1, off, e, hb.cell hc ?_⟩
  show b1 < b ∨ b + 1 ≤ b1
  rcases Nat.lt_trichotomy b1 b with q | q | q
  · exact .inl q
  · exfalso
    subst q
    rw [cell_of_row _ _ _ _ _ _ X, Array.getElem?_eq_none (by omega)] at hc2
    cases hc2
  · exact .inr q
/-- Two boxes beside each other were written. -/
theorem IntL.offBtw2 {w w' : World} {A : Option Addr} {zs : List Int} {b : Nat} {t t' : TypeId} {cs cs' : Array Value} (h : IntL w A zs) (X : Box w b t cs) (Y : Box w (b + 1) t' cs') (hl : cs.size < zs.length) (hl' : cs'.size < zs.length) (hb : Btw b (b + 1 + 1) w w') : IntL w' A zs := fun i hi => by
  obtain ⟨b1, off, e, hc⟩ := h i hi
  refine ⟨b1, off, e, hb.cell hc ?_⟩
  show b1 < b ∨ b + 1 + 1 ≤ b1
  by_cases q1 : b1 = b
  · exfalso
    subst q1
    obtain ⟨b2, off2, e2, hc2⟩ := h cs.size hl
    have e3 := e.symm.trans e2
    injection e3 with e3
    injection e3 with e4 e5 _
    subst e4 e5
    rw [cell_of_row _ _ _ _ _ _ X, Array.getElem?_eq_none (by omega)] at hc2
    cases hc2
  · by_cases q2 : b1 = b + 1
    · exfalso
      subst q2
      obtain ⟨b2, off2, e2, hc2⟩ := h cs'.size hl'
      have e3 := e.symm.trans e2
      injection e3 with e3
      injection e3 with e4 e5 _
      subst e4 e5
      rw [cell_of_row _ _ _ _ _ _ Y, Array.getElem?_eq_none (by omega)] at hc2
      cases hc2
    · omega
theorem BoolL.offBtw2 {w w' : World} {A : Option Addr} {zs : List Bool} {b : Nat} {t t' : TypeId} {cs cs' : Array Value} (h : BoolL w A zs) (X : Box w b t cs) (Y : Box w (b + 1) t' cs') (hl : cs.size < zs.length) (hl' : cs'.size < zs.length) (hb : Btw b (b + 1 + 1) w w') : BoolL w' A zs := fun i hi => by
  obtain ⟨b1, off, e, hc⟩ := h i hi
  refine ⟨b1, off, e, hb.cell hc ?_⟩
  show b1 < b ∨ b + 1 + 1 ≤ b1
  by_cases q1 : b1 = b
  · exfalso
    subst q1
    obtain ⟨b2, off2, e2, hc2⟩ := h cs.size hl
    have e3 := e.symm.trans e2
    injection e3 with e3
    injection e3 with e4 e5 _
    subst e4 e5
    rw [cell_of_row _ _ _ _ _ _ X, Array.getElem?_eq_none (by omega)] at hc2
    cases hc2
  · by_cases q2 : b1 = b + 1
    · exfalso
      subst q2
      obtain ⟨b2, off2, e2, hc2⟩ := h cs'.size hl'
      have e3 := e.symm.trans e2
      injection e3 with e3
      injection e3 with e4 e5 _
      subst e4 e5
      rw [cell_of_row _ _ _ _ _ _ Y, Array.getElem?_eq_none (by omega)] at hc2
      cases hc2
    · omega
/-- A processor's registers read so; a memory reads so. -/
def RepC (w : World) (A : Option Addr) (d : CD) : Prop := d.Ok ∧ IntL w A d.regs
def RepM (w : World) (A0 A1 A2 A3 : Option Addr) (m : MD) : Prop := m.Ok ∧ IntL w A0 m.r ∧ IntL w A1 m.i ∧ IntL w A2 m.z ∧ BoolL w A3 m.g
theorem RepC.below {w w' : World} {A : Option Addr} {d : CD} (h : RepC w A d) (k : Below w.heap.size w w') : RepC w' A d := ⟨h.1, h.2.below k⟩
theorem RepM.below {w w' : World} {A0 A1 A2 A3 : Option Addr} {m : MD} (h : RepM w A0 A1 A2 A3 m) (k : Below w.heap.size w w') : RepM w' A0 A1 A2 A3 m := ⟨h.1, h.2.1.below k, h.2.2.1.below k, h.2.2.2.1.below k, h.2.2.2.2.below k⟩
theorem RepC.off {w w' : World} {A : Option Addr} {d : CD} (h : RepC w A d) {b : Nat} {t : TypeId} {cs : Array Value} (X : Box w b t cs) (hl : cs.size < 16) (hb : Btw b (b + 1) w w') : RepC w' A d := ⟨h.1, h.2.offBtw X (by rw [h.1.len]; exact hl) hb⟩
theorem RepM.off {w w' : World} {A0 A1 A2 A3 : Option Addr} {m : MD} (h : RepM w A0 A1 A2 A3 m) {b : Nat} {t : TypeId} {cs : Array Value} (X : Box w b t cs) (hl : cs.size < 16) (hb : Btw b (b + 1) w w') : RepM w' A0 A1 A2 A3 m :=
  ⟨h.1, h.2.1.offBtw X (by rw [h.1.r]; omega) hb, h.2.2.1.offBtw X (by rw [h.1.i]; omega) hb, h.2.2.2.1.offBtw X (by rw [h.1.z]; omega) hb, h.2.2.2.2.offBtw X (by rw [h.1.g]; omega) hb⟩
theorem RepC.off2 {w w' : World} {A : Option Addr} {d : CD} (h : RepC w A d) {b : Nat} {t t' : TypeId} {cs cs' : Array Value} (X : Box w b t cs) (Y : Box w (b + 1) t' cs') (hl : cs.size < 16) (hl' : cs'.size < 16) (hb : Btw b (b + 1 + 1) w w') : RepC w' A d := ⟨h.1, h.2.offBtw2 X Y (by rw [h.1.len]; exact hl) (by rw [h.1.len]; exact hl') hb⟩
theorem RepM.off2 {w w' : World} {A0 A1 A2 A3 : Option Addr} {m : MD} (h : RepM w A0 A1 A2 A3 m) {b : Nat} {t t' : TypeId} {cs cs' : Array Value} (X : Box w b t cs) (Y : Box w (b + 1) t' cs') (hl : cs.size < 16) (hl' : cs'.size < 16) (hb : Btw b (b + 1 + 1) w w') : RepM w' A0 A1 A2 A3 m :=
  ⟨h.1, h.2.1.offBtw2 X Y (by rw [h.1.r]; omega) (by rw [h.1.r]; omega) hb, h.2.2.1.offBtw2 X Y (by rw [h.1.i]; omega) (by rw [h.1.i]; omega) hb, h.2.2.2.1.offBtw2 X Y (by rw [h.1.z]; omega) (by rw [h.1.z]; omega) hb, h.2.2.2.2.offBtw2 X Y (by rw [h.1.g]; omega) (by rw [h.1.g]; omega) hb⟩
theorem Btw.lowSize {lo hi : Nat} {a b : World} (h : Btw lo hi a b) {w : World} (k : Below w.heap.size w a) (hl : lo ≤ a.heap.size) (hw : w.heap.size ≤ lo) : Below w.heap.size w b := k.trans ((h.below hl).mono hw)
theorem Box.setRow {w : World} {b : Nat} {t : TypeId} {cs : Array Value} (X : Box w b t cs) (cs' : Array Value) : Box (w.setRow b cs') b t cs' := by
  unfold Box at X ⊢
  simp [World.setRow, Array.getElem?_modify, X]
theorem btw_setRow {lo hi : Nat} {a w : World} (h : Btw lo hi a w) {b : Nat} (h1 : lo ≤ b) (h2 : b < hi) (cs : Array Value) : Btw lo hi a (w.setRow b cs) :=
  h.trans ⟨rfl, rfl, rfl, by simp [World.setRow], fun k _ ho => setRow_other w b k cs (by omega)⟩
theorem Box.farRow {w : World} {b b' : Nat} {t : TypeId} {cs : Array Value} (X : Box w b t cs) (hb : b ≠ b') (cs' : Array Value) : Box (w.setRow b' cs') b t cs := (setRow_other w b' b cs' hb).trans X

/-- What stays in a region that hands two structs back. -/
structure RetC (W0 : World) (bx by' bc bd : Nat) (t1 t2 : TypeId) (cs1 cs2 : Array Value) (W : World) : Prop where
  k : Btw bc (bd + 1) W0 W
  c : ∃ o : Array Value, o.size = cs1.size ∧ Box W bc t1 o
  d : ∃ o : Array Value, o.size = cs2.size ∧ Box W bd t2 o
  x : Box W bx t1 cs1
  y : Box W by' t2 cs2
  q : bx < bc ∧ by' < bc ∧ bc < bd
def RetF (s1 s2 bc bd : Nat) (t1 t2 : TypeId) (cs1 cs2 : Array Value) (iL1 iL2 iS1 iS2 : Nat) (G : Nat → (Nat → Value) → Prop) (k : Nat) (t : Nat → Value) (W : World) : Prop :=
  if k = iL1 then t s1 = .agg cs1 else if k = iL2 then t s2 = .agg cs2 else if k = iS1 then Box W bc t1 cs1 else if k = iS2 then Box W bd t2 cs2 else G k t
section
variable {P : Program} {Q : Exit → Act → World → Prop} {sup bef : List (List Nat)} {base : List Nat} {a : Act} {W0 : World} {bx by' bc bd s1 s2 : Nat} {t1 t2 : TypeId} {cs1 cs2 : Array Value} {iL1 iL2 iS1 iS2 : Nat} {G : Nat → (Nat → Value) → Prop}
theorem mask_put (l : List Nat) (s : Nat) (h : l.contains s = true) (T : Array Value) (a : Act) (v : Value) (hs : s < T.size) : mask l (Act.put { a with tmps := T } (some s) v).tmps s = v := by
  unfold mask
  rw [if_pos h]
  simp only [Act.put, Array.getD_eq_getD_getElem?]
  rw [Array.getElem?_setIfInBounds, if_pos rfl, if_pos hs]
  rfl
theorem ret_load1 {i : Nat} {o : Oper} (hi0 : i = iL1) (x : Nat) (ho : o.op = .load t1 (.tmp x)) (hd : o.dst = some s1) (hx : x ∈ base) (hp : a.tmps.getD x undef = .pointer (some ⟨bx, 0, none⟩)) (d : TypeDesc) (hu : P.underlying t1 = some d)
    (hdd : (match d with | .struct _ | .array _ _ => true | _ => false) = true) (hi : (P.info? t1).map (·.size) = some cs1.size) (hs : (sup.getD i []).contains s1 = true) (hlt : s1 < a.tmps.size) :
    StepF P Q sup bef base a (RetC W0 bx by' bc bd t1 t2 cs1 cs2) (RetF s1 s2 bc bd t1 t2 cs1 cs2 iL1 iL2 iS1 iS2 G) i o := by
  intro T W hT hb hc hf K hK
  refine wp_load_row t1 (.tmp x) ho bx ?_ t1 cs1 (0, 0) d hc.x hu hdd hi ?_
  · show T.getD x undef = _
    rw [hb x hx, hp]
  · refine hK.out _ W hc (fun _ _ _ h => h) ?_
    unfold RetF
    rw [if_pos hi0, hd]
    exact mask_put _ _ hs _ _ _ (by rw [hT]; exact hlt)
theorem ret_load2 {i : Nat} {o : Oper} (hi0 : i = iL2) (hi1 : i ≠ iL1) (x : Nat) (ho : o.op = .load t2 (.tmp x)) (hd : o.dst = some s2) (hx : x ∈ base) (hp : a.tmps.getD x undef = .pointer (some ⟨by', 0, none⟩)) (d : TypeDesc) (hu : P.underlying t2 = some d)
    (hdd : (match d with | .struct _ | .array _ _ => true | _ => false) = true) (hi : (P.info? t2).map (·.size) = some cs2.size) (hs : (sup.getD i []).contains s2 = true) (hlt : s2 < a.tmps.size) :
    StepF P Q sup bef base a (RetC W0 bx by' bc bd t1 t2 cs1 cs2) (RetF s1 s2 bc bd t1 t2 cs1 cs2 iL1 iL2 iS1 iS2 G) i o := by
  intro T W hT hb hc hf K hK
  refine wp_load_row t2 (.tmp x) ho by' ?_ t2 cs2 (0, 0) d hc.y hu hdd hi ?_
  · show T.getD x undef = _
    rw [hb x hx, hp]
  · refine hK.out _ W hc (fun _ _ _ h => h) ?_
    unfold RetF
    rw [if_neg hi1, if_pos hi0, hd]
    exact mask_put _ _ hs _ _ _ (by rw [hT]; exact hlt)
theorem mask_get {l : List Nat} {T : Array Value} {s : Nat} {v : Value} (hl : l.contains s = true) (h : mask l T s = v) : T.getD s undef = v := by
  unfold mask at h
  rwa [if_pos hl] at h
theorem ret_store1 {i : Nat} {o : Oper} (hi0 : i = iS1) (hi1 : i ≠ iL1) (hi2 : i ≠ iL2) (x : Nat) (ho : o.op = .store t1 (.tmp x) (.tmp s1)) (hx : x ∈ base) (hp : a.tmps.getD x undef = .pointer (some ⟨bc, 0, none⟩))
    (hb1 : iL1 ∈ bef.getD i []) (hs : (sup.getD iL1 []).contains s1 = true) (hi : (P.info? t1).map (·.size) = some cs1.size) (h1 : cs1.all (·.oneCell') = true) :
    StepF P Q sup bef base a (RetC W0 bx by' bc bd t1 t2 cs1 cs2) (RetF s1 s2 bc bd t1 t2 cs1 cs2 iL1 iL2 iS1 iS2 G) i o := by
  intro T W hT hb hc hf K hK
  obtain ⟨old, hos, hox⟩ := hc.c
  have hf1 := hf iL1 hb1
  unfold RetF at hf1
  rw [if_pos rfl] at hf1
  refine wp_store_row t1 (.tmp x) (.tmp s1) ho bc cs1 ?_ ?_ t1 old hox hi hos h1 ?_
  · show T.getD x undef = _
    rw [hb x hx, hp]
  · exact mask_get hs hf1
  · obtain ⟨q1, q2, q3⟩ := hc.q
    refine hK.out _ _ ⟨btw_setRow hc.k (Nat.le_refl _) (by omega) _, ⟨_, rfl, hox.setRow _⟩, ?_, hc.x.farRow (by omega) _, hc.y.farRow (by omega) _, hc.q⟩ (fun j t hj h => ?_) ?_
    · obtain ⟨o2, ho2, hx2⟩ := hc.d
      exact ⟨o2, ho2, hx2.farRow (by omega) _⟩
    · unfold RetF at h ⊢
      by_cases j1 : j = iL1
      · rw [if_pos j1] at h ⊢; exact h
      · rw [if_neg j1] at h ⊢
        by_cases j2 : j = iL2
        · rw [if_pos j2] at h ⊢; exact h
        · rw [if_neg j2] at h ⊢
          rw [if_neg (by omega)] at h ⊢
          by_cases j4 : j = iS2
          · rw [if_pos j4] at h ⊢; exact h.farRow (by omega) _
          · rw [if_neg j4] at h ⊢; exact h
    · unfold RetF
      rw [if_neg hi1, if_neg hi2, if_pos hi0]
      exact hox.setRow _
theorem ret_store2 {i : Nat} {o : Oper} (hi0 : i = iS2) (hi1 : i ≠ iL1) (hi2 : i ≠ iL2) (hi3 : i ≠ iS1) (hn : iL2 ≠ iL1) (x : Nat) (ho : o.op = .store t2 (.tmp x) (.tmp s2)) (hx : x ∈ base) (hp : a.tmps.getD x undef = .pointer (some ⟨bd, 0, none⟩))
    (hb1 : iL2 ∈ bef.getD i []) (hs : (sup.getD iL2 []).contains s2 = true) (hi : (P.info? t2).map (·.size) = some cs2.size) (h1 : cs2.all (·.oneCell') = true) :
    StepF P Q sup bef base a (RetC W0 bx by' bc bd t1 t2 cs1 cs2) (RetF s1 s2 bc bd t1 t2 cs1 cs2 iL1 iL2 iS1 iS2 G) i o := by
  intro T W hT hb hc hf K hK
  obtain ⟨old, hos, hox⟩ := hc.d
  have hf1 := hf iL2 hb1
  unfold RetF at hf1
  rw [if_neg hn, if_pos rfl] at hf1
  refine wp_store_row t2 (.tmp x) (.tmp s2) ho bd cs2 ?_ ?_ t2 old hox hi hos h1 ?_
  · show T.getD x undef = _
    rw [hb x hx, hp]
  · exact mask_get hs hf1
  · obtain ⟨q1, q2, q3⟩ := hc.q
    refine hK.out _ _ ⟨btw_setRow hc.k (by omega) (by omega) _, ?_, ⟨_, rfl, hox.setRow _⟩, hc.x.farRow (by omega) _, hc.y.farRow (by omega) _, hc.q⟩ (fun j t hj h => ?_) ?_
    · obtain ⟨o2, ho2, hx2⟩ := hc.c
      exact ⟨o2, ho2, hx2.farRow (by omega) _⟩
    · unfold RetF at h ⊢
      by_cases j1 : j = iL1
      · rw [if_pos j1] at h ⊢; exact h
      · rw [if_neg j1] at h ⊢
        by_cases j2 : j = iL2
        · rw [if_pos j2] at h ⊢; exact h
        · rw [if_neg j2] at h ⊢
          by_cases j3 : j = iS1
          · rw [if_pos j3] at h ⊢; exact h.farRow (by omega) _
          · rw [if_neg j3] at h ⊢
            rw [if_neg (by omega)] at h ⊢; exact h
    · unfold RetF
      rw [if_neg hi1, if_neg hi2, if_neg hi3, if_pos hi0]
      exact hox.setRow _
/-- A slot is filled out of another, or out of a constant. -/
theorem ret_assign {i : Nat} {o : Oper} (h1 : i ≠ iL1) (h2 : i ≠ iL2) (h3 : i ≠ iS1) (h4 : i ≠ iS2) (s : Nat) (hd : o.dst = some s) (x : Operand) (ho : o.op = .assign x ∨ o.op = .move x) (v : Value)
    (hv : ∀ T : Array Value, (∀ k ∈ base, T.getD k undef = a.tmps.getD k undef) → (∀ j ∈ bef.getD i [], G j (mask (sup.getD j []) T) ∨ (j = iL1 ∨ j = iL2 ∨ j = iS1 ∨ j = iS2)) → ({ a with tmps := T } : Act).eval x = v)
    (hs : (sup.getD i []).contains s = true) (hlt : s < a.tmps.size) (hG : ∀ t : Nat → Value, t s = v → G i t) :
    StepF P Q sup bef base a (RetC W0 bx by' bc bd t1 t2 cs1 cs2) (RetF s1 s2 bc bd t1 t2 cs1 cs2 iL1 iL2 iS1 iS2 G) i o := by
  intro T W hT hb hc hf K hK
  have hv' := hv T hb (fun j hj => by
    have hfj := hf j hj
    unfold RetF at hfj
    by_cases j1 : j = iL1
    · exact .inr (.inl j1)
    rw [if_neg j1] at hfj
    by_cases j2 : j = iL2
    · exact .inr (.inr (.inl j2))
    rw [if_neg j2] at hfj
    by_cases j3 : j = iS1
    · exact .inr (.inr (.inr (.inl j3)))
    rw [if_neg j3] at hfj
    by_cases j4 : j = iS2
    · exact .inr (.inr (.inr (.inr j4)))
    rw [if_neg j4] at hfj
    exact .inl hfj)
  have key : K (Act.put { a with tmps := T } o.dst v) W := by
    refine hK.out _ W hc (fun _ _ _ h => h) ?_
    unfold RetF
    rw [if_neg h1, if_neg h2, if_neg h3, if_neg h4, hd]
    exact hG _ (mask_put _ _ hs _ _ _ (by rw [hT]; exact hlt))
  rcases ho with ho | ho
  · unfold Oper.wp execOp
    simp only [ho, hv']
    exact key
  · unfold Oper.wp execOp
    simp only [ho, hv']
    exact key
end
theorem and_any (n : Int) (k : Nat) (hk : k ≤ 62) : bits .and .i64 n (((2 ^ k - 1 : Nat) : Int)) = n % (2 ^ k : Nat) := by
  have hlt : 2 ^ k ≤ 2 ^ 62 := Nat.pow_le_pow_right (by omega) hk
  have h15 : (BitVec.ofInt 64 (((2 ^ k - 1 : Nat) : Int))).toNat = 2 ^ k - 1 := by
    rw [BitVec.toNat_ofInt]
    have : 2 ^ k ≥ 1 := Nat.one_le_two_pow
    omega
  have key : (BitVec.ofInt 64 n &&& BitVec.ofInt 64 (((2 ^ k - 1 : Nat) : Int))).toNat = (n % ((2 ^ 64 : Nat) : Int)).toNat % 2 ^ k := by
    rw [BitVec.toNat_and, BitVec.toNat_ofInt, h15, Nat.and_two_pow_sub_one_eq_mod]
  show IntKind.i64.wrap ((BitVec.ofInt 64 n &&& BitVec.ofInt 64 (((2 ^ k - 1 : Nat) : Int))).toNat : Nat) = n % (2 ^ k : Nat)
  rw [key, IntKind.wrap_i64]
  have hd : (2 ^ 64 : Nat) = 2 ^ k * 2 ^ (64 - k) := by rw [← Nat.pow_add]; congr 1; omega
  have hp : 0 < (2 : Nat) ^ k := Nat.two_pow_pos k
  have h1 : (((n % ((2 ^ 64 : Nat) : Int)).toNat % 2 ^ k : Nat) : Int) = n % ((2 ^ k : Nat) : Int) := by
    rw [Int.natCast_emod, Int.toNat_of_nonneg (Int.emod_nonneg _ (by decide))]
    exact Int.emod_emod_of_dvd n ⟨((2 ^ (64 - k) : Nat) : Int), by rw [hd]; push_cast; rfl⟩
  rw [h1]
  have h2 : 0 ≤ n % ((2 ^ k : Nat) : Int) := Int.emod_nonneg _ (by omega)
  have h3 : n % ((2 ^ k : Nat) : Int) < ((2 ^ k : Nat) : Int) := Int.emod_lt_of_pos _ (by omega)
  omega
theorem and_255 (n : Int) : bits .and .i64 n 255 = n % 256 := and_any n 8 (by omega)
theorem and_4095 (n : Int) : bits .and .i64 n 4095 = n % 4096 := and_any n 12 (by omega)
theorem and_7 (n : Int) : bits .and .i64 n 7 = n % 8 := and_any n 3 (by omega)
theorem setL9 (l : List Value) (hs : l.length = 9) (u0 u1 u2 u3 u4 u5 u6 u7 u8 : Value) : (((((((((l.set 0 u0).set 1 u1).set 2 u2).set 3 u3).set 4 u4).set 5 u5).set 6 u6).set 7 u7).set 8 u8) = [u0, u1, u2, u3, u4, u5, u6, u7, u8] := by
  match l, hs with
  | [v0, v1, v2, v3, v4, v5, v6, v7, v8], _ => simp only [List.set_cons_zero, List.set_cons_succ]
theorem setA9 (cs : Array Value) (hs : cs.size = 9) (u0 u1 u2 u3 u4 u5 u6 u7 u8 : Value) : (((((((((cs.setIfInBounds 0 u0).setIfInBounds 1 u1).setIfInBounds 2 u2).setIfInBounds 3 u3).setIfInBounds 4 u4).setIfInBounds 5 u5).setIfInBounds 6 u6).setIfInBounds 7 u7).setIfInBounds 8 u8) = #[u0, u1, u2, u3, u4, u5, u6, u7, u8] := by
  obtain ⟨l⟩ := cs
  simp only [List.setIfInBounds_toArray]
  rw [setL9 l hs]
theorem Box.allN9 {w : World} {b : Nat} {t : TypeId} {cs : Array Value} (X : Box w b t cs) (hs : cs.size = 9) (u0 u1 u2 u3 u4 u5 u6 u7 u8 : Value) : Box (((((((((w.setCell ⟨b, 0, none⟩ u0).setCell ⟨b, 1, none⟩ u1).setCell ⟨b, 2, none⟩ u2).setCell ⟨b, 3, none⟩ u3).setCell ⟨b, 4, none⟩ u4).setCell ⟨b, 5, none⟩ u5).setCell ⟨b, 6, none⟩ u6).setCell ⟨b, 7, none⟩ u7).setCell ⟨b, 8, none⟩ u8) b t #[u0, u1, u2, u3, u4, u5, u6, u7, u8] :=
  setA9 cs hs u0 u1 u2 u3 u4 u5 u6 u7 u8 ▸ (((((((((X.set 0 u0).set 1 u1).set 2 u2).set 3 u3).set 4 u4).set 5 u5).set 6 u6).set 7 u7).set 8 u8)
theorem setL5 (l : List Value) (hs : l.length = 5) (u0 u1 u2 u3 u4 : Value) : (((((l.set 0 u0).set 1 u1).set 2 u2).set 3 u3).set 4 u4) = [u0, u1, u2, u3, u4] := by
  match l, hs with
  | [v0, v1, v2, v3, v4], _ => simp only [List.set_cons_zero, List.set_cons_succ]
theorem setA5 (cs : Array Value) (hs : cs.size = 5) (u0 u1 u2 u3 u4 : Value) : (((((cs.setIfInBounds 0 u0).setIfInBounds 1 u1).setIfInBounds 2 u2).setIfInBounds 3 u3).setIfInBounds 4 u4) = #[u0, u1, u2, u3, u4] := by
  obtain ⟨l⟩ := cs
  simp only [List.setIfInBounds_toArray]
  rw [setL5 l hs]
theorem Box.allN5 {w : World} {b : Nat} {t : TypeId} {cs : Array Value} (X : Box w b t cs) (hs : cs.size = 5) (u0 u1 u2 u3 u4 : Value) : Box (((((w.setCell ⟨b, 0, none⟩ u0).setCell ⟨b, 1, none⟩ u1).setCell ⟨b, 2, none⟩ u2).setCell ⟨b, 3, none⟩ u3).setCell ⟨b, 4, none⟩ u4) b t #[u0, u1, u2, u3, u4] :=
  setA5 cs hs u0 u1 u2 u3 u4 ▸ (((((X.set 0 u0).set 1 u1).set 2 u2).set 3 u3).set 4 u4)
/-- Two structs out of the result's cells. -/
theorem results_cc {P : Program} {fn : Func} {tmps : Array Value} {w : World} {x y b1 b2 : Nat} {t1 t2 : TypeId} {cs1 cs2 : Array Value} {d1 d2 : TypeDesc} (h : fn.results = #[.cell x t1, .cell y t2])
    (hx : tmps.getD x undef = .pointer (some ⟨b1, 0, none⟩)) (hy : tmps.getD y undef = .pointer (some ⟨b2, 0, none⟩)) (X : Box w b1 t1 cs1) (Y : Box w b2 t2 cs2)
    (hu1 : P.underlying t1 = some d1) (hd1 : (match d1 with | .struct _ | .array _ _ => true | _ => false) = true) (hi1 : (P.info? t1).map (·.size) = some cs1.size)
    (hu2 : P.underlying t2 = some d2) (hd2 : (match d2 with | .struct _ | .array _ _ => true | _ => false) = true) (hi2 : (P.info? t2).map (·.size) = some cs2.size) :
    (results fn tmps).run P w = .ok (.tuple #[.agg cs1, .agg cs2]) w := by
  unfold results
  rw [h]
  simp only [List.mapM_toArray, List.mapM_cons, List.mapM_nil, hx, hy]
  simp [asAddr, run_loadVar_row w b1 t1 t1 cs1 (0, 0) d1 X hu1 hd1 hi1, run_loadVar_row w b2 t2 t2 cs2 (0, 0) d2 Y hu2 hd2 hi2]
end Go.Proofs.Ytngoijchebfolaa

/- slices.Clone of a row of ints that is not empty; the chip's read. -/
namespace Go.Proofs.Ytngoijchebfolaa
open Go.RowKit

/-- A row of the call's own. -/
def GivesRow (n : Nat) (zs : List Int) (w : World) (e : Ending) (w' : World) : Prop :=
  ∃ A c, e = .returned (.slice A n c) ∧ Hid (OwnI w' w.heap.size w'.heap.size A zs) ∧ Below w.heap.size w w'

set_option maxRecDepth 100000 in
set_option maxHeartbeats 1000000 in
theorem cloneI (A : Option Addr) (n c : Nat) (zs : List Int) (w : World) (hl : zs.length = n) (hn : 0 < n) (hn2 : n ≤ 256) (h : IntL w A zs) :
    Calls Try.prog 84 #[.slice A n c] w (GivesRow n zs w) := by
  obtain ⟨ad, rfl, -⟩ := h.src (by omega)
  have HS := Lib.hid (fun W (hb : Below w.heap.size w W) => (h.below hb).src (by omega))
  have HC : Hid ((cellsI zs).length = n * 1) := Lib.hid (by rw [cellsI_len]; omega)
  have hba := alloc_below w (.cells #[] 3)
  have hnil : ∀ W : World, (binOp .eql 23 (.slice (some ad) n c) (.slice none 0 0)).run Try.prog W = .ok (.bool false) W := fun W => Lib.run_eql_slice_nil W _ _ (some ad) n c 0 0 Try.underlying23
  clear hl h
  go_enter Try.func84, Try.ntmps84
  go_wp2_with (first | (with_reducible refine wpList_app_fresh rfl (.tmp 5) (.tmp 6) 23 rfl 3 (.int .i64 0) 1 8 Try.underlying23 infoIx rfl (by decide) _ rfl (some ad) n c hn (cellsI zs) rfl HC.out (HS.out _ hba) (by unfold maxLen; omega) (by omega) ?_))
  intro A1 c1 w1 hb1 O1
  have hk1 := hba.trans (hb1.mono (by omega))
  have S1 := Lib.hid (ownI_fresh (lo := w.heap.size) O1.out hn (by omega))
  clear HS HC hba hb1 O1
  go_wp2
  go_ret
  exact ⟨_, _, rfl, S1, hk1⟩
end Go.Proofs.Ytngoijchebfolaa
