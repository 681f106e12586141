/- Texts of this claim, one behind the other: GenMem, GenIrq, IrqOk, RegFacts, RegLast, GenK, GenChannel, Open, GenRChannel, GenTimer. -/
import Derived.Deep.RegionHeld3
import Derived.Deep.Slices
import Derived.Lib.SmallJoins
import Derived.Test.YtophgbjbinaekaaGreatDoorM4
/- The laws' own functions over Mem, on leaves. Written by gen_t.py. -/
namespace Go.Proofs.YtophgbjbinaekaaGreatDoor
open Go.RowKit

set_option maxRecDepth 100000 in
set_option maxHeartbeats 2000000 in
theorem szMemA (vA0 vA1 vA2 vA3 : Option Addr) (vc0 vc1 vc2 vc3 : Nat) (d0 : List Int) (d1 : List Int) (d2 : List Int) (d3 : List Bool) (d4 : Int) (left : Int) (w : World) (h : RepA w [.slice vA0 d0.length vc0, .slice vA1 d1.length vc1, .slice vA2 d2.length vc2, .slice vA3 d3.length vc3] [Lf.I d0, Lf.I d1, Lf.I d2, Lf.B d3]) (hf : FitA [Lf.I d0, Lf.I d1, Lf.I d2, Lf.B d3]) (h0 : 0 ≤ left) (h1 : left ≤ 1048576) :
    Calls Tryz.prog 19 #[.agg #[.slice vA0 d0.length vc0, .slice vA1 d1.length vc1, .slice vA2 d2.length vc2, .slice vA3 d3.length vc3, .int .i64 d4], .int .i64 left] w (Left left (szA [Lf.I d0, Lf.I d1, Lf.I d2, Lf.B d3]) w) := by
  have H0 := Lib.hid (fun W (hb : Below w.heap.size w W) l g0 g1 => szLI (.slice vA0 d0.length vc0) d0 l W ((h.below hb).1) (hf _ (by simp)) g0 g1)
  have H1 := Lib.hid (fun W (hb : Below w.heap.size w W) l g0 g1 => szLI (.slice vA1 d1.length vc1) d1 l W ((h.below hb).2.1) (hf _ (by simp)) g0 g1)
  have H2 := Lib.hid (fun W (hb : Below w.heap.size w W) l g0 g1 => szFlashA vA2 vA3 vc2 vc3 d2 d3 d4 l W (h.below hb |> fun h => ⟨h.2.2.1, h.2.2.2.1, trivial⟩) (hf.sub (by simp +contextual)) g0 g1)
  have HR : Hid (szA [Lf.I d0, Lf.I d1, Lf.I d2, Lf.B d3] = (Lf.sz (Lf.I d0)) + (Lf.sz (Lf.I d1)) + szA [Lf.I d2, Lf.B d3]) := Lib.hid (by simp only [szA]; omega)
  generalize szA [Lf.I d0, Lf.I d1, Lf.I d2, Lf.B d3] = sa at HR ⊢
  generalize (Lf.sz (Lf.I d0)) = z0 at HR H0
  generalize (Lf.sz (Lf.I d1)) = z1 at HR H1
  generalize szA [Lf.I d2, Lf.B d3] = z2 at HR H2
  have hb0 := alloc_below w (.cells #[.slice vA0 d0.length vc0, .slice vA1 d1.length vc1, .slice vA2 d2.length vc2, .slice vA3 d3.length vc3, .int .i64 d4] 47)
  have X := Lib.hid (Box.new w 47 #[.slice vA0 d0.length vc0, .slice vA1 d1.length vc1, .slice vA2 d2.length vc2, .slice vA3 d3.length vc3, .int .i64 d4])
  clear h hf
  go_enter Tryz.func19, Tryz.ntmps19
  go_wp2_with fail
  refine (H0.out _ hb0 _ (by omega) (by omega)).mono ?_
  rintro e w1 ⟨hres, hc1⟩
  have X1 := Lib.hid (X.out.step hc1)
  have hb1 := bt hb0 hc1
  clear X hb0 hc1
  rcases hres with rfl | ⟨rfl, hle0⟩
  · go_wp2
    go_ret
    exact ⟨.inl rfl, hb1⟩
  have hp0 : ¬ left - (z0 : Int) < 0 := by omega
  have f1 := X1.out.cell 1 rfl
  go_wp2_with fail
  refine (H1.out _ hb1 _ (by omega) (by omega)).mono ?_
  rintro e w2 ⟨hres, hc2⟩
  have X2 := Lib.hid (X1.out.step hc2)
  have hb2 := bt hb1 hc2
  clear X1 hb1 hc2 f1
  rcases hres with rfl | ⟨rfl, hle1⟩
  · go_wp2
    go_ret
    exact ⟨.inl rfl, hb2⟩
  have hp1 : ¬ left - (z0 : Int) - (z1 : Int) < 0 := by omega
  have f2 := X2.out.cell 2 rfl
  have f3 := X2.out.cell 3 rfl
  have f4 := X2.out.cell 4 rfl
  go_wp2_with fail
  refine (H2.out _ hb2 _ (by omega) (by omega)).mono ?_
  rintro e w3 ⟨hres, hc3⟩
  have X3 := Lib.hid (X2.out.step hc3)
  have hb3 := bt hb2 hc3
  clear X2 hb2 hc3 f2 f3 f4
  rcases hres with rfl | ⟨rfl, hle2⟩
  · go_wp2
    go_ret
    exact ⟨.inl rfl, hb3⟩
  have hp2 : ¬ left - (z0 : Int) - (z1 : Int) - (z2 : Int) < 0 := by omega
  go_wp2
  go_ret
  exact ⟨.inr ⟨ret_int (by have := HR.out; omega), by have := HR.out; omega⟩, hb3⟩

set_option maxRecDepth 100000 in
set_option maxHeartbeats 4000000 in
theorem toMemA (vA0 vA1 vA2 vA3 : Option Addr) (vc0 vc1 vc2 vc3 : Nat) (d0 : List Int) (d1 : List Int) (d2 : List Int) (d3 : List Bool) (d4 : Int) (w : World) (h : RepA w [.slice vA0 d0.length vc0, .slice vA1 d1.length vc1, .slice vA2 d2.length vc2, .slice vA3 d3.length vc3] [Lf.I d0, Lf.I d1, Lf.I d2, Lf.B d3]) (hn : szA [Lf.I d0, Lf.I d1, Lf.I d2, Lf.B d3] ≤ 1048576) :
    Calls Tryz.prog 21 #[.agg #[.slice vA0 d0.length vc0, .slice vA1 d1.length vc1, .slice vA2 d2.length vc2, .slice vA3 d3.length vc3, .int .i64 d4]] w (fun e w' => ∃ uA0 uA1 uA2 uA3 uc0 uc1 uc2 uc3, e = .returned (.agg #[.slice uA0 d0.length uc0, .slice uA1 d1.length uc1, .slice uA2 d2.length uc2, .slice uA3 d3.length uc3, .int .i64 d4]) ∧ Hid (OwnA w' w.heap.size w'.heap.size [.slice uA0 d0.length uc0, .slice uA1 d1.length uc1, .slice uA2 d2.length uc2, .slice uA3 d3.length uc3] [Lf.I d0, Lf.I d1, Lf.I d2, Lf.B d3]) ∧ Hid (CapA [.slice uA0 d0.length uc0, .slice uA1 d1.length uc1, .slice uA2 d2.length uc2, .slice uA3 d3.length uc3]) ∧ Below w.heap.size w w') := by
  obtain ⟨W0, hW0⟩ : ∃ W0, W0 = (((w.alloc (.cells #[.slice vA0 d0.length vc0, .slice vA1 d1.length vc1, .slice vA2 d2.length vc2, .slice vA3 d3.length vc3, .int .i64 d4] 47)).alloc (.cells #[.slice none 0 0, .slice none 0 0, .slice none 0 0, .slice none 0 0, .int .i64 0] 31)).alloc (.cells #[.slice none 0 0, .slice none 0 0, .slice none 0 0, .slice none 0 0, .int .i64 0] 31)) := ⟨_, rfl⟩
  have hs0 : W0.heap.size = w.heap.size + 1 + 1 + 1 := by rw [hW0]; simp
  have hb0 : Below w.heap.size w W0 := by rw [hW0]; exact (((Below.refl _ _).alloc (Nat.le_refl _) _).alloc (by simp) _).alloc (by simp; omega) _
  have X0 : Hid (Box W0 w.heap.size 47 #[.slice vA0 d0.length vc0, .slice vA1 d1.length vc1, .slice vA2 d2.length vc2, .slice vA3 d3.length vc3, .int .i64 d4]) := Lib.hid (by rw [hW0]; exact ((Box.new _ _ _).alloc _).alloc _)
  have Y0 : Hid (Box W0 (w.heap.size + 1) 31 #[.slice none 0 0, .slice none 0 0, .slice none 0 0, .slice none 0 0, .int .i64 0]) := Lib.hid (by rw [hW0]; simpa using (Box.new (w.alloc (.cells #[.slice vA0 d0.length vc0, .slice vA1 d1.length vc1, .slice vA2 d2.length vc2, .slice vA3 d3.length vc3, .int .i64 d4] 47)) 31 #[.slice none 0 0, .slice none 0 0, .slice none 0 0, .slice none 0 0, .int .i64 0]).alloc (.cells #[.slice none 0 0, .slice none 0 0, .slice none 0 0, .slice none 0 0, .int .i64 0] 31))
  have Z0 : Hid (Box W0 (w.heap.size + 1 + 1) 31 #[.slice none 0 0, .slice none 0 0, .slice none 0 0, .slice none 0 0, .int .i64 0]) := Lib.hid (by rw [hW0]; simpa using Box.new ((w.alloc (.cells #[.slice vA0 d0.length vc0, .slice vA1 d1.length vc1, .slice vA2 d2.length vc2, .slice vA3 d3.length vc3, .int .i64 d4] 47)).alloc (.cells #[.slice none 0 0, .slice none 0 0, .slice none 0 0, .slice none 0 0, .int .i64 0] 31)) 31 #[.slice none 0 0, .slice none 0 0, .slice none 0 0, .slice none 0 0, .int .i64 0])
  have O0 : Hid (OwnA W0 (w.heap.size + 3) W0.heap.size [] []) := Lib.hid (OwnA.nil _ _ _)
  have H0 := Lib.hid (fun W (hb : Below w.heap.size w W) => toLI (.slice vA0 d0.length vc0) d0 W ((h.below hb).1) (by simp only [szA, Lf.sz] at hn; omega))
  have H1 := Lib.hid (fun W (hb : Below w.heap.size w W) => toLI (.slice vA1 d1.length vc1) d1 W ((h.below hb).2.1) (by simp only [szA, Lf.sz] at hn; omega))
  have H2 := Lib.hid (fun W (hb : Below w.heap.size w W) => toFlashA vA2 vA3 vc2 vc3 d2 d3 d4 W (h.below hb |> fun h => ⟨h.2.2.1, h.2.2.2.1, trivial⟩) (by simp only [szA, Lf.sz] at hn ⊢; omega))
  have HW0 := Lib.hid hW0
  have HS0 := Lib.hid hs0
  clear h hn hW0 hs0
  go_enter Tryz.func21, Tryz.ntmps21
  go_wp2_with fail
  rw [← HW0.out]
  refine (H0.out _ hb0).mono ?_
  rintro e w1 ⟨uA0, uc0, rfl, N1, K0, hc⟩
  have hq0 : w.heap.size + 3 ≤ W0.heap.size := by have := Z0.out.lt; omega
  have X1 := Lib.hid (X0.out.step hc)
  have Y1 := Lib.hid (Y0.out.step hc)
  have Z1 := Lib.hid (Z0.out.step hc)
  have O1 : Hid (OwnA w1 (w.heap.size + 3) w1.heap.size [.slice uA0 d0.length uc0] [Lf.I d0]) := Lib.hid ((O0.out.below hc).append (OwnA.one N1.out) (.inl (Nat.le_refl _)) (Nat.le_refl _) hq0 hc.size (Nat.le_refl _))
  have hb1 := bt hb0 hc
  clear X0 Y0 Z0 O0 hb0 hc N1 hq0 HW0 HS0
  have fa1 := X1.out.cell 1 rfl
  have fz0 := Z1.out.cell 0 rfl
  have gz0 := Z1.out.frozen 0
  go_wp2_with fail
  obtain ⟨V1, hV1⟩ : ∃ V1, V1 = (w1.setCell ⟨w.heap.size + 1 + 1, 0, none⟩ (.slice uA0 d0.length uc0)) := ⟨_, rfl⟩
  have X2 : Hid (Box V1 w.heap.size 47 #[.slice vA0 d0.length vc0, .slice vA1 d1.length vc1, .slice vA2 d2.length vc2, .slice vA3 d3.length vc3, .int .i64 d4]) := Lib.hid (by rw [hV1]; exact (X1.out.far (p := ⟨w.heap.size + 1 + 1, 0, none⟩) (by show w.heap.size ≠ w.heap.size + 1 + 1; omega) (.slice uA0 d0.length uc0)))
  have Y2 : Hid (Box V1 (w.heap.size + 1) 31 #[.slice none 0 0, .slice none 0 0, .slice none 0 0, .slice none 0 0, .int .i64 0]) := Lib.hid (by rw [hV1]; exact (Y1.out.far (p := ⟨w.heap.size + 1 + 1, 0, none⟩) (by show w.heap.size + 1 ≠ w.heap.size + 1 + 1; omega) (.slice uA0 d0.length uc0)))
  have Z2 : Hid (Box V1 (w.heap.size + 1 + 1) 31 #[.slice uA0 d0.length uc0, .slice none 0 0, .slice none 0 0, .slice none 0 0, .int .i64 0]) := Lib.hid (by rw [hV1]; exact (Z1.out.set 0 (.slice uA0 d0.length uc0)))
  have hsz2 : V1.heap.size = w1.heap.size := by rw [hV1]; simp [World.setCell]
  have O2 : Hid (OwnA V1 (w.heap.size + 3) V1.heap.size [.slice uA0 d0.length uc0] [Lf.I d0]) := Lib.hid (by rw [hsz2, hV1]; exact (O1.out.set (p := ⟨w.heap.size + 1 + 1, 0, none⟩) (by show w.heap.size + 1 + 1 < w.heap.size + 3; omega) (.slice uA0 d0.length uc0)))
  have hb2 : Below w.heap.size w V1 := by rw [hV1]; exact (hb1.setCell (p := ⟨w.heap.size + 1 + 1, 0, none⟩) (by show w.heap.size ≤ w.heap.size + 1 + 1; omega) (.slice uA0 d0.length uc0))
  rw [← hV1]
  clear X1 Y1 Z1 O1 hb1 hV1 hsz2 fa1 fz0 gz0
  refine (H1.out _ hb2).mono ?_
  rintro e w2 ⟨uA1, uc1, rfl, N1, K1, hc⟩
  have hq0 : w.heap.size + 3 ≤ V1.heap.size := by have := Z2.out.lt; omega
  have X3 := Lib.hid (X2.out.step hc)
  have Y3 := Lib.hid (Y2.out.step hc)
  have Z3 := Lib.hid (Z2.out.step hc)
  have O3 : Hid (OwnA w2 (w.heap.size + 3) w2.heap.size [.slice uA0 d0.length uc0, .slice uA1 d1.length uc1] [Lf.I d0, Lf.I d1]) := Lib.hid ((O2.out.below hc).append (OwnA.one N1.out) (.inl (Nat.le_refl _)) (Nat.le_refl _) hq0 hc.size (Nat.le_refl _))
  have hb3 := bt hb2 hc
  clear X2 Y2 Z2 O2 hb2 hc N1 hq0
  have fa2 := X3.out.cell 2 rfl
  have fa3 := X3.out.cell 3 rfl
  have fa4 := X3.out.cell 4 rfl
  have fz1 := Z3.out.cell 1 rfl
  have gz1 := Z3.out.frozen 1
  go_wp2_with fail
  obtain ⟨V2, hV2⟩ : ∃ V2, V2 = (w2.setCell ⟨w.heap.size + 1 + 1, 1, none⟩ (.slice uA1 d1.length uc1)) := ⟨_, rfl⟩
  have X4 : Hid (Box V2 w.heap.size 47 #[.slice vA0 d0.length vc0, .slice vA1 d1.length vc1, .slice vA2 d2.length vc2, .slice vA3 d3.length vc3, .int .i64 d4]) := Lib.hid (by rw [hV2]; exact (X3.out.far (p := ⟨w.heap.size + 1 + 1, 1, none⟩) (by show w.heap.size ≠ w.heap.size + 1 + 1; omega) (.slice uA1 d1.length uc1)))
  have Y4 : Hid (Box V2 (w.heap.size + 1) 31 #[.slice none 0 0, .slice none 0 0, .slice none 0 0, .slice none 0 0, .int .i64 0]) := Lib.hid (by rw [hV2]; exact (Y3.out.far (p := ⟨w.heap.size + 1 + 1, 1, none⟩) (by show w.heap.size + 1 ≠ w.heap.size + 1 + 1; omega) (.slice uA1 d1.length uc1)))
  have Z4 : Hid (Box V2 (w.heap.size + 1 + 1) 31 #[.slice uA0 d0.length uc0, .slice uA1 d1.length uc1, .slice none 0 0, .slice none 0 0, .int .i64 0]) := Lib.hid (by rw [hV2]; exact (Z3.out.set 1 (.slice uA1 d1.length uc1)))
  have hsz4 : V2.heap.size = w2.heap.size := by rw [hV2]; simp [World.setCell]
  have O4 : Hid (OwnA V2 (w.heap.size + 3) V2.heap.size [.slice uA0 d0.length uc0, .slice uA1 d1.length uc1] [Lf.I d0, Lf.I d1]) := Lib.hid (by rw [hsz4, hV2]; exact (O3.out.set (p := ⟨w.heap.size + 1 + 1, 1, none⟩) (by show w.heap.size + 1 + 1 < w.heap.size + 3; omega) (.slice uA1 d1.length uc1)))
  have hb4 : Below w.heap.size w V2 := by rw [hV2]; exact (hb3.setCell (p := ⟨w.heap.size + 1 + 1, 1, none⟩) (by show w.heap.size ≤ w.heap.size + 1 + 1; omega) (.slice uA1 d1.length uc1))
  rw [← hV2]
  clear X3 Y3 Z3 O3 hb3 hV2 hsz4 fa2 fa3 fa4 fz1 gz1
  refine (H2.out _ hb4).mono ?_
  rintro e w3 ⟨uA2, uA3, uc2, uc3, rfl, N1, K2, hc⟩
  have hq0 : w.heap.size + 3 ≤ V2.heap.size := by have := Z4.out.lt; omega
  have X5 := Lib.hid (X4.out.step hc)
  have Y5 := Lib.hid (Y4.out.step hc)
  have Z5 := Lib.hid (Z4.out.step hc)
  have O5 : Hid (OwnA w3 (w.heap.size + 3) w3.heap.size [.slice uA0 d0.length uc0, .slice uA1 d1.length uc1, .slice uA2 d2.length uc2, .slice uA3 d3.length uc3] [Lf.I d0, Lf.I d1, Lf.I d2, Lf.B d3]) := Lib.hid ((O4.out.below hc).append N1.out (.inl (Nat.le_refl _)) (Nat.le_refl _) hq0 hc.size (Nat.le_refl _))
  have hb5 := bt hb4 hc
  clear X4 Y4 Z4 O4 hb4 hc N1 hq0
  have fz2 := Z5.out.cell 2 rfl
  have gz2 := Z5.out.frozen 2
  have fz3 := Z5.out.cell 3 rfl
  have gz3 := Z5.out.frozen 3
  have fz4 := Z5.out.cell 4 rfl
  have gz4 := Z5.out.frozen 4
  have fz0 := Z5.out.cell 0 rfl
  have fy0 := Y5.out.cell 0 rfl
  have gy0 := Y5.out.frozen 0
  have fz1 := Z5.out.cell 1 rfl
  have fy1 := Y5.out.cell 1 rfl
  have gy1 := Y5.out.frozen 1
  have fy2 := Y5.out.cell 2 rfl
  have gy2 := Y5.out.frozen 2
  have fy3 := Y5.out.cell 3 rfl
  have gy3 := Y5.out.frozen 3
  have fy4 := Y5.out.cell 4 rfl
  have gy4 := Y5.out.frozen 4
  go_wp2
  refine bodyPost_ret (v := .agg #[.slice uA0 d0.length uc0, .slice uA1 d1.length uc1, .slice uA2 d2.length uc2, .slice uA3 d3.length uc3, .int .i64 d4]) (by simp [results, Tryz.results21, go_sem, fy0, fy1, fy2, fy3, fy4]) rfl ?_
  refine ⟨uA0, uA1, uA2, uA3, uc0, uc1, uc2, uc3, rfl, Lib.hid ((((((((((O5.out.set (p := ⟨w.heap.size + 1 + 1, 2, none⟩) (by show w.heap.size + 1 + 1 < w.heap.size + 3; omega) _).set (p := ⟨w.heap.size + 1 + 1, 3, none⟩) (by show w.heap.size + 1 + 1 < w.heap.size + 3; omega) _).set (p := ⟨w.heap.size + 1 + 1, 4, none⟩) (by show w.heap.size + 1 + 1 < w.heap.size + 3; omega) _).set (p := ⟨w.heap.size + 1, 0, none⟩) (by show w.heap.size + 1 < w.heap.size + 3; omega) _).set (p := ⟨w.heap.size + 1, 1, none⟩) (by show w.heap.size + 1 < w.heap.size + 3; omega) _).set (p := ⟨w.heap.size + 1, 2, none⟩) (by show w.heap.size + 1 < w.heap.size + 3; omega) _).set (p := ⟨w.heap.size + 1, 3, none⟩) (by show w.heap.size + 1 < w.heap.size + 3; omega) _).set (p := ⟨w.heap.size + 1, 4, none⟩) (by show w.heap.size + 1 < w.heap.size + 3; omega) _)).wide (by omega) (by simp [World.setCell])), Lib.hid (CapA.cons K0.out (CapA.cons K1.out (CapA.app K2.out CapA.nil))), ((((((((hb5.setCell (p := ⟨w.heap.size + 1 + 1, 2, none⟩) (by show w.heap.size ≤ w.heap.size + 1 + 1; omega) _).setCell (p := ⟨w.heap.size + 1 + 1, 3, none⟩) (by show w.heap.size ≤ w.heap.size + 1 + 1; omega) _).setCell (p := ⟨w.heap.size + 1 + 1, 4, none⟩) (by show w.heap.size ≤ w.heap.size + 1 + 1; omega) _).setCell (p := ⟨w.heap.size + 1, 0, none⟩) (by show w.heap.size ≤ w.heap.size + 1; omega) _).setCell (p := ⟨w.heap.size + 1, 1, none⟩) (by show w.heap.size ≤ w.heap.size + 1; omega) _).setCell (p := ⟨w.heap.size + 1, 2, none⟩) (by show w.heap.size ≤ w.heap.size + 1; omega) _).setCell (p := ⟨w.heap.size + 1, 3, none⟩) (by show w.heap.size ≤ w.heap.size + 1; omega) _).setCell (p := ⟨w.heap.size + 1, 4, none⟩) (by show w.heap.size ≤ w.heap.size + 1; omega) _)⟩

set_option maxRecDepth 100000 in
set_option maxHeartbeats 4000000 in
theorem eqMemA (vA0 vA1 vA2 vA3 : Option Addr) (vc0 vc1 vc2 vc3 : Nat) (uA0 uA1 uA2 uA3 : Option Addr) (uc0 uc1 uc2 uc3 : Nat) (d0 : List Int) (d1 : List Int) (d2 : List Int) (d3 : List Bool) (d4 : Int) (w : World) (h : RepA w [.slice vA0 d0.length vc0, .slice vA1 d1.length vc1, .slice vA2 d2.length vc2, .slice vA3 d3.length vc3] [Lf.I d0, Lf.I d1, Lf.I d2, Lf.B d3]) (h' : RepA w [.slice uA0 d0.length uc0, .slice uA1 d1.length uc1, .slice uA2 d2.length uc2, .slice uA3 d3.length uc3] [Lf.I d0, Lf.I d1, Lf.I d2, Lf.B d3]) (hn : lenA [Lf.I d0, Lf.I d1, Lf.I d2, Lf.B d3] ≤ maxLen) :
    Calls Tryz.prog 23 #[.agg #[.slice vA0 d0.length vc0, .slice vA1 d1.length vc1, .slice vA2 d2.length vc2, .slice vA3 d3.length vc3, .int .i64 d4], .agg #[.slice uA0 d0.length uc0, .slice uA1 d1.length uc1, .slice uA2 d2.length uc2, .slice uA3 d3.length uc3, .int .i64 d4]] w fun e w' => e = .returned (.bool true) ∧ Below w.heap.size w w' := by
  have H0 := Lib.hid (fun W (hb : Below w.heap.size w W) => eqLI (.slice vA0 d0.length vc0) (.slice uA0 d0.length uc0) d0 W ((h.below hb).1) ((h'.below hb).1) (by simp only [lenA, Lf.len] at hn; omega))
  have H1 := Lib.hid (fun W (hb : Below w.heap.size w W) => eqLI (.slice vA1 d1.length vc1) (.slice uA1 d1.length uc1) d1 W ((h.below hb).2.1) ((h'.below hb).2.1) (by simp only [lenA, Lf.len] at hn; omega))
  have H2 := Lib.hid (fun W (hb : Below w.heap.size w W) => eqFlashA vA2 vA3 vc2 vc3 uA2 uA3 uc2 uc3 d2 d3 d4 W (h.below hb |> fun h => ⟨h.2.2.1, h.2.2.2.1, trivial⟩) (h'.below hb |> fun h => ⟨h.2.2.1, h.2.2.2.1, trivial⟩) (by simp only [lenA, Lf.len] at hn ⊢; omega))
  obtain ⟨W0, hW0⟩ : ∃ W0, W0 = ((w.alloc (.cells #[.slice vA0 d0.length vc0, .slice vA1 d1.length vc1, .slice vA2 d2.length vc2, .slice vA3 d3.length vc3, .int .i64 d4] 31)).alloc (.cells #[.slice uA0 d0.length uc0, .slice uA1 d1.length uc1, .slice uA2 d2.length uc2, .slice uA3 d3.length uc3, .int .i64 d4] 31)) := ⟨_, rfl⟩
  have hb0 : Below w.heap.size w W0 := by rw [hW0]; exact ((Below.refl _ _).alloc (Nat.le_refl _) _).alloc (by simp) _
  have X0 : Hid (Box W0 w.heap.size 31 #[.slice vA0 d0.length vc0, .slice vA1 d1.length vc1, .slice vA2 d2.length vc2, .slice vA3 d3.length vc3, .int .i64 d4]) := Lib.hid (by rw [hW0]; exact (Box.new _ _ _).alloc _)
  have Y0 : Hid (Box W0 (w.heap.size + 1) 31 #[.slice uA0 d0.length uc0, .slice uA1 d1.length uc1, .slice uA2 d2.length uc2, .slice uA3 d3.length uc3, .int .i64 d4]) := Lib.hid (by rw [hW0]; simpa using Box.new (w.alloc (.cells #[.slice vA0 d0.length vc0, .slice vA1 d1.length vc1, .slice vA2 d2.length vc2, .slice vA3 d3.length vc3, .int .i64 d4] 31)) 31 #[.slice uA0 d0.length uc0, .slice uA1 d1.length uc1, .slice uA2 d2.length uc2, .slice uA3 d3.length uc3, .int .i64 d4])
  have HW0 := Lib.hid hW0
  have hq4 : (d4 != d4) = false := by simp
  clear hW0 h h' hn
  go_enter Tryz.func23, Tryz.ntmps23
  go_wp2_with fail
  rw [← HW0.out]
  refine (H0.out _ hb0).mono ?_
  rintro e w1 ⟨rfl, hc⟩
  have X1 := Lib.hid (X0.out.step hc)
  have Y1 := Lib.hid (Y0.out.step hc)
  have hb1 := bt hb0 hc
  clear X0 Y0 hb0 hc HW0
  have k1 := X1.out.cell 1 rfl
  have l1 := Y1.out.cell 1 rfl
  go_wp2_with fail
  refine (H1.out _ hb1).mono ?_
  rintro e w2 ⟨rfl, hc⟩
  have X2 := Lib.hid (X1.out.step hc)
  have Y2 := Lib.hid (Y1.out.step hc)
  have hb2 := bt hb1 hc
  clear X1 Y1 hb1 hc k1 l1
  have k2 := X2.out.cell 2 rfl
  have l2 := Y2.out.cell 2 rfl
  have k3 := X2.out.cell 3 rfl
  have l3 := Y2.out.cell 3 rfl
  have k4 := X2.out.cell 4 rfl
  have l4 := Y2.out.cell 4 rfl
  go_wp2_with fail
  refine (H2.out _ hb2).mono ?_
  rintro e w3 ⟨rfl, hc⟩
  have X3 := Lib.hid (X2.out.step hc)
  have Y3 := Lib.hid (Y2.out.step hc)
  have hb3 := bt hb2 hc
  clear X2 Y2 hb2 hc k2 l2 k3 l3 k4 l4
  go_wp2
  go_ret
  exact ⟨rfl, hb3⟩

set_option maxRecDepth 100000 in
set_option maxHeartbeats 4000000 in
theorem markMemA (vA0 vA1 vA2 vA3 : Option Addr) (vc0 vc1 vc2 vc3 : Nat) (d0 : List Int) (d1 : List Int) (d2 : List Int) (d3 : List Bool) (d4 : Int) (k lo hi : Nat) (w : World) (h : OwnA w lo hi [.slice vA0 d0.length vc0, .slice vA1 d1.length vc1, .slice vA2 d2.length vc2, .slice vA3 d3.length vc3] [Lf.I d0, Lf.I d1, Lf.I d2, Lf.B d3]) (hhi : hi ≤ w.heap.size) (hk : 1 ≤ k) (hB : BndA [Lf.I d0, Lf.I d1, Lf.I d2, Lf.B d3]) (hk2 : k + lenA [Lf.I d0, Lf.I d1, Lf.I d2, Lf.B d3] ≤ 549755813888) :
    Calls Tryz.prog 25 #[.agg #[.slice vA0 d0.length vc0, .slice vA1 d1.length vc1, .slice vA2 d2.length vc2, .slice vA3 d3.length vc3, .int .i64 d4], .int .i64 (k : Int)] w fun e w' => e = .returned (.int .i64 ((k + lenA [Lf.I d0, Lf.I d1, Lf.I d2, Lf.B d3] : Nat) : Int)) ∧ Hid (OwnA w' lo hi [.slice vA0 d0.length vc0, .slice vA1 d1.length vc1, .slice vA2 d2.length vc2, .slice vA3 d3.length vc3] (marksA k [Lf.I d0, Lf.I d1, Lf.I d2, Lf.B d3])) ∧ Touch [.slice vA0 d0.length vc0, .slice vA1 d1.length vc1, .slice vA2 d2.length vc2, .slice vA3 d3.length vc3] w w' := by
  have hb0 := alloc_below w (.cells #[.slice vA0 d0.length vc0, .slice vA1 d1.length vc1, .slice vA2 d2.length vc2, .slice vA3 d3.length vc3, .int .i64 d4] 31)
  have X0 := Lib.hid (Box.new w 31 #[.slice vA0 d0.length vc0, .slice vA1 d1.length vc1, .slice vA2 d2.length vc2, .slice vA3 d3.length vc3, .int .i64 d4])
  have O0 := Lib.hid (h.below hb0)
  have T0 := Lib.hid (Touch.of_below hb0 [.slice vA0 d0.length vc0, .slice vA1 d1.length vc1, .slice vA2 d2.length vc2, .slice vA3 d3.length vc3])
  have H0 := Lib.hid (fun W (o : OwnL W lo hi (.slice vA0 d0.length vc0) (Lf.I d0)) => markLI (.slice vA0 d0.length vc0) d0 (k) lo hi W o (by omega) (hB (Lf.I d0) (by simp)) (by simp only [lenA] at hk2 ⊢; omega))
  have H1 := Lib.hid (fun W (o : OwnL W lo hi (.slice vA1 d1.length vc1) (Lf.I d1)) => markLI (.slice vA1 d1.length vc1) d1 (k + (Lf.len (Lf.I d0))) lo hi W o (by omega) (hB (Lf.I d1) (by simp)) (by simp only [lenA] at hk2 ⊢; omega))
  have H2 := Lib.hid (fun W (o : OwnA W lo hi [.slice vA2 d2.length vc2, .slice vA3 d3.length vc3] [Lf.I d2, Lf.B d3]) (hs : hi ≤ W.heap.size) => markFlashA vA2 vA3 vc2 vc3 d2 d3 d4 (k + (Lf.len (Lf.I d0)) + (Lf.len (Lf.I d1))) lo hi W o hs (by omega) (hB.sub (by simp +contextual)) (by simp only [lenA] at hk2 ⊢; omega))
  have HH := Lib.hid hhi
  clear h hb0 hB hk2 hk hhi
  go_enter Tryz.func25, Tryz.ntmps25
  have G0 := OwnA.seg (a := []) (m := [.slice vA0 d0.length vc0]) (b := [.slice vA1 d1.length vc1, .slice vA2 d2.length vc2, .slice vA3 d3.length vc3]) (da := []) (dm := [Lf.I d0]) (db := [Lf.I d1, Lf.I d2, Lf.B d3]) O0.out rfl rfl
  have HC0 := Lib.hid (H0.out _ G0.1.1)
  clear G0
  go_wp2_with fail
  refine HC0.out.mono ?_
  rintro e w1 ⟨rfl, M0, U0⟩
  have O1 := Lib.hid (OwnA.reseg (a := []) (m := [.slice vA0 d0.length vc0]) (b := [.slice vA1 d1.length vc1, .slice vA2 d2.length vc2, .slice vA3 d3.length vc3]) (da := []) (dm := [Lf.I d0]) (db := [Lf.I d1, Lf.I d2, Lf.B d3]) (dm' := [(Lf.I d0).marks (k)]) O0.out rfl rfl (OwnA.one M0.out) U0)
  have T1 := Lib.hid (T0.out.chain (U0.mem (by simp +contextual)))
  have X1 : Hid (Box w1 w.heap.size 31 #[.slice vA0 d0.length vc0, .slice vA1 d1.length vc1, .slice vA2 d2.length vc2, .slice vA3 d3.length vc3, .int .i64 d4]) := Lib.hid (X0.out.touch (OwnA.seg (a := []) (m := [.slice vA0 d0.length vc0]) (b := [.slice vA1 d1.length vc1, .slice vA2 d2.length vc2, .slice vA3 d3.length vc3]) (da := []) (dm := [Lf.I d0]) (db := [Lf.I d1, Lf.I d2, Lf.B d3]) O0.out rfl rfl) U0 (.inr HH.out))
  clear X0 O0 T0 M0 U0 HC0
  have f1 := X1.out.cell 1 rfl
  have G1 := OwnA.seg (a := [.slice vA0 d0.length vc0]) (m := [.slice vA1 d1.length vc1]) (b := [.slice vA2 d2.length vc2, .slice vA3 d3.length vc3]) (da := [(Lf.I d0).marks (k)]) (dm := [Lf.I d1]) (db := [Lf.I d2, Lf.B d3]) O1.out rfl rfl
  have HC1 := Lib.hid (H1.out _ G1.1.1)
  clear G1
  go_wp2_with fail
  try rw [HKe1.out]
  refine HC1.out.mono ?_
  rintro e w2 ⟨rfl, M1, U1⟩
  have O2 := Lib.hid (OwnA.reseg (a := [.slice vA0 d0.length vc0]) (m := [.slice vA1 d1.length vc1]) (b := [.slice vA2 d2.length vc2, .slice vA3 d3.length vc3]) (da := [(Lf.I d0).marks (k)]) (dm := [Lf.I d1]) (db := [Lf.I d2, Lf.B d3]) (dm' := [(Lf.I d1).marks (k + (Lf.len (Lf.I d0)))]) O1.out rfl rfl (OwnA.one M1.out) U1)
  have T2 := Lib.hid (T1.out.chain (U1.mem (by simp +contextual)))
  have X2 : Hid (Box w2 w.heap.size 31 #[.slice vA0 d0.length vc0, .slice vA1 d1.length vc1, .slice vA2 d2.length vc2, .slice vA3 d3.length vc3, .int .i64 d4]) := Lib.hid (X1.out.touch (OwnA.seg (a := [.slice vA0 d0.length vc0]) (m := [.slice vA1 d1.length vc1]) (b := [.slice vA2 d2.length vc2, .slice vA3 d3.length vc3]) (da := [(Lf.I d0).marks (k)]) (dm := [Lf.I d1]) (db := [Lf.I d2, Lf.B d3]) O1.out rfl rfl) U1 (.inr HH.out))
  clear X1 O1 T1 M1 U1 HC1 f1
  have f2 := X2.out.cell 2 rfl
  have f3 := X2.out.cell 3 rfl
  have f4 := X2.out.cell 4 rfl
  have G2 := OwnA.seg (a := [.slice vA0 d0.length vc0, .slice vA1 d1.length vc1]) (m := [.slice vA2 d2.length vc2, .slice vA3 d3.length vc3]) (b := []) (da := [(Lf.I d0).marks (k), (Lf.I d1).marks (k + (Lf.len (Lf.I d0)))]) (dm := [Lf.I d2, Lf.B d3]) (db := []) O2.out rfl rfl
  have HC2 := Lib.hid (H2.out _ G2 (Nat.le_trans HH.out (by have := X2.out.lt; have := T2.out.size; omega)))
  clear G2
  go_wp2_with fail
  try rw [HKe2.out]
  refine HC2.out.mono ?_
  rintro e w3 ⟨rfl, M2, U2⟩
  have O3 := Lib.hid (OwnA.reseg (a := [.slice vA0 d0.length vc0, .slice vA1 d1.length vc1]) (m := [.slice vA2 d2.length vc2, .slice vA3 d3.length vc3]) (b := []) (da := [(Lf.I d0).marks (k), (Lf.I d1).marks (k + (Lf.len (Lf.I d0)))]) (dm := [Lf.I d2, Lf.B d3]) (db := []) (dm' := marksA (k + (Lf.len (Lf.I d0)) + (Lf.len (Lf.I d1))) [Lf.I d2, Lf.B d3]) O2.out rfl rfl M2.out U2)
  have T3 := Lib.hid (T2.out.chain (U2.mem (by simp +contextual)))
  have X3 : Hid (Box w3 w.heap.size 31 #[.slice vA0 d0.length vc0, .slice vA1 d1.length vc1, .slice vA2 d2.length vc2, .slice vA3 d3.length vc3, .int .i64 d4]) := Lib.hid (X2.out.touch (OwnA.seg (a := [.slice vA0 d0.length vc0, .slice vA1 d1.length vc1]) (m := [.slice vA2 d2.length vc2, .slice vA3 d3.length vc3]) (b := []) (da := [(Lf.I d0).marks (k), (Lf.I d1).marks (k + (Lf.len (Lf.I d0)))]) (dm := [Lf.I d2, Lf.B d3]) (db := []) O2.out rfl rfl) U2 (.inr HH.out))
  clear X2 O2 T2 M2 U2 HC2 f2 f3 f4
  go_wp2
  go_ret
  refine ⟨?_, Lib.hid ?_, T3.out⟩
  · refine ret_int ?_
    simp only [lenA]; omega
  · have := O3.out
    first | exact this | (simp only [marksA, lenA, List.cons_append, List.nil_append, Nat.add_zero, Nat.add_assoc] at this ⊢; exact this)

set_option maxRecDepth 100000 in
set_option maxHeartbeats 4000000 in
theorem heldMemA (vA0 vA1 vA2 vA3 : Option Addr) (vc0 vc1 vc2 vc3 : Nat) (d0 : List Int) (d1 : List Int) (d2 : List Int) (d3 : List Bool) (d4 : Int) (k : Nat) (w : World) (h : RepA w [.slice vA0 d0.length vc0, .slice vA1 d1.length vc1, .slice vA2 d2.length vc2, .slice vA3 d3.length vc3] (marksA k [Lf.I d0, Lf.I d1, Lf.I d2, Lf.B d3])) (hk : 1 ≤ k) (hB : BndA [Lf.I d0, Lf.I d1, Lf.I d2, Lf.B d3]) (hk2 : k + lenA [Lf.I d0, Lf.I d1, Lf.I d2, Lf.B d3] ≤ 549755813888) :
    Calls Tryz.prog 27 #[.agg #[.slice vA0 d0.length vc0, .slice vA1 d1.length vc1, .slice vA2 d2.length vc2, .slice vA3 d3.length vc3, .int .i64 d4], .int .i64 (k : Int)] w fun e w' => e = .returned (.int .i64 ((k + lenA [Lf.I d0, Lf.I d1, Lf.I d2, Lf.B d3] : Nat) : Int)) ∧ Below w.heap.size w w' := by
  have hb0 := alloc_below w (.cells #[.slice vA0 d0.length vc0, .slice vA1 d1.length vc1, .slice vA2 d2.length vc2, .slice vA3 d3.length vc3, .int .i64 d4] 31)
  have X0 := Lib.hid (Box.new w 31 #[.slice vA0 d0.length vc0, .slice vA1 d1.length vc1, .slice vA2 d2.length vc2, .slice vA3 d3.length vc3, .int .i64 d4])
  simp only [marksA] at h
  have H0 := Lib.hid (fun W (hb : Below w.heap.size w W) => heldLI (.slice vA0 d0.length vc0) d0 (k) W (by have := (h.below hb).1; simpa only [Nat.add_assoc] using this) (by omega) (hB (Lf.I d0) (by simp)) (by simp only [lenA] at hk2 ⊢; omega))
  have H1 := Lib.hid (fun W (hb : Below w.heap.size w W) => heldLI (.slice vA1 d1.length vc1) d1 (k + (Lf.len (Lf.I d0))) W (by have := (h.below hb).2.1; simpa only [Nat.add_assoc] using this) (by omega) (hB (Lf.I d1) (by simp)) (by simp only [lenA] at hk2 ⊢; omega))
  have H2 := Lib.hid (fun W (hb : Below w.heap.size w W) => heldFlashA vA2 vA3 vc2 vc3 d2 d3 d4 (k + (Lf.len (Lf.I d0)) + (Lf.len (Lf.I d1))) W (by have := h.below hb; simp only [marksA, lenA, Nat.add_zero, Nat.add_assoc] at this ⊢; exact ⟨this.2.2.1, this.2.2.2.1, trivial⟩) (by omega) (hB.sub (by simp +contextual)) (by simp only [lenA] at hk2 ⊢; omega))
  clear h hB hk hk2
  go_enter Tryz.func27, Tryz.ntmps27
  go_wp2_with fail
  refine (H0.out _ hb0).mono ?_
  rintro e w1 ⟨rfl, hc⟩
  have X1 := Lib.hid (X0.out.step hc)
  have hb1 := bt hb0 hc
  clear X0 hb0 hc
  have hp0 : ¬ ((k + (Lf.len (Lf.I d0)) : Nat) : Int) < 0 := by omega
  have f1 := X1.out.cell 1 rfl
  go_wp2_with fail
  refine (H1.out _ hb1).mono ?_
  rintro e w2 ⟨rfl, hc⟩
  have X2 := Lib.hid (X1.out.step hc)
  have hb2 := bt hb1 hc
  clear X1 hb1 hc f1
  have hp1 : ¬ ((k + (Lf.len (Lf.I d0)) + (Lf.len (Lf.I d1)) : Nat) : Int) < 0 := by omega
  have f2 := X2.out.cell 2 rfl
  have f3 := X2.out.cell 3 rfl
  have f4 := X2.out.cell 4 rfl
  go_wp2_with fail
  refine (H2.out _ hb2).mono ?_
  rintro e w3 ⟨rfl, hc⟩
  have X3 := Lib.hid (X2.out.step hc)
  have hb3 := bt hb2 hc
  clear X2 hb2 hc f2 f3 f4
  have hp2 : ¬ ((k + (Lf.len (Lf.I d0)) + (Lf.len (Lf.I d1)) + lenA [Lf.I d2, Lf.B d3] : Nat) : Int) < 0 := by omega
  go_wp2
  go_ret
  exact ⟨ret_int (by simp only [lenA]; omega), hb3⟩

end Go.Proofs.YtophgbjbinaekaaGreatDoor

/- The laws' own functions over Irq, on leaves. Written by gen_t.py. -/
namespace Go.Proofs.YtophgbjbinaekaaGreatDoor
open Go.RowKit

end Go.Proofs.YtophgbjbinaekaaGreatDoor

/- An interrupt controller's validity: levels, lines, IrqOK on both sides, the checks of a line. -/
namespace Go.Proofs.YtophgbjbinaekaaGreatDoor
open Go.RowKit

def lvB (n : Int) : Bool := decide (0 ≤ n ∧ n ≤ 7)
set_option maxRecDepth 100000 in
theorem isLevel (n : Int) (w : World) : Calls Tryz.prog 47 #[.int .i64 n] w fun e w' => e = .returned (.bool (lvB n)) ∧ w = w' := by
  go_enter Tryz.func47, Tryz.ntmps47
  go_wp2
  all_goals go_ret
  all_goals (refine ⟨ret_bool ?_, rfl⟩)
  all_goals (unfold lvB; rw [Bool.eq_iff_iff]; simp; try omega)
section
variable (A0 A1 : Option Addr) (n0 n1 c0 c1 : Nat) (d0 : List Int) (d1 : List Bool) (w : World)
end
end Go.Proofs.YtophgbjbinaekaaGreatDoor

/- A region that draws its order, walked once by facts: each operation, once carried out, has its fact; a fact is kept by whatever comes behind it. -/
namespace Go.Proofs.YtophgbjbinaekaaGreatDoor
open Go.RowKit

def mask (l : List Nat) (T : Array Value) : Nat → Value := fun s => if l.contains s then T.getD s undef else undef
def regOk (ops : Array Oper) (sup bef : List (List Nat)) (base : List Nat) : Bool :=
  ((List.range ops.size).all fun i => match ops[i]? with
    | none => false
    | some o => o.guard.isNone && ((o.after.all fun e => !Region.binds .any e || decide (e.on < i)) && (((bef.getD i []).all fun j => o.after.any fun e => Region.binds .any e && (e.on == j || (bef.getD e.on []).contains j)) &&
        ((sup.getD i []).all fun s => (List.range ops.size).all fun j => (match ops[j]? with | some oj => oj.dst != some s | none => true) || ((j == i) || (bef.getD i []).contains j))))) &&
  (base.all fun s => (List.range ops.size).all fun j => match ops[j]? with | some oj => oj.dst != some s | none => true)

section
variable {P : Program} {ops : Array Oper} {Q : Exit → Act → World → Prop} {sup bef : List (List Nat)} {base : List Nat} {a : Act}

def StepF (P : Program) (Q : Exit → Act → World → Prop) (sup bef : List (List Nat)) (base : List Nat) (a : Act) (C : World → Prop) (F : Nat → (Nat → Value) → World → Prop) (i : Nat) (o : Oper) : Prop :=
  ∀ (T : Array Value) (W : World), T.size = a.tmps.size → (∀ s ∈ base, T.getD s undef = a.tmps.getD s undef) → C W → (∀ j ∈ bef.getD i [], F j (mask (sup.getD j []) T) W) →
    ∀ K : Act → World → Prop, Shut (∀ v W', C W' → (∀ j t, j ≠ i → F j t W → F j t W') → F i (mask (sup.getD i []) (Act.put { a with tmps := T } o.dst v).tmps) W' → K (Act.put { a with tmps := T } o.dst v) W') →
      Oper.wp P o { a with tmps := T } W K Q
def StepsF (P : Program) (Q : Exit → Act → World → Prop) (sup bef : List (List Nat)) (base : List Nat) (a : Act) (C : World → Prop) (F : Nat → (Nat → Value) → World → Prop) : Nat → List Oper → Prop
  | _, [] => True
  | i, o :: l => StepF P Q sup bef base a C F i o ∧ StepsF P Q sup bef base a C F (i + 1) l
theorem StepsF.get {C : World → Prop} {F : Nat → (Nat → Value) → World → Prop} : ∀ {l : List Oper} {i : Nat}, StepsF P Q sup bef base a C F i l → ∀ j o, l[j]? = some o → StepF P Q sup bef base a C F (i + j) o
  | [], _, _, j, o, h => by simp at h
  | o' :: l, i, hs, 0, o, h => by simp at h; subst h; exact hs.1
  | o' :: l, i, hs, j + 1, o, h => by
    have := StepsF.get hs.2 j o (by simpa using h)
    rwa [show i + 1 + j = i + (j + 1) by omega] at this

structure InvF (ops : Array Oper) (sup bef : List (List Nat)) (base : List Nat) (a : Act) (C : World → Prop) (F : Nat → (Nat → Value) → World → Prop) (L : Array Bool) (T : Array Value) (W : World) : Prop where
  size : T.size = a.tmps.size
  same : ∀ s ∈ base, T.getD s undef = a.tmps.getD s undef
  c : C W
  lsz : L.size = ops.size
  down : ∀ i, L.getD i false = true → ∀ j ∈ bef.getD i [], L.getD j false = true
  fact : ∀ i, L.getD i false = true → F i (mask (sup.getD i []) T) W

theorem getD_set_bool (L : Array Bool) (i j : Nat) (hi : i < L.size) : (L.setIfInBounds i true).getD j false = if j = i then true else L.getD j false := by
  simp only [Array.getD_eq_getD_getElem?]
  rw [Array.getElem?_setIfInBounds]
  by_cases h : i = j
  · subst h; simp [hi]
  · rw [if_neg h, if_neg (fun q => h q.symm)]
theorem getD_set_val (T : Array Value) (d s : Nat) (v : Value) (h : s ≠ d) : (T.setIfInBounds d v).getD s undef = T.getD s undef := by
  simp only [Array.getD_eq_getD_getElem?]
  rw [Array.getElem?_setIfInBounds, if_neg (fun q => h q.symm)]

theorem regOk_spec (h : regOk ops sup bef base = true) :
    (∀ (i : Nat) (o : Oper), ops[i]? = some o → o.guard = none ∧ (∀ e ∈ o.after, Region.binds .any e = true → e.on < i) ∧ (∀ j ∈ bef.getD i [], ∃ e ∈ o.after, Region.binds .any e = true ∧ (e.on = j ∨ j ∈ bef.getD e.on [])) ∧ (∀ s ∈ sup.getD i [], ∀ (j : Nat) (oj : Oper), ops[j]? = some oj → oj.dst = some s → j = i ∨ j ∈ bef.getD i [])) ∧
    (∀ s ∈ base, ∀ (j : Nat) (oj : Oper), ops[j]? = some oj → oj.dst ≠ some s) := by
  unfold regOk at h
  rw [Bool.and_eq_true, List.all_eq_true, List.all_eq_true] at h
  refine ⟨fun i o ho => ?_, fun s hs j oj hj hd => ?_⟩
  · have hi : i < ops.size := (Array.getElem?_eq_some_iff.1 ho).1
    have := h.1 i (List.mem_range.2 hi)
    rw [ho] at this
    simp only [Bool.and_eq_true, Array.all_eq_true_iff_forall_mem, List.all_eq_true, decide_eq_true_eq, Option.isNone_iff_eq_none] at this
    obtain ⟨h1, h2, h3, h4⟩ := this
    refine ⟨h1, fun e he hbd => ?_, fun j hj => ?_, fun s hs j oj hoj hd => ?_⟩
    · have := h2 e he
      rw [hbd] at this
      simpa using this
    · have := h3 j hj
      obtain ⟨e, he, hb⟩ := Array.any_eq_true'.1 this
      simp only [Bool.and_eq_true, Bool.or_eq_true, beq_iff_eq, List.contains_iff_mem] at hb
      exact ⟨e, he, hb⟩
    · have hj : j < ops.size := (Array.getElem?_eq_some_iff.1 hoj).1
      have := h4 s hs j (List.mem_range.2 hj)
      rw [hoj] at this
      simp only [hd, Bool.or_eq_true, bne_self_eq_false, beq_iff_eq, List.contains_iff_mem] at this
      simpa using this
  · have hj' : j < ops.size := (Array.getElem?_eq_some_iff.1 hj).1
    have := List.all_eq_true.1 (h.2 s hs) j (List.mem_range.2 hj')
    rw [hj] at this
    simp [hd] at this

theorem ready_nil_all {L : Array Bool} (hL : L.size = ops.size) (hlow : ∀ (i : Nat) (o : Oper), ops[i]? = some o → ∀ e ∈ o.after, Region.binds .any e = true → e.on < i) (h : Region.ready .any ops L = []) : ∀ i, i < ops.size → L.getD i false = true := by
  intro i
  induction i using Nat.strongRecOn with
  | ind i ih =>
    intro hi
    by_cases hl : L.getD i false = true
    · exact hl
    · exfalso
      have hm : i ∈ Region.ready .any ops L := mem_ready.2 ⟨by
        simp only [Array.getD_eq_getD_getElem?] at hl ⊢
        rw [Array.getElem?_eq_getElem (by omega)] at hl ⊢
        simpa using hl, ops[i], Array.getElem?_eq_getElem hi, fun e he hbd => ih e.on (hlow i _ (Array.getElem?_eq_getElem hi) e he hbd) (by have := hlow i _ (Array.getElem?_eq_getElem hi) e he hbd; omega)⟩
      rw [h] at hm
      cases hm

theorem wpAny_facts (hok : regOk ops sup bef base = true) (C : World → Prop) (F : Nat → (Nat → Value) → World → Prop)
    (hstep : StepsF P Q sup bef base a C F 0 ops.toList)
    (hend : ∀ T W, T.size = a.tmps.size → (∀ s ∈ base, T.getD s undef = a.tmps.getD s undef) → C W → (∀ i, i < ops.size → F i (mask (sup.getD i []) T) W) → Q .normal { a with tmps := T } W) :
    ∀ (fuel : Nat) (L : Array Bool) (T : Array Value) (W : World), InvF ops sup bef base a C F L T W → (L.toList.count false ≤ fuel) → wpAny P .any ops Q fuel L { a with tmps := T } W := by
  obtain ⟨hops, hbase⟩ := regOk_spec hok
  have hlow := fun i o ho => (hops i o ho).2.1
  have fin : ∀ L T W, InvF ops sup bef base a C F L T W → Region.ready .any ops L = [] → Q .normal { a with tmps := T } W := fun L T W I hr => hend T W I.size I.same I.c (fun i hi => I.fact i (ready_nil_all I.lsz hlow hr i hi))
  intro fuel
  induction fuel with
  | zero =>
    intro L T W I hf
    have hr : Region.ready .any ops L = [] := by
      apply List.eq_nil_iff_forall_not_mem.2
      intro j hj
      obtain ⟨h1, o, ho, _⟩ := mem_ready.1 hj
      have hjl : j < L.size := by rw [I.lsz]; exact (Array.getElem?_eq_some_iff.1 ho).1
      have : false ∈ L.toList := by
        simp only [Array.getD_eq_getD_getElem?] at h1
        rw [Array.getElem?_eq_getElem hjl] at h1
        simp only [Option.getD_some] at h1
        rw [← h1]
        simp
      have := List.count_pos_iff.2 this
      omega
    exact ⟨hr, fin L T W I hr⟩
  | succ fuel ih =>
    intro L T W I hf
    refine ⟨fin L T W I, fun i hi => ?_⟩
    obtain ⟨h1, o, ho, hall⟩ := mem_ready.1 hi
    have hil : i < L.size := by rw [I.lsz]; exact (Array.getElem?_eq_some_iff.1 ho).1
    have hlf : L.getD i false = false := by
      simp only [Array.getD_eq_getD_getElem?] at h1 ⊢
      rw [Array.getElem?_eq_getElem hil] at h1 ⊢
      simpa using h1
    obtain ⟨hg, hlo, hbf, hsp⟩ := hops i o ho
    have hbef : ∀ j ∈ bef.getD i [], L.getD j false = true := fun j hj => by
      obtain ⟨e, he, hb, q⟩ := hbf j hj
      have he' := hall e he hb
      rcases q with rfl | q
      · exact he'
      · exact I.down e.on he' j q
    have hs : StepF P Q sup bef base a C F i o := by
      have := hstep.get i o (by simpa using ho)
      simpa using this
    refine wpOp_step ho (fun K' hK => ?_)
    rw [if_pos (by simp [Region.wanted, hg])]
    refine hs T W I.size I.same I.c (fun j hj => I.fact j (hbef j hj)) K' (fun v W' hc hkeep hnew => hK _ _ ?_)
    have hnotin : ∀ k, L.getD k false = true → k ≠ i := fun k hk e => by subst e; rw [hlf] at hk; cases hk
    have hput : (Act.put { a with tmps := T } o.dst v) = { a with tmps := (Act.put { a with tmps := T } o.dst v).tmps } := by
      unfold Act.put; cases o.dst <;> rfl
    have hslot : ∀ s, o.dst ≠ some s → (Act.put { a with tmps := T } o.dst v).tmps.getD s undef = T.getD s undef := fun s hd => by
      cases hdd : o.dst with
      | none => rfl
      | some d => exact getD_set_val T d s v (fun e => hd (by rw [hdd, e]))
    rw [hput]
    refine ih _ _ W' ⟨?_, ?_, hc, by simpa using I.lsz, ?_, ?_⟩ ?_
    · rw [← I.size]; cases hdd : o.dst <;> simp [Act.put]
    · intro s hsb
      rw [hslot s (hbase s hsb i o ho)]
      exact I.same s hsb
    · intro k hk j hj
      rw [getD_set_bool L i k hil] at hk
      rw [getD_set_bool L i j hil]
      by_cases hki : k = i
      · subst hki
        rw [hbef j hj]; simp
      · rw [if_neg hki] at hk
        rw [I.down k hk j hj]; simp
    · intro k hk
      rw [getD_set_bool L i k hil] at hk
      by_cases hki : k = i
      · subst hki; exact hnew
      · rw [if_neg hki] at hk
        have hF := hkeep k _ hki (I.fact k hk)
        have hmk : mask (sup.getD k []) (Act.put { a with tmps := T } o.dst v).tmps = mask (sup.getD k []) T := by
          funext s
          unfold mask
          by_cases hsup : s ∈ sup.getD k []
          · rw [if_pos (List.contains_iff_mem.2 hsup), if_pos (List.contains_iff_mem.2 hsup)]
            refine hslot s (fun hd => ?_)
            have hko : k < ops.size := by
              rw [← I.lsz]
              apply Classical.byContradiction
              intro hn
              simp only [Array.getD_eq_getD_getElem?] at hk
              rw [Array.getElem?_eq_none (by omega)] at hk
              cases hk
            rcases (hops k _ (Array.getElem?_eq_getElem hko)).2.2.2 s hsup i o ho hd with q | q
            · exact hki q.symm
            · have := I.down k hk i q
              rw [hlf] at this
              cases this
          · rw [if_neg (fun q => hsup (List.contains_iff_mem.1 q)), if_neg (fun q => hsup (List.contains_iff_mem.1 q))]
        rw [hmk]; exact hF
    · have hset : (L.setIfInBounds i true).toList = L.toList.set i true := by simp
      rw [hset]
      have hct : (L.toList.set i true).count false + 1 = L.toList.count false := by
        have hx : L.toList[i]'(by simpa using hil) = false := by
          simp only [Array.getD_eq_getD_getElem?] at hlf
          rw [Array.getElem?_eq_getElem hil] at hlf
          simpa using hlf
        rw [List.count_set (by simpa using hil)]
        have hpos : 0 < L.toList.count false := List.count_pos_iff.2 (by rw [← hx]; exact List.getElem_mem _)
        rw [hx]
        simp only [beq_self_eq_true, if_true, show (true == false) = false from rfl, Bool.false_eq_true, if_false]
        omega
      omega

theorem wp_region_facts {id : Nat} {w : World} (hm : P.follows .mixedOrders = true) (sup bef : List (List Nat)) (base : List Nat) (hok : regOk ops sup bef base = true) (C : World → Prop) (F : Nat → (Nat → Value) → World → Prop) (hC : C w.drew)
    (hstep : StepsF P Q sup bef base a C F 0 ops.toList)
    (hend : ∀ T W, T.size = a.tmps.size → (∀ s ∈ base, T.getD s undef = a.tmps.getD s undef) → C W → (∀ i, i < ops.size → F i (mask (sup.getD i []) T) W) → Q .normal { a with tmps := T } W) :
    (Code.region id ops true).wp P Q a w := by
  refine wp_region_any hm ?_
  have := wpAny_facts hok C F hstep hend ops.size (Array.replicate ops.size false) a.tmps w.drew ⟨rfl, fun _ _ => rfl, hC, by simp, fun i hi => ?_, fun i hi => ?_⟩ (by simp)
  · exact this
  all_goals (
    exfalso
    simp only [Array.getD_eq_getD_getElem?] at hi
    rw [Array.getElem?_replicate] at hi
    split at hi <;> simp at hi)
end
end Go.Proofs.YtophgbjbinaekaaGreatDoor

/- A region that draws its order and whose last operation (a store, as a rule) waits for all others: walked once by facts; behind the last another thing holds of the world than ahead of it. -/
namespace Go.Proofs.YtophgbjbinaekaaGreatDoor
open Go.RowKit
section
variable {P : Program} {ops : Array Oper} {Q : Exit → Act → World → Prop} {sup bef : List (List Nat)} {base : List Nat} {a : Act}
def lastOk (ops : Array Oper) (bef : List (List Nat)) (z : Nat) : Bool := decide (z < ops.size) && (List.range ops.size).all fun i => decide (i = z) || (bef.getD z []).contains i
theorem lastOk_spec {z : Nat} (h : lastOk ops bef z = true) : z < ops.size ∧ ∀ i, i < ops.size → i ≠ z → i ∈ bef.getD z [] := by
  unfold lastOk at h
  rw [Bool.and_eq_true, List.all_eq_true] at h
  refine ⟨by simpa using h.1, fun i hi hne => ?_⟩
  have := h.2 i (List.mem_range.2 hi)
  rw [Bool.or_eq_true] at this
  rcases this with q | q
  · exact (hne (by simpa using q)).elim
  · exact List.contains_iff_mem.1 q
def StepZ (P : Program) (Q : Exit → Act → World → Prop) (sup bef : List (List Nat)) (base : List Nat) (a : Act) (z : Nat) (C0 C1 : World → Prop) (F : Nat → (Nat → Value) → World → Prop) (i : Nat) (o : Oper) : Prop :=
  ∀ (T : Array Value) (W : World), T.size = a.tmps.size → (∀ s ∈ base, T.getD s undef = a.tmps.getD s undef) → C0 W → (∀ j ∈ bef.getD i [], F j (mask (sup.getD j []) T) W) →
    ∀ K : Act → World → Prop, Shut (∀ v W', (if i = z then C1 W' else C0 W') → (∀ j t, j ≠ i → F j t W → F j t W') → F i (mask (sup.getD i []) (Act.put { a with tmps := T } o.dst v).tmps) W' → K (Act.put { a with tmps := T } o.dst v) W') →
      Oper.wp P o { a with tmps := T } W K Q
def StepsZ (P : Program) (Q : Exit → Act → World → Prop) (sup bef : List (List Nat)) (base : List Nat) (a : Act) (z : Nat) (C0 C1 : World → Prop) (F : Nat → (Nat → Value) → World → Prop) : Nat → List Oper → Prop
  | _, [] => True
  | i, o :: l => StepZ P Q sup bef base a z C0 C1 F i o ∧ StepsZ P Q sup bef base a z C0 C1 F (i + 1) l
theorem StepsZ.get {z : Nat} {C0 C1 : World → Prop} {F : Nat → (Nat → Value) → World → Prop} : ∀ {l : List Oper} {i : Nat}, StepsZ P Q sup bef base a z C0 C1 F i l → ∀ j o, l[j]? = some o → StepZ P Q sup bef base a z C0 C1 F (i + j) o
  | [], _, _, j, o, h => by simp at h
  | o' :: l, i, hs, 0, o, h => by simp at h; subst h; exact hs.1
  | o' :: l, i, hs, j + 1, o, h => by
    have := StepsZ.get hs.2 j o (by simpa using h)
    rwa [show i + 1 + j = i + (j + 1) by omega] at this
structure InvZ (ops : Array Oper) (sup bef : List (List Nat)) (base : List Nat) (a : Act) (z : Nat) (C0 C1 : World → Prop) (F : Nat → (Nat → Value) → World → Prop) (L : Array Bool) (T : Array Value) (W : World) : Prop where
  size : T.size = a.tmps.size
  same : ∀ s ∈ base, T.getD s undef = a.tmps.getD s undef
  c0 : L.getD z false = false → C0 W
  c1 : L.getD z false = true → C1 W
  lsz : L.size = ops.size
  down : ∀ i, L.getD i false = true → ∀ j ∈ bef.getD i [], L.getD j false = true
  fact : ∀ i, L.getD i false = true → F i (mask (sup.getD i []) T) W
theorem wpAny_last (hok : regOk ops sup bef base = true) (z : Nat) (hz : ∀ i, i < ops.size → i ≠ z → i ∈ bef.getD z []) (C0 C1 : World → Prop) (F : Nat → (Nat → Value) → World → Prop)
    (hstep : StepsZ P Q sup bef base a z C0 C1 F 0 ops.toList)
    (hend : ∀ T W, T.size = a.tmps.size → (∀ s ∈ base, T.getD s undef = a.tmps.getD s undef) → (if z < ops.size then C1 W else C0 W) → (∀ i, i < ops.size → F i (mask (sup.getD i []) T) W) → Q .normal { a with tmps := T } W) :
    ∀ (fuel : Nat) (L : Array Bool) (T : Array Value) (W : World), InvZ ops sup bef base a z C0 C1 F L T W → (L.toList.count false ≤ fuel) → wpAny P .any ops Q fuel L { a with tmps := T } W := by
  obtain ⟨hops, hbase⟩ := regOk_spec hok
  have hlow := fun i o ho => (hops i o ho).2.1
  have fin : ∀ L T W, InvZ ops sup bef base a z C0 C1 F L T W → Region.ready .any ops L = [] → Q .normal { a with tmps := T } W := fun L T W I hr => hend T W I.size I.same (by
    by_cases q : z < ops.size
    · rw [if_pos q]; exact I.c1 (ready_nil_all I.lsz hlow hr z q)
    · rw [if_neg q]; refine I.c0 ?_; simp only [Array.getD_eq_getD_getElem?]; rw [Array.getElem?_eq_none (by rw [I.lsz]; omega)]; rfl) (fun i hi => I.fact i (ready_nil_all I.lsz hlow hr i hi))
  intro fuel
  induction fuel with
  | zero =>
    intro L T W I hf
    have hr : Region.ready .any ops L = [] := by
      apply List.eq_nil_iff_forall_not_mem.2
      intro j hj
      obtain ⟨h1, o, ho, _⟩ := mem_ready.1 hj
      have hjl : j < L.size := by rw [I.lsz]; exact (Array.getElem?_eq_some_iff.1 ho).1
      have : false ∈ L.toList := by
        simp only [Array.getD_eq_getD_getElem?] at h1
        rw [Array.getElem?_eq_getElem hjl] at h1
        simp only [Option.getD_some] at h1
        rw [← h1]
        simp
      have := List.count_pos_iff.2 this
      omega
    exact ⟨hr, fin L T W I hr⟩
  | succ fuel ih =>
    intro L T W I hf
    refine ⟨fin L T W I, fun i hi => ?_⟩
    obtain ⟨h1, o, ho, hall⟩ := mem_ready.1 hi
    have hil : i < L.size := by rw [I.lsz]; exact (Array.getElem?_eq_some_iff.1 ho).1
    have hlf : L.getD i false = false := by
      simp only [Array.getD_eq_getD_getElem?] at h1 ⊢
      rw [Array.getElem?_eq_getElem hil] at h1 ⊢
      simpa using h1
    obtain ⟨hg, hlo, hbf, hsp⟩ := hops i o ho
    have hbef : ∀ j ∈ bef.getD i [], L.getD j false = true := fun j hj => by
      obtain ⟨e, he, hb, q⟩ := hbf j hj
      have he' := hall e he hb
      rcases q with rfl | q
      · exact he'
      · exact I.down e.on he' j q
    have hz0 : L.getD z false = false := by
      cases hq : L.getD z false with
      | false => rfl
      | true =>
        exfalso
        by_cases e : i = z
        · subst e; rw [hlf] at hq; cases hq
        · have := I.down z hq i (hz i (by rw [← I.lsz]; exact hil) e)
          rw [hlf] at this; cases this
    have hs : StepZ P Q sup bef base a z C0 C1 F i o := by
      have := hstep.get i o (by simpa using ho)
      simpa using this
    refine wpOp_step ho (fun K' hK => ?_)
    rw [if_pos (by simp [Region.wanted, hg])]
    refine hs T W I.size I.same (I.c0 hz0) (fun j hj => I.fact j (hbef j hj)) K' (fun v W' hc hkeep hnew => hK _ _ ?_)
    have hnotin : ∀ k, L.getD k false = true → k ≠ i := fun k hk e => by subst e; rw [hlf] at hk; cases hk
    have hput : (Act.put { a with tmps := T } o.dst v) = { a with tmps := (Act.put { a with tmps := T } o.dst v).tmps } := by
      unfold Act.put; cases o.dst <;> rfl
    have hslot : ∀ s, o.dst ≠ some s → (Act.put { a with tmps := T } o.dst v).tmps.getD s undef = T.getD s undef := fun s hd => by
      cases hdd : o.dst with
      | none => rfl
      | some d => exact getD_set_val T d s v (fun e => hd (by rw [hdd, e]))
    rw [hput]
    refine ih _ _ W' ⟨?_, ?_, fun q => ?_, fun q => ?_, by simpa using I.lsz, ?_, ?_⟩ ?_
    · rw [← I.size]; cases hdd : o.dst <;> simp [Act.put]
    · intro s hsb
      rw [hslot s (hbase s hsb i o ho)]
      exact I.same s hsb
    · rw [getD_set_bool L i z hil] at q
      by_cases e : z = i
      · rw [if_pos e] at q; cases q
      · rw [if_neg (fun h => e h.symm)] at hc; exact hc
    · rw [getD_set_bool L i z hil] at q
      by_cases e : z = i
      · rw [if_pos e.symm] at hc; exact hc
      · rw [if_neg e, hz0] at q; cases q
    · intro k hk j hj
      rw [getD_set_bool L i k hil] at hk
      rw [getD_set_bool L i j hil]
      by_cases hki : k = i
      · subst hki
        rw [hbef j hj]; simp
      · rw [if_neg hki] at hk
        rw [I.down k hk j hj]; simp
    · intro k hk
      rw [getD_set_bool L i k hil] at hk
      by_cases hki : k = i
      · subst hki; exact hnew
      · rw [if_neg hki] at hk
        have hF := hkeep k _ hki (I.fact k hk)
        have hmk : mask (sup.getD k []) (Act.put { a with tmps := T } o.dst v).tmps = mask (sup.getD k []) T := by
          funext s
          unfold mask
          by_cases hsup : s ∈ sup.getD k []
          · rw [if_pos (List.contains_iff_mem.2 hsup), if_pos (List.contains_iff_mem.2 hsup)]
            refine hslot s (fun hd => ?_)
            have hko : k < ops.size := by
              rw [← I.lsz]
              apply Classical.byContradiction
              intro hn
              simp only [Array.getD_eq_getD_getElem?] at hk
              rw [Array.getElem?_eq_none (by omega)] at hk
              cases hk
            rcases (hops k _ (Array.getElem?_eq_getElem hko)).2.2.2 s hsup i o ho hd with q | q
            · exact hki q.symm
            · have := I.down k hk i q
              rw [hlf] at this
              cases this
          · rw [if_neg (fun q => hsup (List.contains_iff_mem.1 q)), if_neg (fun q => hsup (List.contains_iff_mem.1 q))]
        rw [hmk]; exact hF
    · have hset : (L.setIfInBounds i true).toList = L.toList.set i true := by simp
      rw [hset]
      have hct : (L.toList.set i true).count false + 1 = L.toList.count false := by
        have hx : L.toList[i]'(by simpa using hil) = false := by
          simp only [Array.getD_eq_getD_getElem?] at hlf
          rw [Array.getElem?_eq_getElem hil] at hlf
          simpa using hlf
        rw [List.count_set (by simpa using hil)]
        have hpos : 0 < L.toList.count false := List.count_pos_iff.2 (by rw [← hx]; exact List.getElem_mem _)
        rw [hx]
        simp only [beq_self_eq_true, if_true, show (true == false) = false from rfl, Bool.false_eq_true, if_false]
        omega
      omega

theorem wp_region_last {id : Nat} {w : World} (hm : P.follows .mixedOrders = true) (sup bef : List (List Nat)) (base : List Nat) (hok : regOk ops sup bef base = true) (z : Nat) (hz : lastOk ops bef z = true) (C0 C1 : World → Prop) (F : Nat → (Nat → Value) → World → Prop) (hC : C0 w.drew)
    (hstep : StepsZ P Q sup bef base a z C0 C1 F 0 ops.toList)
    (hend : ∀ T W, T.size = a.tmps.size → (∀ s ∈ base, T.getD s undef = a.tmps.getD s undef) → C1 W → (∀ i, i < ops.size → F i (mask (sup.getD i []) T) W) → Q .normal { a with tmps := T } W) :
    (Code.region id ops true).wp P Q a w := by
  refine wp_region_any hm ?_
  have := wpAny_last hok z (lastOk_spec hz).2 C0 C1 F hstep (fun T W h1 h2 h3 h4 => hend T W h1 h2 (by rwa [if_pos (lastOk_spec hz).1] at h3) h4) ops.size (Array.replicate ops.size false) a.tmps w.drew ⟨rfl, fun _ _ => rfl, fun _ => hC, fun q => by simp only [Array.getD_eq_getD_getElem?] at q; rw [Array.getElem?_replicate] at q; split at q <;> simp at q, by simp, fun i hi => ?_, fun i hi => ?_⟩ (by simp)
  · exact this
  all_goals (
    exfalso
    simp only [Array.getD_eq_getD_getElem?] at hi
    rw [Array.getElem?_replicate] at hi
    split at hi <;> simp at hi)
end
end Go.Proofs.YtophgbjbinaekaaGreatDoor

/- Lengths and sizes of leaves, leaf by leaf. -/
namespace Go.Proofs.YtophgbjbinaekaaGreatDoor
open Go.RowKit
end Go.Proofs.YtophgbjbinaekaaGreatDoor

/- The laws' own functions over Channel, on leaves. Written by gen_t.py. -/
namespace Go.Proofs.YtophgbjbinaekaaGreatDoor
open Go.RowKit

end Go.Proofs.YtophgbjbinaekaaGreatDoor

/- A disk that came in, opened: its two slices as lists. Nothing here walks. -/
namespace Go.Proofs.YtophgbjbinaekaaGreatDoor
open Go.RowKit Go.ChangeShapes Go.WideShapes

section
variable {H : Type} {enc : TypeId × Value → H} {P : Program} {w : World} {spare : Nat → Bool} {held : Bool}

theorem getD_range {α : Type} (n : Nat) (f : Nat → α) (d : α) (i : Nat) (h : i < n) : ((List.range n).map f).getD i d = f i := by
  simp [List.getD_eq_getElem?_getD, h]

theorem add_plain {a : Addr} {b off i : Nat} {v : Value} (h : w.cell? (a.add i) = some v) (ha : a = ⟨b, off, none⟩) : w.cell? ⟨b, off + i, none⟩ = some v := by
  subst ha
  unfold Addr.add at h
  by_cases hi : i = 0
  · subst hi; simpa using h
  · rw [if_neg hi] at h; exact h

theorem open_ints64 {t e : TypeId} {fuel : Nat} {v : Value} {x : DataW H × List MemPlace} (ht : P.underlying t = some (.slice e)) (he : P.underlying e = some (.int .i64)) (hce : P.cellsOf e = 1)
    (h : DataW.trod enc P w 0 spare held fuel t [v] = some x) :
    ∃ A n c, ∃ zs : List Int, v = .slice A n c ∧ zs.length = n ∧ n ≤ maxLen ∧ IntL w A zs ∧ ∀ z ∈ zs, (Lit.int .i64 z).wf = true := by
  rcases Deep.open_slice1 ht hce h with ⟨hcs, _⟩ | ⟨a, len, cap, m, k, V, D, Pl, hcs, _, hl, hm, hmm, _, hx⟩
  · injection hcs with hv _
    exact ⟨none, 0, 0, [], hv, rfl, by unfold maxLen; omega, fun i hi => by simp at hi, fun s hs => by simp at hs⟩
  · injection hcs with hv _
    have hlm : len ≤ m := by rw [hmm]; split <;> omega
    obtain ⟨S, hS⟩ := Deep.choose_lt (n := len) (p := fun i (s : Int) => w.cell? (a.add i) = some (.int .i64 s) ∧ (Lit.int .i64 s).wf = true) (fun i hi => by
      obtain ⟨h1, h2⟩ := hx i (by omega)
      obtain ⟨s, hc, _, hs⟩ := DataW.trod_int he h2
      injection hc with hc _
      exact ⟨s, by rw [← hc]; exact h1, hs⟩)
    refine ⟨some a, len, cap, (List.range len).map S, hv, by simp, by omega, fun i hi => ?_, fun s hs => ?_⟩
    · have hi' : i < len := by simpa using hi
      have h0 := (hS 0 (by omega)).1
      have hsp := World.cell?_spot h0
      obtain ⟨b, off, spot⟩ := a
      have hsp' : spot = none := by simpa [Addr.add] using hsp
      subst hsp'
      exact ⟨b, off, rfl, by rw [getD_range len S _ i hi']; exact add_plain (hS i hi').1 rfl⟩
    · obtain ⟨i, hi, rfl⟩ := List.mem_map.1 hs
      exact (hS i (by simpa using hi)).2
end

set_option maxRecDepth 100000 in
theorem cellsInt : Tryz.prog.cellsOf 3 = 1 := by kernel_rfl
end Go.Proofs.YtophgbjbinaekaaGreatDoor

/- Slices of Channel: rows of 4 cells, as lists; the laws' own functions over them. Written by gen_r.py. -/
namespace Go.Proofs.YtophgbjbinaekaaGreatDoor
open Go.RowKit Go.ChangeShapes Go.WideShapes

abbrev TChannel := Int × Int × Int × Int
def zChannel : TChannel := (0, 0, 0, 0)
def rowChannel (x : TChannel) : List Value := [.int .i64 (x.1), .int .i64 (x.2.1), .int .i64 (x.2.2.1), .int .i64 (x.2.2.2)]
theorem rowChannel_at (rs : List TChannel) (i : Nat) (h : i < rs.length) : (rs.map rowChannel).getD i [] = rowChannel (rs.getD i zChannel) := by
  simp [List.getD_eq_getElem?_getD, h]
def RowChannel (w : World) (A : Option Addr) (rs : List TChannel) : Prop := RowL w A 4 (rs.map rowChannel)
theorem RowChannel.below {w w' : World} {A : Option Addr} {rs : List TChannel} (h : RowChannel w A rs) (hb : Below w.heap.size w w') : RowChannel w' A rs := RowL.below h hb
theorem RowChannel.at {w : World} {A : Option Addr} {rs : List TChannel} (h : RowChannel w A rs) (i : Nat) (hi : i < rs.length) : ∃ b off, A = some ⟨b, off, none⟩ ∧ w.cell? ⟨b, off + i * 4, none⟩ = some (.int .i64 (rs.getD i zChannel).1) ∧ w.cell? ⟨b, off + i * 4 + 1, none⟩ = some (.int .i64 (rs.getD i zChannel).2.1) ∧ w.cell? ⟨b, off + i * 4 + 2, none⟩ = some (.int .i64 (rs.getD i zChannel).2.2.1) ∧ w.cell? ⟨b, off + i * 4 + 3, none⟩ = some (.int .i64 (rs.getD i zChannel).2.2.2) := by
  have hr := rowChannel_at rs i hi
  obtain ⟨b0, o0, e0, h0⟩ := h i (by simpa using hi) 0 (by decide)
  rw [hr] at h0
  obtain ⟨b1, o1, e1, h1⟩ := h i (by simpa using hi) 1 (by decide)
  rw [hr] at h1
  obtain ⟨b2, o2, e2, h2⟩ := h i (by simpa using hi) 2 (by decide)
  rw [hr] at h2
  obtain ⟨b3, o3, e3, h3⟩ := h i (by simpa using hi) 3 (by decide)
  rw [hr] at h3
  subst e0
  injection e1 with e1
  injection e1 with p1 q1 _
  subst p1 q1
  injection e2 with e2
  injection e2 with p2 q2 _
  subst p2 q2
  injection e3 with e3
  injection e3 with p3 q3 _
  subst p3 q3
  exact ⟨b0, o0, rfl, h0, h1, h2, h3⟩
end Go.Proofs.YtophgbjbinaekaaGreatDoor

/- The laws' own functions over Timer, on leaves. Written by gen_t.py. -/
namespace Go.Proofs.YtophgbjbinaekaaGreatDoor
open Go.RowKit

end Go.Proofs.YtophgbjbinaekaaGreatDoor
