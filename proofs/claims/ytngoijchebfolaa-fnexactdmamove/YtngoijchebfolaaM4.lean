/- Texts of this claim, one behind the other: GenFlash, GenMem, MemOk, CloneI, BusOf, ChipRead, BusDev. -/
import Derived.Lib.SliceRun
import Derived.Deep.RegionHeld3
import Derived.Handy
import Derived.Test.YtngoijchebfolaaM3
/- The laws' own functions over Flash, on leaves. Written by gen_t.py. -/
namespace Go.Proofs.Ytngoijchebfolaa
open Go.RowKit

set_option maxRecDepth 100000 in
set_option maxHeartbeats 2000000 in
theorem szFlashA (vA0 vA1 : Option Addr) (vc0 vc1 : Nat) (d0 : List Int) (d1 : List Bool) (d2 : Int) (left : Int) (w : World) (h : RepA w [.slice vA0 d0.length vc0, .slice vA1 d1.length vc1] [Lf.I d0, Lf.B d1]) (hf : FitA [Lf.I d0, Lf.B d1]) (h0 : 0 ≤ left) (h1 : left ≤ 1048576) :
    Calls Try.prog 57 #[.agg #[.slice vA0 d0.length vc0, .slice vA1 d1.length vc1, .int .i64 d2], .int .i64 left] w (Left left (szA [Lf.I d0, Lf.B d1]) w) := by
  have H0 := Lib.hid (fun W (hb : Below w.heap.size w W) l g0 g1 => szLI (.slice vA0 d0.length vc0) d0 l W ((h.below hb).1) (hf _ (by simp)) g0 g1)
  have H1 := Lib.hid (fun W (hb : Below w.heap.size w W) l g0 g1 => szLB (.slice vA1 d1.length vc1) d1 l W ((h.below hb).2.1) (hf _ (by simp)) g0 g1)
  have HR : Hid (szA [Lf.I d0, Lf.B d1] = (Lf.sz (Lf.I d0)) + (Lf.sz (Lf.B d1))) := Lib.hid (by simp only [szA]; omega)
  generalize szA [Lf.I d0, Lf.B d1] = sa at HR ⊢
  generalize (Lf.sz (Lf.I d0)) = z0 at HR H0
  generalize (Lf.sz (Lf.B d1)) = z1 at HR H1
  have hb0 := alloc_below w (.cells #[.slice vA0 d0.length vc0, .slice vA1 d1.length vc1, .int .i64 d2] 45)
  have X := Lib.hid (Box.new w 45 #[.slice vA0 d0.length vc0, .slice vA1 d1.length vc1, .int .i64 d2])
  clear h hf
  go_enter Try.func57, Try.ntmps57
  go_wp2_with fail
  refine (H0.out _ hb0 _ (by omega) (by omega)).mono ?_
  rintro e w1 ⟨hres, hc1⟩
  have X1 := Lib.hid (X.out.step hc1)
  have hb1 := bt hb0 hc1
  clear X hb0 hc1
  rcases hres with rfl | ⟨rfl, hle0⟩
  · go_wp2
    go_ret
    exact ⟨.inl rfl, hb1⟩
  have hp0 : ¬ left - (z0 : Int) < 0 := by omega
  have f1 := X1.out.cell 1 rfl
  go_wp2_with fail
  refine (H1.out _ hb1 _ (by omega) (by omega)).mono ?_
  rintro e w2 ⟨hres, hc2⟩
  have X2 := Lib.hid (X1.out.step hc2)
  have hb2 := bt hb1 hc2
  clear X1 hb1 hc2 f1
  rcases hres with rfl | ⟨rfl, hle1⟩
  · go_wp2
    go_ret
    exact ⟨.inl rfl, hb2⟩
  have hp1 : ¬ left - (z0 : Int) - (z1 : Int) < 0 := by omega
  go_wp2
  go_ret
  exact ⟨.inr ⟨ret_int (by have := HR.out; omega), by have := HR.out; omega⟩, hb2⟩

set_option maxRecDepth 100000 in
set_option maxHeartbeats 4000000 in
theorem toFlashA (vA0 vA1 : Option Addr) (vc0 vc1 : Nat) (d0 : List Int) (d1 : List Bool) (d2 : Int) (w : World) (h : RepA w [.slice vA0 d0.length vc0, .slice vA1 d1.length vc1] [Lf.I d0, Lf.B d1]) (hn : szA [Lf.I d0, Lf.B d1] ≤ 1048576) :
    Calls Try.prog 62 #[.agg #[.slice vA0 d0.length vc0, .slice vA1 d1.length vc1, .int .i64 d2]] w (fun e w' => ∃ uA0 uA1 uc0 uc1, e = .returned (.agg #[.slice uA0 d0.length uc0, .slice uA1 d1.length uc1, .int .i64 d2]) ∧ Hid (OwnA w' w.heap.size w'.heap.size [.slice uA0 d0.length uc0, .slice uA1 d1.length uc1] [Lf.I d0, Lf.B d1]) ∧ Hid (CapA [.slice uA0 d0.length uc0, .slice uA1 d1.length uc1]) ∧ Below w.heap.size w w') := by
  obtain ⟨W0, hW0⟩ : ∃ W0, W0 = (((w.alloc (.cells #[.slice vA0 d0.length vc0, .slice vA1 d1.length vc1, .int .i64 d2] 45)).alloc (.cells #[.slice none 0 0, .slice none 0 0, .int .i64 0] 26)).alloc (.cells #[.slice none 0 0, .slice none 0 0, .int .i64 0] 26)) := ⟨_, rfl⟩
  have hs0 : W0.heap.size = w.heap.size + 1 + 1 + 1 := by rw [hW0]; simp
  have hb0 : Below w.heap.size w W0 := by rw [hW0]; exact (((Below.refl _ _).alloc (Nat.le_refl _) _).alloc (by simp) _).alloc (by simp; omega) _
  have X0 : Hid (Box W0 w.heap.size 45 #[.slice vA0 d0.length vc0, .slice vA1 d1.length vc1, .int .i64 d2]) := Lib.hid (by rw [hW0]; exact ((Box.new _ _ _).alloc _).alloc _)
  have Y0 : Hid (Box W0 (w.heap.size + 1) 26 #[.slice none 0 0, .slice none 0 0, .int .i64 0]) := Lib.hid (by rw [hW0]; simpa using (Box.new (w.alloc (.cells #[.slice vA0 d0.length vc0, .slice vA1 d1.length vc1, .int .i64 d2] 45)) 26 #[.slice none 0 0, .slice none 0 0, .int .i64 0]).alloc (.cells #[.slice none 0 0, .slice none 0 0, .int .i64 0] 26))
  have Z0 : Hid (Box W0 (w.heap.size + 1 + 1) 26 #[.slice none 0 0, .slice none 0 0, .int .i64 0]) := Lib.hid (by rw [hW0]; simpa using Box.new ((w.alloc (.cells #[.slice vA0 d0.length vc0, .slice vA1 d1.length vc1, .int .i64 d2] 45)).alloc (.cells #[.slice none 0 0, .slice none 0 0, .int .i64 0] 26)) 26 #[.slice none 0 0, .slice none 0 0, .int .i64 0])
  have O0 : Hid (OwnA W0 (w.heap.size + 3) W0.heap.size [] []) := Lib.hid (OwnA.nil _ _ _)
  have H0 := Lib.hid (fun W (hb : Below w.heap.size w W) => toLI (.slice vA0 d0.length vc0) d0 W ((h.below hb).1) (by simp only [szA, Lf.sz] at hn; omega))
  have H1 := Lib.hid (fun W (hb : Below w.heap.size w W) => toLB (.slice vA1 d1.length vc1) d1 W ((h.below hb).2.1) (by simp only [szA, Lf.sz] at hn; omega))
  have HW0 := Lib.hid hW0
  have HS0 := Lib.hid hs0
  clear h hn hW0 hs0
  go_enter Try.func62, Try.ntmps62
  go_wp2_with fail
  rw [← HW0.out]
  refine (H0.out _ hb0).mono ?_
  rintro e w1 ⟨uA0, uc0, rfl, N1, K0, hc⟩
  have hq0 : w.heap.size + 3 ≤ W0.heap.size := by have := Z0.out.lt; omega
  have X1 := Lib.hid (X0.out.step hc)
  have Y1 := Lib.hid (Y0.out.step hc)
  have Z1 := Lib.hid (Z0.out.step hc)
  have O1 : Hid (OwnA w1 (w.heap.size + 3) w1.heap.size [.slice uA0 d0.length uc0] [Lf.I d0]) := Lib.hid ((O0.out.below hc).append (OwnA.one N1.out) (.inl (Nat.le_refl _)) (Nat.le_refl _) hq0 hc.size (Nat.le_refl _))
  have hb1 := bt hb0 hc
  clear X0 Y0 Z0 O0 hb0 hc N1 hq0 HW0 HS0
  have fa1 := X1.out.cell 1 rfl
  have fz0 := Z1.out.cell 0 rfl
  have gz0 := Z1.out.frozen 0
  go_wp2_with fail
  obtain ⟨V1, hV1⟩ : ∃ V1, V1 = (w1.setCell ⟨w.heap.size + 1 + 1, 0, none⟩ (.slice uA0 d0.length uc0)) := ⟨_, rfl⟩
  have X2 : Hid (Box V1 w.heap.size 45 #[.slice vA0 d0.length vc0, .slice vA1 d1.length vc1, .int .i64 d2]) := Lib.hid (by rw [hV1]; exact (X1.out.far (p := ⟨w.heap.size + 1 + 1, 0, none⟩) (by show w.heap.size ≠ w.heap.size + 1 + 1; omega) (.slice uA0 d0.length uc0)))
  have Y2 : Hid (Box V1 (w.heap.size + 1) 26 #[.slice none 0 0, .slice none 0 0, .int .i64 0]) := Lib.hid (by rw [hV1]; exact (Y1.out.far (p := ⟨w.heap.size + 1 + 1, 0, none⟩) (by show w.heap.size + 1 ≠ w.heap.size + 1 + 1; omega) (.slice uA0 d0.length uc0)))
  have Z2 : Hid (Box V1 (w.heap.size + 1 + 1) 26 #[.slice uA0 d0.length uc0, .slice none 0 0, .int .i64 0]) := Lib.hid (by rw [hV1]; exact (Z1.out.set 0 (.slice uA0 d0.length uc0)))
  have hsz2 : V1.heap.size = w1.heap.size := by rw [hV1]; simp [World.setCell]
  have O2 : Hid (OwnA V1 (w.heap.size + 3) V1.heap.size [.slice uA0 d0.length uc0] [Lf.I d0]) := Lib.hid (by rw [hsz2, hV1]; exact (O1.out.set (p := ⟨w.heap.size + 1 + 1, 0, none⟩) (by show w.heap.size + 1 + 1 < w.heap.size + 3; omega) (.slice uA0 d0.length uc0)))
  have hb2 : Below w.heap.size w V1 := by rw [hV1]; exact (hb1.setCell (p := ⟨w.heap.size + 1 + 1, 0, none⟩) (by show w.heap.size ≤ w.heap.size + 1 + 1; omega) (.slice uA0 d0.length uc0))
  rw [← hV1]
  clear X1 Y1 Z1 O1 hb1 hV1 hsz2 fa1 fz0 gz0
  refine (H1.out _ hb2).mono ?_
  rintro e w2 ⟨uA1, uc1, rfl, N1, K1, hc⟩
  have hq0 : w.heap.size + 3 ≤ V1.heap.size := by have := Z2.out.lt; omega
  have X3 := Lib.hid (X2.out.step hc)
  have Y3 := Lib.hid (Y2.out.step hc)
  have Z3 := Lib.hid (Z2.out.step hc)
  have O3 : Hid (OwnA w2 (w.heap.size + 3) w2.heap.size [.slice uA0 d0.length uc0, .slice uA1 d1.length uc1] [Lf.I d0, Lf.B d1]) := Lib.hid ((O2.out.below hc).append (OwnA.one N1.out) (.inl (Nat.le_refl _)) (Nat.le_refl _) hq0 hc.size (Nat.le_refl _))
  have hb3 := bt hb2 hc
  clear X2 Y2 Z2 O2 hb2 hc N1 hq0
  have fa2 := X3.out.cell 2 rfl
  have fz1 := Z3.out.cell 1 rfl
  have gz1 := Z3.out.frozen 1
  have fz2 := Z3.out.cell 2 rfl
  have gz2 := Z3.out.frozen 2
  have fz0 := Z3.out.cell 0 rfl
  have fy0 := Y3.out.cell 0 rfl
  have gy0 := Y3.out.frozen 0
  have fy1 := Y3.out.cell 1 rfl
  have gy1 := Y3.out.frozen 1
  have fy2 := Y3.out.cell 2 rfl
  have gy2 := Y3.out.frozen 2
  go_wp2
  refine bodyPost_ret (v := .agg #[.slice uA0 d0.length uc0, .slice uA1 d1.length uc1, .int .i64 d2]) (by simp [results, Try.results62, go_sem, fy0, fy1, fy2]) rfl ?_
  refine ⟨uA0, uA1, uc0, uc1, rfl, Lib.hid (((((((O3.out.set (p := ⟨w.heap.size + 1 + 1, 1, none⟩) (by show w.heap.size + 1 + 1 < w.heap.size + 3; omega) _).set (p := ⟨w.heap.size + 1 + 1, 2, none⟩) (by show w.heap.size + 1 + 1 < w.heap.size + 3; omega) _).set (p := ⟨w.heap.size + 1, 0, none⟩) (by show w.heap.size + 1 < w.heap.size + 3; omega) _).set (p := ⟨w.heap.size + 1, 1, none⟩) (by show w.heap.size + 1 < w.heap.size + 3; omega) _).set (p := ⟨w.heap.size + 1, 2, none⟩) (by show w.heap.size + 1 < w.heap.size + 3; omega) _)).wide (by omega) (by simp [World.setCell])), Lib.hid (CapA.cons K0.out (CapA.cons K1.out CapA.nil)), (((((hb3.setCell (p := ⟨w.heap.size + 1 + 1, 1, none⟩) (by show w.heap.size ≤ w.heap.size + 1 + 1; omega) _).setCell (p := ⟨w.heap.size + 1 + 1, 2, none⟩) (by show w.heap.size ≤ w.heap.size + 1 + 1; omega) _).setCell (p := ⟨w.heap.size + 1, 0, none⟩) (by show w.heap.size ≤ w.heap.size + 1; omega) _).setCell (p := ⟨w.heap.size + 1, 1, none⟩) (by show w.heap.size ≤ w.heap.size + 1; omega) _).setCell (p := ⟨w.heap.size + 1, 2, none⟩) (by show w.heap.size ≤ w.heap.size + 1; omega) _)⟩

set_option maxRecDepth 100000 in
set_option maxHeartbeats 4000000 in
theorem eqFlashA (vA0 vA1 : Option Addr) (vc0 vc1 : Nat) (uA0 uA1 : Option Addr) (uc0 uc1 : Nat) (d0 : List Int) (d1 : List Bool) (d2 : Int) (w : World) (h : RepA w [.slice vA0 d0.length vc0, .slice vA1 d1.length vc1] [Lf.I d0, Lf.B d1]) (h' : RepA w [.slice uA0 d0.length uc0, .slice uA1 d1.length uc1] [Lf.I d0, Lf.B d1]) (hn : lenA [Lf.I d0, Lf.B d1] ≤ maxLen) :
    Calls Try.prog 70 #[.agg #[.slice vA0 d0.length vc0, .slice vA1 d1.length vc1, .int .i64 d2], .agg #[.slice uA0 d0.length uc0, .slice uA1 d1.length uc1, .int .i64 d2]] w fun e w' => e = .returned (.bool true) ∧ Below w.heap.size w w' := by
  have H0 := Lib.hid (fun W (hb : Below w.heap.size w W) => eqLI (.slice vA0 d0.length vc0) (.slice uA0 d0.length uc0) d0 W ((h.below hb).1) ((h'.below hb).1) (by simp only [lenA, Lf.len] at hn; omega))
  have H1 := Lib.hid (fun W (hb : Below w.heap.size w W) => eqLB (.slice vA1 d1.length vc1) (.slice uA1 d1.length uc1) d1 W ((h.below hb).2.1) ((h'.below hb).2.1) (by simp only [lenA, Lf.len] at hn; omega))
  obtain ⟨W0, hW0⟩ : ∃ W0, W0 = ((w.alloc (.cells #[.slice vA0 d0.length vc0, .slice vA1 d1.length vc1, .int .i64 d2] 26)).alloc (.cells #[.slice uA0 d0.length uc0, .slice uA1 d1.length uc1, .int .i64 d2] 26)) := ⟨_, rfl⟩
  have hb0 : Below w.heap.size w W0 := by rw [hW0]; exact ((Below.refl _ _).alloc (Nat.le_refl _) _).alloc (by simp) _
  have X0 : Hid (Box W0 w.heap.size 26 #[.slice vA0 d0.length vc0, .slice vA1 d1.length vc1, .int .i64 d2]) := Lib.hid (by rw [hW0]; exact (Box.new _ _ _).alloc _)
  have Y0 : Hid (Box W0 (w.heap.size + 1) 26 #[.slice uA0 d0.length uc0, .slice uA1 d1.length uc1, .int .i64 d2]) := Lib.hid (by rw [hW0]; simpa using Box.new (w.alloc (.cells #[.slice vA0 d0.length vc0, .slice vA1 d1.length vc1, .int .i64 d2] 26)) 26 #[.slice uA0 d0.length uc0, .slice uA1 d1.length uc1, .int .i64 d2])
  have HW0 := Lib.hid hW0
  have hq2 : (d2 != d2) = false := by simp
  clear hW0 h h' hn
  go_enter Try.func70, Try.ntmps70
  go_wp2_with fail
  rw [← HW0.out]
  refine (H0.out _ hb0).mono ?_
  rintro e w1 ⟨rfl, hc⟩
  have X1 := Lib.hid (X0.out.step hc)
  have Y1 := Lib.hid (Y0.out.step hc)
  have hb1 := bt hb0 hc
  clear X0 Y0 hb0 hc HW0
  have k1 := X1.out.cell 1 rfl
  have l1 := Y1.out.cell 1 rfl
  go_wp2_with fail
  refine (H1.out _ hb1).mono ?_
  rintro e w2 ⟨rfl, hc⟩
  have X2 := Lib.hid (X1.out.step hc)
  have Y2 := Lib.hid (Y1.out.step hc)
  have hb2 := bt hb1 hc
  clear X1 Y1 hb1 hc k1 l1
  have k2 := X2.out.cell 2 rfl
  have l2 := Y2.out.cell 2 rfl
  go_wp2
  go_ret
  exact ⟨rfl, hb2⟩

set_option maxRecDepth 100000 in
set_option maxHeartbeats 4000000 in
theorem markFlashA (vA0 vA1 : Option Addr) (vc0 vc1 : Nat) (d0 : List Int) (d1 : List Bool) (d2 : Int) (k lo hi : Nat) (w : World) (h : OwnA w lo hi [.slice vA0 d0.length vc0, .slice vA1 d1.length vc1] [Lf.I d0, Lf.B d1]) (hhi : hi ≤ w.heap.size) (hk : 1 ≤ k) (hB : BndA [Lf.I d0, Lf.B d1]) (hk2 : k + lenA [Lf.I d0, Lf.B d1] ≤ 549755813888) :
    Calls Try.prog 72 #[.agg #[.slice vA0 d0.length vc0, .slice vA1 d1.length vc1, .int .i64 d2], .int .i64 (k : Int)] w fun e w' => e = .returned (.int .i64 ((k + lenA [Lf.I d0, Lf.B d1] : Nat) : Int)) ∧ Hid (OwnA w' lo hi [.slice vA0 d0.length vc0, .slice vA1 d1.length vc1] (marksA k [Lf.I d0, Lf.B d1])) ∧ Touch [.slice vA0 d0.length vc0, .slice vA1 d1.length vc1] w w' := by
  have hb0 := alloc_below w (.cells #[.slice vA0 d0.length vc0, .slice vA1 d1.length vc1, .int .i64 d2] 26)
  have X0 := Lib.hid (Box.new w 26 #[.slice vA0 d0.length vc0, .slice vA1 d1.length vc1, .int .i64 d2])
  have O0 := Lib.hid (h.below hb0)
  have T0 := Lib.hid (Touch.of_below hb0 [.slice vA0 d0.length vc0, .slice vA1 d1.length vc1])
  have H0 := Lib.hid (fun W (o : OwnL W lo hi (.slice vA0 d0.length vc0) (Lf.I d0)) => markLI (.slice vA0 d0.length vc0) d0 (k) lo hi W o (by omega) (hB (Lf.I d0) (by simp)) (by simp only [lenA] at hk2 ⊢; omega))
  have H1 := Lib.hid (fun W (o : OwnL W lo hi (.slice vA1 d1.length vc1) (Lf.B d1)) => markLB (.slice vA1 d1.length vc1) d1 (k + (Lf.len (Lf.I d0))) lo hi W o (by omega) (hB (Lf.B d1) (by simp)) (by simp only [lenA] at hk2 ⊢; omega))
  have HH := Lib.hid hhi
  clear h hb0 hB hk2 hk hhi
  go_enter Try.func72, Try.ntmps72
  have G0 := OwnA.seg (a := []) (m := [.slice vA0 d0.length vc0]) (b := [.slice vA1 d1.length vc1]) (da := []) (dm := [Lf.I d0]) (db := [Lf.B d1]) O0.out rfl rfl
  have HC0 := Lib.hid (H0.out _ G0.1.1)
  clear G0
  go_wp2_with fail
  refine HC0.out.mono ?_
  rintro e w1 ⟨rfl, M0, U0⟩
  have O1 := Lib.hid (OwnA.reseg (a := []) (m := [.slice vA0 d0.length vc0]) (b := [.slice vA1 d1.length vc1]) (da := []) (dm := [Lf.I d0]) (db := [Lf.B d1]) (dm' := [(Lf.I d0).marks (k)]) O0.out rfl rfl (OwnA.one M0.out) U0)
  have T1 := Lib.hid (T0.out.chain (U0.mem (by simp +contextual)))
  have X1 : Hid (Box w1 w.heap.size 26 #[.slice vA0 d0.length vc0, .slice vA1 d1.length vc1, .int .i64 d2]) := Lib.hid (X0.out.touch (OwnA.seg (a := []) (m := [.slice vA0 d0.length vc0]) (b := [.slice vA1 d1.length vc1]) (da := []) (dm := [Lf.I d0]) (db := [Lf.B d1]) O0.out rfl rfl) U0 (.inr HH.out))
  clear X0 O0 T0 M0 U0 HC0
  have f1 := X1.out.cell 1 rfl
  have G1 := OwnA.seg (a := [.slice vA0 d0.length vc0]) (m := [.slice vA1 d1.length vc1]) (b := []) (da := [(Lf.I d0).marks (k)]) (dm := [Lf.B d1]) (db := []) O1.out rfl rfl
  have HC1 := Lib.hid (H1.out _ G1.1.1)
  clear G1
  go_wp2_with fail
  try rw [HKe1.out]
  refine HC1.out.mono ?_
  rintro e w2 ⟨rfl, M1, U1⟩
  have O2 := Lib.hid (OwnA.reseg (a := [.slice vA0 d0.length vc0]) (m := [.slice vA1 d1.length vc1]) (b := []) (da := [(Lf.I d0).marks (k)]) (dm := [Lf.B d1]) (db := []) (dm' := [(Lf.B d1).marks (k + (Lf.len (Lf.I d0)))]) O1.out rfl rfl (OwnA.one M1.out) U1)
  have T2 := Lib.hid (T1.out.chain (U1.mem (by simp +contextual)))
  have X2 : Hid (Box w2 w.heap.size 26 #[.slice vA0 d0.length vc0, .slice vA1 d1.length vc1, .int .i64 d2]) := Lib.hid (X1.out.touch (OwnA.seg (a := [.slice vA0 d0.length vc0]) (m := [.slice vA1 d1.length vc1]) (b := []) (da := [(Lf.I d0).marks (k)]) (dm := [Lf.B d1]) (db := []) O1.out rfl rfl) U1 (.inr HH.out))
  clear X1 O1 T1 M1 U1 HC1 f1
  go_wp2
  go_ret
  refine ⟨?_, Lib.hid ?_, T2.out⟩
  · refine ret_int ?_
    simp only [lenA]; omega
  · have := O2.out
    first | exact this | (simp only [marksA, lenA, List.cons_append, List.nil_append, Nat.add_zero, Nat.add_assoc] at this ⊢; exact this)

set_option maxRecDepth 100000 in
set_option maxHeartbeats 4000000 in
theorem heldFlashA (vA0 vA1 : Option Addr) (vc0 vc1 : Nat) (d0 : List Int) (d1 : List Bool) (d2 : Int) (k : Nat) (w : World) (h : RepA w [.slice vA0 d0.length vc0, .slice vA1 d1.length vc1] (marksA k [Lf.I d0, Lf.B d1])) (hk : 1 ≤ k) (hB : BndA [Lf.I d0, Lf.B d1]) (hk2 : k + lenA [Lf.I d0, Lf.B d1] ≤ 549755813888) :
    Calls Try.prog 74 #[.agg #[.slice vA0 d0.length vc0, .slice vA1 d1.length vc1, .int .i64 d2], .int .i64 (k : Int)] w fun e w' => e = .returned (.int .i64 ((k + lenA [Lf.I d0, Lf.B d1] : Nat) : Int)) ∧ Below w.heap.size w w' := by
  have hb0 := alloc_below w (.cells #[.slice vA0 d0.length vc0, .slice vA1 d1.length vc1, .int .i64 d2] 26)
  have X0 := Lib.hid (Box.new w 26 #[.slice vA0 d0.length vc0, .slice vA1 d1.length vc1, .int .i64 d2])
  simp only [marksA] at h
  have H0 := Lib.hid (fun W (hb : Below w.heap.size w W) => heldLI (.slice vA0 d0.length vc0) d0 (k) W (by have := (h.below hb).1; simpa only [Nat.add_assoc] using this) (by omega) (hB (Lf.I d0) (by simp)) (by simp only [lenA] at hk2 ⊢; omega))
  have H1 := Lib.hid (fun W (hb : Below w.heap.size w W) => heldLB (.slice vA1 d1.length vc1) d1 (k + (Lf.len (Lf.I d0))) W (by have := (h.below hb).2.1; simpa only [Nat.add_assoc] using this) (by omega) (hB (Lf.B d1) (by simp)) (by simp only [lenA] at hk2 ⊢; omega))
  clear h hB hk hk2
  go_enter Try.func74, Try.ntmps74
  go_wp2_with fail
  refine (H0.out _ hb0).mono ?_
  rintro e w1 ⟨rfl, hc⟩
  have X1 := Lib.hid (X0.out.step hc)
  have hb1 := bt hb0 hc
  clear X0 hb0 hc
  have hp0 : ¬ ((k + (Lf.len (Lf.I d0)) : Nat) : Int) < 0 := by omega
  have f1 := X1.out.cell 1 rfl
  go_wp2_with fail
  refine (H1.out _ hb1).mono ?_
  rintro e w2 ⟨rfl, hc⟩
  have X2 := Lib.hid (X1.out.step hc)
  have hb2 := bt hb1 hc
  clear X1 hb1 hc f1
  have hp1 : ¬ ((k + (Lf.len (Lf.I d0)) + (Lf.len (Lf.B d1)) : Nat) : Int) < 0 := by omega
  go_wp2
  go_ret
  exact ⟨ret_int (by simp only [lenA]; omega), hb2⟩

end Go.Proofs.Ytngoijchebfolaa

/- The laws' own functions over Mem, on leaves. Written by gen_t.py. -/
namespace Go.Proofs.Ytngoijchebfolaa
open Go.RowKit

set_option maxRecDepth 100000 in
set_option maxHeartbeats 2000000 in
theorem szMemA (vA0 vA1 vA2 vA3 : Option Addr) (vc0 vc1 vc2 vc3 : Nat) (d0 : List Int) (d1 : List Int) (d2 : List Int) (d3 : List Bool) (d4 : Int) (left : Int) (w : World) (h : RepA w [.slice vA0 d0.length vc0, .slice vA1 d1.length vc1, .slice vA2 d2.length vc2, .slice vA3 d3.length vc3] [Lf.I d0, Lf.I d1, Lf.I d2, Lf.B d3]) (hf : FitA [Lf.I d0, Lf.I d1, Lf.I d2, Lf.B d3]) (h0 : 0 ≤ left) (h1 : left ≤ 1048576) :
    Calls Try.prog 19 #[.agg #[.slice vA0 d0.length vc0, .slice vA1 d1.length vc1, .slice vA2 d2.length vc2, .slice vA3 d3.length vc3, .int .i64 d4], .int .i64 left] w (Left left (szA [Lf.I d0, Lf.I d1, Lf.I d2, Lf.B d3]) w) := by
  have H0 := Lib.hid (fun W (hb : Below w.heap.size w W) l g0 g1 => szLI (.slice vA0 d0.length vc0) d0 l W ((h.below hb).1) (hf _ (by simp)) g0 g1)
  have H1 := Lib.hid (fun W (hb : Below w.heap.size w W) l g0 g1 => szLI (.slice vA1 d1.length vc1) d1 l W ((h.below hb).2.1) (hf _ (by simp)) g0 g1)
  have H2 := Lib.hid (fun W (hb : Below w.heap.size w W) l g0 g1 => szFlashA vA2 vA3 vc2 vc3 d2 d3 d4 l W (h.below hb |> fun h => ⟨h.2.2.1, h.2.2.2.1, trivial⟩) (hf.sub (by simp +contextual)) g0 g1)
  have HR : Hid (szA [Lf.I d0, Lf.I d1, Lf.I d2, Lf.B d3] = (Lf.sz (Lf.I d0)) + (Lf.sz (Lf.I d1)) + szA [Lf.I d2, Lf.B d3]) := Lib.hid (by simp only [szA]; omega)
  generalize szA [Lf.I d0, Lf.I d1, Lf.I d2, Lf.B d3] = sa at HR ⊢
  generalize (Lf.sz (Lf.I d0)) = z0 at HR H0
  generalize (Lf.sz (Lf.I d1)) = z1 at HR H1
  generalize szA [Lf.I d2, Lf.B d3] = z2 at HR H2
  have hb0 := alloc_below w (.cells #[.slice vA0 d0.length vc0, .slice vA1 d1.length vc1, .slice vA2 d2.length vc2, .slice vA3 d3.length vc3, .int .i64 d4] 47)
  have X := Lib.hid (Box.new w 47 #[.slice vA0 d0.length vc0, .slice vA1 d1.length vc1, .slice vA2 d2.length vc2, .slice vA3 d3.length vc3, .int .i64 d4])
  clear h hf
  go_enter Try.func19, Try.ntmps19
  go_wp2_with fail
  refine (H0.out _ hb0 _ (by omega) (by omega)).mono ?_
  rintro e w1 ⟨hres, hc1⟩
  have X1 := Lib.hid (X.out.step hc1)
  have hb1 := bt hb0 hc1
  clear X hb0 hc1
  rcases hres with rfl | ⟨rfl, hle0⟩
  · go_wp2
    go_ret
    exact ⟨.inl rfl, hb1⟩
  have hp0 : ¬ left - (z0 : Int) < 0 := by omega
  have f1 := X1.out.cell 1 rfl
  go_wp2_with fail
  refine (H1.out _ hb1 _ (by omega) (by omega)).mono ?_
  rintro e w2 ⟨hres, hc2⟩
  have X2 := Lib.hid (X1.out.step hc2)
  have hb2 := bt hb1 hc2
  clear X1 hb1 hc2 f1
  rcases hres with rfl | ⟨rfl, hle1⟩
  · go_wp2
    go_ret
    exact ⟨.inl rfl, hb2⟩
  have hp1 : ¬ left - (z0 : Int) - (z1 : Int) < 0 := by omega
  have f2 := X2.out.cell 2 rfl
  have f3 := X2.out.cell 3 rfl
  have f4 := X2.out.cell 4 rfl
  go_wp2_with fail
  refine (H2.out _ hb2 _ (by omega) (by omega)).mono ?_
  rintro e w3 ⟨hres, hc3⟩
  have X3 := Lib.hid (X2.out.step hc3)
  have hb3 := bt hb2 hc3
  clear X2 hb2 hc3 f2 f3 f4
  rcases hres with rfl | ⟨rfl, hle2⟩
  · go_wp2
    go_ret
    exact ⟨.inl rfl, hb3⟩
  have hp2 : ¬ left - (z0 : Int) - (z1 : Int) - (z2 : Int) < 0 := by omega
  go_wp2
  go_ret
  exact ⟨.inr ⟨ret_int (by have := HR.out; omega), by have := HR.out; omega⟩, hb3⟩

set_option maxRecDepth 100000 in
set_option maxHeartbeats 4000000 in
theorem toMemA (vA0 vA1 vA2 vA3 : Option Addr) (vc0 vc1 vc2 vc3 : Nat) (d0 : List Int) (d1 : List Int) (d2 : List Int) (d3 : List Bool) (d4 : Int) (w : World) (h : RepA w [.slice vA0 d0.length vc0, .slice vA1 d1.length vc1, .slice vA2 d2.length vc2, .slice vA3 d3.length vc3] [Lf.I d0, Lf.I d1, Lf.I d2, Lf.B d3]) (hn : szA [Lf.I d0, Lf.I d1, Lf.I d2, Lf.B d3] ≤ 1048576) :
    Calls Try.prog 22 #[.agg #[.slice vA0 d0.length vc0, .slice vA1 d1.length vc1, .slice vA2 d2.length vc2, .slice vA3 d3.length vc3, .int .i64 d4]] w (fun e w' => ∃ uA0 uA1 uA2 uA3 uc0 uc1 uc2 uc3, e = .returned (.agg #[.slice uA0 d0.length uc0, .slice uA1 d1.length uc1, .slice uA2 d2.length uc2, .slice uA3 d3.length uc3, .int .i64 d4]) ∧ Hid (OwnA w' w.heap.size w'.heap.size [.slice uA0 d0.length uc0, .slice uA1 d1.length uc1, .slice uA2 d2.length uc2, .slice uA3 d3.length uc3] [Lf.I d0, Lf.I d1, Lf.I d2, Lf.B d3]) ∧ Hid (CapA [.slice uA0 d0.length uc0, .slice uA1 d1.length uc1, .slice uA2 d2.length uc2, .slice uA3 d3.length uc3]) ∧ Below w.heap.size w w') := by
  obtain ⟨W0, hW0⟩ : ∃ W0, W0 = (((w.alloc (.cells #[.slice vA0 d0.length vc0, .slice vA1 d1.length vc1, .slice vA2 d2.length vc2, .slice vA3 d3.length vc3, .int .i64 d4] 47)).alloc (.cells #[.slice none 0 0, .slice none 0 0, .slice none 0 0, .slice none 0 0, .int .i64 0] 28)).alloc (.cells #[.slice none 0 0, .slice none 0 0, .slice none 0 0, .slice none 0 0, .int .i64 0] 28)) := ⟨_, rfl⟩
  have hs0 : W0.heap.size = w.heap.size + 1 + 1 + 1 := by rw [hW0]; simp
  have hb0 : Below w.heap.size w W0 := by rw [hW0]; exact (((Below.refl _ _).alloc (Nat.le_refl _) _).alloc (by simp) _).alloc (by simp; omega) _
  have X0 : Hid (Box W0 w.heap.size 47 #[.slice vA0 d0.length vc0, .slice vA1 d1.length vc1, .slice vA2 d2.length vc2, .slice vA3 d3.length vc3, .int .i64 d4]) := Lib.hid (by rw [hW0]; exact ((Box.new _ _ _).alloc _).alloc _)
  have Y0 : Hid (Box W0 (w.heap.size + 1) 28 #[.slice none 0 0, .slice none 0 0, .slice none 0 0, .slice none 0 0, .int .i64 0]) := Lib.hid (by rw [hW0]; simpa using (Box.new (w.alloc (.cells #[.slice vA0 d0.length vc0, .slice vA1 d1.length vc1, .slice vA2 d2.length vc2, .slice vA3 d3.length vc3, .int .i64 d4] 47)) 28 #[.slice none 0 0, .slice none 0 0, .slice none 0 0, .slice none 0 0, .int .i64 0]).alloc (.cells #[.slice none 0 0, .slice none 0 0, .slice none 0 0, .slice none 0 0, .int .i64 0] 28))
  have Z0 : Hid (Box W0 (w.heap.size + 1 + 1) 28 #[.slice none 0 0, .slice none 0 0, .slice none 0 0, .slice none 0 0, .int .i64 0]) := Lib.hid (by rw [hW0]; simpa using Box.new ((w.alloc (.cells #[.slice vA0 d0.length vc0, .slice vA1 d1.length vc1, .slice vA2 d2.length vc2, .slice vA3 d3.length vc3, .int .i64 d4] 47)).alloc (.cells #[.slice none 0 0, .slice none 0 0, .slice none 0 0, .slice none 0 0, .int .i64 0] 28)) 28 #[.slice none 0 0, .slice none 0 0, .slice none 0 0, .slice none 0 0, .int .i64 0])
  have O0 : Hid (OwnA W0 (w.heap.size + 3) W0.heap.size [] []) := Lib.hid (OwnA.nil _ _ _)
  have H0 := Lib.hid (fun W (hb : Below w.heap.size w W) => toLI (.slice vA0 d0.length vc0) d0 W ((h.below hb).1) (by simp only [szA, Lf.sz] at hn; omega))
  have H1 := Lib.hid (fun W (hb : Below w.heap.size w W) => toLI (.slice vA1 d1.length vc1) d1 W ((h.below hb).2.1) (by simp only [szA, Lf.sz] at hn; omega))
  have H2 := Lib.hid (fun W (hb : Below w.heap.size w W) => toFlashA vA2 vA3 vc2 vc3 d2 d3 d4 W (h.below hb |> fun h => ⟨h.2.2.1, h.2.2.2.1, trivial⟩) (by simp only [szA, Lf.sz] at hn ⊢; omega))
  have HW0 := Lib.hid hW0
  have HS0 := Lib.hid hs0
  clear h hn hW0 hs0
  go_enter Try.func22, Try.ntmps22
  go_wp2_with fail
  rw [← HW0.out]
  refine (H0.out _ hb0).mono ?_
  rintro e w1 ⟨uA0, uc0, rfl, N1, K0, hc⟩
  have hq0 : w.heap.size + 3 ≤ W0.heap.size := by have := Z0.out.lt; omega
  have X1 := Lib.hid (X0.out.step hc)
  have Y1 := Lib.hid (Y0.out.step hc)
  have Z1 := Lib.hid (Z0.out.step hc)
  have O1 : Hid (OwnA w1 (w.heap.size + 3) w1.heap.size [.slice uA0 d0.length uc0] [Lf.I d0]) := Lib.hid ((O0.out.below hc).append (OwnA.one N1.out) (.inl (Nat.le_refl _)) (Nat.le_refl _) hq0 hc.size (Nat.le_refl _))
  have hb1 := bt hb0 hc
  clear X0 Y0 Z0 O0 hb0 hc N1 hq0 HW0 HS0
  have fa1 := X1.out.cell 1 rfl
  have fz0 := Z1.out.cell 0 rfl
  have gz0 := Z1.out.frozen 0
  go_wp2_with fail
  obtain ⟨V1, hV1⟩ : ∃ V1, V1 = (w1.setCell ⟨w.heap.size + 1 + 1, 0, none⟩ (.slice uA0 d0.length uc0)) := ⟨_, rfl⟩
  have X2 : Hid (Box V1 w.heap.size 47 #[.slice vA0 d0.length vc0, .slice vA1 d1.length vc1, .slice vA2 d2.length vc2, .slice vA3 d3.length vc3, .int .i64 d4]) := Lib.hid (by rw [hV1]; exact (X1.out.far (p := ⟨w.heap.size + 1 + 1, 0, none⟩) (by show w.heap.size ≠ w.heap.size + 1 + 1; omega) (.slice uA0 d0.length uc0)))
  have Y2 : Hid (Box V1 (w.heap.size + 1) 28 #[.slice none 0 0, .slice none 0 0, .slice none 0 0, .slice none 0 0, .int .i64 0]) := Lib.hid (by rw [hV1]; exact (Y1.out.far (p := ⟨w.heap.size + 1 + 1, 0, none⟩) (by show w.heap.size + 1 ≠ w.heap.size + 1 + 1; omega) (.slice uA0 d0.length uc0)))
  have Z2 : Hid (Box V1 (w.heap.size + 1 + 1) 28 #[.slice uA0 d0.length uc0, .slice none 0 0, .slice none 0 0, .slice none 0 0, .int .i64 0]) := Lib.hid (by rw [hV1]; exact (Z1.out.set 0 (.slice uA0 d0.length uc0)))
  have hsz2 : V1.heap.size = w1.heap.size := by rw [hV1]; simp [World.setCell]
  have O2 : Hid (OwnA V1 (w.heap.size + 3) V1.heap.size [.slice uA0 d0.length uc0] [Lf.I d0]) := Lib.hid (by rw [hsz2, hV1]; exact (O1.out.set (p := ⟨w.heap.size + 1 + 1, 0, none⟩) (by show w.heap.size + 1 + 1 < w.heap.size + 3; omega) (.slice uA0 d0.length uc0)))
  have hb2 : Below w.heap.size w V1 := by rw [hV1]; exact (hb1.setCell (p := ⟨w.heap.size + 1 + 1, 0, none⟩) (by show w.heap.size ≤ w.heap.size + 1 + 1; omega) (.slice uA0 d0.length uc0))
  rw [← hV1]
  clear X1 Y1 Z1 O1 hb1 hV1 hsz2 fa1 fz0 gz0
  refine (H1.out _ hb2).mono ?_
  rintro e w2 ⟨uA1, uc1, rfl, N1, K1, hc⟩
  have hq0 : w.heap.size + 3 ≤ V1.heap.size := by have := Z2.out.lt; omega
  have X3 := Lib.hid (X2.out.step hc)
  have Y3 := Lib.hid (Y2.out.step hc)
  have Z3 := Lib.hid (Z2.out.step hc)
  have O3 : Hid (OwnA w2 (w.heap.size + 3) w2.heap.size [.slice uA0 d0.length uc0, .slice uA1 d1.length uc1] [Lf.I d0, Lf.I d1]) := Lib.hid ((O2.out.below hc).append (OwnA.one N1.out) (.inl (Nat.le_refl _)) (Nat.le_refl _) hq0 hc.size (Nat.le_refl _))
  have hb3 := bt hb2 hc
  clear X2 Y2 Z2 O2 hb2 hc N1 hq0
  have fa2 := X3.out.cell 2 rfl
  have fa3 := X3.out.cell 3 rfl
  have fa4 := X3.out.cell 4 rfl
  have fz1 := Z3.out.cell 1 rfl
  have gz1 := Z3.out.frozen 1
  go_wp2_with fail
  obtain ⟨V2, hV2⟩ : ∃ V2, V2 = (w2.setCell ⟨w.heap.size + 1 + 1, 1, none⟩ (.slice uA1 d1.length uc1)) := ⟨_, rfl⟩
  have X4 : Hid (Box V2 w.heap.size 47 #[.slice vA0 d0.length vc0, .slice vA1 d1.length vc1, .slice vA2 d2.length vc2, .slice vA3 d3.length vc3, .int .i64 d4]) := Lib.hid (by rw [hV2]; exact (X3.out.far (p := ⟨w.heap.size + 1 + 1, 1, none⟩) (by show w.heap.size ≠ w.heap.size + 1 + 1; omega) (.slice uA1 d1.length uc1)))
  have Y4 : Hid (Box V2 (w.heap.size + 1) 28 #[.slice none 0 0, .slice none 0 0, .slice none 0 0, .slice none 0 0, .int .i64 0]) := Lib.hid (by rw [hV2]; exact (Y3.out.far (p := ⟨w.heap.size + 1 + 1, 1, none⟩) (by show w.heap.size + 1 ≠ w.heap.size + 1 + 1; omega) (.slice uA1 d1.length uc1)))
  have Z4 : Hid (Box V2 (w.heap.size + 1 + 1) 28 #[.slice uA0 d0.length uc0, .slice uA1 d1.length uc1, .slice none 0 0, .slice none 0 0, .int .i64 0]) := Lib.hid (by rw [hV2]; exact (Z3.out.set 1 (.slice uA1 d1.length uc1)))
  have hsz4 : V2.heap.size = w2.heap.size := by rw [hV2]; simp [World.setCell]
  have O4 : Hid (OwnA V2 (w.heap.size + 3) V2.heap.size [.slice uA0 d0.length uc0, .slice uA1 d1.length uc1] [Lf.I d0, Lf.I d1]) := Lib.hid (by rw [hsz4, hV2]; exact (O3.out.set (p := ⟨w.heap.size + 1 + 1, 1, none⟩) (by show w.heap.size + 1 + 1 < w.heap.size + 3; omega) (.slice uA1 d1.length uc1)))
  have hb4 : Below w.heap.size w V2 := by rw [hV2]; exact (hb3.setCell (p := ⟨w.heap.size + 1 + 1, 1, none⟩) (by show w.heap.size ≤ w.heap.size + 1 + 1; omega) (.slice uA1 d1.length uc1))
  rw [← hV2]
  clear X3 Y3 Z3 O3 hb3 hV2 hsz4 fa2 fa3 fa4 fz1 gz1
  refine (H2.out _ hb4).mono ?_
  rintro e w3 ⟨uA2, uA3, uc2, uc3, rfl, N1, K2, hc⟩
  have hq0 : w.heap.size + 3 ≤ V2.heap.size := by have := Z4.out.lt; omega
  have X5 := Lib.hid (X4.out.step hc)
  have Y5 := Lib.hid (Y4.out.step hc)
  have Z5 := Lib.hid (Z4.out.step hc)
  have O5 : Hid (OwnA w3 (w.heap.size + 3) w3.heap.size [.slice uA0 d0.length uc0, .slice uA1 d1.length uc1, .slice uA2 d2.length uc2, .slice uA3 d3.length uc3] [Lf.I d0, Lf.I d1, Lf.I d2, Lf.B d3]) := Lib.hid ((O4.out.below hc).append N1.out (.inl (Nat.le_refl _)) (Nat.le_refl _) hq0 hc.size (Nat.le_refl _))
  have hb5 := bt hb4 hc
  clear X4 Y4 Z4 O4 hb4 hc N1 hq0
  have fz2 := Z5.out.cell 2 rfl
  have gz2 := Z5.out.frozen 2
  have fz3 := Z5.out.cell 3 rfl
  have gz3 := Z5.out.frozen 3
  have fz4 := Z5.out.cell 4 rfl
  have gz4 := Z5.out.frozen 4
  have fz0 := Z5.out.cell 0 rfl
  have fy0 := Y5.out.cell 0 rfl
  have gy0 := Y5.out.frozen 0
  have fz1 := Z5.out.cell 1 rfl
  have fy1 := Y5.out.cell 1 rfl
  have gy1 := Y5.out.frozen 1
  have fy2 := Y5.out.cell 2 rfl
  have gy2 := Y5.out.frozen 2
  have fy3 := Y5.out.cell 3 rfl
  have gy3 := Y5.out.frozen 3
  have fy4 := Y5.out.cell 4 rfl
  have gy4 := Y5.out.frozen 4
  go_wp2
  refine bodyPost_ret (v := .agg #[.slice uA0 d0.length uc0, .slice uA1 d1.length uc1, .slice uA2 d2.length uc2, .slice uA3 d3.length uc3, .int .i64 d4]) (by simp [results, Try.results22, go_sem, fy0, fy1, fy2, fy3, fy4]) rfl ?_
  refine ⟨uA0, uA1, uA2, uA3, uc0, uc1, uc2, uc3, rfl, Lib.hid ((((((((((O5.out.set (p := ⟨w.heap.size + 1 + 1, 2, none⟩) (by show w.heap.size + 1 + 1 < w.heap.size + 3; omega) _).set (p := ⟨w.heap.size + 1 + 1, 3, none⟩) (by show w.heap.size + 1 + 1 < w.heap.size + 3; omega) _).set (p := ⟨w.heap.size + 1 + 1, 4, none⟩) (by show w.heap.size + 1 + 1 < w.heap.size + 3; omega) _).set (p := ⟨w.heap.size + 1, 0, none⟩) (by show w.heap.size + 1 < w.heap.size + 3; omega) _).set (p := ⟨w.heap.size + 1, 1, none⟩) (by show w.heap.size + 1 < w.heap.size + 3; omega) _).set (p := ⟨w.heap.size + 1, 2, none⟩) (by show w.heap.size + 1 < w.heap.size + 3; omega) _).set (p := ⟨w.heap.size + 1, 3, none⟩) (by show w.heap.size + 1 < w.heap.size + 3; omega) _).set (p := ⟨w.heap.size + 1, 4, none⟩) (by show w.heap.size + 1 < w.heap.size + 3; omega) _)).wide (by omega) (by simp [World.setCell])), Lib.hid (CapA.cons K0.out (CapA.cons K1.out (CapA.app K2.out CapA.nil))), ((((((((hb5.setCell (p := ⟨w.heap.size + 1 + 1, 2, none⟩) (by show w.heap.size ≤ w.heap.size + 1 + 1; omega) _).setCell (p := ⟨w.heap.size + 1 + 1, 3, none⟩) (by show w.heap.size ≤ w.heap.size + 1 + 1; omega) _).setCell (p := ⟨w.heap.size + 1 + 1, 4, none⟩) (by show w.heap.size ≤ w.heap.size + 1 + 1; omega) _).setCell (p := ⟨w.heap.size + 1, 0, none⟩) (by show w.heap.size ≤ w.heap.size + 1; omega) _).setCell (p := ⟨w.heap.size + 1, 1, none⟩) (by show w.heap.size ≤ w.heap.size + 1; omega) _).setCell (p := ⟨w.heap.size + 1, 2, none⟩) (by show w.heap.size ≤ w.heap.size + 1; omega) _).setCell (p := ⟨w.heap.size + 1, 3, none⟩) (by show w.heap.size ≤ w.heap.size + 1; omega) _).setCell (p := ⟨w.heap.size + 1, 4, none⟩) (by show w.heap.size ≤ w.heap.size + 1; omega) _)⟩

set_option maxRecDepth 100000 in
set_option maxHeartbeats 4000000 in
theorem eqMemA (vA0 vA1 vA2 vA3 : Option Addr) (vc0 vc1 vc2 vc3 : Nat) (uA0 uA1 uA2 uA3 : Option Addr) (uc0 uc1 uc2 uc3 : Nat) (d0 : List Int) (d1 : List Int) (d2 : List Int) (d3 : List Bool) (d4 : Int) (w : World) (h : RepA w [.slice vA0 d0.length vc0, .slice vA1 d1.length vc1, .slice vA2 d2.length vc2, .slice vA3 d3.length vc3] [Lf.I d0, Lf.I d1, Lf.I d2, Lf.B d3]) (h' : RepA w [.slice uA0 d0.length uc0, .slice uA1 d1.length uc1, .slice uA2 d2.length uc2, .slice uA3 d3.length uc3] [Lf.I d0, Lf.I d1, Lf.I d2, Lf.B d3]) (hn : lenA [Lf.I d0, Lf.I d1, Lf.I d2, Lf.B d3] ≤ maxLen) :
    Calls Try.prog 25 #[.agg #[.slice vA0 d0.length vc0, .slice vA1 d1.length vc1, .slice vA2 d2.length vc2, .slice vA3 d3.length vc3, .int .i64 d4], .agg #[.slice uA0 d0.length uc0, .slice uA1 d1.length uc1, .slice uA2 d2.length uc2, .slice uA3 d3.length uc3, .int .i64 d4]] w fun e w' => e = .returned (.bool true) ∧ Below w.heap.size w w' := by
  have H0 := Lib.hid (fun W (hb : Below w.heap.size w W) => eqLI (.slice vA0 d0.length vc0) (.slice uA0 d0.length uc0) d0 W ((h.below hb).1) ((h'.below hb).1) (by simp only [lenA, Lf.len] at hn; omega))
  have H1 := Lib.hid (fun W (hb : Below w.heap.size w W) => eqLI (.slice vA1 d1.length vc1) (.slice uA1 d1.length uc1) d1 W ((h.below hb).2.1) ((h'.below hb).2.1) (by simp only [lenA, Lf.len] at hn; omega))
  have H2 := Lib.hid (fun W (hb : Below w.heap.size w W) => eqFlashA vA2 vA3 vc2 vc3 uA2 uA3 uc2 uc3 d2 d3 d4 W (h.below hb |> fun h => ⟨h.2.2.1, h.2.2.2.1, trivial⟩) (h'.below hb |> fun h => ⟨h.2.2.1, h.2.2.2.1, trivial⟩) (by simp only [lenA, Lf.len] at hn ⊢; omega))
  obtain ⟨W0, hW0⟩ : ∃ W0, W0 = ((w.alloc (.cells #[.slice vA0 d0.length vc0, .slice vA1 d1.length vc1, .slice vA2 d2.length vc2, .slice vA3 d3.length vc3, .int .i64 d4] 28)).alloc (.cells #[.slice uA0 d0.length uc0, .slice uA1 d1.length uc1, .slice uA2 d2.length uc2, .slice uA3 d3.length uc3, .int .i64 d4] 28)) := ⟨_, rfl⟩
  have hb0 : Below w.heap.size w W0 := by rw [hW0]; exact ((Below.refl _ _).alloc (Nat.le_refl _) _).alloc (by simp) _
  have X0 : Hid (Box W0 w.heap.size 28 #[.slice vA0 d0.length vc0, .slice vA1 d1.length vc1, .slice vA2 d2.length vc2, .slice vA3 d3.length vc3, .int .i64 d4]) := Lib.hid (by rw [hW0]; exact (Box.new _ _ _).alloc _)
  have Y0 : Hid (Box W0 (w.heap.size + 1) 28 #[.slice uA0 d0.length uc0, .slice uA1 d1.length uc1, .slice uA2 d2.length uc2, .slice uA3 d3.length uc3, .int .i64 d4]) := Lib.hid (by rw [hW0]; simpa using Box.new (w.alloc (.cells #[.slice vA0 d0.length vc0, .slice vA1 d1.length vc1, .slice vA2 d2.length vc2, .slice vA3 d3.length vc3, .int .i64 d4] 28)) 28 #[.slice uA0 d0.length uc0, .slice uA1 d1.length uc1, .slice uA2 d2.length uc2, .slice uA3 d3.length uc3, .int .i64 d4])
  have HW0 := Lib.hid hW0
  have hq4 : (d4 != d4) = false := by simp
  clear hW0 h h' hn
  go_enter Try.func25, Try.ntmps25
  go_wp2_with fail
  rw [← HW0.out]
  refine (H0.out _ hb0).mono ?_
  rintro e w1 ⟨rfl, hc⟩
  have X1 := Lib.hid (X0.out.step hc)
  have Y1 := Lib.hid (Y0.out.step hc)
  have hb1 := bt hb0 hc
  clear X0 Y0 hb0 hc HW0
  have k1 := X1.out.cell 1 rfl
  have l1 := Y1.out.cell 1 rfl
  go_wp2_with fail
  refine (H1.out _ hb1).mono ?_
  rintro e w2 ⟨rfl, hc⟩
  have X2 := Lib.hid (X1.out.step hc)
  have Y2 := Lib.hid (Y1.out.step hc)
  have hb2 := bt hb1 hc
  clear X1 Y1 hb1 hc k1 l1
  have k2 := X2.out.cell 2 rfl
  have l2 := Y2.out.cell 2 rfl
  have k3 := X2.out.cell 3 rfl
  have l3 := Y2.out.cell 3 rfl
  have k4 := X2.out.cell 4 rfl
  have l4 := Y2.out.cell 4 rfl
  go_wp2_with fail
  refine (H2.out _ hb2).mono ?_
  rintro e w3 ⟨rfl, hc⟩
  have X3 := Lib.hid (X2.out.step hc)
  have Y3 := Lib.hid (Y2.out.step hc)
  have hb3 := bt hb2 hc
  clear X2 Y2 hb2 hc k2 l2 k3 l3 k4 l4
  go_wp2
  go_ret
  exact ⟨rfl, hb3⟩

set_option maxRecDepth 100000 in
set_option maxHeartbeats 4000000 in
theorem markMemA (vA0 vA1 vA2 vA3 : Option Addr) (vc0 vc1 vc2 vc3 : Nat) (d0 : List Int) (d1 : List Int) (d2 : List Int) (d3 : List Bool) (d4 : Int) (k lo hi : Nat) (w : World) (h : OwnA w lo hi [.slice vA0 d0.length vc0, .slice vA1 d1.length vc1, .slice vA2 d2.length vc2, .slice vA3 d3.length vc3] [Lf.I d0, Lf.I d1, Lf.I d2, Lf.B d3]) (hhi : hi ≤ w.heap.size) (hk : 1 ≤ k) (hB : BndA [Lf.I d0, Lf.I d1, Lf.I d2, Lf.B d3]) (hk2 : k + lenA [Lf.I d0, Lf.I d1, Lf.I d2, Lf.B d3] ≤ 549755813888) :
    Calls Try.prog 27 #[.agg #[.slice vA0 d0.length vc0, .slice vA1 d1.length vc1, .slice vA2 d2.length vc2, .slice vA3 d3.length vc3, .int .i64 d4], .int .i64 (k : Int)] w fun e w' => e = .returned (.int .i64 ((k + lenA [Lf.I d0, Lf.I d1, Lf.I d2, Lf.B d3] : Nat) : Int)) ∧ Hid (OwnA w' lo hi [.slice vA0 d0.length vc0, .slice vA1 d1.length vc1, .slice vA2 d2.length vc2, .slice vA3 d3.length vc3] (marksA k [Lf.I d0, Lf.I d1, Lf.I d2, Lf.B d3])) ∧ Touch [.slice vA0 d0.length vc0, .slice vA1 d1.length vc1, .slice vA2 d2.length vc2, .slice vA3 d3.length vc3] w w' := by
  have hb0 := alloc_below w (.cells #[.slice vA0 d0.length vc0, .slice vA1 d1.length vc1, .slice vA2 d2.length vc2, .slice vA3 d3.length vc3, .int .i64 d4] 28)
  have X0 := Lib.hid (Box.new w 28 #[.slice vA0 d0.length vc0, .slice vA1 d1.length vc1, .slice vA2 d2.length vc2, .slice vA3 d3.length vc3, .int .i64 d4])
  have O0 := Lib.hid (h.below hb0)
  have T0 := Lib.hid (Touch.of_below hb0 [.slice vA0 d0.length vc0, .slice vA1 d1.length vc1, .slice vA2 d2.length vc2, .slice vA3 d3.length vc3])
  have H0 := Lib.hid (fun W (o : OwnL W lo hi (.slice vA0 d0.length vc0) (Lf.I d0)) => markLI (.slice vA0 d0.length vc0) d0 (k) lo hi W o (by omega) (hB (Lf.I d0) (by simp)) (by simp only [lenA] at hk2 ⊢; omega))
  have H1 := Lib.hid (fun W (o : OwnL W lo hi (.slice vA1 d1.length vc1) (Lf.I d1)) => markLI (.slice vA1 d1.length vc1) d1 (k + (Lf.len (Lf.I d0))) lo hi W o (by omega) (hB (Lf.I d1) (by simp)) (by simp only [lenA] at hk2 ⊢; omega))
  have H2 := Lib.hid (fun W (o : OwnA W lo hi [.slice vA2 d2.length vc2, .slice vA3 d3.length vc3] [Lf.I d2, Lf.B d3]) (hs : hi ≤ W.heap.size) => markFlashA vA2 vA3 vc2 vc3 d2 d3 d4 (k + (Lf.len (Lf.I d0)) + (Lf.len (Lf.I d1))) lo hi W o hs (by omega) (hB.sub (by simp +contextual)) (by simp only [lenA] at hk2 ⊢; omega))
  have HH := Lib.hid hhi
  clear h hb0 hB hk2 hk hhi
  go_enter Try.func27, Try.ntmps27
  have G0 := OwnA.seg (a := []) (m := [.slice vA0 d0.length vc0]) (b := [.slice vA1 d1.length vc1, .slice vA2 d2.length vc2, .slice vA3 d3.length vc3]) (da := []) (dm := [Lf.I d0]) (db := [Lf.I d1, Lf.I d2, Lf.B d3]) O0.out rfl rfl
  have HC0 := Lib.hid (H0.out _ G0.1.1)
  clear G0
  go_wp2_with fail
  refine HC0.out.mono ?_
  rintro e w1 ⟨rfl, M0, U0⟩
  have O1 := Lib.hid (OwnA.reseg (a := []) (m := [.slice vA0 d0.length vc0]) (b := [.slice vA1 d1.length vc1, .slice vA2 d2.length vc2, .slice vA3 d3.length vc3]) (da := []) (dm := [Lf.I d0]) (db := [Lf.I d1, Lf.I d2, Lf.B d3]) (dm' := [(Lf.I d0).marks (k)]) O0.out rfl rfl (OwnA.one M0.out) U0)
  have T1 := Lib.hid (T0.out.chain (U0.mem (by simp +contextual)))
  have X1 : Hid (Box w1 w.heap.size 28 #[.slice vA0 d0.length vc0, .slice vA1 d1.length vc1, .slice vA2 d2.length vc2, .slice vA3 d3.length vc3, .int .i64 d4]) := Lib.hid (X0.out.touch (OwnA.seg (a := []) (m := [.slice vA0 d0.length vc0]) (b := [.slice vA1 d1.length vc1, .slice vA2 d2.length vc2, .slice vA3 d3.length vc3]) (da := []) (dm := [Lf.I d0]) (db := [Lf.I d1, Lf.I d2, Lf.B d3]) O0.out rfl rfl) U0 (.inr HH.out))
  clear X0 O0 T0 M0 U0 HC0
  have f1 := X1.out.cell 1 rfl
  have G1 := OwnA.seg (a := [.slice vA0 d0.length vc0]) (m := [.slice vA1 d1.length vc1]) (b := [.slice vA2 d2.length vc2, .slice vA3 d3.length vc3]) (da := [(Lf.I d0).marks (k)]) (dm := [Lf.I d1]) (db := [Lf.I d2, Lf.B d3]) O1.out rfl rfl
  have HC1 := Lib.hid (H1.out _ G1.1.1)
  clear G1
  go_wp2_with fail
  try rw [HKe1.out]
  refine HC1.out.mono ?_
  rintro e w2 ⟨rfl, M1, U1⟩
  have O2 := Lib.hid (OwnA.reseg (a := [.slice vA0 d0.length vc0]) (m := [.slice vA1 d1.length vc1]) (b := [.slice vA2 d2.length vc2, .slice vA3 d3.length vc3]) (da := [(Lf.I d0).marks (k)]) (dm := [Lf.I d1]) (db := [Lf.I d2, Lf.B d3]) (dm' := [(Lf.I d1).marks (k + (Lf.len (Lf.I d0)))]) O1.out rfl rfl (OwnA.one M1.out) U1)
  have T2 := Lib.hid (T1.out.chain (U1.mem (by simp +contextual)))
  have X2 : Hid (Box w2 w.heap.size 28 #[.slice vA0 d0.length vc0, .slice vA1 d1.length vc1, .slice vA2 d2.length vc2, .slice vA3 d3.length vc3, .int .i64 d4]) := Lib.hid (X1.out.touch (OwnA.seg (a := [.slice vA0 d0.length vc0]) (m := [.slice vA1 d1.length vc1]) (b := [.slice vA2 d2.length vc2, .slice vA3 d3.length vc3]) (da := [(Lf.I d0).marks (k)]) (dm := [Lf.I d1]) (db := [Lf.I d2, Lf.B d3]) O1.out rfl rfl) U1 (.inr HH.out))
  clear X1 O1 T1 M1 U1 HC1 f1
  have f2 := X2.out.cell 2 rfl
  have f3 := X2.out.cell 3 rfl
  have f4 := X2.out.cell 4 rfl
  have G2 := OwnA.seg (a := [.slice vA0 d0.length vc0, .slice vA1 d1.length vc1]) (m := [.slice vA2 d2.length vc2, .slice vA3 d3.length vc3]) (b := []) (da := [(Lf.I d0).marks (k), (Lf.I d1).marks (k + (Lf.len (Lf.I d0)))]) (dm := [Lf.I d2, Lf.B d3]) (db := []) O2.out rfl rfl
  have HC2 := Lib.hid (H2.out _ G2 (Nat.le_trans HH.out (by have := X2.out.lt; have := T2.out.size; omega)))
  clear G2
  go_wp2_with fail
  try rw [HKe2.out]
  refine HC2.out.mono ?_
  rintro e w3 ⟨rfl, M2, U2⟩
  have O3 := Lib.hid (OwnA.reseg (a := [.slice vA0 d0.length vc0, .slice vA1 d1.length vc1]) (m := [.slice vA2 d2.length vc2, .slice vA3 d3.length vc3]) (b := []) (da := [(Lf.I d0).marks (k), (Lf.I d1).marks (k + (Lf.len (Lf.I d0)))]) (dm := [Lf.I d2, Lf.B d3]) (db := []) (dm' := marksA (k + (Lf.len (Lf.I d0)) + (Lf.len (Lf.I d1))) [Lf.I d2, Lf.B d3]) O2.out rfl rfl M2.out U2)
  have T3 := Lib.hid (T2.out.chain (U2.mem (by simp +contextual)))
  have X3 : Hid (Box w3 w.heap.size 28 #[.slice vA0 d0.length vc0, .slice vA1 d1.length vc1, .slice vA2 d2.length vc2, .slice vA3 d3.length vc3, .int .i64 d4]) := Lib.hid (X2.out.touch (OwnA.seg (a := [.slice vA0 d0.length vc0, .slice vA1 d1.length vc1]) (m := [.slice vA2 d2.length vc2, .slice vA3 d3.length vc3]) (b := []) (da := [(Lf.I d0).marks (k), (Lf.I d1).marks (k + (Lf.len (Lf.I d0)))]) (dm := [Lf.I d2, Lf.B d3]) (db := []) O2.out rfl rfl) U2 (.inr HH.out))
  clear X2 O2 T2 M2 U2 HC2 f2 f3 f4
  go_wp2
  go_ret
  refine ⟨?_, Lib.hid ?_, T3.out⟩
  · refine ret_int ?_
    simp only [lenA]; omega
  · have := O3.out
    first | exact this | (simp only [marksA, lenA, List.cons_append, List.nil_append, Nat.add_zero, Nat.add_assoc] at this ⊢; exact this)

set_option maxRecDepth 100000 in
set_option maxHeartbeats 4000000 in
theorem heldMemA (vA0 vA1 vA2 vA3 : Option Addr) (vc0 vc1 vc2 vc3 : Nat) (d0 : List Int) (d1 : List Int) (d2 : List Int) (d3 : List Bool) (d4 : Int) (k : Nat) (w : World) (h : RepA w [.slice vA0 d0.length vc0, .slice vA1 d1.length vc1, .slice vA2 d2.length vc2, .slice vA3 d3.length vc3] (marksA k [Lf.I d0, Lf.I d1, Lf.I d2, Lf.B d3])) (hk : 1 ≤ k) (hB : BndA [Lf.I d0, Lf.I d1, Lf.I d2, Lf.B d3]) (hk2 : k + lenA [Lf.I d0, Lf.I d1, Lf.I d2, Lf.B d3] ≤ 549755813888) :
    Calls Try.prog 29 #[.agg #[.slice vA0 d0.length vc0, .slice vA1 d1.length vc1, .slice vA2 d2.length vc2, .slice vA3 d3.length vc3, .int .i64 d4], .int .i64 (k : Int)] w fun e w' => e = .returned (.int .i64 ((k + lenA [Lf.I d0, Lf.I d1, Lf.I d2, Lf.B d3] : Nat) : Int)) ∧ Below w.heap.size w w' := by
  have hb0 := alloc_below w (.cells #[.slice vA0 d0.length vc0, .slice vA1 d1.length vc1, .slice vA2 d2.length vc2, .slice vA3 d3.length vc3, .int .i64 d4] 28)
  have X0 := Lib.hid (Box.new w 28 #[.slice vA0 d0.length vc0, .slice vA1 d1.length vc1, .slice vA2 d2.length vc2, .slice vA3 d3.length vc3, .int .i64 d4])
  simp only [marksA] at h
  have H0 := Lib.hid (fun W (hb : Below w.heap.size w W) => heldLI (.slice vA0 d0.length vc0) d0 (k) W (by have := (h.below hb).1; simpa only [Nat.add_assoc] using this) (by omega) (hB (Lf.I d0) (by simp)) (by simp only [lenA] at hk2 ⊢; omega))
  have H1 := Lib.hid (fun W (hb : Below w.heap.size w W) => heldLI (.slice vA1 d1.length vc1) d1 (k + (Lf.len (Lf.I d0))) W (by have := (h.below hb).2.1; simpa only [Nat.add_assoc] using this) (by omega) (hB (Lf.I d1) (by simp)) (by simp only [lenA] at hk2 ⊢; omega))
  have H2 := Lib.hid (fun W (hb : Below w.heap.size w W) => heldFlashA vA2 vA3 vc2 vc3 d2 d3 d4 (k + (Lf.len (Lf.I d0)) + (Lf.len (Lf.I d1))) W (by have := h.below hb; simp only [marksA, lenA, Nat.add_zero, Nat.add_assoc] at this ⊢; exact ⟨this.2.2.1, this.2.2.2.1, trivial⟩) (by omega) (hB.sub (by simp +contextual)) (by simp only [lenA] at hk2 ⊢; omega))
  clear h hB hk hk2
  go_enter Try.func29, Try.ntmps29
  go_wp2_with fail
  refine (H0.out _ hb0).mono ?_
  rintro e w1 ⟨rfl, hc⟩
  have X1 := Lib.hid (X0.out.step hc)
  have hb1 := bt hb0 hc
  clear X0 hb0 hc
  have hp0 : ¬ ((k + (Lf.len (Lf.I d0)) : Nat) : Int) < 0 := by omega
  have f1 := X1.out.cell 1 rfl
  go_wp2_with fail
  refine (H1.out _ hb1).mono ?_
  rintro e w2 ⟨rfl, hc⟩
  have X2 := Lib.hid (X1.out.step hc)
  have hb2 := bt hb1 hc
  clear X1 hb1 hc f1
  have hp1 : ¬ ((k + (Lf.len (Lf.I d0)) + (Lf.len (Lf.I d1)) : Nat) : Int) < 0 := by omega
  have f2 := X2.out.cell 2 rfl
  have f3 := X2.out.cell 3 rfl
  have f4 := X2.out.cell 4 rfl
  go_wp2_with fail
  refine (H2.out _ hb2).mono ?_
  rintro e w3 ⟨rfl, hc⟩
  have X3 := Lib.hid (X2.out.step hc)
  have hb3 := bt hb2 hc
  clear X2 hb2 hc f2 f3 f4
  have hp2 : ¬ ((k + (Lf.len (Lf.I d0)) + (Lf.len (Lf.I d1)) + lenA [Lf.I d2, Lf.B d3] : Nat) : Int) < 0 := by omega
  go_wp2
  go_ret
  exact ⟨ret_int (by simp only [lenA]; omega), hb3⟩

end Go.Proofs.Ytngoijchebfolaa

/- MemOK on both sides; impl.Mem.check; the regions on both sides. -/
namespace Go.Proofs.Ytngoijchebfolaa
open Go.RowKit

set_option maxRecDepth 100000 in
theorem isAddress (n : Int) (w : World) : Calls Try.prog 81 #[.int .i64 n] w fun e w' => e = .returned (.bool (adB n)) ∧ w = w' := by
  go_enter Try.func81, Try.ntmps81
  go_wp2
  all_goals go_ret
  all_goals (refine ⟨ret_bool ?_, rfl⟩)
  all_goals (unfold adB; rw [Bool.eq_iff_iff]; simp; try omega)
set_option maxRecDepth 100000 in
theorem l01In4095 (n : Int) (w : World) : Calls Try.prog 51 #[.int .i64 n, .int .i64 0, .int .i64 4095] w fun e w' => e = .returned (.bool (adB n)) ∧ w = w' := by
  go_enter Try.func51, Try.ntmps51
  go_wp2
  all_goals go_ret
  all_goals (refine ⟨ret_bool ?_, rfl⟩)
  all_goals (unfold adB; rw [Bool.eq_iff_iff]; simp; try omega)
set_option maxRecDepth 100000 in
theorem l05At (n : Int) (w : World) : Calls Try.prog 97 #[.int .i64 n] w fun e w' => e = .returned (.bool (adB n)) ∧ w = w' := by
  go_enter Try.func97, Try.ntmps97
  go_wp2_with (first | (go_at_call 51; refine (l01In4095 _ _).mono ?_; rintro e w' ⟨rfl, rfl⟩))
  all_goals go_ret
  all_goals exact ⟨rfl, rfl⟩
set_option maxRecDepth 100000 in
theorem l01InF (n : Int) (w : World) : Calls Try.prog 51 #[.int .i64 n, .int .i64 512, .int .i64 767] w fun e w' => e = .returned (.bool (decide (512 ≤ n ∧ n ≤ 767))) ∧ w = w' := by
  go_enter Try.func51, Try.ntmps51
  go_wp2
  all_goals go_ret
  all_goals (refine ⟨ret_bool ?_, rfl⟩)
  all_goals (rw [Bool.eq_iff_iff]; simp; try omega)
set_option maxRecDepth 100000 in
theorem regionOf (n : Int) (w : World) (h0 : 0 ≤ n) (h1 : n ≤ 4095) : Calls Try.prog 114 #[.int .i64 n] w fun e w' => e = .returned (.tuple #[.int .i64 (regR n), .int .i64 (regK n)]) ∧ w = w' := by
  obtain ⟨r, hr⟩ : ∃ r, regR n = r := ⟨_, rfl⟩
  obtain ⟨k, hk⟩ : ∃ k, regK n = k := ⟨_, rfl⟩
  rw [hr, hk]
  unfold regR at hr
  unfold regK at hk
  by_cases a : n < 256
  · rw [if_pos a] at hr hk
    subst hr hk
    go_enter Try.func114, Try.ntmps114
    go_wp2
    exact bodyPost_ret (v := .tuple #[.int .i64 1, .int .i64 n]) (by simp [results, Try.results114, go_sem]) rfl ⟨rfl, rfl⟩
  · rw [if_neg a] at hr hk
    by_cases b : n < 288
    · rw [if_pos b] at hr hk
      have HE := Lib.hid hk
      clear hk
      subst hr
      go_enter Try.func114, Try.ntmps114
      go_wp2
      exact bodyPost_ret (v := .tuple #[.int .i64 2, .int .i64 (n - 256)]) (by simp [results, Try.results114, go_sem]; try omega) rfl ⟨by rw [HE.out], rfl⟩
    · rw [if_neg b] at hr hk
      by_cases c : 512 ≤ n
      · by_cases d : n < 768
        · rw [if_pos ⟨c, by omega⟩] at hr hk
          have HE := Lib.hid hk
          clear hk
          subst hr
          go_enter Try.func114, Try.ntmps114
          go_wp2
          exact bodyPost_ret (v := .tuple #[.int .i64 3, .int .i64 (n - 512)]) (by simp [results, Try.results114, go_sem]; try omega) rfl ⟨by rw [HE.out], rfl⟩
        · rw [if_neg (by omega)] at hr hk
          subst hr hk
          go_enter Try.func114, Try.ntmps114
          go_wp2
          exact bodyPost_ret (v := .tuple #[.int .i64 0, .int .i64 0]) (by simp [results, Try.results114, go_sem]) rfl ⟨rfl, rfl⟩
      · rw [if_neg (by omega)] at hr hk
        subst hr hk
        go_enter Try.func114, Try.ntmps114
        go_wp2
        exact bodyPost_ret (v := .tuple #[.int .i64 0, .int .i64 0]) (by simp [results, Try.results114, go_sem]) rfl ⟨rfl, rfl⟩
set_option maxRecDepth 100000 in
theorem l05Region (n : Int) (w : World) (h0 : 0 ≤ n) (h1 : n ≤ 4095) : Calls Try.prog 116 #[.int .i64 n] w fun e w' => e = .returned (.tuple #[.int .i64 (regR n), .int .i64 (regK n)]) ∧ w = w' := by
  obtain ⟨r, hr⟩ : ∃ r, regR n = r := ⟨_, rfl⟩
  obtain ⟨k, hk⟩ : ∃ k, regK n = k := ⟨_, rfl⟩
  rw [hr, hk]
  unfold regR at hr
  unfold regK at hk
  by_cases a : n < 256
  · rw [if_pos a] at hr hk
    subst hr hk
    go_enter Try.func116, Try.ntmps116
    go_wp2
    exact bodyPost_ret (v := .tuple #[.int .i64 1, .int .i64 n]) (by simp [results, Try.results116, go_sem]) rfl ⟨rfl, rfl⟩
  · rw [if_neg a] at hr hk
    by_cases b : n < 288
    · rw [if_pos b] at hr hk
      have HE := Lib.hid hk
      clear hk
      subst hr
      go_enter Try.func116, Try.ntmps116
      go_wp2
      exact bodyPost_ret (v := .tuple #[.int .i64 2, .int .i64 (n - 256)]) (by simp [results, Try.results116, go_sem]; try omega) rfl ⟨by rw [HE.out], rfl⟩
    · rw [if_neg b] at hr hk
      by_cases c : 512 ≤ n ∧ n ≤ 767
      · rw [if_pos c] at hr hk
        have HE := Lib.hid hk
        have HC := Lib.hid (decide_eq_true c)
        clear hk
        subst hr
        have c1 := c.1
        have c2 := c.2
        clear c
        go_enter Try.func116, Try.ntmps116
        go_wp2_with (first | (go_at_call 51; refine (l01InF _ _).mono ?_; rintro e w' ⟨rfl, rfl⟩; rw [HC.out]))
        exact bodyPost_ret (v := .tuple #[.int .i64 3, .int .i64 (n - 512)]) (by simp [results, Try.results116, go_sem]; try omega) rfl ⟨by rw [HE.out], rfl⟩
      · rw [if_neg c] at hr hk
        have HC := Lib.hid (decide_eq_false c)
        clear c
        subst hr hk
        go_enter Try.func116, Try.ntmps116
        go_wp2_with (first | (go_at_call 51; refine (l01InF _ _).mono ?_; rintro e w' ⟨rfl, rfl⟩; rw [HC.out]))
        exact bodyPost_ret (v := .tuple #[.int .i64 0, .int .i64 0]) (by simp [results, Try.results116, go_sem]) rfl ⟨rfl, rfl⟩

set_option maxRecDepth 100000 in
set_option maxHeartbeats 1000000 in
theorem l05Bytes (A : Option Addr) (n c : Nat) (zs : List Int) (w : World) (hl : zs.length = n) (hn : n ≤ maxLen) (h : IntL w A zs) :
    Calls Try.prog 91 #[.slice A n c] w fun e w' => e = .returned (.bool (zs.all byB)) ∧ w = w' := by
  unfold maxLen at hn
  have HL := Lib.hid hl
  have H := Lib.hid h
  clear hl h
  go_enter Try.func91, Try.ntmps91
  go_wp2
  go_loop [3] (fun i => ∃ k : Nat, k ≤ n ∧ i = .int .i64 k ∧ Hid (zs.all byB = (zs.drop k).all byB)) (fun i => n - (intOf i).toNat)
  case atStart => exact ⟨0, Nat.zero_le _, rfl, Lib.hid rfl⟩
  case round =>
    obtain ⟨k, hk, rfl, HT⟩ := hrel
    by_cases hlt : k < n
    · obtain ⟨b, off, rfl, hc⟩ := H.out k (by rw [HL.out]; exact hlt)
      have HS := Lib.hid (all_step byB zs 0 k (by rw [HL.out]; exact hlt))
      generalize zs.getD k 0 = x at hc HS
      have hi : (k : Int) < (n : Int) := by omega
      by_cases hE : byB x = true
      · go_wp2_with (first | (go_at_call 51; refine (l01In255 _ _).mono ?_; rintro e w' ⟨rfl, rfl⟩; rw [hE]))
        go_round
        case rel => exact ⟨k + 1, by omega, by go_num, Lib.hid (by rw [HT.out, HS.out, hE]; rfl)⟩
        case measure => simp [intOf]; omega
      · have hE' : byB x = false := by simpa using hE
        clear hE
        go_wp2_with (first | (go_at_call 51; refine (l01In255 _ _).mono ?_; rintro e w' ⟨rfl, rfl⟩; rw [hE']))
        go_ret
        exact ⟨ret_bool (by rw [HT.out, HS.out, hE']; rfl), rfl⟩
    · have HT2 : Hid (zs.all byB = true) := Lib.hid (by rw [HT.out]; exact all_end _ _ _ (by rw [HL.out]; omega))
      go_wp2
      go_ret
      exact ⟨ret_bool HT2.out.symm, rfl⟩

section
variable (A0 A1 A2 A3 : Option Addr) (n0 n1 n2 n3 c0 c1 c2 c3 : Nat) (d0 d1 d2 : List Int) (d3 : List Bool) (d4 : Int) (w : World)
set_option maxRecDepth 100000 in
set_option maxHeartbeats 4000000 in
theorem memValid (l0 : d0.length = n0) (l1 : d1.length = n1) (l2 : d2.length = n2) (l3 : d3.length = n3) (m0 : n0 ≤ maxLen) (m1 : n1 ≤ maxLen) (m2 : n2 ≤ maxLen) (m3 : n3 ≤ maxLen) (h0 : IntL w A0 d0) (h1 : IntL w A1 d1) (h2 : IntL w A2 d2) :
    Calls Try.prog 64 #[.agg #[.slice A0 n0 c0, .slice A1 n1 c1, .slice A2 n2 c2, .slice A3 n3 c3, .int .i64 d4]] w fun e w' => e = .returned (.bool (okMem d0 d1 d2 d3 d4)) ∧ Below w.heap.size w w' := by
  have hb0 := alloc_below w (.cells #[.slice A0 n0 c0, .slice A1 n1 c1, .slice A2 n2 c2, .slice A3 n3 c3, .int .i64 d4] 28)
  have HB0 := Lib.hid (allBytes A0 n0 c0 d0 _ l0 m0 (h0.below hb0))
  have HB1 := Lib.hid (allBytes A1 n1 c1 d1 _ l1 m1 (h1.below hb0))
  have HF := Lib.hid (flashValid A2 A3 n2 c2 n3 c3 d4 d2 d3 _ l2 l3 m2 m3 (h2.below hb0))
  have HL := Lib.hid (And.intro l0 l1)
  unfold maxLen at m0 m1 m2 m3
  clear l0 l1 l2 l3 h0 h1 h2
  by_cases e0 : n0 = 256
  · have q0 : ((n0 : Int) == 256) = true := by simp; omega
    by_cases e1 : n1 = 32
    · have q1 : ((n1 : Int) == 32) = true := by simp; omega
      by_cases e2 : d0.all byB = true
      · by_cases e3 : d1.all byB = true
        · have HY := Lib.hid (okMem_yes d0 d1 d2 d3 d4 (by rw [HL.out.1]; exact e0) (by rw [HL.out.2]; exact e1) e2 e3)
          rw [e2] at HB0
          rw [e3] at HB1
          generalize okMem d0 d1 d2 d3 d4 = r at HY
          generalize okFlash d2 d3 d4 = o at HF HY
          clear e0 e1 e2 e3
          go_enter Try.func64, Try.ntmps64
          go_wp2_with fail
          refine HB0.out.mono ?_
          rintro e w' ⟨rfl, rfl⟩
          go_wp2_with fail
          refine HB1.out.mono ?_
          rintro e w' ⟨rfl, rfl⟩
          go_wp2_with fail
          refine HF.out.mono ?_
          rintro e w2 ⟨rfl, hb2⟩
          go_wp2
          all_goals go_ret
          all_goals exact ⟨ret_bool HY.out.symm, bt hb0 hb2⟩
        · have e3' : d1.all byB = false := by simpa using e3
          have HY := Lib.hid (okMem_no4 d0 d1 d2 d3 d4 e3')
          rw [e2] at HB0
          rw [e3'] at HB1
          clear e0 e1 e2 e3 e3'
          go_enter Try.func64, Try.ntmps64
          go_wp2_with fail
          refine HB0.out.mono ?_
          rintro e w' ⟨rfl, rfl⟩
          go_wp2_with fail
          refine HB1.out.mono ?_
          rintro e w' ⟨rfl, rfl⟩
          go_wp2
          all_goals go_ret
          all_goals exact ⟨ret_bool HY.out.symm, hb0⟩
      · have e2' : d0.all byB = false := by simpa using e2
        have HY := Lib.hid (okMem_no3 d0 d1 d2 d3 d4 e2')
        rw [e2'] at HB0
        clear e0 e1 e2 e2'
        go_enter Try.func64, Try.ntmps64
        go_wp2_with fail
        refine HB0.out.mono ?_
        rintro e w' ⟨rfl, rfl⟩
        go_wp2
        all_goals go_ret
        all_goals exact ⟨ret_bool HY.out.symm, hb0⟩
    · have q1 : ((n1 : Int) == 32) = false := by simp; omega
      have HY := Lib.hid (okMem_no2 d0 d1 d2 d3 d4 (by rw [HL.out.2]; exact e1))
      clear e0 e1
      go_enter Try.func64, Try.ntmps64
      go_wp2
      all_goals go_ret
      all_goals exact ⟨ret_bool HY.out.symm, hb0⟩
  · have q0 : ((n0 : Int) == 256) = false := by simp; omega
    have HY := Lib.hid (okMem_no1 d0 d1 d2 d3 d4 (by rw [HL.out.1]; exact e0))
    clear e0
    go_enter Try.func64, Try.ntmps64
    go_wp2
    all_goals go_ret
    all_goals exact ⟨ret_bool HY.out.symm, hb0⟩

set_option maxRecDepth 100000 in
set_option maxHeartbeats 4000000 in
theorem specMemOK (l0 : d0.length = n0) (l1 : d1.length = n1) (l2 : d2.length = n2) (l3 : d3.length = n3) (m0 : n0 ≤ maxLen) (m1 : n1 ≤ maxLen) (m2 : n2 ≤ maxLen) (m3 : n3 ≤ maxLen) (h0 : IntL w A0 d0) (h1 : IntL w A1 d1) (h2 : IntL w A2 d2) :
    Calls Try.prog 50 #[.agg #[.slice A0 n0 c0, .slice A1 n1 c1, .slice A2 n2 c2, .slice A3 n3 c3, .int .i64 d4]] w fun e w' => e = .returned (.bool (okMem d0 d1 d2 d3 d4)) ∧ Below w.heap.size w w' := by
  have hb0 := alloc_below w (.cells #[.slice A0 n0 c0, .slice A1 n1 c1, .slice A2 n2 c2, .slice A3 n3 c3, .int .i64 d4] 28)
  have HB0 := Lib.hid (l05Bytes A0 n0 c0 d0 _ l0 m0 (h0.below hb0))
  have HB1 := Lib.hid (l05Bytes A1 n1 c1 d1 _ l1 m1 (h1.below hb0))
  have HF := Lib.hid (specFlashOK A2 A3 n2 c2 n3 c3 d4 d2 d3 _ l2 l3 m2 m3 (h2.below hb0))
  have HL := Lib.hid (And.intro l0 l1)
  unfold maxLen at m0 m1 m2 m3
  clear l0 l1 l2 l3 h0 h1 h2
  by_cases e0 : n0 = 256
  · have q0 : ((n0 : Int) == 256) = true := by simp; omega
    by_cases e1 : n1 = 32
    · have q1 : ((n1 : Int) == 32) = true := by simp; omega
      by_cases e2 : d0.all byB = true
      · by_cases e3 : d1.all byB = true
        · have HY := Lib.hid (okMem_yes d0 d1 d2 d3 d4 (by rw [HL.out.1]; exact e0) (by rw [HL.out.2]; exact e1) e2 e3)
          rw [e2] at HB0
          rw [e3] at HB1
          generalize okMem d0 d1 d2 d3 d4 = r at HY
          generalize okFlash d2 d3 d4 = o at HF HY
          clear e0 e1 e2 e3
          go_enter Try.func50, Try.ntmps50
          go_wp2_with fail
          refine HB0.out.mono ?_
          rintro e w' ⟨rfl, rfl⟩
          go_wp2_with fail
          refine HB1.out.mono ?_
          rintro e w' ⟨rfl, rfl⟩
          go_wp2_with fail
          refine HF.out.mono ?_
          rintro e w2 ⟨rfl, hb2⟩
          go_wp2
          all_goals go_ret
          all_goals exact ⟨ret_bool HY.out.symm, bt hb0 hb2⟩
        · have e3' : d1.all byB = false := by simpa using e3
          have HY := Lib.hid (okMem_no4 d0 d1 d2 d3 d4 e3')
          rw [e2] at HB0
          rw [e3'] at HB1
          clear e0 e1 e2 e3 e3'
          go_enter Try.func50, Try.ntmps50
          go_wp2_with fail
          refine HB0.out.mono ?_
          rintro e w' ⟨rfl, rfl⟩
          go_wp2_with fail
          refine HB1.out.mono ?_
          rintro e w' ⟨rfl, rfl⟩
          go_wp2
          all_goals go_ret
          all_goals exact ⟨ret_bool HY.out.symm, hb0⟩
      · have e2' : d0.all byB = false := by simpa using e2
        have HY := Lib.hid (okMem_no3 d0 d1 d2 d3 d4 e2')
        rw [e2'] at HB0
        clear e0 e1 e2 e2'
        go_enter Try.func50, Try.ntmps50
        go_wp2_with fail
        refine HB0.out.mono ?_
        rintro e w' ⟨rfl, rfl⟩
        go_wp2
        all_goals go_ret
        all_goals exact ⟨ret_bool HY.out.symm, hb0⟩
    · have q1 : ((n1 : Int) == 32) = false := by simp; omega
      have HY := Lib.hid (okMem_no2 d0 d1 d2 d3 d4 (by rw [HL.out.2]; exact e1))
      clear e0 e1
      go_enter Try.func50, Try.ntmps50
      go_wp2
      all_goals go_ret
      all_goals exact ⟨ret_bool HY.out.symm, hb0⟩
  · have q0 : ((n0 : Int) == 256) = false := by simp; omega
    have HY := Lib.hid (okMem_no1 d0 d1 d2 d3 d4 (by rw [HL.out.1]; exact e0))
    clear e0
    go_enter Try.func50, Try.ntmps50
    go_wp2
    all_goals go_ret
    all_goals exact ⟨ret_bool HY.out.symm, hb0⟩
end
end Go.Proofs.Ytngoijchebfolaa

/- slices.Clone of a row of ints that is not empty; the chip's read. -/
namespace Go.Proofs.Ytngoijchebfolaa
open Go.RowKit

/-- A row of the call's own. -/
def GivesRow (n : Nat) (zs : List Int) (w : World) (e : Ending) (w' : World) : Prop :=
  ∃ A c, e = .returned (.slice A n c) ∧ Hid (OwnI w' w.heap.size w'.heap.size A zs) ∧ Below w.heap.size w w'

set_option maxRecDepth 100000 in
set_option maxHeartbeats 1000000 in
theorem cloneI (A : Option Addr) (n c : Nat) (zs : List Int) (w : World) (hl : zs.length = n) (hn : 0 < n) (hn2 : n ≤ 256) (h : IntL w A zs) :
    Calls Try.prog 84 #[.slice A n c] w (GivesRow n zs w) := by
  obtain ⟨ad, rfl, -⟩ := h.src (by omega)
  have HS := Lib.hid (fun W (hb : Below w.heap.size w W) => (h.below hb).src (by omega))
  have HC : Hid ((cellsI zs).length = n * 1) := Lib.hid (by rw [cellsI_len]; omega)
  have hba := alloc_below w (.cells #[] 3)
  have hnil : ∀ W : World, (binOp .eql 23 (.slice (some ad) n c) (.slice none 0 0)).run Try.prog W = .ok (.bool false) W := fun W => Lib.run_eql_slice_nil W _ _ (some ad) n c 0 0 Try.underlying23
  clear hl h
  go_enter Try.func84, Try.ntmps84
  go_wp2_with (first | (with_reducible refine wpList_app_fresh rfl (.tmp 5) (.tmp 6) 23 rfl 3 (.int .i64 0) 1 8 Try.underlying23 infoIx rfl (by decide) _ rfl (some ad) n c hn (cellsI zs) rfl HC.out (HS.out _ hba) (by unfold maxLen; omega) (by omega) ?_))
  intro A1 c1 w1 hb1 O1
  have hk1 := hba.trans (hb1.mono (by omega))
  have S1 := Lib.hid (ownI_fresh (lo := w.heap.size) O1.out hn (by omega))
  clear HS HC hba hb1 O1
  go_wp2
  go_ret
  exact ⟨_, _, rfl, S1, hk1⟩
end Go.Proofs.Ytngoijchebfolaa

/- busOf: the four devices of a memory. -/
namespace Go.Proofs.Ytngoijchebfolaa
open Go.RowKit

theorem fold_set (cs : List Value) : ∀ (k : Nat) (z : Array Value), z.size = k + cs.length → (cs.zipIdx k).foldl (fun a (x : Value × Nat) => a.setIfInBounds x.2 x.1) z = (z.toList.take k ++ cs).toArray := by
  induction cs with
  | nil =>
    intro k z h
    simp only [List.zipIdx_nil, List.foldl_nil, List.append_nil]
    simp at h
    rw [List.take_of_length_le (by simp [h])]
  | cons c cs ih =>
    intro k z h
    simp only [List.zipIdx_cons, List.foldl_cons]
    rw [ih (k + 1) _ (by simp at h ⊢; omega)]
    congr 1
    simp only [Array.toList_setIfInBounds]
    simp at h
    rw [List.take_set, List.take_add_one]
    simp only [List.set_append, List.length_take]
    rw [show z.toList[k]? = some (z.toList[k]'(by simp; omega)) from List.getElem?_eq_getElem (by simp; omega)]
    simp
    rw [if_neg (by omega)]
    rw [show k - min k z.size = 0 by omega]
    simp
theorem fold_all (cs : List Value) (z : Array Value) (h : z.size = cs.length) : cs.toArray.zipIdx.foldl (fun a (x : Value × Nat) => a.setIfInBounds x.2 x.1) z = cs.toArray := by
  have := fold_set cs 0 z (by omega)
  rw [← Array.foldl_toList]
  simpa using this
set_option maxRecDepth 100000 in
theorem infoK0 : (Try.prog.info? 122).map (fun i => (i.zero, i.size)) = some (some (.agg zC.toArray), 273) := by kernel_rfl
set_option maxRecDepth 100000 in
theorem infoK : ∃ i : TypeInfo, Try.prog.info? 122 = some i ∧ i.zero = some (.agg zC.toArray) := by
  obtain ⟨i, hi, hzz⟩ := Option.map_eq_some_iff.1 infoK0
  simp only [Prod.mk.injEq] at hzz
  exact ⟨i, hi, hzz.1⟩
set_option maxRecDepth 100000 in
theorem sizeChip : (Try.prog.info? 119).map (·.size) = some 273 := by kernel_rfl
set_option maxRecDepth 100000 in
theorem buildK (cs : List Value) (hl : cs.length = 273) (w : World) : (Instr.build 122 #[(0, .agg cs.toArray)]).run Try.prog w = .ok (.agg cs.toArray) w := by
  obtain ⟨i, hi, hz⟩ := infoK
  obtain ⟨j, hj, hs⟩ := Option.map_eq_some_iff.1 sizeChip
  have hzv : (zeroValue 122).run Try.prog w = .ok (.agg zC.toArray) w := by simp [zeroValue, typeInfo, hi, hz]
  have hfd := fold_all cs zC.toArray (by simp [hl, zC_len])
  have hf : Instr.fill (fun x => ([(0, 273)] : List (Nat × Nat))[x]?) zC.toArray [(0, Value.agg cs.toArray)] = some cs.toArray := by
    have hfd2 : List.foldl (fun (cs : Array Value) (x : Value × Nat) => cs.setIfInBounds x.snd x.fst) zC.toArray cs.zipIdx = cs.toArray := by rw [← hfd]; simp
    simp [Instr.fill, Value.cells, zC_len, hl, hfd2]
  simp [Instr.build, hzv, Value.cells, hf, sizeOf, typeInfo, hj, hs]

/-- The devices of a memory: each behind its pointer. -/
structure BusAt (w : World) (lo g b0 b1 b2 b3 : Nat) (A0 A1 : Option Addr) (c0 c1 : Nat) (ram io zs : List Int) (gs : List Bool) (st : Int) : Prop where
  r : Box w b0 114 #[.slice A0 256 c0]
  i : Box w b1 115 #[.slice A1 32 c1]
  f : Box w b2 122 (chipC zs gs st).toArray
  o : Box w b3 124 #[]
  R : OwnI w lo g A0 ram
  I : OwnI w g w.heap.size A1 io
  l : lo ≤ b0 ∧ lo ≤ b1 ∧ lo ≤ b2 ∧ lo ≤ b3 ∧ lo ≤ g ∧ g ≤ w.heap.size
def GivesBus (ram io zs : List Int) (gs : List Bool) (st : Int) (w : World) (e : Ending) (w' : World) : Prop :=
  ∃ g b0 b1 b2 b3 A0 A1 c0 c1, e = .returned (.agg #[.pointer (some ⟨b0, 0, none⟩), .pointer (some ⟨b1, 0, none⟩), .pointer (some ⟨b2, 0, none⟩), .pointer (some ⟨b3, 0, none⟩)]) ∧ Hid (BusAt w' w.heap.size g b0 b1 b2 b3 A0 A1 c0 c1 ram io zs gs st) ∧ Below w.heap.size w w'
set_option maxRecDepth 100000 in
theorem zeroK_size : Try.zeroCells122.size = 273 := by kernel_rfl

/-- What the result's cell holds, whatever it is. -/
def YV (b : Nat) (W : World) (j : Nat) : Value := (W.cell? ⟨b, j, none⟩).getD undef
theorem YV.of {b : Nat} {W : World} {t : TypeId} {cs : Array Value} (h : Box W b t cs) (hs : cs.size = 4) (j : Nat) (hj : j < 4) : W.cell? ⟨b, j, none⟩ = some (YV b W j) := by
  have := h.cell j (Array.getElem?_eq_getElem (by omega : j < cs.size))
  unfold YV; rw [this]; rfl
/-- A world of the region: the old blocks are as they were, the result's block is there. -/
def RB (W0 : World) (m : Nat) (W : World) : Prop := Below (m + 1) W0 W ∧ m + 1 ≤ W.heap.size ∧ ∃ cs : Array Value, cs.size = 4 ∧ Box W (m + 1) 80 cs
theorem RB.alloc {W0 W : World} {m : Nat} (h : RB W0 m W) (o : Obj) : RB W0 m (W.alloc o) := by
  obtain ⟨a, q, cs, hs, b⟩ := h
  exact ⟨a.trans ((alloc_below W o).mono q), by simp; omega, cs, hs, b.alloc o⟩
theorem RB.step {W0 W W' : World} {m : Nat} (h : RB W0 m W) (k : Below W.heap.size W W') : RB W0 m W' := by
  obtain ⟨a, q, cs, hs, b⟩ := h
  exact ⟨a.trans (k.mono q), Nat.le_trans q k.size, cs, hs, b.step k⟩
theorem RB.set {W0 W : World} {m : Nat} (h : RB W0 m W) (j : Nat) (v : Value) : RB W0 m (W.setCell ⟨m + 1, j, none⟩ v) := by
  obtain ⟨a, q, cs, hs, b⟩ := h
  exact ⟨a.setCell (p := ⟨m + 1, j, none⟩) (Nat.le_refl _) v, by simpa [World.setCell] using q, _, by simpa using hs, b.set j v⟩

theorem Box.box_ne {w : World} {b b' : Nat} {t t' : TypeId} {cs cs' : Array Value} (X : Box w b t cs) (Y : Box w b' t' cs') (ht : t ≠ t') : b ≠ b' := by
  rintro rfl
  have : some (Obj.cells cs t (0, 0)) = some (Obj.cells cs' t' (0, 0)) := X.symm.trans Y
  injection this with this
  injection this with _ this
  exact ht this
theorem arr21 (T : Array Value) (h : T.size = 21) : ∃ t0 t1 t2 t3 t4 t5 t6 t7 t8 t9 t10 t11 t12 t13 t14 t15 t16 t17 t18 t19 t20 : Value, T = #[t0, t1, t2, t3, t4, t5, t6, t7, t8, t9, t10, t11, t12, t13, t14, t15, t16, t17, t18, t19, t20] := by
  obtain ⟨l⟩ := T
  match l, h with
  | [t0, t1, t2, t3, t4, t5, t6, t7, t8, t9, t10, t11, t12, t13, t14, t15, t16, t17, t18, t19, t20], _ => exact ⟨t0, t1, t2, t3, t4, t5, t6, t7, t8, t9, t10, t11, t12, t13, t14, t15, t16, t17, t18, t19, t20, rfl⟩
theorem Box.all4 {w : World} {b : Nat} {t : TypeId} {cs : Array Value} (X : Box w b t cs) (hs : cs.size = 4) (u0 u1 u2 u3 : Value) :
    Box ((((w.setCell ⟨b, 0, none⟩ u0).setCell ⟨b, 1, none⟩ u1).setCell ⟨b, 2, none⟩ u2).setCell ⟨b, 3, none⟩ u3) b t #[u0, u1, u2, u3] := by
  have := (((X.set 0 u0).set 1 u1).set 2 u2).set 3 u3
  rw [show (((cs.setIfInBounds 0 u0).setIfInBounds 1 u1).setIfInBounds 2 u2).setIfInBounds 3 u3 = #[u0, u1, u2, u3] from by
    match cs, hs with
    | ⟨[a, b, c, d]⟩, _ => rfl] at this
  exact this

/-- What each operation of busOf has done. -/
def busF (M : Nat) (s0 s1 : Value) (fl : Value) (cs : List Value) (ram io : List Int) : Nat → (Nat → Value) → World → Prop
  | 0, t, _ => t 3 = .pointer (some ⟨M, 0, none⟩)
  | 1, t, _ => t 4 = s0
  | 2, t, w => ∃ A c, t 5 = .slice A 256 c ∧ OwnI w M w.heap.size A ram
  | 3, t, _ => ∃ A c, t 5 = .slice A 256 c ∧ t 6 = .agg #[.slice A 256 c]
  | 4, t, w => ∃ b A c, t 5 = .slice A 256 c ∧ t 7 = .pointer (some ⟨b, 0, none⟩) ∧ Box w b 114 #[.slice A 256 c] ∧ M ≤ b
  | 5, t, _ => t 8 = .pointer (some ⟨M, 1, none⟩)
  | 6, t, _ => t 9 = s1
  | 7, t, w => ∃ g A c A' c', t 5 = .slice A 256 c ∧ t 10 = .slice A' 32 c' ∧ OwnI w M g A ram ∧ OwnI w g w.heap.size A' io ∧ M ≤ g ∧ g ≤ w.heap.size
  | 8, t, _ => ∃ A c, t 10 = .slice A 32 c ∧ t 11 = .agg #[.slice A 32 c]
  | 9, t, w => ∃ b A c, t 10 = .slice A 32 c ∧ t 12 = .pointer (some ⟨b, 0, none⟩) ∧ Box w b 115 #[.slice A 32 c] ∧ M ≤ b
  | 10, t, _ => t 13 = .pointer (some ⟨M, 2, none⟩)
  | 11, t, _ => t 14 = fl
  | 12, t, _ => t 15 = .agg cs.toArray
  | 13, t, _ => t 16 = .agg cs.toArray
  | 14, t, w => ∃ b, t 17 = .pointer (some ⟨b, 0, none⟩) ∧ Box w b 122 cs.toArray ∧ M ≤ b
  | 15, t, _ => t 18 = .agg #[]
  | 16, t, w => ∃ b, t 19 = .pointer (some ⟨b, 0, none⟩) ∧ Box w b 124 #[] ∧ M ≤ b
  | 17, t, _ => t 20 = .agg #[t 7, t 12, t 17, t 19]
  | 18, t, w => Box w (M + 1) 80 #[t 7, t 12, t 17, t 19]
  | _, _, _ => True
theorem busF_below {M : Nat} {s0 s1 fl : Value} {cs : List Value} {ram io : List Int} {w w' : World} (k : Below w.heap.size w w') : ∀ (j : Nat) (t : Nat → Value), busF M s0 s1 fl cs ram io j t w → busF M s0 s1 fl cs ram io j t w'
  | 0, _, h | 1, _, h | 3, _, h | 5, _, h | 6, _, h | 8, _, h | 10, _, h | 11, _, h | 12, _, h | 13, _, h | 15, _, h | 17, _, h => h
  | 2, _, ⟨A, c, e, h⟩ => ⟨A, c, e, (h.below k).wideB (Nat.le_refl _) k.size⟩
  | 4, _, ⟨b, A, c, e, e2, h, q⟩ => ⟨b, A, c, e, e2, h.step k, q⟩
  | 7, _, ⟨g, A, c, A', c', e, e2, h, h2, q, q2⟩ => ⟨g, A, c, A', c', e, e2, h.below k, (h2.below k).wideB (Nat.le_refl _) k.size, q, Nat.le_trans q2 k.size⟩
  | 9, _, ⟨b, A, c, e, e2, h, q⟩ => ⟨b, A, c, e, e2, h.step k, q⟩
  | 14, _, ⟨b, e, h, q⟩ => ⟨b, e, h.step k, q⟩
  | 16, _, ⟨b, e, h, q⟩ => ⟨b, e, h.step k, q⟩
  | 18, _, h => Box.step h k
  | n + 19, _, _ => trivial
theorem busF_store {M : Nat} {s0 s1 fl : Value} {cs : List Value} {ram io : List Int} {w : World} {ys : Array Value} (Y : Box w (M + 1) 80 ys) (i : Nat) (u : Value) : ∀ (j : Nat) (t : Nat → Value), j ≠ 18 → busF M s0 s1 fl cs ram io j t w → busF M s0 s1 fl cs ram io j t (w.setCell ⟨M + 1, i, none⟩ u)
  | 0, _, _, h | 1, _, _, h | 3, _, _, h | 5, _, _, h | 6, _, _, h | 8, _, _, h | 10, _, _, h | 11, _, _, h | 12, _, _, h | 13, _, _, h | 15, _, _, h | 17, _, _, h => h
  | 2, _, _, ⟨A, c, e, h⟩ => ⟨A, c, e, (h.farB Y (by decide) i u).wideB (Nat.le_refl _) (by simp [World.setCell])⟩
  | 4, _, _, ⟨b, A, c, e, e2, h, q⟩ => ⟨b, A, c, e, e2, h.far (p := ⟨M + 1, i, none⟩) (h.box_ne Y (by decide)) u, q⟩
  | 7, _, _, ⟨g, A, c, A', c', e, e2, h, h2, q, q2⟩ => ⟨g, A, c, A', c', e, e2, h.farB Y (by decide) i u, (h2.farB Y (by decide) i u).wideB (Nat.le_refl _) (by simp [World.setCell]), q, by simpa [World.setCell] using q2⟩
  | 9, _, _, ⟨b, A, c, e, e2, h, q⟩ => ⟨b, A, c, e, e2, h.far (p := ⟨M + 1, i, none⟩) (h.box_ne Y (by decide)) u, q⟩
  | 14, _, _, ⟨b, e, h, q⟩ => ⟨b, e, h.far (p := ⟨M + 1, i, none⟩) (h.box_ne Y (by decide)) u, q⟩
  | 16, _, _, ⟨b, e, h, q⟩ => ⟨b, e, h.far (p := ⟨M + 1, i, none⟩) (h.box_ne Y (by decide)) u, q⟩
  | 18, _, n, _ => (n rfl).elim
  | n + 19, _, _, _ => trivial

set_option maxRecDepth 100000 in
set_option maxHeartbeats 8000000 in
theorem busOf (A0 A1 A2 A3 : Option Addr) (c0 c1 c2 c3 : Nat) (d0 d1 d2 : List Int) (d3 : List Bool) (d4 : Int) (w : World) (l0 : d0.length = 256) (l1 : d1.length = 32) (l2 : d2.length = 256) (l3 : d3.length = 16) (hz : ∀ z ∈ d2, 0 ≤ z ∧ z ≤ 255) (h0 : IntL w A0 d0) (h1 : IntL w A1 d1) (h2 : IntL w A2 d2) (h3 : BoolL w A3 d3) :
    Calls Try.prog 45 #[.agg #[.slice A0 256 c0, .slice A1 32 c1, .slice A2 256 c2, .slice A3 16 c3, .int .i64 d4]] w (GivesBus d0 d1 d2 d3 d4 w) := by
  obtain ⟨W0, hW0⟩ : ∃ W0, W0 = ((w.alloc (.cells #[.slice A0 256 c0, .slice A1 32 c1, .slice A2 256 c2, .slice A3 16 c3, .int .i64 d4] 28)).alloc (.cells #[.pointer none, .pointer none, .pointer none, .pointer none] 80)) := ⟨_, rfl⟩
  have hb0 : Below w.heap.size w W0 := by rw [hW0]; exact bt (alloc_below _ _) (alloc_below _ _)
  have X0 : Box W0 w.heap.size 28 #[.slice A0 256 c0, .slice A1 32 c1, .slice A2 256 c2, .slice A3 16 c3, .int .i64 d4] := by rw [hW0]; exact (Box.new _ _ _).alloc _
  have Y0 : Box W0 (w.heap.size + 1) 80 #[.pointer none, .pointer none, .pointer none, .pointer none] := by rw [hW0]; simpa using Box.new (w.alloc (.cells #[.slice A0 256 c0, .slice A1 32 c1, .slice A2 256 c2, .slice A3 16 c3, .int .i64 d4] 28)) 80 #[.pointer none, .pointer none, .pointer none, .pointer none]
  have hs0 : W0.heap.size = w.heap.size + 2 := by rw [hW0]; simp
  have HB : Hid (∀ W, RB W0 w.heap.size W → Below w.heap.size w W) := Lib.hid (fun W r => hb0.trans (r.1.mono (by omega)))
  have HC0 := Lib.hid (fun W (r : RB W0 w.heap.size W) => cloneI A0 256 c0 d0 W l0 (by omega) (by omega) (h0.below (HB.out _ r)))
  have HC1 := Lib.hid (fun W (r : RB W0 w.heap.size W) => cloneI A1 32 c1 d1 W l1 (by omega) (by omega) (h1.below (HB.out _ r)))
  have HCh := Lib.hid (fun W (r : RB W0 w.heap.size W) => chipOf A2 A3 256 c2 16 c3 d4 d2 d3 W l2 l3 rfl rfl hz (h2.below (HB.out _ r)) (h3.below (HB.out _ r)))
  unfold GivesChip at HCh
  have hcl : (chipC d2 d3 d4).length = 273 := chipC_273 l2 l3 d4
  have hfo : List.foldl (fun (cs : Array Value) (x : Value × Nat) => cs.setIfInBounds x.snd x.fst) Try.zeroCells122 (chipC d2 d3 d4).zipIdx = (chipC d2 d3 d4).toArray := by
    have := fold_set (chipC d2 d3 d4) 0 Try.zeroCells122 (by rw [zeroK_size, hcl])
    simpa using this
  have HK : Hid (∀ W', RB W0 w.heap.size W' → W'.cell? ⟨w.heap.size, 0, none⟩ = some (.slice A0 256 c0) ∧ W'.cell? ⟨w.heap.size, 1, none⟩ = some (.slice A1 32 c1) ∧ W'.cell? ⟨w.heap.size, 2, none⟩ = some (.slice A2 256 c2) ∧ W'.cell? ⟨w.heap.size, 3, none⟩ = some (.slice A3 16 c3) ∧ W'.cell? ⟨w.heap.size, 4, none⟩ = some (.int .i64 d4) ∧ (W'.cell? ⟨w.heap.size + 1, 0, none⟩ = some (YV (w.heap.size + 1) W' 0) ∧ W'.cell? ⟨w.heap.size + 1, 1, none⟩ = some (YV (w.heap.size + 1) W' 1) ∧ W'.cell? ⟨w.heap.size + 1, 2, none⟩ = some (YV (w.heap.size + 1) W' 2) ∧ W'.cell? ⟨w.heap.size + 1, 3, none⟩ = some (YV (w.heap.size + 1) W' 3)) ∧ W'.frozen? ⟨w.heap.size + 1, 0, none⟩ = false ∧ W'.frozen? ⟨w.heap.size + 1, 1, none⟩ = false ∧ W'.frozen? ⟨w.heap.size + 1, 2, none⟩ = false ∧ W'.frozen? ⟨w.heap.size + 1, 3, none⟩ = false) := Lib.hid (fun W' r => by
    have X := X0.below r.1 (by omega)
    obtain ⟨a, q, cs, hs, b⟩ := r
    exact ⟨X.cell 0 rfl, X.cell 1 rfl, X.cell 2 rfl, X.cell 3 rfl, X.cell 4 rfl, ⟨YV.of b hs 0 (by omega), YV.of b hs 1 (by omega), YV.of b hs 2 (by omega), YV.of b hs 3 (by omega)⟩, b.frozen 0, b.frozen 1, b.frozen 2, b.frozen 3⟩)
  generalize hcs : chipC d2 d3 d4 = cs at HCh hcl hfo
  have HCs := Lib.hid hcs
  have HW0 := Lib.hid hW0
  have R0 : RB W0 w.heap.size W0.drew := ⟨(Below.refl _ _).drew, by show w.heap.size + 1 ≤ W0.heap.size; omega, _, rfl, Y0⟩
  clear l0 l1 l2 l3 hz h0 h1 h2 h3 hcs X0 Y0 hW0 hs0 hb0
  go_enter Try.func45, Try.ntmps45
  go_wp2
  rw [← HW0.out]
  refine wp_region_facts (by kernel_rfl) [[3], [4], [5], [5, 6], [5, 7], [8], [9], [5, 10], [10, 11], [10, 12], [13], [14], [15], [16], [17], [18], [19], [20, 7, 12, 17, 19], [7, 12, 17, 19]] [[], [0], [0, 1], [0, 1, 2], [0, 1, 2, 3], [], [5], [0, 1, 2, 5, 6], [0, 1, 2, 5, 6, 7], [0, 1, 2, 5, 6, 7, 8], [], [10], [0, 1, 2, 5, 6, 7, 10, 11], [0, 1, 2, 5, 6, 7, 10, 11, 12], [0, 1, 2, 5, 6, 7, 10, 11, 12, 13], [], [15], [4, 9, 14, 16, 3, 8, 13, 15, 0, 1, 2, 5, 6, 7, 10, 11, 12], [0, 1, 2, 3, 4, 5, 6, 7, 8, 9, 10, 11, 12, 13, 14, 15, 16, 17]] [0, 1, 2] (by kernel_rfl) (RB W0 w.heap.size) (busF w.heap.size (.slice A0 256 c0) (.slice A1 32 c1) (.agg #[.slice A2 256 c2, .slice A3 16 c3, .int .i64 d4]) cs d0 d1) R0 ?_ ?_
  · refine ⟨?_, ?_, ?_, ?_, ?_, ?_, ?_, ?_, ?_, ?_, ?_, ?_, ?_, ?_, ?_, ?_, ?_, ?_, ?_, trivial⟩
    · intro T W hT hs hC hF K hK
      obtain ⟨t0, t1, t2, t3, t4, t5, t6, t7, t8, t9, t10, t11, t12, t13, t14, t15, t16, t17, t18, t19, t20, rfl⟩ := arr21 T hT
      obtain rfl : t1 = .pointer (some ⟨w.heap.size, 0, none⟩) := hs 1 (by decide)
      obtain rfl : t2 = .pointer (some ⟨w.heap.size + 1, 0, none⟩) := hs 2 (by decide)
      clear hF hs hT
      go_simp
      exact hK.out _ W hC (fun _ _ _ h => h) rfl
    · intro T W hT hs hC hF K hK
      obtain ⟨t0, t1, t2, t3, t4, t5, t6, t7, t8, t9, t10, t11, t12, t13, t14, t15, t16, t17, t18, t19, t20, rfl⟩ := arr21 T hT
      obtain rfl : t1 = .pointer (some ⟨w.heap.size, 0, none⟩) := hs 1 (by decide)
      obtain rfl : t2 = .pointer (some ⟨w.heap.size + 1, 0, none⟩) := hs 2 (by decide)
      have f0 := hF 0 (by decide)
      simp only [busF, mask] at f0
      clear hF hs hT
      subst f0
      have k := (HK.out W hC).1
      go_simp
      exact hK.out _ W hC (fun _ _ _ h => h) rfl
    · intro T W hT hs hC hF K hK
      obtain ⟨t0, t1, t2, t3, t4, t5, t6, t7, t8, t9, t10, t11, t12, t13, t14, t15, t16, t17, t18, t19, t20, rfl⟩ := arr21 T hT
      obtain rfl : t1 = .pointer (some ⟨w.heap.size, 0, none⟩) := hs 1 (by decide)
      obtain rfl : t2 = .pointer (some ⟨w.heap.size + 1, 0, none⟩) := hs 2 (by decide)
      have f1 := hF 1 (by decide)
      simp only [busF, mask] at f1
      clear hF hs hT
      subst f1
      go_simp
      refine (HC0.out W hC).mono ?_
      rintro e w1 ⟨A, c, rfl, O, k⟩
      exact hK.out _ w1 (hC.step k) (fun j t _ h => busF_below k j t h) ⟨A, c, rfl, O.out.wideB (HB.out _ hC).size (Nat.le_refl _)⟩
    · intro T W hT hs hC hF K hK
      obtain ⟨t0, t1, t2, t3, t4, t5, t6, t7, t8, t9, t10, t11, t12, t13, t14, t15, t16, t17, t18, t19, t20, rfl⟩ := arr21 T hT
      obtain rfl : t1 = .pointer (some ⟨w.heap.size, 0, none⟩) := hs 1 (by decide)
      obtain rfl : t2 = .pointer (some ⟨w.heap.size + 1, 0, none⟩) := hs 2 (by decide)
      have f2 := hF 2 (by decide)
      simp only [busF, mask] at f2
      clear hF hs hT
      obtain ⟨A, c, e5, O⟩ := f2
      subst e5
      clear O
      go_simp
      exact hK.out _ W hC (fun _ _ _ h => h) ⟨A, c, rfl, rfl⟩
    · intro T W hT hs hC hF K hK
      obtain ⟨t0, t1, t2, t3, t4, t5, t6, t7, t8, t9, t10, t11, t12, t13, t14, t15, t16, t17, t18, t19, t20, rfl⟩ := arr21 T hT
      obtain rfl : t1 = .pointer (some ⟨w.heap.size, 0, none⟩) := hs 1 (by decide)
      obtain rfl : t2 = .pointer (some ⟨w.heap.size + 1, 0, none⟩) := hs 2 (by decide)
      have f3 := hF 3 (by decide)
      simp only [busF, mask] at f3
      clear hF hs hT
      obtain ⟨A, c, e5, e6⟩ := f3
      subst e5 e6
      have k := alloc_below W (.cells #[.slice A 256 c] 114)
      go_simp
      exact hK.out _ _ (hC.alloc _) (fun j t _ h => busF_below k j t h) ⟨W.heap.size, A, c, rfl, rfl, Box.new _ _ _, (HB.out _ hC).size⟩
    · intro T W hT hs hC hF K hK
      obtain ⟨t0, t1, t2, t3, t4, t5, t6, t7, t8, t9, t10, t11, t12, t13, t14, t15, t16, t17, t18, t19, t20, rfl⟩ := arr21 T hT
      obtain rfl : t1 = .pointer (some ⟨w.heap.size, 0, none⟩) := hs 1 (by decide)
      obtain rfl : t2 = .pointer (some ⟨w.heap.size + 1, 0, none⟩) := hs 2 (by decide)
      clear hF hs hT
      go_simp
      exact hK.out _ W hC (fun _ _ _ h => h) rfl
    · intro T W hT hs hC hF K hK
      obtain ⟨t0, t1, t2, t3, t4, t5, t6, t7, t8, t9, t10, t11, t12, t13, t14, t15, t16, t17, t18, t19, t20, rfl⟩ := arr21 T hT
      obtain rfl : t1 = .pointer (some ⟨w.heap.size, 0, none⟩) := hs 1 (by decide)
      obtain rfl : t2 = .pointer (some ⟨w.heap.size + 1, 0, none⟩) := hs 2 (by decide)
      have f5 := hF 5 (by decide)
      simp only [busF, mask] at f5
      clear hF hs hT
      subst f5
      have k := (HK.out W hC).2.1
      go_simp
      exact hK.out _ W hC (fun _ _ _ h => h) rfl
    · intro T W hT hs hC hF K hK
      obtain ⟨t0, t1, t2, t3, t4, t5, t6, t7, t8, t9, t10, t11, t12, t13, t14, t15, t16, t17, t18, t19, t20, rfl⟩ := arr21 T hT
      obtain rfl : t1 = .pointer (some ⟨w.heap.size, 0, none⟩) := hs 1 (by decide)
      obtain rfl : t2 = .pointer (some ⟨w.heap.size + 1, 0, none⟩) := hs 2 (by decide)
      have f6 := hF 6 (by decide)
      simp only [busF, mask] at f6
      have f2 := hF 2 (by decide)
      simp only [busF, mask] at f2
      clear hF hs hT
      subst f6
      obtain ⟨A, c, e5, O5⟩ := f2
      subst e5
      have H5 := Lib.hid O5
      clear O5
      go_simp
      refine (HC1.out W hC).mono ?_
      rintro e w1 ⟨A', c', rfl, O, k⟩
      exact hK.out _ w1 (hC.step k) (fun j t _ h => busF_below k j t h) ⟨W.heap.size, A, c, A', c', rfl, rfl, H5.out.below k, O.out, (HB.out _ hC).size, k.size⟩
    · intro T W hT hs hC hF K hK
      obtain ⟨t0, t1, t2, t3, t4, t5, t6, t7, t8, t9, t10, t11, t12, t13, t14, t15, t16, t17, t18, t19, t20, rfl⟩ := arr21 T hT
      obtain rfl : t1 = .pointer (some ⟨w.heap.size, 0, none⟩) := hs 1 (by decide)
      obtain rfl : t2 = .pointer (some ⟨w.heap.size + 1, 0, none⟩) := hs 2 (by decide)
      have f7 := hF 7 (by decide)
      simp only [busF, mask] at f7
      clear hF hs hT
      obtain ⟨g, A, c, A', c', e5, e10, O5, O10, q, q2⟩ := f7
      subst e5 e10
      clear O5 O10
      go_simp
      exact hK.out _ W hC (fun _ _ _ h => h) ⟨A', c', rfl, rfl⟩
    · intro T W hT hs hC hF K hK
      obtain ⟨t0, t1, t2, t3, t4, t5, t6, t7, t8, t9, t10, t11, t12, t13, t14, t15, t16, t17, t18, t19, t20, rfl⟩ := arr21 T hT
      obtain rfl : t1 = .pointer (some ⟨w.heap.size, 0, none⟩) := hs 1 (by decide)
      obtain rfl : t2 = .pointer (some ⟨w.heap.size + 1, 0, none⟩) := hs 2 (by decide)
      have f8 := hF 8 (by decide)
      simp only [busF, mask] at f8
      clear hF hs hT
      obtain ⟨A, c, e5, e6⟩ := f8
      subst e5 e6
      have k := alloc_below W (.cells #[.slice A 32 c] 115)
      go_simp
      exact hK.out _ _ (hC.alloc _) (fun j t _ h => busF_below k j t h) ⟨W.heap.size, A, c, rfl, rfl, Box.new _ _ _, (HB.out _ hC).size⟩
    · intro T W hT hs hC hF K hK
      obtain ⟨t0, t1, t2, t3, t4, t5, t6, t7, t8, t9, t10, t11, t12, t13, t14, t15, t16, t17, t18, t19, t20, rfl⟩ := arr21 T hT
      obtain rfl : t1 = .pointer (some ⟨w.heap.size, 0, none⟩) := hs 1 (by decide)
      obtain rfl : t2 = .pointer (some ⟨w.heap.size + 1, 0, none⟩) := hs 2 (by decide)
      clear hF hs hT
      go_simp
      exact hK.out _ W hC (fun _ _ _ h => h) rfl
    · intro T W hT hs hC hF K hK
      obtain ⟨t0, t1, t2, t3, t4, t5, t6, t7, t8, t9, t10, t11, t12, t13, t14, t15, t16, t17, t18, t19, t20, rfl⟩ := arr21 T hT
      obtain rfl : t1 = .pointer (some ⟨w.heap.size, 0, none⟩) := hs 1 (by decide)
      obtain rfl : t2 = .pointer (some ⟨w.heap.size + 1, 0, none⟩) := hs 2 (by decide)
      have f10 := hF 10 (by decide)
      simp only [busF, mask] at f10
      clear hF hs hT
      subst f10
      have k2 := (HK.out W hC).2.2.1
      have k3 := (HK.out W hC).2.2.2.1
      have k4 := (HK.out W hC).2.2.2.2.1
      go_simp
      exact hK.out _ W hC (fun _ _ _ h => h) rfl
    · intro T W hT hs hC hF K hK
      obtain ⟨t0, t1, t2, t3, t4, t5, t6, t7, t8, t9, t10, t11, t12, t13, t14, t15, t16, t17, t18, t19, t20, rfl⟩ := arr21 T hT
      obtain rfl : t1 = .pointer (some ⟨w.heap.size, 0, none⟩) := hs 1 (by decide)
      obtain rfl : t2 = .pointer (some ⟨w.heap.size + 1, 0, none⟩) := hs 2 (by decide)
      have f11 := hF 11 (by decide)
      simp only [busF, mask] at f11
      clear hF hs hT
      subst f11
      go_simp
      refine (HCh.out W hC).mono ?_
      rintro e w1 ⟨rfl, k⟩
      exact hK.out _ w1 (hC.step k) (fun j t _ h => busF_below k j t h) rfl
    · intro T W hT hs hC hF K hK
      obtain ⟨t0, t1, t2, t3, t4, t5, t6, t7, t8, t9, t10, t11, t12, t13, t14, t15, t16, t17, t18, t19, t20, rfl⟩ := arr21 T hT
      obtain rfl : t1 = .pointer (some ⟨w.heap.size, 0, none⟩) := hs 1 (by decide)
      obtain rfl : t2 = .pointer (some ⟨w.heap.size + 1, 0, none⟩) := hs 2 (by decide)
      have f12 := hF 12 (by decide)
      simp only [busF, mask] at f12
      clear hF hs hT
      subst f12
      go_simp
      exact hK.out _ W hC (fun _ _ _ h => h) rfl
    · intro T W hT hs hC hF K hK
      obtain ⟨t0, t1, t2, t3, t4, t5, t6, t7, t8, t9, t10, t11, t12, t13, t14, t15, t16, t17, t18, t19, t20, rfl⟩ := arr21 T hT
      obtain rfl : t1 = .pointer (some ⟨w.heap.size, 0, none⟩) := hs 1 (by decide)
      obtain rfl : t2 = .pointer (some ⟨w.heap.size + 1, 0, none⟩) := hs 2 (by decide)
      have f13 := hF 13 (by decide)
      simp only [busF, mask] at f13
      clear hF hs hT
      subst f13
      have k := alloc_below W (.cells cs.toArray 122)
      go_simp
      exact hK.out _ _ (hC.alloc _) (fun j t _ h => busF_below k j t h) ⟨W.heap.size, rfl, Box.new _ _ _, (HB.out _ hC).size⟩
    · intro T W hT hs hC hF K hK
      obtain ⟨t0, t1, t2, t3, t4, t5, t6, t7, t8, t9, t10, t11, t12, t13, t14, t15, t16, t17, t18, t19, t20, rfl⟩ := arr21 T hT
      obtain rfl : t1 = .pointer (some ⟨w.heap.size, 0, none⟩) := hs 1 (by decide)
      obtain rfl : t2 = .pointer (some ⟨w.heap.size + 1, 0, none⟩) := hs 2 (by decide)
      clear hF hs hT
      go_simp
      exact hK.out _ W hC (fun _ _ _ h => h) rfl
    · intro T W hT hs hC hF K hK
      obtain ⟨t0, t1, t2, t3, t4, t5, t6, t7, t8, t9, t10, t11, t12, t13, t14, t15, t16, t17, t18, t19, t20, rfl⟩ := arr21 T hT
      obtain rfl : t1 = .pointer (some ⟨w.heap.size, 0, none⟩) := hs 1 (by decide)
      obtain rfl : t2 = .pointer (some ⟨w.heap.size + 1, 0, none⟩) := hs 2 (by decide)
      have f15 := hF 15 (by decide)
      simp only [busF, mask] at f15
      clear hF hs hT
      subst f15
      have k := alloc_below W (.cells #[] 124)
      go_simp
      exact hK.out _ _ (hC.alloc _) (fun j t _ h => busF_below k j t h) ⟨W.heap.size, rfl, Box.new _ _ _, (HB.out _ hC).size⟩
    · intro T W hT hs hC hF K hK
      obtain ⟨t0, t1, t2, t3, t4, t5, t6, t7, t8, t9, t10, t11, t12, t13, t14, t15, t16, t17, t18, t19, t20, rfl⟩ := arr21 T hT
      obtain rfl : t1 = .pointer (some ⟨w.heap.size, 0, none⟩) := hs 1 (by decide)
      obtain rfl : t2 = .pointer (some ⟨w.heap.size + 1, 0, none⟩) := hs 2 (by decide)
      have f4 := hF 4 (by decide)
      simp only [busF, mask] at f4
      have f9 := hF 9 (by decide)
      simp only [busF, mask] at f9
      have f14 := hF 14 (by decide)
      simp only [busF, mask] at f14
      have f16 := hF 16 (by decide)
      simp only [busF, mask] at f16
      clear hF hs hT
      obtain ⟨b0, A, c, e5, e7, B0, q0⟩ := f4
      obtain ⟨b1, A', c', e10, e12, B1, q1⟩ := f9
      obtain ⟨b2, e17, B2, q2⟩ := f14
      obtain ⟨b3, e19, B3, q3⟩ := f16
      subst e5 e7 e10 e12 e17 e19
      clear B0 B1 B2 B3 q0 q1 q2 q3
      go_simp
      exact hK.out _ W hC (fun _ _ _ h => h) rfl
    · intro T W hT hs hC hF K hK
      obtain ⟨t0, t1, t2, t3, t4, t5, t6, t7, t8, t9, t10, t11, t12, t13, t14, t15, t16, t17, t18, t19, t20, rfl⟩ := arr21 T hT
      obtain rfl : t1 = .pointer (some ⟨w.heap.size, 0, none⟩) := hs 1 (by decide)
      obtain rfl : t2 = .pointer (some ⟨w.heap.size + 1, 0, none⟩) := hs 2 (by decide)
      have f17 : t20 = .agg #[t7, t12, t17, t19] := hF 17 (by decide)
      have f4 := hF 4 (by decide)
      simp only [busF, mask] at f4
      have f9 := hF 9 (by decide)
      simp only [busF, mask] at f9
      have f14 := hF 14 (by decide)
      simp only [busF, mask] at f14
      have f16 := hF 16 (by decide)
      simp only [busF, mask] at f16
      clear hF hs hT
      obtain ⟨b0, A, c, e5, e7, B0, q0⟩ := f4
      obtain ⟨b1, A', c', e10, e12, B1, q1⟩ := f9
      obtain ⟨b2, e17, B2, q2⟩ := f14
      obtain ⟨b3, e19, B3, q3⟩ := f16
      subst e5 e7 e10 e12 e17 e19 f17
      clear B0 B1 B2 B3 q0 q1 q2 q3
      obtain ⟨hCa, hCb, ys, hys, Y⟩ := hC
      have y0 := YV.of Y hys 0 (by omega)
      have y1 := YV.of Y hys 1 (by omega)
      have y2 := YV.of Y hys 2 (by omega)
      have y3 := YV.of Y hys 3 (by omega)
      have z0 := Y.frozen 0
      have z1 := Y.frozen 1
      have z2 := Y.frozen 2
      have z3 := Y.frozen 3
      have HYs := Lib.hid (And.intro hys Y)
      have hC : RB W0 w.heap.size W := ⟨hCa, hCb, ys, hys, Y⟩
      clear hys Y hCa hCb
      go_simp
      exact hK.out undef _ ((((hC.set 0 _).set 1 _).set 2 _).set 3 _) (fun j t n h => busF_store (((HYs.out.2.set 0 _).set 1 _).set 2 _) 3 _ j t n (busF_store ((HYs.out.2.set 0 _).set 1 _) 2 _ j t n (busF_store (HYs.out.2.set 0 _) 1 _ j t n (busF_store HYs.out.2 0 _ j t n h)))) (HYs.out.2.all4 HYs.out.1 _ _ _ _)
  · intro T W hT hs hC hF
    obtain ⟨t0, t1, t2, t3, t4, t5, t6, t7, t8, t9, t10, t11, t12, t13, t14, t15, t16, t17, t18, t19, t20, rfl⟩ := arr21 T hT
    obtain rfl : t2 = .pointer (some ⟨w.heap.size + 1, 0, none⟩) := hs 2 (by decide)
    obtain ⟨b0, A, c, e5, e7, B0, q0⟩ := hF 4 (by decide)
    obtain ⟨g, A', c', A1', c1', e5', e10', O5, O10, qg, qg2⟩ := hF 7 (by decide)
    obtain ⟨b1, A1, c1, e10, e12, B1, q1⟩ := hF 9 (by decide)
    obtain ⟨b2, e17, B2, q2⟩ := hF 14 (by decide)
    obtain ⟨b3, e19, B3, q3⟩ := hF 16 (by decide)
    have Y : Box W (w.heap.size + 1) 80 #[t7, t12, t17, t19] := hF 18 (by decide)
    subst e5 e7 e10 e12 e17 e19
    injection (show Value.slice A 256 c = .slice A' 256 c' from e5') with x1 _ x2
    injection (show Value.slice A1 32 c1 = .slice A1' 32 c1' from e10') with x3 _ x4
    subst x1 x2 x3 x4
    have y0 := Y.cell 0 rfl
    have y1 := Y.cell 1 rfl
    have y2 := Y.cell 2 rfl
    have y3 := Y.cell 3 rfl
    have HR : Hid (BusAt W w.heap.size g b0 b1 b2 b3 A A1 c c1 d0 d1 d2 d3 d4) := Lib.hid ⟨B0, B1, by rw [HCs.out]; exact B2, B3, O5, O10, q0, q1, q2, q3, qg, qg2⟩
    have HBw := Lib.hid (HB.out _ hC)
    clear e5' e10' O5 O10 B0 B1 B2 B3 Y hF hs hT hC R0
    go_wp2
    refine bodyPost_ret (v := .agg #[.pointer (some ⟨b0, 0, none⟩), .pointer (some ⟨b1, 0, none⟩), .pointer (some ⟨b2, 0, none⟩), .pointer (some ⟨b3, 0, none⟩)]) (by simp [results, Try.results45, go_sem, y0, y1, y2, y3]) rfl ?_
    exact ⟨_, _, _, _, _, _, _, _, _, rfl, HR, HBw.out⟩
end Go.Proofs.Ytngoijchebfolaa

/- The chip's identify and read; BusRead by way of the chip. -/
namespace Go.Proofs.Ytngoijchebfolaa
open Go.RowKit

set_option maxRecDepth 100000 in
set_option maxHeartbeats 2000000 in
theorem chipIdentify (k : Nat) (zs : List Int) (gs : List Bool) (st : Int) (w : World) (hz : zs.length = 256) (hg : gs.length = 16) (hk : k ≤ 255) :
    Calls Try.prog 150 #[.agg (chipC zs gs st).toArray, .int .i64 k] w fun e w' => e = .returned (.int .i64 (readV zs gs 7 k)) ∧ Below w.heap.size w w' := by
  have hb0 := alloc_below w (.cells (chipC zs gs st).toArray 119)
  have hc := (BC.new w zs gs st).guard hz (k / 16) (by omega)
  have HR : Hid (∀ q, q = gs.getD (k / 16) false → readV zs gs 7 k = if k % 4 = 0 then 32 else if k % 4 = 1 then 47 else if k % 4 = 2 then (if q then 1 else 0) else 255) := Lib.hid (by intro q hq; subst hq; unfold readV; rw [if_pos rfl])
  generalize readV zs gs 7 k = r at HR
  have HR2 := Lib.hid (HR.out _ rfl)
  generalize gs.getD (k / 16) false = q at hc HR2
  generalize chipC zs gs st = cs at hb0 hc
  have HB := Lib.hid (fun W => blockOf k hk W)
  have h4 : k % 4 = 0 ∨ k % 4 = 1 ∨ k % 4 = 2 ∨ k % 4 = 3 := by omega
  have hdi : ((k / 16 : Nat) : Int) < 16 := by omega
  clear hz hg HR
  rcases h4 with h4 | h4 | h4 | h4
  · have q0 : ((k : Int) % 4 == 0) = true := by simp; omega
    have e : r = 32 := by rw [HR2.out, if_pos h4]
    clear h4 HR2
    subst e
    go_enter Try.func150, Try.ntmps150
    go_wp2
    go_ret
    exact ⟨rfl, hb0⟩
  · have q0 : ((k : Int) % 4 == 0) = false := by simp; omega
    have q1 : ((k : Int) % 4 == 1) = true := by simp; omega
    have e : r = 47 := by rw [HR2.out, if_neg (by omega), if_pos h4]
    clear h4 HR2
    subst e
    go_enter Try.func150, Try.ntmps150
    go_wp2
    go_ret
    exact ⟨rfl, hb0⟩
  · have q0 : ((k : Int) % 4 == 0) = false := by simp; omega
    have q1 : ((k : Int) % 4 == 1) = false := by simp; omega
    have q2 : ((k : Int) % 4 == 2) = true := by simp; omega
    have e : r = if q then 1 else 0 := by rw [HR2.out, if_neg (by omega), if_neg (by omega), if_pos h4]
    have HE := Lib.hid e
    clear h4 HR2 e
    cases q <;> (
      go_enter Try.func150, Try.ntmps150
      go_wp2_with (first | (go_at_call 154; refine (HB.out _).mono ?_; rintro e w' ⟨rfl, rfl⟩))
      go_ret
      exact ⟨ret_int HE.out.symm, hb0⟩)
  · have q0 : ((k : Int) % 4 == 0) = false := by simp; omega
    have q1 : ((k : Int) % 4 == 1) = false := by simp; omega
    have q2 : ((k : Int) % 4 == 2) = false := by simp; omega
    have e : r = 255 := by rw [HR2.out, if_neg (by omega), if_neg (by omega), if_neg (by omega)]
    clear h4 HR2
    subst e
    go_enter Try.func150, Try.ntmps150
    go_wp2
    go_ret
    exact ⟨rfl, hb0⟩

set_option maxRecDepth 100000 in
set_option maxHeartbeats 2000000 in
theorem chipRead (k : Nat) (zs : List Int) (gs : List Bool) (st : Int) (w : World) (hz : zs.length = 256) (hg : gs.length = 16) (hk : k ≤ 255) (hzs : ∀ z ∈ zs, 0 ≤ z ∧ z ≤ 255) :
    Calls Try.prog 148 #[.agg (chipC zs gs st).toArray, .int .i64 k] w fun e w' => e = .returned (.int .i64 (readV zs gs st k)) ∧ Below w.heap.size w w' := by
  have hb0 := alloc_below w (.cells (chipC zs gs st).toArray 119)
  have X := BC.new w zs gs st
  have x0 := X.state hz hg
  by_cases h7 : st = 7
  · subst h7
    have HI := Lib.hid (chipIdentify k zs gs 7 (w.alloc (.cells (chipC zs gs 7).toArray 119)) hz hg hk)
    have HLd := Lib.hid (X.loads hz hg)
    generalize readV zs gs 7 k = r at HI
    generalize chipC zs gs 7 = cs at hb0 x0 HI HLd
    clear X hz hg hzs
    go_enter Try.func148, Try.ntmps148
    go_wp2_with (first
      | (with_reducible refine wpList_load_mid rfl 119 (.tmp 2) rfl w.heap.size 0 rfl cs _ HLd.out.range Try.underlying119 rfl HLd.out.size ?_))
    refine HI.out.mono ?_
    rintro e w2 ⟨rfl, hb2⟩
    go_wp2
    go_ret
    exact ⟨rfl, bt hb0 hb2⟩
  · have q7 : (st == 7) = false := by simp [h7]
    have hc := X.cell k (by omega)
    have HE : Hid (readV zs gs st k = zs.getD k 0) := Lib.hid (by unfold readV; rw [if_neg h7])
    generalize readV zs gs st k = r at HE
    have hrg := hzs (zs.getD k 0) (by rw [List.getD_eq_getElem?_getD, List.getElem?_eq_getElem (by omega)]; exact List.getElem_mem _)
    generalize zs.getD k 0 = x at hc HE hrg
    have hw6 : RowKit.wrap64 x = x := by unfold RowKit.wrap64; omega
    generalize chipC zs gs st = cs at hb0 x0 hc
    have hki : (k : Int) < 256 := by omega
    clear X hz hg hzs h7
    go_enter Try.func148, Try.ntmps148
    go_wp2
    go_ret
    exact ⟨ret_int HE.out.symm, hb0⟩

end Go.Proofs.Ytngoijchebfolaa

/- The devices' methods. -/
namespace Go.Proofs.Ytngoijchebfolaa
open Go.RowKit

section
variable (p0 p1 p2 p3 : Addr) (w : World)
set_option maxRecDepth 100000 in
theorem busDevice1 : Calls Try.prog 115 #[.agg #[.pointer (some p0), .pointer (some p1), .pointer (some p2), .pointer (some p3)], .int .i64 1] w fun e w' => e = .returned (.iface 75 (.pointer (some p0))) ∧ Below w.heap.size w w' := by
  have hb0 := alloc_below w (.cells #[.pointer (some p0), .pointer (some p1), .pointer (some p2), .pointer (some p3)] 80)
  go_enter Try.func115, Try.ntmps115
  go_wp2
  go_ret
  exact ⟨rfl, hb0⟩
set_option maxRecDepth 100000 in
theorem busDevice2 : Calls Try.prog 115 #[.agg #[.pointer (some p0), .pointer (some p1), .pointer (some p2), .pointer (some p3)], .int .i64 2] w fun e w' => e = .returned (.iface 76 (.pointer (some p1))) ∧ Below w.heap.size w w' := by
  have hb0 := alloc_below w (.cells #[.pointer (some p0), .pointer (some p1), .pointer (some p2), .pointer (some p3)] 80)
  go_enter Try.func115, Try.ntmps115
  go_wp2
  go_ret
  exact ⟨rfl, hb0⟩
set_option maxRecDepth 100000 in
theorem busDevice3 : Calls Try.prog 115 #[.agg #[.pointer (some p0), .pointer (some p1), .pointer (some p2), .pointer (some p3)], .int .i64 3] w fun e w' => e = .returned (.iface 77 (.pointer (some p2))) ∧ Below w.heap.size w w' := by
  have hb0 := alloc_below w (.cells #[.pointer (some p0), .pointer (some p1), .pointer (some p2), .pointer (some p3)] 80)
  go_enter Try.func115, Try.ntmps115
  go_wp2
  go_ret
  exact ⟨rfl, hb0⟩
set_option maxRecDepth 100000 in
theorem busDevice0 : Calls Try.prog 115 #[.agg #[.pointer (some p0), .pointer (some p1), .pointer (some p2), .pointer (some p3)], .int .i64 0] w fun e w' => e = .returned (.iface 78 (.pointer (some p3))) ∧ Below w.heap.size w w' := by
  have hb0 := alloc_below w (.cells #[.pointer (some p0), .pointer (some p1), .pointer (some p2), .pointer (some p3)] 80)
  go_enter Try.func115, Try.ntmps115
  go_wp2
  go_ret
  exact ⟨rfl, hb0⟩
end

set_option maxRecDepth 100000 in
theorem workRead (b k c n : Nat) (A : Option Addr) (zs : List Int) (w : World) (hl : zs.length = n) (hn : n = 256) (hk : k < n) (X : Box w b 114 #[.slice A n c]) (h : IntL w A zs) :
    Calls Try.prog 142 #[.pointer (some ⟨b, 0, none⟩), .int .i64 k] w fun e w' => e = .returned (.int .i64 (zs.getD k 0)) ∧ w = w' := by
  obtain ⟨bb, off, rfl, hc⟩ := h k (by omega)
  generalize zs.getD k 0 = x at hc
  have x0 := X.cell 0 rfl
  have hi : (k : Int) < (n : Int) := by omega
  clear h hl X
  go_enter Try.func142, Try.ntmps142
  go_wp2
  go_ret
  exact ⟨rfl, rfl⟩
set_option maxRecDepth 100000 in
theorem regsRead (b k c n : Nat) (A : Option Addr) (zs : List Int) (w : World) (hl : zs.length = n) (hn : n = 32) (hk : k < n) (X : Box w b 115 #[.slice A n c]) (h : IntL w A zs) :
    Calls Try.prog 144 #[.pointer (some ⟨b, 0, none⟩), .int .i64 k] w fun e w' => e = .returned (.int .i64 (zs.getD k 0)) ∧ w = w' := by
  obtain ⟨bb, off, rfl, hc⟩ := h k (by omega)
  generalize zs.getD k 0 = x at hc
  have x0 := X.cell 0 rfl
  have hi : (k : Int) < (n : Int) := by omega
  clear h hl X
  go_enter Try.func144, Try.ntmps144
  go_wp2
  go_ret
  exact ⟨rfl, rfl⟩
set_option maxRecDepth 100000 in
theorem openRead (p : Addr) (k : Int) (w : World) : Calls Try.prog 158 #[.pointer (some p), .int .i64 k] w fun e w' => e = .returned (.int .i64 255) ∧ w = w' := by
  go_enter Try.func158, Try.ntmps158
  go_wp2
  go_ret
  exact ⟨rfl, rfl⟩
set_option maxRecDepth 100000 in
theorem openWrite (p : Addr) (k v : Int) (w : World) : Calls Try.prog 159 #[.pointer (some p), .int .i64 k, .int .i64 v] w fun e w' => e = .returned (.tuple #[]) ∧ w = w' := by
  go_enter Try.func159, Try.ntmps159
  go_wp2
  go_end0
  exact ⟨rfl, rfl⟩

/-- A box of another type that holds a chip's cells. -/
theorem Box.rangeL {w : World} {b : Nat} {t : TypeId} {cs : List Value} (h : Box w b t cs.toArray) : w.rangeAt b 0 cs := fun j v hv => by
  rw [Nat.zero_add]; exact h.cell j (by simpa using hv)
theorem Box.thereL {w : World} {b : Nat} {t : TypeId} {cs : List Value} (h : Box w b t cs.toArray) : w.there b 0 cs.length := fun j hj => by
  rw [Nat.zero_add]
  exact ⟨by rw [h.cell j (by rw [List.getElem?_toArray, List.getElem?_eq_getElem hj])]; rfl, h.frozen j⟩
theorem Box.putL {w : World} {b : Nat} {t : TypeId} {cs cs' : List Value} (h : Box w b t cs.toArray) (hl : cs'.length = cs.length) : Box (w.setCells b 0 cs') b t cs'.toArray := by
  have := setCells_list cs' [] cs h (by rw [hl])
  exact this
theorem btw_setCells {a : World} {b : Nat} : ∀ (cs : List Value) (o : Nat) (w : World), Btw b (b + 1) a w → Btw b (b + 1) a (w.setCells b o cs)
  | [], _, _, h => h
  | v :: vs, o, w, h => btw_setCells vs (o + 1) _ (h.setCell (p := ⟨b, o, none⟩) (Nat.le_refl _) (Nat.lt_succ_self _) v)
theorem OwnI.awayB {w w' : World} {lo hi b : Nat} {A : Option Addr} {zs : List Int} {t : TypeId} {cs : Array Value} (h : OwnI w lo hi A zs) (X : Box w b t cs) (ht : t ≠ 3) (hb : Btw b (b + 1) w w') : OwnI w' lo hi A zs := by
  rcases h with e | ⟨g, m, f, e, h1, h2, hm, hr, hf⟩
  · exact .inl e
  · exact .inr ⟨g, m, f, e, h1, h2, hm, hb.row hr (by have := X.ne hr ht; omega), hf⟩
theorem Box.awayB {w w' : World} {b b' : Nat} {t t' : TypeId} {cs cs' : Array Value} (h : Box w b t cs) (X : Box w b' t' cs') (ht : t ≠ t') (hb : Btw b' (b' + 1) w w') : Box w' b t cs := h.btw hb (by have := h.box_ne X ht; omega)

theorem size_setCells (b : Nat) : ∀ (cs : List Value) (o : Nat) (w : World), (w.setCells b o cs).heap.size = w.heap.size
  | [], _, _ => rfl
  | v :: vs, o, w => (size_setCells b vs (o + 1) _).trans (by simp [World.setCell])
theorem below_setCellsN {n : Nat} {w0 w : World} {b : Nat} (h : Below n w0 w) (hb : n ≤ b) : ∀ (o : Nat) (cs : List Value), Below n w0 (w.setCells b o cs) := by
  intro o cs
  induction cs generalizing w o with
  | nil => exact h
  | cons v vs ih => exact ih (h.setCell (p := ⟨b, o, none⟩) hb v) (o + 1)

section
variable {w w' : World} {lo g b0 b1 b2 b3 : Nat} {A0 A1 : Option Addr} {c0 c1 : Nat} {ram io zs : List Int} {gs : List Bool} {st : Int}
theorem BusAt.step (B : BusAt w lo g b0 b1 b2 b3 A0 A1 c0 c1 ram io zs gs st) (k : Below w.heap.size w w') : BusAt w' lo g b0 b1 b2 b3 A0 A1 c0 c1 ram io zs gs st :=
  ⟨B.r.step k, B.i.step k, B.f.step k, B.o.step k, B.R.below k, (B.I.below k).wideB (Nat.le_refl _) k.size, B.l.1, B.l.2.1, B.l.2.2.1, B.l.2.2.2.1, B.l.2.2.2.2.1, Nat.le_trans B.l.2.2.2.2.2 k.size⟩
/-- What a write leaves of a bus. -/
def Writes (lo g b0 b1 b2 b3 : Nat) (A0 A1 : Option Addr) (c0 c1 : Nat) (ram io zs : List Int) (gs : List Bool) (st : Int) (w : World) (e : Ending) (w' : World) : Prop :=
  e = .returned (.tuple #[]) ∧ Hid (BusAt w' lo g b0 b1 b2 b3 A0 A1 c0 c1 ram io zs gs st) ∧ Hid (∀ b t cs, t ≠ 3 → t ≠ 122 → Box w b t cs → Box w' b t cs) ∧ Below lo w w'
end

section
variable (lo g b0 b1 b2 b3 : Nat) (A0 A1 : Option Addr) (c0 c1 : Nat) (ram io zs : List Int) (gs : List Bool) (st : Int) (w : World)
set_option maxRecDepth 100000 in
theorem workWrite (k : Nat) (v : Int) (hk : k < 256) (hl : ram.length = 256) (B : BusAt w lo g b0 b1 b2 b3 A0 A1 c0 c1 ram io zs gs st) :
    Calls Try.prog 143 #[.pointer (some ⟨b0, 0, none⟩), .int .i64 k, .int .i64 v] w (Writes lo g b0 b1 b2 b3 A0 A1 c0 c1 (ram.set k v) io zs gs st w) := by
  obtain ⟨ba, ma, fa, rfl, hca, hfa, hlo, hhi, hra, hput⟩ := B.R.put k (by omega)
  have hbw : Btw ba (ba + 1) w (w.setCell ⟨ba, k, none⟩ (.int .i64 v)) := (Btw.refl _ _ _).setCell (p := ⟨ba, k, none⟩) (Nat.le_refl _) (Nat.lt_succ_self _) _
  have HB : Hid (BusAt (w.setCell ⟨ba, k, none⟩ (.int .i64 v)) lo g b0 b1 b2 b3 (some ⟨ba, 0, none⟩) A1 c0 c1 (ram.set k v) io zs gs st) := Lib.hid ⟨B.r.other hra (by decide) _ _, B.i.other hra (by decide) _ _, B.f.other hra (by decide) _ _, B.o.other hra (by decide) _ _, hput v, (B.I.btw hbw (.inr (by omega))).wideB (Nat.le_refl _) (by simp [World.setCell]), by simpa [World.setCell] using B.l⟩
  have HW : Hid (Below lo w (w.setCell ⟨ba, k, none⟩ (.int .i64 v))) := Lib.hid ((Below.refl _ _).setCell (p := ⟨ba, k, none⟩) hlo _)
  have HO : Hid (∀ b t cs, t ≠ 3 → t ≠ 122 → Box w b t cs → Box (w.setCell ⟨ba, k, none⟩ (.int .i64 v)) b t cs) := Lib.hid (fun b t cs h _ X => X.other hra h _ _)
  have x0 := B.r.cell 0 rfl
  generalize ram.getD k 0 = x at hca
  have hi : (k : Int) < 256 := by omega
  clear B hput hra hbw hlo hhi hl
  go_enter Try.func143, Try.ntmps143
  go_wp2
  go_end0
  exact ⟨rfl, HB, HO, HW.out⟩
set_option maxRecDepth 100000 in
theorem regsWrite (k : Nat) (v : Int) (hk : k < 32) (h0 : 0 < k) (hl : io.length = 32) (B : BusAt w lo g b0 b1 b2 b3 A0 A1 c0 c1 ram io zs gs st) :
    Calls Try.prog 145 #[.pointer (some ⟨b1, 0, none⟩), .int .i64 k, .int .i64 v] w (Writes lo g b0 b1 b2 b3 A0 A1 c0 c1 ram (io.set k v) zs gs st w) := by
  obtain ⟨ba, ma, fa, rfl, hca, hfa, hlo, hhi, hra, hput⟩ := B.I.put k (by omega)
  have hbw : Btw ba (ba + 1) w (w.setCell ⟨ba, k, none⟩ (.int .i64 v)) := (Btw.refl _ _ _).setCell (p := ⟨ba, k, none⟩) (Nat.le_refl _) (Nat.lt_succ_self _) _
  have HB : Hid (BusAt (w.setCell ⟨ba, k, none⟩ (.int .i64 v)) lo g b0 b1 b2 b3 A0 (some ⟨ba, 0, none⟩) c0 c1 ram (io.set k v) zs gs st) := Lib.hid ⟨B.r.other hra (by decide) _ _, B.i.other hra (by decide) _ _, B.f.other hra (by decide) _ _, B.o.other hra (by decide) _ _, B.R.btw hbw (.inl hlo), (hput v).wideB (Nat.le_refl _) (by simp [World.setCell]), by simpa [World.setCell] using B.l⟩
  have HW : Hid (Below lo w (w.setCell ⟨ba, k, none⟩ (.int .i64 v))) := Lib.hid ((Below.refl _ _).setCell (p := ⟨ba, k, none⟩) (Nat.le_trans B.l.2.2.2.2.1 hlo) _)
  have HO : Hid (∀ b t cs, t ≠ 3 → t ≠ 122 → Box w b t cs → Box (w.setCell ⟨ba, k, none⟩ (.int .i64 v)) b t cs) := Lib.hid (fun b t cs h _ X => X.other hra h _ _)
  have x0 := B.i.cell 0 rfl
  generalize io.getD k 0 = x at hca
  have hi : (k : Int) < 32 := by omega
  have hq : ((k : Int) != 0) = true := by simp; omega
  clear B hput hra hbw hlo hhi hl
  go_enter Try.func145, Try.ntmps145
  go_wp2
  go_end0
  exact ⟨rfl, HB, HO, HW.out⟩
set_option maxRecDepth 100000 in
theorem regsWrite0 (v : Int) (B : BusAt w lo g b0 b1 b2 b3 A0 A1 c0 c1 ram io zs gs st) :
    Calls Try.prog 145 #[.pointer (some ⟨b1, 0, none⟩), .int .i64 0, .int .i64 v] w (Writes lo g b0 b1 b2 b3 A0 A1 c0 c1 ram io zs gs st w) := by
  have HB := Lib.hid B
  clear B
  go_enter Try.func145, Try.ntmps145
  go_wp2
  go_end0
  exact ⟨rfl, HB, Lib.hid (fun _ _ _ _ _ X => X), Below.refl _ _⟩
set_option maxRecDepth 100000 in
theorem cartRead (k : Nat) (hz : zs.length = 256) (hg : gs.length = 16) (hk : k ≤ 255) (hzs : ∀ z ∈ zs, 0 ≤ z ∧ z ≤ 255) (X : Box w b2 122 (chipC zs gs st).toArray) :
    Calls Try.prog 146 #[.pointer (some ⟨b2, 0, none⟩), .int .i64 k] w fun e w' => e = .returned (.int .i64 (readV zs gs st k)) ∧ Below w.heap.size w w' := by
  have HR := Lib.hid (chipRead k zs gs st w hz hg hk hzs)
  have HL := Lib.hid (And.intro X.rangeL (sizeC zs gs st hz hg))
  generalize readV zs gs st k = r at HR
  generalize chipC zs gs st = cs at HR HL
  clear X hz hg hzs
  go_enter Try.func146, Try.ntmps146
  go_wp2_with (first
    | (with_reducible refine wpList_load_mid rfl 119 (.tmp 7) rfl b2 0 rfl cs _ HL.out.1 Try.underlying119 rfl HL.out.2 ?_))
  refine HR.out.mono ?_
  rintro e w2 ⟨rfl, hb2⟩
  go_wp2
  go_ret
  exact ⟨rfl, hb2⟩
set_option maxRecDepth 100000 in
set_option maxHeartbeats 1000000 in
theorem cartWrite (k v : Nat) (hz : zs.length = 256) (hg : gs.length = 16) (hs : 0 ≤ st ∧ st ≤ 8) (hk : k < 256) (hv : v < 256) (hzs : ∀ z ∈ zs, 0 ≤ z ∧ z ≤ 255) (B : BusAt w lo g b0 b1 b2 b3 A0 A1 c0 c1 ram io zs gs st) :
    Calls Try.prog 147 #[.pointer (some ⟨b2, 0, none⟩), .int .i64 k, .int .i64 v] w (Writes lo g b0 b1 b2 b3 A0 A1 c0 c1 ram io (cycZ zs gs st k v) (cycG gs st k) (nextS st k v) w) := by
  have HR := Lib.hid (chipCycle k v zs gs st w hz hg hs hk hv hzs)
  unfold GivesChip at HR
  have HL := Lib.hid (And.intro B.f.rangeL (sizeC zs gs st hz hg))
  have HN : Hid (∀ w2, Below w.heap.size w w2 → w2.there b2 0 (chipC (cycZ zs gs st k v) (cycG gs st k) (nextS st k v)).toArray.size ∧ BusAt (w2.setCells b2 0 (chipC (cycZ zs gs st k v) (cycG gs st k) (nextS st k v))) lo g b0 b1 b2 b3 A0 A1 c0 c1 ram io (cycZ zs gs st k v) (cycG gs st k) (nextS st k v) ∧ ∀ b t cs, t ≠ 3 → t ≠ 122 → Box w b t cs → Box (w2.setCells b2 0 (chipC (cycZ zs gs st k v) (cycG gs st k) (nextS st k v))) b t cs) := Lib.hid (fun w2 hb => by
    have X := B.step hb
    have hl : (chipC (cycZ zs gs st k v) (cycG gs st k) (nextS st k v)).length = (chipC zs gs st).length := by rw [chipC_len, chipC_len, cycZ_len, cycG_len]
    have hbw := btw_setCells (chipC (cycZ zs gs st k v) (cycG gs st k) (nextS st k v)) 0 w2 (Btw.refl b2 (b2 + 1) w2)
    have hsz : (w2.setCells b2 0 (chipC (cycZ zs gs st k v) (cycG gs st k) (nextS st k v))).heap.size = w2.heap.size := size_setCells _ _ _ _
    refine ⟨by rw [List.size_toArray, hl]; exact X.f.thereL, ⟨X.r.awayB X.f (by decide) hbw, X.i.awayB X.f (by decide) hbw, X.f.putL hl, X.o.awayB X.f (by decide) hbw, X.R.awayB X.f (by decide) hbw, (X.I.awayB X.f (by decide) hbw).wideB (Nat.le_refl _) (by rw [hsz]; exact Nat.le_refl _), by rw [hsz]; exact X.l⟩, fun b t cs _ h Y => (Y.step hb).awayB X.f h hbw⟩)
  have HS : Hid ((Try.prog.info? 119).map (·.size) = some (chipC (cycZ zs gs st k v) (cycG gs st k) (nextS st k v)).toArray.size ∧ (chipC (cycZ zs gs st k v) (cycG gs st k) (nextS st k v)).toArray.all (·.oneCell') = true) := Lib.hid ⟨(sizeC _ _ _ (by rw [cycZ_len]; exact hz) (by rw [cycG_len]; exact hg)).trans (congrArg some List.size_toArray.symm), all_oneCell_toArray (chipC_one _ _ _)⟩
  have hlo := B.l.2.2.1
  have hbl : Below lo w w := Below.refl _ _
  have HQ : Hid (lo ≤ w.heap.size) := Lib.hid (Nat.le_of_lt (Nat.lt_of_le_of_lt hlo B.f.lt))
  generalize chipC zs gs st = ca at HR HL
  generalize hcb : chipC (cycZ zs gs st k v) (cycG gs st k) (nextS st k v) = cb at HR HN HS
  have hwr := wrap8 (v : Int) (by omega) (by omega)
  have hmd : (v : Int) % 256 = v := by omega
  clear hz hg hs hzs B hcb
  go_enter Try.func147, Try.ntmps147
  go_wp2_with (first
    | (with_reducible refine wpList_load_mid rfl 119 (.tmp 9) rfl b2 0 rfl ca _ HL.out.1 Try.underlying119 rfl HL.out.2 ?_))
  refine HR.out.mono ?_
  rintro e w2 ⟨rfl, hb2⟩
  obtain ⟨hr, hB, hO⟩ := HN.out w2 hb2
  have HRoom := Lib.hid hr
  have HBus := Lib.hid hB
  have HO := Lib.hid hO
  clear hr hB hO HN
  go_wp2_with (first
    | (with_reducible refine wpList_store_mid rfl 119 (.tmp 16) (.tmp 14) rfl b2 0 cb.toArray rfl rfl HRoom.out HS.out.1 HS.out.2 ?_))
  go_end0
  exact ⟨rfl, HBus, HO, (hb2.mono HQ.out).trans (below_setCellsN (Below.refl _ _) hlo 0 cb)⟩
end
end Go.Proofs.Ytngoijchebfolaa
