/- The laws' own functions over Flash, on leaves. Written by gen_t.py. -/
import Derived.Test.YtieljgoodmoacaaGenC
namespace Go.Proofs.Ytieljgoodmoacaa
open Go.RowKit

set_option maxRecDepth 100000 in
set_option maxHeartbeats 2000000 in
theorem szFlashA (vA0 vA1 : Option Addr) (vc0 vc1 : Nat) (d0 : List Int) (d1 : List Bool) (d2 : Int) (left : Int) (w : World) (h : RepA w [.slice vA0 d0.length vc0, .slice vA1 d1.length vc1] [Lf.I d0, Lf.B d1]) (hf : FitA [Lf.I d0, Lf.B d1]) (h0 : 0 ≤ left) (h1 : left ≤ 1048576) :
    Calls Try.prog 40 #[.agg #[.slice vA0 d0.length vc0, .slice vA1 d1.length vc1, .int .i64 d2], .int .i64 left] w (Left left (szA [Lf.I d0, Lf.B d1]) w) := by
  have H0 := Lib.hid (fun W (hb : Below w.heap.size w W) l g0 g1 => szLI (.slice vA0 d0.length vc0) d0 l W ((h.below hb).1) (hf _ (by simp)) g0 g1)
  have H1 := Lib.hid (fun W (hb : Below w.heap.size w W) l g0 g1 => szLB (.slice vA1 d1.length vc1) d1 l W ((h.below hb).2.1) (hf _ (by simp)) g0 g1)
  have HR : Hid (szA [Lf.I d0, Lf.B d1] = (Lf.sz (Lf.I d0)) + (Lf.sz (Lf.B d1))) := Lib.hid (by simp only [szA]; omega)
  generalize szA [Lf.I d0, Lf.B d1] = sa at HR ⊢
  generalize (Lf.sz (Lf.I d0)) = z0 at HR H0
  generalize (Lf.sz (Lf.B d1)) = z1 at HR H1
  have hb0 := alloc_below w (.cells #[.slice vA0 d0.length vc0, .slice vA1 d1.length vc1, .int .i64 d2] 39)
  have X := Lib.hid (Box.new w 39 #[.slice vA0 d0.length vc0, .slice vA1 d1.length vc1, .int .i64 d2])
  clear h hf
  go_enter Try.func40, Try.ntmps40
  go_wp2_with fail
  refine (H0.out _ hb0 _ (by omega) (by omega)).mono ?_
  rintro e w1 ⟨hres, hc1⟩
  have X1 := Lib.hid (X.out.step hc1)
  have hb1 := bt hb0 hc1
  clear X hb0 hc1
  rcases hres with rfl | ⟨rfl, hle0⟩
  · go_wp2
    go_ret
    exact ⟨.inl rfl, hb1⟩
  have hp0 : ¬ left - (z0 : Int) < 0 := by omega
  have f1 := X1.out.cell 1 rfl
  go_wp2_with fail
  refine (H1.out _ hb1 _ (by omega) (by omega)).mono ?_
  rintro e w2 ⟨hres, hc2⟩
  have X2 := Lib.hid (X1.out.step hc2)
  have hb2 := bt hb1 hc2
  clear X1 hb1 hc2 f1
  rcases hres with rfl | ⟨rfl, hle1⟩
  · go_wp2
    go_ret
    exact ⟨.inl rfl, hb2⟩
  have hp1 : ¬ left - (z0 : Int) - (z1 : Int) < 0 := by omega
  go_wp2
  go_ret
  exact ⟨.inr ⟨ret_int (by have := HR.out; omega), by have := HR.out; omega⟩, hb2⟩

set_option maxRecDepth 100000 in
set_option maxHeartbeats 4000000 in
theorem toFlashA (vA0 vA1 : Option Addr) (vc0 vc1 : Nat) (d0 : List Int) (d1 : List Bool) (d2 : Int) (w : World) (h : RepA w [.slice vA0 d0.length vc0, .slice vA1 d1.length vc1] [Lf.I d0, Lf.B d1]) (hn : lenA [Lf.I d0, Lf.B d1] ≤ 1048576) :
    Calls Try.prog 45 #[.agg #[.slice vA0 d0.length vc0, .slice vA1 d1.length vc1, .int .i64 d2]] w (fun e w' => ∃ uA0 uA1 uc0 uc1, e = .returned (.agg #[.slice uA0 d0.length uc0, .slice uA1 d1.length uc1, .int .i64 d2]) ∧ Hid (OwnA w' w.heap.size w'.heap.size [.slice uA0 d0.length uc0, .slice uA1 d1.length uc1] [Lf.I d0, Lf.B d1]) ∧ Hid (CapA [.slice uA0 d0.length uc0, .slice uA1 d1.length uc1]) ∧ Below w.heap.size w w') := by
  obtain ⟨W0, hW0⟩ : ∃ W0, W0 = (((w.alloc (.cells #[.slice vA0 d0.length vc0, .slice vA1 d1.length vc1, .int .i64 d2] 39)).alloc (.cells #[.slice none 0 0, .slice none 0 0, .int .i64 0] 43)).alloc (.cells #[.slice none 0 0, .slice none 0 0, .int .i64 0] 43)) := ⟨_, rfl⟩
  have hs0 : W0.heap.size = w.heap.size + 1 + 1 + 1 := by rw [hW0]; simp
  have hb0 : Below w.heap.size w W0 := by rw [hW0]; exact (((Below.refl _ _).alloc (Nat.le_refl _) _).alloc (by simp) _).alloc (by simp; omega) _
  have X0 : Hid (Box W0 w.heap.size 39 #[.slice vA0 d0.length vc0, .slice vA1 d1.length vc1, .int .i64 d2]) := Lib.hid (by rw [hW0]; exact ((Box.new _ _ _).alloc _).alloc _)
  have Y0 : Hid (Box W0 (w.heap.size + 1) 43 #[.slice none 0 0, .slice none 0 0, .int .i64 0]) := Lib.hid (by rw [hW0]; simpa using (Box.new (w.alloc (.cells #[.slice vA0 d0.length vc0, .slice vA1 d1.length vc1, .int .i64 d2] 39)) 43 #[.slice none 0 0, .slice none 0 0, .int .i64 0]).alloc (.cells #[.slice none 0 0, .slice none 0 0, .int .i64 0] 43))
  have Z0 : Hid (Box W0 (w.heap.size + 1 + 1) 43 #[.slice none 0 0, .slice none 0 0, .int .i64 0]) := Lib.hid (by rw [hW0]; simpa using Box.new ((w.alloc (.cells #[.slice vA0 d0.length vc0, .slice vA1 d1.length vc1, .int .i64 d2] 39)).alloc (.cells #[.slice none 0 0, .slice none 0 0, .int .i64 0] 43)) 43 #[.slice none 0 0, .slice none 0 0, .int .i64 0])
  have O0 : Hid (OwnA W0 (w.heap.size + 3) W0.heap.size [] []) := Lib.hid (OwnA.nil _ _ _)
  have H0 := Lib.hid (fun W (hb : Below w.heap.size w W) => toLI (.slice vA0 d0.length vc0) d0 W ((h.below hb).1) (by simp only [lenA, Lf.len] at hn; omega))
  have H1 := Lib.hid (fun W (hb : Below w.heap.size w W) => toLB (.slice vA1 d1.length vc1) d1 W ((h.below hb).2.1) (by simp only [lenA, Lf.len] at hn; omega))
  have HW0 := Lib.hid hW0
  have HS0 := Lib.hid hs0
  clear h hn hW0 hs0
  go_enter Try.func45, Try.ntmps45
  go_wp2_with fail
  rw [← HW0.out]
  refine (H0.out _ hb0).mono ?_
  rintro e w1 ⟨uA0, uc0, rfl, N1, K0, hc⟩
  have hq0 : w.heap.size + 3 ≤ W0.heap.size := by have := Z0.out.lt; omega
  have X1 := Lib.hid (X0.out.step hc)
  have Y1 := Lib.hid (Y0.out.step hc)
  have Z1 := Lib.hid (Z0.out.step hc)
  have O1 : Hid (OwnA w1 (w.heap.size + 3) w1.heap.size [.slice uA0 d0.length uc0] [Lf.I d0]) := Lib.hid ((O0.out.below hc).append (OwnA.one N1.out) (.inl (Nat.le_refl _)) (Nat.le_refl _) hq0 hc.size (Nat.le_refl _))
  have hb1 := bt hb0 hc
  clear X0 Y0 Z0 O0 hb0 hc N1 hq0 HW0 HS0
  have fa1 := X1.out.cell 1 rfl
  have fz0 := Z1.out.cell 0 rfl
  have gz0 := Z1.out.frozen 0
  go_wp2_with fail
  obtain ⟨V1, hV1⟩ : ∃ V1, V1 = (w1.setCell ⟨w.heap.size + 1 + 1, 0, none⟩ (.slice uA0 d0.length uc0)) := ⟨_, rfl⟩
  have X2 : Hid (Box V1 w.heap.size 39 #[.slice vA0 d0.length vc0, .slice vA1 d1.length vc1, .int .i64 d2]) := Lib.hid (by rw [hV1]; exact (X1.out.far (p := ⟨w.heap.size + 1 + 1, 0, none⟩) (by show w.heap.size ≠ w.heap.size + 1 + 1; omega) (.slice uA0 d0.length uc0)))
  have Y2 : Hid (Box V1 (w.heap.size + 1) 43 #[.slice none 0 0, .slice none 0 0, .int .i64 0]) := Lib.hid (by rw [hV1]; exact (Y1.out.far (p := ⟨w.heap.size + 1 + 1, 0, none⟩) (by show w.heap.size + 1 ≠ w.heap.size + 1 + 1; omega) (.slice uA0 d0.length uc0)))
  have Z2 : Hid (Box V1 (w.heap.size + 1 + 1) 43 #[.slice uA0 d0.length uc0, .slice none 0 0, .int .i64 0]) := Lib.hid (by rw [hV1]; exact (Z1.out.set 0 (.slice uA0 d0.length uc0)))
  have hsz2 : V1.heap.size = w1.heap.size := by rw [hV1]; simp [World.setCell]
  have O2 : Hid (OwnA V1 (w.heap.size + 3) V1.heap.size [.slice uA0 d0.length uc0] [Lf.I d0]) := Lib.hid (by rw [hsz2, hV1]; exact (O1.out.set (p := ⟨w.heap.size + 1 + 1, 0, none⟩) (by show w.heap.size + 1 + 1 < w.heap.size + 3; omega) (.slice uA0 d0.length uc0)))
  have hb2 : Below w.heap.size w V1 := by rw [hV1]; exact (hb1.setCell (p := ⟨w.heap.size + 1 + 1, 0, none⟩) (by show w.heap.size ≤ w.heap.size + 1 + 1; omega) (.slice uA0 d0.length uc0))
  rw [← hV1]
  clear X1 Y1 Z1 O1 hb1 hV1 hsz2 fa1 fz0 gz0
  refine (H1.out _ hb2).mono ?_
  rintro e w2 ⟨uA1, uc1, rfl, N1, K1, hc⟩
  have hq0 : w.heap.size + 3 ≤ V1.heap.size := by have := Z2.out.lt; omega
  have X3 := Lib.hid (X2.out.step hc)
  have Y3 := Lib.hid (Y2.out.step hc)
  have Z3 := Lib.hid (Z2.out.step hc)
  have O3 : Hid (OwnA w2 (w.heap.size + 3) w2.heap.size [.slice uA0 d0.length uc0, .slice uA1 d1.length uc1] [Lf.I d0, Lf.B d1]) := Lib.hid ((O2.out.below hc).append (OwnA.one N1.out) (.inl (Nat.le_refl _)) (Nat.le_refl _) hq0 hc.size (Nat.le_refl _))
  have hb3 := bt hb2 hc
  clear X2 Y2 Z2 O2 hb2 hc N1 hq0
  have fa2 := X3.out.cell 2 rfl
  have fz1 := Z3.out.cell 1 rfl
  have gz1 := Z3.out.frozen 1
  have fz2 := Z3.out.cell 2 rfl
  have gz2 := Z3.out.frozen 2
  have fz0 := Z3.out.cell 0 rfl
  have fy0 := Y3.out.cell 0 rfl
  have gy0 := Y3.out.frozen 0
  have fy1 := Y3.out.cell 1 rfl
  have gy1 := Y3.out.frozen 1
  have fy2 := Y3.out.cell 2 rfl
  have gy2 := Y3.out.frozen 2
  go_wp2
  refine bodyPost_ret (v := .agg #[.slice uA0 d0.length uc0, .slice uA1 d1.length uc1, .int .i64 d2]) (by simp [results, Try.results45, go_sem, fy0, fy1, fy2]) rfl ?_
  refine ⟨uA0, uA1, uc0, uc1, rfl, Lib.hid (((((((O3.out.set (p := ⟨w.heap.size + 1 + 1, 1, none⟩) (by show w.heap.size + 1 + 1 < w.heap.size + 3; omega) _).set (p := ⟨w.heap.size + 1 + 1, 2, none⟩) (by show w.heap.size + 1 + 1 < w.heap.size + 3; omega) _).set (p := ⟨w.heap.size + 1, 0, none⟩) (by show w.heap.size + 1 < w.heap.size + 3; omega) _).set (p := ⟨w.heap.size + 1, 1, none⟩) (by show w.heap.size + 1 < w.heap.size + 3; omega) _).set (p := ⟨w.heap.size + 1, 2, none⟩) (by show w.heap.size + 1 < w.heap.size + 3; omega) _)).wide (by omega) (by simp [World.setCell])), Lib.hid (CapA.cons K0.out (CapA.cons K1.out CapA.nil)), (((((hb3.setCell (p := ⟨w.heap.size + 1 + 1, 1, none⟩) (by show w.heap.size ≤ w.heap.size + 1 + 1; omega) _).setCell (p := ⟨w.heap.size + 1 + 1, 2, none⟩) (by show w.heap.size ≤ w.heap.size + 1 + 1; omega) _).setCell (p := ⟨w.heap.size + 1, 0, none⟩) (by show w.heap.size ≤ w.heap.size + 1; omega) _).setCell (p := ⟨w.heap.size + 1, 1, none⟩) (by show w.heap.size ≤ w.heap.size + 1; omega) _).setCell (p := ⟨w.heap.size + 1, 2, none⟩) (by show w.heap.size ≤ w.heap.size + 1; omega) _)⟩

set_option maxRecDepth 100000 in
set_option maxHeartbeats 4000000 in
theorem eqFlashA (vA0 vA1 : Option Addr) (vc0 vc1 : Nat) (uA0 uA1 : Option Addr) (uc0 uc1 : Nat) (d0 : List Int) (d1 : List Bool) (d2 : Int) (w : World) (h : RepA w [.slice vA0 d0.length vc0, .slice vA1 d1.length vc1] [Lf.I d0, Lf.B d1]) (h' : RepA w [.slice uA0 d0.length uc0, .slice uA1 d1.length uc1] [Lf.I d0, Lf.B d1]) (hn : lenA [Lf.I d0, Lf.B d1] ≤ maxLen) :
    Calls Try.prog 52 #[.agg #[.slice vA0 d0.length vc0, .slice vA1 d1.length vc1, .int .i64 d2], .agg #[.slice uA0 d0.length uc0, .slice uA1 d1.length uc1, .int .i64 d2]] w fun e w' => e = .returned (.bool true) ∧ Below w.heap.size w w' := by
  have H0 := Lib.hid (fun W (hb : Below w.heap.size w W) => eqLI (.slice vA0 d0.length vc0) (.slice uA0 d0.length uc0) d0 W ((h.below hb).1) ((h'.below hb).1) (by simp only [lenA, Lf.len] at hn; omega))
  have H1 := Lib.hid (fun W (hb : Below w.heap.size w W) => eqLB (.slice vA1 d1.length vc1) (.slice uA1 d1.length uc1) d1 W ((h.below hb).2.1) ((h'.below hb).2.1) (by simp only [lenA, Lf.len] at hn; omega))
  obtain ⟨W0, hW0⟩ : ∃ W0, W0 = ((w.alloc (.cells #[.slice vA0 d0.length vc0, .slice vA1 d1.length vc1, .int .i64 d2] 43)).alloc (.cells #[.slice uA0 d0.length uc0, .slice uA1 d1.length uc1, .int .i64 d2] 43)) := ⟨_, rfl⟩
  have hb0 : Below w.heap.size w W0 := by rw [hW0]; exact ((Below.refl _ _).alloc (Nat.le_refl _) _).alloc (by simp) _
  have X0 : Hid (Box W0 w.heap.size 43 #[.slice vA0 d0.length vc0, .slice vA1 d1.length vc1, .int .i64 d2]) := Lib.hid (by rw [hW0]; exact (Box.new _ _ _).alloc _)
  have Y0 : Hid (Box W0 (w.heap.size + 1) 43 #[.slice uA0 d0.length uc0, .slice uA1 d1.length uc1, .int .i64 d2]) := Lib.hid (by rw [hW0]; simpa using Box.new (w.alloc (.cells #[.slice vA0 d0.length vc0, .slice vA1 d1.length vc1, .int .i64 d2] 43)) 43 #[.slice uA0 d0.length uc0, .slice uA1 d1.length uc1, .int .i64 d2])
  have HW0 := Lib.hid hW0
  have hq2 : (d2 != d2) = false := by simp
  clear hW0 h h' hn
  go_enter Try.func52, Try.ntmps52
  go_wp2_with fail
  rw [← HW0.out]
  refine (H0.out _ hb0).mono ?_
  rintro e w1 ⟨rfl, hc⟩
  have X1 := Lib.hid (X0.out.step hc)
  have Y1 := Lib.hid (Y0.out.step hc)
  have hb1 := bt hb0 hc
  clear X0 Y0 hb0 hc HW0
  have k1 := X1.out.cell 1 rfl
  have l1 := Y1.out.cell 1 rfl
  go_wp2_with fail
  refine (H1.out _ hb1).mono ?_
  rintro e w2 ⟨rfl, hc⟩
  have X2 := Lib.hid (X1.out.step hc)
  have Y2 := Lib.hid (Y1.out.step hc)
  have hb2 := bt hb1 hc
  clear X1 Y1 hb1 hc k1 l1
  have k2 := X2.out.cell 2 rfl
  have l2 := Y2.out.cell 2 rfl
  go_wp2
  go_ret
  exact ⟨rfl, hb2⟩

set_option maxRecDepth 100000 in
set_option maxHeartbeats 4000000 in
theorem markFlashA (vA0 vA1 : Option Addr) (vc0 vc1 : Nat) (d0 : List Int) (d1 : List Bool) (d2 : Int) (k lo hi : Nat) (w : World) (h : OwnA w lo hi [.slice vA0 d0.length vc0, .slice vA1 d1.length vc1] [Lf.I d0, Lf.B d1]) (hhi : hi ≤ w.heap.size) (hk : 1 ≤ k) (hB : BndA [Lf.I d0, Lf.B d1]) (hk2 : k + lenA [Lf.I d0, Lf.B d1] ≤ 549755813888) :
    Calls Try.prog 53 #[.agg #[.slice vA0 d0.length vc0, .slice vA1 d1.length vc1, .int .i64 d2], .int .i64 (k : Int)] w fun e w' => e = .returned (.int .i64 ((k + lenA [Lf.I d0, Lf.B d1] : Nat) : Int)) ∧ Hid (OwnA w' lo hi [.slice vA0 d0.length vc0, .slice vA1 d1.length vc1] (marksA k [Lf.I d0, Lf.B d1])) ∧ Touch [.slice vA0 d0.length vc0, .slice vA1 d1.length vc1] w w' := by
  have hb0 := alloc_below w (.cells #[.slice vA0 d0.length vc0, .slice vA1 d1.length vc1, .int .i64 d2] 43)
  have X0 := Lib.hid (Box.new w 43 #[.slice vA0 d0.length vc0, .slice vA1 d1.length vc1, .int .i64 d2])
  have O0 := Lib.hid (h.below hb0)
  have T0 := Lib.hid (Touch.of_below hb0 [.slice vA0 d0.length vc0, .slice vA1 d1.length vc1])
  have H0 := Lib.hid (fun W (o : OwnL W lo hi (.slice vA0 d0.length vc0) (Lf.I d0)) => markLI (.slice vA0 d0.length vc0) d0 (k) lo hi W o (by omega) (hB (Lf.I d0) (by simp)) (by simp only [lenA] at hk2 ⊢; omega))
  have H1 := Lib.hid (fun W (o : OwnL W lo hi (.slice vA1 d1.length vc1) (Lf.B d1)) => markLB (.slice vA1 d1.length vc1) d1 (k + (Lf.len (Lf.I d0))) lo hi W o (by omega) (hB (Lf.B d1) (by simp)) (by simp only [lenA] at hk2 ⊢; omega))
  have HH := Lib.hid hhi
  clear h hb0 hB hk2 hk hhi
  go_enter Try.func53, Try.ntmps53
  have G0 := OwnA.seg (a := []) (m := [.slice vA0 d0.length vc0]) (b := [.slice vA1 d1.length vc1]) (da := []) (dm := [Lf.I d0]) (db := [Lf.B d1]) O0.out rfl rfl
  have HC0 := Lib.hid (H0.out _ G0.1.1)
  clear G0
  go_wp2_with fail
  refine HC0.out.mono ?_
  rintro e w1 ⟨rfl, M0, U0⟩
  have O1 := Lib.hid (OwnA.reseg (a := []) (m := [.slice vA0 d0.length vc0]) (b := [.slice vA1 d1.length vc1]) (da := []) (dm := [Lf.I d0]) (db := [Lf.B d1]) (dm' := [(Lf.I d0).marks (k)]) O0.out rfl rfl (OwnA.one M0.out) U0)
  have T1 := Lib.hid (T0.out.chain (U0.mem (by simp +contextual)))
  have X1 : Hid (Box w1 w.heap.size 43 #[.slice vA0 d0.length vc0, .slice vA1 d1.length vc1, .int .i64 d2]) := Lib.hid (X0.out.touch (OwnA.seg (a := []) (m := [.slice vA0 d0.length vc0]) (b := [.slice vA1 d1.length vc1]) (da := []) (dm := [Lf.I d0]) (db := [Lf.B d1]) O0.out rfl rfl) U0 (.inr HH.out))
  clear X0 O0 T0 M0 U0 HC0
  have f1 := X1.out.cell 1 rfl
  have G1 := OwnA.seg (a := [.slice vA0 d0.length vc0]) (m := [.slice vA1 d1.length vc1]) (b := []) (da := [(Lf.I d0).marks (k)]) (dm := [Lf.B d1]) (db := []) O1.out rfl rfl
  have HC1 := Lib.hid (H1.out _ G1.1.1)
  clear G1
  go_wp2_with fail
  try rw [HKe1.out]
  refine HC1.out.mono ?_
  rintro e w2 ⟨rfl, M1, U1⟩
  have O2 := Lib.hid (OwnA.reseg (a := [.slice vA0 d0.length vc0]) (m := [.slice vA1 d1.length vc1]) (b := []) (da := [(Lf.I d0).marks (k)]) (dm := [Lf.B d1]) (db := []) (dm' := [(Lf.B d1).marks (k + (Lf.len (Lf.I d0)))]) O1.out rfl rfl (OwnA.one M1.out) U1)
  have T2 := Lib.hid (T1.out.chain (U1.mem (by simp +contextual)))
  have X2 : Hid (Box w2 w.heap.size 43 #[.slice vA0 d0.length vc0, .slice vA1 d1.length vc1, .int .i64 d2]) := Lib.hid (X1.out.touch (OwnA.seg (a := [.slice vA0 d0.length vc0]) (m := [.slice vA1 d1.length vc1]) (b := []) (da := [(Lf.I d0).marks (k)]) (dm := [Lf.B d1]) (db := []) O1.out rfl rfl) U1 (.inr HH.out))
  clear X1 O1 T1 M1 U1 HC1 f1
  go_wp2
  go_ret
  refine ⟨?_, Lib.hid ?_, T2.out⟩
  · refine ret_int ?_
    simp only [lenA]; omega
  · have := O2.out
    first | exact this | (simp only [marksA, lenA, List.cons_append, List.nil_append, Nat.add_zero, Nat.add_assoc] at this ⊢; exact this)

set_option maxRecDepth 100000 in
set_option maxHeartbeats 4000000 in
theorem heldFlashA (vA0 vA1 : Option Addr) (vc0 vc1 : Nat) (d0 : List Int) (d1 : List Bool) (d2 : Int) (k : Nat) (w : World) (h : RepA w [.slice vA0 d0.length vc0, .slice vA1 d1.length vc1] (marksA k [Lf.I d0, Lf.B d1])) (hk : 1 ≤ k) (hB : BndA [Lf.I d0, Lf.B d1]) (hk2 : k + lenA [Lf.I d0, Lf.B d1] ≤ 549755813888) :
    Calls Try.prog 54 #[.agg #[.slice vA0 d0.length vc0, .slice vA1 d1.length vc1, .int .i64 d2], .int .i64 (k : Int)] w fun e w' => e = .returned (.int .i64 ((k + lenA [Lf.I d0, Lf.B d1] : Nat) : Int)) ∧ Below w.heap.size w w' := by
  have hb0 := alloc_below w (.cells #[.slice vA0 d0.length vc0, .slice vA1 d1.length vc1, .int .i64 d2] 43)
  have X0 := Lib.hid (Box.new w 43 #[.slice vA0 d0.length vc0, .slice vA1 d1.length vc1, .int .i64 d2])
  simp only [marksA] at h
  have H0 := Lib.hid (fun W (hb : Below w.heap.size w W) => heldLI (.slice vA0 d0.length vc0) d0 (k) W (by have := (h.below hb).1; simpa only [Nat.add_assoc] using this) (by omega) (hB (Lf.I d0) (by simp)) (by simp only [lenA] at hk2 ⊢; omega))
  have H1 := Lib.hid (fun W (hb : Below w.heap.size w W) => heldLB (.slice vA1 d1.length vc1) d1 (k + (Lf.len (Lf.I d0))) W (by have := (h.below hb).2.1; simpa only [Nat.add_assoc] using this) (by omega) (hB (Lf.B d1) (by simp)) (by simp only [lenA] at hk2 ⊢; omega))
  clear h hB hk hk2
  go_enter Try.func54, Try.ntmps54
  go_wp2_with fail
  refine (H0.out _ hb0).mono ?_
  rintro e w1 ⟨rfl, hc⟩
  have X1 := Lib.hid (X0.out.step hc)
  have hb1 := bt hb0 hc
  clear X0 hb0 hc
  have hp0 : ¬ ((k + (Lf.len (Lf.I d0)) : Nat) : Int) < 0 := by omega
  have f1 := X1.out.cell 1 rfl
  go_wp2_with fail
  refine (H1.out _ hb1).mono ?_
  rintro e w2 ⟨rfl, hc⟩
  have X2 := Lib.hid (X1.out.step hc)
  have hb2 := bt hb1 hc
  clear X1 hb1 hc f1
  have hp1 : ¬ ((k + (Lf.len (Lf.I d0)) + (Lf.len (Lf.B d1)) : Nat) : Int) < 0 := by omega
  go_wp2
  go_ret
  exact ⟨ret_int (by simp only [lenA]; omega), hb2⟩

end Go.Proofs.Ytieljgoodmoacaa
