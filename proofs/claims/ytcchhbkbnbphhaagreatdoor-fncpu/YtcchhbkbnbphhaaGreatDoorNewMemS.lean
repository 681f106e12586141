/- The model's l05New and NewMem; NewMem on leaves. Written by gen_newmems.py. -/
import Derived.Test.YtcchhbkbnbphhaaGreatDoorNewMem
namespace Go.Proofs.YtcchhbkbnbphhaaGreatDoor
open Go.RowKit

theorem arr25 (T : Array Value) (h : T.size = 25) : ∃ t0 t1 t2 t3 t4 t5 t6 t7 t8 t9 t10 t11 t12 t13 t14 t15 t16 t17 t18 t19 t20 t21 t22 t23 t24 : Value, T = #[t0, t1, t2, t3, t4, t5, t6, t7, t8, t9, t10, t11, t12, t13, t14, t15, t16, t17, t18, t19, t20, t21, t22, t23, t24] := by
  obtain ⟨l⟩ := T
  match l, h with
  | [t0, t1, t2, t3, t4, t5, t6, t7, t8, t9, t10, t11, t12, t13, t14, t15, t16, t17, t18, t19, t20, t21, t22, t23, t24], _ => exact ⟨t0, t1, t2, t3, t4, t5, t6, t7, t8, t9, t10, t11, t12, t13, t14, t15, t16, t17, t18, t19, t20, t21, t22, t23, t24, rfl⟩

theorem setCell_self {w : World} {p : Addr} {u v : Value} (h : w.cell? p = some u) : ∃ x, (w.setCell p v).cell? p = some x := by
  exact ⟨_, World.cell?_setCell_same' w p v (by rw [h]; rfl)⟩
theorem frozen_setCell (w : World) (p q : Addr) (v : Value) : (w.setCell p v).frozen? q = w.frozen? q := by simp
def newsF (S : Nat) : Nat → (Nat → Value) → World → Prop
  | 0, t, w => ∃ b, t 5 = .slice (some ⟨b, 0, none⟩) 256 256 ∧ Box w b 3 (madeCells #[.int .i64 0] 256) ∧ S ≤ b
  | 1, t, w => ∃ b, t 6 = .slice (some ⟨b, 0, none⟩) 32 32 ∧ Box w b 3 (madeCells #[.int .i64 0] 32) ∧ S ≤ b
  | 2, t, w => ∃ A c C d, t 7 = .agg #[.slice A 256 c, .slice C 16 d, .int .i64 0] ∧ OwnI w S w.heap.size A newZ ∧ OwnB w S w.heap.size C zG
  | 3, t, _ => ∃ b b1 A c C d, t 5 = .slice (some ⟨b, 0, none⟩) 256 256 ∧ t 6 = .slice (some ⟨b1, 0, none⟩) 32 32 ∧ t 7 = .agg #[.slice A 256 c, .slice C 16 d, .int .i64 0] ∧ t 8 = .agg #[.slice (some ⟨b, 0, none⟩) 256 256, .slice (some ⟨b1, 0, none⟩) 32 32, .slice A 256 c, .slice C 16 d, .int .i64 0]
  | 4, t, w => ∃ bm, t 3 = .pointer (some ⟨bm, 0, none⟩) ∧ S ≤ bm ∧ ∃ cs : Array Value, cs.size = 5 ∧ Box w bm 31 cs
  | 5, t, w => ∃ b b1 A c C d bm, t 5 = .slice (some ⟨b, 0, none⟩) 256 256 ∧ t 6 = .slice (some ⟨b1, 0, none⟩) 32 32 ∧ t 7 = .agg #[.slice A 256 c, .slice C 16 d, .int .i64 0] ∧ t 3 = .pointer (some ⟨bm, 0, none⟩) ∧ Box w bm 31 #[.slice (some ⟨b, 0, none⟩) 256 256, .slice (some ⟨b1, 0, none⟩) 32 32, .slice A 256 c, .slice C 16 d, .int .i64 0]
  | _, _, _ => True
section
variable {S : Nat} {w w' : World}
theorem newsF_below (k : Below w.heap.size w w') : ∀ (j : Nat) (t : Nat → Value), newsF S j t w → newsF S j t w'
  | 3, _, h => h
  | 0, _, ⟨b, e, h, q⟩ => ⟨b, e, h.step k, q⟩
  | 1, _, ⟨b, e, h, q⟩ => ⟨b, e, h.step k, q⟩
  | 2, _, ⟨A, c, C, d, e, h, g⟩ => ⟨A, c, C, d, e, (h.below k).wideB (Nat.le_refl _) k.size, (g.below k).wide (Nat.le_refl _) k.size⟩
  | 4, _, ⟨bm, e, q, cs, hs, h⟩ => ⟨bm, e, q, cs, hs, h.step k⟩
  | 5, _, ⟨b, b1, A, c, C, d, bm, e1, e2, e3, e4, h⟩ => ⟨b, b1, A, c, C, d, bm, e1, e2, e3, e4, h.step k⟩
  | _ + 6, _, _ => trivial
theorem newsF_store {bm : Nat} {ys : Array Value} (Y : Box w bm 31 ys) (i : Nat) (u : Value) : ∀ (j : Nat) (t : Nat → Value), j ≠ 5 → newsF S j t w → newsF S j t (w.setCell ⟨bm, i, none⟩ u)
  | 3, _, _, h => h
  | 0, _, _, ⟨b, e, h, q⟩ => ⟨b, e, h.far (p := ⟨bm, i, none⟩) (h.box_ne Y (by decide)) u, q⟩
  | 1, _, _, ⟨b, e, h, q⟩ => ⟨b, e, h.far (p := ⟨bm, i, none⟩) (h.box_ne Y (by decide)) u, q⟩
  | 2, _, _, ⟨A, c, C, d, e, h, g⟩ => ⟨A, c, C, d, e, (h.farB Y (by decide) i u).wideB (Nat.le_refl _) (by simp [World.setCell]), (g.far Y (by decide) i u).wide (Nat.le_refl _) (by simp [World.setCell])⟩
  | 4, _, _, ⟨b, e, q, cs, hs, h⟩ => by
    by_cases hb : b = bm
    · subst hb; exact ⟨b, e, q, _, by simpa using hs, h.set i u⟩
    · exact ⟨b, e, q, cs, hs, h.far (p := ⟨bm, i, none⟩) hb u⟩
  | 5, _, n, _ => (n rfl).elim
  | _ + 6, _, _, _ => trivial
end
structure NewAt (S hi b b1 ba bm c : Nat) (C : Option Addr) (d : Nat) (p : List Int) (j : Nat) (w : World) : Prop where
  B0 : Box w b 3 (madeCells #[.int .i64 0] 256)
  B1 : Box w b1 3 (madeCells #[.int .i64 0] 32)
  A : OwnI w S hi (some ⟨ba, 0, none⟩) (progZ p j)
  G : OwnB w S hi C zG
  M : Box w bm 31 #[.slice (some ⟨b, 0, none⟩) 256 256, .slice (some ⟨b1, 0, none⟩) 32 32, .slice (some ⟨ba, 0, none⟩) 256 c, .slice C 16 d, .int .i64 0]
  q0 : S ≤ b
  q1 : S ≤ b1
  qm : S ≤ bm
  r0 : b < hi
  r1 : b1 < hi
theorem NewAt.drew {S hi b b1 ba bm c : Nat} {C : Option Addr} {d : Nat} {p : List Int} {j : Nat} {w : World} (h : NewAt S hi b b1 ba bm c C d p j w) : NewAt S hi b b1 ba bm c C d p j w.drew := ⟨h.B0, h.B1, h.A, h.G, h.M, h.q0, h.q1, h.qm, h.r0, h.r1⟩
theorem NewAt.next {S hi b b1 ba bm c : Nat} {C : Option Addr} {d : Nat} {p : List Int} {w : World} (j : Nat) (h : NewAt S hi b b1 ba bm c C d p j w) (hj : j < 256) (h0 : b ≠ ba) (h1 : b1 ≠ ba) {m : Nat} {f : Nat → Value} (hr : w.rowIs ba 3 m f) (hput : ∀ x, OwnI (w.setCell ⟨ba, j, none⟩ (.int .i64 x)) S hi (some ⟨ba, 0, none⟩) ((progZ p j).set j x)) : NewAt S hi b b1 ba bm c C d p (j + 1) (w.setCell ⟨ba, j, none⟩ (.int .i64 (p.getD j 0))) :=
  ⟨h.B0.far (p := ⟨ba, j, none⟩) h0 _, h.B1.far (p := ⟨ba, j, none⟩) h1 _, by have := hput (p.getD j 0); rwa [progZ_next p j hj] at this, h.G.other hr (by decide) j _, h.M.other hr (by decide) j _, h.q0, h.q1, h.qm, h.r0, h.r1⟩

set_option maxRecDepth 100000 in
set_option maxHeartbeats 8000000 in
theorem l05New (A0 : Option Addr) (n c0 : Nat) (p : List Int) (w : World) (hl : p.length = n) (hn : n ≤ 256) (h : IntL w A0 p) :
    Calls Tryz.prog 43 #[.slice A0 n c0] w (GivesMem zR zI (progZ p p.length) zG 0 w) := by
  obtain ⟨W0, hW0⟩ : ∃ W0, W0 = (w.alloc (.cells #[.slice none 0 0, .slice none 0 0, .slice none 0 0, .slice none 0 0, .int .i64 0] 31)) := ⟨_, rfl⟩
  have hb0 : Below w.heap.size w W0 := by rw [hW0]; exact alloc_below _ _
  have Y0 : Hid (Box W0 w.heap.size 31 #[.slice none 0 0, .slice none 0 0, .slice none 0 0, .slice none 0 0, .int .i64 0]) := Lib.hid (by rw [hW0]; exact Box.new _ _ _)
  have HN := Lib.hid (fun W => specNewFlash W)
  have H := Lib.hid (And.intro hl h)
  have HPb : Hid (∀ ad : Addr, A0 = some ad → ∀ j, j < p.length → ad.block < w.heap.size) := Lib.hid (fun ad e j hj => by
    obtain ⟨b, off, e2, hc⟩ := h j hj
    rw [e] at e2
    injection e2 with e2
    rw [e2]
    exact cell_lt (p := ⟨b, off + j, none⟩) hc)
  have HW0 := Lib.hid hW0
  have R0 : Below W0.heap.size W0 W0.drew := (Below.refl _ _).drew
  have hmk0 : ∀ W : World, (Instr.makeSlice 23 (.int .i64 256) (.int .i64 256)).run Tryz.prog W = .ok (.slice (some ⟨W.heap.size, 0, none⟩) 256 256) (W.alloc (.cells (madeCells #[.int .i64 0] 256) 3)) := fun W => run_make_row' (P := Tryz.prog) 23 3 (.int .i64 0) 8 Tryz.underlying23 infoI rfl .i64 .i64 256 (by omega) (by omega) W
  have hmk1 : ∀ W : World, (Instr.makeSlice 23 (.int .i64 32) (.int .i64 32)).run Tryz.prog W = .ok (.slice (some ⟨W.heap.size, 0, none⟩) 32 32) (W.alloc (.cells (madeCells #[.int .i64 0] 32) 3)) := fun W => run_make_row' (P := Tryz.prog) 23 3 (.int .i64 0) 8 Tryz.underlying23 infoI rfl .i64 .i64 32 (by omega) (by omega) W
  clear hl h hW0
  go_enter Tryz.func43, Tryz.ntmps43
  go_wp2
  rw [← HW0.out]
  refine wp_region_facts (by kernel_rfl) [[5], [6], [7], [5, 6, 7, 8], [3], [5, 6, 7, 3]] [[], [], [], [0, 1, 2], [], [0, 1, 2, 3, 4]] [0, 2] (by kernel_rfl) (Below W0.heap.size W0) (newsF W0.heap.size) R0 ?_ ?_
  · refine ⟨?_, ?_, ?_, ?_, ?_, ?_, trivial⟩
    · intro T W hT hs hC hF K hK
      obtain ⟨t0, t1, t2, t3, t4, t5, t6, t7, t8, t9, t10, t11, t12, t13, t14, t15, t16, t17, t18, t19, t20, t21, t22, t23, t24, rfl⟩ := arr25 T hT
      obtain rfl : t0 = .slice A0 n c0 := hs 0 (by decide)
      obtain rfl : t2 = .pointer (some ⟨w.heap.size, 0, none⟩) := hs 2 (by decide)
      clear hF hs hT
      have k := alloc_below W (.cells (madeCells #[.int .i64 0] 256) 3)
      have hm := hmk0 W
      go_simp
      exact hK.out _ _ (bt hC (alloc_below _ _)) (fun j t _ h => newsF_below k j t h) ⟨W.heap.size, rfl, Box.new _ _ _, hC.size⟩
    · intro T W hT hs hC hF K hK
      obtain ⟨t0, t1, t2, t3, t4, t5, t6, t7, t8, t9, t10, t11, t12, t13, t14, t15, t16, t17, t18, t19, t20, t21, t22, t23, t24, rfl⟩ := arr25 T hT
      obtain rfl : t0 = .slice A0 n c0 := hs 0 (by decide)
      obtain rfl : t2 = .pointer (some ⟨w.heap.size, 0, none⟩) := hs 2 (by decide)
      clear hF hs hT
      have k := alloc_below W (.cells (madeCells #[.int .i64 0] 32) 3)
      have hm := hmk1 W
      go_simp
      exact hK.out _ _ (bt hC (alloc_below _ _)) (fun j t _ h => newsF_below k j t h) ⟨W.heap.size, rfl, Box.new _ _ _, hC.size⟩
    · intro T W hT hs hC hF K hK
      obtain ⟨t0, t1, t2, t3, t4, t5, t6, t7, t8, t9, t10, t11, t12, t13, t14, t15, t16, t17, t18, t19, t20, t21, t22, t23, t24, rfl⟩ := arr25 T hT
      obtain rfl : t0 = .slice A0 n c0 := hs 0 (by decide)
      obtain rfl : t2 = .pointer (some ⟨w.heap.size, 0, none⟩) := hs 2 (by decide)
      clear hF hs hT
      go_simp
      refine (HN.out W).mono ?_
      rintro e w1 ⟨A, n1, c, C, m1, d, rfl, L1, M1, S1, R1, k⟩
      obtain rfl : n1 = 256 := by have := L1.out; have := newZ_len; omega
      obtain rfl : m1 = 16 := by have := M1.out; have := zG_len; omega
      exact hK.out _ w1 (bt hC k) (fun j t _ h => newsF_below k j t h) ⟨A, c, C, d, rfl, S1.out.wideB hC.size (Nat.le_refl _), R1.out.wide hC.size (Nat.le_refl _)⟩
    · intro T W hT hs hC hF K hK
      obtain ⟨t0, t1, t2, t3, t4, t5, t6, t7, t8, t9, t10, t11, t12, t13, t14, t15, t16, t17, t18, t19, t20, t21, t22, t23, t24, rfl⟩ := arr25 T hT
      obtain rfl : t0 = .slice A0 n c0 := hs 0 (by decide)
      obtain rfl : t2 = .pointer (some ⟨w.heap.size, 0, none⟩) := hs 2 (by decide)
      have f0 := hF 0 (by decide)
      simp only [newsF, mask] at f0
      have f1 := hF 1 (by decide)
      simp only [newsF, mask] at f1
      have f2 := hF 2 (by decide)
      simp only [newsF, mask] at f2
      clear hF hs hT
      obtain ⟨b, e5, B0, q0⟩ := f0
      obtain ⟨b1, e6, B1, q1⟩ := f1
      obtain ⟨A, c, C, d, e7, S, Q⟩ := f2
      subst e5 e6 e7
      clear B0 B1 S Q
      go_simp
      exact hK.out _ W hC (fun _ _ _ h => h) ⟨b, b1, A, c, C, d, rfl, rfl, rfl, rfl⟩
    · intro T W hT hs hC hF K hK
      obtain ⟨t0, t1, t2, t3, t4, t5, t6, t7, t8, t9, t10, t11, t12, t13, t14, t15, t16, t17, t18, t19, t20, t21, t22, t23, t24, rfl⟩ := arr25 T hT
      obtain rfl : t0 = .slice A0 n c0 := hs 0 (by decide)
      obtain rfl : t2 = .pointer (some ⟨w.heap.size, 0, none⟩) := hs 2 (by decide)
      clear hF hs hT
      have k := alloc_below W (.cells #[.slice none 0 0, .slice none 0 0, .slice none 0 0, .slice none 0 0, .int .i64 0] 31)
      go_simp
      exact hK.out _ _ (bt hC (alloc_below _ _)) (fun j t _ h => newsF_below k j t h) ⟨W.heap.size, rfl, hC.size, _, rfl, Box.new _ _ _⟩
    · intro T W hT hs hC hF K hK
      obtain ⟨t0, t1, t2, t3, t4, t5, t6, t7, t8, t9, t10, t11, t12, t13, t14, t15, t16, t17, t18, t19, t20, t21, t22, t23, t24, rfl⟩ := arr25 T hT
      obtain rfl : t0 = .slice A0 n c0 := hs 0 (by decide)
      obtain rfl : t2 = .pointer (some ⟨w.heap.size, 0, none⟩) := hs 2 (by decide)
      have f3 := hF 3 (by decide)
      simp only [newsF, mask] at f3
      have f4 := hF 4 (by decide)
      simp only [newsF, mask] at f4
      clear hF hs hT
      obtain ⟨b, b1, A, c, C, d, e5, e6, e7, e8⟩ := f3
      obtain ⟨bm, e3, q, ys, hys, Y⟩ := f4
      subst e5 e6 e7 e8 e3
      have y0 := YV5.of Y hys 0 (by omega)
      have y1 := YV5.of Y hys 1 (by omega)
      have y2 := YV5.of Y hys 2 (by omega)
      have y3 := YV5.of Y hys 3 (by omega)
      have y4 := YV5.of Y hys 4 (by omega)
      have z0 := Y.frozen 0
      have z1 := Y.frozen 1
      have z2 := Y.frozen 2
      have z3 := Y.frozen 3
      have z4 := Y.frozen 4
      have HYs := Lib.hid (And.intro hys Y)
      clear hys Y
      go_simp
      exact hK.out undef _ (below5 hC q _ _ _ _ _) (fun j t n h => newsF_store ((((HYs.out.2.set 0 _).set 1 _).set 2 _).set 3 _) 4 _ j t n (newsF_store (((HYs.out.2.set 0 _).set 1 _).set 2 _) 3 _ j t n (newsF_store ((HYs.out.2.set 0 _).set 1 _) 2 _ j t n (newsF_store (HYs.out.2.set 0 _) 1 _ j t n (newsF_store HYs.out.2 0 _ j t n h))))) ⟨b, b1, A, c, C, d, bm, rfl, rfl, rfl, rfl, HYs.out.2.all5 HYs.out.1 _ _ _ _ _⟩
  · intro T W hT hs hC hF
    obtain ⟨t0, t1, t2, t3, t4, t5, t6, t7, t8, t9, t10, t11, t12, t13, t14, t15, t16, t17, t18, t19, t20, t21, t22, t23, t24, rfl⟩ := arr25 T hT
    obtain rfl : t0 = .slice A0 n c0 := hs 0 (by decide)
    obtain rfl : t2 = .pointer (some ⟨w.heap.size, 0, none⟩) := hs 2 (by decide)
    obtain ⟨b, e5, B0, q0⟩ := hF 0 (by decide)
    obtain ⟨b1, e6, B1, q1⟩ := hF 1 (by decide)
    obtain ⟨A, c, C, d, e7, SA, SC⟩ := hF 2 (by decide)
    obtain ⟨bm, e3, qm, ys, hys, Ym⟩ := hF 4 (by decide)
    obtain ⟨b', b1', A', c', C', d', bm', f5, f6, f7, f3, Y⟩ := hF 5 (by decide)
    have E1 : Value.slice (some ⟨b, 0, none⟩) 256 256 = .slice (some ⟨b', 0, none⟩) 256 256 := (show t5 = _ from e5).symm.trans f5
    have E2 : Value.slice (some ⟨b1, 0, none⟩) 32 32 = .slice (some ⟨b1', 0, none⟩) 32 32 := (show t6 = _ from e6).symm.trans f6
    have E3 : Value.agg #[.slice A 256 c, .slice C 16 d, .int .i64 0] = .agg #[.slice A' 256 c', .slice C' 16 d', .int .i64 0] := (show t7 = _ from e7).symm.trans f7
    have E4 : Value.pointer (some ⟨bm, 0, none⟩) = .pointer (some ⟨bm', 0, none⟩) := (show t3 = _ from e3).symm.trans f3
    obtain rfl : b = b' := by injection E1 with E1; injection E1 with E1; injection E1
    obtain rfl : b1 = b1' := by injection E2 with E2; injection E2 with E2; injection E2
    obtain rfl : bm = bm' := by injection E4 with E4; injection E4 with E4; injection E4
    simp only [Value.agg.injEq, Array.mk.injEq, List.cons.injEq, Value.slice.injEq, true_and, and_true] at E3
    obtain ⟨⟨x1, x2⟩, x3, x4⟩ := E3
    subst x1 x2 x3 x4
    obtain rfl : t3 = .pointer (some ⟨bm, 0, none⟩) := e3
    obtain ⟨ba, rfl, hba1, hba2, hbc⟩ := ownI_blk SA (by rw [newZ_len]; omega)
    have HNe : Hid (b ≠ b1 ∧ b ≠ ba ∧ b1 ≠ ba) := Lib.hid ⟨made_ne B0 B1 (by omega), made_row_ne B0 (by omega) hbc (by unfold newZ; decide), made_row_ne B1 (by omega) hbc (by unfold newZ; decide)⟩
    have HSt : Hid (NewAt W0.heap.size W.heap.size b b1 ba bm c C d p 0 W) := Lib.hid ⟨B0, B1, by rw [progZ_zero]; exact SA, SC, Y, q0, q1, qm, B0.lt, B1.lt⟩
    have HY0 : Hid (Box W w.heap.size 31 #[.slice none 0 0, .slice none 0 0, .slice none 0 0, .slice none 0 0, .int .i64 0]) := Lib.hid (Y0.out.step hC)
    have hbW := bt hb0 hC
    have HSz : Hid (W0.heap.size ≤ W.heap.size) := Lib.hid hC.size
    clear e5 e6 e7 f5 f6 f7 f3 E1 E2 E4 B0 B1 SA SC Ym Y hF hs hT hC hbc hys hba1 hba2 qm q0 q1 R0
    go_wp2
    go_loopw [4] (fun i wr => ∃ j : Nat, j ≤ n ∧ i = .int .i64 j ∧ Below w.heap.size w wr ∧ Hid (NewAt W0.heap.size W.heap.size b b1 ba bm c C d p j wr) ∧ Hid (Box wr w.heap.size 31 #[.slice none 0 0, .slice none 0 0, .slice none 0 0, .slice none 0 0, .int .i64 0]) ∧ Hid (wr.heap.size = W.heap.size)) (fun i _ => n - (intOf i).toNat)
    case atStart => exact ⟨0, by omega, rfl, hbW, HSt, HY0, Lib.hid rfl⟩
    case round =>
      clear HSt HY0 hbW
      obtain ⟨j, hj, rfl, hbw, X, Y, Z⟩ := hrel
      by_cases hlt : j < n
      · obtain ⟨pb, off, rfl, hc⟩ := (H.out.2.below hbw) j (by rw [H.out.1]; exact hlt)
        obtain ⟨ba', m, f, ea, hca, hfa, h1, h2, hra, hput⟩ := X.out.A.put j (by rw [progZ_len]; omega)
        obtain rfl : ba = ba' := by injection ea with ea; injection ea
        have HNx : Hid (NewAt W0.heap.size W.heap.size b b1 ba bm c C d p (j + 1) (wr.setCell ⟨ba, j, none⟩ (.int .i64 (p.getD j 0)))) := Lib.hid (X.out.next j (by omega) HNe.out.2.1 HNe.out.2.2 hra hput)
        have HY2 := Lib.hid (Y.out.other hra (by decide) j (.int .i64 (p.getD j 0)))
        have hb2 : Below w.heap.size w (wr.setCell ⟨ba, j, none⟩ (.int .i64 (p.getD j 0))) := hbw.setCell (p := ⟨ba, j, none⟩) (by show w.heap.size ≤ ba; have := hb0.size; omega) _
        have HPc : Hid (∀ x : Int, (wr.setCell ⟨ba, j, none⟩ (.int .i64 x)).cell? ⟨pb, off + j, none⟩ = wr.cell? ⟨pb, off + j, none⟩) := Lib.hid (fun x => World.cell?_setCell_far wr ⟨ba, j, none⟩ ⟨pb, off + j, none⟩ _ (fun q => by
          have q1 : pb < w.heap.size := HPb.out _ rfl j (by rw [H.out.1]; exact hlt)
          have q2 : ba = pb := q
          have := hb0.size
          omega))
        generalize (progZ p j).getD j 0 = y at hca
        generalize hx : p.getD j 0 = x at hc HNx HY2 hb2
        have hi : (j : Int) < (n : Int) := by omega
        have hi2 : (j : Int) < 256 := by omega
        have HM2 : Hid (wr.cell? ⟨bm, 2, none⟩ = some (.slice (some ⟨ba, 0, none⟩) 256 c) ∧ (wr.setCell ⟨ba, j, none⟩ (.int .i64 x)).cell? ⟨bm, 2, none⟩ = some (.slice (some ⟨ba, 0, none⟩) 256 c)) := Lib.hid ⟨X.out.M.cell 2 rfl, HNx.out.M.cell 2 rfl⟩
        have HK : Hid (∀ W', (W' = wr.drew ∨ W' = (wr.setCell ⟨ba, j, none⟩ (.int .i64 x)).drew) → W'.cell? ⟨bm, 2, none⟩ = some (.slice (some ⟨ba, 0, none⟩) 256 c) ∧ W'.cell? ⟨pb, off + j, none⟩ = some (.int .i64 x) ∧ W'.cell? ⟨ba, j, none⟩ = some (YV5 ba W' j) ∧ W'.frozen? ⟨ba, j, none⟩ = false) := Lib.hid (by
          rintro W' (rfl | rfl)
          · exact ⟨HM2.out.1, hc, by unfold YV5; show wr.cell? _ = some ((wr.cell? _).getD undef); rw [hca]; rfl, hfa⟩
          · refine ⟨HM2.out.2, (HPc.out x).trans hc, ?_, ?_⟩
            · obtain ⟨u, hu⟩ := setCell_self (v := .int .i64 x) hca
              unfold YV5; show (wr.setCell _ _).cell? _ = some (((wr.setCell _ _).cell? _).getD undef); rw [hu]; rfl
            · exact (frozen_setCell _ _ _ _).trans hfa)
        have HX := Lib.hid hx
        clear hx hput hra X Y ea h1 h2 hbw hca hfa hc
        go_wp2
    
        go_region_held3 (fun W' => W'.cell? ⟨bm, 2, none⟩ = some (.slice (some ⟨ba, 0, none⟩) 256 c) ∧ W'.cell? ⟨pb, off + j, none⟩ = some (.int .i64 x) ∧ W'.cell? ⟨ba, j, none⟩ = some (YV5 ba W' j) ∧ W'.frozen? ⟨ba, j, none⟩ = false)
          (first | exact HK.out _ (.inl rfl) | exact HK.out _ (.inr rfl))
          (fail)
        all_goals (
          go_wp2
          go_roundw
          case rel => exact ⟨j + 1, by omega, by go_num, hb2.drew, Lib.hid HNx.out.drew, Lib.hid HY2.out, Lib.hid (by have := Z.out; simpa [World.setCell, World.drew] using this)⟩
          case measure => simp [intOf]; omega)
      · obtain rfl : j = n := by omega
        have m0 := X.out.M.cell 0 rfl
        have m1 := X.out.M.cell 1 rfl
        have m2 := X.out.M.cell 2 rfl
        have m3 := X.out.M.cell 3 rfl
        have m4 := X.out.M.cell 4 rfl
        have s0 := Y.out.cell 0 rfl
        have s1 := Y.out.cell 1 rfl
        have s2 := Y.out.cell 2 rfl
        have s3 := Y.out.cell 3 rfl
        have s4 := Y.out.cell 4 rfl
        have s0z := Y.out.frozen 0
        have s1z := Y.out.frozen 1
        have s2z := Y.out.frozen 2
        have s3z := Y.out.frozen 3
        have s4z := Y.out.frozen 4
        have HR : Hid (OwnA wr w.heap.size wr.heap.size [.slice (some ⟨b, 0, none⟩) 256 256, .slice (some ⟨b1, 0, none⟩) 32 32, .slice (some ⟨ba, 0, none⟩) 256 c, .slice C 16 d] [.I zR, .I zI, .I (progZ p j), .B zG]) := Lib.hid (by
          have q := hb0.size
          have z := Z.out
          have x := X.out
          have := ownA4b (c0 := 256) (c1 := 32) (c2 := c) (c3 := d) (made_own (L := w.heap.size) (R := wr.heap.size) x.B0 (Nat.le_trans q x.q0) x.B0.lt) (made_own (L := w.heap.size) (R := wr.heap.size) x.B1 (Nat.le_trans q x.q1) x.B1.lt) (x.A.wideB q (by omega)) (x.G.wide q (by omega)) HNe.out.1 HNe.out.2.1 HNe.out.2.2
          rw [List.length_replicate, List.length_replicate, progZ_len, zG_len] at this
          exact this)
        have HYx := Lib.hid Y.out
        have HBw := Lib.hid hbw
        clear X Y hbw
        go_wp2
        refine bodyPost_ret (v := .agg #[.slice (some ⟨b, 0, none⟩) 256 256, .slice (some ⟨b1, 0, none⟩) 32 32, .slice (some ⟨ba, 0, none⟩) 256 c, .slice C 16 d, .int .i64 0]) (by simp [results, Tryz.results43, go_sem, s0, s1, s2, s3, s4]) rfl ?_
        exact ⟨some ⟨b, 0, none⟩, some ⟨b1, 0, none⟩, some ⟨ba, 0, none⟩, C, 256, 32, c, d, rfl, Lib.hid (by rw [H.out.1]; exact (HR.out.far5 HYx.out _ _ _ _ _).wide (Nat.le_refl _) (by rw [size5]; exact Nat.le_refl _)), below5 HBw.out (Nat.le_refl _) _ _ _ _ _⟩

section
variable (A0 : Option Addr) (c0 : Nat) (d0 : List Int) (w : World)
end
end Go.Proofs.YtcchhbkbnbphhaaGreatDoor
