/- The model's l02Plan. Written by gen_specplan.py. -/
import Derived.Test.YtcchhbkbnbphhaaSpecPlanA
import Derived.BigQuiet
import Derived.IntWalk
import Derived.Deep.RegionHeld3
namespace Go.Proofs.Ytcchhbkbnbphhaa
open Go.RowKit

set_option maxRecDepth 100000 in
set_option maxHeartbeats 16000000 in
theorem l02Plan (A C T Pg : Option Addr) (n c d tc cp : Nat) (ss ps : List ByteArray) (g : Int) (zs : List Int) (w : World) (hl : ss.length = n) (h48 : n = 48) (hp : ps.length = 17) (hz : zs.length = 17) (hzs : ∀ z ∈ zs, 2 ≤ z ∧ z ≤ 47) (hg : 0 ≤ g ∧ g ≤ 999999) (h : StrL w A ss) (i : StrL w Pg ps) (j : IntL w T zs) :
    Calls Try.prog 67 #[.agg #[.slice A n c, .slice C 0 d], .agg #[.int .i64 g, .slice T 17 tc], .slice Pg 17 cp] w (GivesNext g (planN zs (freeL zs) (loadL ss [] zs) ps 17).1 (planN zs (freeL zs) (loadL ss [] zs) ps 17).2 w) := by
  obtain ⟨W0, hW0⟩ : ∃ W0, W0 = (((w.alloc (.cells #[.slice A n c, .slice C 0 d] 26)).alloc (.cells #[.int .i64 g, .slice T 17 tc] 31)).alloc (.cells #[.int .i64 0, .slice none 0 0] 31)) := ⟨_, rfl⟩
  have hb0 : Hid (Below w.heap.size w W0) := Lib.hid (by rw [hW0]; exact bt (bt (alloc_below _ _) (alloc_below _ _)) (alloc_below _ _))
  have X0 : Hid (Box W0 w.heap.size 26 #[.slice A n c, .slice C 0 d]) := Lib.hid (by rw [hW0]; exact ((Box.new _ _ _).alloc _).alloc _)
  have R1 : Hid (Box W0 (w.heap.size + 1) 31 #[.int .i64 g, .slice T 17 tc]) := Lib.hid (by rw [hW0]; have := (Box.new (w.alloc (.cells #[.slice A n c, .slice C 0 d] 26)) 31 #[.int .i64 g, .slice T 17 tc]).alloc (.cells #[.int .i64 0, .slice none 0 0] 31); rw [World.size_alloc] at this; exact this)
  have Y1 : Hid (Box W0 (w.heap.size + 1 + 1) 31 #[.int .i64 0, .slice none 0 0]) := Lib.hid (by rw [hW0]; have := Box.new ((w.alloc (.cells #[.slice A n c, .slice C 0 d] 26)).alloc (.cells #[.int .i64 g, .slice T 17 tc] 31)) 31 #[.int .i64 0, .slice none 0 0]; rw [World.size_alloc, World.size_alloc] at this; exact this)
  have HZ0 : Hid (W0.heap.size = w.heap.size + 3) := Lib.hid (by rw [hW0]; simp)
  have HI := Lib.hid (fun W (hb : Below w.heap.size w W) => j.below hb)
  have HPg := Lib.hid (fun W (hb : Below w.heap.size w W) => i.below hb)
  have HPb : Hid (∀ ad : Addr, Pg = some ad → ∀ k, k < 17 → ad.block < w.heap.size) := Lib.hid (fun ad e k hk => by
    obtain ⟨b, off, e2, hc⟩ := i k (by omega)
    rw [e] at e2
    injection e2 with e2
    subst e2
    have := cell_lt hc
    exact this)
  have HA := Lib.hid h
  have HL := Lib.hid (And.intro hz (And.intro hp hl))
  have HZs := Lib.hid hzs
  have Hn48 := Lib.hid h48
  have HS0 := Lib.hid (fun W (r : Below W0.heap.size W0 W) => (j.below (bt hb0.out r)).src (by omega))
  have HN : Hid ((cellsI zs).length = 17 * 1) := Lib.hid (by rw [cellsI_len]; omega)
  have HK : Hid (∀ W', Below W0.heap.size W0 W' → W'.cell? ⟨w.heap.size + 1, 0, none⟩ = some (.int .i64 g) ∧ W'.cell? ⟨w.heap.size + 1, 1, none⟩ = some (.slice T 17 tc)) := Lib.hid (fun W' r => ⟨(R1.out.step r).cell 0 rfl, (R1.out.step r).cell 1 rfl⟩)
  obtain ⟨ld, hld⟩ : ∃ ld, ld = loadL ss [] zs := ⟨_, rfl⟩
  have HLe := Lib.hid hld
  rw [← hld]
  have HEg : Hid (IntKind.i64.wrap (g + 1) = g + 1) := Lib.hid (IntWalk.i64_in _ (by omega))
  have HW0 := Lib.hid hW0
  have R0 : Below W0.heap.size W0 W0.drew := (Below.refl _ _).drew
  clear hl h48 hp hz hzs h i j hW0 hld
  go_enter Try.func67, Try.ntmps67
  go_wp2
  rw [← HW0.out]
  refine wp_region_facts (by kernel_rfl) [[12], [13], [14], [15], [16], [17], [18], [18, 19], [8], [18, 8]] [[], [0], [0, 1], [], [], [4], [3, 4, 5], [0, 1, 2, 3, 4, 5, 6], [], [0, 1, 2, 3, 4, 5, 6, 7, 8]] [0, 1, 2, 3, 4, 6, 7] (by kernel_rfl) (Below W0.heap.size W0) (plnF w.heap.size W0.heap.size g (.slice T 17 tc) zs) R0 ?_ ?_
  · refine ⟨?_, ?_, ?_, ?_, ?_, ?_, ?_, ?_, ?_, ?_, trivial⟩
    · intro T W hT hs hC hF K hK
      obtain ⟨t0, t1, t2, t3, t4, t5, t6, t7, t8, t9, t10, t11, t12, t13, t14, t15, t16, t17, t18, t19, t20, t21, t22, t23, t24, t25, t26, t27, t28, t29, t30, t31, t32, t33, t34, t35, t36, t37, t38, t39, t40, t41, t42, t43, t44, t45, t46, t47, t48, t49, t50, t51, t52, t53, t54, t55, t56, t57, t58, t59, t60, t61, t62, rfl⟩ := arr63 T hT
      obtain rfl : t0 = .agg #[.slice A n c, .slice C 0 d] := hs 0 (by decide)
      obtain rfl : t1 = .agg #[.int .i64 g, .slice T 17 tc] := hs 1 (by decide)
      obtain rfl : t2 = .slice Pg 17 cp := hs 2 (by decide)
      obtain rfl : t3 = .pointer (some ⟨w.heap.size, 0, none⟩) := hs 3 (by decide)
      obtain rfl : t4 = .pointer (some ⟨w.heap.size + 1, 0, none⟩) := hs 4 (by decide)
      obtain rfl : t6 = .pointer (some ⟨w.heap.size + 1 + 1, 0, none⟩) := hs 6 (by decide)
      obtain rfl : t7 = .slice none 0 0 := hs 7 (by decide)
      clear hF hs hT
      go_simp
      exact hK.out _ W hC (fun _ _ _ h => h) rfl
    · intro T W hT hs hC hF K hK
      obtain ⟨t0, t1, t2, t3, t4, t5, t6, t7, t8, t9, t10, t11, t12, t13, t14, t15, t16, t17, t18, t19, t20, t21, t22, t23, t24, t25, t26, t27, t28, t29, t30, t31, t32, t33, t34, t35, t36, t37, t38, t39, t40, t41, t42, t43, t44, t45, t46, t47, t48, t49, t50, t51, t52, t53, t54, t55, t56, t57, t58, t59, t60, t61, t62, rfl⟩ := arr63 T hT
      obtain rfl : t0 = .agg #[.slice A n c, .slice C 0 d] := hs 0 (by decide)
      obtain rfl : t1 = .agg #[.int .i64 g, .slice T 17 tc] := hs 1 (by decide)
      obtain rfl : t2 = .slice Pg 17 cp := hs 2 (by decide)
      obtain rfl : t3 = .pointer (some ⟨w.heap.size, 0, none⟩) := hs 3 (by decide)
      obtain rfl : t4 = .pointer (some ⟨w.heap.size + 1, 0, none⟩) := hs 4 (by decide)
      obtain rfl : t6 = .pointer (some ⟨w.heap.size + 1 + 1, 0, none⟩) := hs 6 (by decide)
      obtain rfl : t7 = .slice none 0 0 := hs 7 (by decide)
      have f0 := hF 0 (by decide)
      simp only [plnF, mask] at f0
      clear hF hs hT
      subst f0
      have k := (HK.out W hC).1
      go_simp
      exact hK.out _ W hC (fun _ _ _ h => h) rfl
    · intro T W hT hs hC hF K hK
      obtain ⟨t0, t1, t2, t3, t4, t5, t6, t7, t8, t9, t10, t11, t12, t13, t14, t15, t16, t17, t18, t19, t20, t21, t22, t23, t24, t25, t26, t27, t28, t29, t30, t31, t32, t33, t34, t35, t36, t37, t38, t39, t40, t41, t42, t43, t44, t45, t46, t47, t48, t49, t50, t51, t52, t53, t54, t55, t56, t57, t58, t59, t60, t61, t62, rfl⟩ := arr63 T hT
      obtain rfl : t0 = .agg #[.slice A n c, .slice C 0 d] := hs 0 (by decide)
      obtain rfl : t1 = .agg #[.int .i64 g, .slice T 17 tc] := hs 1 (by decide)
      obtain rfl : t2 = .slice Pg 17 cp := hs 2 (by decide)
      obtain rfl : t3 = .pointer (some ⟨w.heap.size, 0, none⟩) := hs 3 (by decide)
      obtain rfl : t4 = .pointer (some ⟨w.heap.size + 1, 0, none⟩) := hs 4 (by decide)
      obtain rfl : t6 = .pointer (some ⟨w.heap.size + 1 + 1, 0, none⟩) := hs 6 (by decide)
      obtain rfl : t7 = .slice none 0 0 := hs 7 (by decide)
      have f1 := hF 1 (by decide)
      simp only [plnF, mask] at f1
      clear hF hs hT
      subst f1
      have eg := HEg.out
      go_simp
      exact hK.out _ W hC (fun _ _ _ h => h) rfl
    · intro T W hT hs hC hF K hK
      obtain ⟨t0, t1, t2, t3, t4, t5, t6, t7, t8, t9, t10, t11, t12, t13, t14, t15, t16, t17, t18, t19, t20, t21, t22, t23, t24, t25, t26, t27, t28, t29, t30, t31, t32, t33, t34, t35, t36, t37, t38, t39, t40, t41, t42, t43, t44, t45, t46, t47, t48, t49, t50, t51, t52, t53, t54, t55, t56, t57, t58, t59, t60, t61, t62, rfl⟩ := arr63 T hT
      obtain rfl : t0 = .agg #[.slice A n c, .slice C 0 d] := hs 0 (by decide)
      obtain rfl : t1 = .agg #[.int .i64 g, .slice T 17 tc] := hs 1 (by decide)
      obtain rfl : t2 = .slice Pg 17 cp := hs 2 (by decide)
      obtain rfl : t3 = .pointer (some ⟨w.heap.size, 0, none⟩) := hs 3 (by decide)
      obtain rfl : t4 = .pointer (some ⟨w.heap.size + 1, 0, none⟩) := hs 4 (by decide)
      obtain rfl : t6 = .pointer (some ⟨w.heap.size + 1 + 1, 0, none⟩) := hs 6 (by decide)
      obtain rfl : t7 = .slice none 0 0 := hs 7 (by decide)
      clear hF hs hT
      have k := alloc_below W (.cells #[] 3)
      go_simp
      exact hK.out _ _ (hC.trans (k.mono hC.size)) (fun j t _ h => plnF_below k j t h) ⟨_, rfl⟩
    · intro T W hT hs hC hF K hK
      obtain ⟨t0, t1, t2, t3, t4, t5, t6, t7, t8, t9, t10, t11, t12, t13, t14, t15, t16, t17, t18, t19, t20, t21, t22, t23, t24, t25, t26, t27, t28, t29, t30, t31, t32, t33, t34, t35, t36, t37, t38, t39, t40, t41, t42, t43, t44, t45, t46, t47, t48, t49, t50, t51, t52, t53, t54, t55, t56, t57, t58, t59, t60, t61, t62, rfl⟩ := arr63 T hT
      obtain rfl : t0 = .agg #[.slice A n c, .slice C 0 d] := hs 0 (by decide)
      obtain rfl : t1 = .agg #[.int .i64 g, .slice T 17 tc] := hs 1 (by decide)
      obtain rfl : t2 = .slice Pg 17 cp := hs 2 (by decide)
      obtain rfl : t3 = .pointer (some ⟨w.heap.size, 0, none⟩) := hs 3 (by decide)
      obtain rfl : t4 = .pointer (some ⟨w.heap.size + 1, 0, none⟩) := hs 4 (by decide)
      obtain rfl : t6 = .pointer (some ⟨w.heap.size + 1 + 1, 0, none⟩) := hs 6 (by decide)
      obtain rfl : t7 = .slice none 0 0 := hs 7 (by decide)
      clear hF hs hT
      go_simp
      exact hK.out _ W hC (fun _ _ _ h => h) rfl
    · intro T W hT hs hC hF K hK
      obtain ⟨t0, t1, t2, t3, t4, t5, t6, t7, t8, t9, t10, t11, t12, t13, t14, t15, t16, t17, t18, t19, t20, t21, t22, t23, t24, t25, t26, t27, t28, t29, t30, t31, t32, t33, t34, t35, t36, t37, t38, t39, t40, t41, t42, t43, t44, t45, t46, t47, t48, t49, t50, t51, t52, t53, t54, t55, t56, t57, t58, t59, t60, t61, t62, rfl⟩ := arr63 T hT
      obtain rfl : t0 = .agg #[.slice A n c, .slice C 0 d] := hs 0 (by decide)
      obtain rfl : t1 = .agg #[.int .i64 g, .slice T 17 tc] := hs 1 (by decide)
      obtain rfl : t2 = .slice Pg 17 cp := hs 2 (by decide)
      obtain rfl : t3 = .pointer (some ⟨w.heap.size, 0, none⟩) := hs 3 (by decide)
      obtain rfl : t4 = .pointer (some ⟨w.heap.size + 1, 0, none⟩) := hs 4 (by decide)
      obtain rfl : t6 = .pointer (some ⟨w.heap.size + 1 + 1, 0, none⟩) := hs 6 (by decide)
      obtain rfl : t7 = .slice none 0 0 := hs 7 (by decide)
      have f4 := hF 4 (by decide)
      simp only [plnF, mask] at f4
      clear hF hs hT
      subst f4
      have k := (HK.out W hC).2
      go_simp
      exact hK.out _ W hC (fun _ _ _ h => h) rfl
    · intro T W hT hs hC hF K hK
      obtain ⟨t0, t1, t2, t3, t4, t5, t6, t7, t8, t9, t10, t11, t12, t13, t14, t15, t16, t17, t18, t19, t20, t21, t22, t23, t24, t25, t26, t27, t28, t29, t30, t31, t32, t33, t34, t35, t36, t37, t38, t39, t40, t41, t42, t43, t44, t45, t46, t47, t48, t49, t50, t51, t52, t53, t54, t55, t56, t57, t58, t59, t60, t61, t62, rfl⟩ := arr63 T hT
      obtain rfl : t0 = .agg #[.slice A n c, .slice C 0 d] := hs 0 (by decide)
      obtain rfl : t1 = .agg #[.int .i64 g, .slice T 17 tc] := hs 1 (by decide)
      obtain rfl : t2 = .slice Pg 17 cp := hs 2 (by decide)
      obtain rfl : t3 = .pointer (some ⟨w.heap.size, 0, none⟩) := hs 3 (by decide)
      obtain rfl : t4 = .pointer (some ⟨w.heap.size + 1, 0, none⟩) := hs 4 (by decide)
      obtain rfl : t6 = .pointer (some ⟨w.heap.size + 1 + 1, 0, none⟩) := hs 6 (by decide)
      obtain rfl : t7 = .slice none 0 0 := hs 7 (by decide)
      have f3 := hF 3 (by decide)
      simp only [plnF, mask] at f3
      have f5 := hF 5 (by decide)
      simp only [plnF, mask] at f5
      clear hF hs hT
      obtain ⟨b, e3⟩ := f3
      subst e3 f5
      refine wp_app_freshP (.tmp 15) (.tmp 17) 29 rfl 3 (.int .i64 0) 1 8 Try.underlying29 infoIx rfl (by decide) b rfl T 17 tc (by omega) (cellsI zs) rfl HN.out (HS0.out _ hC) (by unfold maxLen; omega) (by omega) ?_
      intro A' c' w1 k O
      exact hK.out _ w1 (hC.trans (k.mono hC.size)) (fun j t _ h => plnF_below k j t h) ⟨A', c', rfl, ownI_fresh O.out (by omega) (bt hb0.out hC).size⟩
    · intro T W hT hs hC hF K hK
      obtain ⟨t0, t1, t2, t3, t4, t5, t6, t7, t8, t9, t10, t11, t12, t13, t14, t15, t16, t17, t18, t19, t20, t21, t22, t23, t24, t25, t26, t27, t28, t29, t30, t31, t32, t33, t34, t35, t36, t37, t38, t39, t40, t41, t42, t43, t44, t45, t46, t47, t48, t49, t50, t51, t52, t53, t54, t55, t56, t57, t58, t59, t60, t61, t62, rfl⟩ := arr63 T hT
      obtain rfl : t0 = .agg #[.slice A n c, .slice C 0 d] := hs 0 (by decide)
      obtain rfl : t1 = .agg #[.int .i64 g, .slice T 17 tc] := hs 1 (by decide)
      obtain rfl : t2 = .slice Pg 17 cp := hs 2 (by decide)
      obtain rfl : t3 = .pointer (some ⟨w.heap.size, 0, none⟩) := hs 3 (by decide)
      obtain rfl : t4 = .pointer (some ⟨w.heap.size + 1, 0, none⟩) := hs 4 (by decide)
      obtain rfl : t6 = .pointer (some ⟨w.heap.size + 1 + 1, 0, none⟩) := hs 6 (by decide)
      obtain rfl : t7 = .slice none 0 0 := hs 7 (by decide)
      have f2 := hF 2 (by decide)
      simp only [plnF, mask] at f2
      have f6 := hF 6 (by decide)
      simp only [plnF, mask] at f6
      clear hF hs hT
      obtain ⟨A', c', e18, O⟩ := f6
      subst e18 f2
      clear O
      go_simp
      exact hK.out _ W hC (fun _ _ _ h => h) ⟨A', c', rfl, rfl⟩
    · intro T W hT hs hC hF K hK
      obtain ⟨t0, t1, t2, t3, t4, t5, t6, t7, t8, t9, t10, t11, t12, t13, t14, t15, t16, t17, t18, t19, t20, t21, t22, t23, t24, t25, t26, t27, t28, t29, t30, t31, t32, t33, t34, t35, t36, t37, t38, t39, t40, t41, t42, t43, t44, t45, t46, t47, t48, t49, t50, t51, t52, t53, t54, t55, t56, t57, t58, t59, t60, t61, t62, rfl⟩ := arr63 T hT
      obtain rfl : t0 = .agg #[.slice A n c, .slice C 0 d] := hs 0 (by decide)
      obtain rfl : t1 = .agg #[.int .i64 g, .slice T 17 tc] := hs 1 (by decide)
      obtain rfl : t2 = .slice Pg 17 cp := hs 2 (by decide)
      obtain rfl : t3 = .pointer (some ⟨w.heap.size, 0, none⟩) := hs 3 (by decide)
      obtain rfl : t4 = .pointer (some ⟨w.heap.size + 1, 0, none⟩) := hs 4 (by decide)
      obtain rfl : t6 = .pointer (some ⟨w.heap.size + 1 + 1, 0, none⟩) := hs 6 (by decide)
      obtain rfl : t7 = .slice none 0 0 := hs 7 (by decide)
      clear hF hs hT
      have k := alloc_below W (.cells #[.int .i64 0, .slice none 0 0] 31)
      go_simp
      exact hK.out _ _ (hC.trans (k.mono hC.size)) (fun j t _ h => plnF_below k j t h) ⟨W.heap.size, _, rfl, Box.new _ _ _, rfl, hC.size⟩
    · intro T W hT hs hC hF K hK
      obtain ⟨t0, t1, t2, t3, t4, t5, t6, t7, t8, t9, t10, t11, t12, t13, t14, t15, t16, t17, t18, t19, t20, t21, t22, t23, t24, t25, t26, t27, t28, t29, t30, t31, t32, t33, t34, t35, t36, t37, t38, t39, t40, t41, t42, t43, t44, t45, t46, t47, t48, t49, t50, t51, t52, t53, t54, t55, t56, t57, t58, t59, t60, t61, t62, rfl⟩ := arr63 T hT
      obtain rfl : t0 = .agg #[.slice A n c, .slice C 0 d] := hs 0 (by decide)
      obtain rfl : t1 = .agg #[.int .i64 g, .slice T 17 tc] := hs 1 (by decide)
      obtain rfl : t2 = .slice Pg 17 cp := hs 2 (by decide)
      obtain rfl : t3 = .pointer (some ⟨w.heap.size, 0, none⟩) := hs 3 (by decide)
      obtain rfl : t4 = .pointer (some ⟨w.heap.size + 1, 0, none⟩) := hs 4 (by decide)
      obtain rfl : t6 = .pointer (some ⟨w.heap.size + 1 + 1, 0, none⟩) := hs 6 (by decide)
      obtain rfl : t7 = .slice none 0 0 := hs 7 (by decide)
      have f7 := hF 7 (by decide)
      simp only [plnF, mask] at f7
      have f8 := hF 8 (by decide)
      simp only [plnF, mask] at f8
      clear hF hs hT
      obtain ⟨A', c', e18, e19⟩ := f7
      obtain ⟨D, ys, e8, Y, hys, hD⟩ := f8
      subst e18 e19 e8
      have y0 := YW2.of Y hys 0 (by omega)
      have y1 := YW2.of Y hys 1 (by omega)
      have z0 := Y.frozen 0
      have z1 := Y.frozen 1
      have HYs := Lib.hid (And.intro hys Y)
      clear hys Y
      go_simp
      exact hK.out undef _ ((hC.setCell (p := ⟨D, 0, none⟩) hD _).setCell (p := ⟨D, 1, none⟩) hD _) (fun j t n h => plnF_store (HYs.out.2.set 0 _) 1 _ j t n (plnF_store HYs.out.2 0 _ j t n h)) ⟨A', c', D, rfl, rfl, HYs.out.2.allW2 HYs.out.1 _ _, hD⟩
  · intro T W hT hs hC hF
    obtain ⟨t0, t1, t2, t3, t4, t5, t6, t7, t8, t9, t10, t11, t12, t13, t14, t15, t16, t17, t18, t19, t20, t21, t22, t23, t24, t25, t26, t27, t28, t29, t30, t31, t32, t33, t34, t35, t36, t37, t38, t39, t40, t41, t42, t43, t44, t45, t46, t47, t48, t49, t50, t51, t52, t53, t54, t55, t56, t57, t58, t59, t60, t61, t62, rfl⟩ := arr63 T hT
    obtain rfl : t0 = .agg #[.slice A n c, .slice C 0 d] := hs 0 (by decide)
    obtain rfl : t1 = .agg #[.int .i64 g, .slice T 17 tc] := hs 1 (by decide)
    obtain rfl : t2 = .slice Pg 17 cp := hs 2 (by decide)
    obtain rfl : t3 = .pointer (some ⟨w.heap.size, 0, none⟩) := hs 3 (by decide)
    obtain rfl : t4 = .pointer (some ⟨w.heap.size + 1, 0, none⟩) := hs 4 (by decide)
    obtain rfl : t6 = .pointer (some ⟨w.heap.size + 1 + 1, 0, none⟩) := hs 6 (by decide)
    obtain rfl : t7 = .slice none 0 0 := hs 7 (by decide)
    obtain ⟨G, gc, e18, OT⟩ := hF 6 (by decide)
    obtain ⟨D0, ys, e8, -, -, -⟩ := hF 8 (by decide)
    obtain ⟨G', gc', D, f18, f8, Y, hD⟩ := hF 9 (by decide)
    have E1 : Value.slice G 17 gc = .slice G' 17 gc' := (show t18 = _ from e18).symm.trans f18
    simp only [Value.slice.injEq, true_and] at E1
    obtain ⟨r1, r2⟩ := E1
    subst r1 r2
    obtain rfl : t8 = .pointer (some ⟨D, 0, none⟩) := f8
    have hbW := bt hb0.out hC
    have HS : Hid (PSt w A C T n c d tc g D G gc W.heap.size zs W) := Lib.hid ⟨hbW, X0.out.below hC (by have := HZ0.out; omega), R1.out.below hC (by have := HZ0.out; omega), Y1.out.below hC (by have := HZ0.out; omega), Y, OT, by have := HZ0.out; omega, Nat.le_refl _, HL.out.1⟩
    clear e18 f18 e8 OT Y hF hs hT hC R0 D0 ys HK HS0 HN
    obtain ⟨W2, hW2⟩ : ∃ W2, W2 = W.alloc (.cells #[] 67) := ⟨_, rfl⟩
    have k2 : Below W.heap.size W W2 := by rw [hW2]; exact alloc_below _ _
    have HE2 : Hid (Box W2 W.heap.size 67 #[]) := Lib.hid (by rw [hW2]; exact Box.new _ _ _)
    have S2 := Lib.hid (HS.out.step k2)
    have r0 := S2.out.r.cell 0 rfl
    have r1 := S2.out.r.cell 1 rfl
    rw [hW2] at r0 r1
    have HFr := Lib.hid (l02Free g T 17 tc zs W2 HL.out.1 (by unfold maxLen; omega) (HI.out W2 S2.out.bel))
    have HFl := Lib.hid (And.intro (freeL_len zs HL.out.1) (freeL_in zs))
    have HW2 := Lib.hid hW2
    clear hW2 hbW
    go_wp2_with fail
    rw [← HW2.out]
    refine HFr.out.mono ?_
    rintro e w3 ⟨Fr, nf, cf, rfl, L3, O3, k3⟩
    have S3 := Lib.hid (S2.out.step k3)
    have HE3 : Hid (w3.ownsRow w.heap.size 67 2 (.slice (some ⟨W.heap.size, 0, none⟩) 0 0) 0 (cellsW [])) := Lib.hid (own_emptyW HS.out.bel.size (HE2.out.step k3))
    have O3' : Hid (OwnI w3 W2.heap.size w3.heap.size Fr (freeL zs)) := O3
    have hWW : W.heap.size ≤ W2.heap.size := k2.size
    generalize hfr : freeL zs = fr at HFl L3 O3' O3
    have HFrE := Lib.hid hfr
    obtain ⟨mid, hmid⟩ : ∃ mid, mid = W2.heap.size := ⟨_, rfl⟩
    rw [← hmid] at O3' hWW
    obtain ⟨Wh, hWh⟩ : ∃ Wh, Wh = W.heap.size := ⟨_, rfl⟩
    rw [← hWh] at HE3 S3 hWW
    rw [← hWh]
    clear r0 r1 HFr O3 S2 HE2 HS k2 k3 HW2 hmid hWh hfr
    go_wp2
    go_loopw [11, 9] (fun q s wr => ∃ (j k : Nat) (B : Option Addr) (f : Nat) (tb : List Int) (wl : List (Int × ByteArray)), j ≤ 17 ∧ k ≤ j ∧ q = .int .i64 j ∧ s = .slice B k f ∧ Hid (planN zs fr ld ps j = (tb, wl)) ∧ Hid (wl.length = k) ∧ Hid (PSt w A C T n c d tc g D G gc Wh tb wr) ∧ Hid (∃ hi, OwnI wr mid hi Fr fr) ∧ Hid (wr.ownsRow w.heap.size 67 2 (.slice B k f) k (cellsW wl))) (fun q _ _ => 17 - (intOf q).toNat)
    case atStart => exact ⟨0, 0, _, 0, zs, [], by omega, by omega, rfl, rfl, Lib.hid rfl, Lib.hid rfl, S3, Lib.hid ⟨_, O3'.out⟩, HE3⟩
    case round =>
      clear S3 O3' HE3
      obtain ⟨j, k, B, f, tb, wl, hj, hkj, rfl, rfl, HPl, HWl, S, O, E⟩ := hrel
      by_cases hlt : j < 17
      · have hi : (j : Int) < 17 := by omega
        have hzj := getD_in (zs := zs) (i := j) (by rw [HL.out.1]; exact hlt) HZs.out
        obtain ⟨tb0, toff, rfl, htc⟩ := HI.out wr S.out.bel j (by rw [HL.out.1]; exact hlt)
        obtain ⟨pb, poff, rfl, hpc⟩ := HPg.out wr S.out.bel j (by rw [HL.out.2.1]; exact hlt)
        have HNx : Hid (planN zs fr ld ps (j + 1) = if ld.getD j ByteArray.empty = ps.getD j ByteArray.empty then (tb, wl) else (tb.set j (fr.getD wl.length 0), wl ++ [(fr.getD wl.length 0, ps.getD j ByteArray.empty)])) := Lib.hid (by rw [planN, HPl.out])
        obtain ⟨z, hz⟩ : ∃ z : Nat, zs.getD j 0 = z := ⟨(zs.getD j 0).toNat, by omega⟩
        have HLd : Hid (ld.getD j ByteArray.empty = readS ss [] z) := Lib.hid (by rw [HLe.out]; unfold loadL; rw [List.getD_eq_getElem?_getD, List.getElem?_map, List.getElem?_eq_getElem (by rw [HL.out.1]; exact hlt), ← hz, List.getD_eq_getElem?_getD, List.getElem?_eq_getElem (by rw [HL.out.1]; exact hlt)]; rfl)
        rw [hz] at htc
        have HRd := Lib.hid (fun W (hb : Below w.heap.size w W) => l01Read A C n c 0 d ss [] z W HL.out.2.2 rfl (by have := Hn48.out; unfold maxLen; omega) (by unfold maxLen; omega) (HA.out.below hb) (fun i hi => by simp at hi) (by have := Hn48.out; omega))
        rw [HLd.out] at HNx
        have HKk : Hid (∀ W', Below wr.heap.size wr W' → W'.cell? ⟨w.heap.size, 0, none⟩ = some (.slice A n c) ∧ W'.cell? ⟨w.heap.size, 1, none⟩ = some (.slice C 0 d) ∧ W'.cell? ⟨w.heap.size + 1, 1, none⟩ = some (.slice (some ⟨tb0, toff, none⟩) 17 tc) ∧ W'.cell? ⟨tb0, toff + j, none⟩ = some (.int .i64 (z : Int)) ∧ W'.cell? ⟨pb, poff + j, none⟩ = some (.string (ps.getD j ByteArray.empty))) := Lib.hid (fun W' hb => by
          have X := S.out.x.step hb
          have Q := S.out.r.step hb
          exact ⟨X.cell 0 rfl, X.cell 1 rfl, Q.cell 1 rfl, (hb.cell (cell_lt htc)).trans htc, (hb.cell (cell_lt hpc)).trans hpc⟩)
        have hqb := bytes_beq (readS ss [] z) (ps.getD j ByteArray.empty)
        have HRd1 := Lib.hid (HRd.out wr.drew S.out.bel.drew)
        generalize readS ss [] (z : Int) = s at HRd1 HNx hqb
        generalize hpg : ps.getD j ByteArray.empty = t at HKk HNx hqb
        have h6 : Below wr.heap.size wr wr.drew := (Below.refl _ _).drew
        clear hz hzj htc hpc HLd HRd
        by_cases hE : s = t
        · have hq1 : (s.toList == t.toList) = true := by rw [hqb]; simp [hE]
          have HN2 : Hid (planN zs fr ld ps (j + 1) = (tb, wl)) := Lib.hid (by rw [HNx.out, if_pos hE])
          clear hqb hE HNx
          go_wp2
          go_region_held3 (fun W' => W'.cell? ⟨w.heap.size, 0, none⟩ = some (.slice A n c) ∧ W'.cell? ⟨w.heap.size, 1, none⟩ = some (.slice C 0 d) ∧ W'.cell? ⟨w.heap.size + 1, 1, none⟩ = some (.slice (some ⟨tb0, toff, none⟩) 17 tc) ∧ W'.cell? ⟨tb0, toff + j, none⟩ = some (.int .i64 (z : Int)) ∧ W'.cell? ⟨pb, poff + j, none⟩ = some (.string t))
            (first | exact HKk.out _ h6 | exact HKk.out _ (bt h6 k4))
            (first | (go_at_call 78; refine HRd1.out.mono ?_; rintro e w4 ⟨rfl, k4⟩))
          all_goals (
            have kk := bt h6 k4
            go_wp2
            go_roundw
            case rel => exact ⟨j + 1, k, B, f, tb, wl, by omega, by omega, by go_num, rfl, HN2, HWl, Lib.hid (S.out.step kk), Lib.hid (by obtain ⟨hi, o⟩ := O.out; exact ⟨hi, o.below kk⟩), Lib.hid (rowv_below E.out kk)⟩
            case measure => simp [intOf]; omega)
        · have hq1 : (s.toList == t.toList) = false := by rw [hqb]; simp [hE]
          have HN2 : Hid (planN zs fr ld ps (j + 1) = (tb.set j (fr.getD wl.length 0), wl ++ [(fr.getD wl.length 0, t)])) := Lib.hid (by rw [HNx.out, if_neg hE])
          have hkf : (k : Int) < (nf : Int) := by have := L3.out; have := HFl.out.1; omega
          have Hkf : Hid (k < fr.length) := Lib.hid (by have := HFl.out.1; omega)
          have Hpl : Hid (pb < w.heap.size) := Lib.hid (HPb.out _ rfl j hlt)
          clear hqb hE HNx
          go_wp2
          go_region_held3 (fun W' => W'.cell? ⟨w.heap.size, 0, none⟩ = some (.slice A n c) ∧ W'.cell? ⟨w.heap.size, 1, none⟩ = some (.slice C 0 d) ∧ W'.cell? ⟨w.heap.size + 1, 1, none⟩ = some (.slice (some ⟨tb0, toff, none⟩) 17 tc) ∧ W'.cell? ⟨tb0, toff + j, none⟩ = some (.int .i64 (z : Int)) ∧ W'.cell? ⟨pb, poff + j, none⟩ = some (.string t))
            (first | exact HKk.out _ h6 | exact HKk.out _ (bt h6 k4))
            (first | (go_at_call 78; refine HRd1.out.mono ?_; rintro e w4 ⟨rfl, k4⟩))
          all_goals (
            have kk := bt h6 k4
            have hpc4 := (HKk.out w4 kk).2.2.2.2
            have S4 := Lib.hid (S.out.step kk)
            have E4 := Lib.hid (rowv_below E.out kk)
            obtain ⟨hi4, OF⟩ := O.out
            have OF4 := Lib.hid (OF.below kk)
            obtain ⟨fb, fm, ff, rfl, hfc, -, hfl, -, -, -⟩ := OF4.out.put k (by have := L3.out; omega)
            have hlw := HWl.out
            rw [hlw] at HN2
            generalize hv : fr.getD k 0 = v at hfc HN2
            have HV := Lib.hid hv
            clear hv
            obtain ⟨gb, gm, gf, rfl, hgc, hgz, hg1, hg2, hgr, hput⟩ := S4.out.tab.put j (by rw [S4.out.tl]; exact hlt)
            have hgl : gb < mid := by omega
            have S5 := Lib.hid (S4.out.set hgr hput hg1 v)
            have O5 := Lib.hid (show OwnI (w4.setCell ⟨gb, j, none⟩ (.int .i64 v)) mid hi4 (some ⟨fb, 0, none⟩) fr from OF4.out.btw ((Btw.refl gb (gb + 1) w4).setCell (p := ⟨gb, j, none⟩) (Nat.le_refl _) (Nat.lt_succ_self _) _) (.inr (by omega)))
            have E5 := Lib.hid (rowv_setRow E4.out hgr (by decide) j (.int .i64 v))
            generalize tb.getD j 0 = old at hgc
            have HD4 : Hid (∀ W', (W' = w4.drew ∨ W' = (w4.setCell ⟨gb, j, none⟩ (.int .i64 v)).drew) → W'.cell? ⟨D, 1, none⟩ = some (.slice (some ⟨gb, 0, none⟩) 17 gc) ∧ W'.cell? ⟨fb, k, none⟩ = some (.int .i64 v) ∧ W'.cell? ⟨gb, j, none⟩ = some (YW2 gb W' j) ∧ W'.frozen? ⟨gb, j, none⟩ = false) := Lib.hid (by
              rintro W' (rfl | rfl)
              · exact ⟨S4.out.z.cell 1 rfl, hfc, by unfold YW2; show w4.cell? _ = some ((w4.cell? _).getD undef); rw [hgc]; rfl, hgz⟩
              · refine ⟨S5.out.z.cell 1 rfl, ?_, ?_, ?_⟩
                · exact (World.cell?_setCell_far w4 ⟨gb, j, none⟩ ⟨fb, k, none⟩ _ (fun q => by have q2 : gb = fb := q; omega)).trans hfc
                · obtain ⟨u, hu⟩ := setCell_selfP (v := .int .i64 v) hgc
                  unfold YW2; show (w4.setCell _ _).cell? _ = some (((w4.setCell _ _).cell? _).getD undef); rw [hu]; rfl
                · exact (frozen_setCellP _ _ _ _).trans hgz)
            have hpc5 : (w4.setCell ⟨gb, j, none⟩ (.int .i64 v)).cell? ⟨pb, poff + j, none⟩ = some (.string t) := (World.cell?_setCell_far w4 ⟨gb, j, none⟩ ⟨pb, poff + j, none⟩ _ (fun q => by
              have q1 : pb < w.heap.size := HPb.out _ rfl j hlt
              have q2 : gb = pb := q
              omega)).trans hpc4
            have hfc5 : (w4.setCell ⟨gb, j, none⟩ (.int .i64 v)).cell? ⟨fb, k, none⟩ = some (.int .i64 v) := (World.cell?_setCell_far w4 ⟨gb, j, none⟩ ⟨fb, k, none⟩ _ (fun q => by have q2 : gb = fb := q; omega)).trans hfc
            clear S O E HKk HRd1 hfc hgc hgz hput hgr S4 OF OF4 E4 kk k4 h6 hpc4
            go_wp2
            go_region_held3 (fun W' => W'.cell? ⟨D, 1, none⟩ = some (.slice (some ⟨gb, 0, none⟩) 17 gc) ∧ W'.cell? ⟨fb, k, none⟩ = some (.int .i64 v) ∧ W'.cell? ⟨gb, j, none⟩ = some (YW2 gb W' j) ∧ W'.frozen? ⟨gb, j, none⟩ = false)
              (first | exact HD4.out _ (.inl rfl) | exact HD4.out _ (.inr rfl))
              (fail)
            all_goals (
              have h7 : Below (w4.setCell ⟨gb, j, none⟩ (.int .i64 v)).heap.size (w4.setCell ⟨gb, j, none⟩ (.int .i64 v)) (w4.setCell ⟨gb, j, none⟩ (.int .i64 v)).drew := (Below.refl _ _).drew
              have S6 := Lib.hid (S5.out.step h7)
              have O6 := Lib.hid (O5.out.below h7)
              have E6 := Lib.hid (rowv_below E5.out h7)
              have hpc6 : (w4.setCell ⟨gb, j, none⟩ (.int .i64 v)).drew.cell? ⟨pb, poff + j, none⟩ = some (.string t) := hpc5
              have hfc6 : (w4.setCell ⟨gb, j, none⟩ (.int .i64 v)).drew.cell? ⟨fb, k, none⟩ = some (.int .i64 v) := hfc5
              clear S5 O5 E5 hpc5 hfc5 h7 HD4
              generalize (w4.setCell ⟨gb, j, none⟩ (.int .i64 v)).drew = w5 at S6 O6 E6 hpc6 hfc6 ⊢
              obtain ⟨w6, hw6⟩ : ∃ w6, w6 = w5.drew.alloc (.cells #[.int .i64 v, .string t] 67) := ⟨_, rfl⟩
              have k6 : Below w5.heap.size w5 w6 := by rw [hw6]; exact bt (Below.refl _ _).drew (alloc_below _ _)
              have S7 := Lib.hid (S6.out.step k6)
              have O7 := Lib.hid (O6.out.below k6)
              have HOw := Lib.hid (rowv_below E6.out k6)
              have HNw : Hid (∀ i u, [Value.int .i64 v, .string t][i]? = some u → w6.cell? ⟨w5.heap.size, i, none⟩ = some u) := Lib.hid (fun i u hj => by
                rw [hw6]
                match i, hj with
                | 0, hj => simp at hj; subst hj; exact (Box.new w5.drew 67 #[.int .i64 v, .string t]).cell 0 rfl
                | 1, hj => simp at hj; subst hj; exact (Box.new w5.drew 67 #[.int .i64 v, .string t]).cell 1 rfl)
              have HK9 := Lib.hid (plan_held (w := w) (B := B) (f := f) k6 O7.out HOw.out Hkf.out HV.out Hpl.out hfc6 hpc6)
              have HB6 : Hid (w.heap.size ≤ w6.heap.size) := Lib.hid S7.out.bel.size
              subst hw6
              clear hpc6 hfc6 S6 O6 E6 k6
              go_wp2
              go_region_held3 (fun W' => W'.cell? ⟨fb, k, none⟩ = some (.int .i64 v) ∧ W'.cell? ⟨pb, poff + j, none⟩ = some (.string t))
                (first | exact HK9.out _ (.inr (.inr ⟨hg9, hb9⟩)) | (with_reducible exact HK9.out _ (.inl rfl)) | (with_reducible exact HK9.out _ (.inr (.inl rfl))))
                (first | (refine step_app_one rfl (.tmp 48) (.tmp 59) 24 67 rfl (.agg #[.int .i64 0, .string ByteArray.empty]) 2 24 elemWr Try.underlying24 w.heap.size (.slice B k f) k (cellsW wl) ?_ HOw.out w5.heap.size 1 ?_ [.int .i64 v, .string t] rfl HNw.out ?_ ?_ ?_ ?_ ?_; simp [Act.eval]; simp [Act.eval]; (intro u hu; simp at hu; rcases hu with rfl | rfl <;> rfl); (unfold maxLen; omega); omega; (exact HB6.out); intro A2 c2 w7 hR9 hc9 hg9 hb9))
              all_goals (
                have S9 := Lib.hid (S7.out.grown HOw.out hg9 hb9)
                have O9 := Lib.hid (O7.out.grown HOw.out (by decide) hg9)
                have E9 : Hid (w7.ownsRow w.heap.size 67 2 (.slice A2 (k + 1) c2) (k + 1) (cellsW (wl ++ [(v, t)]))) := Lib.hid (by rw [← cellsW_snoc]; exact hR9)
                clear hR9 hc9 HK9 HNw S7 O7
                go_wp2
                go_roundw
                case rel => exact ⟨j + 1, k + 1, A2, c2, tb.set j v, wl ++ [(v, t)], by omega, by omega, by go_num, rfl, HN2, Lib.hid (by rw [List.length_append, HWl.out]; rfl), S9, Lib.hid ⟨_, O9.out⟩, E9⟩
                case measure => simp [intOf]; omega)))
      · obtain rfl : j = 17 := by omega
        have d0 := S.out.z.cell 0 rfl
        have d1 := S.out.z.cell 1 rfl
        have y0 := S.out.y.cell 0 rfl
        have y1 := S.out.y.cell 1 rfl
        have y0z := S.out.y.frozen 0
        have y1z := S.out.y.frozen 1
        have HSf := Lib.hid S.out
        have HEf := Lib.hid E.out
        clear S E O
        go_wp2
        refine bodyPost_ret (v := .tuple #[.agg #[.int .i64 (g + 1), .slice G 17 gc], .slice B k f]) (by simp [results, Try.results67, go_sem, y0, y1]) rfl ?_
        rw [HFrE.out, HPl.out]
        have EE := rowv_setBox (rowv_setBox HEf.out HSf.out.y (by decide) 0 (.int .i64 (g + 1))) (HSf.out.y.set 0 _) (by decide) 1 (.slice G 17 gc)
        refine ⟨G, gc, B, k, f, rfl, HWl, Lib.hid ?_, Lib.hid ?_, Lib.hid ((HSf.out.tab.two HSf.out.y (by decide) _ _).reads), Lib.hid ?_, ?_⟩
        · obtain ⟨_, cap, e1, e2⟩ := rowv_form HEf.out
          injection e1 with _ _ e1
          omega
        · rcases Nat.eq_zero_or_pos k with q | q
          · exact .inl q
          · obtain ⟨gg, cap, ev, _⟩ := ownW_of_owns HEf.out q
            injection ev with ev _ _
            exact .inr ⟨gg, ev⟩
        · rcases Nat.eq_zero_or_pos k with q | q
          · intro i hi
            have := HWl.out
            change i < wl.length at hi
            omega
          · obtain ⟨gg, cap, ev, y1', y2', y3', y4'⟩ := ownW_of_owns EE q
            injection ev with ev _ _
            subst ev
            exact (y4' 0 _ (by omega) y2').reads
        · exact ((HSf.out.bel.setCell (p := ⟨w.heap.size + 1 + 1, 0, none⟩) (by show w.heap.size ≤ w.heap.size + 1 + 1; omega) _).setCell (p := ⟨w.heap.size + 1 + 1, 1, none⟩) (by show w.heap.size ≤ w.heap.size + 1 + 1; omega) _)
end Go.Proofs.Ytcchhbkbnbphhaa
