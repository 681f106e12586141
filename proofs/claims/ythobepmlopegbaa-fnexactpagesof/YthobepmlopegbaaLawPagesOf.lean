/- For every Flash, laws.FnExactPagesOf returns true: impl.PagesOf answers as the model spec.PagesOf, every field, leaves its arguments alone, and its result is memory of its own. No condition. -/
import Derived.Test.YthobepmlopegbaaPages6
import Derived.Test.YthobepmlopegbaaGenFlash
import Derived.Test.YthobepmlopegbaaGenOpen
import Derived.Test.YthobepmlopegbaaFactA
import Derived.Test.YthobepmlopegbaaFactB
import Derived.Test.YthobepmlopegbaaFactC
import Derived.Test.YthobepmlopegbaaFactD
import Derived.Deep.RegionHeld3
import Derived.ProofKit
import Derived.OpenShut
import Derived.ShutString
import Derived.ChangeOld
namespace Go.Proofs.Ythobepmlopegbaa.fnExactPagesOf
open Go.RowKit

set_option maxRecDepth 100000 in
set_option maxHeartbeats 16000000 in
theorem walk (a0vA0 a0vA1 : Option Addr) (a0vc0 a0vc1 : Nat) (a0d0 : List Int) (a0d1 : List Bool) (a0d2 : Int) (w : World) (h0 : RepA w [.slice a0vA0 a0d0.length a0vc0, .slice a0vA1 a0d1.length a0vc1] [Lf.I a0d0, Lf.B a0d1]) (f0 : FitA [Lf.I a0d0, Lf.B a0d1]) :
    Calls Try.prog 5 #[.agg #[.slice a0vA0 a0d0.length a0vc0, .slice a0vA1 a0d1.length a0vc1, .int .i64 a0d2]] w fun e w' => e = .returned (.bool true) ∧ Below w.heap.size w w' := by
  have HSz0 := Lib.hid (fun W (hb : Below w.heap.size w W) l g0 g1 => szFlashA a0vA0 a0vA1 a0vc0 a0vc1 a0d0 a0d1 a0d2 l W (h0.below hb) f0 g0 g1)
  have HTo0 := Lib.hid (fun W (hb : Below w.heap.size w W) (z : szA [Lf.I a0d0, Lf.B a0d1] ≤ 1048576) => toFlashA a0vA0 a0vA1 a0vc0 a0vc1 a0d0 a0d1 a0d2 W (h0.below hb) (Nat.le_trans (szA_len _) z))
  have HSpec := Lib.hid (fun W (q0vA0 q0vA1 : Option Addr) (q0vc0 q0vc1 : Nat) (h0 : RepA W [.slice q0vA0 a0d0.length q0vc0, .slice q0vA1 a0d1.length q0vc1] [Lf.I a0d0, Lf.B a0d1]) (c0 : CapA [.slice q0vA0 a0d0.length q0vc0, .slice q0vA1 a0d1.length q0vc1]) (z0 : szA [Lf.I a0d0, Lf.B a0d1] ≤ 1048576) => specPagesOfA q0vA0 q0vA1 q0vc0 q0vc1 a0d0 a0d1 a0d2 W h0 c0 z0)
  have HImpl := Lib.hid (fun W (q0vA0 q0vA1 : Option Addr) (q0vc0 q0vc1 : Nat) (h0 : RepA W [.slice q0vA0 a0d0.length q0vc0, .slice q0vA1 a0d1.length q0vc1] [Lf.I a0d0, Lf.B a0d1]) (c0 : CapA [.slice q0vA0 a0d0.length q0vc0, .slice q0vA1 a0d1.length q0vc1]) (z0 : szA [Lf.I a0d0, Lf.B a0d1] ≤ 1048576) => implPagesOfA q0vA0 q0vA1 q0vc0 q0vc1 a0d0 a0d1 a0d2 W h0 c0 z0)
  have HBnd := Lib.hid (fun (z0 : szA [Lf.I a0d0, Lf.B a0d1] ≤ 1048576) => (show lenA [Lf.S ((pagesOf a0d0 a0d1 a0d2).1)] ≤ 4294967296 from pagesOf_len a0d0 a0d1 a0d2))
  generalize (pagesOf a0d0 a0d1 a0d2).1 = r0d0 at HSpec HImpl HBnd
  generalize (pagesOf a0d0 a0d1 a0d2).2 = r1d0 at HSpec HImpl HBnd
  have qr1d0 : (r1d0 != r1d0) = false := by simp
  clear h0 f0
  have H0 : Hid (Below w.heap.size w w) := Lib.hid (Below.refl _ _)
  go_enter Try.func5, Try.ntmps5
  obtain ⟨W1, hW1⟩ : ∃ W1, W1 = (w.alloc (.cells #[.slice a0vA0 a0d0.length a0vc0, .slice a0vA1 a0d1.length a0vc1, .int .i64 a0d2] 42)) := ⟨_, rfl⟩
  have hba : Below w.heap.size w W1 := by rw [hW1]; exact ((Below.refl _ _).alloc (Nat.le_refl _) _)
  have Z2 : Hid (W1.heap.size = w.heap.size + 1) := Lib.hid (by rw [hW1]; simp)
  have B3 : Hid (Box W1 (w.heap.size) 42 #[.slice a0vA0 a0d0.length a0vc0, .slice a0vA1 a0d1.length a0vc1, .int .i64 a0d2]) := Lib.hid (by rw [hW1]; exact (Box.new w 42 #[.slice a0vA0 a0d0.length a0vc0, .slice a0vA1 a0d1.length a0vc1, .int .i64 a0d2]))
  have H4 := Lib.hid (bt H0.out hba)
  have Z5 : Hid (w.heap.size ≤ W1.heap.size) := Lib.hid hba.size
  clear H0 hba
  have HW1 := Lib.hid hW1
  clear hW1
  go_wp2_with fail
  rw [← HW1.out]
  refine (HSz0.out _ H4.out _ (by omega) (by omega)).mono ?_
  rintro e w6 ⟨hres, hc⟩
  clear HW1
  have F7 := Lib.hid (B3.out.step hc)
  have H8 := Lib.hid (bt H4.out hc)
  have Z9 : Hid (W1.heap.size ≤ w6.heap.size) := Lib.hid hc.size
  clear B3 H4 hc
  clear HSz0
  rcases hres with rfl | ⟨rfl, hle0⟩
  · go_wp2
    go_ret
    exact ⟨rfl, H8.out⟩
  have z0 : szA [Lf.I a0d0, Lf.B a0d1] ≤ 1048576 := by omega
  generalize hu0 : szA [Lf.I a0d0, Lf.B a0d1] = u0 at hle0 ⊢
  clear hu0
  have hp0 : ¬ (1048576 : Int) - (u0 : Int) < 0 := by omega
  have HBd := Lib.hid (HBnd.out z0)
  clear HBnd
  have HBr0 : Hid ((Lf.S r0d0).len ≤ 4294967296) := Lib.hid (by have := HBd.out; simp only [lenA] at this; omega)
  have f0 : w6.cell? ⟨w.heap.size, 0, none⟩ = some (.slice a0vA0 a0d0.length a0vc0) := F7.out.cell 0 rfl
  have f1 : w6.cell? ⟨w.heap.size, 1, none⟩ = some (.slice a0vA1 a0d1.length a0vc1) := F7.out.cell 1 rfl
  have f2 : w6.cell? ⟨w.heap.size, 2, none⟩ = some (.int .i64 a0d2) := F7.out.cell 2 rfl
  go_wp2_with fail
  refine (HTo0.out _ H8.out z0).mono ?_
  rintro e w11 ⟨t10vA0, t10vA1, t10vc0, t10vc1, rfl, Nt10, Kt10, hc⟩
  clear f0 f1 f2
  have F12 := Lib.hid (F7.out.step hc)
  have H13 := Lib.hid (bt H8.out hc)
  have Z14 : Hid (w6.heap.size ≤ w11.heap.size) := Lib.hid hc.size
  clear F7 H8 hc
  go_wp2_with fail
  refine (HSpec.out w11 t10vA0 t10vA1 t10vc0 t10vc1 Nt10.out.reads Kt10.out z0).mono ?_
  rintro e w15 ⟨w0vA0, w0vc0, rfl, Nw, hc⟩
  have F16 := Lib.hid (F12.out.step hc)
  have F17 := Lib.hid (Nt10.out.below hc)
  have H18 := Lib.hid (bt H13.out hc)
  have Z19 : Hid (w11.heap.size ≤ w15.heap.size) := Lib.hid hc.size
  clear F12 Nt10 H13 hc
  clear F17 Kt10
  clear HSpec
  have f0 : w15.cell? ⟨w.heap.size, 0, none⟩ = some (.slice a0vA0 a0d0.length a0vc0) := F16.out.cell 0 rfl
  have f1 : w15.cell? ⟨w.heap.size, 1, none⟩ = some (.slice a0vA1 a0d1.length a0vc1) := F16.out.cell 1 rfl
  have f2 : w15.cell? ⟨w.heap.size, 2, none⟩ = some (.int .i64 a0d2) := F16.out.cell 2 rfl
  go_wp2_with fail
  refine (HTo0.out _ H18.out z0).mono ?_
  rintro e w20 ⟨x0vA0, x0vA1, x0vc0, x0vc1, rfl, Nx0, Kx0, hc⟩
  clear f0 f1 f2
  have F21 := Lib.hid (F16.out.step hc)
  have F22 := Lib.hid (Nw.out.below hc)
  have H23 := Lib.hid (bt H18.out hc)
  have Z24 : Hid (w15.heap.size ≤ w20.heap.size) := Lib.hid hc.size
  clear F16 Nw H18 hc
  obtain ⟨W25, hW25⟩ : ∃ W25, W25 = (w20.alloc (.cells #[.slice x0vA0 a0d0.length x0vc0, .slice x0vA1 a0d1.length x0vc1, .int .i64 a0d2] 26)) := ⟨_, rfl⟩
  have hba : Below w20.heap.size w20 W25 := by rw [hW25]; exact ((Below.refl _ _).alloc (Nat.le_refl _) _)
  have Z26 : Hid (W25.heap.size = w20.heap.size + 1) := Lib.hid (by rw [hW25]; simp)
  have B27 : Hid (Box W25 (w20.heap.size) 26 #[.slice x0vA0 a0d0.length x0vc0, .slice x0vA1 a0d1.length x0vc1, .int .i64 a0d2]) := Lib.hid (by rw [hW25]; exact (Box.new w20 26 #[.slice x0vA0 a0d0.length x0vc0, .slice x0vA1 a0d1.length x0vc1, .int .i64 a0d2]))
  have F28 := Lib.hid (F21.out.step hba)
  have F29 := Lib.hid (F22.out.below hba)
  have F30 := Lib.hid (Nx0.out.below hba)
  have H31 := Lib.hid (bt H23.out hba)
  have Z32 : Hid (w20.heap.size ≤ W25.heap.size) := Lib.hid hba.size
  clear F21 F22 Nx0 H23 hba
  have HW25 := Lib.hid hW25
  clear hW25
  go_wp2_with fail
  rw [← HW25.out]
  refine (HImpl.out W25 x0vA0 x0vA1 x0vc0 x0vc1 F30.out.reads Kx0.out z0).mono ?_
  rintro e w33 ⟨g0vA0, g0vc0, rfl, Ng, hc⟩
  clear HW25
  have F34 := Lib.hid (F28.out.step hc)
  have F35 := Lib.hid (F29.out.below hc)
  have F36 := Lib.hid (F30.out.below hc)
  have F37 := Lib.hid (B27.out.step hc)
  have H38 := Lib.hid (bt H31.out hc)
  have Z39 : Hid (W25.heap.size ≤ w33.heap.size) := Lib.hid hc.size
  clear F28 F29 F30 B27 H31 hc
  go_wp2_with fail
  refine (eqLS (.slice g0vA0 r0d0.length g0vc0) (.slice w0vA0 r0d0.length w0vc0) r0d0 w33 Ng.out.reads.1 F35.out.reads.1 (by have q := HBr0.out; simp only [Lf.len] at q; unfold maxLen; omega)).mono ?_
  rintro e w40 ⟨rfl, hc⟩
  have F41 := Lib.hid (F34.out.step hc)
  have F42 := Lib.hid (F35.out.below hc)
  have F43 := Lib.hid (F36.out.below hc)
  have F44 := Lib.hid (F37.out.step hc)
  have F45 := Lib.hid (Ng.out.below hc)
  have H46 := Lib.hid (bt H38.out hc)
  have Z47 : Hid (w33.heap.size ≤ w40.heap.size) := Lib.hid hc.size
  clear F34 F35 F36 F37 Ng H38 hc
  have f0 : w40.cell? ⟨w.heap.size, 0, none⟩ = some (.slice a0vA0 a0d0.length a0vc0) := F41.out.cell 0 rfl
  have f1 : w40.cell? ⟨w.heap.size, 1, none⟩ = some (.slice a0vA1 a0d1.length a0vc1) := F41.out.cell 1 rfl
  have f2 : w40.cell? ⟨w.heap.size, 2, none⟩ = some (.int .i64 a0d2) := F41.out.cell 2 rfl
  have f3 : w40.cell? ⟨w20.heap.size, 0, none⟩ = some (.slice x0vA0 a0d0.length x0vc0) := F44.out.cell 0 rfl
  have f4 : w40.cell? ⟨w20.heap.size, 1, none⟩ = some (.slice x0vA1 a0d1.length x0vc1) := F44.out.cell 1 rfl
  have f5 : w40.cell? ⟨w20.heap.size, 2, none⟩ = some (.int .i64 a0d2) := F44.out.cell 2 rfl
  have HK := Lib.hid (fun W' (hb : Below w40.heap.size w40 W') => And.intro ((hb.cell (cell_lt f0)).trans f0) (And.intro ((hb.cell (cell_lt f1)).trans f1) (And.intro ((hb.cell (cell_lt f2)).trans f2) (And.intro ((hb.cell (cell_lt f3)).trans f3) (And.intro ((hb.cell (cell_lt f4)).trans f4) ((hb.cell (cell_lt f5)).trans f5))))))
  have h6 : Below w40.heap.size w40 w40.drew := (Below.refl _ _).drew
  go_wp2
  go_region_held3 (fun W => W.cell? ⟨w.heap.size, 0, none⟩ = some (.slice a0vA0 a0d0.length a0vc0) ∧ W.cell? ⟨w.heap.size, 1, none⟩ = some (.slice a0vA1 a0d1.length a0vc1) ∧ W.cell? ⟨w.heap.size, 2, none⟩ = some (.int .i64 a0d2) ∧ W.cell? ⟨w20.heap.size, 0, none⟩ = some (.slice x0vA0 a0d0.length x0vc0) ∧ W.cell? ⟨w20.heap.size, 1, none⟩ = some (.slice x0vA1 a0d1.length x0vc1) ∧ W.cell? ⟨w20.heap.size, 2, none⟩ = some (.int .i64 a0d2))
    (first | exact HK.out _ h6 | exact HK.out _ (bt h6 hba) | exact HK.out _ (bt (bt h6 hba) hbb))
    (first | (go_at_call 22; refine (HTo0.out _ H46.out.drew z0).mono ?_; rintro e w49 ⟨t48vA0, t48vA1, t48vc0, t48vc1, rfl, Nt48, Kt48, hba⟩) | (go_at_call 24; refine (eqFlashA x0vA0 x0vA1 x0vc0 x0vc1 t48vA0 t48vA1 t48vc0 t48vc1 a0d0 a0d1 a0d2 w49 (F43.out.below (bt h6 hba)).reads Nt48.out.reads (Nat.le_trans (Nat.le_trans (szA_len _) z0) (by unfold maxLen; omega))).mono ?_; rintro e w50 ⟨rfl, hbb⟩))
  have hc : Below w40.heap.size w40 w50 := bt (bt h6 hba) hbb
  have F51 := Lib.hid (F41.out.step hc)
  have F52 := Lib.hid (F42.out.below hc)
  have F53 := Lib.hid (F43.out.below hc)
  have F54 := Lib.hid (F44.out.step hc)
  have F55 := Lib.hid (F45.out.below hc)
  have H56 := Lib.hid (bt H46.out hc)
  have Z57 : Hid (w40.heap.size ≤ w50.heap.size) := Lib.hid hc.size
  clear F41 F42 F43 F44 F45 H46 hc
  clear HK h6 hba hbb Nt48 Kt48 f0 f1 f2 f3 f4 f5
  have f0 : w50.cell? ⟨w20.heap.size, 0, none⟩ = some (.slice x0vA0 a0d0.length x0vc0) := F54.out.cell 0 rfl
  have f1 : w50.cell? ⟨w20.heap.size, 1, none⟩ = some (.slice x0vA1 a0d1.length x0vc1) := F54.out.cell 1 rfl
  have f2 : w50.cell? ⟨w20.heap.size, 2, none⟩ = some (.int .i64 a0d2) := F54.out.cell 2 rfl
  go_wp2_with fail
  have hk0 : (1 : Nat) ≤ 1 := Nat.le_refl _
  have hlx : lenA [Lf.I a0d0, Lf.B a0d1] ≤ 1048576 := Nat.le_trans (szA_len _) z0
  have HM := Lib.hid (markFlashA x0vA0 x0vA1 x0vc0 x0vc1 a0d0 a0d1 a0d2 1 w15.heap.size w20.heap.size w50 F53.out (by have := Z2.out; have := Z5.out; have := Z9.out; have := Z14.out; have := Z19.out; have := Z24.out; have := Z26.out; have := Z32.out; have := Z39.out; have := Z47.out; have := Z57.out; omega) (by omega) (BndA.of_len (by omega)) (by omega))
  clear hlx hk0
  refine HM.out.mono ?_
  rintro e w58 ⟨rfl, M1, U1⟩
  clear HM M1
  clear f0 f1 f2
  have U2 := U1.btw F53.out
  have F59 := Lib.hid (F51.out.btw U2 (by have := Z2.out; have := Z5.out; have := Z9.out; have := Z14.out; have := Z19.out; have := Z24.out; have := Z26.out; have := Z32.out; have := Z39.out; have := Z47.out; have := Z57.out; omega))
  have F60 := Lib.hid (F52.out.btw U2 (by have := Z2.out; have := Z5.out; have := Z9.out; have := Z14.out; have := Z19.out; have := Z24.out; have := Z26.out; have := Z32.out; have := Z39.out; have := Z47.out; have := Z57.out; omega))
  have F61 := Lib.hid (F54.out.btw U2 (by have := Z2.out; have := Z5.out; have := Z9.out; have := Z14.out; have := Z19.out; have := Z24.out; have := Z26.out; have := Z32.out; have := Z39.out; have := Z47.out; have := Z57.out; omega))
  have F62 := Lib.hid (F55.out.btw U2 (by have := Z2.out; have := Z5.out; have := Z9.out; have := Z14.out; have := Z19.out; have := Z24.out; have := Z26.out; have := Z32.out; have := Z39.out; have := Z47.out; have := Z57.out; omega))
  have H63 := Lib.hid (H56.out.trans ((U2.below (by have := Z2.out; have := Z5.out; have := Z9.out; have := Z14.out; have := Z19.out; have := Z24.out; have := Z26.out; have := Z32.out; have := Z39.out; have := Z47.out; have := Z57.out; omega)).mono (by have := Z2.out; have := Z5.out; have := Z9.out; have := Z14.out; have := Z19.out; have := Z24.out; have := Z26.out; have := Z32.out; have := Z39.out; have := Z47.out; have := Z57.out; omega)))
  have Z64 : Hid (w50.heap.size ≤ w58.heap.size) := Lib.hid U2.size
  clear F51 F52 F54 F55 H56
  clear U1 U2 F53
  generalize hk : 1 + lenA [Lf.I a0d0, Lf.B a0d1] = k65
  have hkk65 : 1 ≤ k65 ∧ k65 ≤ 1 + 1048576 := by have := Nat.le_trans (szA_len _) z0; simp only [lenA] at this hk; omega
  clear hk
  have hnk65 : ¬ (k65 : Int) < 0 := by omega
  go_wp2_with fail
  refine (eqLS (.slice g0vA0 r0d0.length g0vc0) (.slice w0vA0 r0d0.length w0vc0) r0d0 w58 F62.out.reads.1 F60.out.reads.1 (by have q := HBr0.out; simp only [Lf.len] at q; unfold maxLen; omega)).mono ?_
  rintro e w66 ⟨rfl, hc⟩
  have F67 := Lib.hid (F59.out.step hc)
  have F68 := Lib.hid (F60.out.below hc)
  have F69 := Lib.hid (F61.out.step hc)
  have F70 := Lib.hid (F62.out.below hc)
  have H71 := Lib.hid (bt H63.out hc)
  have Z72 : Hid (w58.heap.size ≤ w66.heap.size) := Lib.hid hc.size
  clear F59 F60 F61 F62 H63 hc
  go_wp2_with fail
  have HM := Lib.hid (markLS (.slice g0vA0 r0d0.length g0vc0) r0d0 (1) W25.heap.size w33.heap.size w66 F70.out.1.1 (by omega) (by have q := HBr0.out; simpa only [Lf.len] using q) (by have := HBr0.out; omega))
  refine HM.out.mono ?_
  rintro e w73 ⟨rfl, M1, U1⟩
  clear HM
  have U2 := U1.btw F70.out
  have N74 := Lib.hid (OwnA.one M1.out)
  have F75 := Lib.hid (F67.out.btw U2 (by have := Z2.out; have := Z5.out; have := Z9.out; have := Z14.out; have := Z19.out; have := Z24.out; have := Z26.out; have := Z32.out; have := Z39.out; have := Z47.out; have := Z57.out; have := Z64.out; have := Z72.out; omega))
  have F76 := Lib.hid (F68.out.btw U2 (by have := Z2.out; have := Z5.out; have := Z9.out; have := Z14.out; have := Z19.out; have := Z24.out; have := Z26.out; have := Z32.out; have := Z39.out; have := Z47.out; have := Z57.out; have := Z64.out; have := Z72.out; omega))
  have F77 := Lib.hid (F69.out.btw U2 (by have := Z2.out; have := Z5.out; have := Z9.out; have := Z14.out; have := Z19.out; have := Z24.out; have := Z26.out; have := Z32.out; have := Z39.out; have := Z47.out; have := Z57.out; have := Z64.out; have := Z72.out; omega))
  have H78 := Lib.hid (H71.out.trans ((U2.below (by have := Z2.out; have := Z5.out; have := Z9.out; have := Z14.out; have := Z19.out; have := Z24.out; have := Z26.out; have := Z32.out; have := Z39.out; have := Z47.out; have := Z57.out; have := Z64.out; have := Z72.out; omega)).mono (by have := Z2.out; have := Z5.out; have := Z9.out; have := Z14.out; have := Z19.out; have := Z24.out; have := Z26.out; have := Z32.out; have := Z39.out; have := Z47.out; have := Z57.out; have := Z64.out; have := Z72.out; omega)))
  have Z79 : Hid (w66.heap.size ≤ w73.heap.size) := Lib.hid U2.size
  clear F67 F68 F69 H71
  clear U1 U2 M1 F70
  have hm0 : (((1 + (Lf.S r0d0).len : Nat) : Int) != ((1 + (Lf.S r0d0).len : Nat) : Int)) = false := by simp
  go_wp2_with fail
  refine (heldLS (.slice g0vA0 r0d0.length g0vc0) r0d0 (1) w73 N74.out.reads.1 (by omega) (by have q := HBr0.out; simpa only [Lf.len] using q) (by have := HBr0.out; omega)).mono ?_
  rintro e w80 ⟨rfl, hc⟩
  have F81 := Lib.hid (F75.out.step hc)
  have F82 := Lib.hid (F76.out.below hc)
  have F83 := Lib.hid (F77.out.step hc)
  have F84 := Lib.hid (N74.out.below hc)
  have H85 := Lib.hid (bt H78.out hc)
  have Z86 : Hid (w73.heap.size ≤ w80.heap.size) := Lib.hid hc.size
  clear F75 F76 F77 N74 H78 hc
  have hqw80 : ¬ ((1 + (Lf.S r0d0).len : Nat) : Int) < 0 := by omega
  have f0 : w80.cell? ⟨w.heap.size, 0, none⟩ = some (.slice a0vA0 a0d0.length a0vc0) := F81.out.cell 0 rfl
  have f1 : w80.cell? ⟨w.heap.size, 1, none⟩ = some (.slice a0vA1 a0d1.length a0vc1) := F81.out.cell 1 rfl
  have f2 : w80.cell? ⟨w.heap.size, 2, none⟩ = some (.int .i64 a0d2) := F81.out.cell 2 rfl
  go_wp2_with fail
  refine (HTo0.out _ H85.out z0).mono ?_
  rintro e w88 ⟨t87vA0, t87vA1, t87vc0, t87vc1, rfl, Nt87, Kt87, hc⟩
  clear f0 f1 f2
  have F89 := Lib.hid (F81.out.step hc)
  have F90 := Lib.hid (F82.out.below hc)
  have F91 := Lib.hid (F83.out.step hc)
  have F92 := Lib.hid (F84.out.below hc)
  have H93 := Lib.hid (bt H85.out hc)
  have Z94 : Hid (w80.heap.size ≤ w88.heap.size) := Lib.hid hc.size
  clear F81 F82 F83 F84 H85 hc
  go_wp2_with fail
  refine (HImpl.out w88 t87vA0 t87vA1 t87vc0 t87vc1 Nt87.out.reads Kt87.out z0).mono ?_
  rintro e w95 ⟨h0vA0, h0vc0, rfl, Nh, hc⟩
  have F96 := Lib.hid (F89.out.step hc)
  have F97 := Lib.hid (F90.out.below hc)
  have F98 := Lib.hid (F91.out.step hc)
  have F99 := Lib.hid (F92.out.below hc)
  have F100 := Lib.hid (Nt87.out.below hc)
  have H101 := Lib.hid (bt H93.out hc)
  have Z102 : Hid (w88.heap.size ≤ w95.heap.size) := Lib.hid hc.size
  clear F89 F90 F91 F92 Nt87 H93 hc
  clear F100 Kt87
  go_wp2_with fail
  refine (eqLS (.slice h0vA0 r0d0.length h0vc0) (.slice w0vA0 r0d0.length w0vc0) r0d0 w95 Nh.out.reads.1 F97.out.reads.1 (by have q := HBr0.out; simp only [Lf.len] at q; unfold maxLen; omega)).mono ?_
  rintro e w103 ⟨rfl, hc⟩
  have F104 := Lib.hid (F96.out.step hc)
  have F105 := Lib.hid (F97.out.below hc)
  have F106 := Lib.hid (F98.out.step hc)
  have F107 := Lib.hid (F99.out.below hc)
  have F108 := Lib.hid (Nh.out.below hc)
  have H109 := Lib.hid (bt H101.out hc)
  have Z110 : Hid (w95.heap.size ≤ w103.heap.size) := Lib.hid hc.size
  clear F96 F97 F98 F99 Nh H101 hc
  go_wp2_with fail
  refine (heldLS (.slice g0vA0 r0d0.length g0vc0) r0d0 (1) w103 F107.out.reads.1 (by omega) (by have q := HBr0.out; simpa only [Lf.len] using q) (by have := HBr0.out; omega)).mono ?_
  rintro e w111 ⟨rfl, hc⟩
  have F112 := Lib.hid (F104.out.step hc)
  have F113 := Lib.hid (F105.out.below hc)
  have F114 := Lib.hid (F106.out.step hc)
  have F115 := Lib.hid (F107.out.below hc)
  have F116 := Lib.hid (F108.out.below hc)
  have H117 := Lib.hid (bt H109.out hc)
  have Z118 : Hid (w103.heap.size ≤ w111.heap.size) := Lib.hid hc.size
  clear F104 F105 F106 F107 F108 H109 hc
  have hqw111 : ¬ ((1 + (Lf.S r0d0).len : Nat) : Int) < 0 := by omega
  go_wp2
  go_ret
  exact ⟨rfl, H117.out⟩

/-! The row's step. -/
open Go.ChangeShapes Go.WideShapes Go.ChangeAt
open Go.ChangeMaps (open_string shut_string)
set_option maxRecDepth 100000 in
theorem own : ownKnob Try.prog.godebug = none := by kernel_rfl
set_option maxRecDepth 100000 in
theorem laidOut : laidOutB Try.prog = true := factLaid
set_option maxRecDepth 100000 in
theorem lifted (os : Os) (started : os.Started) (H : Type) (enc : TypeId × Value → H) :
    ReturnsInHanded {} Try.checked os 5 .any (Rows.fnExactPagesOfSpec.pre6 enc Try.prog Try.f5 Rows.fnExactPagesOfRow.domain false) (Rows.fnExactPagesOfSpec.post enc Try.prog Try.f5 false true false false) := by
  refine returnsInHanded_of_change (C := Try.checked) own started (by kernel_rfl) Try.func5
    (ChangeSpec.witness6 (enc := enc) (C := Try.checked) false ⟨#[], #[.agg #[.slice none 0 0, .slice none 0 0, .int .i64 0]], []⟩ 8 (by kernel_rfl) (by kernel_rfl) (by kernel_rfl) (by kernel_rfl)) ?_
  intro W base args ds gs before hval0 hW hcnd _
  have hval : ∀ (j : Nat) t v, Try.f5.params[j]? = some t → args[j]? = some v → Value.okWide Try.prog W .any base t v := hval0
  have hW' := hW
  obtain ⟨p, q, hA0, hV, rfl, hfz, hnd⟩ := hW
  have hA : DataW.TrodAll enc Try.prog W 0 (fun _ => true) true Try.f5.params.toList args.toList ds p := hA0
  rw [Try.params5] at hA hval
  obtain ⟨v0, vs0, d0, ds0, p0, q0, hargs, rfl, rfl, h0, r0⟩ := trodAll_cons hA
  obtain ⟨rfl, rfl, rfl⟩ := trodAll_nil r0
  obtain rfl : args = #[v0] := by cases args; simp_all
  obtain ⟨rfl, rfl⟩ := trodVars_none hV
  have k0 := h0
  have lt0 : ∀ x ∈ p0, x.block < W.heap.size := by obtain ⟨m, hm⟩ := k0; exact DataW.trod_lt m _ _ _ hm
  obtain ⟨a0vA0, a0vA1, a0vc0, a0vc1, a0d0, a0d1, a0d2, rfl, R0, G0⟩ := openFlash (hval 0 42 v0 rfl rfl) h0
  clear hA0 hval0
  refine (walk a0vA0 a0vA1 a0vc0 a0vc1 a0d0 a0d1 a0d2 W R0 G0).mono fun e W' ⟨he, bel⟩ => ?_
  subst he
  exact ⟨_, rfl, _, _, _, [], _, [], hW', trodAll_mk1 (shut_bool Try.underlying4 _), (trodAll_cons_mk (Below.trod laidOut (by kernel_rfl) (of_decide_eq_true (by kernel_rfl)) k0 bel lt0) trodAll_mk0), rfl, bel.frame _, fun h => by cases h⟩

theorem k0 : (Rows.fnExactPagesOfRow.wf (OpenSpec.ofChange Rows.fnExactPagesOfSpec)) = true := by kernel_rfl
set_option maxRecDepth 100000 in
theorem k3 : (Try.f5.params.all (Try.prog.readableRec ·)) = true := by kernel_rfl
set_option maxRecDepth 100000 in
theorem k4 : (namedTie Try.prog Rows.fnExactPagesOfRow.named Rows.fnExactPagesOfSpec.vars) = true := by kernel_rfl
theorem k5 : ((Rows.fnExactPagesOfRow.stops == [])) = true := by kernel_rfl
set_option maxRecDepth 100000 in
theorem k6 : ((Try.prog.stops == [])) = true := by kernel_rfl
theorem k7 : ((Rows.fnExactPagesOfRow.knobs == [])) = true := by kernel_rfl
set_option maxRecDepth 100000 in
theorem k8 : ((Try.prog.stopKnobs == [])) = true := by kernel_rfl
set_option maxRecDepth 100000 in
theorem k9 : ((Rows.fnExactPagesOfRow.inPlace == Try.prog.inPlace 5)) = true := by kernel_rfl
set_option maxRecDepth 100000 in
theorem k10 : ((Rows.fnExactPagesOfRow.unfollowed == Try.prog.unfollowed 5)) = true := by kernel_rfl
set_option maxRecDepth 100000 in
theorem k11 : ((Rows.fnExactPagesOfRow.recurses == Try.prog.recurses 5)) = true := by kernel_rfl
set_option maxRecDepth 100000 in
theorem k12 : ((Rows.fnExactPagesOfRow.named == Try.prog.varsNamed 5)) = true := by kernel_rfl
set_option maxRecDepth 100000 in
theorem k13 : ((Rows.fnExactPagesOfRow.maps == (Try.f5.params.toList ++ Rows.fnExactPagesOfSpec.plain.varTypes Try.prog).any (Try.prog.mapsRec ·))) = true := by kernel_rfl
set_option maxRecDepth 100000 in
theorem k14 : ((Rows.fnExactPagesOfRow.ifaces == (Try.f5.params.toList ++ Rows.fnExactPagesOfSpec.plain.varTypes Try.prog).any (Try.prog.ifacesRec ·))) = true := by kernel_rfl
set_option maxRecDepth 100000 in
theorem k15 : ((Rows.fnExactPagesOfRow.mapsOut == Try.prog.mapsAmong Try.f5.resultTypes.toList)) = true := by kernel_rfl
set_option maxRecDepth 100000 in
theorem k16 : ((Rows.fnExactPagesOfRow.loops == (Try.f5.params.toList ++ Rows.fnExactPagesOfSpec.plain.varTypes Try.prog).any (Try.prog.loopsFrom ·))) = true := by kernel_rfl
set_option maxRecDepth 100000 in
theorem k17 : ((Rows.fnExactPagesOfRow.wideKeys == (Try.f5.params.toList ++ Rows.fnExactPagesOfSpec.plain.varTypes Try.prog ++ Try.f5.resultTypes.toList).any (Try.prog.wideKeysFrom ·))) = true := by kernel_rfl
set_option maxRecDepth 100000 in
theorem k18 : (Rows.fnExactPagesOfSpec.vars.all (Try.prog.varReadable ·)) = true := by kernel_rfl
set_option maxRecDepth 100000 in
theorem k19 : (Try.f5.resultTypes.all (fun t => Try.prog.readableRec t && decide (t < Try.prog.types.size))) = true := by kernel_rfl
set_option maxRecDepth 100000 in
theorem k20 : ((Rows.fnExactPagesOfRow.ifacesOut == Try.f5.resultTypes.toList.any (Try.prog.ifacesRec ·))) = true := by kernel_rfl
set_option maxRecDepth 100000 in
theorem k21 : ((Rows.fnExactPagesOfRow.loopsOut == Try.f5.resultTypes.toList.any (Try.prog.loopsFrom ·))) = true := by kernel_rfl
set_option maxRecDepth 100000 in
theorem k22 : ((Rows.fnExactPagesOfRow.plainKeys == Try.prog.plainKeys)) = true := by kernel_rfl
theorem k23 : (Rows.fnExactPagesOfRow.shortTexts.isNone) = true := by kernel_rfl
set_option maxRecDepth 100000 in
theorem k28 : ((Rows.fnExactPagesOfRow.kinds == (if Rows.fnExactPagesOfRow.domain.isEmpty then [] else Try.f5.params.toList.map fun t => match Try.prog.underlying t with | some (.int k) => some k | _ => none))) = true := by kernel_rfl
theorem k29 : ((Rows.fnExactPagesOfRow.pinned == Rows.fnExactPagesOfRow.pinnedBy)) = true := by kernel_rfl
set_option maxRecDepth 100000 in
theorem k30 : ((Rows.fnExactPagesOfRow.veiled == (Try.f5.params.toList ++ Rows.fnExactPagesOfSpec.plain.varTypes Try.prog ++ Try.f5.resultTypes.toList).any (Try.prog.veiledRec ·))) = true := by kernel_rfl
set_option maxRecDepth 100000 in
theorem k31 : (Rows.fnExactPagesOfRow.veiledFits Try.prog Try.f5.params.toList (Try.f5.params.toList ++ Rows.fnExactPagesOfSpec.plain.varTypes Try.prog ++ Try.f5.resultTypes.toList)) = true := by kernel_rfl
set_option maxRecDepth 100000 in
theorem facts : joinedFacts Try.prog 5 Try.f5 Rows.fnExactPagesOfSpec Rows.fnExactPagesOfRow = true := (and_mk (and_mk (and_mk (and_mk (and_mk (and_mk (and_mk (and_mk (and_mk (and_mk (and_mk (and_mk (and_mk (and_mk (and_mk (and_mk (and_mk (and_mk (and_mk (and_mk (and_mk (and_mk (and_mk (and_mk (and_mk (and_mk (and_mk (and_mk (and_mk (and_mk (and_mk k0 factLaid) factRowed) k3) k4) k5) k6) k7) k8) k9) k10) k11) k12) k13) k14) k15) k16) k17) k18) k19) k20) k21) k22) k23) factHeard) factEnter) factLift) factMake) k28) k29) k30) k31)
set_option maxRecDepth 100000 in
theorem named : Try.prog.funcNamed Rows.fnExactPagesOfRow.func = some 5 := by kernel_rfl
set_option maxRecDepth 100000 in
theorem inst : Try.f5.isInstance Try.prog Rows.fnExactPagesOfRow.origin Rows.fnExactPagesOfRow.targs := of_decide_eq_true (by kernel_rfl)
set_option maxRecDepth 100000 in
theorem over : Rows.fnExactPagesOfRow.holds Try.pinned (OpenSpec.ofChange Rows.fnExactPagesOfSpec) :=
  OpenClaim.holds_of_wide 5 Try.f5 rfl rfl rfl rfl rfl rfl rfl ⟨rfl, rfl, rfl, rfl, rfl⟩ rfl rfl rfl rfl rfl named Try.func5 facts
    inst (by unfold Func.isWrapper; first | (rw [if_pos (by decide +kernel)]; kernel_rfl) | (rw [if_neg (by decide +kernel)]; exact ⟨rfl, rfl⟩))
    (fun os started H enc _ => lifted os started H enc)
theorem proved : Rows.FnExactPagesOfSaid := over
#print axioms proved
end Go.Proofs.Ythobepmlopegbaa.fnExactPagesOf
