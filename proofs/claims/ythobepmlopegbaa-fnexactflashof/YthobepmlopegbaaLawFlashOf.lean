/- For every []string, laws.FnExactFlashOf returns true: impl.FlashOf answers as the model spec.FlashOf, every field, leaves its arguments alone, and its result is memory of its own. No condition. -/
import Derived.Test.YthobepmlopegbaaFlashOfTop
import Derived.Test.YthobepmlopegbaaGenFlash
import Derived.Test.YthobepmlopegbaaGenOpen
import Derived.Test.YthobepmlopegbaaFactA
import Derived.Test.YthobepmlopegbaaFactB
import Derived.Test.YthobepmlopegbaaFactC
import Derived.Test.YthobepmlopegbaaFactD
import Derived.Deep.RegionHeld3
import Derived.ProofKit
import Derived.OpenShut
import Derived.ShutString
import Derived.ChangeOld
namespace Go.Proofs.Ythobepmlopegbaa.fnExactFlashOf
open Go.RowKit

set_option maxRecDepth 100000 in
set_option maxHeartbeats 16000000 in
theorem walk (a0vA0 : Option Addr) (a0vc0 : Nat) (a0d0 : List ByteArray) (w : World) (h0 : RepA w [.slice a0vA0 a0d0.length a0vc0] [Lf.S a0d0]) (f0 : FitA [Lf.S a0d0]) :
    Calls Try.prog 6 #[.slice a0vA0 a0d0.length a0vc0] w fun e w' => e = .returned (.bool true) ∧ Below w.heap.size w w' := by
  have HSz0 := Lib.hid (fun W (hb : Below w.heap.size w W) l g0 g1 => szLS (.slice a0vA0 a0d0.length a0vc0) a0d0 l W (h0.below hb).1 (f0 _ (by simp)) g0 g1)
  have HTo0 := Lib.hid (fun W (hb : Below w.heap.size w W) (z : szA [Lf.S a0d0] ≤ 1048576) => toLS (.slice a0vA0 a0d0.length a0vc0) a0d0 W (h0.below hb).1 (by have q := Nat.le_trans (szA_len _) z; simp only [lenA, Lf.len] at q; omega))
  have HSpec := Lib.hid (fun W (q0vA0 : Option Addr) (q0vc0 : Nat) (h0 : RepA W [.slice q0vA0 a0d0.length q0vc0] [Lf.S a0d0]) (c0 : CapA [.slice q0vA0 a0d0.length q0vc0]) (z0 : szA [Lf.S a0d0] ≤ 1048576) => specFlashOfA q0vA0 q0vc0 a0d0 W h0 c0 z0)
  have HImpl := Lib.hid (fun W (q0vA0 : Option Addr) (q0vc0 : Nat) (h0 : RepA W [.slice q0vA0 a0d0.length q0vc0] [Lf.S a0d0]) (c0 : CapA [.slice q0vA0 a0d0.length q0vc0]) (z0 : szA [Lf.S a0d0] ≤ 1048576) => implFlashOfA q0vA0 q0vc0 a0d0 W h0 c0 z0)
  have HBnd := Lib.hid (fun (z0 : szA [Lf.S a0d0] ≤ 1048576) => (show lenA [Lf.I ((flashOf a0d0).1), Lf.B ((flashOf a0d0).2.1)] ≤ 4294967296 from flashOf_len a0d0))
  generalize (flashOf a0d0).1 = r0d0 at HSpec HImpl HBnd
  generalize (flashOf a0d0).2.1 = r0d1 at HSpec HImpl HBnd
  generalize flashSt a0d0 = r0d2 at HSpec HImpl HBnd
  generalize (flashOf a0d0).2.2 = r1d0 at HSpec HImpl HBnd
  have qr1d0 : (r1d0 != r1d0) = false := by simp
  clear h0 f0
  have H0 : Hid (Below w.heap.size w w) := Lib.hid (Below.refl _ _)
  go_enter Try.func6, Try.ntmps6
  go_wp2_with fail
  refine (HSz0.out _ H0.out _ (by omega) (by omega)).mono ?_
  rintro e w1 ⟨hres, hc⟩
  have H2 := Lib.hid (bt H0.out hc)
  have Z3 : Hid (w.heap.size ≤ w1.heap.size) := Lib.hid hc.size
  clear H0 hc
  clear HSz0
  rcases hres with rfl | ⟨rfl, hle0⟩
  · go_wp2
    go_ret
    exact ⟨rfl, H2.out⟩
  have z0 : szA [Lf.S a0d0] ≤ 1048576 := by simp only [szA] at hle0 ⊢; omega
  generalize hu0 : Lf.sz (Lf.S a0d0) = u0 at hle0 ⊢
  clear hu0
  have hp0 : ¬ (1048576 : Int) - (u0 : Int) < 0 := by omega
  have HBd := Lib.hid (HBnd.out z0)
  clear HBnd
  have HBr0 : Hid (lenA [Lf.I r0d0, Lf.B r0d1] ≤ 4294967296) := Lib.hid (by have := HBd.out; simp only [lenA] at this ⊢; omega)
  go_wp2_with fail
  refine (HTo0.out _ H2.out z0).mono ?_
  rintro e w5 ⟨t4vA0, t4vc0, rfl, Nt4, Kt4, hc⟩
  have H6 := Lib.hid (bt H2.out hc)
  have Z7 : Hid (w1.heap.size ≤ w5.heap.size) := Lib.hid hc.size
  clear H2 hc
  have Ot4 := Lib.hid (OwnA.one Nt4.out)
  clear Nt4
  have Kt4 := Lib.hid (CapA.cons Kt4.out CapA.nil)
  go_wp2_with fail
  refine (HSpec.out w5 t4vA0 t4vc0 Ot4.out.reads Kt4.out z0).mono ?_
  rintro e w8 ⟨w0vA0, w0vA1, w0vc0, w0vc1, rfl, Nw, hc⟩
  have F9 := Lib.hid (Ot4.out.below hc)
  have H10 := Lib.hid (bt H6.out hc)
  have Z11 : Hid (w5.heap.size ≤ w8.heap.size) := Lib.hid hc.size
  clear Ot4 H6 hc
  clear F9 Kt4
  clear HSpec
  obtain ⟨W12, hW12⟩ : ∃ W12, W12 = (w8.alloc (.cells #[.slice w0vA0 r0d0.length w0vc0, .slice w0vA1 r0d1.length w0vc1, .int .i64 r0d2] 26)) := ⟨_, rfl⟩
  have hba : Below w8.heap.size w8 W12 := by rw [hW12]; exact ((Below.refl _ _).alloc (Nat.le_refl _) _)
  have Z13 : Hid (W12.heap.size = w8.heap.size + 1) := Lib.hid (by rw [hW12]; simp)
  have B14 : Hid (Box W12 (w8.heap.size) 26 #[.slice w0vA0 r0d0.length w0vc0, .slice w0vA1 r0d1.length w0vc1, .int .i64 r0d2]) := Lib.hid (by rw [hW12]; exact (Box.new w8 26 #[.slice w0vA0 r0d0.length w0vc0, .slice w0vA1 r0d1.length w0vc1, .int .i64 r0d2]))
  have F15 := Lib.hid (Nw.out.below hba)
  have H16 := Lib.hid (bt H10.out hba)
  have Z17 : Hid (w8.heap.size ≤ W12.heap.size) := Lib.hid hba.size
  clear Nw H10 hba
  have HW12 := Lib.hid hW12
  clear hW12
  go_wp2_with fail
  rw [← HW12.out]
  refine (HTo0.out _ H16.out z0).mono ?_
  rintro e w18 ⟨x0vA0, x0vc0, rfl, Nx0, Kx0, hc⟩
  clear HW12
  have F19 := Lib.hid (F15.out.below hc)
  have F20 := Lib.hid (B14.out.step hc)
  have H21 := Lib.hid (bt H16.out hc)
  have Z22 : Hid (W12.heap.size ≤ w18.heap.size) := Lib.hid hc.size
  clear F15 B14 H16 hc
  have Ox0 := Lib.hid (OwnA.one Nx0.out)
  clear Nx0
  have Kx0 := Lib.hid (CapA.cons Kx0.out CapA.nil)
  go_wp2_with fail
  refine (HImpl.out w18 x0vA0 x0vc0 Ox0.out.reads Kx0.out z0).mono ?_
  rintro e w23 ⟨g0vA0, g0vA1, g0vc0, g0vc1, rfl, Ng, hc⟩
  have F24 := Lib.hid (F19.out.below hc)
  have F25 := Lib.hid (F20.out.step hc)
  have F26 := Lib.hid (Ox0.out.below hc)
  have H27 := Lib.hid (bt H21.out hc)
  have Z28 : Hid (w18.heap.size ≤ w23.heap.size) := Lib.hid hc.size
  clear F19 F20 Ox0 H21 hc
  obtain ⟨W29, hW29⟩ : ∃ W29, W29 = (w23.alloc (.cells #[.slice g0vA0 r0d0.length g0vc0, .slice g0vA1 r0d1.length g0vc1, .int .i64 r0d2] 26)) := ⟨_, rfl⟩
  have hba : Below w23.heap.size w23 W29 := by rw [hW29]; exact ((Below.refl _ _).alloc (Nat.le_refl _) _)
  have Z30 : Hid (W29.heap.size = w23.heap.size + 1) := Lib.hid (by rw [hW29]; simp)
  have B31 : Hid (Box W29 (w23.heap.size) 26 #[.slice g0vA0 r0d0.length g0vc0, .slice g0vA1 r0d1.length g0vc1, .int .i64 r0d2]) := Lib.hid (by rw [hW29]; exact (Box.new w23 26 #[.slice g0vA0 r0d0.length g0vc0, .slice g0vA1 r0d1.length g0vc1, .int .i64 r0d2]))
  have F32 := Lib.hid (F24.out.below hba)
  have F33 := Lib.hid (F25.out.step hba)
  have F34 := Lib.hid (F26.out.below hba)
  have F35 := Lib.hid (Ng.out.below hba)
  have H36 := Lib.hid (bt H27.out hba)
  have Z37 : Hid (w23.heap.size ≤ W29.heap.size) := Lib.hid hba.size
  clear F24 F25 F26 Ng H27 hba
  have HW29 := Lib.hid hW29
  clear hW29
  have f0 : W29.cell? ⟨w8.heap.size, 0, none⟩ = some (.slice w0vA0 r0d0.length w0vc0) := F33.out.cell 0 rfl
  have f1 : W29.cell? ⟨w8.heap.size, 1, none⟩ = some (.slice w0vA1 r0d1.length w0vc1) := F33.out.cell 1 rfl
  have f2 : W29.cell? ⟨w8.heap.size, 2, none⟩ = some (.int .i64 r0d2) := F33.out.cell 2 rfl
  rw [HW29.out] at f0 f1 f2
  go_wp2_with fail
  rw [← HW29.out]
  refine (eqFlashA g0vA0 g0vA1 g0vc0 g0vc1 w0vA0 w0vA1 w0vc0 w0vc1 r0d0 r0d1 r0d2 W29 F35.out.reads F32.out.reads (Nat.le_trans HBr0.out (by unfold maxLen; omega))).mono ?_
  rintro e w38 ⟨rfl, hc⟩
  clear f0 f1 f2 HW29
  have F39 := Lib.hid (F32.out.below hc)
  have F40 := Lib.hid (F33.out.step hc)
  have F41 := Lib.hid (F34.out.below hc)
  have F42 := Lib.hid (F35.out.below hc)
  have F43 := Lib.hid (B31.out.step hc)
  have H44 := Lib.hid (bt H36.out hc)
  have Z45 : Hid (W29.heap.size ≤ w38.heap.size) := Lib.hid hc.size
  clear F32 F33 F34 F35 B31 H36 hc
  go_wp2_with fail
  refine (HTo0.out _ H44.out z0).mono ?_
  rintro e w47 ⟨t46vA0, t46vc0, rfl, Nt46, Kt46, hc⟩
  have F48 := Lib.hid (F39.out.below hc)
  have F49 := Lib.hid (F40.out.step hc)
  have F50 := Lib.hid (F41.out.below hc)
  have F51 := Lib.hid (F42.out.below hc)
  have F52 := Lib.hid (F43.out.step hc)
  have H53 := Lib.hid (bt H44.out hc)
  have Z54 : Hid (w38.heap.size ≤ w47.heap.size) := Lib.hid hc.size
  clear F39 F40 F41 F42 F43 H44 hc
  have Ot46 := Lib.hid (OwnA.one Nt46.out)
  clear Nt46
  have Kt46 := Lib.hid (CapA.cons Kt46.out CapA.nil)
  go_wp2_with fail
  refine (eqLS (.slice x0vA0 a0d0.length x0vc0) (.slice t46vA0 a0d0.length t46vc0) a0d0 w47 F50.out.reads.1 Ot46.out.reads.1 (by have q := Nat.le_trans (szA_len _) z0; simp only [lenA, Lf.len] at q; unfold maxLen; omega)).mono ?_
  rintro e w55 ⟨rfl, hc⟩
  have F56 := Lib.hid (F48.out.below hc)
  have F57 := Lib.hid (F49.out.step hc)
  have F58 := Lib.hid (F50.out.below hc)
  have F59 := Lib.hid (F51.out.below hc)
  have F60 := Lib.hid (F52.out.step hc)
  have F61 := Lib.hid (Ot46.out.below hc)
  have H62 := Lib.hid (bt H53.out hc)
  have Z63 : Hid (w47.heap.size ≤ w55.heap.size) := Lib.hid hc.size
  clear F48 F49 F50 F51 F52 Ot46 H53 hc
  clear F61 Kt46
  go_wp2_with fail
  have hk0 : (1 : Nat) ≤ 1 := Nat.le_refl _
  have hlx : lenA [Lf.S a0d0] ≤ 1048576 := Nat.le_trans (szA_len _) z0
  have HM := Lib.hid (markLS (.slice x0vA0 a0d0.length x0vc0) a0d0 1 W12.heap.size w18.heap.size w55 F58.out.1.1 (by omega) (by have q := hlx; simp only [lenA, Lf.len] at q; omega) (by omega))
  clear hlx hk0
  refine HM.out.mono ?_
  rintro e w64 ⟨rfl, M1, U1⟩
  clear HM M1
  have U2 := U1.btw F58.out
  have F65 := Lib.hid (F56.out.btw U2 (by have := Z3.out; have := Z7.out; have := Z11.out; have := Z13.out; have := Z17.out; have := Z22.out; have := Z28.out; have := Z30.out; have := Z37.out; have := Z45.out; have := Z54.out; have := Z63.out; omega))
  have F66 := Lib.hid (F57.out.btw U2 (by have := Z3.out; have := Z7.out; have := Z11.out; have := Z13.out; have := Z17.out; have := Z22.out; have := Z28.out; have := Z30.out; have := Z37.out; have := Z45.out; have := Z54.out; have := Z63.out; omega))
  have F67 := Lib.hid (F59.out.btw U2 (by have := Z3.out; have := Z7.out; have := Z11.out; have := Z13.out; have := Z17.out; have := Z22.out; have := Z28.out; have := Z30.out; have := Z37.out; have := Z45.out; have := Z54.out; have := Z63.out; omega))
  have F68 := Lib.hid (F60.out.btw U2 (by have := Z3.out; have := Z7.out; have := Z11.out; have := Z13.out; have := Z17.out; have := Z22.out; have := Z28.out; have := Z30.out; have := Z37.out; have := Z45.out; have := Z54.out; have := Z63.out; omega))
  have H69 := Lib.hid (H62.out.trans ((U2.below (by have := Z3.out; have := Z7.out; have := Z11.out; have := Z13.out; have := Z17.out; have := Z22.out; have := Z28.out; have := Z30.out; have := Z37.out; have := Z45.out; have := Z54.out; have := Z63.out; omega)).mono (by have := Z3.out; have := Z7.out; have := Z11.out; have := Z13.out; have := Z17.out; have := Z22.out; have := Z28.out; have := Z30.out; have := Z37.out; have := Z45.out; have := Z54.out; have := Z63.out; omega)))
  have Z70 : Hid (w55.heap.size ≤ w64.heap.size) := Lib.hid U2.size
  clear F56 F57 F59 F60 H62
  clear U1 U2 F58
  generalize hk : 1 + (Lf.S a0d0).len = k71
  have hkk71 : 1 ≤ k71 ∧ k71 ≤ 1 + 1048576 := by have := Nat.le_trans (szA_len _) z0; simp only [lenA] at this hk; omega
  clear hk
  have hnk71 : ¬ (k71 : Int) < 0 := by omega
  have f0 : w64.cell? ⟨w23.heap.size, 0, none⟩ = some (.slice g0vA0 r0d0.length g0vc0) := F68.out.cell 0 rfl
  have f1 : w64.cell? ⟨w23.heap.size, 1, none⟩ = some (.slice g0vA1 r0d1.length g0vc1) := F68.out.cell 1 rfl
  have f2 : w64.cell? ⟨w23.heap.size, 2, none⟩ = some (.int .i64 r0d2) := F68.out.cell 2 rfl
  have f3 : w64.cell? ⟨w8.heap.size, 0, none⟩ = some (.slice w0vA0 r0d0.length w0vc0) := F66.out.cell 0 rfl
  have f4 : w64.cell? ⟨w8.heap.size, 1, none⟩ = some (.slice w0vA1 r0d1.length w0vc1) := F66.out.cell 1 rfl
  have f5 : w64.cell? ⟨w8.heap.size, 2, none⟩ = some (.int .i64 r0d2) := F66.out.cell 2 rfl
  go_wp2_with fail
  refine (eqFlashA g0vA0 g0vA1 g0vc0 g0vc1 w0vA0 w0vA1 w0vc0 w0vc1 r0d0 r0d1 r0d2 w64 F67.out.reads F65.out.reads (Nat.le_trans HBr0.out (by unfold maxLen; omega))).mono ?_
  rintro e w72 ⟨rfl, hc⟩
  clear f0 f1 f2 f3 f4 f5
  have F73 := Lib.hid (F65.out.below hc)
  have F74 := Lib.hid (F66.out.step hc)
  have F75 := Lib.hid (F67.out.below hc)
  have F76 := Lib.hid (F68.out.step hc)
  have H77 := Lib.hid (bt H69.out hc)
  have Z78 : Hid (w64.heap.size ≤ w72.heap.size) := Lib.hid hc.size
  clear F65 F66 F67 F68 H69 hc
  have f0 : w72.cell? ⟨w23.heap.size, 0, none⟩ = some (.slice g0vA0 r0d0.length g0vc0) := F76.out.cell 0 rfl
  have f1 : w72.cell? ⟨w23.heap.size, 1, none⟩ = some (.slice g0vA1 r0d1.length g0vc1) := F76.out.cell 1 rfl
  have f2 : w72.cell? ⟨w23.heap.size, 2, none⟩ = some (.int .i64 r0d2) := F76.out.cell 2 rfl
  go_wp2_with fail
  have HM := Lib.hid (markFlashA g0vA0 g0vA1 g0vc0 g0vc1 r0d0 r0d1 r0d2 (1) w18.heap.size w23.heap.size w72 F75.out (by have := Z3.out; have := Z7.out; have := Z11.out; have := Z13.out; have := Z17.out; have := Z22.out; have := Z28.out; have := Z30.out; have := Z37.out; have := Z45.out; have := Z54.out; have := Z63.out; have := Z70.out; have := Z78.out; omega) (by omega) (BndA.of_len HBr0.out) (by have := HBr0.out; omega))
  refine HM.out.mono ?_
  rintro e w79 ⟨rfl, M1, U1⟩
  clear HM
  clear f0 f1 f2
  have U2 := U1.btw F75.out
  have N80 := Lib.hid M1.out
  have F81 := Lib.hid (F73.out.btw U2 (by have := Z3.out; have := Z7.out; have := Z11.out; have := Z13.out; have := Z17.out; have := Z22.out; have := Z28.out; have := Z30.out; have := Z37.out; have := Z45.out; have := Z54.out; have := Z63.out; have := Z70.out; have := Z78.out; omega))
  have F82 := Lib.hid (F74.out.btw U2 (by have := Z3.out; have := Z7.out; have := Z11.out; have := Z13.out; have := Z17.out; have := Z22.out; have := Z28.out; have := Z30.out; have := Z37.out; have := Z45.out; have := Z54.out; have := Z63.out; have := Z70.out; have := Z78.out; omega))
  have F83 := Lib.hid (F76.out.btw U2 (by have := Z3.out; have := Z7.out; have := Z11.out; have := Z13.out; have := Z17.out; have := Z22.out; have := Z28.out; have := Z30.out; have := Z37.out; have := Z45.out; have := Z54.out; have := Z63.out; have := Z70.out; have := Z78.out; omega))
  have H84 := Lib.hid (H77.out.trans ((U2.below (by have := Z3.out; have := Z7.out; have := Z11.out; have := Z13.out; have := Z17.out; have := Z22.out; have := Z28.out; have := Z30.out; have := Z37.out; have := Z45.out; have := Z54.out; have := Z63.out; have := Z70.out; have := Z78.out; omega)).mono (by have := Z3.out; have := Z7.out; have := Z11.out; have := Z13.out; have := Z17.out; have := Z22.out; have := Z28.out; have := Z30.out; have := Z37.out; have := Z45.out; have := Z54.out; have := Z63.out; have := Z70.out; have := Z78.out; omega)))
  have Z85 : Hid (w72.heap.size ≤ w79.heap.size) := Lib.hid U2.size
  clear F73 F74 F76 H77
  clear U1 U2 M1 F75
  have hm0 : (((1 + lenA [Lf.I r0d0, Lf.B r0d1] : Nat) : Int) != ((1 + lenA [Lf.I r0d0, Lf.B r0d1] : Nat) : Int)) = false := by simp
  have f0 : w79.cell? ⟨w23.heap.size, 0, none⟩ = some (.slice g0vA0 r0d0.length g0vc0) := F83.out.cell 0 rfl
  have f1 : w79.cell? ⟨w23.heap.size, 1, none⟩ = some (.slice g0vA1 r0d1.length g0vc1) := F83.out.cell 1 rfl
  have f2 : w79.cell? ⟨w23.heap.size, 2, none⟩ = some (.int .i64 r0d2) := F83.out.cell 2 rfl
  go_wp2_with fail
  refine (heldFlashA g0vA0 g0vA1 g0vc0 g0vc1 r0d0 r0d1 r0d2 (1) w79 N80.out.reads (by omega) (BndA.of_len HBr0.out) (by have := HBr0.out; omega)).mono ?_
  rintro e w86 ⟨rfl, hc⟩
  clear f0 f1 f2
  have F87 := Lib.hid (F81.out.below hc)
  have F88 := Lib.hid (F82.out.step hc)
  have F89 := Lib.hid (N80.out.below hc)
  have F90 := Lib.hid (F83.out.step hc)
  have H91 := Lib.hid (bt H84.out hc)
  have Z92 : Hid (w79.heap.size ≤ w86.heap.size) := Lib.hid hc.size
  clear F81 F82 N80 F83 H84 hc
  have hqw86 : ¬ ((1 + lenA [Lf.I r0d0, Lf.B r0d1] : Nat) : Int) < 0 := by omega
  go_wp2_with fail
  refine (HTo0.out _ H91.out z0).mono ?_
  rintro e w94 ⟨t93vA0, t93vc0, rfl, Nt93, Kt93, hc⟩
  have F95 := Lib.hid (F87.out.below hc)
  have F96 := Lib.hid (F88.out.step hc)
  have F97 := Lib.hid (F89.out.below hc)
  have F98 := Lib.hid (F90.out.step hc)
  have H99 := Lib.hid (bt H91.out hc)
  have Z100 : Hid (w86.heap.size ≤ w94.heap.size) := Lib.hid hc.size
  clear F87 F88 F89 F90 H91 hc
  have Ot93 := Lib.hid (OwnA.one Nt93.out)
  clear Nt93
  have Kt93 := Lib.hid (CapA.cons Kt93.out CapA.nil)
  go_wp2_with fail
  refine (HImpl.out w94 t93vA0 t93vc0 Ot93.out.reads Kt93.out z0).mono ?_
  rintro e w101 ⟨h0vA0, h0vA1, h0vc0, h0vc1, rfl, Nh, hc⟩
  have F102 := Lib.hid (F95.out.below hc)
  have F103 := Lib.hid (F96.out.step hc)
  have F104 := Lib.hid (F97.out.below hc)
  have F105 := Lib.hid (F98.out.step hc)
  have F106 := Lib.hid (Ot93.out.below hc)
  have H107 := Lib.hid (bt H99.out hc)
  have Z108 : Hid (w94.heap.size ≤ w101.heap.size) := Lib.hid hc.size
  clear F95 F96 F97 F98 Ot93 H99 hc
  clear F106 Kt93
  obtain ⟨W109, hW109⟩ : ∃ W109, W109 = (w101.alloc (.cells #[.slice h0vA0 r0d0.length h0vc0, .slice h0vA1 r0d1.length h0vc1, .int .i64 r0d2] 26)) := ⟨_, rfl⟩
  have hba : Below w101.heap.size w101 W109 := by rw [hW109]; exact ((Below.refl _ _).alloc (Nat.le_refl _) _)
  have Z110 : Hid (W109.heap.size = w101.heap.size + 1) := Lib.hid (by rw [hW109]; simp)
  have B111 : Hid (Box W109 (w101.heap.size) 26 #[.slice h0vA0 r0d0.length h0vc0, .slice h0vA1 r0d1.length h0vc1, .int .i64 r0d2]) := Lib.hid (by rw [hW109]; exact (Box.new w101 26 #[.slice h0vA0 r0d0.length h0vc0, .slice h0vA1 r0d1.length h0vc1, .int .i64 r0d2]))
  have F112 := Lib.hid (F102.out.below hba)
  have F113 := Lib.hid (F103.out.step hba)
  have F114 := Lib.hid (F104.out.below hba)
  have F115 := Lib.hid (F105.out.step hba)
  have F116 := Lib.hid (Nh.out.below hba)
  have H117 := Lib.hid (bt H107.out hba)
  have Z118 : Hid (w101.heap.size ≤ W109.heap.size) := Lib.hid hba.size
  clear F102 F103 F104 F105 Nh H107 hba
  have HW109 := Lib.hid hW109
  clear hW109
  have f0 : W109.cell? ⟨w8.heap.size, 0, none⟩ = some (.slice w0vA0 r0d0.length w0vc0) := F113.out.cell 0 rfl
  have f1 : W109.cell? ⟨w8.heap.size, 1, none⟩ = some (.slice w0vA1 r0d1.length w0vc1) := F113.out.cell 1 rfl
  have f2 : W109.cell? ⟨w8.heap.size, 2, none⟩ = some (.int .i64 r0d2) := F113.out.cell 2 rfl
  rw [HW109.out] at f0 f1 f2
  go_wp2_with fail
  rw [← HW109.out]
  refine (eqFlashA h0vA0 h0vA1 h0vc0 h0vc1 w0vA0 w0vA1 w0vc0 w0vc1 r0d0 r0d1 r0d2 W109 F116.out.reads F112.out.reads (Nat.le_trans HBr0.out (by unfold maxLen; omega))).mono ?_
  rintro e w119 ⟨rfl, hc⟩
  clear f0 f1 f2 HW109
  have F120 := Lib.hid (F112.out.below hc)
  have F121 := Lib.hid (F113.out.step hc)
  have F122 := Lib.hid (F114.out.below hc)
  have F123 := Lib.hid (F115.out.step hc)
  have F124 := Lib.hid (F116.out.below hc)
  have F125 := Lib.hid (B111.out.step hc)
  have H126 := Lib.hid (bt H117.out hc)
  have Z127 : Hid (W109.heap.size ≤ w119.heap.size) := Lib.hid hc.size
  clear F112 F113 F114 F115 F116 B111 H117 hc
  have f0 : w119.cell? ⟨w23.heap.size, 0, none⟩ = some (.slice g0vA0 r0d0.length g0vc0) := F123.out.cell 0 rfl
  have f1 : w119.cell? ⟨w23.heap.size, 1, none⟩ = some (.slice g0vA1 r0d1.length g0vc1) := F123.out.cell 1 rfl
  have f2 : w119.cell? ⟨w23.heap.size, 2, none⟩ = some (.int .i64 r0d2) := F123.out.cell 2 rfl
  go_wp2_with fail
  refine (heldFlashA g0vA0 g0vA1 g0vc0 g0vc1 r0d0 r0d1 r0d2 (1) w119 F122.out.reads (by omega) (BndA.of_len HBr0.out) (by have := HBr0.out; omega)).mono ?_
  rintro e w128 ⟨rfl, hc⟩
  clear f0 f1 f2
  have F129 := Lib.hid (F120.out.below hc)
  have F130 := Lib.hid (F121.out.step hc)
  have F131 := Lib.hid (F122.out.below hc)
  have F132 := Lib.hid (F123.out.step hc)
  have F133 := Lib.hid (F124.out.below hc)
  have F134 := Lib.hid (F125.out.step hc)
  have H135 := Lib.hid (bt H126.out hc)
  have Z136 : Hid (w119.heap.size ≤ w128.heap.size) := Lib.hid hc.size
  clear F120 F121 F122 F123 F124 F125 H126 hc
  have hqw128 : ¬ ((1 + lenA [Lf.I r0d0, Lf.B r0d1] : Nat) : Int) < 0 := by omega
  go_wp2
  go_ret
  exact ⟨rfl, H135.out⟩

/-! The row's step. -/
open Go.ChangeShapes Go.WideShapes Go.ChangeAt
open Go.ChangeMaps (open_string shut_string)
set_option maxRecDepth 100000 in
theorem own : ownKnob Try.prog.godebug = none := by kernel_rfl
set_option maxRecDepth 100000 in
theorem laidOut : laidOutB Try.prog = true := factLaid
set_option maxRecDepth 100000 in
theorem lifted (os : Os) (started : os.Started) (H : Type) (enc : TypeId × Value → H) :
    ReturnsInHanded {} Try.checked os 6 .any (Rows.fnExactFlashOfSpec.pre6 enc Try.prog Try.f6 Rows.fnExactFlashOfRow.domain false) (Rows.fnExactFlashOfSpec.post enc Try.prog Try.f6 false true false false) := by
  refine returnsInHanded_of_change (C := Try.checked) own started (by kernel_rfl) Try.func6
    (ChangeSpec.witness6 (enc := enc) (C := Try.checked) false ⟨#[], #[.slice none 0 0], []⟩ 8 (by kernel_rfl) (by kernel_rfl) (by kernel_rfl) (by kernel_rfl)) ?_
  intro W base args ds gs before hval0 hW hcnd _
  have hval : ∀ (j : Nat) t v, Try.f6.params[j]? = some t → args[j]? = some v → Value.okWide Try.prog W .any base t v := hval0
  have hW' := hW
  obtain ⟨p, q, hA0, hV, rfl, hfz, hnd⟩ := hW
  have hA : DataW.TrodAll enc Try.prog W 0 (fun _ => true) true Try.f6.params.toList args.toList ds p := hA0
  rw [Try.params6] at hA hval
  obtain ⟨v0, vs0, d0, ds0, p0, q0, hargs, rfl, rfl, h0, r0⟩ := trodAll_cons hA
  obtain ⟨rfl, rfl, rfl⟩ := trodAll_nil r0
  obtain rfl : args = #[v0] := by cases args; simp_all
  obtain ⟨rfl, rfl⟩ := trodVars_none hV
  have k0 := h0
  have lt0 : ∀ x ∈ p0, x.block < W.heap.size := by obtain ⟨m, hm⟩ := k0; exact DataW.trod_lt m _ _ _ hm
  obtain ⟨f0, hf0⟩ := h0
  obtain ⟨x0, y0, z0, e0⟩ := okWide_slice Try.underlying28 (hval 0 28 v0 rfl rfl)
  obtain ⟨a0vA0, a0vc0, a0d0, e0x, R0x, G0x⟩ := openS (by rw [e0] at hf0; simpa [Value.cells] using hf0)
  rw [← e0] at e0x R0x
  subst e0x
  have R0 : RepA W [.slice a0vA0 a0d0.length a0vc0] [Lf.S a0d0] := ⟨R0x, trivial⟩
  have G0 : FitA [Lf.S a0d0] := fun d hd => by simp only [List.mem_cons, List.not_mem_nil, or_false] at hd; subst hd; exact G0x
  clear hA0 hval0
  refine (walk a0vA0 a0vc0 a0d0 W R0 G0).mono fun e W' ⟨he, bel⟩ => ?_
  subst he
  exact ⟨_, rfl, _, _, _, [], _, [], hW', trodAll_mk1 (shut_bool Try.underlying4 _), (trodAll_cons_mk (Below.trod laidOut (by kernel_rfl) (of_decide_eq_true (by kernel_rfl)) k0 bel lt0) trodAll_mk0), rfl, bel.frame _, fun h => by cases h⟩

theorem k0 : (Rows.fnExactFlashOfRow.wf (OpenSpec.ofChange Rows.fnExactFlashOfSpec)) = true := by kernel_rfl
set_option maxRecDepth 100000 in
theorem k3 : (Try.f6.params.all (Try.prog.readableRec ·)) = true := by kernel_rfl
set_option maxRecDepth 100000 in
theorem k4 : (namedTie Try.prog Rows.fnExactFlashOfRow.named Rows.fnExactFlashOfSpec.vars) = true := by kernel_rfl
theorem k5 : ((Rows.fnExactFlashOfRow.stops == [])) = true := by kernel_rfl
set_option maxRecDepth 100000 in
theorem k6 : ((Try.prog.stops == [])) = true := by kernel_rfl
theorem k7 : ((Rows.fnExactFlashOfRow.knobs == [])) = true := by kernel_rfl
set_option maxRecDepth 100000 in
theorem k8 : ((Try.prog.stopKnobs == [])) = true := by kernel_rfl
set_option maxRecDepth 100000 in
theorem k9 : ((Rows.fnExactFlashOfRow.inPlace == Try.prog.inPlace 6)) = true := by kernel_rfl
set_option maxRecDepth 100000 in
theorem k10 : ((Rows.fnExactFlashOfRow.unfollowed == Try.prog.unfollowed 6)) = true := by kernel_rfl
set_option maxRecDepth 100000 in
theorem k11 : ((Rows.fnExactFlashOfRow.recurses == Try.prog.recurses 6)) = true := by kernel_rfl
set_option maxRecDepth 100000 in
theorem k12 : ((Rows.fnExactFlashOfRow.named == Try.prog.varsNamed 6)) = true := by kernel_rfl
set_option maxRecDepth 100000 in
theorem k13 : ((Rows.fnExactFlashOfRow.maps == (Try.f6.params.toList ++ Rows.fnExactFlashOfSpec.plain.varTypes Try.prog).any (Try.prog.mapsRec ·))) = true := by kernel_rfl
set_option maxRecDepth 100000 in
theorem k14 : ((Rows.fnExactFlashOfRow.ifaces == (Try.f6.params.toList ++ Rows.fnExactFlashOfSpec.plain.varTypes Try.prog).any (Try.prog.ifacesRec ·))) = true := by kernel_rfl
set_option maxRecDepth 100000 in
theorem k15 : ((Rows.fnExactFlashOfRow.mapsOut == Try.prog.mapsAmong Try.f6.resultTypes.toList)) = true := by kernel_rfl
set_option maxRecDepth 100000 in
theorem k16 : ((Rows.fnExactFlashOfRow.loops == (Try.f6.params.toList ++ Rows.fnExactFlashOfSpec.plain.varTypes Try.prog).any (Try.prog.loopsFrom ·))) = true := by kernel_rfl
set_option maxRecDepth 100000 in
theorem k17 : ((Rows.fnExactFlashOfRow.wideKeys == (Try.f6.params.toList ++ Rows.fnExactFlashOfSpec.plain.varTypes Try.prog ++ Try.f6.resultTypes.toList).any (Try.prog.wideKeysFrom ·))) = true := by kernel_rfl
set_option maxRecDepth 100000 in
theorem k18 : (Rows.fnExactFlashOfSpec.vars.all (Try.prog.varReadable ·)) = true := by kernel_rfl
set_option maxRecDepth 100000 in
theorem k19 : (Try.f6.resultTypes.all (fun t => Try.prog.readableRec t && decide (t < Try.prog.types.size))) = true := by kernel_rfl
set_option maxRecDepth 100000 in
theorem k20 : ((Rows.fnExactFlashOfRow.ifacesOut == Try.f6.resultTypes.toList.any (Try.prog.ifacesRec ·))) = true := by kernel_rfl
set_option maxRecDepth 100000 in
theorem k21 : ((Rows.fnExactFlashOfRow.loopsOut == Try.f6.resultTypes.toList.any (Try.prog.loopsFrom ·))) = true := by kernel_rfl
set_option maxRecDepth 100000 in
theorem k22 : ((Rows.fnExactFlashOfRow.plainKeys == Try.prog.plainKeys)) = true := by kernel_rfl
theorem k23 : (Rows.fnExactFlashOfRow.shortTexts.isNone) = true := by kernel_rfl
set_option maxRecDepth 100000 in
theorem k28 : ((Rows.fnExactFlashOfRow.kinds == (if Rows.fnExactFlashOfRow.domain.isEmpty then [] else Try.f6.params.toList.map fun t => match Try.prog.underlying t with | some (.int k) => some k | _ => none))) = true := by kernel_rfl
theorem k29 : ((Rows.fnExactFlashOfRow.pinned == Rows.fnExactFlashOfRow.pinnedBy)) = true := by kernel_rfl
set_option maxRecDepth 100000 in
theorem k30 : ((Rows.fnExactFlashOfRow.veiled == (Try.f6.params.toList ++ Rows.fnExactFlashOfSpec.plain.varTypes Try.prog ++ Try.f6.resultTypes.toList).any (Try.prog.veiledRec ·))) = true := by kernel_rfl
set_option maxRecDepth 100000 in
theorem k31 : (Rows.fnExactFlashOfRow.veiledFits Try.prog Try.f6.params.toList (Try.f6.params.toList ++ Rows.fnExactFlashOfSpec.plain.varTypes Try.prog ++ Try.f6.resultTypes.toList)) = true := by kernel_rfl
set_option maxRecDepth 100000 in
theorem facts : joinedFacts Try.prog 6 Try.f6 Rows.fnExactFlashOfSpec Rows.fnExactFlashOfRow = true := (and_mk (and_mk (and_mk (and_mk (and_mk (and_mk (and_mk (and_mk (and_mk (and_mk (and_mk (and_mk (and_mk (and_mk (and_mk (and_mk (and_mk (and_mk (and_mk (and_mk (and_mk (and_mk (and_mk (and_mk (and_mk (and_mk (and_mk (and_mk (and_mk (and_mk (and_mk k0 factLaid) factRowed) k3) k4) k5) k6) k7) k8) k9) k10) k11) k12) k13) k14) k15) k16) k17) k18) k19) k20) k21) k22) k23) factHeard) factEnter) factLift) factMake) k28) k29) k30) k31)
set_option maxRecDepth 100000 in
theorem named : Try.prog.funcNamed Rows.fnExactFlashOfRow.func = some 6 := by kernel_rfl
set_option maxRecDepth 100000 in
theorem inst : Try.f6.isInstance Try.prog Rows.fnExactFlashOfRow.origin Rows.fnExactFlashOfRow.targs := of_decide_eq_true (by kernel_rfl)
set_option maxRecDepth 100000 in
theorem over : Rows.fnExactFlashOfRow.holds Try.pinned (OpenSpec.ofChange Rows.fnExactFlashOfSpec) :=
  OpenClaim.holds_of_wide 6 Try.f6 rfl rfl rfl rfl rfl rfl rfl ⟨rfl, rfl, rfl, rfl, rfl⟩ rfl rfl rfl rfl rfl named Try.func6 facts
    inst (by unfold Func.isWrapper; first | (rw [if_pos (by decide +kernel)]; kernel_rfl) | (rw [if_neg (by decide +kernel)]; exact ⟨rfl, rfl⟩))
    (fun os started H enc _ => lifted os started H enc)
theorem proved : Rows.FnExactFlashOfSaid := over
#print axioms proved
end Go.Proofs.Ythobepmlopegbaa.fnExactFlashOf
