/- For every Irq and int and int, laws.FnExactSetLevel returns true: impl.SetLevel answers as the model spec.SetLevel, every field, leaves its arguments alone, and its result is memory of its own. No condition. -/
import Derived.Test.YtamfapmkdojhcaaIrqApi
import Derived.Test.YtamfapmkdojhcaaGenOpen
import Derived.Test.YtamfapmkdojhcaaFactA
import Derived.Test.YtamfapmkdojhcaaFactB
import Derived.Test.YtamfapmkdojhcaaFactC
import Derived.Test.YtamfapmkdojhcaaFactD
import Derived.Deep.RegionHeld3
import Derived.ProofKit
import Derived.OpenShut
import Derived.ShutString
import Derived.ChangeOld
namespace Go.Proofs.Ytamfapmkdojhcaa.fnExactSetLevel
open Go.RowKit

set_option maxRecDepth 100000 in
set_option maxHeartbeats 16000000 in
theorem walk (a0vA0 a0vA1 : Option Addr) (a0vc0 a0vc1 : Nat) (a0d0 : List Int) (a0d1 : List Bool) (a1d0 : Int) (a2d0 : Int) (w : World) (h0 : RepA w [.slice a0vA0 a0d0.length a0vc0, .slice a0vA1 a0d1.length a0vc1] [Lf.I a0d0, Lf.B a0d1]) (f0 : FitA [Lf.I a0d0, Lf.B a0d1]) :
    Calls Try.prog 6 #[.agg #[.slice a0vA0 a0d0.length a0vc0, .slice a0vA1 a0d1.length a0vc1], .int .i64 a1d0, .int .i64 a2d0] w fun e w' => e = .returned (.bool true) ∧ Below w.heap.size w w' := by
  have HSz0 := Lib.hid (fun W (hb : Below w.heap.size w W) l g0 g1 => szIrqA a0vA0 a0vA1 a0vc0 a0vc1 a0d0 a0d1 l W (h0.below hb) f0 g0 g1)
  have HTo0 := Lib.hid (fun W (hb : Below w.heap.size w W) (z : szA [Lf.I a0d0, Lf.B a0d1] ≤ 1048576) => toIrqA a0vA0 a0vA1 a0vc0 a0vc1 a0d0 a0d1 W (h0.below hb) (Nat.le_trans (szA_len _) z))
  have HSpec := Lib.hid (fun W (q0vA0 q0vA1 : Option Addr) (q0vc0 q0vc1 : Nat) (h0 : RepA W [.slice q0vA0 a0d0.length q0vc0, .slice q0vA1 a0d1.length q0vc1] [Lf.I a0d0, Lf.B a0d1]) (c0 : CapA [.slice q0vA0 a0d0.length q0vc0, .slice q0vA1 a0d1.length q0vc1]) (z0 : szA [Lf.I a0d0, Lf.B a0d1] ≤ 1048576) => specSetLevelA q0vA0 q0vA1 q0vc0 q0vc1 a0d0 a0d1 a1d0 a2d0 W h0 c0 z0  )
  have HImpl := Lib.hid (fun W (q0vA0 q0vA1 : Option Addr) (q0vc0 q0vc1 : Nat) (h0 : RepA W [.slice q0vA0 a0d0.length q0vc0, .slice q0vA1 a0d1.length q0vc1] [Lf.I a0d0, Lf.B a0d1]) (c0 : CapA [.slice q0vA0 a0d0.length q0vc0, .slice q0vA1 a0d1.length q0vc1]) (z0 : szA [Lf.I a0d0, Lf.B a0d1] ≤ 1048576) => implSetLevelA q0vA0 q0vA1 q0vc0 q0vc1 a0d0 a0d1 a1d0 a2d0 W h0 c0 z0  )
  have HBnd := Lib.hid (fun (z0 : szA [Lf.I a0d0, Lf.B a0d1] ≤ 1048576) => (show lenA [Lf.I ((levF a0d0 a0d1 a1d0 a2d0).1), Lf.B ((levF a0d0 a0d1 a1d0 a2d0).2.1)] ≤ 4294967296 from levF_len a0d0 a0d1 a1d0 a2d0))
  generalize (levF a0d0 a0d1 a1d0 a2d0).1 = r0d0 at HSpec HImpl HBnd
  generalize (levF a0d0 a0d1 a1d0 a2d0).2.1 = r0d1 at HSpec HImpl HBnd
  generalize (levF a0d0 a0d1 a1d0 a2d0).2.2 = r1d0 at HSpec HImpl HBnd
  have qr1d0 : (r1d0 != r1d0) = false := by simp
  clear h0 f0
  have H0 : Hid (Below w.heap.size w w) := Lib.hid (Below.refl _ _)
  go_enter Try.func6, Try.ntmps6
  obtain ⟨W1, hW1⟩ : ∃ W1, W1 = (w.alloc (.cells #[.slice a0vA0 a0d0.length a0vc0, .slice a0vA1 a0d1.length a0vc1] 40)) := ⟨_, rfl⟩
  have hba : Below w.heap.size w W1 := by rw [hW1]; exact ((Below.refl _ _).alloc (Nat.le_refl _) _)
  have Z2 : Hid (W1.heap.size = w.heap.size + 1) := Lib.hid (by rw [hW1]; simp)
  have B3 : Hid (Box W1 (w.heap.size) 40 #[.slice a0vA0 a0d0.length a0vc0, .slice a0vA1 a0d1.length a0vc1]) := Lib.hid (by rw [hW1]; exact (Box.new w 40 #[.slice a0vA0 a0d0.length a0vc0, .slice a0vA1 a0d1.length a0vc1]))
  have H4 := Lib.hid (bt H0.out hba)
  have Z5 : Hid (w.heap.size ≤ W1.heap.size) := Lib.hid hba.size
  clear H0 hba
  have HW1 := Lib.hid hW1
  clear hW1
  go_wp2_with fail
  rw [← HW1.out]
  refine (HSz0.out _ H4.out _ (by omega) (by omega)).mono ?_
  rintro e w6 ⟨hres, hc⟩
  clear HW1
  have F7 := Lib.hid (B3.out.step hc)
  have H8 := Lib.hid (bt H4.out hc)
  have Z9 : Hid (W1.heap.size ≤ w6.heap.size) := Lib.hid hc.size
  clear B3 H4 hc
  clear HSz0
  rcases hres with rfl | ⟨rfl, hle0⟩
  · go_wp2
    go_ret
    exact ⟨rfl, H8.out⟩
  have z0 : szA [Lf.I a0d0, Lf.B a0d1] ≤ 1048576 := by omega
  generalize hu0 : szA [Lf.I a0d0, Lf.B a0d1] = u0 at hle0 ⊢
  clear hu0
  have hp0 : ¬ (1048576 : Int) - (u0 : Int) < 0 := by omega
  have HBd := Lib.hid (HBnd.out z0)
  clear HBnd
  have HBr0 : Hid (lenA [Lf.I r0d0, Lf.B r0d1] ≤ 4294967296) := Lib.hid (by have := HBd.out; simp only [lenA] at this ⊢; omega)
  have f0 : w6.cell? ⟨w.heap.size, 0, none⟩ = some (.slice a0vA0 a0d0.length a0vc0) := F7.out.cell 0 rfl
  have f1 : w6.cell? ⟨w.heap.size, 1, none⟩ = some (.slice a0vA1 a0d1.length a0vc1) := F7.out.cell 1 rfl
  go_wp2_with fail
  refine (HTo0.out _ H8.out z0).mono ?_
  rintro e w11 ⟨t10vA0, t10vA1, t10vc0, t10vc1, rfl, Nt10, Kt10, hc⟩
  clear f0 f1
  have F12 := Lib.hid (F7.out.step hc)
  have H13 := Lib.hid (bt H8.out hc)
  have Z14 : Hid (w6.heap.size ≤ w11.heap.size) := Lib.hid hc.size
  clear F7 H8 hc
  go_wp2_with fail
  refine (HSpec.out w11 t10vA0 t10vA1 t10vc0 t10vc1 Nt10.out.reads Kt10.out z0).mono ?_
  rintro e w15 ⟨w0vA0, w0vA1, w0vc0, w0vc1, rfl, Nw, hc⟩
  have F16 := Lib.hid (F12.out.step hc)
  have F17 := Lib.hid (Nt10.out.below hc)
  have H18 := Lib.hid (bt H13.out hc)
  have Z19 : Hid (w11.heap.size ≤ w15.heap.size) := Lib.hid hc.size
  clear F12 Nt10 H13 hc
  clear F17 Kt10
  clear HSpec
  obtain ⟨W20, hW20⟩ : ∃ W20, W20 = (w15.alloc (.cells #[.slice w0vA0 r0d0.length w0vc0, .slice w0vA1 r0d1.length w0vc1] 26)) := ⟨_, rfl⟩
  have hba : Below w15.heap.size w15 W20 := by rw [hW20]; exact ((Below.refl _ _).alloc (Nat.le_refl _) _)
  have Z21 : Hid (W20.heap.size = w15.heap.size + 1) := Lib.hid (by rw [hW20]; simp)
  have B22 : Hid (Box W20 (w15.heap.size) 26 #[.slice w0vA0 r0d0.length w0vc0, .slice w0vA1 r0d1.length w0vc1]) := Lib.hid (by rw [hW20]; exact (Box.new w15 26 #[.slice w0vA0 r0d0.length w0vc0, .slice w0vA1 r0d1.length w0vc1]))
  have F23 := Lib.hid (F16.out.step hba)
  have F24 := Lib.hid (Nw.out.below hba)
  have H25 := Lib.hid (bt H18.out hba)
  have Z26 : Hid (w15.heap.size ≤ W20.heap.size) := Lib.hid hba.size
  clear F16 Nw H18 hba
  have HW20 := Lib.hid hW20
  clear hW20
  have f0 : W20.cell? ⟨w.heap.size, 0, none⟩ = some (.slice a0vA0 a0d0.length a0vc0) := F23.out.cell 0 rfl
  have f1 : W20.cell? ⟨w.heap.size, 1, none⟩ = some (.slice a0vA1 a0d1.length a0vc1) := F23.out.cell 1 rfl
  rw [HW20.out] at f0 f1
  go_wp2_with fail
  rw [← HW20.out]
  refine (HTo0.out _ H25.out z0).mono ?_
  rintro e w27 ⟨x0vA0, x0vA1, x0vc0, x0vc1, rfl, Nx0, Kx0, hc⟩
  clear f0 f1 HW20
  have F28 := Lib.hid (F23.out.step hc)
  have F29 := Lib.hid (F24.out.below hc)
  have F30 := Lib.hid (B22.out.step hc)
  have H31 := Lib.hid (bt H25.out hc)
  have Z32 : Hid (W20.heap.size ≤ w27.heap.size) := Lib.hid hc.size
  clear F23 F24 B22 H25 hc
  obtain ⟨W33, hW33⟩ : ∃ W33, W33 = (w27.alloc (.cells #[.slice x0vA0 a0d0.length x0vc0, .slice x0vA1 a0d1.length x0vc1] 26)) := ⟨_, rfl⟩
  have hba : Below w27.heap.size w27 W33 := by rw [hW33]; exact ((Below.refl _ _).alloc (Nat.le_refl _) _)
  have Z34 : Hid (W33.heap.size = w27.heap.size + 1) := Lib.hid (by rw [hW33]; simp)
  have B35 : Hid (Box W33 (w27.heap.size) 26 #[.slice x0vA0 a0d0.length x0vc0, .slice x0vA1 a0d1.length x0vc1]) := Lib.hid (by rw [hW33]; exact (Box.new w27 26 #[.slice x0vA0 a0d0.length x0vc0, .slice x0vA1 a0d1.length x0vc1]))
  have F36 := Lib.hid (F28.out.step hba)
  have F37 := Lib.hid (F29.out.below hba)
  have F38 := Lib.hid (F30.out.step hba)
  have F39 := Lib.hid (Nx0.out.below hba)
  have H40 := Lib.hid (bt H31.out hba)
  have Z41 : Hid (w27.heap.size ≤ W33.heap.size) := Lib.hid hba.size
  clear F28 F29 F30 Nx0 H31 hba
  have HW33 := Lib.hid hW33
  clear hW33
  go_wp2_with fail
  rw [← HW33.out]
  refine (HImpl.out W33 x0vA0 x0vA1 x0vc0 x0vc1 F39.out.reads Kx0.out z0).mono ?_
  rintro e w42 ⟨g0vA0, g0vA1, g0vc0, g0vc1, rfl, Ng, hc⟩
  clear HW33
  have F43 := Lib.hid (F36.out.step hc)
  have F44 := Lib.hid (F37.out.below hc)
  have F45 := Lib.hid (F38.out.step hc)
  have F46 := Lib.hid (F39.out.below hc)
  have F47 := Lib.hid (B35.out.step hc)
  have H48 := Lib.hid (bt H40.out hc)
  have Z49 : Hid (W33.heap.size ≤ w42.heap.size) := Lib.hid hc.size
  clear F36 F37 F38 F39 B35 H40 hc
  obtain ⟨W50, hW50⟩ : ∃ W50, W50 = (w42.alloc (.cells #[.slice g0vA0 r0d0.length g0vc0, .slice g0vA1 r0d1.length g0vc1] 26)) := ⟨_, rfl⟩
  have hba : Below w42.heap.size w42 W50 := by rw [hW50]; exact ((Below.refl _ _).alloc (Nat.le_refl _) _)
  have Z51 : Hid (W50.heap.size = w42.heap.size + 1) := Lib.hid (by rw [hW50]; simp)
  have B52 : Hid (Box W50 (w42.heap.size) 26 #[.slice g0vA0 r0d0.length g0vc0, .slice g0vA1 r0d1.length g0vc1]) := Lib.hid (by rw [hW50]; exact (Box.new w42 26 #[.slice g0vA0 r0d0.length g0vc0, .slice g0vA1 r0d1.length g0vc1]))
  have F53 := Lib.hid (F43.out.step hba)
  have F54 := Lib.hid (F44.out.below hba)
  have F55 := Lib.hid (F45.out.step hba)
  have F56 := Lib.hid (F46.out.below hba)
  have F57 := Lib.hid (F47.out.step hba)
  have F58 := Lib.hid (Ng.out.below hba)
  have H59 := Lib.hid (bt H48.out hba)
  have Z60 : Hid (w42.heap.size ≤ W50.heap.size) := Lib.hid hba.size
  clear F43 F44 F45 F46 F47 Ng H48 hba
  have HW50 := Lib.hid hW50
  clear hW50
  have f0 : W50.cell? ⟨w15.heap.size, 0, none⟩ = some (.slice w0vA0 r0d0.length w0vc0) := F55.out.cell 0 rfl
  have f1 : W50.cell? ⟨w15.heap.size, 1, none⟩ = some (.slice w0vA1 r0d1.length w0vc1) := F55.out.cell 1 rfl
  rw [HW50.out] at f0 f1
  go_wp2_with fail
  rw [← HW50.out]
  refine (eqIrqA g0vA0 g0vA1 g0vc0 g0vc1 w0vA0 w0vA1 w0vc0 w0vc1 r0d0 r0d1 W50 F58.out.reads F54.out.reads (Nat.le_trans HBr0.out (by unfold maxLen; omega))).mono ?_
  rintro e w61 ⟨rfl, hc⟩
  clear f0 f1 HW50
  have F62 := Lib.hid (F53.out.step hc)
  have F63 := Lib.hid (F54.out.below hc)
  have F64 := Lib.hid (F55.out.step hc)
  have F65 := Lib.hid (F56.out.below hc)
  have F66 := Lib.hid (F57.out.step hc)
  have F67 := Lib.hid (F58.out.below hc)
  have F68 := Lib.hid (B52.out.step hc)
  have H69 := Lib.hid (bt H59.out hc)
  have Z70 : Hid (W50.heap.size ≤ w61.heap.size) := Lib.hid hc.size
  clear F53 F54 F55 F56 F57 F58 B52 H59 hc
  have f0 : w61.cell? ⟨w.heap.size, 0, none⟩ = some (.slice a0vA0 a0d0.length a0vc0) := F62.out.cell 0 rfl
  have f1 : w61.cell? ⟨w.heap.size, 1, none⟩ = some (.slice a0vA1 a0d1.length a0vc1) := F62.out.cell 1 rfl
  have f2 : w61.cell? ⟨w27.heap.size, 0, none⟩ = some (.slice x0vA0 a0d0.length x0vc0) := F66.out.cell 0 rfl
  have f3 : w61.cell? ⟨w27.heap.size, 1, none⟩ = some (.slice x0vA1 a0d1.length x0vc1) := F66.out.cell 1 rfl
  have HK := Lib.hid (fun W' (hb : Below w61.heap.size w61 W') => And.intro ((hb.cell (cell_lt f0)).trans f0) (And.intro ((hb.cell (cell_lt f1)).trans f1) (And.intro ((hb.cell (cell_lt f2)).trans f2) ((hb.cell (cell_lt f3)).trans f3))))
  have h6 : Below w61.heap.size w61 w61.drew := (Below.refl _ _).drew
  go_wp2
  go_region_held3 (fun W => W.cell? ⟨w.heap.size, 0, none⟩ = some (.slice a0vA0 a0d0.length a0vc0) ∧ W.cell? ⟨w.heap.size, 1, none⟩ = some (.slice a0vA1 a0d1.length a0vc1) ∧ W.cell? ⟨w27.heap.size, 0, none⟩ = some (.slice x0vA0 a0d0.length x0vc0) ∧ W.cell? ⟨w27.heap.size, 1, none⟩ = some (.slice x0vA1 a0d1.length x0vc1))
    (first | exact HK.out _ h6 | exact HK.out _ (bt h6 hba) | exact HK.out _ (bt (bt h6 hba) hbb))
    (first | (go_at_call 25; refine (HTo0.out _ H69.out.drew z0).mono ?_; rintro e w72 ⟨t71vA0, t71vA1, t71vc0, t71vc1, rfl, Nt71, Kt71, hba⟩) | (go_at_call 20; refine (eqIrqA x0vA0 x0vA1 x0vc0 x0vc1 t71vA0 t71vA1 t71vc0 t71vc1 a0d0 a0d1 w72 (F65.out.below (bt h6 hba)).reads Nt71.out.reads (Nat.le_trans (Nat.le_trans (szA_len _) z0) (by unfold maxLen; omega))).mono ?_; rintro e w73 ⟨rfl, hbb⟩))
  have hc : Below w61.heap.size w61 w73 := bt (bt h6 hba) hbb
  have F74 := Lib.hid (F62.out.step hc)
  have F75 := Lib.hid (F63.out.below hc)
  have F76 := Lib.hid (F64.out.step hc)
  have F77 := Lib.hid (F65.out.below hc)
  have F78 := Lib.hid (F66.out.step hc)
  have F79 := Lib.hid (F67.out.below hc)
  have F80 := Lib.hid (F68.out.step hc)
  have H81 := Lib.hid (bt H69.out hc)
  have Z82 : Hid (w61.heap.size ≤ w73.heap.size) := Lib.hid hc.size
  clear F62 F63 F64 F65 F66 F67 F68 H69 hc
  clear HK h6 hba hbb Nt71 Kt71 f0 f1 f2 f3
  have f0 : w73.cell? ⟨w27.heap.size, 0, none⟩ = some (.slice x0vA0 a0d0.length x0vc0) := F78.out.cell 0 rfl
  have f1 : w73.cell? ⟨w27.heap.size, 1, none⟩ = some (.slice x0vA1 a0d1.length x0vc1) := F78.out.cell 1 rfl
  go_wp2_with fail
  have hk0 : (1 : Nat) ≤ 1 := Nat.le_refl _
  have hlx : lenA [Lf.I a0d0, Lf.B a0d1] ≤ 1048576 := Nat.le_trans (szA_len _) z0
  have HM := Lib.hid (markIrqA x0vA0 x0vA1 x0vc0 x0vc1 a0d0 a0d1 1 W20.heap.size w27.heap.size w73 F77.out (by have := Z2.out; have := Z5.out; have := Z9.out; have := Z14.out; have := Z19.out; have := Z21.out; have := Z26.out; have := Z32.out; have := Z34.out; have := Z41.out; have := Z49.out; have := Z51.out; have := Z60.out; have := Z70.out; have := Z82.out; omega) (by omega) (BndA.of_len (by omega)) (by omega))
  clear hlx hk0
  refine HM.out.mono ?_
  rintro e w83 ⟨rfl, M1, U1⟩
  clear HM M1
  clear f0 f1
  have U2 := U1.btw F77.out
  have F84 := Lib.hid (F74.out.btw U2 (by have := Z2.out; have := Z5.out; have := Z9.out; have := Z14.out; have := Z19.out; have := Z21.out; have := Z26.out; have := Z32.out; have := Z34.out; have := Z41.out; have := Z49.out; have := Z51.out; have := Z60.out; have := Z70.out; have := Z82.out; omega))
  have F85 := Lib.hid (F75.out.btw U2 (by have := Z2.out; have := Z5.out; have := Z9.out; have := Z14.out; have := Z19.out; have := Z21.out; have := Z26.out; have := Z32.out; have := Z34.out; have := Z41.out; have := Z49.out; have := Z51.out; have := Z60.out; have := Z70.out; have := Z82.out; omega))
  have F86 := Lib.hid (F76.out.btw U2 (by have := Z2.out; have := Z5.out; have := Z9.out; have := Z14.out; have := Z19.out; have := Z21.out; have := Z26.out; have := Z32.out; have := Z34.out; have := Z41.out; have := Z49.out; have := Z51.out; have := Z60.out; have := Z70.out; have := Z82.out; omega))
  have F87 := Lib.hid (F78.out.btw U2 (by have := Z2.out; have := Z5.out; have := Z9.out; have := Z14.out; have := Z19.out; have := Z21.out; have := Z26.out; have := Z32.out; have := Z34.out; have := Z41.out; have := Z49.out; have := Z51.out; have := Z60.out; have := Z70.out; have := Z82.out; omega))
  have F88 := Lib.hid (F79.out.btw U2 (by have := Z2.out; have := Z5.out; have := Z9.out; have := Z14.out; have := Z19.out; have := Z21.out; have := Z26.out; have := Z32.out; have := Z34.out; have := Z41.out; have := Z49.out; have := Z51.out; have := Z60.out; have := Z70.out; have := Z82.out; omega))
  have F89 := Lib.hid (F80.out.btw U2 (by have := Z2.out; have := Z5.out; have := Z9.out; have := Z14.out; have := Z19.out; have := Z21.out; have := Z26.out; have := Z32.out; have := Z34.out; have := Z41.out; have := Z49.out; have := Z51.out; have := Z60.out; have := Z70.out; have := Z82.out; omega))
  have H90 := Lib.hid (H81.out.trans ((U2.below (by have := Z2.out; have := Z5.out; have := Z9.out; have := Z14.out; have := Z19.out; have := Z21.out; have := Z26.out; have := Z32.out; have := Z34.out; have := Z41.out; have := Z49.out; have := Z51.out; have := Z60.out; have := Z70.out; have := Z82.out; omega)).mono (by have := Z2.out; have := Z5.out; have := Z9.out; have := Z14.out; have := Z19.out; have := Z21.out; have := Z26.out; have := Z32.out; have := Z34.out; have := Z41.out; have := Z49.out; have := Z51.out; have := Z60.out; have := Z70.out; have := Z82.out; omega)))
  have Z91 : Hid (w73.heap.size ≤ w83.heap.size) := Lib.hid U2.size
  clear F74 F75 F76 F78 F79 F80 H81
  clear U1 U2 F77
  generalize hk : 1 + lenA [Lf.I a0d0, Lf.B a0d1] = k92
  have hkk92 : 1 ≤ k92 ∧ k92 ≤ 1 + 1048576 := by have := Nat.le_trans (szA_len _) z0; simp only [lenA] at this hk; omega
  clear hk
  have hnk92 : ¬ (k92 : Int) < 0 := by omega
  have f0 : w83.cell? ⟨w42.heap.size, 0, none⟩ = some (.slice g0vA0 r0d0.length g0vc0) := F89.out.cell 0 rfl
  have f1 : w83.cell? ⟨w42.heap.size, 1, none⟩ = some (.slice g0vA1 r0d1.length g0vc1) := F89.out.cell 1 rfl
  have f2 : w83.cell? ⟨w15.heap.size, 0, none⟩ = some (.slice w0vA0 r0d0.length w0vc0) := F86.out.cell 0 rfl
  have f3 : w83.cell? ⟨w15.heap.size, 1, none⟩ = some (.slice w0vA1 r0d1.length w0vc1) := F86.out.cell 1 rfl
  go_wp2_with fail
  refine (eqIrqA g0vA0 g0vA1 g0vc0 g0vc1 w0vA0 w0vA1 w0vc0 w0vc1 r0d0 r0d1 w83 F88.out.reads F85.out.reads (Nat.le_trans HBr0.out (by unfold maxLen; omega))).mono ?_
  rintro e w93 ⟨rfl, hc⟩
  clear f0 f1 f2 f3
  have F94 := Lib.hid (F84.out.step hc)
  have F95 := Lib.hid (F85.out.below hc)
  have F96 := Lib.hid (F86.out.step hc)
  have F97 := Lib.hid (F87.out.step hc)
  have F98 := Lib.hid (F88.out.below hc)
  have F99 := Lib.hid (F89.out.step hc)
  have H100 := Lib.hid (bt H90.out hc)
  have Z101 : Hid (w83.heap.size ≤ w93.heap.size) := Lib.hid hc.size
  clear F84 F85 F86 F87 F88 F89 H90 hc
  have f0 : w93.cell? ⟨w42.heap.size, 0, none⟩ = some (.slice g0vA0 r0d0.length g0vc0) := F99.out.cell 0 rfl
  have f1 : w93.cell? ⟨w42.heap.size, 1, none⟩ = some (.slice g0vA1 r0d1.length g0vc1) := F99.out.cell 1 rfl
  go_wp2_with fail
  have HM := Lib.hid (markIrqA g0vA0 g0vA1 g0vc0 g0vc1 r0d0 r0d1 (1) W33.heap.size w42.heap.size w93 F98.out (by have := Z2.out; have := Z5.out; have := Z9.out; have := Z14.out; have := Z19.out; have := Z21.out; have := Z26.out; have := Z32.out; have := Z34.out; have := Z41.out; have := Z49.out; have := Z51.out; have := Z60.out; have := Z70.out; have := Z82.out; have := Z91.out; have := Z101.out; omega) (by omega) (BndA.of_len HBr0.out) (by have := HBr0.out; omega))
  refine HM.out.mono ?_
  rintro e w102 ⟨rfl, M1, U1⟩
  clear HM
  clear f0 f1
  have U2 := U1.btw F98.out
  have N103 := Lib.hid M1.out
  have F104 := Lib.hid (F94.out.btw U2 (by have := Z2.out; have := Z5.out; have := Z9.out; have := Z14.out; have := Z19.out; have := Z21.out; have := Z26.out; have := Z32.out; have := Z34.out; have := Z41.out; have := Z49.out; have := Z51.out; have := Z60.out; have := Z70.out; have := Z82.out; have := Z91.out; have := Z101.out; omega))
  have F105 := Lib.hid (F95.out.btw U2 (by have := Z2.out; have := Z5.out; have := Z9.out; have := Z14.out; have := Z19.out; have := Z21.out; have := Z26.out; have := Z32.out; have := Z34.out; have := Z41.out; have := Z49.out; have := Z51.out; have := Z60.out; have := Z70.out; have := Z82.out; have := Z91.out; have := Z101.out; omega))
  have F106 := Lib.hid (F96.out.btw U2 (by have := Z2.out; have := Z5.out; have := Z9.out; have := Z14.out; have := Z19.out; have := Z21.out; have := Z26.out; have := Z32.out; have := Z34.out; have := Z41.out; have := Z49.out; have := Z51.out; have := Z60.out; have := Z70.out; have := Z82.out; have := Z91.out; have := Z101.out; omega))
  have F107 := Lib.hid (F97.out.btw U2 (by have := Z2.out; have := Z5.out; have := Z9.out; have := Z14.out; have := Z19.out; have := Z21.out; have := Z26.out; have := Z32.out; have := Z34.out; have := Z41.out; have := Z49.out; have := Z51.out; have := Z60.out; have := Z70.out; have := Z82.out; have := Z91.out; have := Z101.out; omega))
  have F108 := Lib.hid (F99.out.btw U2 (by have := Z2.out; have := Z5.out; have := Z9.out; have := Z14.out; have := Z19.out; have := Z21.out; have := Z26.out; have := Z32.out; have := Z34.out; have := Z41.out; have := Z49.out; have := Z51.out; have := Z60.out; have := Z70.out; have := Z82.out; have := Z91.out; have := Z101.out; omega))
  have H109 := Lib.hid (H100.out.trans ((U2.below (by have := Z2.out; have := Z5.out; have := Z9.out; have := Z14.out; have := Z19.out; have := Z21.out; have := Z26.out; have := Z32.out; have := Z34.out; have := Z41.out; have := Z49.out; have := Z51.out; have := Z60.out; have := Z70.out; have := Z82.out; have := Z91.out; have := Z101.out; omega)).mono (by have := Z2.out; have := Z5.out; have := Z9.out; have := Z14.out; have := Z19.out; have := Z21.out; have := Z26.out; have := Z32.out; have := Z34.out; have := Z41.out; have := Z49.out; have := Z51.out; have := Z60.out; have := Z70.out; have := Z82.out; have := Z91.out; have := Z101.out; omega)))
  have Z110 : Hid (w93.heap.size ≤ w102.heap.size) := Lib.hid U2.size
  clear F94 F95 F96 F97 F99 H100
  clear U1 U2 M1 F98
  have hm0 : (((1 + lenA [Lf.I r0d0, Lf.B r0d1] : Nat) : Int) != ((1 + lenA [Lf.I r0d0, Lf.B r0d1] : Nat) : Int)) = false := by simp
  have f0 : w102.cell? ⟨w42.heap.size, 0, none⟩ = some (.slice g0vA0 r0d0.length g0vc0) := F108.out.cell 0 rfl
  have f1 : w102.cell? ⟨w42.heap.size, 1, none⟩ = some (.slice g0vA1 r0d1.length g0vc1) := F108.out.cell 1 rfl
  go_wp2_with fail
  refine (heldIrqA g0vA0 g0vA1 g0vc0 g0vc1 r0d0 r0d1 (1) w102 N103.out.reads (by omega) (BndA.of_len HBr0.out) (by have := HBr0.out; omega)).mono ?_
  rintro e w111 ⟨rfl, hc⟩
  clear f0 f1
  have F112 := Lib.hid (F104.out.step hc)
  have F113 := Lib.hid (F105.out.below hc)
  have F114 := Lib.hid (F106.out.step hc)
  have F115 := Lib.hid (F107.out.step hc)
  have F116 := Lib.hid (N103.out.below hc)
  have F117 := Lib.hid (F108.out.step hc)
  have H118 := Lib.hid (bt H109.out hc)
  have Z119 : Hid (w102.heap.size ≤ w111.heap.size) := Lib.hid hc.size
  clear F104 F105 F106 F107 N103 F108 H109 hc
  have hqw111 : ¬ ((1 + lenA [Lf.I r0d0, Lf.B r0d1] : Nat) : Int) < 0 := by omega
  have f0 : w111.cell? ⟨w.heap.size, 0, none⟩ = some (.slice a0vA0 a0d0.length a0vc0) := F112.out.cell 0 rfl
  have f1 : w111.cell? ⟨w.heap.size, 1, none⟩ = some (.slice a0vA1 a0d1.length a0vc1) := F112.out.cell 1 rfl
  go_wp2_with fail
  refine (HTo0.out _ H118.out z0).mono ?_
  rintro e w121 ⟨t120vA0, t120vA1, t120vc0, t120vc1, rfl, Nt120, Kt120, hc⟩
  clear f0 f1
  have F122 := Lib.hid (F112.out.step hc)
  have F123 := Lib.hid (F113.out.below hc)
  have F124 := Lib.hid (F114.out.step hc)
  have F125 := Lib.hid (F115.out.step hc)
  have F126 := Lib.hid (F116.out.below hc)
  have F127 := Lib.hid (F117.out.step hc)
  have H128 := Lib.hid (bt H118.out hc)
  have Z129 : Hid (w111.heap.size ≤ w121.heap.size) := Lib.hid hc.size
  clear F112 F113 F114 F115 F116 F117 H118 hc
  go_wp2_with fail
  refine (HImpl.out w121 t120vA0 t120vA1 t120vc0 t120vc1 Nt120.out.reads Kt120.out z0).mono ?_
  rintro e w130 ⟨h0vA0, h0vA1, h0vc0, h0vc1, rfl, Nh, hc⟩
  have F131 := Lib.hid (F122.out.step hc)
  have F132 := Lib.hid (F123.out.below hc)
  have F133 := Lib.hid (F124.out.step hc)
  have F134 := Lib.hid (F125.out.step hc)
  have F135 := Lib.hid (F126.out.below hc)
  have F136 := Lib.hid (F127.out.step hc)
  have F137 := Lib.hid (Nt120.out.below hc)
  have H138 := Lib.hid (bt H128.out hc)
  have Z139 : Hid (w121.heap.size ≤ w130.heap.size) := Lib.hid hc.size
  clear F122 F123 F124 F125 F126 F127 Nt120 H128 hc
  clear F137 Kt120
  obtain ⟨W140, hW140⟩ : ∃ W140, W140 = (w130.alloc (.cells #[.slice h0vA0 r0d0.length h0vc0, .slice h0vA1 r0d1.length h0vc1] 26)) := ⟨_, rfl⟩
  have hba : Below w130.heap.size w130 W140 := by rw [hW140]; exact ((Below.refl _ _).alloc (Nat.le_refl _) _)
  have Z141 : Hid (W140.heap.size = w130.heap.size + 1) := Lib.hid (by rw [hW140]; simp)
  have B142 : Hid (Box W140 (w130.heap.size) 26 #[.slice h0vA0 r0d0.length h0vc0, .slice h0vA1 r0d1.length h0vc1]) := Lib.hid (by rw [hW140]; exact (Box.new w130 26 #[.slice h0vA0 r0d0.length h0vc0, .slice h0vA1 r0d1.length h0vc1]))
  have F143 := Lib.hid (F131.out.step hba)
  have F144 := Lib.hid (F132.out.below hba)
  have F145 := Lib.hid (F133.out.step hba)
  have F146 := Lib.hid (F134.out.step hba)
  have F147 := Lib.hid (F135.out.below hba)
  have F148 := Lib.hid (F136.out.step hba)
  have F149 := Lib.hid (Nh.out.below hba)
  have H150 := Lib.hid (bt H138.out hba)
  have Z151 : Hid (w130.heap.size ≤ W140.heap.size) := Lib.hid hba.size
  clear F131 F132 F133 F134 F135 F136 Nh H138 hba
  have HW140 := Lib.hid hW140
  clear hW140
  have f0 : W140.cell? ⟨w15.heap.size, 0, none⟩ = some (.slice w0vA0 r0d0.length w0vc0) := F145.out.cell 0 rfl
  have f1 : W140.cell? ⟨w15.heap.size, 1, none⟩ = some (.slice w0vA1 r0d1.length w0vc1) := F145.out.cell 1 rfl
  rw [HW140.out] at f0 f1
  go_wp2_with fail
  rw [← HW140.out]
  refine (eqIrqA h0vA0 h0vA1 h0vc0 h0vc1 w0vA0 w0vA1 w0vc0 w0vc1 r0d0 r0d1 W140 F149.out.reads F144.out.reads (Nat.le_trans HBr0.out (by unfold maxLen; omega))).mono ?_
  rintro e w152 ⟨rfl, hc⟩
  clear f0 f1 HW140
  have F153 := Lib.hid (F143.out.step hc)
  have F154 := Lib.hid (F144.out.below hc)
  have F155 := Lib.hid (F145.out.step hc)
  have F156 := Lib.hid (F146.out.step hc)
  have F157 := Lib.hid (F147.out.below hc)
  have F158 := Lib.hid (F148.out.step hc)
  have F159 := Lib.hid (F149.out.below hc)
  have F160 := Lib.hid (B142.out.step hc)
  have H161 := Lib.hid (bt H150.out hc)
  have Z162 : Hid (W140.heap.size ≤ w152.heap.size) := Lib.hid hc.size
  clear F143 F144 F145 F146 F147 F148 F149 B142 H150 hc
  have f0 : w152.cell? ⟨w42.heap.size, 0, none⟩ = some (.slice g0vA0 r0d0.length g0vc0) := F158.out.cell 0 rfl
  have f1 : w152.cell? ⟨w42.heap.size, 1, none⟩ = some (.slice g0vA1 r0d1.length g0vc1) := F158.out.cell 1 rfl
  go_wp2_with fail
  refine (heldIrqA g0vA0 g0vA1 g0vc0 g0vc1 r0d0 r0d1 (1) w152 F157.out.reads (by omega) (BndA.of_len HBr0.out) (by have := HBr0.out; omega)).mono ?_
  rintro e w163 ⟨rfl, hc⟩
  clear f0 f1
  have F164 := Lib.hid (F153.out.step hc)
  have F165 := Lib.hid (F154.out.below hc)
  have F166 := Lib.hid (F155.out.step hc)
  have F167 := Lib.hid (F156.out.step hc)
  have F168 := Lib.hid (F157.out.below hc)
  have F169 := Lib.hid (F158.out.step hc)
  have F170 := Lib.hid (F159.out.below hc)
  have F171 := Lib.hid (F160.out.step hc)
  have H172 := Lib.hid (bt H161.out hc)
  have Z173 : Hid (w152.heap.size ≤ w163.heap.size) := Lib.hid hc.size
  clear F153 F154 F155 F156 F157 F158 F159 F160 H161 hc
  have hqw163 : ¬ ((1 + lenA [Lf.I r0d0, Lf.B r0d1] : Nat) : Int) < 0 := by omega
  go_wp2
  go_ret
  exact ⟨rfl, H172.out⟩

/-! The row's step. -/
open Go.ChangeShapes Go.WideShapes Go.ChangeAt
open Go.ChangeMaps (open_string shut_string)
set_option maxRecDepth 100000 in
theorem own : ownKnob Try.prog.godebug = none := by kernel_rfl
set_option maxRecDepth 100000 in
theorem laidOut : laidOutB Try.prog = true := factLaid
set_option maxRecDepth 100000 in
theorem lifted (os : Os) (started : os.Started) (H : Type) (enc : TypeId × Value → H) :
    ReturnsInHanded {} Try.checked os 6 .any (Rows.fnExactSetLevelSpec.pre6 enc Try.prog Try.f6 Rows.fnExactSetLevelRow.domain false) (Rows.fnExactSetLevelSpec.post enc Try.prog Try.f6 false true false false) := by
  refine returnsInHanded_of_change (C := Try.checked) own started (by kernel_rfl) Try.func6
    (ChangeSpec.witness6 (enc := enc) (C := Try.checked) false ⟨#[], #[.agg #[.slice none 0 0, .slice none 0 0], .int .i64 0, .int .i64 0], []⟩ 8 (by kernel_rfl) (by kernel_rfl) (by kernel_rfl) (by kernel_rfl)) ?_
  intro W base args ds gs before hval0 hW hcnd _
  have hval : ∀ (j : Nat) t v, Try.f6.params[j]? = some t → args[j]? = some v → Value.okWide Try.prog W .any base t v := hval0
  have hW' := hW
  obtain ⟨p, q, hA0, hV, rfl, hfz, hnd⟩ := hW
  have hA : DataW.TrodAll enc Try.prog W 0 (fun _ => true) true Try.f6.params.toList args.toList ds p := hA0
  rw [Try.params6] at hA hval
  obtain ⟨v0, vs0, d0, ds0, p0, q0, hargs, rfl, rfl, h0, r0⟩ := trodAll_cons hA
  obtain ⟨v1, vs1, d1, ds1, p1, q1, rfl, rfl, rfl, h1, r1⟩ := trodAll_cons r0
  obtain ⟨v2, vs2, d2, ds2, p2, q2, rfl, rfl, rfl, h2, r2⟩ := trodAll_cons r1
  obtain ⟨rfl, rfl, rfl⟩ := trodAll_nil r2
  obtain rfl : args = #[v0, v1, v2] := by cases args; simp_all
  obtain ⟨rfl, rfl⟩ := trodVars_none hV
  have k0 := h0
  have lt0 : ∀ x ∈ p0, x.block < W.heap.size := by obtain ⟨m, hm⟩ := k0; exact DataW.trod_lt m _ _ _ hm
  obtain ⟨a0vA0, a0vA1, a0vc0, a0vc1, a0d0, a0d1, rfl, R0, G0⟩ := openIrq (hval 0 40 v0 rfl rfl) h0
  obtain ⟨a1, rfl, rfl, rfl, w1⟩ := open_int Try.underlying3 (hval 1 3 v1 rfl rfl) h1
  obtain ⟨a2, rfl, rfl, rfl, w2⟩ := open_int Try.underlying3 (hval 2 3 v2 rfl rfl) h2
  clear hA0 hval0
  refine (walk a0vA0 a0vA1 a0vc0 a0vc1 a0d0 a0d1 a1 a2 W R0 G0).mono fun e W' ⟨he, bel⟩ => ?_
  subst he
  exact ⟨_, rfl, _, _, _, [], _, [], hW', trodAll_mk1 (shut_bool Try.underlying4 _), (trodAll_cons_mk (Below.trod laidOut (by kernel_rfl) (of_decide_eq_true (by kernel_rfl)) k0 bel lt0) (trodAll_cons_mk (shut_int Try.underlying3 w1) (trodAll_cons_mk (shut_int Try.underlying3 w2) trodAll_mk0))), rfl, bel.frame _, fun h => by cases h⟩

theorem k0 : (Rows.fnExactSetLevelRow.wf (OpenSpec.ofChange Rows.fnExactSetLevelSpec)) = true := by kernel_rfl
set_option maxRecDepth 100000 in
theorem k3 : (Try.f6.params.all (Try.prog.readableRec ·)) = true := by kernel_rfl
set_option maxRecDepth 100000 in
theorem k4 : (namedTie Try.prog Rows.fnExactSetLevelRow.named Rows.fnExactSetLevelSpec.vars) = true := by kernel_rfl
theorem k5 : ((Rows.fnExactSetLevelRow.stops == [])) = true := by kernel_rfl
set_option maxRecDepth 100000 in
theorem k6 : ((Try.prog.stops == [])) = true := by kernel_rfl
theorem k7 : ((Rows.fnExactSetLevelRow.knobs == [])) = true := by kernel_rfl
set_option maxRecDepth 100000 in
theorem k8 : ((Try.prog.stopKnobs == [])) = true := by kernel_rfl
set_option maxRecDepth 100000 in
theorem k9 : ((Rows.fnExactSetLevelRow.inPlace == Try.prog.inPlace 6)) = true := by kernel_rfl
set_option maxRecDepth 100000 in
theorem k10 : ((Rows.fnExactSetLevelRow.unfollowed == Try.prog.unfollowed 6)) = true := by kernel_rfl
set_option maxRecDepth 100000 in
theorem k11 : ((Rows.fnExactSetLevelRow.recurses == Try.prog.recurses 6)) = true := by kernel_rfl
set_option maxRecDepth 100000 in
theorem k12 : ((Rows.fnExactSetLevelRow.named == Try.prog.varsNamed 6)) = true := by kernel_rfl
set_option maxRecDepth 100000 in
theorem k13 : ((Rows.fnExactSetLevelRow.maps == (Try.f6.params.toList ++ Rows.fnExactSetLevelSpec.plain.varTypes Try.prog).any (Try.prog.mapsRec ·))) = true := by kernel_rfl
set_option maxRecDepth 100000 in
theorem k14 : ((Rows.fnExactSetLevelRow.ifaces == (Try.f6.params.toList ++ Rows.fnExactSetLevelSpec.plain.varTypes Try.prog).any (Try.prog.ifacesRec ·))) = true := by kernel_rfl
set_option maxRecDepth 100000 in
theorem k15 : ((Rows.fnExactSetLevelRow.mapsOut == Try.prog.mapsAmong Try.f6.resultTypes.toList)) = true := by kernel_rfl
set_option maxRecDepth 100000 in
theorem k16 : ((Rows.fnExactSetLevelRow.loops == (Try.f6.params.toList ++ Rows.fnExactSetLevelSpec.plain.varTypes Try.prog).any (Try.prog.loopsFrom ·))) = true := by kernel_rfl
set_option maxRecDepth 100000 in
theorem k17 : ((Rows.fnExactSetLevelRow.wideKeys == (Try.f6.params.toList ++ Rows.fnExactSetLevelSpec.plain.varTypes Try.prog ++ Try.f6.resultTypes.toList).any (Try.prog.wideKeysFrom ·))) = true := by kernel_rfl
set_option maxRecDepth 100000 in
theorem k18 : (Rows.fnExactSetLevelSpec.vars.all (Try.prog.varReadable ·)) = true := by kernel_rfl
set_option maxRecDepth 100000 in
theorem k19 : (Try.f6.resultTypes.all (fun t => Try.prog.readableRec t && decide (t < Try.prog.types.size))) = true := by kernel_rfl
set_option maxRecDepth 100000 in
theorem k20 : ((Rows.fnExactSetLevelRow.ifacesOut == Try.f6.resultTypes.toList.any (Try.prog.ifacesRec ·))) = true := by kernel_rfl
set_option maxRecDepth 100000 in
theorem k21 : ((Rows.fnExactSetLevelRow.loopsOut == Try.f6.resultTypes.toList.any (Try.prog.loopsFrom ·))) = true := by kernel_rfl
set_option maxRecDepth 100000 in
theorem k22 : ((Rows.fnExactSetLevelRow.plainKeys == Try.prog.plainKeys)) = true := by kernel_rfl
theorem k23 : (Rows.fnExactSetLevelRow.shortTexts.isNone) = true := by kernel_rfl
set_option maxRecDepth 100000 in
theorem k28 : ((Rows.fnExactSetLevelRow.kinds == (if Rows.fnExactSetLevelRow.domain.isEmpty then [] else Try.f6.params.toList.map fun t => match Try.prog.underlying t with | some (.int k) => some k | _ => none))) = true := by kernel_rfl
theorem k29 : ((Rows.fnExactSetLevelRow.pinned == Rows.fnExactSetLevelRow.pinnedBy)) = true := by kernel_rfl
set_option maxRecDepth 100000 in
theorem k30 : ((Rows.fnExactSetLevelRow.veiled == (Try.f6.params.toList ++ Rows.fnExactSetLevelSpec.plain.varTypes Try.prog ++ Try.f6.resultTypes.toList).any (Try.prog.veiledRec ·))) = true := by kernel_rfl
set_option maxRecDepth 100000 in
theorem k31 : (Rows.fnExactSetLevelRow.veiledFits Try.prog Try.f6.params.toList (Try.f6.params.toList ++ Rows.fnExactSetLevelSpec.plain.varTypes Try.prog ++ Try.f6.resultTypes.toList)) = true := by kernel_rfl
set_option maxRecDepth 100000 in
theorem facts : joinedFacts Try.prog 6 Try.f6 Rows.fnExactSetLevelSpec Rows.fnExactSetLevelRow = true := (and_mk (and_mk (and_mk (and_mk (and_mk (and_mk (and_mk (and_mk (and_mk (and_mk (and_mk (and_mk (and_mk (and_mk (and_mk (and_mk (and_mk (and_mk (and_mk (and_mk (and_mk (and_mk (and_mk (and_mk (and_mk (and_mk (and_mk (and_mk (and_mk (and_mk (and_mk k0 factLaid) factRowed) k3) k4) k5) k6) k7) k8) k9) k10) k11) k12) k13) k14) k15) k16) k17) k18) k19) k20) k21) k22) k23) factHeard) factEnter) factLift) factMake) k28) k29) k30) k31)
set_option maxRecDepth 100000 in
theorem named : Try.prog.funcNamed Rows.fnExactSetLevelRow.func = some 6 := by kernel_rfl
set_option maxRecDepth 100000 in
theorem inst : Try.f6.isInstance Try.prog Rows.fnExactSetLevelRow.origin Rows.fnExactSetLevelRow.targs := of_decide_eq_true (by kernel_rfl)
set_option maxRecDepth 100000 in
theorem over : Rows.fnExactSetLevelRow.holds Try.pinned (OpenSpec.ofChange Rows.fnExactSetLevelSpec) :=
  OpenClaim.holds_of_wide 6 Try.f6 rfl rfl rfl rfl rfl rfl rfl ⟨rfl, rfl, rfl, rfl, rfl⟩ rfl rfl rfl rfl rfl named Try.func6 facts
    inst (by unfold Func.isWrapper; first | (rw [if_pos (by decide +kernel)]; kernel_rfl) | (rw [if_neg (by decide +kernel)]; exact ⟨rfl, rfl⟩))
    (fun os started H enc _ => lifted os started H enc)
theorem proved : Rows.FnExactSetLevelSaid := over
#print axioms proved
end Go.Proofs.Ytamfapmkdojhcaa.fnExactSetLevel
