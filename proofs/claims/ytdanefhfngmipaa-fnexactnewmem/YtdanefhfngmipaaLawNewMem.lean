/- For every []int, laws.FnExactNewMem returns true: impl.NewMem answers as the model spec.NewMem, every field, leaves its arguments alone, and its result is memory of its own. No condition. -/
import Derived.Test.YtdanefhfngmipaaM6
import Derived.Test.YtdanefhfngmipaaM7
import Derived.Test.YtdanefhfngmipaaFactA
import Derived.Test.YtdanefhfngmipaaFactB
import Derived.Test.YtdanefhfngmipaaFactC
import Derived.Test.YtdanefhfngmipaaFactD
import Derived.Deep.RegionHeld3
import Derived.ProofKit
import Derived.OpenShut
import Derived.ShutString
import Derived.ChangeOld
namespace Go.Proofs.Ytdanefhfngmipaa.fnExactNewMem
open Go.RowKit

set_option maxRecDepth 100000 in
set_option maxHeartbeats 16000000 in
theorem walk (a0vA0 : Option Addr) (a0vc0 : Nat) (a0d0 : List Int) (w : World) (h0 : RepA w [.slice a0vA0 a0d0.length a0vc0] [Lf.I a0d0]) (f0 : FitA [Lf.I a0d0]) :
    Calls Try.prog 6 #[.slice a0vA0 a0d0.length a0vc0] w fun e w' => e = .returned (.bool true) ∧ Below w.heap.size w w' := by
  have HSz0 := Lib.hid (fun W (hb : Below w.heap.size w W) l g0 g1 => szLI (.slice a0vA0 a0d0.length a0vc0) a0d0 l W (h0.below hb).1 (f0 _ (by simp)) g0 g1)
  have HTo0 := Lib.hid (fun W (hb : Below w.heap.size w W) (z : szA [Lf.I a0d0] ≤ 1048576) => toLI (.slice a0vA0 a0d0.length a0vc0) a0d0 W (h0.below hb).1 (by have q := Nat.le_trans (szA_len _) z; simp only [lenA, Lf.len] at q; omega))
  have HSpec := Lib.hid (fun W (q0vA0 : Option Addr) (q0vc0 : Nat) (h0 : RepA W [.slice q0vA0 a0d0.length q0vc0] [Lf.I a0d0]) (c0 : CapA [.slice q0vA0 a0d0.length q0vc0]) (z0 : szA [Lf.I a0d0] ≤ 1048576) => specNewMemA q0vA0 q0vc0 a0d0 W h0 c0 z0)
  have HImpl := Lib.hid (fun W (q0vA0 : Option Addr) (q0vc0 : Nat) (h0 : RepA W [.slice q0vA0 a0d0.length q0vc0] [Lf.I a0d0]) (c0 : CapA [.slice q0vA0 a0d0.length q0vc0]) (z0 : szA [Lf.I a0d0] ≤ 1048576) => implNewMemA q0vA0 q0vc0 a0d0 W h0 c0 z0)
  have HBnd := Lib.hid (fun (z0 : szA [Lf.I a0d0] ≤ 1048576) => (show lenA [Lf.I ((newF a0d0).1), Lf.I ((newF a0d0).2.1), Lf.I ((newF a0d0).2.2.1), Lf.B ((newF a0d0).2.2.2.1)] ≤ 4294967296 from newF_bnd _))
  generalize (newF a0d0).1 = r0d0 at HSpec HImpl HBnd
  generalize (newF a0d0).2.1 = r0d1 at HSpec HImpl HBnd
  generalize (newF a0d0).2.2.1 = r0d2 at HSpec HImpl HBnd
  generalize (newF a0d0).2.2.2.1 = r0d3 at HSpec HImpl HBnd
  generalize (newF a0d0).2.2.2.2.1 = r0d4 at HSpec HImpl HBnd
  generalize (newF a0d0).2.2.2.2.2 = r1d0 at HSpec HImpl HBnd
  have qr1d0 : (r1d0 != r1d0) = false := by simp
  clear h0 f0
  by_cases hlen0 : 1048576 < a0d0.length
  · have hq0 : (1048576 : Int) < (a0d0.length : Int) := by omega
    clear hlen0
    go_enter Try.func6, Try.ntmps6
    go_wp2
    go_ret
    exact ⟨rfl, (Below.refl _ _)⟩
  have hq0 : ¬ (1048576 : Int) < (a0d0.length : Int) := by omega
  have z0 : szA [Lf.I a0d0] ≤ 1048576 := by simp only [szA, Lf.sz]; omega
  clear hlen0
  clear HSz0
  have H0 : Hid (Below w.heap.size w w) := Lib.hid (Below.refl _ _)
  go_enter Try.func6, Try.ntmps6
  have HBd := Lib.hid (HBnd.out z0)
  clear HBnd
  have HBr0 : Hid (lenA [Lf.I r0d0, Lf.I r0d1, Lf.I r0d2, Lf.B r0d3] ≤ 4294967296) := Lib.hid (by have := HBd.out; simp only [lenA] at this ⊢; omega)
  go_wp2_with fail
  refine (HTo0.out _ H0.out z0).mono ?_
  rintro e w2 ⟨t1vA0, t1vc0, rfl, Nt1, Kt1, hc⟩
  have H3 := Lib.hid (bt H0.out hc)
  have Z4 : Hid (w.heap.size ≤ w2.heap.size) := Lib.hid hc.size
  clear H0 hc
  have Ot1 := Lib.hid (OwnA.one Nt1.out)
  clear Nt1
  have Kt1 := Lib.hid (CapA.cons Kt1.out CapA.nil)
  go_wp2_with fail
  refine (HSpec.out w2 t1vA0 t1vc0 Ot1.out.reads Kt1.out z0).mono ?_
  rintro e w5 ⟨w0vA0, w0vA1, w0vA2, w0vA3, w0vc0, w0vc1, w0vc2, w0vc3, rfl, Nw, hc⟩
  have F6 := Lib.hid (Ot1.out.below hc)
  have H7 := Lib.hid (bt H3.out hc)
  have Z8 : Hid (w2.heap.size ≤ w5.heap.size) := Lib.hid hc.size
  clear Ot1 H3 hc
  clear F6 Kt1
  clear HSpec
  obtain ⟨W9, hW9⟩ : ∃ W9, W9 = (w5.alloc (.cells #[.slice w0vA0 r0d0.length w0vc0, .slice w0vA1 r0d1.length w0vc1, .slice w0vA2 r0d2.length w0vc2, .slice w0vA3 r0d3.length w0vc3, .int .i64 r0d4] 28)) := ⟨_, rfl⟩
  have hba : Below w5.heap.size w5 W9 := by rw [hW9]; exact ((Below.refl _ _).alloc (Nat.le_refl _) _)
  have Z10 : Hid (W9.heap.size = w5.heap.size + 1) := Lib.hid (by rw [hW9]; simp)
  have B11 : Hid (Box W9 (w5.heap.size) 28 #[.slice w0vA0 r0d0.length w0vc0, .slice w0vA1 r0d1.length w0vc1, .slice w0vA2 r0d2.length w0vc2, .slice w0vA3 r0d3.length w0vc3, .int .i64 r0d4]) := Lib.hid (by rw [hW9]; exact (Box.new w5 28 #[.slice w0vA0 r0d0.length w0vc0, .slice w0vA1 r0d1.length w0vc1, .slice w0vA2 r0d2.length w0vc2, .slice w0vA3 r0d3.length w0vc3, .int .i64 r0d4]))
  have F12 := Lib.hid (Nw.out.below hba)
  have H13 := Lib.hid (bt H7.out hba)
  have Z14 : Hid (w5.heap.size ≤ W9.heap.size) := Lib.hid hba.size
  clear Nw H7 hba
  have HW9 := Lib.hid hW9
  clear hW9
  go_wp2_with fail
  rw [← HW9.out]
  refine (HTo0.out _ H13.out z0).mono ?_
  rintro e w15 ⟨x0vA0, x0vc0, rfl, Nx0, Kx0, hc⟩
  clear HW9
  have F16 := Lib.hid (F12.out.below hc)
  have F17 := Lib.hid (B11.out.step hc)
  have H18 := Lib.hid (bt H13.out hc)
  have Z19 : Hid (W9.heap.size ≤ w15.heap.size) := Lib.hid hc.size
  clear F12 B11 H13 hc
  have Ox0 := Lib.hid (OwnA.one Nx0.out)
  clear Nx0
  have Kx0 := Lib.hid (CapA.cons Kx0.out CapA.nil)
  go_wp2_with fail
  refine (HImpl.out w15 x0vA0 x0vc0 Ox0.out.reads Kx0.out z0).mono ?_
  rintro e w20 ⟨g0vA0, g0vA1, g0vA2, g0vA3, g0vc0, g0vc1, g0vc2, g0vc3, rfl, Ng, hc⟩
  have F21 := Lib.hid (F16.out.below hc)
  have F22 := Lib.hid (F17.out.step hc)
  have F23 := Lib.hid (Ox0.out.below hc)
  have H24 := Lib.hid (bt H18.out hc)
  have Z25 : Hid (w15.heap.size ≤ w20.heap.size) := Lib.hid hc.size
  clear F16 F17 Ox0 H18 hc
  obtain ⟨W26, hW26⟩ : ∃ W26, W26 = (w20.alloc (.cells #[.slice g0vA0 r0d0.length g0vc0, .slice g0vA1 r0d1.length g0vc1, .slice g0vA2 r0d2.length g0vc2, .slice g0vA3 r0d3.length g0vc3, .int .i64 r0d4] 28)) := ⟨_, rfl⟩
  have hba : Below w20.heap.size w20 W26 := by rw [hW26]; exact ((Below.refl _ _).alloc (Nat.le_refl _) _)
  have Z27 : Hid (W26.heap.size = w20.heap.size + 1) := Lib.hid (by rw [hW26]; simp)
  have B28 : Hid (Box W26 (w20.heap.size) 28 #[.slice g0vA0 r0d0.length g0vc0, .slice g0vA1 r0d1.length g0vc1, .slice g0vA2 r0d2.length g0vc2, .slice g0vA3 r0d3.length g0vc3, .int .i64 r0d4]) := Lib.hid (by rw [hW26]; exact (Box.new w20 28 #[.slice g0vA0 r0d0.length g0vc0, .slice g0vA1 r0d1.length g0vc1, .slice g0vA2 r0d2.length g0vc2, .slice g0vA3 r0d3.length g0vc3, .int .i64 r0d4]))
  have F29 := Lib.hid (F21.out.below hba)
  have F30 := Lib.hid (F22.out.step hba)
  have F31 := Lib.hid (F23.out.below hba)
  have F32 := Lib.hid (Ng.out.below hba)
  have H33 := Lib.hid (bt H24.out hba)
  have Z34 : Hid (w20.heap.size ≤ W26.heap.size) := Lib.hid hba.size
  clear F21 F22 F23 Ng H24 hba
  have HW26 := Lib.hid hW26
  clear hW26
  have f0 : W26.cell? ⟨w5.heap.size, 0, none⟩ = some (.slice w0vA0 r0d0.length w0vc0) := F30.out.cell 0 rfl
  have f1 : W26.cell? ⟨w5.heap.size, 1, none⟩ = some (.slice w0vA1 r0d1.length w0vc1) := F30.out.cell 1 rfl
  have f2 : W26.cell? ⟨w5.heap.size, 2, none⟩ = some (.slice w0vA2 r0d2.length w0vc2) := F30.out.cell 2 rfl
  have f3 : W26.cell? ⟨w5.heap.size, 3, none⟩ = some (.slice w0vA3 r0d3.length w0vc3) := F30.out.cell 3 rfl
  have f4 : W26.cell? ⟨w5.heap.size, 4, none⟩ = some (.int .i64 r0d4) := F30.out.cell 4 rfl
  rw [HW26.out] at f0 f1 f2 f3 f4
  go_wp2_with fail
  rw [← HW26.out]
  refine (eqMemA g0vA0 g0vA1 g0vA2 g0vA3 g0vc0 g0vc1 g0vc2 g0vc3 w0vA0 w0vA1 w0vA2 w0vA3 w0vc0 w0vc1 w0vc2 w0vc3 r0d0 r0d1 r0d2 r0d3 r0d4 W26 F32.out.reads F29.out.reads (Nat.le_trans HBr0.out (by unfold maxLen; omega))).mono ?_
  rintro e w35 ⟨rfl, hc⟩
  clear f0 f1 f2 f3 f4 HW26
  have F36 := Lib.hid (F29.out.below hc)
  have F37 := Lib.hid (F30.out.step hc)
  have F38 := Lib.hid (F31.out.below hc)
  have F39 := Lib.hid (F32.out.below hc)
  have F40 := Lib.hid (B28.out.step hc)
  have H41 := Lib.hid (bt H33.out hc)
  have Z42 : Hid (W26.heap.size ≤ w35.heap.size) := Lib.hid hc.size
  clear F29 F30 F31 F32 B28 H33 hc
  go_wp2_with fail
  refine (HTo0.out _ H41.out z0).mono ?_
  rintro e w44 ⟨t43vA0, t43vc0, rfl, Nt43, Kt43, hc⟩
  have F45 := Lib.hid (F36.out.below hc)
  have F46 := Lib.hid (F37.out.step hc)
  have F47 := Lib.hid (F38.out.below hc)
  have F48 := Lib.hid (F39.out.below hc)
  have F49 := Lib.hid (F40.out.step hc)
  have H50 := Lib.hid (bt H41.out hc)
  have Z51 : Hid (w35.heap.size ≤ w44.heap.size) := Lib.hid hc.size
  clear F36 F37 F38 F39 F40 H41 hc
  have Ot43 := Lib.hid (OwnA.one Nt43.out)
  clear Nt43
  have Kt43 := Lib.hid (CapA.cons Kt43.out CapA.nil)
  go_wp2_with fail
  refine (eqLI (.slice x0vA0 a0d0.length x0vc0) (.slice t43vA0 a0d0.length t43vc0) a0d0 w44 F47.out.reads.1 Ot43.out.reads.1 (by have q := Nat.le_trans (szA_len _) z0; simp only [lenA, Lf.len] at q; unfold maxLen; omega)).mono ?_
  rintro e w52 ⟨rfl, hc⟩
  have F53 := Lib.hid (F45.out.below hc)
  have F54 := Lib.hid (F46.out.step hc)
  have F55 := Lib.hid (F47.out.below hc)
  have F56 := Lib.hid (F48.out.below hc)
  have F57 := Lib.hid (F49.out.step hc)
  have F58 := Lib.hid (Ot43.out.below hc)
  have H59 := Lib.hid (bt H50.out hc)
  have Z60 : Hid (w44.heap.size ≤ w52.heap.size) := Lib.hid hc.size
  clear F45 F46 F47 F48 F49 Ot43 H50 hc
  clear F58 Kt43
  go_wp2_with fail
  have hk0 : (1 : Nat) ≤ 1 := Nat.le_refl _
  have hlx : lenA [Lf.I a0d0] ≤ 1048576 := Nat.le_trans (szA_len _) z0
  have HM := Lib.hid (markLI (.slice x0vA0 a0d0.length x0vc0) a0d0 1 W9.heap.size w15.heap.size w52 F55.out.1.1 (by omega) (by have q := hlx; simp only [lenA, Lf.len] at q; omega) (by omega))
  clear hlx hk0
  refine HM.out.mono ?_
  rintro e w61 ⟨rfl, M1, U1⟩
  clear HM M1
  have U2 := U1.btw F55.out
  have F62 := Lib.hid (F53.out.btw U2 (by have := Z4.out; have := Z8.out; have := Z10.out; have := Z14.out; have := Z19.out; have := Z25.out; have := Z27.out; have := Z34.out; have := Z42.out; have := Z51.out; have := Z60.out; omega))
  have F63 := Lib.hid (F54.out.btw U2 (by have := Z4.out; have := Z8.out; have := Z10.out; have := Z14.out; have := Z19.out; have := Z25.out; have := Z27.out; have := Z34.out; have := Z42.out; have := Z51.out; have := Z60.out; omega))
  have F64 := Lib.hid (F56.out.btw U2 (by have := Z4.out; have := Z8.out; have := Z10.out; have := Z14.out; have := Z19.out; have := Z25.out; have := Z27.out; have := Z34.out; have := Z42.out; have := Z51.out; have := Z60.out; omega))
  have F65 := Lib.hid (F57.out.btw U2 (by have := Z4.out; have := Z8.out; have := Z10.out; have := Z14.out; have := Z19.out; have := Z25.out; have := Z27.out; have := Z34.out; have := Z42.out; have := Z51.out; have := Z60.out; omega))
  have H66 := Lib.hid (H59.out.trans ((U2.below (by have := Z4.out; have := Z8.out; have := Z10.out; have := Z14.out; have := Z19.out; have := Z25.out; have := Z27.out; have := Z34.out; have := Z42.out; have := Z51.out; have := Z60.out; omega)).mono (by have := Z4.out; have := Z8.out; have := Z10.out; have := Z14.out; have := Z19.out; have := Z25.out; have := Z27.out; have := Z34.out; have := Z42.out; have := Z51.out; have := Z60.out; omega)))
  have Z67 : Hid (w52.heap.size ≤ w61.heap.size) := Lib.hid U2.size
  clear F53 F54 F56 F57 H59
  clear U1 U2 F55
  generalize hk : 1 + (Lf.I a0d0).len = k68
  have hkk68 : 1 ≤ k68 ∧ k68 ≤ 1 + 1048576 := by have := Nat.le_trans (szA_len _) z0; simp only [lenA] at this hk; omega
  clear hk
  have hnk68 : ¬ (k68 : Int) < 0 := by omega
  have f0 : w61.cell? ⟨w20.heap.size, 0, none⟩ = some (.slice g0vA0 r0d0.length g0vc0) := F65.out.cell 0 rfl
  have f1 : w61.cell? ⟨w20.heap.size, 1, none⟩ = some (.slice g0vA1 r0d1.length g0vc1) := F65.out.cell 1 rfl
  have f2 : w61.cell? ⟨w20.heap.size, 2, none⟩ = some (.slice g0vA2 r0d2.length g0vc2) := F65.out.cell 2 rfl
  have f3 : w61.cell? ⟨w20.heap.size, 3, none⟩ = some (.slice g0vA3 r0d3.length g0vc3) := F65.out.cell 3 rfl
  have f4 : w61.cell? ⟨w20.heap.size, 4, none⟩ = some (.int .i64 r0d4) := F65.out.cell 4 rfl
  have f5 : w61.cell? ⟨w5.heap.size, 0, none⟩ = some (.slice w0vA0 r0d0.length w0vc0) := F63.out.cell 0 rfl
  have f6 : w61.cell? ⟨w5.heap.size, 1, none⟩ = some (.slice w0vA1 r0d1.length w0vc1) := F63.out.cell 1 rfl
  have f7 : w61.cell? ⟨w5.heap.size, 2, none⟩ = some (.slice w0vA2 r0d2.length w0vc2) := F63.out.cell 2 rfl
  have f8 : w61.cell? ⟨w5.heap.size, 3, none⟩ = some (.slice w0vA3 r0d3.length w0vc3) := F63.out.cell 3 rfl
  have f9 : w61.cell? ⟨w5.heap.size, 4, none⟩ = some (.int .i64 r0d4) := F63.out.cell 4 rfl
  go_wp2_with fail
  refine (eqMemA g0vA0 g0vA1 g0vA2 g0vA3 g0vc0 g0vc1 g0vc2 g0vc3 w0vA0 w0vA1 w0vA2 w0vA3 w0vc0 w0vc1 w0vc2 w0vc3 r0d0 r0d1 r0d2 r0d3 r0d4 w61 F64.out.reads F62.out.reads (Nat.le_trans HBr0.out (by unfold maxLen; omega))).mono ?_
  rintro e w69 ⟨rfl, hc⟩
  clear f0 f1 f2 f3 f4 f5 f6 f7 f8 f9
  have F70 := Lib.hid (F62.out.below hc)
  have F71 := Lib.hid (F63.out.step hc)
  have F72 := Lib.hid (F64.out.below hc)
  have F73 := Lib.hid (F65.out.step hc)
  have H74 := Lib.hid (bt H66.out hc)
  have Z75 : Hid (w61.heap.size ≤ w69.heap.size) := Lib.hid hc.size
  clear F62 F63 F64 F65 H66 hc
  have f0 : w69.cell? ⟨w20.heap.size, 0, none⟩ = some (.slice g0vA0 r0d0.length g0vc0) := F73.out.cell 0 rfl
  have f1 : w69.cell? ⟨w20.heap.size, 1, none⟩ = some (.slice g0vA1 r0d1.length g0vc1) := F73.out.cell 1 rfl
  have f2 : w69.cell? ⟨w20.heap.size, 2, none⟩ = some (.slice g0vA2 r0d2.length g0vc2) := F73.out.cell 2 rfl
  have f3 : w69.cell? ⟨w20.heap.size, 3, none⟩ = some (.slice g0vA3 r0d3.length g0vc3) := F73.out.cell 3 rfl
  have f4 : w69.cell? ⟨w20.heap.size, 4, none⟩ = some (.int .i64 r0d4) := F73.out.cell 4 rfl
  go_wp2_with fail
  have HM := Lib.hid (markMemA g0vA0 g0vA1 g0vA2 g0vA3 g0vc0 g0vc1 g0vc2 g0vc3 r0d0 r0d1 r0d2 r0d3 r0d4 (1) w15.heap.size w20.heap.size w69 F72.out (by have := Z4.out; have := Z8.out; have := Z10.out; have := Z14.out; have := Z19.out; have := Z25.out; have := Z27.out; have := Z34.out; have := Z42.out; have := Z51.out; have := Z60.out; have := Z67.out; have := Z75.out; omega) (by omega) (BndA.of_len HBr0.out) (by have := HBr0.out; omega))
  refine HM.out.mono ?_
  rintro e w76 ⟨rfl, M1, U1⟩
  clear HM
  clear f0 f1 f2 f3 f4
  have U2 := U1.btw F72.out
  have N77 := Lib.hid M1.out
  have F78 := Lib.hid (F70.out.btw U2 (by have := Z4.out; have := Z8.out; have := Z10.out; have := Z14.out; have := Z19.out; have := Z25.out; have := Z27.out; have := Z34.out; have := Z42.out; have := Z51.out; have := Z60.out; have := Z67.out; have := Z75.out; omega))
  have F79 := Lib.hid (F71.out.btw U2 (by have := Z4.out; have := Z8.out; have := Z10.out; have := Z14.out; have := Z19.out; have := Z25.out; have := Z27.out; have := Z34.out; have := Z42.out; have := Z51.out; have := Z60.out; have := Z67.out; have := Z75.out; omega))
  have F80 := Lib.hid (F73.out.btw U2 (by have := Z4.out; have := Z8.out; have := Z10.out; have := Z14.out; have := Z19.out; have := Z25.out; have := Z27.out; have := Z34.out; have := Z42.out; have := Z51.out; have := Z60.out; have := Z67.out; have := Z75.out; omega))
  have H81 := Lib.hid (H74.out.trans ((U2.below (by have := Z4.out; have := Z8.out; have := Z10.out; have := Z14.out; have := Z19.out; have := Z25.out; have := Z27.out; have := Z34.out; have := Z42.out; have := Z51.out; have := Z60.out; have := Z67.out; have := Z75.out; omega)).mono (by have := Z4.out; have := Z8.out; have := Z10.out; have := Z14.out; have := Z19.out; have := Z25.out; have := Z27.out; have := Z34.out; have := Z42.out; have := Z51.out; have := Z60.out; have := Z67.out; have := Z75.out; omega)))
  have Z82 : Hid (w69.heap.size ≤ w76.heap.size) := Lib.hid U2.size
  clear F70 F71 F73 H74
  clear U1 U2 M1 F72
  have hm0 : (((1 + lenA [Lf.I r0d0, Lf.I r0d1, Lf.I r0d2, Lf.B r0d3] : Nat) : Int) != ((1 + lenA [Lf.I r0d0, Lf.I r0d1, Lf.I r0d2, Lf.B r0d3] : Nat) : Int)) = false := by simp
  have f0 : w76.cell? ⟨w20.heap.size, 0, none⟩ = some (.slice g0vA0 r0d0.length g0vc0) := F80.out.cell 0 rfl
  have f1 : w76.cell? ⟨w20.heap.size, 1, none⟩ = some (.slice g0vA1 r0d1.length g0vc1) := F80.out.cell 1 rfl
  have f2 : w76.cell? ⟨w20.heap.size, 2, none⟩ = some (.slice g0vA2 r0d2.length g0vc2) := F80.out.cell 2 rfl
  have f3 : w76.cell? ⟨w20.heap.size, 3, none⟩ = some (.slice g0vA3 r0d3.length g0vc3) := F80.out.cell 3 rfl
  have f4 : w76.cell? ⟨w20.heap.size, 4, none⟩ = some (.int .i64 r0d4) := F80.out.cell 4 rfl
  go_wp2_with fail
  refine (heldMemA g0vA0 g0vA1 g0vA2 g0vA3 g0vc0 g0vc1 g0vc2 g0vc3 r0d0 r0d1 r0d2 r0d3 r0d4 (1) w76 N77.out.reads (by omega) (BndA.of_len HBr0.out) (by have := HBr0.out; omega)).mono ?_
  rintro e w83 ⟨rfl, hc⟩
  clear f0 f1 f2 f3 f4
  have F84 := Lib.hid (F78.out.below hc)
  have F85 := Lib.hid (F79.out.step hc)
  have F86 := Lib.hid (N77.out.below hc)
  have F87 := Lib.hid (F80.out.step hc)
  have H88 := Lib.hid (bt H81.out hc)
  have Z89 : Hid (w76.heap.size ≤ w83.heap.size) := Lib.hid hc.size
  clear F78 F79 N77 F80 H81 hc
  have hqw83 : ¬ ((1 + lenA [Lf.I r0d0, Lf.I r0d1, Lf.I r0d2, Lf.B r0d3] : Nat) : Int) < 0 := by omega
  go_wp2_with fail
  refine (HTo0.out _ H88.out z0).mono ?_
  rintro e w91 ⟨t90vA0, t90vc0, rfl, Nt90, Kt90, hc⟩
  have F92 := Lib.hid (F84.out.below hc)
  have F93 := Lib.hid (F85.out.step hc)
  have F94 := Lib.hid (F86.out.below hc)
  have F95 := Lib.hid (F87.out.step hc)
  have H96 := Lib.hid (bt H88.out hc)
  have Z97 : Hid (w83.heap.size ≤ w91.heap.size) := Lib.hid hc.size
  clear F84 F85 F86 F87 H88 hc
  have Ot90 := Lib.hid (OwnA.one Nt90.out)
  clear Nt90
  have Kt90 := Lib.hid (CapA.cons Kt90.out CapA.nil)
  go_wp2_with fail
  refine (HImpl.out w91 t90vA0 t90vc0 Ot90.out.reads Kt90.out z0).mono ?_
  rintro e w98 ⟨h0vA0, h0vA1, h0vA2, h0vA3, h0vc0, h0vc1, h0vc2, h0vc3, rfl, Nh, hc⟩
  have F99 := Lib.hid (F92.out.below hc)
  have F100 := Lib.hid (F93.out.step hc)
  have F101 := Lib.hid (F94.out.below hc)
  have F102 := Lib.hid (F95.out.step hc)
  have F103 := Lib.hid (Ot90.out.below hc)
  have H104 := Lib.hid (bt H96.out hc)
  have Z105 : Hid (w91.heap.size ≤ w98.heap.size) := Lib.hid hc.size
  clear F92 F93 F94 F95 Ot90 H96 hc
  clear F103 Kt90
  obtain ⟨W106, hW106⟩ : ∃ W106, W106 = (w98.alloc (.cells #[.slice h0vA0 r0d0.length h0vc0, .slice h0vA1 r0d1.length h0vc1, .slice h0vA2 r0d2.length h0vc2, .slice h0vA3 r0d3.length h0vc3, .int .i64 r0d4] 28)) := ⟨_, rfl⟩
  have hba : Below w98.heap.size w98 W106 := by rw [hW106]; exact ((Below.refl _ _).alloc (Nat.le_refl _) _)
  have Z107 : Hid (W106.heap.size = w98.heap.size + 1) := Lib.hid (by rw [hW106]; simp)
  have B108 : Hid (Box W106 (w98.heap.size) 28 #[.slice h0vA0 r0d0.length h0vc0, .slice h0vA1 r0d1.length h0vc1, .slice h0vA2 r0d2.length h0vc2, .slice h0vA3 r0d3.length h0vc3, .int .i64 r0d4]) := Lib.hid (by rw [hW106]; exact (Box.new w98 28 #[.slice h0vA0 r0d0.length h0vc0, .slice h0vA1 r0d1.length h0vc1, .slice h0vA2 r0d2.length h0vc2, .slice h0vA3 r0d3.length h0vc3, .int .i64 r0d4]))
  have F109 := Lib.hid (F99.out.below hba)
  have F110 := Lib.hid (F100.out.step hba)
  have F111 := Lib.hid (F101.out.below hba)
  have F112 := Lib.hid (F102.out.step hba)
  have F113 := Lib.hid (Nh.out.below hba)
  have H114 := Lib.hid (bt H104.out hba)
  have Z115 : Hid (w98.heap.size ≤ W106.heap.size) := Lib.hid hba.size
  clear F99 F100 F101 F102 Nh H104 hba
  have HW106 := Lib.hid hW106
  clear hW106
  have f0 : W106.cell? ⟨w5.heap.size, 0, none⟩ = some (.slice w0vA0 r0d0.length w0vc0) := F110.out.cell 0 rfl
  have f1 : W106.cell? ⟨w5.heap.size, 1, none⟩ = some (.slice w0vA1 r0d1.length w0vc1) := F110.out.cell 1 rfl
  have f2 : W106.cell? ⟨w5.heap.size, 2, none⟩ = some (.slice w0vA2 r0d2.length w0vc2) := F110.out.cell 2 rfl
  have f3 : W106.cell? ⟨w5.heap.size, 3, none⟩ = some (.slice w0vA3 r0d3.length w0vc3) := F110.out.cell 3 rfl
  have f4 : W106.cell? ⟨w5.heap.size, 4, none⟩ = some (.int .i64 r0d4) := F110.out.cell 4 rfl
  rw [HW106.out] at f0 f1 f2 f3 f4
  go_wp2_with fail
  rw [← HW106.out]
  refine (eqMemA h0vA0 h0vA1 h0vA2 h0vA3 h0vc0 h0vc1 h0vc2 h0vc3 w0vA0 w0vA1 w0vA2 w0vA3 w0vc0 w0vc1 w0vc2 w0vc3 r0d0 r0d1 r0d2 r0d3 r0d4 W106 F113.out.reads F109.out.reads (Nat.le_trans HBr0.out (by unfold maxLen; omega))).mono ?_
  rintro e w116 ⟨rfl, hc⟩
  clear f0 f1 f2 f3 f4 HW106
  have F117 := Lib.hid (F109.out.below hc)
  have F118 := Lib.hid (F110.out.step hc)
  have F119 := Lib.hid (F111.out.below hc)
  have F120 := Lib.hid (F112.out.step hc)
  have F121 := Lib.hid (F113.out.below hc)
  have F122 := Lib.hid (B108.out.step hc)
  have H123 := Lib.hid (bt H114.out hc)
  have Z124 : Hid (W106.heap.size ≤ w116.heap.size) := Lib.hid hc.size
  clear F109 F110 F111 F112 F113 B108 H114 hc
  have f0 : w116.cell? ⟨w20.heap.size, 0, none⟩ = some (.slice g0vA0 r0d0.length g0vc0) := F120.out.cell 0 rfl
  have f1 : w116.cell? ⟨w20.heap.size, 1, none⟩ = some (.slice g0vA1 r0d1.length g0vc1) := F120.out.cell 1 rfl
  have f2 : w116.cell? ⟨w20.heap.size, 2, none⟩ = some (.slice g0vA2 r0d2.length g0vc2) := F120.out.cell 2 rfl
  have f3 : w116.cell? ⟨w20.heap.size, 3, none⟩ = some (.slice g0vA3 r0d3.length g0vc3) := F120.out.cell 3 rfl
  have f4 : w116.cell? ⟨w20.heap.size, 4, none⟩ = some (.int .i64 r0d4) := F120.out.cell 4 rfl
  go_wp2_with fail
  refine (heldMemA g0vA0 g0vA1 g0vA2 g0vA3 g0vc0 g0vc1 g0vc2 g0vc3 r0d0 r0d1 r0d2 r0d3 r0d4 (1) w116 F119.out.reads (by omega) (BndA.of_len HBr0.out) (by have := HBr0.out; omega)).mono ?_
  rintro e w125 ⟨rfl, hc⟩
  clear f0 f1 f2 f3 f4
  have F126 := Lib.hid (F117.out.below hc)
  have F127 := Lib.hid (F118.out.step hc)
  have F128 := Lib.hid (F119.out.below hc)
  have F129 := Lib.hid (F120.out.step hc)
  have F130 := Lib.hid (F121.out.below hc)
  have F131 := Lib.hid (F122.out.step hc)
  have H132 := Lib.hid (bt H123.out hc)
  have Z133 : Hid (w116.heap.size ≤ w125.heap.size) := Lib.hid hc.size
  clear F117 F118 F119 F120 F121 F122 H123 hc
  have hqw125 : ¬ ((1 + lenA [Lf.I r0d0, Lf.I r0d1, Lf.I r0d2, Lf.B r0d3] : Nat) : Int) < 0 := by omega
  go_wp2
  go_ret
  exact ⟨rfl, H132.out⟩

/-! The row's step. -/
open Go.ChangeShapes Go.WideShapes Go.ChangeAt
open Go.ChangeMaps (open_string shut_string)
set_option maxRecDepth 100000 in
theorem own : ownKnob Try.prog.godebug = none := by kernel_rfl
set_option maxRecDepth 100000 in
theorem laidOut : laidOutB Try.prog = true := factLaid
set_option maxRecDepth 100000 in
theorem lifted (os : Os) (started : os.Started) (H : Type) (enc : TypeId × Value → H) :
    ReturnsInHanded {} Try.checked os 6 .any (Rows.fnExactNewMemSpec.pre6 enc Try.prog Try.f6 Rows.fnExactNewMemRow.domain false) (Rows.fnExactNewMemSpec.post enc Try.prog Try.f6 false true false false) := by
  refine returnsInHanded_of_change (C := Try.checked) own started (by kernel_rfl) Try.func6
    (ChangeSpec.witness6 (enc := enc) (C := Try.checked) false ⟨#[], #[.slice none 0 0], []⟩ 8 (by kernel_rfl) (by kernel_rfl) (by kernel_rfl) (by kernel_rfl)) ?_
  intro W base args ds gs before hval0 hW hcnd _
  have hval : ∀ (j : Nat) t v, Try.f6.params[j]? = some t → args[j]? = some v → Value.okWide Try.prog W .any base t v := hval0
  have hW' := hW
  obtain ⟨p, q, hA0, hV, rfl, hfz, hnd⟩ := hW
  have hA : DataW.TrodAll enc Try.prog W 0 (fun _ => true) true Try.f6.params.toList args.toList ds p := hA0
  rw [Try.params6] at hA hval
  obtain ⟨v0, vs0, d0, ds0, p0, q0, hargs, rfl, rfl, h0, r0⟩ := trodAll_cons hA
  obtain ⟨rfl, rfl, rfl⟩ := trodAll_nil r0
  obtain rfl : args = #[v0] := by cases args; simp_all
  obtain ⟨rfl, rfl⟩ := trodVars_none hV
  have k0 := h0
  have lt0 : ∀ x ∈ p0, x.block < W.heap.size := by obtain ⟨m, hm⟩ := k0; exact DataW.trod_lt m _ _ _ hm
  obtain ⟨f0, hf0⟩ := h0
  obtain ⟨x0, y0, z0, e0⟩ := okWide_slice Try.underlying23 (hval 0 23 v0 rfl rfl)
  obtain ⟨a0vA0, a0vc0, a0d0, e0x, R0x, G0x⟩ := openI (by rw [e0] at hf0; simpa [Value.cells] using hf0)
  rw [← e0] at e0x R0x
  subst e0x
  have R0 : RepA W [.slice a0vA0 a0d0.length a0vc0] [Lf.I a0d0] := ⟨R0x, trivial⟩
  have G0 : FitA [Lf.I a0d0] := fun d hd => by simp only [List.mem_cons, List.not_mem_nil, or_false] at hd; subst hd; exact G0x
  clear hA0 hval0
  refine (walk a0vA0 a0vc0 a0d0 W R0 G0).mono fun e W' ⟨he, bel⟩ => ?_
  subst he
  exact ⟨_, rfl, _, _, _, [], _, [], hW', trodAll_mk1 (shut_bool Try.underlying4 _), (trodAll_cons_mk (Below.trod laidOut (by kernel_rfl) (of_decide_eq_true (by kernel_rfl)) k0 bel lt0) trodAll_mk0), rfl, bel.frame _, fun h => by cases h⟩

theorem k0 : (Rows.fnExactNewMemRow.wf (OpenSpec.ofChange Rows.fnExactNewMemSpec)) = true := by kernel_rfl
set_option maxRecDepth 100000 in
theorem k3 : (Try.f6.params.all (Try.prog.readableRec ·)) = true := by kernel_rfl
set_option maxRecDepth 100000 in
theorem k4 : (namedTie Try.prog Rows.fnExactNewMemRow.named Rows.fnExactNewMemSpec.vars) = true := by kernel_rfl
theorem k5 : ((Rows.fnExactNewMemRow.stops == [])) = true := by kernel_rfl
set_option maxRecDepth 100000 in
theorem k6 : ((Try.prog.stops == [])) = true := by kernel_rfl
theorem k7 : ((Rows.fnExactNewMemRow.knobs == [])) = true := by kernel_rfl
set_option maxRecDepth 100000 in
theorem k8 : ((Try.prog.stopKnobs == [])) = true := by kernel_rfl
set_option maxRecDepth 100000 in
theorem k9 : ((Rows.fnExactNewMemRow.inPlace == Try.prog.inPlace 6)) = true := by kernel_rfl
set_option maxRecDepth 100000 in
theorem k10 : ((Rows.fnExactNewMemRow.unfollowed == Try.prog.unfollowed 6)) = true := by kernel_rfl
set_option maxRecDepth 100000 in
theorem k11 : ((Rows.fnExactNewMemRow.recurses == Try.prog.recurses 6)) = true := by kernel_rfl
set_option maxRecDepth 100000 in
theorem k12 : ((Rows.fnExactNewMemRow.named == Try.prog.varsNamed 6)) = true := by kernel_rfl
set_option maxRecDepth 100000 in
theorem k13 : ((Rows.fnExactNewMemRow.maps == (Try.f6.params.toList ++ Rows.fnExactNewMemSpec.plain.varTypes Try.prog).any (Try.prog.mapsRec ·))) = true := by kernel_rfl
set_option maxRecDepth 100000 in
theorem k14 : ((Rows.fnExactNewMemRow.ifaces == (Try.f6.params.toList ++ Rows.fnExactNewMemSpec.plain.varTypes Try.prog).any (Try.prog.ifacesRec ·))) = true := by kernel_rfl
set_option maxRecDepth 100000 in
theorem k15 : ((Rows.fnExactNewMemRow.mapsOut == Try.prog.mapsAmong Try.f6.resultTypes.toList)) = true := by kernel_rfl
set_option maxRecDepth 100000 in
theorem k16 : ((Rows.fnExactNewMemRow.loops == (Try.f6.params.toList ++ Rows.fnExactNewMemSpec.plain.varTypes Try.prog).any (Try.prog.loopsFrom ·))) = true := by kernel_rfl
set_option maxRecDepth 100000 in
theorem k17 : ((Rows.fnExactNewMemRow.wideKeys == (Try.f6.params.toList ++ Rows.fnExactNewMemSpec.plain.varTypes Try.prog ++ Try.f6.resultTypes.toList).any (Try.prog.wideKeysFrom ·))) = true := by kernel_rfl
set_option maxRecDepth 100000 in
theorem k18 : (Rows.fnExactNewMemSpec.vars.all (Try.prog.varReadable ·)) = true := by kernel_rfl
set_option maxRecDepth 100000 in
theorem k19 : (Try.f6.resultTypes.all (fun t => Try.prog.readableRec t && decide (t < Try.prog.types.size))) = true := by kernel_rfl
set_option maxRecDepth 100000 in
theorem k20 : ((Rows.fnExactNewMemRow.ifacesOut == Try.f6.resultTypes.toList.any (Try.prog.ifacesRec ·))) = true := by kernel_rfl
set_option maxRecDepth 100000 in
theorem k21 : ((Rows.fnExactNewMemRow.loopsOut == Try.f6.resultTypes.toList.any (Try.prog.loopsFrom ·))) = true := by kernel_rfl
set_option maxRecDepth 100000 in
theorem k22 : ((Rows.fnExactNewMemRow.plainKeys == Try.prog.plainKeys)) = true := by kernel_rfl
theorem k23 : (Rows.fnExactNewMemRow.shortTexts.isNone) = true := by kernel_rfl
set_option maxRecDepth 100000 in
theorem k28 : ((Rows.fnExactNewMemRow.kinds == (if Rows.fnExactNewMemRow.domain.isEmpty then [] else Try.f6.params.toList.map fun t => match Try.prog.underlying t with | some (.int k) => some k | _ => none))) = true := by kernel_rfl
theorem k29 : ((Rows.fnExactNewMemRow.pinned == Rows.fnExactNewMemRow.pinnedBy)) = true := by kernel_rfl
set_option maxRecDepth 100000 in
theorem k30 : ((Rows.fnExactNewMemRow.veiled == (Try.f6.params.toList ++ Rows.fnExactNewMemSpec.plain.varTypes Try.prog ++ Try.f6.resultTypes.toList).any (Try.prog.veiledRec ·))) = true := by kernel_rfl
set_option maxRecDepth 100000 in
theorem k31 : (Rows.fnExactNewMemRow.veiledFits Try.prog Try.f6.params.toList (Try.f6.params.toList ++ Rows.fnExactNewMemSpec.plain.varTypes Try.prog ++ Try.f6.resultTypes.toList)) = true := by kernel_rfl
set_option maxRecDepth 100000 in
theorem facts : joinedFacts Try.prog 6 Try.f6 Rows.fnExactNewMemSpec Rows.fnExactNewMemRow = true := (and_mk (and_mk (and_mk (and_mk (and_mk (and_mk (and_mk (and_mk (and_mk (and_mk (and_mk (and_mk (and_mk (and_mk (and_mk (and_mk (and_mk (and_mk (and_mk (and_mk (and_mk (and_mk (and_mk (and_mk (and_mk (and_mk (and_mk (and_mk (and_mk (and_mk (and_mk k0 factLaid) factRowed) k3) k4) k5) k6) k7) k8) k9) k10) k11) k12) k13) k14) k15) k16) k17) k18) k19) k20) k21) k22) k23) factHeard) factEnter) factLift) factMake) k28) k29) k30) k31)
set_option maxRecDepth 100000 in
theorem named : Try.prog.funcNamed Rows.fnExactNewMemRow.func = some 6 := by kernel_rfl
set_option maxRecDepth 100000 in
theorem inst : Try.f6.isInstance Try.prog Rows.fnExactNewMemRow.origin Rows.fnExactNewMemRow.targs := of_decide_eq_true (by kernel_rfl)
set_option maxRecDepth 100000 in
theorem over : Rows.fnExactNewMemRow.holds Try.pinned (OpenSpec.ofChange Rows.fnExactNewMemSpec) :=
  OpenClaim.holds_of_wide 6 Try.f6 rfl rfl rfl rfl rfl rfl rfl ⟨rfl, rfl, rfl, rfl, rfl⟩ rfl rfl rfl rfl rfl named Try.func6 facts
    inst (by unfold Func.isWrapper; first | (rw [if_pos (by decide +kernel)]; kernel_rfl) | (rw [if_neg (by decide +kernel)]; exact ⟨rfl, rfl⟩))
    (fun os started H enc _ => lifted os started H enc)
theorem proved : Rows.FnExactNewMemSaid := over
#print axioms proved
end Go.Proofs.Ytdanefhfngmipaa.fnExactNewMem
