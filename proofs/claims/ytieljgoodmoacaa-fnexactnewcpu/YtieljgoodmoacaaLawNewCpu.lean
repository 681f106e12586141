/- For every call, laws.FnExactNewCpu returns true: impl.NewCpu answers as the model spec.NewCpu, every field, leaves its arguments alone, and its result is memory of its own. No condition. -/
import Derived.Test.YtieljgoodmoacaaCpuNew
import Derived.Test.YtieljgoodmoacaaGenCpu
import Derived.Test.YtieljgoodmoacaaGenOpen
import Derived.Test.YtieljgoodmoacaaFactA
import Derived.Test.YtieljgoodmoacaaFactB
import Derived.Test.YtieljgoodmoacaaFactC
import Derived.Test.YtieljgoodmoacaaFactD
import Derived.Deep.RegionHeld3
import Derived.ProofKit
import Derived.OpenShut
import Derived.ShutString
import Derived.ChangeOld
namespace Go.Proofs.Ytieljgoodmoacaa.fnExactNewCpu
open Go.RowKit

set_option maxRecDepth 100000 in
set_option maxHeartbeats 16000000 in
theorem walk  (w : World) :
    Calls Try.prog 3 #[] w fun e w' => e = .returned (.bool true) ∧ Below w.heap.size w w' := by
  have HSpec := Lib.hid (fun W => specNewCpuA  W )
  have HImpl := Lib.hid (fun W => implNewCpuA  W )
  have HBnd := Lib.hid (fun (_ : True) => (show lenA [Lf.I (zRegs)] ≤ 4294967296 from zRegs_bnd))
  generalize nc0 = r0d0 at HSpec HImpl HBnd
  generalize nc1 = r0d1 at HSpec HImpl HBnd
  generalize nc2 = r0d2 at HSpec HImpl HBnd
  generalize nc3 = r0d3 at HSpec HImpl HBnd
  generalize nf4 = r0d4 at HSpec HImpl HBnd
  generalize nf5 = r0d5 at HSpec HImpl HBnd
  generalize nf6 = r0d6 at HSpec HImpl HBnd
  generalize nf7 = r0d7 at HSpec HImpl HBnd
  generalize zRegs = r0d8 at HSpec HImpl HBnd
  have H0 : Hid (Below w.heap.size w w) := Lib.hid (Below.refl _ _)
  go_enter Try.func3, Try.ntmps3
  have HBd := Lib.hid (HBnd.out trivial)
  clear HBnd
  have HBr0 : Hid (lenA [Lf.I r0d8] ≤ 4294967296) := Lib.hid (by have := HBd.out; simp only [lenA] at this ⊢; omega)
  go_wp2_with fail
  refine (HSpec.out w ).mono ?_
  rintro e w1 ⟨w0vA8, w0vc8, rfl, Nw, hc⟩
  have H2 := Lib.hid (bt H0.out hc)
  have Z3 : Hid (w.heap.size ≤ w1.heap.size) := Lib.hid hc.size
  clear H0 hc
  clear HSpec
  obtain ⟨W4, hW4⟩ : ∃ W4, W4 = (w1.alloc (.cells #[.int .i64 r0d0, .int .i64 r0d1, .int .i64 r0d2, .int .i64 r0d3, .bool r0d4, .bool r0d5, .bool r0d6, .bool r0d7, .slice w0vA8 r0d8.length w0vc8] 24)) := ⟨_, rfl⟩
  have hba : Below w1.heap.size w1 W4 := by rw [hW4]; exact ((Below.refl _ _).alloc (Nat.le_refl _) _)
  have Z5 : Hid (W4.heap.size = w1.heap.size + 1) := Lib.hid (by rw [hW4]; simp)
  have B6 : Hid (Box W4 (w1.heap.size) 24 #[.int .i64 r0d0, .int .i64 r0d1, .int .i64 r0d2, .int .i64 r0d3, .bool r0d4, .bool r0d5, .bool r0d6, .bool r0d7, .slice w0vA8 r0d8.length w0vc8]) := Lib.hid (by rw [hW4]; exact (Box.new w1 24 #[.int .i64 r0d0, .int .i64 r0d1, .int .i64 r0d2, .int .i64 r0d3, .bool r0d4, .bool r0d5, .bool r0d6, .bool r0d7, .slice w0vA8 r0d8.length w0vc8]))
  have F7 := Lib.hid (Nw.out.below hba)
  have H8 := Lib.hid (bt H2.out hba)
  have Z9 : Hid (w1.heap.size ≤ W4.heap.size) := Lib.hid hba.size
  clear Nw H2 hba
  have HW4 := Lib.hid hW4
  clear hW4
  go_wp2_with fail
  rw [← HW4.out]
  refine (HImpl.out W4 ).mono ?_
  rintro e w10 ⟨g0vA8, g0vc8, rfl, Ng, hc⟩
  clear HW4
  have F11 := Lib.hid (F7.out.below hc)
  have F12 := Lib.hid (B6.out.step hc)
  have H13 := Lib.hid (bt H8.out hc)
  have Z14 : Hid (W4.heap.size ≤ w10.heap.size) := Lib.hid hc.size
  clear F7 B6 H8 hc
  obtain ⟨W15, hW15⟩ : ∃ W15, W15 = (w10.alloc (.cells #[.int .i64 r0d0, .int .i64 r0d1, .int .i64 r0d2, .int .i64 r0d3, .bool r0d4, .bool r0d5, .bool r0d6, .bool r0d7, .slice g0vA8 r0d8.length g0vc8] 24)) := ⟨_, rfl⟩
  have hba : Below w10.heap.size w10 W15 := by rw [hW15]; exact ((Below.refl _ _).alloc (Nat.le_refl _) _)
  have Z16 : Hid (W15.heap.size = w10.heap.size + 1) := Lib.hid (by rw [hW15]; simp)
  have B17 : Hid (Box W15 (w10.heap.size) 24 #[.int .i64 r0d0, .int .i64 r0d1, .int .i64 r0d2, .int .i64 r0d3, .bool r0d4, .bool r0d5, .bool r0d6, .bool r0d7, .slice g0vA8 r0d8.length g0vc8]) := Lib.hid (by rw [hW15]; exact (Box.new w10 24 #[.int .i64 r0d0, .int .i64 r0d1, .int .i64 r0d2, .int .i64 r0d3, .bool r0d4, .bool r0d5, .bool r0d6, .bool r0d7, .slice g0vA8 r0d8.length g0vc8]))
  have F18 := Lib.hid (F11.out.below hba)
  have F19 := Lib.hid (F12.out.step hba)
  have F20 := Lib.hid (Ng.out.below hba)
  have H21 := Lib.hid (bt H13.out hba)
  have Z22 : Hid (w10.heap.size ≤ W15.heap.size) := Lib.hid hba.size
  clear F11 F12 Ng H13 hba
  have HW15 := Lib.hid hW15
  clear hW15
  have f0 : W15.cell? ⟨w1.heap.size, 0, none⟩ = some (.int .i64 r0d0) := F19.out.cell 0 rfl
  have f1 : W15.cell? ⟨w1.heap.size, 1, none⟩ = some (.int .i64 r0d1) := F19.out.cell 1 rfl
  have f2 : W15.cell? ⟨w1.heap.size, 2, none⟩ = some (.int .i64 r0d2) := F19.out.cell 2 rfl
  have f3 : W15.cell? ⟨w1.heap.size, 3, none⟩ = some (.int .i64 r0d3) := F19.out.cell 3 rfl
  have f4 : W15.cell? ⟨w1.heap.size, 4, none⟩ = some (.bool r0d4) := F19.out.cell 4 rfl
  have f5 : W15.cell? ⟨w1.heap.size, 5, none⟩ = some (.bool r0d5) := F19.out.cell 5 rfl
  have f6 : W15.cell? ⟨w1.heap.size, 6, none⟩ = some (.bool r0d6) := F19.out.cell 6 rfl
  have f7 : W15.cell? ⟨w1.heap.size, 7, none⟩ = some (.bool r0d7) := F19.out.cell 7 rfl
  have f8 : W15.cell? ⟨w1.heap.size, 8, none⟩ = some (.slice w0vA8 r0d8.length w0vc8) := F19.out.cell 8 rfl
  rw [HW15.out] at f0 f1 f2 f3 f4 f5 f6 f7 f8
  go_wp2_with fail
  rw [← HW15.out]
  refine (eqCpuA g0vA8 g0vc8 w0vA8 w0vc8 r0d0 r0d1 r0d2 r0d3 r0d4 r0d5 r0d6 r0d7 r0d8 W15 F20.out.reads F18.out.reads (Nat.le_trans HBr0.out (by unfold maxLen; omega))).mono ?_
  rintro e w23 ⟨rfl, hc⟩
  clear f0 f1 f2 f3 f4 f5 f6 f7 f8 HW15
  have F24 := Lib.hid (F18.out.below hc)
  have F25 := Lib.hid (F19.out.step hc)
  have F26 := Lib.hid (F20.out.below hc)
  have F27 := Lib.hid (B17.out.step hc)
  have H28 := Lib.hid (bt H21.out hc)
  have Z29 : Hid (W15.heap.size ≤ w23.heap.size) := Lib.hid hc.size
  clear F18 F19 F20 B17 H21 hc
  have f0 : w23.cell? ⟨w10.heap.size, 0, none⟩ = some (.int .i64 r0d0) := F27.out.cell 0 rfl
  have f1 : w23.cell? ⟨w10.heap.size, 1, none⟩ = some (.int .i64 r0d1) := F27.out.cell 1 rfl
  have f2 : w23.cell? ⟨w10.heap.size, 2, none⟩ = some (.int .i64 r0d2) := F27.out.cell 2 rfl
  have f3 : w23.cell? ⟨w10.heap.size, 3, none⟩ = some (.int .i64 r0d3) := F27.out.cell 3 rfl
  have f4 : w23.cell? ⟨w10.heap.size, 4, none⟩ = some (.bool r0d4) := F27.out.cell 4 rfl
  have f5 : w23.cell? ⟨w10.heap.size, 5, none⟩ = some (.bool r0d5) := F27.out.cell 5 rfl
  have f6 : w23.cell? ⟨w10.heap.size, 6, none⟩ = some (.bool r0d6) := F27.out.cell 6 rfl
  have f7 : w23.cell? ⟨w10.heap.size, 7, none⟩ = some (.bool r0d7) := F27.out.cell 7 rfl
  have f8 : w23.cell? ⟨w10.heap.size, 8, none⟩ = some (.slice g0vA8 r0d8.length g0vc8) := F27.out.cell 8 rfl
  go_wp2_with fail
  have HM := Lib.hid (markCpuA g0vA8 g0vc8 r0d0 r0d1 r0d2 r0d3 r0d4 r0d5 r0d6 r0d7 r0d8 (1) W4.heap.size w10.heap.size w23 F26.out (by have := Z3.out; have := Z5.out; have := Z9.out; have := Z14.out; have := Z16.out; have := Z22.out; have := Z29.out; omega) (by omega) (BndA.of_len HBr0.out) (by have := HBr0.out; omega))
  refine HM.out.mono ?_
  rintro e w30 ⟨rfl, M1, U1⟩
  clear HM
  clear f0 f1 f2 f3 f4 f5 f6 f7 f8
  have U2 := U1.btw F26.out
  have N31 := Lib.hid M1.out
  have F32 := Lib.hid (F24.out.btw U2 (by have := Z3.out; have := Z5.out; have := Z9.out; have := Z14.out; have := Z16.out; have := Z22.out; have := Z29.out; omega))
  have F33 := Lib.hid (F25.out.btw U2 (by have := Z3.out; have := Z5.out; have := Z9.out; have := Z14.out; have := Z16.out; have := Z22.out; have := Z29.out; omega))
  have F34 := Lib.hid (F27.out.btw U2 (by have := Z3.out; have := Z5.out; have := Z9.out; have := Z14.out; have := Z16.out; have := Z22.out; have := Z29.out; omega))
  have H35 := Lib.hid (H28.out.trans ((U2.below (by have := Z3.out; have := Z5.out; have := Z9.out; have := Z14.out; have := Z16.out; have := Z22.out; have := Z29.out; omega)).mono (by have := Z3.out; have := Z5.out; have := Z9.out; have := Z14.out; have := Z16.out; have := Z22.out; have := Z29.out; omega)))
  have Z36 : Hid (w23.heap.size ≤ w30.heap.size) := Lib.hid U2.size
  clear F24 F25 F27 H28
  clear U1 U2 M1 F26
  have hm0 : (((1 + lenA [Lf.I r0d8] : Nat) : Int) != ((1 + lenA [Lf.I r0d8] : Nat) : Int)) = false := by simp
  have f0 : w30.cell? ⟨w10.heap.size, 0, none⟩ = some (.int .i64 r0d0) := F34.out.cell 0 rfl
  have f1 : w30.cell? ⟨w10.heap.size, 1, none⟩ = some (.int .i64 r0d1) := F34.out.cell 1 rfl
  have f2 : w30.cell? ⟨w10.heap.size, 2, none⟩ = some (.int .i64 r0d2) := F34.out.cell 2 rfl
  have f3 : w30.cell? ⟨w10.heap.size, 3, none⟩ = some (.int .i64 r0d3) := F34.out.cell 3 rfl
  have f4 : w30.cell? ⟨w10.heap.size, 4, none⟩ = some (.bool r0d4) := F34.out.cell 4 rfl
  have f5 : w30.cell? ⟨w10.heap.size, 5, none⟩ = some (.bool r0d5) := F34.out.cell 5 rfl
  have f6 : w30.cell? ⟨w10.heap.size, 6, none⟩ = some (.bool r0d6) := F34.out.cell 6 rfl
  have f7 : w30.cell? ⟨w10.heap.size, 7, none⟩ = some (.bool r0d7) := F34.out.cell 7 rfl
  have f8 : w30.cell? ⟨w10.heap.size, 8, none⟩ = some (.slice g0vA8 r0d8.length g0vc8) := F34.out.cell 8 rfl
  go_wp2_with fail
  refine (heldCpuA g0vA8 g0vc8 r0d0 r0d1 r0d2 r0d3 r0d4 r0d5 r0d6 r0d7 r0d8 (1) w30 N31.out.reads (by omega) (BndA.of_len HBr0.out) (by have := HBr0.out; omega)).mono ?_
  rintro e w37 ⟨rfl, hc⟩
  clear f0 f1 f2 f3 f4 f5 f6 f7 f8
  have F38 := Lib.hid (F32.out.below hc)
  have F39 := Lib.hid (F33.out.step hc)
  have F40 := Lib.hid (N31.out.below hc)
  have F41 := Lib.hid (F34.out.step hc)
  have H42 := Lib.hid (bt H35.out hc)
  have Z43 : Hid (w30.heap.size ≤ w37.heap.size) := Lib.hid hc.size
  clear F32 F33 N31 F34 H35 hc
  have hqw37 : ¬ ((1 + lenA [Lf.I r0d8] : Nat) : Int) < 0 := by omega
  go_wp2_with fail
  refine (HImpl.out w37 ).mono ?_
  rintro e w44 ⟨h0vA8, h0vc8, rfl, Nh, hc⟩
  have F45 := Lib.hid (F38.out.below hc)
  have F46 := Lib.hid (F39.out.step hc)
  have F47 := Lib.hid (F40.out.below hc)
  have F48 := Lib.hid (F41.out.step hc)
  have H49 := Lib.hid (bt H42.out hc)
  have Z50 : Hid (w37.heap.size ≤ w44.heap.size) := Lib.hid hc.size
  clear F38 F39 F40 F41 H42 hc
  obtain ⟨W51, hW51⟩ : ∃ W51, W51 = (w44.alloc (.cells #[.int .i64 r0d0, .int .i64 r0d1, .int .i64 r0d2, .int .i64 r0d3, .bool r0d4, .bool r0d5, .bool r0d6, .bool r0d7, .slice h0vA8 r0d8.length h0vc8] 24)) := ⟨_, rfl⟩
  have hba : Below w44.heap.size w44 W51 := by rw [hW51]; exact ((Below.refl _ _).alloc (Nat.le_refl _) _)
  have Z52 : Hid (W51.heap.size = w44.heap.size + 1) := Lib.hid (by rw [hW51]; simp)
  have B53 : Hid (Box W51 (w44.heap.size) 24 #[.int .i64 r0d0, .int .i64 r0d1, .int .i64 r0d2, .int .i64 r0d3, .bool r0d4, .bool r0d5, .bool r0d6, .bool r0d7, .slice h0vA8 r0d8.length h0vc8]) := Lib.hid (by rw [hW51]; exact (Box.new w44 24 #[.int .i64 r0d0, .int .i64 r0d1, .int .i64 r0d2, .int .i64 r0d3, .bool r0d4, .bool r0d5, .bool r0d6, .bool r0d7, .slice h0vA8 r0d8.length h0vc8]))
  have F54 := Lib.hid (F45.out.below hba)
  have F55 := Lib.hid (F46.out.step hba)
  have F56 := Lib.hid (F47.out.below hba)
  have F57 := Lib.hid (F48.out.step hba)
  have F58 := Lib.hid (Nh.out.below hba)
  have H59 := Lib.hid (bt H49.out hba)
  have Z60 : Hid (w44.heap.size ≤ W51.heap.size) := Lib.hid hba.size
  clear F45 F46 F47 F48 Nh H49 hba
  have HW51 := Lib.hid hW51
  clear hW51
  have f0 : W51.cell? ⟨w1.heap.size, 0, none⟩ = some (.int .i64 r0d0) := F55.out.cell 0 rfl
  have f1 : W51.cell? ⟨w1.heap.size, 1, none⟩ = some (.int .i64 r0d1) := F55.out.cell 1 rfl
  have f2 : W51.cell? ⟨w1.heap.size, 2, none⟩ = some (.int .i64 r0d2) := F55.out.cell 2 rfl
  have f3 : W51.cell? ⟨w1.heap.size, 3, none⟩ = some (.int .i64 r0d3) := F55.out.cell 3 rfl
  have f4 : W51.cell? ⟨w1.heap.size, 4, none⟩ = some (.bool r0d4) := F55.out.cell 4 rfl
  have f5 : W51.cell? ⟨w1.heap.size, 5, none⟩ = some (.bool r0d5) := F55.out.cell 5 rfl
  have f6 : W51.cell? ⟨w1.heap.size, 6, none⟩ = some (.bool r0d6) := F55.out.cell 6 rfl
  have f7 : W51.cell? ⟨w1.heap.size, 7, none⟩ = some (.bool r0d7) := F55.out.cell 7 rfl
  have f8 : W51.cell? ⟨w1.heap.size, 8, none⟩ = some (.slice w0vA8 r0d8.length w0vc8) := F55.out.cell 8 rfl
  rw [HW51.out] at f0 f1 f2 f3 f4 f5 f6 f7 f8
  go_wp2_with fail
  rw [← HW51.out]
  refine (eqCpuA h0vA8 h0vc8 w0vA8 w0vc8 r0d0 r0d1 r0d2 r0d3 r0d4 r0d5 r0d6 r0d7 r0d8 W51 F58.out.reads F54.out.reads (Nat.le_trans HBr0.out (by unfold maxLen; omega))).mono ?_
  rintro e w61 ⟨rfl, hc⟩
  clear f0 f1 f2 f3 f4 f5 f6 f7 f8 HW51
  have F62 := Lib.hid (F54.out.below hc)
  have F63 := Lib.hid (F55.out.step hc)
  have F64 := Lib.hid (F56.out.below hc)
  have F65 := Lib.hid (F57.out.step hc)
  have F66 := Lib.hid (F58.out.below hc)
  have F67 := Lib.hid (B53.out.step hc)
  have H68 := Lib.hid (bt H59.out hc)
  have Z69 : Hid (W51.heap.size ≤ w61.heap.size) := Lib.hid hc.size
  clear F54 F55 F56 F57 F58 B53 H59 hc
  have f0 : w61.cell? ⟨w10.heap.size, 0, none⟩ = some (.int .i64 r0d0) := F65.out.cell 0 rfl
  have f1 : w61.cell? ⟨w10.heap.size, 1, none⟩ = some (.int .i64 r0d1) := F65.out.cell 1 rfl
  have f2 : w61.cell? ⟨w10.heap.size, 2, none⟩ = some (.int .i64 r0d2) := F65.out.cell 2 rfl
  have f3 : w61.cell? ⟨w10.heap.size, 3, none⟩ = some (.int .i64 r0d3) := F65.out.cell 3 rfl
  have f4 : w61.cell? ⟨w10.heap.size, 4, none⟩ = some (.bool r0d4) := F65.out.cell 4 rfl
  have f5 : w61.cell? ⟨w10.heap.size, 5, none⟩ = some (.bool r0d5) := F65.out.cell 5 rfl
  have f6 : w61.cell? ⟨w10.heap.size, 6, none⟩ = some (.bool r0d6) := F65.out.cell 6 rfl
  have f7 : w61.cell? ⟨w10.heap.size, 7, none⟩ = some (.bool r0d7) := F65.out.cell 7 rfl
  have f8 : w61.cell? ⟨w10.heap.size, 8, none⟩ = some (.slice g0vA8 r0d8.length g0vc8) := F65.out.cell 8 rfl
  go_wp2_with fail
  refine (heldCpuA g0vA8 g0vc8 r0d0 r0d1 r0d2 r0d3 r0d4 r0d5 r0d6 r0d7 r0d8 (1) w61 F64.out.reads (by omega) (BndA.of_len HBr0.out) (by have := HBr0.out; omega)).mono ?_
  rintro e w70 ⟨rfl, hc⟩
  clear f0 f1 f2 f3 f4 f5 f6 f7 f8
  have F71 := Lib.hid (F62.out.below hc)
  have F72 := Lib.hid (F63.out.step hc)
  have F73 := Lib.hid (F64.out.below hc)
  have F74 := Lib.hid (F65.out.step hc)
  have F75 := Lib.hid (F66.out.below hc)
  have F76 := Lib.hid (F67.out.step hc)
  have H77 := Lib.hid (bt H68.out hc)
  have Z78 : Hid (w61.heap.size ≤ w70.heap.size) := Lib.hid hc.size
  clear F62 F63 F64 F65 F66 F67 H68 hc
  have hqw70 : ¬ ((1 + lenA [Lf.I r0d8] : Nat) : Int) < 0 := by omega
  go_wp2
  go_ret
  exact ⟨rfl, H77.out⟩

/-! The row's step. -/
open Go.ChangeShapes Go.WideShapes Go.ChangeAt
open Go.ChangeMaps (open_string shut_string)
set_option maxRecDepth 100000 in
theorem own : ownKnob Try.prog.godebug = none := by kernel_rfl
set_option maxRecDepth 100000 in
theorem laidOut : laidOutB Try.prog = true := factLaid
set_option maxRecDepth 100000 in
theorem lifted (os : Os) (started : os.Started) (H : Type) (enc : TypeId × Value → H) :
    ReturnsInHanded {} Try.checked os 3 .any (Rows.fnExactNewCpuSpec.pre6 enc Try.prog Try.f3 Rows.fnExactNewCpuRow.domain false) (Rows.fnExactNewCpuSpec.post enc Try.prog Try.f3 false true false false) := by
  refine returnsInHanded_of_change (C := Try.checked) own started (by kernel_rfl) Try.func3
    (ChangeSpec.witness6 (enc := enc) (C := Try.checked) false ⟨#[], #[], []⟩ 8 (by kernel_rfl) (by kernel_rfl) (by kernel_rfl) (by kernel_rfl)) ?_
  intro W base args ds gs before hval0 hW hcnd _
  have hval : ∀ (j : Nat) t v, Try.f3.params[j]? = some t → args[j]? = some v → Value.okWide Try.prog W .any base t v := hval0
  have hW' := hW
  obtain ⟨p, q, hA0, hV, rfl, hfz, hnd⟩ := hW
  have hA : DataW.TrodAll enc Try.prog W 0 (fun _ => true) true Try.f3.params.toList args.toList ds p := hA0
  rw [Try.params3] at hA hval
  obtain ⟨rfl, rfl, rfl⟩ := trodAll_none hA
  obtain ⟨rfl, rfl⟩ := trodVars_none hV
  clear hA0 hval0
  refine (walk  W ).mono fun e W' ⟨he, bel⟩ => ?_
  subst he
  exact ⟨_, rfl, _, _, _, [], _, [], hW', trodAll_mk1 (shut_bool Try.underlying4 _), trodAll_mk0, rfl, bel.frame _, fun h => by cases h⟩

theorem k0 : (Rows.fnExactNewCpuRow.wf (OpenSpec.ofChange Rows.fnExactNewCpuSpec)) = true := by kernel_rfl
set_option maxRecDepth 100000 in
theorem k3 : (Try.f3.params.all (Try.prog.readableRec ·)) = true := by kernel_rfl
set_option maxRecDepth 100000 in
theorem k4 : (namedTie Try.prog Rows.fnExactNewCpuRow.named Rows.fnExactNewCpuSpec.vars) = true := by kernel_rfl
theorem k5 : ((Rows.fnExactNewCpuRow.stops == [])) = true := by kernel_rfl
set_option maxRecDepth 100000 in
theorem k6 : ((Try.prog.stops == [])) = true := by kernel_rfl
theorem k7 : ((Rows.fnExactNewCpuRow.knobs == [])) = true := by kernel_rfl
set_option maxRecDepth 100000 in
theorem k8 : ((Try.prog.stopKnobs == [])) = true := by kernel_rfl
set_option maxRecDepth 100000 in
theorem k9 : ((Rows.fnExactNewCpuRow.inPlace == Try.prog.inPlace 3)) = true := by kernel_rfl
set_option maxRecDepth 100000 in
theorem k10 : ((Rows.fnExactNewCpuRow.unfollowed == Try.prog.unfollowed 3)) = true := by kernel_rfl
set_option maxRecDepth 100000 in
theorem k11 : ((Rows.fnExactNewCpuRow.recurses == Try.prog.recurses 3)) = true := by kernel_rfl
set_option maxRecDepth 100000 in
theorem k12 : ((Rows.fnExactNewCpuRow.named == Try.prog.varsNamed 3)) = true := by kernel_rfl
set_option maxRecDepth 100000 in
theorem k13 : ((Rows.fnExactNewCpuRow.maps == (Try.f3.params.toList ++ Rows.fnExactNewCpuSpec.plain.varTypes Try.prog).any (Try.prog.mapsRec ·))) = true := by kernel_rfl
set_option maxRecDepth 100000 in
theorem k14 : ((Rows.fnExactNewCpuRow.ifaces == (Try.f3.params.toList ++ Rows.fnExactNewCpuSpec.plain.varTypes Try.prog).any (Try.prog.ifacesRec ·))) = true := by kernel_rfl
set_option maxRecDepth 100000 in
theorem k15 : ((Rows.fnExactNewCpuRow.mapsOut == Try.prog.mapsAmong Try.f3.resultTypes.toList)) = true := by kernel_rfl
set_option maxRecDepth 100000 in
theorem k16 : ((Rows.fnExactNewCpuRow.loops == (Try.f3.params.toList ++ Rows.fnExactNewCpuSpec.plain.varTypes Try.prog).any (Try.prog.loopsFrom ·))) = true := by kernel_rfl
set_option maxRecDepth 100000 in
theorem k17 : ((Rows.fnExactNewCpuRow.wideKeys == (Try.f3.params.toList ++ Rows.fnExactNewCpuSpec.plain.varTypes Try.prog ++ Try.f3.resultTypes.toList).any (Try.prog.wideKeysFrom ·))) = true := by kernel_rfl
set_option maxRecDepth 100000 in
theorem k18 : (Rows.fnExactNewCpuSpec.vars.all (Try.prog.varReadable ·)) = true := by kernel_rfl
set_option maxRecDepth 100000 in
theorem k19 : (Try.f3.resultTypes.all (fun t => Try.prog.readableRec t && decide (t < Try.prog.types.size))) = true := by kernel_rfl
set_option maxRecDepth 100000 in
theorem k20 : ((Rows.fnExactNewCpuRow.ifacesOut == Try.f3.resultTypes.toList.any (Try.prog.ifacesRec ·))) = true := by kernel_rfl
set_option maxRecDepth 100000 in
theorem k21 : ((Rows.fnExactNewCpuRow.loopsOut == Try.f3.resultTypes.toList.any (Try.prog.loopsFrom ·))) = true := by kernel_rfl
set_option maxRecDepth 100000 in
theorem k22 : ((Rows.fnExactNewCpuRow.plainKeys == Try.prog.plainKeys)) = true := by kernel_rfl
theorem k23 : (Rows.fnExactNewCpuRow.shortTexts.isNone) = true := by kernel_rfl
set_option maxRecDepth 100000 in
theorem k28 : ((Rows.fnExactNewCpuRow.kinds == (if Rows.fnExactNewCpuRow.domain.isEmpty then [] else Try.f3.params.toList.map fun t => match Try.prog.underlying t with | some (.int k) => some k | _ => none))) = true := by kernel_rfl
theorem k29 : ((Rows.fnExactNewCpuRow.pinned == Rows.fnExactNewCpuRow.pinnedBy)) = true := by kernel_rfl
set_option maxRecDepth 100000 in
theorem k30 : ((Rows.fnExactNewCpuRow.veiled == (Try.f3.params.toList ++ Rows.fnExactNewCpuSpec.plain.varTypes Try.prog ++ Try.f3.resultTypes.toList).any (Try.prog.veiledRec ·))) = true := by kernel_rfl
set_option maxRecDepth 100000 in
theorem k31 : (Rows.fnExactNewCpuRow.veiledFits Try.prog Try.f3.params.toList (Try.f3.params.toList ++ Rows.fnExactNewCpuSpec.plain.varTypes Try.prog ++ Try.f3.resultTypes.toList)) = true := by kernel_rfl
set_option maxRecDepth 100000 in
theorem facts : joinedFacts Try.prog 3 Try.f3 Rows.fnExactNewCpuSpec Rows.fnExactNewCpuRow = true := (and_mk (and_mk (and_mk (and_mk (and_mk (and_mk (and_mk (and_mk (and_mk (and_mk (and_mk (and_mk (and_mk (and_mk (and_mk (and_mk (and_mk (and_mk (and_mk (and_mk (and_mk (and_mk (and_mk (and_mk (and_mk (and_mk (and_mk (and_mk (and_mk (and_mk (and_mk k0 factLaid) factRowed) k3) k4) k5) k6) k7) k8) k9) k10) k11) k12) k13) k14) k15) k16) k17) k18) k19) k20) k21) k22) k23) factHeard) factEnter) factLift) factMake) k28) k29) k30) k31)
set_option maxRecDepth 100000 in
theorem named : Try.prog.funcNamed Rows.fnExactNewCpuRow.func = some 3 := by kernel_rfl
set_option maxRecDepth 100000 in
theorem inst : Try.f3.isInstance Try.prog Rows.fnExactNewCpuRow.origin Rows.fnExactNewCpuRow.targs := of_decide_eq_true (by kernel_rfl)
set_option maxRecDepth 100000 in
theorem over : Rows.fnExactNewCpuRow.holds Try.pinned (OpenSpec.ofChange Rows.fnExactNewCpuSpec) :=
  OpenClaim.holds_of_wide 3 Try.f3 rfl rfl rfl rfl rfl rfl rfl ⟨rfl, rfl, rfl, rfl, rfl⟩ rfl rfl rfl rfl rfl named Try.func3 facts
    inst (by unfold Func.isWrapper; first | (rw [if_pos (by decide +kernel)]; kernel_rfl) | (rw [if_neg (by decide +kernel)]; exact ⟨rfl, rfl⟩))
    (fun os started H enc _ => lifted os started H enc)
theorem proved : Rows.FnExactNewCpuSaid := over
#print axioms proved
end Go.Proofs.Ytieljgoodmoacaa.fnExactNewCpu
