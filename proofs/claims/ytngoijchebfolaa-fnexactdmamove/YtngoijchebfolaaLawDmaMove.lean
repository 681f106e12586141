/- For every Mem and []Channel and int, laws.FnExactDmaMove returns true: impl.DmaMove answers as the model spec.DmaMove, every field, leaves its arguments alone, and its result is memory of its own. No condition. -/
import Derived.Test.YtngoijchebfolaaM9
import Derived.Test.YtngoijchebfolaaM6
import Derived.Test.YtngoijchebfolaaM4
import Derived.Test.YtngoijchebfolaaFactA
import Derived.Test.YtngoijchebfolaaFactB
import Derived.Test.YtngoijchebfolaaFactC
import Derived.Test.YtngoijchebfolaaFactD
import Derived.Deep.RegionHeld3
import Derived.ProofKit
import Derived.OpenShut
import Derived.ShutString
import Derived.ChangeOld
namespace Go.Proofs.Ytngoijchebfolaa.fnExactDmaMove
open Go.RowKit

set_option maxRecDepth 100000 in
set_option maxHeartbeats 16000000 in
theorem walk (a0vA0 a0vA1 a0vA2 a0vA3 : Option Addr) (a0vc0 a0vc1 a0vc2 a0vc3 : Nat) (a0d0 : List Int) (a0d1 : List Int) (a0d2 : List Int) (a0d3 : List Bool) (a0d4 : Int) (a1vA0 : Option Addr) (a1vc0 : Nat) (a1d0 : List TChannel) (a2d0 : Int) (w : World) (h0 : RepA w [.slice a0vA0 a0d0.length a0vc0, .slice a0vA1 a0d1.length a0vc1, .slice a0vA2 a0d2.length a0vc2, .slice a0vA3 a0d3.length a0vc3] [Lf.I a0d0, Lf.I a0d1, Lf.I a0d2, Lf.B a0d3]) (f0 : FitA [Lf.I a0d0, Lf.I a0d1, Lf.I a0d2, Lf.B a0d3]) (h1 : RepA w [.slice a1vA0 a1d0.length a1vc0] [rChannel a1d0]) (f1 : FitA [rChannel a1d0]) :
    Calls Try.prog 8 #[.agg #[.slice a0vA0 a0d0.length a0vc0, .slice a0vA1 a0d1.length a0vc1, .slice a0vA2 a0d2.length a0vc2, .slice a0vA3 a0d3.length a0vc3, .int .i64 a0d4], .slice a1vA0 a1d0.length a1vc0, .int .i64 a2d0] w fun e w' => e = .returned (.bool true) ∧ Below w.heap.size w w' := by
  have HSz0 := Lib.hid (fun W (hb : Below w.heap.size w W) l g0 g1 => szMemA a0vA0 a0vA1 a0vA2 a0vA3 a0vc0 a0vc1 a0vc2 a0vc3 a0d0 a0d1 a0d2 a0d3 a0d4 l W (h0.below hb) f0 g0 g1)
  have HTo0 := Lib.hid (fun W (hb : Below w.heap.size w W) (z : szA [Lf.I a0d0, Lf.I a0d1, Lf.I a0d2, Lf.B a0d3] ≤ 1048576) => toMemA a0vA0 a0vA1 a0vA2 a0vA3 a0vc0 a0vc1 a0vc2 a0vc3 a0d0 a0d1 a0d2 a0d3 a0d4 W (h0.below hb) z)
  have HSz1 := Lib.hid (fun W (hb : Below w.heap.size w W) l g0 g1 => szLRChannel (.slice a1vA0 a1d0.length a1vc0) a1d0 l W (h1.below hb).1 (f1 _ (by simp)) g0 g1)
  have HTo1 := Lib.hid (fun W (hb : Below w.heap.size w W) (z : szA [rChannel a1d0] ≤ 1048576) => toLRChannel (.slice a1vA0 a1d0.length a1vc0) a1d0 W (h1.below hb).1 (by have q := z; simp only [szA, Lf.sz_I, Lf.sz_B, Lf.sz_S, sz_rChannel] at q; omega))
  have HSpec := Lib.hid (fun W (q0vA0 q0vA1 q0vA2 q0vA3 : Option Addr) (q0vc0 q0vc1 q0vc2 q0vc3 : Nat) (q1vA0 : Option Addr) (q1vc0 : Nat) (h0 : RepA W [.slice q0vA0 a0d0.length q0vc0, .slice q0vA1 a0d1.length q0vc1, .slice q0vA2 a0d2.length q0vc2, .slice q0vA3 a0d3.length q0vc3] [Lf.I a0d0, Lf.I a0d1, Lf.I a0d2, Lf.B a0d3]) (c0 : CapA [.slice q0vA0 a0d0.length q0vc0, .slice q0vA1 a0d1.length q0vc1, .slice q0vA2 a0d2.length q0vc2, .slice q0vA3 a0d3.length q0vc3]) (z0 : szA [Lf.I a0d0, Lf.I a0d1, Lf.I a0d2, Lf.B a0d3] ≤ 1048576) (h1 : RepA W [.slice q1vA0 a1d0.length q1vc0] [rChannel a1d0]) (c1 : CapA [.slice q1vA0 a1d0.length q1vc0]) (z1 : szA [rChannel a1d0] ≤ 1048576) => specDmaMoveA q0vA0 q0vA1 q0vA2 q0vA3 q0vc0 q0vc1 q0vc2 q0vc3 a0d0 a0d1 a0d2 a0d3 a0d4 q1vA0 q1vc0 a1d0 a2d0 W h0 c0 z0 h1 c1 z1 )
  have HImpl := Lib.hid (fun W (q0vA0 q0vA1 q0vA2 q0vA3 : Option Addr) (q0vc0 q0vc1 q0vc2 q0vc3 : Nat) (q1vA0 : Option Addr) (q1vc0 : Nat) (h0 : RepA W [.slice q0vA0 a0d0.length q0vc0, .slice q0vA1 a0d1.length q0vc1, .slice q0vA2 a0d2.length q0vc2, .slice q0vA3 a0d3.length q0vc3] [Lf.I a0d0, Lf.I a0d1, Lf.I a0d2, Lf.B a0d3]) (c0 : CapA [.slice q0vA0 a0d0.length q0vc0, .slice q0vA1 a0d1.length q0vc1, .slice q0vA2 a0d2.length q0vc2, .slice q0vA3 a0d3.length q0vc3]) (z0 : szA [Lf.I a0d0, Lf.I a0d1, Lf.I a0d2, Lf.B a0d3] ≤ 1048576) (h1 : RepA W [.slice q1vA0 a1d0.length q1vc0] [rChannel a1d0]) (c1 : CapA [.slice q1vA0 a1d0.length q1vc0]) (z1 : szA [rChannel a1d0] ≤ 1048576) => implDmaMoveA q0vA0 q0vA1 q0vA2 q0vA3 q0vc0 q0vc1 q0vc2 q0vc3 a0d0 a0d1 a0d2 a0d3 a0d4 q1vA0 q1vc0 a1d0 a2d0 W h0 c0 z0 h1 c1 z1 )
  unfold GivesMR at HSpec HImpl
  have HBnd := Lib.hid (fun (z0 : szA [Lf.I a0d0, Lf.I a0d1, Lf.I a0d2, Lf.B a0d3] ≤ 1048576) (z1 : szA [rChannel a1d0] ≤ 1048576) => (show lenA [Lf.I ((dmaM ⟨a0d0, a0d1, a0d2, a0d3, a0d4⟩ a1d0 a2d0).r), Lf.I ((dmaM ⟨a0d0, a0d1, a0d2, a0d3, a0d4⟩ a1d0 a2d0).i), Lf.I ((dmaM ⟨a0d0, a0d1, a0d2, a0d3, a0d4⟩ a1d0 a2d0).z), Lf.B ((dmaM ⟨a0d0, a0d1, a0d2, a0d3, a0d4⟩ a1d0 a2d0).g), rChannel (dmaR ⟨a0d0, a0d1, a0d2, a0d3, a0d4⟩ a1d0 a2d0)] ≤ 4294967296 from dma_bnd _ _ _ z1))
  generalize (dmaM ⟨a0d0, a0d1, a0d2, a0d3, a0d4⟩ a1d0 a2d0).r = r0d0 at HSpec HImpl HBnd
  generalize (dmaM ⟨a0d0, a0d1, a0d2, a0d3, a0d4⟩ a1d0 a2d0).i = r0d1 at HSpec HImpl HBnd
  generalize (dmaM ⟨a0d0, a0d1, a0d2, a0d3, a0d4⟩ a1d0 a2d0).z = r0d2 at HSpec HImpl HBnd
  generalize (dmaM ⟨a0d0, a0d1, a0d2, a0d3, a0d4⟩ a1d0 a2d0).g = r0d3 at HSpec HImpl HBnd
  generalize (dmaM ⟨a0d0, a0d1, a0d2, a0d3, a0d4⟩ a1d0 a2d0).s = r0d4 at HSpec HImpl HBnd
  generalize dmaR ⟨a0d0, a0d1, a0d2, a0d3, a0d4⟩ a1d0 a2d0 = r1d0 at HSpec HImpl HBnd
  generalize dmaT ⟨a0d0, a0d1, a0d2, a0d3, a0d4⟩ a1d0 a2d0 = r2d0 at HSpec HImpl HBnd
  generalize moveCode ⟨a0d0, a0d1, a0d2, a0d3, a0d4⟩ a1d0 a2d0 = r3d0 at HSpec HImpl HBnd
  have qr2d0 : (r2d0 != r2d0) = false := by simp
  have qr3d0 : (r3d0 != r3d0) = false := by simp
  clear h0 f0 h1 f1
  have H0 : Hid (Below w.heap.size w w) := Lib.hid (Below.refl _ _)
  go_enter Try.func8, Try.ntmps8
  obtain ⟨W1, hW1⟩ : ∃ W1, W1 = (w.alloc (.cells #[.slice a0vA0 a0d0.length a0vc0, .slice a0vA1 a0d1.length a0vc1, .slice a0vA2 a0d2.length a0vc2, .slice a0vA3 a0d3.length a0vc3, .int .i64 a0d4] 47)) := ⟨_, rfl⟩
  have hba : Below w.heap.size w W1 := by rw [hW1]; exact ((Below.refl _ _).alloc (Nat.le_refl _) _)
  have Z2 : Hid (W1.heap.size = w.heap.size + 1) := Lib.hid (by rw [hW1]; simp)
  have B3 : Hid (Box W1 (w.heap.size) 47 #[.slice a0vA0 a0d0.length a0vc0, .slice a0vA1 a0d1.length a0vc1, .slice a0vA2 a0d2.length a0vc2, .slice a0vA3 a0d3.length a0vc3, .int .i64 a0d4]) := Lib.hid (by rw [hW1]; exact (Box.new w 47 #[.slice a0vA0 a0d0.length a0vc0, .slice a0vA1 a0d1.length a0vc1, .slice a0vA2 a0d2.length a0vc2, .slice a0vA3 a0d3.length a0vc3, .int .i64 a0d4]))
  have H4 := Lib.hid (bt H0.out hba)
  have Z5 : Hid (w.heap.size ≤ W1.heap.size) := Lib.hid hba.size
  clear H0 hba
  have HW1 := Lib.hid hW1
  clear hW1
  go_wp2_with fail
  rw [← HW1.out]
  refine (HSz0.out _ H4.out _ (by omega) (by omega)).mono ?_
  rintro e w6 ⟨hres, hc⟩
  clear HW1
  have F7 := Lib.hid (B3.out.step hc)
  have H8 := Lib.hid (bt H4.out hc)
  have Z9 : Hid (W1.heap.size ≤ w6.heap.size) := Lib.hid hc.size
  clear B3 H4 hc
  clear HSz0
  rcases hres with rfl | ⟨rfl, hle0⟩
  · go_wp2
    go_ret
    exact ⟨rfl, H8.out⟩
  have z0 : szA [Lf.I a0d0, Lf.I a0d1, Lf.I a0d2, Lf.B a0d3] ≤ 1048576 := by omega
  generalize hu0 : szA [Lf.I a0d0, Lf.I a0d1, Lf.I a0d2, Lf.B a0d3] = u0 at hle0 ⊢
  clear hu0
  have hp0 : ¬ (1048576 : Int) - (u0 : Int) < 0 := by omega
  go_wp2_with fail
  refine (HSz1.out _ H8.out _ (by omega) (by omega)).mono ?_
  rintro e w10 ⟨hres, hc⟩
  have F11 := Lib.hid (F7.out.step hc)
  have H12 := Lib.hid (bt H8.out hc)
  have Z13 : Hid (w6.heap.size ≤ w10.heap.size) := Lib.hid hc.size
  clear F7 H8 hc
  clear HSz1
  rcases hres with rfl | ⟨rfl, hle1⟩
  · go_wp2
    go_ret
    exact ⟨rfl, H12.out⟩
  have z1 : szA [rChannel a1d0] ≤ 1048576 := by simp only [szA] at hle1 ⊢; omega
  generalize hu1 : Lf.sz (rChannel a1d0) = u1 at hle1 ⊢
  clear hu1
  have hp1 : ¬ (1048576 : Int) - (u0 : Int) - (u1 : Int) < 0 := by omega
  have HBd := Lib.hid (HBnd.out z0 z1)
  clear HBnd
  have HBr0 : Hid (lenA [Lf.I r0d0, Lf.I r0d1, Lf.I r0d2, Lf.B r0d3] ≤ 4294967296) := Lib.hid (by have := HBd.out; simp only [lenA] at this ⊢; omega)
  have HBr1 : Hid ((rChannel r1d0).len ≤ 4294967296) := Lib.hid (by have := HBd.out; simp only [lenA] at this; omega)
  have f0 : w10.cell? ⟨w.heap.size, 0, none⟩ = some (.slice a0vA0 a0d0.length a0vc0) := F11.out.cell 0 rfl
  have f1 : w10.cell? ⟨w.heap.size, 1, none⟩ = some (.slice a0vA1 a0d1.length a0vc1) := F11.out.cell 1 rfl
  have f2 : w10.cell? ⟨w.heap.size, 2, none⟩ = some (.slice a0vA2 a0d2.length a0vc2) := F11.out.cell 2 rfl
  have f3 : w10.cell? ⟨w.heap.size, 3, none⟩ = some (.slice a0vA3 a0d3.length a0vc3) := F11.out.cell 3 rfl
  have f4 : w10.cell? ⟨w.heap.size, 4, none⟩ = some (.int .i64 a0d4) := F11.out.cell 4 rfl
  go_wp2_with fail
  refine (HTo0.out _ H12.out z0).mono ?_
  rintro e w15 ⟨t14vA0, t14vA1, t14vA2, t14vA3, t14vc0, t14vc1, t14vc2, t14vc3, rfl, Nt14, Kt14, hc⟩
  clear f0 f1 f2 f3 f4
  have F16 := Lib.hid (F11.out.step hc)
  have H17 := Lib.hid (bt H12.out hc)
  have Z18 : Hid (w10.heap.size ≤ w15.heap.size) := Lib.hid hc.size
  clear F11 H12 hc
  go_wp2_with fail
  refine (HTo1.out _ H17.out z1).mono ?_
  rintro e w20 ⟨t19vA0, t19vc0, rfl, Nt19, Kt19, hc⟩
  have F21 := Lib.hid (F16.out.step hc)
  have F22 := Lib.hid (Nt14.out.below hc)
  have H23 := Lib.hid (bt H17.out hc)
  have Z24 : Hid (w15.heap.size ≤ w20.heap.size) := Lib.hid hc.size
  clear F16 Nt14 H17 hc
  have Ot19 := Lib.hid (OwnA.one Nt19.out)
  clear Nt19
  have Kt19 := Lib.hid (CapA.cons Kt19.out CapA.nil)
  go_wp2_with fail
  refine (HSpec.out w20 t14vA0 t14vA1 t14vA2 t14vA3 t14vc0 t14vc1 t14vc2 t14vc3 t19vA0 t19vc0 F22.out.reads Kt14.out z0 Ot19.out.reads Kt19.out z1).mono ?_
  rintro e w25 ⟨w0vA0, w0vA1, w0vA2, w0vA3, w1vA0, w0vc0, w0vc1, w0vc2, w0vc3, w1vc0, rfl, Nw, hc⟩
  have F26 := Lib.hid (F21.out.step hc)
  have F27 := Lib.hid (F22.out.below hc)
  have F28 := Lib.hid (Ot19.out.below hc)
  have H29 := Lib.hid (bt H23.out hc)
  have Z30 : Hid (w20.heap.size ≤ w25.heap.size) := Lib.hid hc.size
  clear F21 F22 Ot19 H23 hc
  clear F27 Kt14
  clear F28 Kt19
  clear HSpec
  obtain ⟨W31, hW31⟩ : ∃ W31, W31 = (w25.alloc (.cells #[.slice w0vA0 r0d0.length w0vc0, .slice w0vA1 r0d1.length w0vc1, .slice w0vA2 r0d2.length w0vc2, .slice w0vA3 r0d3.length w0vc3, .int .i64 r0d4] 28)) := ⟨_, rfl⟩
  have hba : Below w25.heap.size w25 W31 := by rw [hW31]; exact ((Below.refl _ _).alloc (Nat.le_refl _) _)
  have Z32 : Hid (W31.heap.size = w25.heap.size + 1) := Lib.hid (by rw [hW31]; simp)
  have B33 : Hid (Box W31 (w25.heap.size) 28 #[.slice w0vA0 r0d0.length w0vc0, .slice w0vA1 r0d1.length w0vc1, .slice w0vA2 r0d2.length w0vc2, .slice w0vA3 r0d3.length w0vc3, .int .i64 r0d4]) := Lib.hid (by rw [hW31]; exact (Box.new w25 28 #[.slice w0vA0 r0d0.length w0vc0, .slice w0vA1 r0d1.length w0vc1, .slice w0vA2 r0d2.length w0vc2, .slice w0vA3 r0d3.length w0vc3, .int .i64 r0d4]))
  have F34 := Lib.hid (F26.out.step hba)
  have F35 := Lib.hid (Nw.out.below hba)
  have H36 := Lib.hid (bt H29.out hba)
  have Z37 : Hid (w25.heap.size ≤ W31.heap.size) := Lib.hid hba.size
  clear F26 Nw H29 hba
  have HW31 := Lib.hid hW31
  clear hW31
  have f0 : W31.cell? ⟨w.heap.size, 0, none⟩ = some (.slice a0vA0 a0d0.length a0vc0) := F34.out.cell 0 rfl
  have f1 : W31.cell? ⟨w.heap.size, 1, none⟩ = some (.slice a0vA1 a0d1.length a0vc1) := F34.out.cell 1 rfl
  have f2 : W31.cell? ⟨w.heap.size, 2, none⟩ = some (.slice a0vA2 a0d2.length a0vc2) := F34.out.cell 2 rfl
  have f3 : W31.cell? ⟨w.heap.size, 3, none⟩ = some (.slice a0vA3 a0d3.length a0vc3) := F34.out.cell 3 rfl
  have f4 : W31.cell? ⟨w.heap.size, 4, none⟩ = some (.int .i64 a0d4) := F34.out.cell 4 rfl
  rw [HW31.out] at f0 f1 f2 f3 f4
  go_wp2_with fail
  rw [← HW31.out]
  refine (HTo0.out _ H36.out z0).mono ?_
  rintro e w38 ⟨x0vA0, x0vA1, x0vA2, x0vA3, x0vc0, x0vc1, x0vc2, x0vc3, rfl, Nx0, Kx0, hc⟩
  clear f0 f1 f2 f3 f4 HW31
  have F39 := Lib.hid (F34.out.step hc)
  have F40 := Lib.hid (F35.out.below hc)
  have F41 := Lib.hid (B33.out.step hc)
  have H42 := Lib.hid (bt H36.out hc)
  have Z43 : Hid (W31.heap.size ≤ w38.heap.size) := Lib.hid hc.size
  clear F34 F35 B33 H36 hc
  obtain ⟨W44, hW44⟩ : ∃ W44, W44 = (w38.alloc (.cells #[.slice x0vA0 a0d0.length x0vc0, .slice x0vA1 a0d1.length x0vc1, .slice x0vA2 a0d2.length x0vc2, .slice x0vA3 a0d3.length x0vc3, .int .i64 a0d4] 28)) := ⟨_, rfl⟩
  have hba : Below w38.heap.size w38 W44 := by rw [hW44]; exact ((Below.refl _ _).alloc (Nat.le_refl _) _)
  have Z45 : Hid (W44.heap.size = w38.heap.size + 1) := Lib.hid (by rw [hW44]; simp)
  have B46 : Hid (Box W44 (w38.heap.size) 28 #[.slice x0vA0 a0d0.length x0vc0, .slice x0vA1 a0d1.length x0vc1, .slice x0vA2 a0d2.length x0vc2, .slice x0vA3 a0d3.length x0vc3, .int .i64 a0d4]) := Lib.hid (by rw [hW44]; exact (Box.new w38 28 #[.slice x0vA0 a0d0.length x0vc0, .slice x0vA1 a0d1.length x0vc1, .slice x0vA2 a0d2.length x0vc2, .slice x0vA3 a0d3.length x0vc3, .int .i64 a0d4]))
  have F47 := Lib.hid (F39.out.step hba)
  have F48 := Lib.hid (F40.out.below hba)
  have F49 := Lib.hid (F41.out.step hba)
  have F50 := Lib.hid (Nx0.out.below hba)
  have H51 := Lib.hid (bt H42.out hba)
  have Z52 : Hid (w38.heap.size ≤ W44.heap.size) := Lib.hid hba.size
  clear F39 F40 F41 Nx0 H42 hba
  have HW44 := Lib.hid hW44
  clear hW44
  go_wp2_with fail
  rw [← HW44.out]
  refine (HTo1.out _ H51.out z1).mono ?_
  rintro e w53 ⟨x1vA0, x1vc0, rfl, Nx1, Kx1, hc⟩
  clear HW44
  have F54 := Lib.hid (F47.out.step hc)
  have F55 := Lib.hid (F48.out.below hc)
  have F56 := Lib.hid (F49.out.step hc)
  have F57 := Lib.hid (F50.out.below hc)
  have F58 := Lib.hid (B46.out.step hc)
  have H59 := Lib.hid (bt H51.out hc)
  have Z60 : Hid (W44.heap.size ≤ w53.heap.size) := Lib.hid hc.size
  clear F47 F48 F49 F50 B46 H51 hc
  have Ox1 := Lib.hid (OwnA.one Nx1.out)
  clear Nx1
  have Kx1 := Lib.hid (CapA.cons Kx1.out CapA.nil)
  have f0 : w53.cell? ⟨w38.heap.size, 0, none⟩ = some (.slice x0vA0 a0d0.length x0vc0) := F58.out.cell 0 rfl
  have f1 : w53.cell? ⟨w38.heap.size, 1, none⟩ = some (.slice x0vA1 a0d1.length x0vc1) := F58.out.cell 1 rfl
  have f2 : w53.cell? ⟨w38.heap.size, 2, none⟩ = some (.slice x0vA2 a0d2.length x0vc2) := F58.out.cell 2 rfl
  have f3 : w53.cell? ⟨w38.heap.size, 3, none⟩ = some (.slice x0vA3 a0d3.length x0vc3) := F58.out.cell 3 rfl
  have f4 : w53.cell? ⟨w38.heap.size, 4, none⟩ = some (.int .i64 a0d4) := F58.out.cell 4 rfl
  go_wp2_with fail
  refine (HImpl.out w53 x0vA0 x0vA1 x0vA2 x0vA3 x0vc0 x0vc1 x0vc2 x0vc3 x1vA0 x1vc0 F57.out.reads Kx0.out z0 Ox1.out.reads Kx1.out z1).mono ?_
  rintro e w61 ⟨g0vA0, g0vA1, g0vA2, g0vA3, g1vA0, g0vc0, g0vc1, g0vc2, g0vc3, g1vc0, rfl, Ng, hc⟩
  clear f0 f1 f2 f3 f4
  have F62 := Lib.hid (F54.out.step hc)
  have F63 := Lib.hid (F55.out.below hc)
  have F64 := Lib.hid (F56.out.step hc)
  have F65 := Lib.hid (F57.out.below hc)
  have F66 := Lib.hid (F58.out.step hc)
  have F67 := Lib.hid (Ox1.out.below hc)
  have H68 := Lib.hid (bt H59.out hc)
  have Z69 : Hid (w53.heap.size ≤ w61.heap.size) := Lib.hid hc.size
  clear F54 F55 F56 F57 F58 Ox1 H59 hc
  obtain ⟨W70, hW70⟩ : ∃ W70, W70 = (w61.alloc (.cells #[.slice g0vA0 r0d0.length g0vc0, .slice g0vA1 r0d1.length g0vc1, .slice g0vA2 r0d2.length g0vc2, .slice g0vA3 r0d3.length g0vc3, .int .i64 r0d4] 28)) := ⟨_, rfl⟩
  have hba : Below w61.heap.size w61 W70 := by rw [hW70]; exact ((Below.refl _ _).alloc (Nat.le_refl _) _)
  have Z71 : Hid (W70.heap.size = w61.heap.size + 1) := Lib.hid (by rw [hW70]; simp)
  have B72 : Hid (Box W70 (w61.heap.size) 28 #[.slice g0vA0 r0d0.length g0vc0, .slice g0vA1 r0d1.length g0vc1, .slice g0vA2 r0d2.length g0vc2, .slice g0vA3 r0d3.length g0vc3, .int .i64 r0d4]) := Lib.hid (by rw [hW70]; exact (Box.new w61 28 #[.slice g0vA0 r0d0.length g0vc0, .slice g0vA1 r0d1.length g0vc1, .slice g0vA2 r0d2.length g0vc2, .slice g0vA3 r0d3.length g0vc3, .int .i64 r0d4]))
  have F73 := Lib.hid (F62.out.step hba)
  have F74 := Lib.hid (F63.out.below hba)
  have F75 := Lib.hid (F64.out.step hba)
  have F76 := Lib.hid (F65.out.below hba)
  have F77 := Lib.hid (F66.out.step hba)
  have F78 := Lib.hid (F67.out.below hba)
  have F79 := Lib.hid (Ng.out.below hba)
  have H80 := Lib.hid (bt H68.out hba)
  have Z81 : Hid (w61.heap.size ≤ W70.heap.size) := Lib.hid hba.size
  clear F62 F63 F64 F65 F66 F67 Ng H68 hba
  have HW70 := Lib.hid hW70
  clear hW70
  have f0 : W70.cell? ⟨w25.heap.size, 0, none⟩ = some (.slice w0vA0 r0d0.length w0vc0) := F75.out.cell 0 rfl
  have f1 : W70.cell? ⟨w25.heap.size, 1, none⟩ = some (.slice w0vA1 r0d1.length w0vc1) := F75.out.cell 1 rfl
  have f2 : W70.cell? ⟨w25.heap.size, 2, none⟩ = some (.slice w0vA2 r0d2.length w0vc2) := F75.out.cell 2 rfl
  have f3 : W70.cell? ⟨w25.heap.size, 3, none⟩ = some (.slice w0vA3 r0d3.length w0vc3) := F75.out.cell 3 rfl
  have f4 : W70.cell? ⟨w25.heap.size, 4, none⟩ = some (.int .i64 r0d4) := F75.out.cell 4 rfl
  rw [HW70.out] at f0 f1 f2 f3 f4
  go_wp2_with fail
  rw [← HW70.out]
  refine (eqMemA g0vA0 g0vA1 g0vA2 g0vA3 g0vc0 g0vc1 g0vc2 g0vc3 w0vA0 w0vA1 w0vA2 w0vA3 w0vc0 w0vc1 w0vc2 w0vc3 r0d0 r0d1 r0d2 r0d3 r0d4 W70 (OwnA.seg (a := []) (m := [.slice g0vA0 r0d0.length g0vc0, .slice g0vA1 r0d1.length g0vc1, .slice g0vA2 r0d2.length g0vc2, .slice g0vA3 r0d3.length g0vc3]) (b := [.slice g1vA0 r1d0.length g1vc0]) (da := []) (dm := [Lf.I r0d0, Lf.I r0d1, Lf.I r0d2, Lf.B r0d3]) (db := [rChannel r1d0]) F79.out rfl rfl).reads (OwnA.seg (a := []) (m := [.slice w0vA0 r0d0.length w0vc0, .slice w0vA1 r0d1.length w0vc1, .slice w0vA2 r0d2.length w0vc2, .slice w0vA3 r0d3.length w0vc3]) (b := [.slice w1vA0 r1d0.length w1vc0]) (da := []) (dm := [Lf.I r0d0, Lf.I r0d1, Lf.I r0d2, Lf.B r0d3]) (db := [rChannel r1d0]) F74.out rfl rfl).reads (Nat.le_trans HBr0.out (by unfold maxLen; omega))).mono ?_
  rintro e w82 ⟨rfl, hc⟩
  clear f0 f1 f2 f3 f4 HW70
  have F83 := Lib.hid (F73.out.step hc)
  have F84 := Lib.hid (F74.out.below hc)
  have F85 := Lib.hid (F75.out.step hc)
  have F86 := Lib.hid (F76.out.below hc)
  have F87 := Lib.hid (F77.out.step hc)
  have F88 := Lib.hid (F78.out.below hc)
  have F89 := Lib.hid (F79.out.below hc)
  have F90 := Lib.hid (B72.out.step hc)
  have H91 := Lib.hid (bt H80.out hc)
  have Z92 : Hid (W70.heap.size ≤ w82.heap.size) := Lib.hid hc.size
  clear F73 F74 F75 F76 F77 F78 F79 B72 H80 hc
  go_wp2_with fail
  refine (eqLRChannel (.slice g1vA0 r1d0.length g1vc0) (.slice w1vA0 r1d0.length w1vc0) r1d0 w82 (OwnA.seg (a := [.slice g0vA0 r0d0.length g0vc0, .slice g0vA1 r0d1.length g0vc1, .slice g0vA2 r0d2.length g0vc2, .slice g0vA3 r0d3.length g0vc3]) (m := [.slice g1vA0 r1d0.length g1vc0]) (b := []) (da := [Lf.I r0d0, Lf.I r0d1, Lf.I r0d2, Lf.B r0d3]) (dm := [rChannel r1d0]) (db := []) F89.out rfl rfl).reads.1 (OwnA.seg (a := [.slice w0vA0 r0d0.length w0vc0, .slice w0vA1 r0d1.length w0vc1, .slice w0vA2 r0d2.length w0vc2, .slice w0vA3 r0d3.length w0vc3]) (m := [.slice w1vA0 r1d0.length w1vc0]) (b := []) (da := [Lf.I r0d0, Lf.I r0d1, Lf.I r0d2, Lf.B r0d3]) (dm := [rChannel r1d0]) (db := []) F84.out rfl rfl).reads.1 (by have q := HBr1.out; simp only [Lf.len_I, Lf.len_B, Lf.len_S, len_rChannel] at q; unfold maxLen; omega)).mono ?_
  rintro e w93 ⟨rfl, hc⟩
  have F94 := Lib.hid (F83.out.step hc)
  have F95 := Lib.hid (F84.out.below hc)
  have F96 := Lib.hid (F85.out.step hc)
  have F97 := Lib.hid (F86.out.below hc)
  have F98 := Lib.hid (F87.out.step hc)
  have F99 := Lib.hid (F88.out.below hc)
  have F100 := Lib.hid (F89.out.below hc)
  have F101 := Lib.hid (F90.out.step hc)
  have H102 := Lib.hid (bt H91.out hc)
  have Z103 : Hid (w82.heap.size ≤ w93.heap.size) := Lib.hid hc.size
  clear F83 F84 F85 F86 F87 F88 F89 F90 H91 hc
  have f0 : w93.cell? ⟨w.heap.size, 0, none⟩ = some (.slice a0vA0 a0d0.length a0vc0) := F94.out.cell 0 rfl
  have f1 : w93.cell? ⟨w.heap.size, 1, none⟩ = some (.slice a0vA1 a0d1.length a0vc1) := F94.out.cell 1 rfl
  have f2 : w93.cell? ⟨w.heap.size, 2, none⟩ = some (.slice a0vA2 a0d2.length a0vc2) := F94.out.cell 2 rfl
  have f3 : w93.cell? ⟨w.heap.size, 3, none⟩ = some (.slice a0vA3 a0d3.length a0vc3) := F94.out.cell 3 rfl
  have f4 : w93.cell? ⟨w.heap.size, 4, none⟩ = some (.int .i64 a0d4) := F94.out.cell 4 rfl
  have f5 : w93.cell? ⟨w38.heap.size, 0, none⟩ = some (.slice x0vA0 a0d0.length x0vc0) := F98.out.cell 0 rfl
  have f6 : w93.cell? ⟨w38.heap.size, 1, none⟩ = some (.slice x0vA1 a0d1.length x0vc1) := F98.out.cell 1 rfl
  have f7 : w93.cell? ⟨w38.heap.size, 2, none⟩ = some (.slice x0vA2 a0d2.length x0vc2) := F98.out.cell 2 rfl
  have f8 : w93.cell? ⟨w38.heap.size, 3, none⟩ = some (.slice x0vA3 a0d3.length x0vc3) := F98.out.cell 3 rfl
  have f9 : w93.cell? ⟨w38.heap.size, 4, none⟩ = some (.int .i64 a0d4) := F98.out.cell 4 rfl
  have HK := Lib.hid (fun W' (hb : Below w93.heap.size w93 W') => And.intro ((hb.cell (cell_lt f0)).trans f0) (And.intro ((hb.cell (cell_lt f1)).trans f1) (And.intro ((hb.cell (cell_lt f2)).trans f2) (And.intro ((hb.cell (cell_lt f3)).trans f3) (And.intro ((hb.cell (cell_lt f4)).trans f4) (And.intro ((hb.cell (cell_lt f5)).trans f5) (And.intro ((hb.cell (cell_lt f6)).trans f6) (And.intro ((hb.cell (cell_lt f7)).trans f7) (And.intro ((hb.cell (cell_lt f8)).trans f8) ((hb.cell (cell_lt f9)).trans f9))))))))))
  have h6 : Below w93.heap.size w93 w93.drew := (Below.refl _ _).drew
  go_wp2
  go_region_held3 (fun W => W.cell? ⟨w.heap.size, 0, none⟩ = some (.slice a0vA0 a0d0.length a0vc0) ∧ W.cell? ⟨w.heap.size, 1, none⟩ = some (.slice a0vA1 a0d1.length a0vc1) ∧ W.cell? ⟨w.heap.size, 2, none⟩ = some (.slice a0vA2 a0d2.length a0vc2) ∧ W.cell? ⟨w.heap.size, 3, none⟩ = some (.slice a0vA3 a0d3.length a0vc3) ∧ W.cell? ⟨w.heap.size, 4, none⟩ = some (.int .i64 a0d4) ∧ W.cell? ⟨w38.heap.size, 0, none⟩ = some (.slice x0vA0 a0d0.length x0vc0) ∧ W.cell? ⟨w38.heap.size, 1, none⟩ = some (.slice x0vA1 a0d1.length x0vc1) ∧ W.cell? ⟨w38.heap.size, 2, none⟩ = some (.slice x0vA2 a0d2.length x0vc2) ∧ W.cell? ⟨w38.heap.size, 3, none⟩ = some (.slice x0vA3 a0d3.length x0vc3) ∧ W.cell? ⟨w38.heap.size, 4, none⟩ = some (.int .i64 a0d4))
    (first | exact HK.out _ h6 | exact HK.out _ (bt h6 hba) | exact HK.out _ (bt (bt h6 hba) hbb))
    (first | (go_at_call 22; refine (HTo0.out _ H102.out.drew z0).mono ?_; rintro e w105 ⟨t104vA0, t104vA1, t104vA2, t104vA3, t104vc0, t104vc1, t104vc2, t104vc3, rfl, Nt104, Kt104, hba⟩) | (go_at_call 25; refine (eqMemA x0vA0 x0vA1 x0vA2 x0vA3 x0vc0 x0vc1 x0vc2 x0vc3 t104vA0 t104vA1 t104vA2 t104vA3 t104vc0 t104vc1 t104vc2 t104vc3 a0d0 a0d1 a0d2 a0d3 a0d4 w105 (F97.out.below (bt h6 hba)).reads Nt104.out.reads (Nat.le_trans (szA_len _) (by have := z0; unfold maxLen; omega))).mono ?_; rintro e w106 ⟨rfl, hbb⟩))
  have hc : Below w93.heap.size w93 w106 := bt (bt h6 hba) hbb
  have F107 := Lib.hid (F94.out.step hc)
  have F108 := Lib.hid (F95.out.below hc)
  have F109 := Lib.hid (F96.out.step hc)
  have F110 := Lib.hid (F97.out.below hc)
  have F111 := Lib.hid (F98.out.step hc)
  have F112 := Lib.hid (F99.out.below hc)
  have F113 := Lib.hid (F100.out.below hc)
  have F114 := Lib.hid (F101.out.step hc)
  have H115 := Lib.hid (bt H102.out hc)
  have Z116 : Hid (w93.heap.size ≤ w106.heap.size) := Lib.hid hc.size
  clear F94 F95 F96 F97 F98 F99 F100 F101 H102 hc
  clear HK h6 hba hbb Nt104 Kt104 f0 f1 f2 f3 f4 f5 f6 f7 f8 f9
  go_wp2_with fail
  refine (HTo1.out _ H115.out z1).mono ?_
  rintro e w118 ⟨t117vA0, t117vc0, rfl, Nt117, Kt117, hc⟩
  have F119 := Lib.hid (F107.out.step hc)
  have F120 := Lib.hid (F108.out.below hc)
  have F121 := Lib.hid (F109.out.step hc)
  have F122 := Lib.hid (F110.out.below hc)
  have F123 := Lib.hid (F111.out.step hc)
  have F124 := Lib.hid (F112.out.below hc)
  have F125 := Lib.hid (F113.out.below hc)
  have F126 := Lib.hid (F114.out.step hc)
  have H127 := Lib.hid (bt H115.out hc)
  have Z128 : Hid (w106.heap.size ≤ w118.heap.size) := Lib.hid hc.size
  clear F107 F108 F109 F110 F111 F112 F113 F114 H115 hc
  have Ot117 := Lib.hid (OwnA.one Nt117.out)
  clear Nt117
  have Kt117 := Lib.hid (CapA.cons Kt117.out CapA.nil)
  go_wp2_with fail
  refine (eqLRChannel (.slice x1vA0 a1d0.length x1vc0) (.slice t117vA0 a1d0.length t117vc0) a1d0 w118 F124.out.reads.1 Ot117.out.reads.1 (by have q := szA_len [rChannel a1d0]; have q2 := z1; simp only [lenA, Lf.len_I, Lf.len_B, Lf.len_S, len_rChannel] at q; unfold maxLen; omega)).mono ?_
  rintro e w129 ⟨rfl, hc⟩
  have F130 := Lib.hid (F119.out.step hc)
  have F131 := Lib.hid (F120.out.below hc)
  have F132 := Lib.hid (F121.out.step hc)
  have F133 := Lib.hid (F122.out.below hc)
  have F134 := Lib.hid (F123.out.step hc)
  have F135 := Lib.hid (F124.out.below hc)
  have F136 := Lib.hid (F125.out.below hc)
  have F137 := Lib.hid (F126.out.step hc)
  have F138 := Lib.hid (Ot117.out.below hc)
  have H139 := Lib.hid (bt H127.out hc)
  have Z140 : Hid (w118.heap.size ≤ w129.heap.size) := Lib.hid hc.size
  clear F119 F120 F121 F122 F123 F124 F125 F126 Ot117 H127 hc
  clear F138 Kt117
  have f0 : w129.cell? ⟨w38.heap.size, 0, none⟩ = some (.slice x0vA0 a0d0.length x0vc0) := F134.out.cell 0 rfl
  have f1 : w129.cell? ⟨w38.heap.size, 1, none⟩ = some (.slice x0vA1 a0d1.length x0vc1) := F134.out.cell 1 rfl
  have f2 : w129.cell? ⟨w38.heap.size, 2, none⟩ = some (.slice x0vA2 a0d2.length x0vc2) := F134.out.cell 2 rfl
  have f3 : w129.cell? ⟨w38.heap.size, 3, none⟩ = some (.slice x0vA3 a0d3.length x0vc3) := F134.out.cell 3 rfl
  have f4 : w129.cell? ⟨w38.heap.size, 4, none⟩ = some (.int .i64 a0d4) := F134.out.cell 4 rfl
  go_wp2_with fail
  have hk0 : (1 : Nat) ≤ 1 := Nat.le_refl _
  have hlx : lenA [Lf.I a0d0, Lf.I a0d1, Lf.I a0d2, Lf.B a0d3] ≤ 16777216 := Nat.le_trans (szA_len _) (by have := z0; omega)
  have HM := Lib.hid (markMemA x0vA0 x0vA1 x0vA2 x0vA3 x0vc0 x0vc1 x0vc2 x0vc3 a0d0 a0d1 a0d2 a0d3 a0d4 1 W31.heap.size w38.heap.size w129 F133.out (by have := Z2.out; have := Z5.out; have := Z9.out; have := Z13.out; have := Z18.out; have := Z24.out; have := Z30.out; have := Z32.out; have := Z37.out; have := Z43.out; have := Z45.out; have := Z52.out; have := Z60.out; have := Z69.out; have := Z71.out; have := Z81.out; have := Z92.out; have := Z103.out; have := Z116.out; have := Z128.out; have := Z140.out; omega) (by omega) (BndA.of_len (by omega)) (by omega))
  clear hlx hk0
  refine HM.out.mono ?_
  rintro e w141 ⟨rfl, M1, U1⟩
  clear HM M1
  clear f0 f1 f2 f3 f4
  have U2 := U1.btw F133.out
  have F142 := Lib.hid (F130.out.btw U2 (by have := Z2.out; have := Z5.out; have := Z9.out; have := Z13.out; have := Z18.out; have := Z24.out; have := Z30.out; have := Z32.out; have := Z37.out; have := Z43.out; have := Z45.out; have := Z52.out; have := Z60.out; have := Z69.out; have := Z71.out; have := Z81.out; have := Z92.out; have := Z103.out; have := Z116.out; have := Z128.out; have := Z140.out; omega))
  have F143 := Lib.hid (F131.out.btw U2 (by have := Z2.out; have := Z5.out; have := Z9.out; have := Z13.out; have := Z18.out; have := Z24.out; have := Z30.out; have := Z32.out; have := Z37.out; have := Z43.out; have := Z45.out; have := Z52.out; have := Z60.out; have := Z69.out; have := Z71.out; have := Z81.out; have := Z92.out; have := Z103.out; have := Z116.out; have := Z128.out; have := Z140.out; omega))
  have F144 := Lib.hid (F132.out.btw U2 (by have := Z2.out; have := Z5.out; have := Z9.out; have := Z13.out; have := Z18.out; have := Z24.out; have := Z30.out; have := Z32.out; have := Z37.out; have := Z43.out; have := Z45.out; have := Z52.out; have := Z60.out; have := Z69.out; have := Z71.out; have := Z81.out; have := Z92.out; have := Z103.out; have := Z116.out; have := Z128.out; have := Z140.out; omega))
  have F145 := Lib.hid (F134.out.btw U2 (by have := Z2.out; have := Z5.out; have := Z9.out; have := Z13.out; have := Z18.out; have := Z24.out; have := Z30.out; have := Z32.out; have := Z37.out; have := Z43.out; have := Z45.out; have := Z52.out; have := Z60.out; have := Z69.out; have := Z71.out; have := Z81.out; have := Z92.out; have := Z103.out; have := Z116.out; have := Z128.out; have := Z140.out; omega))
  have F146 := Lib.hid (F135.out.btw U2 (by have := Z2.out; have := Z5.out; have := Z9.out; have := Z13.out; have := Z18.out; have := Z24.out; have := Z30.out; have := Z32.out; have := Z37.out; have := Z43.out; have := Z45.out; have := Z52.out; have := Z60.out; have := Z69.out; have := Z71.out; have := Z81.out; have := Z92.out; have := Z103.out; have := Z116.out; have := Z128.out; have := Z140.out; omega))
  have F147 := Lib.hid (F136.out.btw U2 (by have := Z2.out; have := Z5.out; have := Z9.out; have := Z13.out; have := Z18.out; have := Z24.out; have := Z30.out; have := Z32.out; have := Z37.out; have := Z43.out; have := Z45.out; have := Z52.out; have := Z60.out; have := Z69.out; have := Z71.out; have := Z81.out; have := Z92.out; have := Z103.out; have := Z116.out; have := Z128.out; have := Z140.out; omega))
  have F148 := Lib.hid (F137.out.btw U2 (by have := Z2.out; have := Z5.out; have := Z9.out; have := Z13.out; have := Z18.out; have := Z24.out; have := Z30.out; have := Z32.out; have := Z37.out; have := Z43.out; have := Z45.out; have := Z52.out; have := Z60.out; have := Z69.out; have := Z71.out; have := Z81.out; have := Z92.out; have := Z103.out; have := Z116.out; have := Z128.out; have := Z140.out; omega))
  have H149 := Lib.hid (H139.out.trans ((U2.below (by have := Z2.out; have := Z5.out; have := Z9.out; have := Z13.out; have := Z18.out; have := Z24.out; have := Z30.out; have := Z32.out; have := Z37.out; have := Z43.out; have := Z45.out; have := Z52.out; have := Z60.out; have := Z69.out; have := Z71.out; have := Z81.out; have := Z92.out; have := Z103.out; have := Z116.out; have := Z128.out; have := Z140.out; omega)).mono (by have := Z2.out; have := Z5.out; have := Z9.out; have := Z13.out; have := Z18.out; have := Z24.out; have := Z30.out; have := Z32.out; have := Z37.out; have := Z43.out; have := Z45.out; have := Z52.out; have := Z60.out; have := Z69.out; have := Z71.out; have := Z81.out; have := Z92.out; have := Z103.out; have := Z116.out; have := Z128.out; have := Z140.out; omega)))
  have Z150 : Hid (w129.heap.size ≤ w141.heap.size) := Lib.hid U2.size
  clear F130 F131 F132 F134 F135 F136 F137 H139
  clear U1 U2 F133
  generalize hk : 1 + lenA [Lf.I a0d0, Lf.I a0d1, Lf.I a0d2, Lf.B a0d3] = k151
  have hkk151 : 1 ≤ k151 ∧ k151 ≤ 1 + 16777216 := by have q1 := szA_len [Lf.I a0d0, Lf.I a0d1, Lf.I a0d2, Lf.B a0d3]; have q2 := z0; simp only [lenA] at q1 hk; omega
  clear hk
  have hnk151 : ¬ (k151 : Int) < 0 := by omega
  go_wp2_with fail
  have hlx : lenA [rChannel a1d0] ≤ 16777216 := Nat.le_trans (szA_len _) (by have := z1; omega)
  have HM := Lib.hid (markLRChannel (.slice x1vA0 a1d0.length x1vc0) a1d0 k151 W44.heap.size w53.heap.size w141 F146.out.1.1 (by omega) (by have q := hlx; simp only [lenA] at q; omega) (by omega))
  clear hlx
  refine HM.out.mono ?_
  rintro e w152 ⟨rfl, M1, U1⟩
  clear HM M1
  have U2 := U1.btw F146.out
  have F153 := Lib.hid (F142.out.btw U2 (by have := Z2.out; have := Z5.out; have := Z9.out; have := Z13.out; have := Z18.out; have := Z24.out; have := Z30.out; have := Z32.out; have := Z37.out; have := Z43.out; have := Z45.out; have := Z52.out; have := Z60.out; have := Z69.out; have := Z71.out; have := Z81.out; have := Z92.out; have := Z103.out; have := Z116.out; have := Z128.out; have := Z140.out; have := Z150.out; omega))
  have F154 := Lib.hid (F143.out.btw U2 (by have := Z2.out; have := Z5.out; have := Z9.out; have := Z13.out; have := Z18.out; have := Z24.out; have := Z30.out; have := Z32.out; have := Z37.out; have := Z43.out; have := Z45.out; have := Z52.out; have := Z60.out; have := Z69.out; have := Z71.out; have := Z81.out; have := Z92.out; have := Z103.out; have := Z116.out; have := Z128.out; have := Z140.out; have := Z150.out; omega))
  have F155 := Lib.hid (F144.out.btw U2 (by have := Z2.out; have := Z5.out; have := Z9.out; have := Z13.out; have := Z18.out; have := Z24.out; have := Z30.out; have := Z32.out; have := Z37.out; have := Z43.out; have := Z45.out; have := Z52.out; have := Z60.out; have := Z69.out; have := Z71.out; have := Z81.out; have := Z92.out; have := Z103.out; have := Z116.out; have := Z128.out; have := Z140.out; have := Z150.out; omega))
  have F156 := Lib.hid (F145.out.btw U2 (by have := Z2.out; have := Z5.out; have := Z9.out; have := Z13.out; have := Z18.out; have := Z24.out; have := Z30.out; have := Z32.out; have := Z37.out; have := Z43.out; have := Z45.out; have := Z52.out; have := Z60.out; have := Z69.out; have := Z71.out; have := Z81.out; have := Z92.out; have := Z103.out; have := Z116.out; have := Z128.out; have := Z140.out; have := Z150.out; omega))
  have F157 := Lib.hid (F147.out.btw U2 (by have := Z2.out; have := Z5.out; have := Z9.out; have := Z13.out; have := Z18.out; have := Z24.out; have := Z30.out; have := Z32.out; have := Z37.out; have := Z43.out; have := Z45.out; have := Z52.out; have := Z60.out; have := Z69.out; have := Z71.out; have := Z81.out; have := Z92.out; have := Z103.out; have := Z116.out; have := Z128.out; have := Z140.out; have := Z150.out; omega))
  have F158 := Lib.hid (F148.out.btw U2 (by have := Z2.out; have := Z5.out; have := Z9.out; have := Z13.out; have := Z18.out; have := Z24.out; have := Z30.out; have := Z32.out; have := Z37.out; have := Z43.out; have := Z45.out; have := Z52.out; have := Z60.out; have := Z69.out; have := Z71.out; have := Z81.out; have := Z92.out; have := Z103.out; have := Z116.out; have := Z128.out; have := Z140.out; have := Z150.out; omega))
  have H159 := Lib.hid (H149.out.trans ((U2.below (by have := Z2.out; have := Z5.out; have := Z9.out; have := Z13.out; have := Z18.out; have := Z24.out; have := Z30.out; have := Z32.out; have := Z37.out; have := Z43.out; have := Z45.out; have := Z52.out; have := Z60.out; have := Z69.out; have := Z71.out; have := Z81.out; have := Z92.out; have := Z103.out; have := Z116.out; have := Z128.out; have := Z140.out; have := Z150.out; omega)).mono (by have := Z2.out; have := Z5.out; have := Z9.out; have := Z13.out; have := Z18.out; have := Z24.out; have := Z30.out; have := Z32.out; have := Z37.out; have := Z43.out; have := Z45.out; have := Z52.out; have := Z60.out; have := Z69.out; have := Z71.out; have := Z81.out; have := Z92.out; have := Z103.out; have := Z116.out; have := Z128.out; have := Z140.out; have := Z150.out; omega)))
  have Z160 : Hid (w141.heap.size ≤ w152.heap.size) := Lib.hid U2.size
  clear F142 F143 F144 F145 F147 F148 H149
  clear U1 U2 F146
  generalize hk : k151 + (rChannel a1d0).len = k161
  have hkk161 : 1 ≤ k161 ∧ k161 ≤ k151 + 16777216 := by have q1 := szA_len [rChannel a1d0]; have q2 := z1; simp only [lenA] at q1 hk; omega
  clear hk
  have hnk161 : ¬ (k161 : Int) < 0 := by omega
  have f0 : w152.cell? ⟨w61.heap.size, 0, none⟩ = some (.slice g0vA0 r0d0.length g0vc0) := F158.out.cell 0 rfl
  have f1 : w152.cell? ⟨w61.heap.size, 1, none⟩ = some (.slice g0vA1 r0d1.length g0vc1) := F158.out.cell 1 rfl
  have f2 : w152.cell? ⟨w61.heap.size, 2, none⟩ = some (.slice g0vA2 r0d2.length g0vc2) := F158.out.cell 2 rfl
  have f3 : w152.cell? ⟨w61.heap.size, 3, none⟩ = some (.slice g0vA3 r0d3.length g0vc3) := F158.out.cell 3 rfl
  have f4 : w152.cell? ⟨w61.heap.size, 4, none⟩ = some (.int .i64 r0d4) := F158.out.cell 4 rfl
  have f5 : w152.cell? ⟨w25.heap.size, 0, none⟩ = some (.slice w0vA0 r0d0.length w0vc0) := F155.out.cell 0 rfl
  have f6 : w152.cell? ⟨w25.heap.size, 1, none⟩ = some (.slice w0vA1 r0d1.length w0vc1) := F155.out.cell 1 rfl
  have f7 : w152.cell? ⟨w25.heap.size, 2, none⟩ = some (.slice w0vA2 r0d2.length w0vc2) := F155.out.cell 2 rfl
  have f8 : w152.cell? ⟨w25.heap.size, 3, none⟩ = some (.slice w0vA3 r0d3.length w0vc3) := F155.out.cell 3 rfl
  have f9 : w152.cell? ⟨w25.heap.size, 4, none⟩ = some (.int .i64 r0d4) := F155.out.cell 4 rfl
  go_wp2_with fail
  refine (eqMemA g0vA0 g0vA1 g0vA2 g0vA3 g0vc0 g0vc1 g0vc2 g0vc3 w0vA0 w0vA1 w0vA2 w0vA3 w0vc0 w0vc1 w0vc2 w0vc3 r0d0 r0d1 r0d2 r0d3 r0d4 w152 (OwnA.seg (a := []) (m := [.slice g0vA0 r0d0.length g0vc0, .slice g0vA1 r0d1.length g0vc1, .slice g0vA2 r0d2.length g0vc2, .slice g0vA3 r0d3.length g0vc3]) (b := [.slice g1vA0 r1d0.length g1vc0]) (da := []) (dm := [Lf.I r0d0, Lf.I r0d1, Lf.I r0d2, Lf.B r0d3]) (db := [rChannel r1d0]) F157.out rfl rfl).reads (OwnA.seg (a := []) (m := [.slice w0vA0 r0d0.length w0vc0, .slice w0vA1 r0d1.length w0vc1, .slice w0vA2 r0d2.length w0vc2, .slice w0vA3 r0d3.length w0vc3]) (b := [.slice w1vA0 r1d0.length w1vc0]) (da := []) (dm := [Lf.I r0d0, Lf.I r0d1, Lf.I r0d2, Lf.B r0d3]) (db := [rChannel r1d0]) F154.out rfl rfl).reads (Nat.le_trans HBr0.out (by unfold maxLen; omega))).mono ?_
  rintro e w162 ⟨rfl, hc⟩
  clear f0 f1 f2 f3 f4 f5 f6 f7 f8 f9
  have F163 := Lib.hid (F153.out.step hc)
  have F164 := Lib.hid (F154.out.below hc)
  have F165 := Lib.hid (F155.out.step hc)
  have F166 := Lib.hid (F156.out.step hc)
  have F167 := Lib.hid (F157.out.below hc)
  have F168 := Lib.hid (F158.out.step hc)
  have H169 := Lib.hid (bt H159.out hc)
  have Z170 : Hid (w152.heap.size ≤ w162.heap.size) := Lib.hid hc.size
  clear F153 F154 F155 F156 F157 F158 H159 hc
  go_wp2_with fail
  refine (eqLRChannel (.slice g1vA0 r1d0.length g1vc0) (.slice w1vA0 r1d0.length w1vc0) r1d0 w162 (OwnA.seg (a := [.slice g0vA0 r0d0.length g0vc0, .slice g0vA1 r0d1.length g0vc1, .slice g0vA2 r0d2.length g0vc2, .slice g0vA3 r0d3.length g0vc3]) (m := [.slice g1vA0 r1d0.length g1vc0]) (b := []) (da := [Lf.I r0d0, Lf.I r0d1, Lf.I r0d2, Lf.B r0d3]) (dm := [rChannel r1d0]) (db := []) F167.out rfl rfl).reads.1 (OwnA.seg (a := [.slice w0vA0 r0d0.length w0vc0, .slice w0vA1 r0d1.length w0vc1, .slice w0vA2 r0d2.length w0vc2, .slice w0vA3 r0d3.length w0vc3]) (m := [.slice w1vA0 r1d0.length w1vc0]) (b := []) (da := [Lf.I r0d0, Lf.I r0d1, Lf.I r0d2, Lf.B r0d3]) (dm := [rChannel r1d0]) (db := []) F164.out rfl rfl).reads.1 (by have q := HBr1.out; simp only [Lf.len_I, Lf.len_B, Lf.len_S, len_rChannel] at q; unfold maxLen; omega)).mono ?_
  rintro e w171 ⟨rfl, hc⟩
  have F172 := Lib.hid (F163.out.step hc)
  have F173 := Lib.hid (F164.out.below hc)
  have F174 := Lib.hid (F165.out.step hc)
  have F175 := Lib.hid (F166.out.step hc)
  have F176 := Lib.hid (F167.out.below hc)
  have F177 := Lib.hid (F168.out.step hc)
  have H178 := Lib.hid (bt H169.out hc)
  have Z179 : Hid (w162.heap.size ≤ w171.heap.size) := Lib.hid hc.size
  clear F163 F164 F165 F166 F167 F168 H169 hc
  have f0 : w171.cell? ⟨w61.heap.size, 0, none⟩ = some (.slice g0vA0 r0d0.length g0vc0) := F177.out.cell 0 rfl
  have f1 : w171.cell? ⟨w61.heap.size, 1, none⟩ = some (.slice g0vA1 r0d1.length g0vc1) := F177.out.cell 1 rfl
  have f2 : w171.cell? ⟨w61.heap.size, 2, none⟩ = some (.slice g0vA2 r0d2.length g0vc2) := F177.out.cell 2 rfl
  have f3 : w171.cell? ⟨w61.heap.size, 3, none⟩ = some (.slice g0vA3 r0d3.length g0vc3) := F177.out.cell 3 rfl
  have f4 : w171.cell? ⟨w61.heap.size, 4, none⟩ = some (.int .i64 r0d4) := F177.out.cell 4 rfl
  go_wp2_with fail
  have HM := Lib.hid (markMemA g0vA0 g0vA1 g0vA2 g0vA3 g0vc0 g0vc1 g0vc2 g0vc3 r0d0 r0d1 r0d2 r0d3 r0d4 (1) w53.heap.size w61.heap.size w171 (OwnA.seg (a := []) (m := [.slice g0vA0 r0d0.length g0vc0, .slice g0vA1 r0d1.length g0vc1, .slice g0vA2 r0d2.length g0vc2, .slice g0vA3 r0d3.length g0vc3]) (b := [.slice g1vA0 r1d0.length g1vc0]) (da := []) (dm := [Lf.I r0d0, Lf.I r0d1, Lf.I r0d2, Lf.B r0d3]) (db := [rChannel r1d0]) F176.out rfl rfl) (by have := Z2.out; have := Z5.out; have := Z9.out; have := Z13.out; have := Z18.out; have := Z24.out; have := Z30.out; have := Z32.out; have := Z37.out; have := Z43.out; have := Z45.out; have := Z52.out; have := Z60.out; have := Z69.out; have := Z71.out; have := Z81.out; have := Z92.out; have := Z103.out; have := Z116.out; have := Z128.out; have := Z140.out; have := Z150.out; have := Z160.out; have := Z170.out; have := Z179.out; omega) (by omega) (BndA.of_len HBr0.out) (by have := HBr0.out; have := HBr1.out; omega))
  refine HM.out.mono ?_
  rintro e w180 ⟨rfl, M1, U1⟩
  clear HM
  clear f0 f1 f2 f3 f4
  have U2 := U1.btw (OwnA.seg (a := []) (m := [.slice g0vA0 r0d0.length g0vc0, .slice g0vA1 r0d1.length g0vc1, .slice g0vA2 r0d2.length g0vc2, .slice g0vA3 r0d3.length g0vc3]) (b := [.slice g1vA0 r1d0.length g1vc0]) (da := []) (dm := [Lf.I r0d0, Lf.I r0d1, Lf.I r0d2, Lf.B r0d3]) (db := [rChannel r1d0]) F176.out rfl rfl)
  have N181 := Lib.hid (OwnA.reseg (a := []) (m := [.slice g0vA0 r0d0.length g0vc0, .slice g0vA1 r0d1.length g0vc1, .slice g0vA2 r0d2.length g0vc2, .slice g0vA3 r0d3.length g0vc3]) (b := [.slice g1vA0 r1d0.length g1vc0]) (da := []) (dm := [Lf.I r0d0, Lf.I r0d1, Lf.I r0d2, Lf.B r0d3]) (db := [rChannel r1d0]) (dm' := marksA (1) [Lf.I r0d0, Lf.I r0d1, Lf.I r0d2, Lf.B r0d3]) F176.out rfl rfl M1.out U1)
  have F182 := Lib.hid (F172.out.btw U2 (by have := Z2.out; have := Z5.out; have := Z9.out; have := Z13.out; have := Z18.out; have := Z24.out; have := Z30.out; have := Z32.out; have := Z37.out; have := Z43.out; have := Z45.out; have := Z52.out; have := Z60.out; have := Z69.out; have := Z71.out; have := Z81.out; have := Z92.out; have := Z103.out; have := Z116.out; have := Z128.out; have := Z140.out; have := Z150.out; have := Z160.out; have := Z170.out; have := Z179.out; omega))
  have F183 := Lib.hid (F173.out.btw U2 (by have := Z2.out; have := Z5.out; have := Z9.out; have := Z13.out; have := Z18.out; have := Z24.out; have := Z30.out; have := Z32.out; have := Z37.out; have := Z43.out; have := Z45.out; have := Z52.out; have := Z60.out; have := Z69.out; have := Z71.out; have := Z81.out; have := Z92.out; have := Z103.out; have := Z116.out; have := Z128.out; have := Z140.out; have := Z150.out; have := Z160.out; have := Z170.out; have := Z179.out; omega))
  have F184 := Lib.hid (F174.out.btw U2 (by have := Z2.out; have := Z5.out; have := Z9.out; have := Z13.out; have := Z18.out; have := Z24.out; have := Z30.out; have := Z32.out; have := Z37.out; have := Z43.out; have := Z45.out; have := Z52.out; have := Z60.out; have := Z69.out; have := Z71.out; have := Z81.out; have := Z92.out; have := Z103.out; have := Z116.out; have := Z128.out; have := Z140.out; have := Z150.out; have := Z160.out; have := Z170.out; have := Z179.out; omega))
  have F185 := Lib.hid (F175.out.btw U2 (by have := Z2.out; have := Z5.out; have := Z9.out; have := Z13.out; have := Z18.out; have := Z24.out; have := Z30.out; have := Z32.out; have := Z37.out; have := Z43.out; have := Z45.out; have := Z52.out; have := Z60.out; have := Z69.out; have := Z71.out; have := Z81.out; have := Z92.out; have := Z103.out; have := Z116.out; have := Z128.out; have := Z140.out; have := Z150.out; have := Z160.out; have := Z170.out; have := Z179.out; omega))
  have F186 := Lib.hid (F177.out.btw U2 (by have := Z2.out; have := Z5.out; have := Z9.out; have := Z13.out; have := Z18.out; have := Z24.out; have := Z30.out; have := Z32.out; have := Z37.out; have := Z43.out; have := Z45.out; have := Z52.out; have := Z60.out; have := Z69.out; have := Z71.out; have := Z81.out; have := Z92.out; have := Z103.out; have := Z116.out; have := Z128.out; have := Z140.out; have := Z150.out; have := Z160.out; have := Z170.out; have := Z179.out; omega))
  have H187 := Lib.hid (H178.out.trans ((U2.below (by have := Z2.out; have := Z5.out; have := Z9.out; have := Z13.out; have := Z18.out; have := Z24.out; have := Z30.out; have := Z32.out; have := Z37.out; have := Z43.out; have := Z45.out; have := Z52.out; have := Z60.out; have := Z69.out; have := Z71.out; have := Z81.out; have := Z92.out; have := Z103.out; have := Z116.out; have := Z128.out; have := Z140.out; have := Z150.out; have := Z160.out; have := Z170.out; have := Z179.out; omega)).mono (by have := Z2.out; have := Z5.out; have := Z9.out; have := Z13.out; have := Z18.out; have := Z24.out; have := Z30.out; have := Z32.out; have := Z37.out; have := Z43.out; have := Z45.out; have := Z52.out; have := Z60.out; have := Z69.out; have := Z71.out; have := Z81.out; have := Z92.out; have := Z103.out; have := Z116.out; have := Z128.out; have := Z140.out; have := Z150.out; have := Z160.out; have := Z170.out; have := Z179.out; omega)))
  have Z188 : Hid (w171.heap.size ≤ w180.heap.size) := Lib.hid U2.size
  clear F172 F173 F174 F175 F177 H178
  clear U1 U2 M1 F176
  go_wp2_with fail
  have HM := Lib.hid (markLRChannel (.slice g1vA0 r1d0.length g1vc0) r1d0 (1 + lenA [Lf.I r0d0, Lf.I r0d1, Lf.I r0d2, Lf.B r0d3]) w53.heap.size w61.heap.size w180 (OwnA.seg (a := [.slice g0vA0 r0d0.length g0vc0, .slice g0vA1 r0d1.length g0vc1, .slice g0vA2 r0d2.length g0vc2, .slice g0vA3 r0d3.length g0vc3]) (m := [.slice g1vA0 r1d0.length g1vc0]) (b := []) (da := [(Lf.I r0d0).marks (1), (Lf.I r0d1).marks (1 + (Lf.I r0d0).len), (Lf.I r0d2).marks (1 + (Lf.I r0d0).len + (Lf.I r0d1).len), (Lf.B r0d3).marks (1 + (Lf.I r0d0).len + (Lf.I r0d1).len + (Lf.I r0d2).len)]) (dm := [rChannel r1d0]) (db := []) N181.out rfl rfl).1.1 (by omega) HBr1.out (by have := HBr0.out; have := HBr1.out; omega))
  refine HM.out.mono ?_
  rintro e w189 ⟨rfl, M1, U1⟩
  clear HM
  have U2 := U1.btw (OwnA.seg (a := [.slice g0vA0 r0d0.length g0vc0, .slice g0vA1 r0d1.length g0vc1, .slice g0vA2 r0d2.length g0vc2, .slice g0vA3 r0d3.length g0vc3]) (m := [.slice g1vA0 r1d0.length g1vc0]) (b := []) (da := [(Lf.I r0d0).marks (1), (Lf.I r0d1).marks (1 + (Lf.I r0d0).len), (Lf.I r0d2).marks (1 + (Lf.I r0d0).len + (Lf.I r0d1).len), (Lf.B r0d3).marks (1 + (Lf.I r0d0).len + (Lf.I r0d1).len + (Lf.I r0d2).len)]) (dm := [rChannel r1d0]) (db := []) N181.out rfl rfl)
  have N190 := Lib.hid (OwnA.reseg (a := [.slice g0vA0 r0d0.length g0vc0, .slice g0vA1 r0d1.length g0vc1, .slice g0vA2 r0d2.length g0vc2, .slice g0vA3 r0d3.length g0vc3]) (m := [.slice g1vA0 r1d0.length g1vc0]) (b := []) (da := [(Lf.I r0d0).marks (1), (Lf.I r0d1).marks (1 + (Lf.I r0d0).len), (Lf.I r0d2).marks (1 + (Lf.I r0d0).len + (Lf.I r0d1).len), (Lf.B r0d3).marks (1 + (Lf.I r0d0).len + (Lf.I r0d1).len + (Lf.I r0d2).len)]) (dm := [rChannel r1d0]) (db := []) (dm' := [(rChannel r1d0).marks (1 + lenA [Lf.I r0d0, Lf.I r0d1, Lf.I r0d2, Lf.B r0d3])]) N181.out rfl rfl (OwnA.one M1.out) U1)
  have F191 := Lib.hid (F182.out.btw U2 (by have := Z2.out; have := Z5.out; have := Z9.out; have := Z13.out; have := Z18.out; have := Z24.out; have := Z30.out; have := Z32.out; have := Z37.out; have := Z43.out; have := Z45.out; have := Z52.out; have := Z60.out; have := Z69.out; have := Z71.out; have := Z81.out; have := Z92.out; have := Z103.out; have := Z116.out; have := Z128.out; have := Z140.out; have := Z150.out; have := Z160.out; have := Z170.out; have := Z179.out; have := Z188.out; omega))
  have F192 := Lib.hid (F183.out.btw U2 (by have := Z2.out; have := Z5.out; have := Z9.out; have := Z13.out; have := Z18.out; have := Z24.out; have := Z30.out; have := Z32.out; have := Z37.out; have := Z43.out; have := Z45.out; have := Z52.out; have := Z60.out; have := Z69.out; have := Z71.out; have := Z81.out; have := Z92.out; have := Z103.out; have := Z116.out; have := Z128.out; have := Z140.out; have := Z150.out; have := Z160.out; have := Z170.out; have := Z179.out; have := Z188.out; omega))
  have F193 := Lib.hid (F184.out.btw U2 (by have := Z2.out; have := Z5.out; have := Z9.out; have := Z13.out; have := Z18.out; have := Z24.out; have := Z30.out; have := Z32.out; have := Z37.out; have := Z43.out; have := Z45.out; have := Z52.out; have := Z60.out; have := Z69.out; have := Z71.out; have := Z81.out; have := Z92.out; have := Z103.out; have := Z116.out; have := Z128.out; have := Z140.out; have := Z150.out; have := Z160.out; have := Z170.out; have := Z179.out; have := Z188.out; omega))
  have F194 := Lib.hid (F185.out.btw U2 (by have := Z2.out; have := Z5.out; have := Z9.out; have := Z13.out; have := Z18.out; have := Z24.out; have := Z30.out; have := Z32.out; have := Z37.out; have := Z43.out; have := Z45.out; have := Z52.out; have := Z60.out; have := Z69.out; have := Z71.out; have := Z81.out; have := Z92.out; have := Z103.out; have := Z116.out; have := Z128.out; have := Z140.out; have := Z150.out; have := Z160.out; have := Z170.out; have := Z179.out; have := Z188.out; omega))
  have F195 := Lib.hid (F186.out.btw U2 (by have := Z2.out; have := Z5.out; have := Z9.out; have := Z13.out; have := Z18.out; have := Z24.out; have := Z30.out; have := Z32.out; have := Z37.out; have := Z43.out; have := Z45.out; have := Z52.out; have := Z60.out; have := Z69.out; have := Z71.out; have := Z81.out; have := Z92.out; have := Z103.out; have := Z116.out; have := Z128.out; have := Z140.out; have := Z150.out; have := Z160.out; have := Z170.out; have := Z179.out; have := Z188.out; omega))
  have H196 := Lib.hid (H187.out.trans ((U2.below (by have := Z2.out; have := Z5.out; have := Z9.out; have := Z13.out; have := Z18.out; have := Z24.out; have := Z30.out; have := Z32.out; have := Z37.out; have := Z43.out; have := Z45.out; have := Z52.out; have := Z60.out; have := Z69.out; have := Z71.out; have := Z81.out; have := Z92.out; have := Z103.out; have := Z116.out; have := Z128.out; have := Z140.out; have := Z150.out; have := Z160.out; have := Z170.out; have := Z179.out; have := Z188.out; omega)).mono (by have := Z2.out; have := Z5.out; have := Z9.out; have := Z13.out; have := Z18.out; have := Z24.out; have := Z30.out; have := Z32.out; have := Z37.out; have := Z43.out; have := Z45.out; have := Z52.out; have := Z60.out; have := Z69.out; have := Z71.out; have := Z81.out; have := Z92.out; have := Z103.out; have := Z116.out; have := Z128.out; have := Z140.out; have := Z150.out; have := Z160.out; have := Z170.out; have := Z179.out; have := Z188.out; omega)))
  have Z197 : Hid (w180.heap.size ≤ w189.heap.size) := Lib.hid U2.size
  clear F182 F183 F184 F185 F186 H187
  clear U1 U2 M1 N181
  have hm0 : (((1 + lenA [Lf.I r0d0, Lf.I r0d1, Lf.I r0d2, Lf.B r0d3] + (rChannel r1d0).len : Nat) : Int) != ((1 + lenA [Lf.I r0d0, Lf.I r0d1, Lf.I r0d2, Lf.B r0d3] + (rChannel r1d0).len : Nat) : Int)) = false := by simp
  have f0 : w189.cell? ⟨w61.heap.size, 0, none⟩ = some (.slice g0vA0 r0d0.length g0vc0) := F195.out.cell 0 rfl
  have f1 : w189.cell? ⟨w61.heap.size, 1, none⟩ = some (.slice g0vA1 r0d1.length g0vc1) := F195.out.cell 1 rfl
  have f2 : w189.cell? ⟨w61.heap.size, 2, none⟩ = some (.slice g0vA2 r0d2.length g0vc2) := F195.out.cell 2 rfl
  have f3 : w189.cell? ⟨w61.heap.size, 3, none⟩ = some (.slice g0vA3 r0d3.length g0vc3) := F195.out.cell 3 rfl
  have f4 : w189.cell? ⟨w61.heap.size, 4, none⟩ = some (.int .i64 r0d4) := F195.out.cell 4 rfl
  go_wp2_with fail
  refine (heldMemA g0vA0 g0vA1 g0vA2 g0vA3 g0vc0 g0vc1 g0vc2 g0vc3 r0d0 r0d1 r0d2 r0d3 r0d4 (1) w189 (RepA.seg (a := []) (m := [.slice g0vA0 r0d0.length g0vc0, .slice g0vA1 r0d1.length g0vc1, .slice g0vA2 r0d2.length g0vc2, .slice g0vA3 r0d3.length g0vc3]) (b := [.slice g1vA0 r1d0.length g1vc0]) (da := []) (dm := marksA (1) [Lf.I r0d0, Lf.I r0d1, Lf.I r0d2, Lf.B r0d3]) (db := [(rChannel r1d0).marks (1 + lenA [Lf.I r0d0, Lf.I r0d1, Lf.I r0d2, Lf.B r0d3])]) N190.out.reads rfl rfl) (by omega) (BndA.of_len HBr0.out) (by have := HBr0.out; have := HBr1.out; omega)).mono ?_
  rintro e w198 ⟨rfl, hc⟩
  clear f0 f1 f2 f3 f4
  have F199 := Lib.hid (F191.out.step hc)
  have F200 := Lib.hid (F192.out.below hc)
  have F201 := Lib.hid (F193.out.step hc)
  have F202 := Lib.hid (F194.out.step hc)
  have F203 := Lib.hid (N190.out.below hc)
  have F204 := Lib.hid (F195.out.step hc)
  have H205 := Lib.hid (bt H196.out hc)
  have Z206 : Hid (w189.heap.size ≤ w198.heap.size) := Lib.hid hc.size
  clear F191 F192 F193 F194 N190 F195 H196 hc
  have hqw198 : ¬ ((1 + lenA [Lf.I r0d0, Lf.I r0d1, Lf.I r0d2, Lf.B r0d3] : Nat) : Int) < 0 := by omega
  go_wp2_with fail
  refine (heldLRChannel (.slice g1vA0 r1d0.length g1vc0) r1d0 (1 + lenA [Lf.I r0d0, Lf.I r0d1, Lf.I r0d2, Lf.B r0d3]) w198 (RepA.seg (a := [.slice g0vA0 r0d0.length g0vc0, .slice g0vA1 r0d1.length g0vc1, .slice g0vA2 r0d2.length g0vc2, .slice g0vA3 r0d3.length g0vc3]) (m := [.slice g1vA0 r1d0.length g1vc0]) (b := []) (da := [(Lf.I r0d0).marks (1), (Lf.I r0d1).marks (1 + (Lf.I r0d0).len), (Lf.I r0d2).marks (1 + (Lf.I r0d0).len + (Lf.I r0d1).len), (Lf.B r0d3).marks (1 + (Lf.I r0d0).len + (Lf.I r0d1).len + (Lf.I r0d2).len)]) (dm := [(rChannel r1d0).marks (1 + lenA [Lf.I r0d0, Lf.I r0d1, Lf.I r0d2, Lf.B r0d3])]) (db := []) F203.out.reads rfl rfl).1 (by omega) HBr1.out (by have := HBr0.out; have := HBr1.out; omega)).mono ?_
  rintro e w207 ⟨rfl, hc⟩
  have F208 := Lib.hid (F199.out.step hc)
  have F209 := Lib.hid (F200.out.below hc)
  have F210 := Lib.hid (F201.out.step hc)
  have F211 := Lib.hid (F202.out.step hc)
  have F212 := Lib.hid (F203.out.below hc)
  have F213 := Lib.hid (F204.out.step hc)
  have H214 := Lib.hid (bt H205.out hc)
  have Z215 : Hid (w198.heap.size ≤ w207.heap.size) := Lib.hid hc.size
  clear F199 F200 F201 F202 F203 F204 H205 hc
  have hqw207 : ¬ ((1 + lenA [Lf.I r0d0, Lf.I r0d1, Lf.I r0d2, Lf.B r0d3] + (rChannel r1d0).len : Nat) : Int) < 0 := by omega
  have f0 : w207.cell? ⟨w.heap.size, 0, none⟩ = some (.slice a0vA0 a0d0.length a0vc0) := F208.out.cell 0 rfl
  have f1 : w207.cell? ⟨w.heap.size, 1, none⟩ = some (.slice a0vA1 a0d1.length a0vc1) := F208.out.cell 1 rfl
  have f2 : w207.cell? ⟨w.heap.size, 2, none⟩ = some (.slice a0vA2 a0d2.length a0vc2) := F208.out.cell 2 rfl
  have f3 : w207.cell? ⟨w.heap.size, 3, none⟩ = some (.slice a0vA3 a0d3.length a0vc3) := F208.out.cell 3 rfl
  have f4 : w207.cell? ⟨w.heap.size, 4, none⟩ = some (.int .i64 a0d4) := F208.out.cell 4 rfl
  go_wp2_with fail
  refine (HTo0.out _ H214.out z0).mono ?_
  rintro e w217 ⟨t216vA0, t216vA1, t216vA2, t216vA3, t216vc0, t216vc1, t216vc2, t216vc3, rfl, Nt216, Kt216, hc⟩
  clear f0 f1 f2 f3 f4
  have F218 := Lib.hid (F208.out.step hc)
  have F219 := Lib.hid (F209.out.below hc)
  have F220 := Lib.hid (F210.out.step hc)
  have F221 := Lib.hid (F211.out.step hc)
  have F222 := Lib.hid (F212.out.below hc)
  have F223 := Lib.hid (F213.out.step hc)
  have H224 := Lib.hid (bt H214.out hc)
  have Z225 : Hid (w207.heap.size ≤ w217.heap.size) := Lib.hid hc.size
  clear F208 F209 F210 F211 F212 F213 H214 hc
  go_wp2_with fail
  refine (HTo1.out _ H224.out z1).mono ?_
  rintro e w227 ⟨t226vA0, t226vc0, rfl, Nt226, Kt226, hc⟩
  have F228 := Lib.hid (F218.out.step hc)
  have F229 := Lib.hid (F219.out.below hc)
  have F230 := Lib.hid (F220.out.step hc)
  have F231 := Lib.hid (F221.out.step hc)
  have F232 := Lib.hid (F222.out.below hc)
  have F233 := Lib.hid (F223.out.step hc)
  have F234 := Lib.hid (Nt216.out.below hc)
  have H235 := Lib.hid (bt H224.out hc)
  have Z236 : Hid (w217.heap.size ≤ w227.heap.size) := Lib.hid hc.size
  clear F218 F219 F220 F221 F222 F223 Nt216 H224 hc
  have Ot226 := Lib.hid (OwnA.one Nt226.out)
  clear Nt226
  have Kt226 := Lib.hid (CapA.cons Kt226.out CapA.nil)
  go_wp2_with fail
  refine (HImpl.out w227 t216vA0 t216vA1 t216vA2 t216vA3 t216vc0 t216vc1 t216vc2 t216vc3 t226vA0 t226vc0 F234.out.reads Kt216.out z0 Ot226.out.reads Kt226.out z1).mono ?_
  rintro e w237 ⟨h0vA0, h0vA1, h0vA2, h0vA3, h1vA0, h0vc0, h0vc1, h0vc2, h0vc3, h1vc0, rfl, Nh, hc⟩
  have F238 := Lib.hid (F228.out.step hc)
  have F239 := Lib.hid (F229.out.below hc)
  have F240 := Lib.hid (F230.out.step hc)
  have F241 := Lib.hid (F231.out.step hc)
  have F242 := Lib.hid (F232.out.below hc)
  have F243 := Lib.hid (F233.out.step hc)
  have F244 := Lib.hid (F234.out.below hc)
  have F245 := Lib.hid (Ot226.out.below hc)
  have H246 := Lib.hid (bt H235.out hc)
  have Z247 : Hid (w227.heap.size ≤ w237.heap.size) := Lib.hid hc.size
  clear F228 F229 F230 F231 F232 F233 F234 Ot226 H235 hc
  clear F244 Kt216
  clear F245 Kt226
  obtain ⟨W248, hW248⟩ : ∃ W248, W248 = (w237.alloc (.cells #[.slice h0vA0 r0d0.length h0vc0, .slice h0vA1 r0d1.length h0vc1, .slice h0vA2 r0d2.length h0vc2, .slice h0vA3 r0d3.length h0vc3, .int .i64 r0d4] 28)) := ⟨_, rfl⟩
  have hba : Below w237.heap.size w237 W248 := by rw [hW248]; exact ((Below.refl _ _).alloc (Nat.le_refl _) _)
  have Z249 : Hid (W248.heap.size = w237.heap.size + 1) := Lib.hid (by rw [hW248]; simp)
  have B250 : Hid (Box W248 (w237.heap.size) 28 #[.slice h0vA0 r0d0.length h0vc0, .slice h0vA1 r0d1.length h0vc1, .slice h0vA2 r0d2.length h0vc2, .slice h0vA3 r0d3.length h0vc3, .int .i64 r0d4]) := Lib.hid (by rw [hW248]; exact (Box.new w237 28 #[.slice h0vA0 r0d0.length h0vc0, .slice h0vA1 r0d1.length h0vc1, .slice h0vA2 r0d2.length h0vc2, .slice h0vA3 r0d3.length h0vc3, .int .i64 r0d4]))
  have F251 := Lib.hid (F238.out.step hba)
  have F252 := Lib.hid (F239.out.below hba)
  have F253 := Lib.hid (F240.out.step hba)
  have F254 := Lib.hid (F241.out.step hba)
  have F255 := Lib.hid (F242.out.below hba)
  have F256 := Lib.hid (F243.out.step hba)
  have F257 := Lib.hid (Nh.out.below hba)
  have H258 := Lib.hid (bt H246.out hba)
  have Z259 : Hid (w237.heap.size ≤ W248.heap.size) := Lib.hid hba.size
  clear F238 F239 F240 F241 F242 F243 Nh H246 hba
  have HW248 := Lib.hid hW248
  clear hW248
  have f0 : W248.cell? ⟨w25.heap.size, 0, none⟩ = some (.slice w0vA0 r0d0.length w0vc0) := F253.out.cell 0 rfl
  have f1 : W248.cell? ⟨w25.heap.size, 1, none⟩ = some (.slice w0vA1 r0d1.length w0vc1) := F253.out.cell 1 rfl
  have f2 : W248.cell? ⟨w25.heap.size, 2, none⟩ = some (.slice w0vA2 r0d2.length w0vc2) := F253.out.cell 2 rfl
  have f3 : W248.cell? ⟨w25.heap.size, 3, none⟩ = some (.slice w0vA3 r0d3.length w0vc3) := F253.out.cell 3 rfl
  have f4 : W248.cell? ⟨w25.heap.size, 4, none⟩ = some (.int .i64 r0d4) := F253.out.cell 4 rfl
  rw [HW248.out] at f0 f1 f2 f3 f4
  go_wp2_with fail
  rw [← HW248.out]
  refine (eqMemA h0vA0 h0vA1 h0vA2 h0vA3 h0vc0 h0vc1 h0vc2 h0vc3 w0vA0 w0vA1 w0vA2 w0vA3 w0vc0 w0vc1 w0vc2 w0vc3 r0d0 r0d1 r0d2 r0d3 r0d4 W248 (OwnA.seg (a := []) (m := [.slice h0vA0 r0d0.length h0vc0, .slice h0vA1 r0d1.length h0vc1, .slice h0vA2 r0d2.length h0vc2, .slice h0vA3 r0d3.length h0vc3]) (b := [.slice h1vA0 r1d0.length h1vc0]) (da := []) (dm := [Lf.I r0d0, Lf.I r0d1, Lf.I r0d2, Lf.B r0d3]) (db := [rChannel r1d0]) F257.out rfl rfl).reads (OwnA.seg (a := []) (m := [.slice w0vA0 r0d0.length w0vc0, .slice w0vA1 r0d1.length w0vc1, .slice w0vA2 r0d2.length w0vc2, .slice w0vA3 r0d3.length w0vc3]) (b := [.slice w1vA0 r1d0.length w1vc0]) (da := []) (dm := [Lf.I r0d0, Lf.I r0d1, Lf.I r0d2, Lf.B r0d3]) (db := [rChannel r1d0]) F252.out rfl rfl).reads (Nat.le_trans HBr0.out (by unfold maxLen; omega))).mono ?_
  rintro e w260 ⟨rfl, hc⟩
  clear f0 f1 f2 f3 f4 HW248
  have F261 := Lib.hid (F251.out.step hc)
  have F262 := Lib.hid (F252.out.below hc)
  have F263 := Lib.hid (F253.out.step hc)
  have F264 := Lib.hid (F254.out.step hc)
  have F265 := Lib.hid (F255.out.below hc)
  have F266 := Lib.hid (F256.out.step hc)
  have F267 := Lib.hid (F257.out.below hc)
  have F268 := Lib.hid (B250.out.step hc)
  have H269 := Lib.hid (bt H258.out hc)
  have Z270 : Hid (W248.heap.size ≤ w260.heap.size) := Lib.hid hc.size
  clear F251 F252 F253 F254 F255 F256 F257 B250 H258 hc
  go_wp2_with fail
  refine (eqLRChannel (.slice h1vA0 r1d0.length h1vc0) (.slice w1vA0 r1d0.length w1vc0) r1d0 w260 (OwnA.seg (a := [.slice h0vA0 r0d0.length h0vc0, .slice h0vA1 r0d1.length h0vc1, .slice h0vA2 r0d2.length h0vc2, .slice h0vA3 r0d3.length h0vc3]) (m := [.slice h1vA0 r1d0.length h1vc0]) (b := []) (da := [Lf.I r0d0, Lf.I r0d1, Lf.I r0d2, Lf.B r0d3]) (dm := [rChannel r1d0]) (db := []) F267.out rfl rfl).reads.1 (OwnA.seg (a := [.slice w0vA0 r0d0.length w0vc0, .slice w0vA1 r0d1.length w0vc1, .slice w0vA2 r0d2.length w0vc2, .slice w0vA3 r0d3.length w0vc3]) (m := [.slice w1vA0 r1d0.length w1vc0]) (b := []) (da := [Lf.I r0d0, Lf.I r0d1, Lf.I r0d2, Lf.B r0d3]) (dm := [rChannel r1d0]) (db := []) F262.out rfl rfl).reads.1 (by have q := HBr1.out; simp only [Lf.len_I, Lf.len_B, Lf.len_S, len_rChannel] at q; unfold maxLen; omega)).mono ?_
  rintro e w271 ⟨rfl, hc⟩
  have F272 := Lib.hid (F261.out.step hc)
  have F273 := Lib.hid (F262.out.below hc)
  have F274 := Lib.hid (F263.out.step hc)
  have F275 := Lib.hid (F264.out.step hc)
  have F276 := Lib.hid (F265.out.below hc)
  have F277 := Lib.hid (F266.out.step hc)
  have F278 := Lib.hid (F267.out.below hc)
  have F279 := Lib.hid (F268.out.step hc)
  have H280 := Lib.hid (bt H269.out hc)
  have Z281 : Hid (w260.heap.size ≤ w271.heap.size) := Lib.hid hc.size
  clear F261 F262 F263 F264 F265 F266 F267 F268 H269 hc
  have f0 : w271.cell? ⟨w61.heap.size, 0, none⟩ = some (.slice g0vA0 r0d0.length g0vc0) := F277.out.cell 0 rfl
  have f1 : w271.cell? ⟨w61.heap.size, 1, none⟩ = some (.slice g0vA1 r0d1.length g0vc1) := F277.out.cell 1 rfl
  have f2 : w271.cell? ⟨w61.heap.size, 2, none⟩ = some (.slice g0vA2 r0d2.length g0vc2) := F277.out.cell 2 rfl
  have f3 : w271.cell? ⟨w61.heap.size, 3, none⟩ = some (.slice g0vA3 r0d3.length g0vc3) := F277.out.cell 3 rfl
  have f4 : w271.cell? ⟨w61.heap.size, 4, none⟩ = some (.int .i64 r0d4) := F277.out.cell 4 rfl
  go_wp2_with fail
  refine (heldMemA g0vA0 g0vA1 g0vA2 g0vA3 g0vc0 g0vc1 g0vc2 g0vc3 r0d0 r0d1 r0d2 r0d3 r0d4 (1) w271 (RepA.seg (a := []) (m := [.slice g0vA0 r0d0.length g0vc0, .slice g0vA1 r0d1.length g0vc1, .slice g0vA2 r0d2.length g0vc2, .slice g0vA3 r0d3.length g0vc3]) (b := [.slice g1vA0 r1d0.length g1vc0]) (da := []) (dm := marksA (1) [Lf.I r0d0, Lf.I r0d1, Lf.I r0d2, Lf.B r0d3]) (db := [(rChannel r1d0).marks (1 + lenA [Lf.I r0d0, Lf.I r0d1, Lf.I r0d2, Lf.B r0d3])]) F276.out.reads rfl rfl) (by omega) (BndA.of_len HBr0.out) (by have := HBr0.out; have := HBr1.out; omega)).mono ?_
  rintro e w282 ⟨rfl, hc⟩
  clear f0 f1 f2 f3 f4
  have F283 := Lib.hid (F272.out.step hc)
  have F284 := Lib.hid (F273.out.below hc)
  have F285 := Lib.hid (F274.out.step hc)
  have F286 := Lib.hid (F275.out.step hc)
  have F287 := Lib.hid (F276.out.below hc)
  have F288 := Lib.hid (F277.out.step hc)
  have F289 := Lib.hid (F278.out.below hc)
  have F290 := Lib.hid (F279.out.step hc)
  have H291 := Lib.hid (bt H280.out hc)
  have Z292 : Hid (w271.heap.size ≤ w282.heap.size) := Lib.hid hc.size
  clear F272 F273 F274 F275 F276 F277 F278 F279 H280 hc
  have hqw282 : ¬ ((1 + lenA [Lf.I r0d0, Lf.I r0d1, Lf.I r0d2, Lf.B r0d3] : Nat) : Int) < 0 := by omega
  go_wp2_with fail
  refine (heldLRChannel (.slice g1vA0 r1d0.length g1vc0) r1d0 (1 + lenA [Lf.I r0d0, Lf.I r0d1, Lf.I r0d2, Lf.B r0d3]) w282 (RepA.seg (a := [.slice g0vA0 r0d0.length g0vc0, .slice g0vA1 r0d1.length g0vc1, .slice g0vA2 r0d2.length g0vc2, .slice g0vA3 r0d3.length g0vc3]) (m := [.slice g1vA0 r1d0.length g1vc0]) (b := []) (da := [(Lf.I r0d0).marks (1), (Lf.I r0d1).marks (1 + (Lf.I r0d0).len), (Lf.I r0d2).marks (1 + (Lf.I r0d0).len + (Lf.I r0d1).len), (Lf.B r0d3).marks (1 + (Lf.I r0d0).len + (Lf.I r0d1).len + (Lf.I r0d2).len)]) (dm := [(rChannel r1d0).marks (1 + lenA [Lf.I r0d0, Lf.I r0d1, Lf.I r0d2, Lf.B r0d3])]) (db := []) F287.out.reads rfl rfl).1 (by omega) HBr1.out (by have := HBr0.out; have := HBr1.out; omega)).mono ?_
  rintro e w293 ⟨rfl, hc⟩
  have F294 := Lib.hid (F283.out.step hc)
  have F295 := Lib.hid (F284.out.below hc)
  have F296 := Lib.hid (F285.out.step hc)
  have F297 := Lib.hid (F286.out.step hc)
  have F298 := Lib.hid (F287.out.below hc)
  have F299 := Lib.hid (F288.out.step hc)
  have F300 := Lib.hid (F289.out.below hc)
  have F301 := Lib.hid (F290.out.step hc)
  have H302 := Lib.hid (bt H291.out hc)
  have Z303 : Hid (w282.heap.size ≤ w293.heap.size) := Lib.hid hc.size
  clear F283 F284 F285 F286 F287 F288 F289 F290 H291 hc
  have hqw293 : ¬ ((1 + lenA [Lf.I r0d0, Lf.I r0d1, Lf.I r0d2, Lf.B r0d3] + (rChannel r1d0).len : Nat) : Int) < 0 := by omega
  go_wp2
  go_ret
  exact ⟨rfl, H302.out⟩

/-! The row's step. -/
open Go.ChangeShapes Go.WideShapes Go.ChangeAt
open Go.ChangeMaps (open_string shut_string)
set_option maxRecDepth 100000 in
theorem own : ownKnob Try.prog.godebug = none := by kernel_rfl
set_option maxRecDepth 100000 in
theorem laidOut : laidOutB Try.prog = true := factLaid
set_option maxRecDepth 100000 in
theorem lifted (os : Os) (started : os.Started) (H : Type) (enc : TypeId × Value → H) :
    ReturnsInHanded {} Try.checked os 8 .any (Rows.fnExactDmaMoveSpec.pre6 enc Try.prog Try.f8 Rows.fnExactDmaMoveRow.domain false) (Rows.fnExactDmaMoveSpec.post enc Try.prog Try.f8 false true false false) := by
  refine returnsInHanded_of_change (C := Try.checked) own started (by kernel_rfl) Try.func8
    (ChangeSpec.witness6 (enc := enc) (C := Try.checked) false ⟨#[], #[.agg #[.slice none 0 0, .slice none 0 0, .slice none 0 0, .slice none 0 0, .int .i64 0], .slice none 0 0, .int .i64 0], []⟩ 8 (by kernel_rfl) (by kernel_rfl) (by kernel_rfl) (by kernel_rfl)) ?_
  intro W base args ds gs before hval0 hW hcnd _
  have hval : ∀ (j : Nat) t v, Try.f8.params[j]? = some t → args[j]? = some v → Value.okWide Try.prog W .any base t v := hval0
  have hW' := hW
  obtain ⟨p, q, hA0, hV, rfl, hfz, hnd⟩ := hW
  have hA : DataW.TrodAll enc Try.prog W 0 (fun _ => true) true Try.f8.params.toList args.toList ds p := hA0
  rw [Try.params8] at hA hval
  obtain ⟨v0, vs0, d0, ds0, p0, q0, hargs, rfl, rfl, h0, r0⟩ := trodAll_cons hA
  obtain ⟨v1, vs1, d1, ds1, p1, q1, rfl, rfl, rfl, h1, r1⟩ := trodAll_cons r0
  obtain ⟨v2, vs2, d2, ds2, p2, q2, rfl, rfl, rfl, h2, r2⟩ := trodAll_cons r1
  obtain ⟨rfl, rfl, rfl⟩ := trodAll_nil r2
  obtain rfl : args = #[v0, v1, v2] := by cases args; simp_all
  obtain ⟨rfl, rfl⟩ := trodVars_none hV
  have k0 := h0
  have lt0 : ∀ x ∈ p0, x.block < W.heap.size := by obtain ⟨m, hm⟩ := k0; exact DataW.trod_lt m _ _ _ hm
  obtain ⟨a0vA0, a0vA1, a0vA2, a0vA3, a0vc0, a0vc1, a0vc2, a0vc3, a0d0, a0d1, a0d2, a0d3, a0d4, rfl, R0, G0⟩ := openMem (hval 0 47 v0 rfl rfl) h0
  have k1 := h1
  have lt1 : ∀ x ∈ p1, x.block < W.heap.size := by obtain ⟨m, hm⟩ := k1; exact DataW.trod_lt m _ _ _ hm
  obtain ⟨f1, hf1⟩ := h1
  obtain ⟨x1, y1, z1, e1⟩ := okWide_slice Try.underlying59 (hval 1 59 v1 rfl rfl)
  obtain ⟨a1vA0, a1vc0, a1d0, e1x, R1x, G1x⟩ := openRChannel (by rw [e1] at hf1; simpa [Value.cells] using hf1)
  rw [← e1] at e1x R1x
  subst e1x
  have R1 : RepA W [.slice a1vA0 a1d0.length a1vc0] [rChannel a1d0] := ⟨R1x, trivial⟩
  have G1 : FitA [rChannel a1d0] := fun d hd => by simp only [List.mem_cons, List.not_mem_nil, or_false] at hd; subst hd; exact G1x
  obtain ⟨a2, rfl, rfl, rfl, w2⟩ := open_int Try.underlying3 (hval 2 3 v2 rfl rfl) h2
  clear hA0 hval0
  refine (walk a0vA0 a0vA1 a0vA2 a0vA3 a0vc0 a0vc1 a0vc2 a0vc3 a0d0 a0d1 a0d2 a0d3 a0d4 a1vA0 a1vc0 a1d0 a2 W R0 G0 R1 G1).mono fun e W' ⟨he, bel⟩ => ?_
  subst he
  exact ⟨_, rfl, _, _, _, [], _, [], hW', trodAll_mk1 (shut_bool Try.underlying4 _), (trodAll_cons_mk (Below.trod laidOut (by kernel_rfl) (of_decide_eq_true (by kernel_rfl)) k0 bel lt0) (trodAll_cons_mk (Below.trod laidOut (by kernel_rfl) (of_decide_eq_true (by kernel_rfl)) k1 bel lt1) (trodAll_cons_mk (shut_int Try.underlying3 w2) trodAll_mk0))), rfl, bel.frame _, fun h => by cases h⟩

theorem k0 : (Rows.fnExactDmaMoveRow.wf (OpenSpec.ofChange Rows.fnExactDmaMoveSpec)) = true := by kernel_rfl
set_option maxRecDepth 100000 in
theorem k3 : (Try.f8.params.all (Try.prog.readableRec ·)) = true := by kernel_rfl
set_option maxRecDepth 100000 in
theorem k4 : (namedTie Try.prog Rows.fnExactDmaMoveRow.named Rows.fnExactDmaMoveSpec.vars) = true := by kernel_rfl
theorem k5 : ((Rows.fnExactDmaMoveRow.stops == [])) = true := by kernel_rfl
set_option maxRecDepth 100000 in
theorem k6 : ((Try.prog.stops == [])) = true := by kernel_rfl
theorem k7 : ((Rows.fnExactDmaMoveRow.knobs == [])) = true := by kernel_rfl
set_option maxRecDepth 100000 in
theorem k8 : ((Try.prog.stopKnobs == [])) = true := by kernel_rfl
set_option maxRecDepth 100000 in
theorem k9 : ((Rows.fnExactDmaMoveRow.inPlace == Try.prog.inPlace 8)) = true := by kernel_rfl
set_option maxRecDepth 100000 in
theorem k10 : ((Rows.fnExactDmaMoveRow.unfollowed == Try.prog.unfollowed 8)) = true := by kernel_rfl
set_option maxRecDepth 100000 in
theorem k11 : ((Rows.fnExactDmaMoveRow.recurses == Try.prog.recurses 8)) = true := by kernel_rfl
set_option maxRecDepth 100000 in
theorem k12 : ((Rows.fnExactDmaMoveRow.named == Try.prog.varsNamed 8)) = true := by kernel_rfl
set_option maxRecDepth 100000 in
theorem k13 : ((Rows.fnExactDmaMoveRow.maps == (Try.f8.params.toList ++ Rows.fnExactDmaMoveSpec.plain.varTypes Try.prog).any (Try.prog.mapsRec ·))) = true := by kernel_rfl
set_option maxRecDepth 100000 in
theorem k14 : ((Rows.fnExactDmaMoveRow.ifaces == (Try.f8.params.toList ++ Rows.fnExactDmaMoveSpec.plain.varTypes Try.prog).any (Try.prog.ifacesRec ·))) = true := by kernel_rfl
set_option maxRecDepth 100000 in
theorem k15 : ((Rows.fnExactDmaMoveRow.mapsOut == Try.prog.mapsAmong Try.f8.resultTypes.toList)) = true := by kernel_rfl
set_option maxRecDepth 100000 in
theorem k16 : ((Rows.fnExactDmaMoveRow.loops == (Try.f8.params.toList ++ Rows.fnExactDmaMoveSpec.plain.varTypes Try.prog).any (Try.prog.loopsFrom ·))) = true := by kernel_rfl
set_option maxRecDepth 100000 in
theorem k17 : ((Rows.fnExactDmaMoveRow.wideKeys == (Try.f8.params.toList ++ Rows.fnExactDmaMoveSpec.plain.varTypes Try.prog ++ Try.f8.resultTypes.toList).any (Try.prog.wideKeysFrom ·))) = true := by kernel_rfl
set_option maxRecDepth 100000 in
theorem k18 : (Rows.fnExactDmaMoveSpec.vars.all (Try.prog.varReadable ·)) = true := by kernel_rfl
set_option maxRecDepth 100000 in
theorem k19 : (Try.f8.resultTypes.all (fun t => Try.prog.readableRec t && decide (t < Try.prog.types.size))) = true := by kernel_rfl
set_option maxRecDepth 100000 in
theorem k20 : ((Rows.fnExactDmaMoveRow.ifacesOut == Try.f8.resultTypes.toList.any (Try.prog.ifacesRec ·))) = true := by kernel_rfl
set_option maxRecDepth 100000 in
theorem k21 : ((Rows.fnExactDmaMoveRow.loopsOut == Try.f8.resultTypes.toList.any (Try.prog.loopsFrom ·))) = true := by kernel_rfl
set_option maxRecDepth 100000 in
theorem k22 : ((Rows.fnExactDmaMoveRow.plainKeys == Try.prog.plainKeys)) = true := by kernel_rfl
theorem k23 : (Rows.fnExactDmaMoveRow.shortTexts.isNone) = true := by kernel_rfl
set_option maxRecDepth 100000 in
theorem k28 : ((Rows.fnExactDmaMoveRow.kinds == (if Rows.fnExactDmaMoveRow.domain.isEmpty then [] else Try.f8.params.toList.map fun t => match Try.prog.underlying t with | some (.int k) => some k | _ => none))) = true := by kernel_rfl
theorem k29 : ((Rows.fnExactDmaMoveRow.pinned == Rows.fnExactDmaMoveRow.pinnedBy)) = true := by kernel_rfl
set_option maxRecDepth 100000 in
theorem k30 : ((Rows.fnExactDmaMoveRow.veiled == (Try.f8.params.toList ++ Rows.fnExactDmaMoveSpec.plain.varTypes Try.prog ++ Try.f8.resultTypes.toList).any (Try.prog.veiledRec ·))) = true := by kernel_rfl
set_option maxRecDepth 100000 in
theorem k31 : (Rows.fnExactDmaMoveRow.veiledFits Try.prog Try.f8.params.toList (Try.f8.params.toList ++ Rows.fnExactDmaMoveSpec.plain.varTypes Try.prog ++ Try.f8.resultTypes.toList)) = true := by kernel_rfl
set_option maxRecDepth 100000 in
theorem facts : joinedFacts Try.prog 8 Try.f8 Rows.fnExactDmaMoveSpec Rows.fnExactDmaMoveRow = true := (and_mk (and_mk (and_mk (and_mk (and_mk (and_mk (and_mk (and_mk (and_mk (and_mk (and_mk (and_mk (and_mk (and_mk (and_mk (and_mk (and_mk (and_mk (and_mk (and_mk (and_mk (and_mk (and_mk (and_mk (and_mk (and_mk (and_mk (and_mk (and_mk (and_mk (and_mk k0 factLaid) factRowed) k3) k4) k5) k6) k7) k8) k9) k10) k11) k12) k13) k14) k15) k16) k17) k18) k19) k20) k21) k22) k23) factHeard) factEnter) factLift) factMake) k28) k29) k30) k31)
set_option maxRecDepth 100000 in
theorem named : Try.prog.funcNamed Rows.fnExactDmaMoveRow.func = some 8 := by kernel_rfl
set_option maxRecDepth 100000 in
theorem inst : Try.f8.isInstance Try.prog Rows.fnExactDmaMoveRow.origin Rows.fnExactDmaMoveRow.targs := of_decide_eq_true (by kernel_rfl)
set_option maxRecDepth 100000 in
theorem over : Rows.fnExactDmaMoveRow.holds Try.pinned (OpenSpec.ofChange Rows.fnExactDmaMoveSpec) :=
  OpenClaim.holds_of_wide 8 Try.f8 rfl rfl rfl rfl rfl rfl rfl ⟨rfl, rfl, rfl, rfl, rfl⟩ rfl rfl rfl rfl rfl named Try.func8 facts
    inst (by unfold Func.isWrapper; first | (rw [if_pos (by decide +kernel)]; kernel_rfl) | (rw [if_neg (by decide +kernel)]; exact ⟨rfl, rfl⟩))
    (fun os started H enc _ => lifted os started H enc)
theorem proved : Rows.FnExactDmaMoveSaid := over
#print axioms proved
end Go.Proofs.Ytngoijchebfolaa.fnExactDmaMove
