/- For every []Timer and int, laws.FnExactTickTimers returns true: impl.TickTimers answers as the model spec.TickTimers, every field, leaves its arguments alone, and its result is memory of its own. No condition. -/
import Derived.Test.YtagdclbpgkilgaaTimApi
import Derived.Test.YtagdclbpgkilgaaGenRTimer
import Derived.Test.YtagdclbpgkilgaaGenOpen
import Derived.Test.YtagdclbpgkilgaaFactA
import Derived.Test.YtagdclbpgkilgaaFactB
import Derived.Test.YtagdclbpgkilgaaFactC
import Derived.Test.YtagdclbpgkilgaaFactD
import Derived.Deep.RegionHeld3
import Derived.ProofKit
import Derived.OpenShut
import Derived.ShutString
import Derived.ChangeOld
namespace Go.Proofs.Ytagdclbpgkilgaa.fnExactTickTimers
open Go.RowKit

set_option maxRecDepth 100000 in
set_option maxHeartbeats 16000000 in
theorem walk (a0vA0 : Option Addr) (a0vc0 : Nat) (a0d0 : List TTimer) (a1d0 : Int) (w : World) (h0 : RepA w [.slice a0vA0 a0d0.length a0vc0] [rTimer a0d0]) (f0 : FitA [rTimer a0d0]) :
    Calls Try.prog 9 #[.slice a0vA0 a0d0.length a0vc0, .int .i64 a1d0] w fun e w' => e = .returned (.bool true) ∧ Below w.heap.size w w' := by
  have HSz0 := Lib.hid (fun W (hb : Below w.heap.size w W) l g0 g1 => szLRTimer (.slice a0vA0 a0d0.length a0vc0) a0d0 l W (h0.below hb).1 (f0 _ (by simp)) g0 g1)
  have HTo0 := Lib.hid (fun W (hb : Below w.heap.size w W) (z : szA [rTimer a0d0] ≤ 1048576) => toLRTimer (.slice a0vA0 a0d0.length a0vc0) a0d0 W (h0.below hb).1 (by have q := z; simp only [szA, Lf.sz_I, Lf.sz_B, Lf.sz_S, sz_rTimer] at q; omega))
  have HSpec := Lib.hid (fun W (q0vA0 : Option Addr) (q0vc0 : Nat) (h0 : RepA W [.slice q0vA0 a0d0.length q0vc0] [rTimer a0d0]) (c0 : CapA [.slice q0vA0 a0d0.length q0vc0]) (z0 : szA [rTimer a0d0] ≤ 1048576) => specTickTimersA q0vA0 q0vc0 a0d0 a1d0 W h0 c0 z0 )
  have HImpl := Lib.hid (fun W (q0vA0 : Option Addr) (q0vc0 : Nat) (h0 : RepA W [.slice q0vA0 a0d0.length q0vc0] [rTimer a0d0]) (c0 : CapA [.slice q0vA0 a0d0.length q0vc0]) (z0 : szA [rTimer a0d0] ≤ 1048576) => implTickTimersA q0vA0 q0vc0 a0d0 a1d0 W h0 c0 z0 )
  unfold GivesTick at HSpec HImpl
  have HBnd := Lib.hid (fun (z0 : szA [rTimer a0d0] ≤ 1048576) => (show lenA [rTimer (tickRs a0d0 a1d0), Lf.I (tickFs a0d0 a1d0)] ≤ 4294967296 from tick_bnd _ _))
  generalize tickRs a0d0 a1d0 = r0d0 at HSpec HImpl HBnd
  generalize tickFs a0d0 a1d0 = r1d0 at HSpec HImpl HBnd
  generalize tickC a0d0 a1d0 = r2d0 at HSpec HImpl HBnd
  have qr2d0 : (r2d0 != r2d0) = false := by simp
  clear h0 f0
  have H0 : Hid (Below w.heap.size w w) := Lib.hid (Below.refl _ _)
  go_enter Try.func9, Try.ntmps9
  go_wp2_with fail
  refine (HSz0.out _ H0.out _ (by omega) (by omega)).mono ?_
  rintro e w1 ⟨hres, hc⟩
  have H2 := Lib.hid (bt H0.out hc)
  have Z3 : Hid (w.heap.size ≤ w1.heap.size) := Lib.hid hc.size
  clear H0 hc
  clear HSz0
  rcases hres with rfl | ⟨rfl, hle0⟩
  · go_wp2
    go_ret
    exact ⟨rfl, H2.out⟩
  have z0 : szA [rTimer a0d0] ≤ 1048576 := by simp only [szA] at hle0 ⊢; omega
  generalize hu0 : Lf.sz (rTimer a0d0) = u0 at hle0 ⊢
  clear hu0
  have hp0 : ¬ (1048576 : Int) - (u0 : Int) < 0 := by omega
  have HBd := Lib.hid (HBnd.out z0)
  clear HBnd
  have HBr0 : Hid ((rTimer r0d0).len ≤ 4294967296) := Lib.hid (by have := HBd.out; simp only [lenA] at this; omega)
  have HBr1 : Hid ((Lf.I r1d0).len ≤ 4294967296) := Lib.hid (by have := HBd.out; simp only [lenA] at this; omega)
  go_wp2_with fail
  refine (HTo0.out _ H2.out z0).mono ?_
  rintro e w5 ⟨t4vA0, t4vc0, rfl, Nt4, Kt4, hc⟩
  have H6 := Lib.hid (bt H2.out hc)
  have Z7 : Hid (w1.heap.size ≤ w5.heap.size) := Lib.hid hc.size
  clear H2 hc
  have Ot4 := Lib.hid (OwnA.one Nt4.out)
  clear Nt4
  have Kt4 := Lib.hid (CapA.cons Kt4.out CapA.nil)
  go_wp2_with fail
  refine (HSpec.out w5 t4vA0 t4vc0 Ot4.out.reads Kt4.out z0).mono ?_
  rintro e w8 ⟨w0vA0, w1vA0, w0vc0, w1vc0, rfl, Nw, hc⟩
  have F9 := Lib.hid (Ot4.out.below hc)
  have H10 := Lib.hid (bt H6.out hc)
  have Z11 : Hid (w5.heap.size ≤ w8.heap.size) := Lib.hid hc.size
  clear Ot4 H6 hc
  clear F9 Kt4
  clear HSpec
  go_wp2_with fail
  refine (HTo0.out _ H10.out z0).mono ?_
  rintro e w12 ⟨x0vA0, x0vc0, rfl, Nx0, Kx0, hc⟩
  have F13 := Lib.hid (Nw.out.below hc)
  have H14 := Lib.hid (bt H10.out hc)
  have Z15 : Hid (w8.heap.size ≤ w12.heap.size) := Lib.hid hc.size
  clear Nw H10 hc
  have Ox0 := Lib.hid (OwnA.one Nx0.out)
  clear Nx0
  have Kx0 := Lib.hid (CapA.cons Kx0.out CapA.nil)
  go_wp2_with fail
  refine (HImpl.out w12 x0vA0 x0vc0 Ox0.out.reads Kx0.out z0).mono ?_
  rintro e w16 ⟨g0vA0, g1vA0, g0vc0, g1vc0, rfl, Ng, hc⟩
  have F17 := Lib.hid (F13.out.below hc)
  have F18 := Lib.hid (Ox0.out.below hc)
  have H19 := Lib.hid (bt H14.out hc)
  have Z20 : Hid (w12.heap.size ≤ w16.heap.size) := Lib.hid hc.size
  clear F13 Ox0 H14 hc
  go_wp2_with fail
  refine (eqLRTimer (.slice g0vA0 r0d0.length g0vc0) (.slice w0vA0 r0d0.length w0vc0) r0d0 w16 (OwnA.seg (a := []) (m := [.slice g0vA0 r0d0.length g0vc0]) (b := [.slice g1vA0 r1d0.length g1vc0]) (da := []) (dm := [rTimer r0d0]) (db := [Lf.I r1d0]) Ng.out rfl rfl).reads.1 (OwnA.seg (a := []) (m := [.slice w0vA0 r0d0.length w0vc0]) (b := [.slice w1vA0 r1d0.length w1vc0]) (da := []) (dm := [rTimer r0d0]) (db := [Lf.I r1d0]) F17.out rfl rfl).reads.1 (by have q := HBr0.out; simp only [Lf.len_I, Lf.len_B, Lf.len_S, len_rTimer] at q; unfold maxLen; omega)).mono ?_
  rintro e w21 ⟨rfl, hc⟩
  have F22 := Lib.hid (F17.out.below hc)
  have F23 := Lib.hid (F18.out.below hc)
  have F24 := Lib.hid (Ng.out.below hc)
  have H25 := Lib.hid (bt H19.out hc)
  have Z26 : Hid (w16.heap.size ≤ w21.heap.size) := Lib.hid hc.size
  clear F17 F18 Ng H19 hc
  go_wp2_with fail
  refine (eqLI (.slice g1vA0 r1d0.length g1vc0) (.slice w1vA0 r1d0.length w1vc0) r1d0 w21 (OwnA.seg (a := [.slice g0vA0 r0d0.length g0vc0]) (m := [.slice g1vA0 r1d0.length g1vc0]) (b := []) (da := [rTimer r0d0]) (dm := [Lf.I r1d0]) (db := []) F24.out rfl rfl).reads.1 (OwnA.seg (a := [.slice w0vA0 r0d0.length w0vc0]) (m := [.slice w1vA0 r1d0.length w1vc0]) (b := []) (da := [rTimer r0d0]) (dm := [Lf.I r1d0]) (db := []) F22.out rfl rfl).reads.1 (by have q := HBr1.out; simp only [Lf.len_I, Lf.len_B, Lf.len_S, len_rTimer] at q; unfold maxLen; omega)).mono ?_
  rintro e w27 ⟨rfl, hc⟩
  have F28 := Lib.hid (F22.out.below hc)
  have F29 := Lib.hid (F23.out.below hc)
  have F30 := Lib.hid (F24.out.below hc)
  have H31 := Lib.hid (bt H25.out hc)
  have Z32 : Hid (w21.heap.size ≤ w27.heap.size) := Lib.hid hc.size
  clear F22 F23 F24 H25 hc
  go_wp2_with fail
  refine (HTo0.out _ H31.out z0).mono ?_
  rintro e w34 ⟨t33vA0, t33vc0, rfl, Nt33, Kt33, hc⟩
  have F35 := Lib.hid (F28.out.below hc)
  have F36 := Lib.hid (F29.out.below hc)
  have F37 := Lib.hid (F30.out.below hc)
  have H38 := Lib.hid (bt H31.out hc)
  have Z39 : Hid (w27.heap.size ≤ w34.heap.size) := Lib.hid hc.size
  clear F28 F29 F30 H31 hc
  have Ot33 := Lib.hid (OwnA.one Nt33.out)
  clear Nt33
  have Kt33 := Lib.hid (CapA.cons Kt33.out CapA.nil)
  go_wp2_with fail
  refine (eqLRTimer (.slice x0vA0 a0d0.length x0vc0) (.slice t33vA0 a0d0.length t33vc0) a0d0 w34 F36.out.reads.1 Ot33.out.reads.1 (by have q := szA_len [rTimer a0d0]; have q2 := z0; simp only [lenA, Lf.len_I, Lf.len_B, Lf.len_S, len_rTimer] at q; unfold maxLen; omega)).mono ?_
  rintro e w40 ⟨rfl, hc⟩
  have F41 := Lib.hid (F35.out.below hc)
  have F42 := Lib.hid (F36.out.below hc)
  have F43 := Lib.hid (F37.out.below hc)
  have F44 := Lib.hid (Ot33.out.below hc)
  have H45 := Lib.hid (bt H38.out hc)
  have Z46 : Hid (w34.heap.size ≤ w40.heap.size) := Lib.hid hc.size
  clear F35 F36 F37 Ot33 H38 hc
  clear F44 Kt33
  go_wp2_with fail
  have hk0 : (1 : Nat) ≤ 1 := Nat.le_refl _
  have hlx : lenA [rTimer a0d0] ≤ 16777216 := Nat.le_trans (szA_len _) (by have := z0; omega)
  have HM := Lib.hid (markLRTimer (.slice x0vA0 a0d0.length x0vc0) a0d0 1 w8.heap.size w12.heap.size w40 F42.out.1.1 (by omega) (by have q := hlx; simp only [lenA] at q; omega) (by omega))
  clear hlx hk0
  refine HM.out.mono ?_
  rintro e w47 ⟨rfl, M1, U1⟩
  clear HM M1
  have U2 := U1.btw F42.out
  have F48 := Lib.hid (F41.out.btw U2 (by have := Z3.out; have := Z7.out; have := Z11.out; have := Z15.out; have := Z20.out; have := Z26.out; have := Z32.out; have := Z39.out; have := Z46.out; omega))
  have F49 := Lib.hid (F43.out.btw U2 (by have := Z3.out; have := Z7.out; have := Z11.out; have := Z15.out; have := Z20.out; have := Z26.out; have := Z32.out; have := Z39.out; have := Z46.out; omega))
  have H50 := Lib.hid (H45.out.trans ((U2.below (by have := Z3.out; have := Z7.out; have := Z11.out; have := Z15.out; have := Z20.out; have := Z26.out; have := Z32.out; have := Z39.out; have := Z46.out; omega)).mono (by have := Z3.out; have := Z7.out; have := Z11.out; have := Z15.out; have := Z20.out; have := Z26.out; have := Z32.out; have := Z39.out; have := Z46.out; omega)))
  have Z51 : Hid (w40.heap.size ≤ w47.heap.size) := Lib.hid U2.size
  clear F41 F43 H45
  clear U1 U2 F42
  generalize hk : 1 + (rTimer a0d0).len = k52
  have hkk52 : 1 ≤ k52 ∧ k52 ≤ 1 + 16777216 := by have q1 := szA_len [rTimer a0d0]; have q2 := z0; simp only [lenA] at q1 hk; omega
  clear hk
  have hnk52 : ¬ (k52 : Int) < 0 := by omega
  go_wp2_with fail
  refine (eqLRTimer (.slice g0vA0 r0d0.length g0vc0) (.slice w0vA0 r0d0.length w0vc0) r0d0 w47 (OwnA.seg (a := []) (m := [.slice g0vA0 r0d0.length g0vc0]) (b := [.slice g1vA0 r1d0.length g1vc0]) (da := []) (dm := [rTimer r0d0]) (db := [Lf.I r1d0]) F49.out rfl rfl).reads.1 (OwnA.seg (a := []) (m := [.slice w0vA0 r0d0.length w0vc0]) (b := [.slice w1vA0 r1d0.length w1vc0]) (da := []) (dm := [rTimer r0d0]) (db := [Lf.I r1d0]) F48.out rfl rfl).reads.1 (by have q := HBr0.out; simp only [Lf.len_I, Lf.len_B, Lf.len_S, len_rTimer] at q; unfold maxLen; omega)).mono ?_
  rintro e w53 ⟨rfl, hc⟩
  have F54 := Lib.hid (F48.out.below hc)
  have F55 := Lib.hid (F49.out.below hc)
  have H56 := Lib.hid (bt H50.out hc)
  have Z57 : Hid (w47.heap.size ≤ w53.heap.size) := Lib.hid hc.size
  clear F48 F49 H50 hc
  go_wp2_with fail
  refine (eqLI (.slice g1vA0 r1d0.length g1vc0) (.slice w1vA0 r1d0.length w1vc0) r1d0 w53 (OwnA.seg (a := [.slice g0vA0 r0d0.length g0vc0]) (m := [.slice g1vA0 r1d0.length g1vc0]) (b := []) (da := [rTimer r0d0]) (dm := [Lf.I r1d0]) (db := []) F55.out rfl rfl).reads.1 (OwnA.seg (a := [.slice w0vA0 r0d0.length w0vc0]) (m := [.slice w1vA0 r1d0.length w1vc0]) (b := []) (da := [rTimer r0d0]) (dm := [Lf.I r1d0]) (db := []) F54.out rfl rfl).reads.1 (by have q := HBr1.out; simp only [Lf.len_I, Lf.len_B, Lf.len_S, len_rTimer] at q; unfold maxLen; omega)).mono ?_
  rintro e w58 ⟨rfl, hc⟩
  have F59 := Lib.hid (F54.out.below hc)
  have F60 := Lib.hid (F55.out.below hc)
  have H61 := Lib.hid (bt H56.out hc)
  have Z62 : Hid (w53.heap.size ≤ w58.heap.size) := Lib.hid hc.size
  clear F54 F55 H56 hc
  go_wp2_with fail
  have HM := Lib.hid (markLRTimer (.slice g0vA0 r0d0.length g0vc0) r0d0 (1) w12.heap.size w16.heap.size w58 (OwnA.seg (a := []) (m := [.slice g0vA0 r0d0.length g0vc0]) (b := [.slice g1vA0 r1d0.length g1vc0]) (da := []) (dm := [rTimer r0d0]) (db := [Lf.I r1d0]) F60.out rfl rfl).1.1 (by omega) HBr0.out (by have := HBr0.out; have := HBr1.out; omega))
  refine HM.out.mono ?_
  rintro e w63 ⟨rfl, M1, U1⟩
  clear HM
  have U2 := U1.btw (OwnA.seg (a := []) (m := [.slice g0vA0 r0d0.length g0vc0]) (b := [.slice g1vA0 r1d0.length g1vc0]) (da := []) (dm := [rTimer r0d0]) (db := [Lf.I r1d0]) F60.out rfl rfl)
  have N64 := Lib.hid (OwnA.reseg (a := []) (m := [.slice g0vA0 r0d0.length g0vc0]) (b := [.slice g1vA0 r1d0.length g1vc0]) (da := []) (dm := [rTimer r0d0]) (db := [Lf.I r1d0]) (dm' := [(rTimer r0d0).marks (1)]) F60.out rfl rfl (OwnA.one M1.out) U1)
  have F65 := Lib.hid (F59.out.btw U2 (by have := Z3.out; have := Z7.out; have := Z11.out; have := Z15.out; have := Z20.out; have := Z26.out; have := Z32.out; have := Z39.out; have := Z46.out; have := Z51.out; have := Z57.out; have := Z62.out; omega))
  have H66 := Lib.hid (H61.out.trans ((U2.below (by have := Z3.out; have := Z7.out; have := Z11.out; have := Z15.out; have := Z20.out; have := Z26.out; have := Z32.out; have := Z39.out; have := Z46.out; have := Z51.out; have := Z57.out; have := Z62.out; omega)).mono (by have := Z3.out; have := Z7.out; have := Z11.out; have := Z15.out; have := Z20.out; have := Z26.out; have := Z32.out; have := Z39.out; have := Z46.out; have := Z51.out; have := Z57.out; have := Z62.out; omega)))
  have Z67 : Hid (w58.heap.size ≤ w63.heap.size) := Lib.hid U2.size
  clear F59 H61
  clear U1 U2 M1 F60
  go_wp2_with fail
  have HM := Lib.hid (markLI (.slice g1vA0 r1d0.length g1vc0) r1d0 (1 + (rTimer r0d0).len) w12.heap.size w16.heap.size w63 (OwnA.seg (a := [.slice g0vA0 r0d0.length g0vc0]) (m := [.slice g1vA0 r1d0.length g1vc0]) (b := []) (da := [(rTimer r0d0).marks (1)]) (dm := [Lf.I r1d0]) (db := []) N64.out rfl rfl).1.1 (by omega) (by have q := HBr1.out; simpa only [Lf.len_I, Lf.len_B, Lf.len_S, len_rTimer] using q) (by have := HBr0.out; have := HBr1.out; omega))
  refine HM.out.mono ?_
  rintro e w68 ⟨rfl, M1, U1⟩
  clear HM
  have U2 := U1.btw (OwnA.seg (a := [.slice g0vA0 r0d0.length g0vc0]) (m := [.slice g1vA0 r1d0.length g1vc0]) (b := []) (da := [(rTimer r0d0).marks (1)]) (dm := [Lf.I r1d0]) (db := []) N64.out rfl rfl)
  have N69 := Lib.hid (OwnA.reseg (a := [.slice g0vA0 r0d0.length g0vc0]) (m := [.slice g1vA0 r1d0.length g1vc0]) (b := []) (da := [(rTimer r0d0).marks (1)]) (dm := [Lf.I r1d0]) (db := []) (dm' := [(Lf.I r1d0).marks (1 + (rTimer r0d0).len)]) N64.out rfl rfl (OwnA.one M1.out) U1)
  have F70 := Lib.hid (F65.out.btw U2 (by have := Z3.out; have := Z7.out; have := Z11.out; have := Z15.out; have := Z20.out; have := Z26.out; have := Z32.out; have := Z39.out; have := Z46.out; have := Z51.out; have := Z57.out; have := Z62.out; have := Z67.out; omega))
  have H71 := Lib.hid (H66.out.trans ((U2.below (by have := Z3.out; have := Z7.out; have := Z11.out; have := Z15.out; have := Z20.out; have := Z26.out; have := Z32.out; have := Z39.out; have := Z46.out; have := Z51.out; have := Z57.out; have := Z62.out; have := Z67.out; omega)).mono (by have := Z3.out; have := Z7.out; have := Z11.out; have := Z15.out; have := Z20.out; have := Z26.out; have := Z32.out; have := Z39.out; have := Z46.out; have := Z51.out; have := Z57.out; have := Z62.out; have := Z67.out; omega)))
  have Z72 : Hid (w63.heap.size ≤ w68.heap.size) := Lib.hid U2.size
  clear F65 H66
  clear U1 U2 M1 N64
  have hm0 : (((1 + (rTimer r0d0).len + (Lf.I r1d0).len : Nat) : Int) != ((1 + (rTimer r0d0).len + (Lf.I r1d0).len : Nat) : Int)) = false := by simp
  go_wp2_with fail
  refine (heldLRTimer (.slice g0vA0 r0d0.length g0vc0) r0d0 (1) w68 (RepA.seg (a := []) (m := [.slice g0vA0 r0d0.length g0vc0]) (b := [.slice g1vA0 r1d0.length g1vc0]) (da := []) (dm := [(rTimer r0d0).marks (1)]) (db := [(Lf.I r1d0).marks (1 + (rTimer r0d0).len)]) N69.out.reads rfl rfl).1 (by omega) HBr0.out (by have := HBr0.out; have := HBr1.out; omega)).mono ?_
  rintro e w73 ⟨rfl, hc⟩
  have F74 := Lib.hid (F70.out.below hc)
  have F75 := Lib.hid (N69.out.below hc)
  have H76 := Lib.hid (bt H71.out hc)
  have Z77 : Hid (w68.heap.size ≤ w73.heap.size) := Lib.hid hc.size
  clear F70 N69 H71 hc
  have hqw73 : ¬ ((1 + (rTimer r0d0).len : Nat) : Int) < 0 := by omega
  go_wp2_with fail
  refine (heldLI (.slice g1vA0 r1d0.length g1vc0) r1d0 (1 + (rTimer r0d0).len) w73 (RepA.seg (a := [.slice g0vA0 r0d0.length g0vc0]) (m := [.slice g1vA0 r1d0.length g1vc0]) (b := []) (da := [(rTimer r0d0).marks (1)]) (dm := [(Lf.I r1d0).marks (1 + (rTimer r0d0).len)]) (db := []) F75.out.reads rfl rfl).1 (by omega) (by have q := HBr1.out; simpa only [Lf.len_I, Lf.len_B, Lf.len_S, len_rTimer] using q) (by have := HBr0.out; have := HBr1.out; omega)).mono ?_
  rintro e w78 ⟨rfl, hc⟩
  have F79 := Lib.hid (F74.out.below hc)
  have F80 := Lib.hid (F75.out.below hc)
  have H81 := Lib.hid (bt H76.out hc)
  have Z82 : Hid (w73.heap.size ≤ w78.heap.size) := Lib.hid hc.size
  clear F74 F75 H76 hc
  have hqw78 : ¬ ((1 + (rTimer r0d0).len + (Lf.I r1d0).len : Nat) : Int) < 0 := by omega
  go_wp2_with fail
  refine (HTo0.out _ H81.out z0).mono ?_
  rintro e w84 ⟨t83vA0, t83vc0, rfl, Nt83, Kt83, hc⟩
  have F85 := Lib.hid (F79.out.below hc)
  have F86 := Lib.hid (F80.out.below hc)
  have H87 := Lib.hid (bt H81.out hc)
  have Z88 : Hid (w78.heap.size ≤ w84.heap.size) := Lib.hid hc.size
  clear F79 F80 H81 hc
  have Ot83 := Lib.hid (OwnA.one Nt83.out)
  clear Nt83
  have Kt83 := Lib.hid (CapA.cons Kt83.out CapA.nil)
  go_wp2_with fail
  refine (HImpl.out w84 t83vA0 t83vc0 Ot83.out.reads Kt83.out z0).mono ?_
  rintro e w89 ⟨h0vA0, h1vA0, h0vc0, h1vc0, rfl, Nh, hc⟩
  have F90 := Lib.hid (F85.out.below hc)
  have F91 := Lib.hid (F86.out.below hc)
  have F92 := Lib.hid (Ot83.out.below hc)
  have H93 := Lib.hid (bt H87.out hc)
  have Z94 : Hid (w84.heap.size ≤ w89.heap.size) := Lib.hid hc.size
  clear F85 F86 Ot83 H87 hc
  clear F92 Kt83
  go_wp2_with fail
  refine (eqLRTimer (.slice h0vA0 r0d0.length h0vc0) (.slice w0vA0 r0d0.length w0vc0) r0d0 w89 (OwnA.seg (a := []) (m := [.slice h0vA0 r0d0.length h0vc0]) (b := [.slice h1vA0 r1d0.length h1vc0]) (da := []) (dm := [rTimer r0d0]) (db := [Lf.I r1d0]) Nh.out rfl rfl).reads.1 (OwnA.seg (a := []) (m := [.slice w0vA0 r0d0.length w0vc0]) (b := [.slice w1vA0 r1d0.length w1vc0]) (da := []) (dm := [rTimer r0d0]) (db := [Lf.I r1d0]) F90.out rfl rfl).reads.1 (by have q := HBr0.out; simp only [Lf.len_I, Lf.len_B, Lf.len_S, len_rTimer] at q; unfold maxLen; omega)).mono ?_
  rintro e w95 ⟨rfl, hc⟩
  have F96 := Lib.hid (F90.out.below hc)
  have F97 := Lib.hid (F91.out.below hc)
  have F98 := Lib.hid (Nh.out.below hc)
  have H99 := Lib.hid (bt H93.out hc)
  have Z100 : Hid (w89.heap.size ≤ w95.heap.size) := Lib.hid hc.size
  clear F90 F91 Nh H93 hc
  go_wp2_with fail
  refine (eqLI (.slice h1vA0 r1d0.length h1vc0) (.slice w1vA0 r1d0.length w1vc0) r1d0 w95 (OwnA.seg (a := [.slice h0vA0 r0d0.length h0vc0]) (m := [.slice h1vA0 r1d0.length h1vc0]) (b := []) (da := [rTimer r0d0]) (dm := [Lf.I r1d0]) (db := []) F98.out rfl rfl).reads.1 (OwnA.seg (a := [.slice w0vA0 r0d0.length w0vc0]) (m := [.slice w1vA0 r1d0.length w1vc0]) (b := []) (da := [rTimer r0d0]) (dm := [Lf.I r1d0]) (db := []) F96.out rfl rfl).reads.1 (by have q := HBr1.out; simp only [Lf.len_I, Lf.len_B, Lf.len_S, len_rTimer] at q; unfold maxLen; omega)).mono ?_
  rintro e w101 ⟨rfl, hc⟩
  have F102 := Lib.hid (F96.out.below hc)
  have F103 := Lib.hid (F97.out.below hc)
  have F104 := Lib.hid (F98.out.below hc)
  have H105 := Lib.hid (bt H99.out hc)
  have Z106 : Hid (w95.heap.size ≤ w101.heap.size) := Lib.hid hc.size
  clear F96 F97 F98 H99 hc
  go_wp2_with fail
  refine (heldLRTimer (.slice g0vA0 r0d0.length g0vc0) r0d0 (1) w101 (RepA.seg (a := []) (m := [.slice g0vA0 r0d0.length g0vc0]) (b := [.slice g1vA0 r1d0.length g1vc0]) (da := []) (dm := [(rTimer r0d0).marks (1)]) (db := [(Lf.I r1d0).marks (1 + (rTimer r0d0).len)]) F103.out.reads rfl rfl).1 (by omega) HBr0.out (by have := HBr0.out; have := HBr1.out; omega)).mono ?_
  rintro e w107 ⟨rfl, hc⟩
  have F108 := Lib.hid (F102.out.below hc)
  have F109 := Lib.hid (F103.out.below hc)
  have F110 := Lib.hid (F104.out.below hc)
  have H111 := Lib.hid (bt H105.out hc)
  have Z112 : Hid (w101.heap.size ≤ w107.heap.size) := Lib.hid hc.size
  clear F102 F103 F104 H105 hc
  have hqw107 : ¬ ((1 + (rTimer r0d0).len : Nat) : Int) < 0 := by omega
  go_wp2_with fail
  refine (heldLI (.slice g1vA0 r1d0.length g1vc0) r1d0 (1 + (rTimer r0d0).len) w107 (RepA.seg (a := [.slice g0vA0 r0d0.length g0vc0]) (m := [.slice g1vA0 r1d0.length g1vc0]) (b := []) (da := [(rTimer r0d0).marks (1)]) (dm := [(Lf.I r1d0).marks (1 + (rTimer r0d0).len)]) (db := []) F109.out.reads rfl rfl).1 (by omega) (by have q := HBr1.out; simpa only [Lf.len_I, Lf.len_B, Lf.len_S, len_rTimer] using q) (by have := HBr0.out; have := HBr1.out; omega)).mono ?_
  rintro e w113 ⟨rfl, hc⟩
  have F114 := Lib.hid (F108.out.below hc)
  have F115 := Lib.hid (F109.out.below hc)
  have F116 := Lib.hid (F110.out.below hc)
  have H117 := Lib.hid (bt H111.out hc)
  have Z118 : Hid (w107.heap.size ≤ w113.heap.size) := Lib.hid hc.size
  clear F108 F109 F110 H111 hc
  have hqw113 : ¬ ((1 + (rTimer r0d0).len + (Lf.I r1d0).len : Nat) : Int) < 0 := by omega
  go_wp2
  go_ret
  exact ⟨rfl, H117.out⟩

/-! The row's step. -/
open Go.ChangeShapes Go.WideShapes Go.ChangeAt
open Go.ChangeMaps (open_string shut_string)
set_option maxRecDepth 100000 in
theorem own : ownKnob Try.prog.godebug = none := by kernel_rfl
set_option maxRecDepth 100000 in
theorem laidOut : laidOutB Try.prog = true := factLaid
set_option maxRecDepth 100000 in
theorem lifted (os : Os) (started : os.Started) (H : Type) (enc : TypeId × Value → H) :
    ReturnsInHanded {} Try.checked os 9 .any (Rows.fnExactTickTimersSpec.pre6 enc Try.prog Try.f9 Rows.fnExactTickTimersRow.domain false) (Rows.fnExactTickTimersSpec.post enc Try.prog Try.f9 false true false false) := by
  refine returnsInHanded_of_change (C := Try.checked) own started (by kernel_rfl) Try.func9
    (ChangeSpec.witness6 (enc := enc) (C := Try.checked) false ⟨#[], #[.slice none 0 0, .int .i64 0], []⟩ 8 (by kernel_rfl) (by kernel_rfl) (by kernel_rfl) (by kernel_rfl)) ?_
  intro W base args ds gs before hval0 hW hcnd _
  have hval : ∀ (j : Nat) t v, Try.f9.params[j]? = some t → args[j]? = some v → Value.okWide Try.prog W .any base t v := hval0
  have hW' := hW
  obtain ⟨p, q, hA0, hV, rfl, hfz, hnd⟩ := hW
  have hA : DataW.TrodAll enc Try.prog W 0 (fun _ => true) true Try.f9.params.toList args.toList ds p := hA0
  rw [Try.params9] at hA hval
  obtain ⟨v0, vs0, d0, ds0, p0, q0, hargs, rfl, rfl, h0, r0⟩ := trodAll_cons hA
  obtain ⟨v1, vs1, d1, ds1, p1, q1, rfl, rfl, rfl, h1, r1⟩ := trodAll_cons r0
  obtain ⟨rfl, rfl, rfl⟩ := trodAll_nil r1
  obtain rfl : args = #[v0, v1] := by cases args; simp_all
  obtain ⟨rfl, rfl⟩ := trodVars_none hV
  have k0 := h0
  have lt0 : ∀ x ∈ p0, x.block < W.heap.size := by obtain ⟨m, hm⟩ := k0; exact DataW.trod_lt m _ _ _ hm
  obtain ⟨f0, hf0⟩ := h0
  obtain ⟨x0, y0, z0, e0⟩ := okWide_slice Try.underlying55 (hval 0 55 v0 rfl rfl)
  obtain ⟨a0vA0, a0vc0, a0d0, e0x, R0x, G0x⟩ := openRTimer (by rw [e0] at hf0; simpa [Value.cells] using hf0)
  rw [← e0] at e0x R0x
  subst e0x
  have R0 : RepA W [.slice a0vA0 a0d0.length a0vc0] [rTimer a0d0] := ⟨R0x, trivial⟩
  have G0 : FitA [rTimer a0d0] := fun d hd => by simp only [List.mem_cons, List.not_mem_nil, or_false] at hd; subst hd; exact G0x
  obtain ⟨a1, rfl, rfl, rfl, w1⟩ := open_int Try.underlying3 (hval 1 3 v1 rfl rfl) h1
  clear hA0 hval0
  refine (walk a0vA0 a0vc0 a0d0 a1 W R0 G0).mono fun e W' ⟨he, bel⟩ => ?_
  subst he
  exact ⟨_, rfl, _, _, _, [], _, [], hW', trodAll_mk1 (shut_bool Try.underlying4 _), (trodAll_cons_mk (Below.trod laidOut (by kernel_rfl) (of_decide_eq_true (by kernel_rfl)) k0 bel lt0) (trodAll_cons_mk (shut_int Try.underlying3 w1) trodAll_mk0)), rfl, bel.frame _, fun h => by cases h⟩

theorem k0 : (Rows.fnExactTickTimersRow.wf (OpenSpec.ofChange Rows.fnExactTickTimersSpec)) = true := by kernel_rfl
set_option maxRecDepth 100000 in
theorem k3 : (Try.f9.params.all (Try.prog.readableRec ·)) = true := by kernel_rfl
set_option maxRecDepth 100000 in
theorem k4 : (namedTie Try.prog Rows.fnExactTickTimersRow.named Rows.fnExactTickTimersSpec.vars) = true := by kernel_rfl
theorem k5 : ((Rows.fnExactTickTimersRow.stops == [])) = true := by kernel_rfl
set_option maxRecDepth 100000 in
theorem k6 : ((Try.prog.stops == [])) = true := by kernel_rfl
theorem k7 : ((Rows.fnExactTickTimersRow.knobs == [])) = true := by kernel_rfl
set_option maxRecDepth 100000 in
theorem k8 : ((Try.prog.stopKnobs == [])) = true := by kernel_rfl
set_option maxRecDepth 100000 in
theorem k9 : ((Rows.fnExactTickTimersRow.inPlace == Try.prog.inPlace 9)) = true := by kernel_rfl
set_option maxRecDepth 100000 in
theorem k10 : ((Rows.fnExactTickTimersRow.unfollowed == Try.prog.unfollowed 9)) = true := by kernel_rfl
set_option maxRecDepth 100000 in
theorem k11 : ((Rows.fnExactTickTimersRow.recurses == Try.prog.recurses 9)) = true := by kernel_rfl
set_option maxRecDepth 100000 in
theorem k12 : ((Rows.fnExactTickTimersRow.named == Try.prog.varsNamed 9)) = true := by kernel_rfl
set_option maxRecDepth 100000 in
theorem k13 : ((Rows.fnExactTickTimersRow.maps == (Try.f9.params.toList ++ Rows.fnExactTickTimersSpec.plain.varTypes Try.prog).any (Try.prog.mapsRec ·))) = true := by kernel_rfl
set_option maxRecDepth 100000 in
theorem k14 : ((Rows.fnExactTickTimersRow.ifaces == (Try.f9.params.toList ++ Rows.fnExactTickTimersSpec.plain.varTypes Try.prog).any (Try.prog.ifacesRec ·))) = true := by kernel_rfl
set_option maxRecDepth 100000 in
theorem k15 : ((Rows.fnExactTickTimersRow.mapsOut == Try.prog.mapsAmong Try.f9.resultTypes.toList)) = true := by kernel_rfl
set_option maxRecDepth 100000 in
theorem k16 : ((Rows.fnExactTickTimersRow.loops == (Try.f9.params.toList ++ Rows.fnExactTickTimersSpec.plain.varTypes Try.prog).any (Try.prog.loopsFrom ·))) = true := by kernel_rfl
set_option maxRecDepth 100000 in
theorem k17 : ((Rows.fnExactTickTimersRow.wideKeys == (Try.f9.params.toList ++ Rows.fnExactTickTimersSpec.plain.varTypes Try.prog ++ Try.f9.resultTypes.toList).any (Try.prog.wideKeysFrom ·))) = true := by kernel_rfl
set_option maxRecDepth 100000 in
theorem k18 : (Rows.fnExactTickTimersSpec.vars.all (Try.prog.varReadable ·)) = true := by kernel_rfl
set_option maxRecDepth 100000 in
theorem k19 : (Try.f9.resultTypes.all (fun t => Try.prog.readableRec t && decide (t < Try.prog.types.size))) = true := by kernel_rfl
set_option maxRecDepth 100000 in
theorem k20 : ((Rows.fnExactTickTimersRow.ifacesOut == Try.f9.resultTypes.toList.any (Try.prog.ifacesRec ·))) = true := by kernel_rfl
set_option maxRecDepth 100000 in
theorem k21 : ((Rows.fnExactTickTimersRow.loopsOut == Try.f9.resultTypes.toList.any (Try.prog.loopsFrom ·))) = true := by kernel_rfl
set_option maxRecDepth 100000 in
theorem k22 : ((Rows.fnExactTickTimersRow.plainKeys == Try.prog.plainKeys)) = true := by kernel_rfl
theorem k23 : (Rows.fnExactTickTimersRow.shortTexts.isNone) = true := by kernel_rfl
set_option maxRecDepth 100000 in
theorem k28 : ((Rows.fnExactTickTimersRow.kinds == (if Rows.fnExactTickTimersRow.domain.isEmpty then [] else Try.f9.params.toList.map fun t => match Try.prog.underlying t with | some (.int k) => some k | _ => none))) = true := by kernel_rfl
theorem k29 : ((Rows.fnExactTickTimersRow.pinned == Rows.fnExactTickTimersRow.pinnedBy)) = true := by kernel_rfl
set_option maxRecDepth 100000 in
theorem k30 : ((Rows.fnExactTickTimersRow.veiled == (Try.f9.params.toList ++ Rows.fnExactTickTimersSpec.plain.varTypes Try.prog ++ Try.f9.resultTypes.toList).any (Try.prog.veiledRec ·))) = true := by kernel_rfl
set_option maxRecDepth 100000 in
theorem k31 : (Rows.fnExactTickTimersRow.veiledFits Try.prog Try.f9.params.toList (Try.f9.params.toList ++ Rows.fnExactTickTimersSpec.plain.varTypes Try.prog ++ Try.f9.resultTypes.toList)) = true := by kernel_rfl
set_option maxRecDepth 100000 in
theorem facts : joinedFacts Try.prog 9 Try.f9 Rows.fnExactTickTimersSpec Rows.fnExactTickTimersRow = true := (and_mk (and_mk (and_mk (and_mk (and_mk (and_mk (and_mk (and_mk (and_mk (and_mk (and_mk (and_mk (and_mk (and_mk (and_mk (and_mk (and_mk (and_mk (and_mk (and_mk (and_mk (and_mk (and_mk (and_mk (and_mk (and_mk (and_mk (and_mk (and_mk (and_mk (and_mk k0 factLaid) factRowed) k3) k4) k5) k6) k7) k8) k9) k10) k11) k12) k13) k14) k15) k16) k17) k18) k19) k20) k21) k22) k23) factHeard) factEnter) factLift) factMake) k28) k29) k30) k31)
set_option maxRecDepth 100000 in
theorem named : Try.prog.funcNamed Rows.fnExactTickTimersRow.func = some 9 := by kernel_rfl
set_option maxRecDepth 100000 in
theorem inst : Try.f9.isInstance Try.prog Rows.fnExactTickTimersRow.origin Rows.fnExactTickTimersRow.targs := of_decide_eq_true (by kernel_rfl)
set_option maxRecDepth 100000 in
theorem over : Rows.fnExactTickTimersRow.holds Try.pinned (OpenSpec.ofChange Rows.fnExactTickTimersSpec) :=
  OpenClaim.holds_of_wide 9 Try.f9 rfl rfl rfl rfl rfl rfl rfl ⟨rfl, rfl, rfl, rfl, rfl⟩ rfl rfl rfl rfl rfl named Try.func9 facts
    inst (by unfold Func.isWrapper; first | (rw [if_pos (by decide +kernel)]; kernel_rfl) | (rw [if_neg (by decide +kernel)]; exact ⟨rfl, rfl⟩))
    (fun os started H enc _ => lifted os started H enc)
theorem proved : Rows.FnExactTickTimersSaid := over
#print axioms proved
end Go.Proofs.Ytagdclbpgkilgaa.fnExactTickTimers
