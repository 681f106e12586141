/- For every []Channel and int and Channel, laws.FnExactSetChannel returns true: impl.SetChannel answers as the model spec.SetChannel, every field, leaves its arguments alone, and its result is memory of its own. No condition. -/
import Derived.Test.YtngoijchebfolaaSetCh
import Derived.Test.YtngoijchebfolaaGenRChannel
import Derived.Test.YtngoijchebfolaaGenChannel
import Derived.Test.YtngoijchebfolaaGenOpen
import Derived.Test.YtngoijchebfolaaFactA
import Derived.Test.YtngoijchebfolaaFactB
import Derived.Test.YtngoijchebfolaaFactC
import Derived.Test.YtngoijchebfolaaFactD
import Derived.Deep.RegionHeld3
import Derived.ProofKit
import Derived.OpenShut
import Derived.ShutString
import Derived.ChangeOld
namespace Go.Proofs.Ytngoijchebfolaa.fnExactSetChannel
open Go.RowKit

set_option maxRecDepth 100000 in
set_option maxHeartbeats 16000000 in
theorem walk (a0vA0 : Option Addr) (a0vc0 : Nat) (a0d0 : List TChannel) (a1d0 : Int) (a2d0 : Int) (a2d1 : Int) (a2d2 : Int) (a2d3 : Int) (w : World) (h0 : RepA w [.slice a0vA0 a0d0.length a0vc0] [rChannel a0d0]) (f0 : FitA [rChannel a0d0]) :
    Calls Try.prog 7 #[.slice a0vA0 a0d0.length a0vc0, .int .i64 a1d0, .agg #[.int .i64 a2d0, .int .i64 a2d1, .int .i64 a2d2, .int .i64 a2d3]] w fun e w' => e = .returned (.bool true) ∧ Below w.heap.size w w' := by
  have HSz0 := Lib.hid (fun W (hb : Below w.heap.size w W) l g0 g1 => szLRChannel (.slice a0vA0 a0d0.length a0vc0) a0d0 l W (h0.below hb).1 (f0 _ (by simp)) g0 g1)
  have HTo0 := Lib.hid (fun W (hb : Below w.heap.size w W) (z : szA [rChannel a0d0] ≤ 1048576) => toLRChannel (.slice a0vA0 a0d0.length a0vc0) a0d0 W (h0.below hb).1 (by have q := z; simp only [szA, Lf.sz_I, Lf.sz_B, Lf.sz_S, sz_rChannel] at q; omega))
  have HTo2 := Lib.hid (fun W => toChannelA a2d0 a2d1 a2d2 a2d3 W)
  have HSpec := Lib.hid (fun W (q0vA0 : Option Addr) (q0vc0 : Nat) (h0 : RepA W [.slice q0vA0 a0d0.length q0vc0] [rChannel a0d0]) (c0 : CapA [.slice q0vA0 a0d0.length q0vc0]) (z0 : szA [rChannel a0d0] ≤ 1048576) => specSetChannelA q0vA0 q0vc0 a0d0 a1d0 a2d0 a2d1 a2d2 a2d3 W h0 c0 z0  )
  have HImpl := Lib.hid (fun W (q0vA0 : Option Addr) (q0vc0 : Nat) (h0 : RepA W [.slice q0vA0 a0d0.length q0vc0] [rChannel a0d0]) (c0 : CapA [.slice q0vA0 a0d0.length q0vc0]) (z0 : szA [rChannel a0d0] ≤ 1048576) => implSetChannelA q0vA0 q0vc0 a0d0 a1d0 a2d0 a2d1 a2d2 a2d3 W h0 c0 z0  )
  have HBnd := Lib.hid (fun (z0 : szA [rChannel a0d0] ≤ 1048576) => (show lenA [rChannel (setRs a0d0 a1d0 (a2d0, a2d1, a2d2, a2d3))] ≤ 4294967296 from setCh_bnd _ _ _ z0))
  generalize setRs a0d0 a1d0 (a2d0, a2d1, a2d2, a2d3) = r0d0 at HSpec HImpl HBnd
  generalize setCode a0d0 a1d0 (a2d0, a2d1, a2d2, a2d3) = r1d0 at HSpec HImpl HBnd
  have qr1d0 : (r1d0 != r1d0) = false := by simp
  clear h0 f0
  have H0 : Hid (Below w.heap.size w w) := Lib.hid (Below.refl _ _)
  go_enter Try.func7, Try.ntmps7
  obtain ⟨W1, hW1⟩ : ∃ W1, W1 = (w.alloc (.cells #[.int .i64 a2d0, .int .i64 a2d1, .int .i64 a2d2, .int .i64 a2d3] 66)) := ⟨_, rfl⟩
  have hba : Below w.heap.size w W1 := by rw [hW1]; exact ((Below.refl _ _).alloc (Nat.le_refl _) _)
  have Z2 : Hid (W1.heap.size = w.heap.size + 1) := Lib.hid (by rw [hW1]; simp)
  have B3 : Hid (Box W1 (w.heap.size) 66 #[.int .i64 a2d0, .int .i64 a2d1, .int .i64 a2d2, .int .i64 a2d3]) := Lib.hid (by rw [hW1]; exact (Box.new w 66 #[.int .i64 a2d0, .int .i64 a2d1, .int .i64 a2d2, .int .i64 a2d3]))
  have H4 := Lib.hid (bt H0.out hba)
  have Z5 : Hid (w.heap.size ≤ W1.heap.size) := Lib.hid hba.size
  clear H0 hba
  have HW1 := Lib.hid hW1
  clear hW1
  go_wp2_with fail
  rw [← HW1.out]
  refine (HSz0.out _ H4.out _ (by omega) (by omega)).mono ?_
  rintro e w6 ⟨hres, hc⟩
  clear HW1
  have F7 := Lib.hid (B3.out.step hc)
  have H8 := Lib.hid (bt H4.out hc)
  have Z9 : Hid (W1.heap.size ≤ w6.heap.size) := Lib.hid hc.size
  clear B3 H4 hc
  clear HSz0
  rcases hres with rfl | ⟨rfl, hle0⟩
  · go_wp2
    go_ret
    exact ⟨rfl, H8.out⟩
  have z0 : szA [rChannel a0d0] ≤ 1048576 := by simp only [szA] at hle0 ⊢; omega
  generalize hu0 : Lf.sz (rChannel a0d0) = u0 at hle0 ⊢
  clear hu0
  have hp0 : ¬ (1048576 : Int) - (u0 : Int) < 0 := by omega
  have HBd := Lib.hid (HBnd.out z0)
  clear HBnd
  have HBr0 : Hid ((rChannel r0d0).len ≤ 4294967296) := Lib.hid (by have := HBd.out; simp only [lenA] at this; omega)
  have f0 : w6.cell? ⟨w.heap.size, 0, none⟩ = some (.int .i64 a2d0) := F7.out.cell 0 rfl
  have f1 : w6.cell? ⟨w.heap.size, 1, none⟩ = some (.int .i64 a2d1) := F7.out.cell 1 rfl
  have f2 : w6.cell? ⟨w.heap.size, 2, none⟩ = some (.int .i64 a2d2) := F7.out.cell 2 rfl
  have f3 : w6.cell? ⟨w.heap.size, 3, none⟩ = some (.int .i64 a2d3) := F7.out.cell 3 rfl
  have HK := Lib.hid (fun W' (hb : Below w6.heap.size w6 W') => And.intro ((hb.cell (cell_lt f0)).trans f0) (And.intro ((hb.cell (cell_lt f1)).trans f1) (And.intro ((hb.cell (cell_lt f2)).trans f2) ((hb.cell (cell_lt f3)).trans f3))))
  have h6 : Below w6.heap.size w6 w6.drew := (Below.refl _ _).drew
  go_wp2
  go_region_held3 (fun W => W.cell? ⟨w.heap.size, 0, none⟩ = some (.int .i64 a2d0) ∧ W.cell? ⟨w.heap.size, 1, none⟩ = some (.int .i64 a2d1) ∧ W.cell? ⟨w.heap.size, 2, none⟩ = some (.int .i64 a2d2) ∧ W.cell? ⟨w.heap.size, 3, none⟩ = some (.int .i64 a2d3))
    (first | exact HK.out _ h6 | exact HK.out _ (bt h6 hbw11) | exact HK.out _ (bt (bt h6 hbw11) hbw13) | exact HK.out _ (bt (bt (bt h6 hbw11) hbw13) hbw14))
    (first | (go_at_call 38; have _t1 := hbw11; refine (HTo2.out _).mono ?_; rintro e w13 ⟨rfl, hbw13⟩) | (go_at_call 32; refine (HTo0.out _ H8.out.drew z0).mono ?_; rintro e w11 ⟨t10vA0, t10vc0, rfl, Nt10, Kt10, hbw11⟩) | (go_at_call 37; refine (HSpec.out w13 t10vA0 t10vc0 ((OwnA.one Nt10.out).below hbw13).reads (CapA.cons Kt10.out CapA.nil) z0).mono ?_; rintro e w14 ⟨w0vA0, w0vc0, rfl, Nw, hbw14⟩))
  have hc : Below w6.heap.size w6 w14 := bt (bt (bt h6 hbw11) hbw13) hbw14
  have Z15 : Hid (w6.heap.size ≤ w13.heap.size) := Lib.hid (bt (bt h6 hbw11) hbw13).size
  have Z16 : Hid (w13.heap.size ≤ w14.heap.size) := Lib.hid hbw14.size
  have F17 := Lib.hid (F7.out.step hc)
  have H18 := Lib.hid (bt H8.out hc)
  have Z19 : Hid (w6.heap.size ≤ w14.heap.size) := Lib.hid hc.size
  clear F7 H8 hc
  clear HK h6 f0 f1 f2 f3 hbw11 hbw13 hbw14 Nt10 Kt10
  clear HSpec
  go_wp2_with fail
  refine (HTo0.out _ H18.out z0).mono ?_
  rintro e w20 ⟨x0vA0, x0vc0, rfl, Nx0, Kx0, hc⟩
  have F21 := Lib.hid (F17.out.step hc)
  have F22 := Lib.hid (Nw.out.below hc)
  have H23 := Lib.hid (bt H18.out hc)
  have Z24 : Hid (w14.heap.size ≤ w20.heap.size) := Lib.hid hc.size
  clear F17 Nw H18 hc
  have Ox0 := Lib.hid (OwnA.one Nx0.out)
  clear Nx0
  have Kx0 := Lib.hid (CapA.cons Kx0.out CapA.nil)
  have f0 : w20.cell? ⟨w.heap.size, 0, none⟩ = some (.int .i64 a2d0) := F21.out.cell 0 rfl
  have f1 : w20.cell? ⟨w.heap.size, 1, none⟩ = some (.int .i64 a2d1) := F21.out.cell 1 rfl
  have f2 : w20.cell? ⟨w.heap.size, 2, none⟩ = some (.int .i64 a2d2) := F21.out.cell 2 rfl
  have f3 : w20.cell? ⟨w.heap.size, 3, none⟩ = some (.int .i64 a2d3) := F21.out.cell 3 rfl
  go_wp2_with fail
  refine (HTo2.out _).mono ?_
  rintro e w26 ⟨rfl, hc⟩
  clear f0 f1 f2 f3
  have F27 := Lib.hid (F21.out.step hc)
  have F28 := Lib.hid (F22.out.below hc)
  have F29 := Lib.hid (Ox0.out.below hc)
  have H30 := Lib.hid (bt H23.out hc)
  have Z31 : Hid (w20.heap.size ≤ w26.heap.size) := Lib.hid hc.size
  clear F21 F22 Ox0 H23 hc
  go_wp2_with fail
  refine (HImpl.out w26 x0vA0 x0vc0 F29.out.reads Kx0.out z0).mono ?_
  rintro e w32 ⟨g0vA0, g0vc0, rfl, Ng, hc⟩
  have F33 := Lib.hid (F27.out.step hc)
  have F34 := Lib.hid (F28.out.below hc)
  have F35 := Lib.hid (F29.out.below hc)
  have H36 := Lib.hid (bt H30.out hc)
  have Z37 : Hid (w26.heap.size ≤ w32.heap.size) := Lib.hid hc.size
  clear F27 F28 F29 H30 hc
  go_wp2_with fail
  refine (eqLRChannel (.slice g0vA0 r0d0.length g0vc0) (.slice w0vA0 r0d0.length w0vc0) r0d0 w32 Ng.out.reads.1 F34.out.reads.1 (by have q := HBr0.out; simp only [Lf.len_I, Lf.len_B, Lf.len_S, len_rChannel] at q; unfold maxLen; omega)).mono ?_
  rintro e w38 ⟨rfl, hc⟩
  have F39 := Lib.hid (F33.out.step hc)
  have F40 := Lib.hid (F34.out.below hc)
  have F41 := Lib.hid (F35.out.below hc)
  have F42 := Lib.hid (Ng.out.below hc)
  have H43 := Lib.hid (bt H36.out hc)
  have Z44 : Hid (w32.heap.size ≤ w38.heap.size) := Lib.hid hc.size
  clear F33 F34 F35 Ng H36 hc
  go_wp2_with fail
  refine (HTo0.out _ H43.out z0).mono ?_
  rintro e w46 ⟨t45vA0, t45vc0, rfl, Nt45, Kt45, hc⟩
  have F47 := Lib.hid (F39.out.step hc)
  have F48 := Lib.hid (F40.out.below hc)
  have F49 := Lib.hid (F41.out.below hc)
  have F50 := Lib.hid (F42.out.below hc)
  have H51 := Lib.hid (bt H43.out hc)
  have Z52 : Hid (w38.heap.size ≤ w46.heap.size) := Lib.hid hc.size
  clear F39 F40 F41 F42 H43 hc
  have Ot45 := Lib.hid (OwnA.one Nt45.out)
  clear Nt45
  have Kt45 := Lib.hid (CapA.cons Kt45.out CapA.nil)
  go_wp2_with fail
  refine (eqLRChannel (.slice x0vA0 a0d0.length x0vc0) (.slice t45vA0 a0d0.length t45vc0) a0d0 w46 F49.out.reads.1 Ot45.out.reads.1 (by have q := szA_len [rChannel a0d0]; have q2 := z0; simp only [lenA, Lf.len_I, Lf.len_B, Lf.len_S, len_rChannel] at q; unfold maxLen; omega)).mono ?_
  rintro e w53 ⟨rfl, hc⟩
  have F54 := Lib.hid (F47.out.step hc)
  have F55 := Lib.hid (F48.out.below hc)
  have F56 := Lib.hid (F49.out.below hc)
  have F57 := Lib.hid (F50.out.below hc)
  have F58 := Lib.hid (Ot45.out.below hc)
  have H59 := Lib.hid (bt H51.out hc)
  have Z60 : Hid (w46.heap.size ≤ w53.heap.size) := Lib.hid hc.size
  clear F47 F48 F49 F50 Ot45 H51 hc
  clear F58 Kt45
  go_wp2_with fail
  have hk0 : (1 : Nat) ≤ 1 := Nat.le_refl _
  have hlx : lenA [rChannel a0d0] ≤ 16777216 := Nat.le_trans (szA_len _) (by have := z0; omega)
  have HM := Lib.hid (markLRChannel (.slice x0vA0 a0d0.length x0vc0) a0d0 1 w14.heap.size w20.heap.size w53 F56.out.1.1 (by omega) (by have q := hlx; simp only [lenA] at q; omega) (by omega))
  clear hlx hk0
  refine HM.out.mono ?_
  rintro e w61 ⟨rfl, M1, U1⟩
  clear HM M1
  have U2 := U1.btw F56.out
  have F62 := Lib.hid (F54.out.btw U2 (by have := Z2.out; have := Z5.out; have := Z9.out; have := Z15.out; have := Z16.out; have := Z19.out; have := Z24.out; have := Z31.out; have := Z37.out; have := Z44.out; have := Z52.out; have := Z60.out; omega))
  have F63 := Lib.hid (F55.out.btw U2 (by have := Z2.out; have := Z5.out; have := Z9.out; have := Z15.out; have := Z16.out; have := Z19.out; have := Z24.out; have := Z31.out; have := Z37.out; have := Z44.out; have := Z52.out; have := Z60.out; omega))
  have F64 := Lib.hid (F57.out.btw U2 (by have := Z2.out; have := Z5.out; have := Z9.out; have := Z15.out; have := Z16.out; have := Z19.out; have := Z24.out; have := Z31.out; have := Z37.out; have := Z44.out; have := Z52.out; have := Z60.out; omega))
  have H65 := Lib.hid (H59.out.trans ((U2.below (by have := Z2.out; have := Z5.out; have := Z9.out; have := Z15.out; have := Z16.out; have := Z19.out; have := Z24.out; have := Z31.out; have := Z37.out; have := Z44.out; have := Z52.out; have := Z60.out; omega)).mono (by have := Z2.out; have := Z5.out; have := Z9.out; have := Z15.out; have := Z16.out; have := Z19.out; have := Z24.out; have := Z31.out; have := Z37.out; have := Z44.out; have := Z52.out; have := Z60.out; omega)))
  have Z66 : Hid (w53.heap.size ≤ w61.heap.size) := Lib.hid U2.size
  clear F54 F55 F57 H59
  clear U1 U2 F56
  generalize hk : 1 + (rChannel a0d0).len = k67
  have hkk67 : 1 ≤ k67 ∧ k67 ≤ 1 + 16777216 := by have q1 := szA_len [rChannel a0d0]; have q2 := z0; simp only [lenA] at q1 hk; omega
  clear hk
  have hnk67 : ¬ (k67 : Int) < 0 := by omega
  go_wp2_with fail
  refine (eqLRChannel (.slice g0vA0 r0d0.length g0vc0) (.slice w0vA0 r0d0.length w0vc0) r0d0 w61 F64.out.reads.1 F63.out.reads.1 (by have q := HBr0.out; simp only [Lf.len_I, Lf.len_B, Lf.len_S, len_rChannel] at q; unfold maxLen; omega)).mono ?_
  rintro e w68 ⟨rfl, hc⟩
  have F69 := Lib.hid (F62.out.step hc)
  have F70 := Lib.hid (F63.out.below hc)
  have F71 := Lib.hid (F64.out.below hc)
  have H72 := Lib.hid (bt H65.out hc)
  have Z73 : Hid (w61.heap.size ≤ w68.heap.size) := Lib.hid hc.size
  clear F62 F63 F64 H65 hc
  go_wp2_with fail
  have HM := Lib.hid (markLRChannel (.slice g0vA0 r0d0.length g0vc0) r0d0 (1) w26.heap.size w32.heap.size w68 F71.out.1.1 (by omega) HBr0.out (by have := HBr0.out; omega))
  refine HM.out.mono ?_
  rintro e w74 ⟨rfl, M1, U1⟩
  clear HM
  have U2 := U1.btw F71.out
  have N75 := Lib.hid (OwnA.one M1.out)
  have F76 := Lib.hid (F69.out.btw U2 (by have := Z2.out; have := Z5.out; have := Z9.out; have := Z15.out; have := Z16.out; have := Z19.out; have := Z24.out; have := Z31.out; have := Z37.out; have := Z44.out; have := Z52.out; have := Z60.out; have := Z66.out; have := Z73.out; omega))
  have F77 := Lib.hid (F70.out.btw U2 (by have := Z2.out; have := Z5.out; have := Z9.out; have := Z15.out; have := Z16.out; have := Z19.out; have := Z24.out; have := Z31.out; have := Z37.out; have := Z44.out; have := Z52.out; have := Z60.out; have := Z66.out; have := Z73.out; omega))
  have H78 := Lib.hid (H72.out.trans ((U2.below (by have := Z2.out; have := Z5.out; have := Z9.out; have := Z15.out; have := Z16.out; have := Z19.out; have := Z24.out; have := Z31.out; have := Z37.out; have := Z44.out; have := Z52.out; have := Z60.out; have := Z66.out; have := Z73.out; omega)).mono (by have := Z2.out; have := Z5.out; have := Z9.out; have := Z15.out; have := Z16.out; have := Z19.out; have := Z24.out; have := Z31.out; have := Z37.out; have := Z44.out; have := Z52.out; have := Z60.out; have := Z66.out; have := Z73.out; omega)))
  have Z79 : Hid (w68.heap.size ≤ w74.heap.size) := Lib.hid U2.size
  clear F69 F70 H72
  clear U1 U2 M1 F71
  have hm0 : (((1 + (rChannel r0d0).len : Nat) : Int) != ((1 + (rChannel r0d0).len : Nat) : Int)) = false := by simp
  go_wp2_with fail
  refine (heldLRChannel (.slice g0vA0 r0d0.length g0vc0) r0d0 (1) w74 N75.out.reads.1 (by omega) HBr0.out (by have := HBr0.out; omega)).mono ?_
  rintro e w80 ⟨rfl, hc⟩
  have F81 := Lib.hid (F76.out.step hc)
  have F82 := Lib.hid (F77.out.below hc)
  have F83 := Lib.hid (N75.out.below hc)
  have H84 := Lib.hid (bt H78.out hc)
  have Z85 : Hid (w74.heap.size ≤ w80.heap.size) := Lib.hid hc.size
  clear F76 F77 N75 H78 hc
  have hqw80 : ¬ ((1 + (rChannel r0d0).len : Nat) : Int) < 0 := by omega
  have f0 : w80.cell? ⟨w.heap.size, 0, none⟩ = some (.int .i64 a2d0) := F81.out.cell 0 rfl
  have f1 : w80.cell? ⟨w.heap.size, 1, none⟩ = some (.int .i64 a2d1) := F81.out.cell 1 rfl
  have f2 : w80.cell? ⟨w.heap.size, 2, none⟩ = some (.int .i64 a2d2) := F81.out.cell 2 rfl
  have f3 : w80.cell? ⟨w.heap.size, 3, none⟩ = some (.int .i64 a2d3) := F81.out.cell 3 rfl
  have HK := Lib.hid (fun W' (hb : Below w80.heap.size w80 W') => And.intro ((hb.cell (cell_lt f0)).trans f0) (And.intro ((hb.cell (cell_lt f1)).trans f1) (And.intro ((hb.cell (cell_lt f2)).trans f2) ((hb.cell (cell_lt f3)).trans f3))))
  have h6 : Below w80.heap.size w80 w80.drew := (Below.refl _ _).drew
  go_wp2
  go_region_held3 (fun W => W.cell? ⟨w.heap.size, 0, none⟩ = some (.int .i64 a2d0) ∧ W.cell? ⟨w.heap.size, 1, none⟩ = some (.int .i64 a2d1) ∧ W.cell? ⟨w.heap.size, 2, none⟩ = some (.int .i64 a2d2) ∧ W.cell? ⟨w.heap.size, 3, none⟩ = some (.int .i64 a2d3))
    (first | exact HK.out _ h6 | exact HK.out _ (bt h6 hbw87) | exact HK.out _ (bt (bt h6 hbw87) hbw89) | exact HK.out _ (bt (bt (bt h6 hbw87) hbw89) hbw90))
    (first | (go_at_call 38; have _t1 := hbw87; refine (HTo2.out _).mono ?_; rintro e w89 ⟨rfl, hbw89⟩) | (go_at_call 32; refine (HTo0.out _ H84.out.drew z0).mono ?_; rintro e w87 ⟨t86vA0, t86vc0, rfl, Nt86, Kt86, hbw87⟩) | (go_at_call 11; refine (HImpl.out w89 t86vA0 t86vc0 ((OwnA.one Nt86.out).below hbw89).reads (CapA.cons Kt86.out CapA.nil) z0).mono ?_; rintro e w90 ⟨h0vA0, h0vc0, rfl, Nh, hbw90⟩))
  have hc : Below w80.heap.size w80 w90 := bt (bt (bt h6 hbw87) hbw89) hbw90
  have Z91 : Hid (w80.heap.size ≤ w89.heap.size) := Lib.hid (bt (bt h6 hbw87) hbw89).size
  have Z92 : Hid (w89.heap.size ≤ w90.heap.size) := Lib.hid hbw90.size
  have F93 := Lib.hid (F81.out.step hc)
  have F94 := Lib.hid (F82.out.below hc)
  have F95 := Lib.hid (F83.out.below hc)
  have H96 := Lib.hid (bt H84.out hc)
  have Z97 : Hid (w80.heap.size ≤ w90.heap.size) := Lib.hid hc.size
  clear F81 F82 F83 H84 hc
  clear HK h6 f0 f1 f2 f3 hbw87 hbw89 hbw90 Nt86 Kt86
  go_wp2_with fail
  refine (eqLRChannel (.slice h0vA0 r0d0.length h0vc0) (.slice w0vA0 r0d0.length w0vc0) r0d0 w90 Nh.out.reads.1 F94.out.reads.1 (by have q := HBr0.out; simp only [Lf.len_I, Lf.len_B, Lf.len_S, len_rChannel] at q; unfold maxLen; omega)).mono ?_
  rintro e w98 ⟨rfl, hc⟩
  have F99 := Lib.hid (F93.out.step hc)
  have F100 := Lib.hid (F94.out.below hc)
  have F101 := Lib.hid (F95.out.below hc)
  have F102 := Lib.hid (Nh.out.below hc)
  have H103 := Lib.hid (bt H96.out hc)
  have Z104 : Hid (w90.heap.size ≤ w98.heap.size) := Lib.hid hc.size
  clear F93 F94 F95 Nh H96 hc
  go_wp2_with fail
  refine (heldLRChannel (.slice g0vA0 r0d0.length g0vc0) r0d0 (1) w98 F101.out.reads.1 (by omega) HBr0.out (by have := HBr0.out; omega)).mono ?_
  rintro e w105 ⟨rfl, hc⟩
  have F106 := Lib.hid (F99.out.step hc)
  have F107 := Lib.hid (F100.out.below hc)
  have F108 := Lib.hid (F101.out.below hc)
  have F109 := Lib.hid (F102.out.below hc)
  have H110 := Lib.hid (bt H103.out hc)
  have Z111 : Hid (w98.heap.size ≤ w105.heap.size) := Lib.hid hc.size
  clear F99 F100 F101 F102 H103 hc
  have hqw105 : ¬ ((1 + (rChannel r0d0).len : Nat) : Int) < 0 := by omega
  go_wp2
  go_ret
  exact ⟨rfl, H110.out⟩

/-! The row's step. -/
open Go.ChangeShapes Go.WideShapes Go.ChangeAt
open Go.ChangeMaps (open_string shut_string)
set_option maxRecDepth 100000 in
theorem own : ownKnob Try.prog.godebug = none := by kernel_rfl
set_option maxRecDepth 100000 in
theorem laidOut : laidOutB Try.prog = true := factLaid
set_option maxRecDepth 100000 in
theorem lifted (os : Os) (started : os.Started) (H : Type) (enc : TypeId × Value → H) :
    ReturnsInHanded {} Try.checked os 7 .any (Rows.fnExactSetChannelSpec.pre6 enc Try.prog Try.f7 Rows.fnExactSetChannelRow.domain false) (Rows.fnExactSetChannelSpec.post enc Try.prog Try.f7 false true false false) := by
  refine returnsInHanded_of_change (C := Try.checked) own started (by kernel_rfl) Try.func7
    (ChangeSpec.witness6 (enc := enc) (C := Try.checked) false ⟨#[], #[.slice none 0 0, .int .i64 0, .agg #[.int .i64 0, .int .i64 0, .int .i64 0, .int .i64 0]], []⟩ 8 (by kernel_rfl) (by kernel_rfl) (by kernel_rfl) (by kernel_rfl)) ?_
  intro W base args ds gs before hval0 hW hcnd _
  have hval : ∀ (j : Nat) t v, Try.f7.params[j]? = some t → args[j]? = some v → Value.okWide Try.prog W .any base t v := hval0
  have hW' := hW
  obtain ⟨p, q, hA0, hV, rfl, hfz, hnd⟩ := hW
  have hA : DataW.TrodAll enc Try.prog W 0 (fun _ => true) true Try.f7.params.toList args.toList ds p := hA0
  rw [Try.params7] at hA hval
  obtain ⟨v0, vs0, d0, ds0, p0, q0, hargs, rfl, rfl, h0, r0⟩ := trodAll_cons hA
  obtain ⟨v1, vs1, d1, ds1, p1, q1, rfl, rfl, rfl, h1, r1⟩ := trodAll_cons r0
  obtain ⟨v2, vs2, d2, ds2, p2, q2, rfl, rfl, rfl, h2, r2⟩ := trodAll_cons r1
  obtain ⟨rfl, rfl, rfl⟩ := trodAll_nil r2
  obtain rfl : args = #[v0, v1, v2] := by cases args; simp_all
  obtain ⟨rfl, rfl⟩ := trodVars_none hV
  have k0 := h0
  have lt0 : ∀ x ∈ p0, x.block < W.heap.size := by obtain ⟨m, hm⟩ := k0; exact DataW.trod_lt m _ _ _ hm
  obtain ⟨f0, hf0⟩ := h0
  obtain ⟨x0, y0, z0, e0⟩ := okWide_slice Try.underlying59 (hval 0 59 v0 rfl rfl)
  obtain ⟨a0vA0, a0vc0, a0d0, e0x, R0x, G0x⟩ := openRChannel (by rw [e0] at hf0; simpa [Value.cells] using hf0)
  rw [← e0] at e0x R0x
  subst e0x
  have R0 : RepA W [.slice a0vA0 a0d0.length a0vc0] [rChannel a0d0] := ⟨R0x, trivial⟩
  have G0 : FitA [rChannel a0d0] := fun d hd => by simp only [List.mem_cons, List.not_mem_nil, or_false] at hd; subst hd; exact G0x
  obtain ⟨a1, rfl, rfl, rfl, w1⟩ := open_int Try.underlying3 (hval 1 3 v1 rfl rfl) h1
  have k2 := h2
  have lt2 : ∀ x ∈ p2, x.block < W.heap.size := by obtain ⟨m, hm⟩ := k2; exact DataW.trod_lt m _ _ _ hm
  obtain ⟨a2d0, a2d1, a2d2, a2d3, rfl, R2, G2⟩ := openChannel (hval 2 66 v2 rfl rfl) h2
  clear hA0 hval0
  refine (walk a0vA0 a0vc0 a0d0 a1 a2d0 a2d1 a2d2 a2d3 W R0 G0).mono fun e W' ⟨he, bel⟩ => ?_
  subst he
  exact ⟨_, rfl, _, _, _, [], _, [], hW', trodAll_mk1 (shut_bool Try.underlying4 _), (trodAll_cons_mk (Below.trod laidOut (by kernel_rfl) (of_decide_eq_true (by kernel_rfl)) k0 bel lt0) (trodAll_cons_mk (shut_int Try.underlying3 w1) (trodAll_cons_mk (Below.trod laidOut (by kernel_rfl) (of_decide_eq_true (by kernel_rfl)) k2 bel lt2) trodAll_mk0))), rfl, bel.frame _, fun h => by cases h⟩

theorem k0 : (Rows.fnExactSetChannelRow.wf (OpenSpec.ofChange Rows.fnExactSetChannelSpec)) = true := by kernel_rfl
set_option maxRecDepth 100000 in
theorem k3 : (Try.f7.params.all (Try.prog.readableRec ·)) = true := by kernel_rfl
set_option maxRecDepth 100000 in
theorem k4 : (namedTie Try.prog Rows.fnExactSetChannelRow.named Rows.fnExactSetChannelSpec.vars) = true := by kernel_rfl
theorem k5 : ((Rows.fnExactSetChannelRow.stops == [])) = true := by kernel_rfl
set_option maxRecDepth 100000 in
theorem k6 : ((Try.prog.stops == [])) = true := by kernel_rfl
theorem k7 : ((Rows.fnExactSetChannelRow.knobs == [])) = true := by kernel_rfl
set_option maxRecDepth 100000 in
theorem k8 : ((Try.prog.stopKnobs == [])) = true := by kernel_rfl
set_option maxRecDepth 100000 in
theorem k9 : ((Rows.fnExactSetChannelRow.inPlace == Try.prog.inPlace 7)) = true := by kernel_rfl
set_option maxRecDepth 100000 in
theorem k10 : ((Rows.fnExactSetChannelRow.unfollowed == Try.prog.unfollowed 7)) = true := by kernel_rfl
set_option maxRecDepth 100000 in
theorem k11 : ((Rows.fnExactSetChannelRow.recurses == Try.prog.recurses 7)) = true := by kernel_rfl
set_option maxRecDepth 100000 in
theorem k12 : ((Rows.fnExactSetChannelRow.named == Try.prog.varsNamed 7)) = true := by kernel_rfl
set_option maxRecDepth 100000 in
theorem k13 : ((Rows.fnExactSetChannelRow.maps == (Try.f7.params.toList ++ Rows.fnExactSetChannelSpec.plain.varTypes Try.prog).any (Try.prog.mapsRec ·))) = true := by kernel_rfl
set_option maxRecDepth 100000 in
theorem k14 : ((Rows.fnExactSetChannelRow.ifaces == (Try.f7.params.toList ++ Rows.fnExactSetChannelSpec.plain.varTypes Try.prog).any (Try.prog.ifacesRec ·))) = true := by kernel_rfl
set_option maxRecDepth 100000 in
theorem k15 : ((Rows.fnExactSetChannelRow.mapsOut == Try.prog.mapsAmong Try.f7.resultTypes.toList)) = true := by kernel_rfl
set_option maxRecDepth 100000 in
theorem k16 : ((Rows.fnExactSetChannelRow.loops == (Try.f7.params.toList ++ Rows.fnExactSetChannelSpec.plain.varTypes Try.prog).any (Try.prog.loopsFrom ·))) = true := by kernel_rfl
set_option maxRecDepth 100000 in
theorem k17 : ((Rows.fnExactSetChannelRow.wideKeys == (Try.f7.params.toList ++ Rows.fnExactSetChannelSpec.plain.varTypes Try.prog ++ Try.f7.resultTypes.toList).any (Try.prog.wideKeysFrom ·))) = true := by kernel_rfl
set_option maxRecDepth 100000 in
theorem k18 : (Rows.fnExactSetChannelSpec.vars.all (Try.prog.varReadable ·)) = true := by kernel_rfl
set_option maxRecDepth 100000 in
theorem k19 : (Try.f7.resultTypes.all (fun t => Try.prog.readableRec t && decide (t < Try.prog.types.size))) = true := by kernel_rfl
set_option maxRecDepth 100000 in
theorem k20 : ((Rows.fnExactSetChannelRow.ifacesOut == Try.f7.resultTypes.toList.any (Try.prog.ifacesRec ·))) = true := by kernel_rfl
set_option maxRecDepth 100000 in
theorem k21 : ((Rows.fnExactSetChannelRow.loopsOut == Try.f7.resultTypes.toList.any (Try.prog.loopsFrom ·))) = true := by kernel_rfl
set_option maxRecDepth 100000 in
theorem k22 : ((Rows.fnExactSetChannelRow.plainKeys == Try.prog.plainKeys)) = true := by kernel_rfl
theorem k23 : (Rows.fnExactSetChannelRow.shortTexts.isNone) = true := by kernel_rfl
set_option maxRecDepth 100000 in
theorem k28 : ((Rows.fnExactSetChannelRow.kinds == (if Rows.fnExactSetChannelRow.domain.isEmpty then [] else Try.f7.params.toList.map fun t => match Try.prog.underlying t with | some (.int k) => some k | _ => none))) = true := by kernel_rfl
theorem k29 : ((Rows.fnExactSetChannelRow.pinned == Rows.fnExactSetChannelRow.pinnedBy)) = true := by kernel_rfl
set_option maxRecDepth 100000 in
theorem k30 : ((Rows.fnExactSetChannelRow.veiled == (Try.f7.params.toList ++ Rows.fnExactSetChannelSpec.plain.varTypes Try.prog ++ Try.f7.resultTypes.toList).any (Try.prog.veiledRec ·))) = true := by kernel_rfl
set_option maxRecDepth 100000 in
theorem k31 : (Rows.fnExactSetChannelRow.veiledFits Try.prog Try.f7.params.toList (Try.f7.params.toList ++ Rows.fnExactSetChannelSpec.plain.varTypes Try.prog ++ Try.f7.resultTypes.toList)) = true := by kernel_rfl
set_option maxRecDepth 100000 in
theorem facts : joinedFacts Try.prog 7 Try.f7 Rows.fnExactSetChannelSpec Rows.fnExactSetChannelRow = true := (and_mk (and_mk (and_mk (and_mk (and_mk (and_mk (and_mk (and_mk (and_mk (and_mk (and_mk (and_mk (and_mk (and_mk (and_mk (and_mk (and_mk (and_mk (and_mk (and_mk (and_mk (and_mk (and_mk (and_mk (and_mk (and_mk (and_mk (and_mk (and_mk (and_mk (and_mk k0 factLaid) factRowed) k3) k4) k5) k6) k7) k8) k9) k10) k11) k12) k13) k14) k15) k16) k17) k18) k19) k20) k21) k22) k23) factHeard) factEnter) factLift) factMake) k28) k29) k30) k31)
set_option maxRecDepth 100000 in
theorem named : Try.prog.funcNamed Rows.fnExactSetChannelRow.func = some 7 := by kernel_rfl
set_option maxRecDepth 100000 in
theorem inst : Try.f7.isInstance Try.prog Rows.fnExactSetChannelRow.origin Rows.fnExactSetChannelRow.targs := of_decide_eq_true (by kernel_rfl)
set_option maxRecDepth 100000 in
theorem over : Rows.fnExactSetChannelRow.holds Try.pinned (OpenSpec.ofChange Rows.fnExactSetChannelSpec) :=
  OpenClaim.holds_of_wide 7 Try.f7 rfl rfl rfl rfl rfl rfl rfl ⟨rfl, rfl, rfl, rfl, rfl⟩ rfl rfl rfl rfl rfl named Try.func7 facts
    inst (by unfold Func.isWrapper; first | (rw [if_pos (by decide +kernel)]; kernel_rfl) | (rw [if_neg (by decide +kernel)]; exact ⟨rfl, rfl⟩))
    (fun os started H enc _ => lifted os started H enc)
theorem proved : Rows.FnExactSetChannelSaid := over
#print axioms proved
end Go.Proofs.Ytngoijchebfolaa.fnExactSetChannel
