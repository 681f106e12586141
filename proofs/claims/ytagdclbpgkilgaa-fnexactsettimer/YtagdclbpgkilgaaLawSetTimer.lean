/- For every []Timer and int and int and bool, laws.FnExactSetTimer returns true: impl.SetTimer answers as the model spec.SetTimer, every field, leaves its arguments alone, and its result is memory of its own. No condition. -/
import Derived.Test.YtagdclbpgkilgaaTimSet
import Derived.Test.YtagdclbpgkilgaaGenRTimer
import Derived.Test.YtagdclbpgkilgaaGenOpen
import Derived.Test.YtagdclbpgkilgaaFactA
import Derived.Test.YtagdclbpgkilgaaFactB
import Derived.Test.YtagdclbpgkilgaaFactC
import Derived.Test.YtagdclbpgkilgaaFactD
import Derived.Deep.RegionHeld3
import Derived.ProofKit
import Derived.OpenShut
import Derived.ShutString
import Derived.ChangeOld
namespace Go.Proofs.Ytagdclbpgkilgaa.fnExactSetTimer
open Go.RowKit

set_option maxRecDepth 100000 in
set_option maxHeartbeats 16000000 in
theorem walk (a0vA0 : Option Addr) (a0vc0 : Nat) (a0d0 : List TTimer) (a1d0 : Int) (a2d0 : Int) (a3d0 : Bool) (w : World) (h0 : RepA w [.slice a0vA0 a0d0.length a0vc0] [rTimer a0d0]) (f0 : FitA [rTimer a0d0]) :
    Calls Try.prog 8 #[.slice a0vA0 a0d0.length a0vc0, .int .i64 a1d0, .int .i64 a2d0, .bool a3d0] w fun e w' => e = .returned (.bool true) ∧ Below w.heap.size w w' := by
  have HSz0 := Lib.hid (fun W (hb : Below w.heap.size w W) l g0 g1 => szLRTimer (.slice a0vA0 a0d0.length a0vc0) a0d0 l W (h0.below hb).1 (f0 _ (by simp)) g0 g1)
  have HTo0 := Lib.hid (fun W (hb : Below w.heap.size w W) (z : szA [rTimer a0d0] ≤ 1048576) => toLRTimer (.slice a0vA0 a0d0.length a0vc0) a0d0 W (h0.below hb).1 (by have q := z; simp only [szA, Lf.sz_I, Lf.sz_B, Lf.sz_S, sz_rTimer] at q; omega))
  have HSpec := Lib.hid (fun W (q0vA0 : Option Addr) (q0vc0 : Nat) (h0 : RepA W [.slice q0vA0 a0d0.length q0vc0] [rTimer a0d0]) (c0 : CapA [.slice q0vA0 a0d0.length q0vc0]) (z0 : szA [rTimer a0d0] ≤ 1048576) => specSetTimerA q0vA0 q0vc0 a0d0 a1d0 a2d0 a3d0 W h0 c0 z0   )
  have HImpl := Lib.hid (fun W (q0vA0 : Option Addr) (q0vc0 : Nat) (h0 : RepA W [.slice q0vA0 a0d0.length q0vc0] [rTimer a0d0]) (c0 : CapA [.slice q0vA0 a0d0.length q0vc0]) (z0 : szA [rTimer a0d0] ≤ 1048576) => implSetTimerA q0vA0 q0vc0 a0d0 a1d0 a2d0 a3d0 W h0 c0 z0   )
  unfold GivesTsCode at HSpec HImpl
  have HBnd := Lib.hid (fun (z0 : szA [rTimer a0d0] ≤ 1048576) => (show lenA [rTimer (setTR a0d0 a1d0 a2d0 a3d0)] ≤ 4294967296 from setT_bnd _ _ _ _ z0))
  generalize setTR a0d0 a1d0 a2d0 a3d0 = r0d0 at HSpec HImpl HBnd
  generalize setTC a0d0 a1d0 a2d0 a3d0 = r1d0 at HSpec HImpl HBnd
  have qr1d0 : (r1d0 != r1d0) = false := by simp
  clear h0 f0
  have H0 : Hid (Below w.heap.size w w) := Lib.hid (Below.refl _ _)
  go_enter Try.func8, Try.ntmps8
  go_wp2_with fail
  refine (HSz0.out _ H0.out _ (by omega) (by omega)).mono ?_
  rintro e w1 ⟨hres, hc⟩
  have H2 := Lib.hid (bt H0.out hc)
  have Z3 : Hid (w.heap.size ≤ w1.heap.size) := Lib.hid hc.size
  clear H0 hc
  clear HSz0
  rcases hres with rfl | ⟨rfl, hle0⟩
  · go_wp2
    go_ret
    exact ⟨rfl, H2.out⟩
  have z0 : szA [rTimer a0d0] ≤ 1048576 := by simp only [szA] at hle0 ⊢; omega
  generalize hu0 : Lf.sz (rTimer a0d0) = u0 at hle0 ⊢
  clear hu0
  have hp0 : ¬ (1048576 : Int) - (u0 : Int) < 0 := by omega
  have HBd := Lib.hid (HBnd.out z0)
  clear HBnd
  have HBr0 : Hid ((rTimer r0d0).len ≤ 4294967296) := Lib.hid (by have := HBd.out; simp only [lenA] at this; omega)
  go_wp2_with fail
  refine (HTo0.out _ H2.out z0).mono ?_
  rintro e w5 ⟨t4vA0, t4vc0, rfl, Nt4, Kt4, hc⟩
  have H6 := Lib.hid (bt H2.out hc)
  have Z7 : Hid (w1.heap.size ≤ w5.heap.size) := Lib.hid hc.size
  clear H2 hc
  have Ot4 := Lib.hid (OwnA.one Nt4.out)
  clear Nt4
  have Kt4 := Lib.hid (CapA.cons Kt4.out CapA.nil)
  go_wp2_with fail
  refine (HSpec.out w5 t4vA0 t4vc0 Ot4.out.reads Kt4.out z0).mono ?_
  rintro e w8 ⟨w0vA0, w0vc0, rfl, Nw, hc⟩
  have F9 := Lib.hid (Ot4.out.below hc)
  have H10 := Lib.hid (bt H6.out hc)
  have Z11 : Hid (w5.heap.size ≤ w8.heap.size) := Lib.hid hc.size
  clear Ot4 H6 hc
  clear F9 Kt4
  clear HSpec
  go_wp2_with fail
  refine (HTo0.out _ H10.out z0).mono ?_
  rintro e w12 ⟨x0vA0, x0vc0, rfl, Nx0, Kx0, hc⟩
  have F13 := Lib.hid (Nw.out.below hc)
  have H14 := Lib.hid (bt H10.out hc)
  have Z15 : Hid (w8.heap.size ≤ w12.heap.size) := Lib.hid hc.size
  clear Nw H10 hc
  have Ox0 := Lib.hid (OwnA.one Nx0.out)
  clear Nx0
  have Kx0 := Lib.hid (CapA.cons Kx0.out CapA.nil)
  go_wp2_with fail
  refine (HImpl.out w12 x0vA0 x0vc0 Ox0.out.reads Kx0.out z0).mono ?_
  rintro e w16 ⟨g0vA0, g0vc0, rfl, Ng, hc⟩
  have F17 := Lib.hid (F13.out.below hc)
  have F18 := Lib.hid (Ox0.out.below hc)
  have H19 := Lib.hid (bt H14.out hc)
  have Z20 : Hid (w12.heap.size ≤ w16.heap.size) := Lib.hid hc.size
  clear F13 Ox0 H14 hc
  go_wp2_with fail
  refine (eqLRTimer (.slice g0vA0 r0d0.length g0vc0) (.slice w0vA0 r0d0.length w0vc0) r0d0 w16 Ng.out.reads.1 F17.out.reads.1 (by have q := HBr0.out; simp only [Lf.len_I, Lf.len_B, Lf.len_S, len_rTimer] at q; unfold maxLen; omega)).mono ?_
  rintro e w21 ⟨rfl, hc⟩
  have F22 := Lib.hid (F17.out.below hc)
  have F23 := Lib.hid (F18.out.below hc)
  have F24 := Lib.hid (Ng.out.below hc)
  have H25 := Lib.hid (bt H19.out hc)
  have Z26 : Hid (w16.heap.size ≤ w21.heap.size) := Lib.hid hc.size
  clear F17 F18 Ng H19 hc
  go_wp2_with fail
  refine (HTo0.out _ H25.out z0).mono ?_
  rintro e w28 ⟨t27vA0, t27vc0, rfl, Nt27, Kt27, hc⟩
  have F29 := Lib.hid (F22.out.below hc)
  have F30 := Lib.hid (F23.out.below hc)
  have F31 := Lib.hid (F24.out.below hc)
  have H32 := Lib.hid (bt H25.out hc)
  have Z33 : Hid (w21.heap.size ≤ w28.heap.size) := Lib.hid hc.size
  clear F22 F23 F24 H25 hc
  have Ot27 := Lib.hid (OwnA.one Nt27.out)
  clear Nt27
  have Kt27 := Lib.hid (CapA.cons Kt27.out CapA.nil)
  go_wp2_with fail
  refine (eqLRTimer (.slice x0vA0 a0d0.length x0vc0) (.slice t27vA0 a0d0.length t27vc0) a0d0 w28 F30.out.reads.1 Ot27.out.reads.1 (by have q := szA_len [rTimer a0d0]; have q2 := z0; simp only [lenA, Lf.len_I, Lf.len_B, Lf.len_S, len_rTimer] at q; unfold maxLen; omega)).mono ?_
  rintro e w34 ⟨rfl, hc⟩
  have F35 := Lib.hid (F29.out.below hc)
  have F36 := Lib.hid (F30.out.below hc)
  have F37 := Lib.hid (F31.out.below hc)
  have F38 := Lib.hid (Ot27.out.below hc)
  have H39 := Lib.hid (bt H32.out hc)
  have Z40 : Hid (w28.heap.size ≤ w34.heap.size) := Lib.hid hc.size
  clear F29 F30 F31 Ot27 H32 hc
  clear F38 Kt27
  go_wp2_with fail
  have hk0 : (1 : Nat) ≤ 1 := Nat.le_refl _
  have hlx : lenA [rTimer a0d0] ≤ 16777216 := Nat.le_trans (szA_len _) (by have := z0; omega)
  have HM := Lib.hid (markLRTimer (.slice x0vA0 a0d0.length x0vc0) a0d0 1 w8.heap.size w12.heap.size w34 F36.out.1.1 (by omega) (by have q := hlx; simp only [lenA] at q; omega) (by omega))
  clear hlx hk0
  refine HM.out.mono ?_
  rintro e w41 ⟨rfl, M1, U1⟩
  clear HM M1
  have U2 := U1.btw F36.out
  have F42 := Lib.hid (F35.out.btw U2 (by have := Z3.out; have := Z7.out; have := Z11.out; have := Z15.out; have := Z20.out; have := Z26.out; have := Z33.out; have := Z40.out; omega))
  have F43 := Lib.hid (F37.out.btw U2 (by have := Z3.out; have := Z7.out; have := Z11.out; have := Z15.out; have := Z20.out; have := Z26.out; have := Z33.out; have := Z40.out; omega))
  have H44 := Lib.hid (H39.out.trans ((U2.below (by have := Z3.out; have := Z7.out; have := Z11.out; have := Z15.out; have := Z20.out; have := Z26.out; have := Z33.out; have := Z40.out; omega)).mono (by have := Z3.out; have := Z7.out; have := Z11.out; have := Z15.out; have := Z20.out; have := Z26.out; have := Z33.out; have := Z40.out; omega)))
  have Z45 : Hid (w34.heap.size ≤ w41.heap.size) := Lib.hid U2.size
  clear F35 F37 H39
  clear U1 U2 F36
  generalize hk : 1 + (rTimer a0d0).len = k46
  have hkk46 : 1 ≤ k46 ∧ k46 ≤ 1 + 16777216 := by have q1 := szA_len [rTimer a0d0]; have q2 := z0; simp only [lenA] at q1 hk; omega
  clear hk
  have hnk46 : ¬ (k46 : Int) < 0 := by omega
  go_wp2_with fail
  refine (eqLRTimer (.slice g0vA0 r0d0.length g0vc0) (.slice w0vA0 r0d0.length w0vc0) r0d0 w41 F43.out.reads.1 F42.out.reads.1 (by have q := HBr0.out; simp only [Lf.len_I, Lf.len_B, Lf.len_S, len_rTimer] at q; unfold maxLen; omega)).mono ?_
  rintro e w47 ⟨rfl, hc⟩
  have F48 := Lib.hid (F42.out.below hc)
  have F49 := Lib.hid (F43.out.below hc)
  have H50 := Lib.hid (bt H44.out hc)
  have Z51 : Hid (w41.heap.size ≤ w47.heap.size) := Lib.hid hc.size
  clear F42 F43 H44 hc
  go_wp2_with fail
  have HM := Lib.hid (markLRTimer (.slice g0vA0 r0d0.length g0vc0) r0d0 (1) w12.heap.size w16.heap.size w47 F49.out.1.1 (by omega) HBr0.out (by have := HBr0.out; omega))
  refine HM.out.mono ?_
  rintro e w52 ⟨rfl, M1, U1⟩
  clear HM
  have U2 := U1.btw F49.out
  have N53 := Lib.hid (OwnA.one M1.out)
  have F54 := Lib.hid (F48.out.btw U2 (by have := Z3.out; have := Z7.out; have := Z11.out; have := Z15.out; have := Z20.out; have := Z26.out; have := Z33.out; have := Z40.out; have := Z45.out; have := Z51.out; omega))
  have H55 := Lib.hid (H50.out.trans ((U2.below (by have := Z3.out; have := Z7.out; have := Z11.out; have := Z15.out; have := Z20.out; have := Z26.out; have := Z33.out; have := Z40.out; have := Z45.out; have := Z51.out; omega)).mono (by have := Z3.out; have := Z7.out; have := Z11.out; have := Z15.out; have := Z20.out; have := Z26.out; have := Z33.out; have := Z40.out; have := Z45.out; have := Z51.out; omega)))
  have Z56 : Hid (w47.heap.size ≤ w52.heap.size) := Lib.hid U2.size
  clear F48 H50
  clear U1 U2 M1 F49
  have hm0 : (((1 + (rTimer r0d0).len : Nat) : Int) != ((1 + (rTimer r0d0).len : Nat) : Int)) = false := by simp
  go_wp2_with fail
  refine (heldLRTimer (.slice g0vA0 r0d0.length g0vc0) r0d0 (1) w52 N53.out.reads.1 (by omega) HBr0.out (by have := HBr0.out; omega)).mono ?_
  rintro e w57 ⟨rfl, hc⟩
  have F58 := Lib.hid (F54.out.below hc)
  have F59 := Lib.hid (N53.out.below hc)
  have H60 := Lib.hid (bt H55.out hc)
  have Z61 : Hid (w52.heap.size ≤ w57.heap.size) := Lib.hid hc.size
  clear F54 N53 H55 hc
  have hqw57 : ¬ ((1 + (rTimer r0d0).len : Nat) : Int) < 0 := by omega
  go_wp2_with fail
  refine (HTo0.out _ H60.out z0).mono ?_
  rintro e w63 ⟨t62vA0, t62vc0, rfl, Nt62, Kt62, hc⟩
  have F64 := Lib.hid (F58.out.below hc)
  have F65 := Lib.hid (F59.out.below hc)
  have H66 := Lib.hid (bt H60.out hc)
  have Z67 : Hid (w57.heap.size ≤ w63.heap.size) := Lib.hid hc.size
  clear F58 F59 H60 hc
  have Ot62 := Lib.hid (OwnA.one Nt62.out)
  clear Nt62
  have Kt62 := Lib.hid (CapA.cons Kt62.out CapA.nil)
  go_wp2_with fail
  refine (HImpl.out w63 t62vA0 t62vc0 Ot62.out.reads Kt62.out z0).mono ?_
  rintro e w68 ⟨h0vA0, h0vc0, rfl, Nh, hc⟩
  have F69 := Lib.hid (F64.out.below hc)
  have F70 := Lib.hid (F65.out.below hc)
  have F71 := Lib.hid (Ot62.out.below hc)
  have H72 := Lib.hid (bt H66.out hc)
  have Z73 : Hid (w63.heap.size ≤ w68.heap.size) := Lib.hid hc.size
  clear F64 F65 Ot62 H66 hc
  clear F71 Kt62
  go_wp2_with fail
  refine (eqLRTimer (.slice h0vA0 r0d0.length h0vc0) (.slice w0vA0 r0d0.length w0vc0) r0d0 w68 Nh.out.reads.1 F69.out.reads.1 (by have q := HBr0.out; simp only [Lf.len_I, Lf.len_B, Lf.len_S, len_rTimer] at q; unfold maxLen; omega)).mono ?_
  rintro e w74 ⟨rfl, hc⟩
  have F75 := Lib.hid (F69.out.below hc)
  have F76 := Lib.hid (F70.out.below hc)
  have F77 := Lib.hid (Nh.out.below hc)
  have H78 := Lib.hid (bt H72.out hc)
  have Z79 : Hid (w68.heap.size ≤ w74.heap.size) := Lib.hid hc.size
  clear F69 F70 Nh H72 hc
  go_wp2_with fail
  refine (heldLRTimer (.slice g0vA0 r0d0.length g0vc0) r0d0 (1) w74 F76.out.reads.1 (by omega) HBr0.out (by have := HBr0.out; omega)).mono ?_
  rintro e w80 ⟨rfl, hc⟩
  have F81 := Lib.hid (F75.out.below hc)
  have F82 := Lib.hid (F76.out.below hc)
  have F83 := Lib.hid (F77.out.below hc)
  have H84 := Lib.hid (bt H78.out hc)
  have Z85 : Hid (w74.heap.size ≤ w80.heap.size) := Lib.hid hc.size
  clear F75 F76 F77 H78 hc
  have hqw80 : ¬ ((1 + (rTimer r0d0).len : Nat) : Int) < 0 := by omega
  go_wp2
  go_ret
  exact ⟨rfl, H84.out⟩

/-! The row's step. -/
open Go.ChangeShapes Go.WideShapes Go.ChangeAt
open Go.ChangeMaps (open_string shut_string)
set_option maxRecDepth 100000 in
theorem own : ownKnob Try.prog.godebug = none := by kernel_rfl
set_option maxRecDepth 100000 in
theorem laidOut : laidOutB Try.prog = true := factLaid
set_option maxRecDepth 100000 in
theorem lifted (os : Os) (started : os.Started) (H : Type) (enc : TypeId × Value → H) :
    ReturnsInHanded {} Try.checked os 8 .any (Rows.fnExactSetTimerSpec.pre6 enc Try.prog Try.f8 Rows.fnExactSetTimerRow.domain false) (Rows.fnExactSetTimerSpec.post enc Try.prog Try.f8 false true false false) := by
  refine returnsInHanded_of_change (C := Try.checked) own started (by kernel_rfl) Try.func8
    (ChangeSpec.witness6 (enc := enc) (C := Try.checked) false ⟨#[], #[.slice none 0 0, .int .i64 0, .int .i64 0, .bool false], []⟩ 8 (by kernel_rfl) (by kernel_rfl) (by kernel_rfl) (by kernel_rfl)) ?_
  intro W base args ds gs before hval0 hW hcnd _
  have hval : ∀ (j : Nat) t v, Try.f8.params[j]? = some t → args[j]? = some v → Value.okWide Try.prog W .any base t v := hval0
  have hW' := hW
  obtain ⟨p, q, hA0, hV, rfl, hfz, hnd⟩ := hW
  have hA : DataW.TrodAll enc Try.prog W 0 (fun _ => true) true Try.f8.params.toList args.toList ds p := hA0
  rw [Try.params8] at hA hval
  obtain ⟨v0, vs0, d0, ds0, p0, q0, hargs, rfl, rfl, h0, r0⟩ := trodAll_cons hA
  obtain ⟨v1, vs1, d1, ds1, p1, q1, rfl, rfl, rfl, h1, r1⟩ := trodAll_cons r0
  obtain ⟨v2, vs2, d2, ds2, p2, q2, rfl, rfl, rfl, h2, r2⟩ := trodAll_cons r1
  obtain ⟨v3, vs3, d3, ds3, p3, q3, rfl, rfl, rfl, h3, r3⟩ := trodAll_cons r2
  obtain ⟨rfl, rfl, rfl⟩ := trodAll_nil r3
  obtain rfl : args = #[v0, v1, v2, v3] := by cases args; simp_all
  obtain ⟨rfl, rfl⟩ := trodVars_none hV
  have k0 := h0
  have lt0 : ∀ x ∈ p0, x.block < W.heap.size := by obtain ⟨m, hm⟩ := k0; exact DataW.trod_lt m _ _ _ hm
  obtain ⟨f0, hf0⟩ := h0
  obtain ⟨x0, y0, z0, e0⟩ := okWide_slice Try.underlying55 (hval 0 55 v0 rfl rfl)
  obtain ⟨a0vA0, a0vc0, a0d0, e0x, R0x, G0x⟩ := openRTimer (by rw [e0] at hf0; simpa [Value.cells] using hf0)
  rw [← e0] at e0x R0x
  subst e0x
  have R0 : RepA W [.slice a0vA0 a0d0.length a0vc0] [rTimer a0d0] := ⟨R0x, trivial⟩
  have G0 : FitA [rTimer a0d0] := fun d hd => by simp only [List.mem_cons, List.not_mem_nil, or_false] at hd; subst hd; exact G0x
  obtain ⟨a1, rfl, rfl, rfl, w1⟩ := open_int Try.underlying3 (hval 1 3 v1 rfl rfl) h1
  obtain ⟨a2, rfl, rfl, rfl, w2⟩ := open_int Try.underlying3 (hval 2 3 v2 rfl rfl) h2
  obtain ⟨a3, rfl, rfl, rfl⟩ := open_bool Try.underlying4 (hval 3 4 v3 rfl rfl) h3
  clear hA0 hval0
  refine (walk a0vA0 a0vc0 a0d0 a1 a2 a3 W R0 G0).mono fun e W' ⟨he, bel⟩ => ?_
  subst he
  exact ⟨_, rfl, _, _, _, [], _, [], hW', trodAll_mk1 (shut_bool Try.underlying4 _), (trodAll_cons_mk (Below.trod laidOut (by kernel_rfl) (of_decide_eq_true (by kernel_rfl)) k0 bel lt0) (trodAll_cons_mk (shut_int Try.underlying3 w1) (trodAll_cons_mk (shut_int Try.underlying3 w2) (trodAll_cons_mk (shut_bool Try.underlying4 _) trodAll_mk0)))), rfl, bel.frame _, fun h => by cases h⟩

theorem k0 : (Rows.fnExactSetTimerRow.wf (OpenSpec.ofChange Rows.fnExactSetTimerSpec)) = true := by kernel_rfl
set_option maxRecDepth 100000 in
theorem k3 : (Try.f8.params.all (Try.prog.readableRec ·)) = true := by kernel_rfl
set_option maxRecDepth 100000 in
theorem k4 : (namedTie Try.prog Rows.fnExactSetTimerRow.named Rows.fnExactSetTimerSpec.vars) = true := by kernel_rfl
theorem k5 : ((Rows.fnExactSetTimerRow.stops == [])) = true := by kernel_rfl
set_option maxRecDepth 100000 in
theorem k6 : ((Try.prog.stops == [])) = true := by kernel_rfl
theorem k7 : ((Rows.fnExactSetTimerRow.knobs == [])) = true := by kernel_rfl
set_option maxRecDepth 100000 in
theorem k8 : ((Try.prog.stopKnobs == [])) = true := by kernel_rfl
set_option maxRecDepth 100000 in
theorem k9 : ((Rows.fnExactSetTimerRow.inPlace == Try.prog.inPlace 8)) = true := by kernel_rfl
set_option maxRecDepth 100000 in
theorem k10 : ((Rows.fnExactSetTimerRow.unfollowed == Try.prog.unfollowed 8)) = true := by kernel_rfl
set_option maxRecDepth 100000 in
theorem k11 : ((Rows.fnExactSetTimerRow.recurses == Try.prog.recurses 8)) = true := by kernel_rfl
set_option maxRecDepth 100000 in
theorem k12 : ((Rows.fnExactSetTimerRow.named == Try.prog.varsNamed 8)) = true := by kernel_rfl
set_option maxRecDepth 100000 in
theorem k13 : ((Rows.fnExactSetTimerRow.maps == (Try.f8.params.toList ++ Rows.fnExactSetTimerSpec.plain.varTypes Try.prog).any (Try.prog.mapsRec ·))) = true := by kernel_rfl
set_option maxRecDepth 100000 in
theorem k14 : ((Rows.fnExactSetTimerRow.ifaces == (Try.f8.params.toList ++ Rows.fnExactSetTimerSpec.plain.varTypes Try.prog).any (Try.prog.ifacesRec ·))) = true := by kernel_rfl
set_option maxRecDepth 100000 in
theorem k15 : ((Rows.fnExactSetTimerRow.mapsOut == Try.prog.mapsAmong Try.f8.resultTypes.toList)) = true := by kernel_rfl
set_option maxRecDepth 100000 in
theorem k16 : ((Rows.fnExactSetTimerRow.loops == (Try.f8.params.toList ++ Rows.fnExactSetTimerSpec.plain.varTypes Try.prog).any (Try.prog.loopsFrom ·))) = true := by kernel_rfl
set_option maxRecDepth 100000 in
theorem k17 : ((Rows.fnExactSetTimerRow.wideKeys == (Try.f8.params.toList ++ Rows.fnExactSetTimerSpec.plain.varTypes Try.prog ++ Try.f8.resultTypes.toList).any (Try.prog.wideKeysFrom ·))) = true := by kernel_rfl
set_option maxRecDepth 100000 in
theorem k18 : (Rows.fnExactSetTimerSpec.vars.all (Try.prog.varReadable ·)) = true := by kernel_rfl
set_option maxRecDepth 100000 in
theorem k19 : (Try.f8.resultTypes.all (fun t => Try.prog.readableRec t && decide (t < Try.prog.types.size))) = true := by kernel_rfl
set_option maxRecDepth 100000 in
theorem k20 : ((Rows.fnExactSetTimerRow.ifacesOut == Try.f8.resultTypes.toList.any (Try.prog.ifacesRec ·))) = true := by kernel_rfl
set_option maxRecDepth 100000 in
theorem k21 : ((Rows.fnExactSetTimerRow.loopsOut == Try.f8.resultTypes.toList.any (Try.prog.loopsFrom ·))) = true := by kernel_rfl
set_option maxRecDepth 100000 in
theorem k22 : ((Rows.fnExactSetTimerRow.plainKeys == Try.prog.plainKeys)) = true := by kernel_rfl
theorem k23 : (Rows.fnExactSetTimerRow.shortTexts.isNone) = true := by kernel_rfl
set_option maxRecDepth 100000 in
theorem k28 : ((Rows.fnExactSetTimerRow.kinds == (if Rows.fnExactSetTimerRow.domain.isEmpty then [] else Try.f8.params.toList.map fun t => match Try.prog.underlying t with | some (.int k) => some k | _ => none))) = true := by kernel_rfl
theorem k29 : ((Rows.fnExactSetTimerRow.pinned == Rows.fnExactSetTimerRow.pinnedBy)) = true := by kernel_rfl
set_option maxRecDepth 100000 in
theorem k30 : ((Rows.fnExactSetTimerRow.veiled == (Try.f8.params.toList ++ Rows.fnExactSetTimerSpec.plain.varTypes Try.prog ++ Try.f8.resultTypes.toList).any (Try.prog.veiledRec ·))) = true := by kernel_rfl
set_option maxRecDepth 100000 in
theorem k31 : (Rows.fnExactSetTimerRow.veiledFits Try.prog Try.f8.params.toList (Try.f8.params.toList ++ Rows.fnExactSetTimerSpec.plain.varTypes Try.prog ++ Try.f8.resultTypes.toList)) = true := by kernel_rfl
set_option maxRecDepth 100000 in
theorem facts : joinedFacts Try.prog 8 Try.f8 Rows.fnExactSetTimerSpec Rows.fnExactSetTimerRow = true := (and_mk (and_mk (and_mk (and_mk (and_mk (and_mk (and_mk (and_mk (and_mk (and_mk (and_mk (and_mk (and_mk (and_mk (and_mk (and_mk (and_mk (and_mk (and_mk (and_mk (and_mk (and_mk (and_mk (and_mk (and_mk (and_mk (and_mk (and_mk (and_mk (and_mk (and_mk k0 factLaid) factRowed) k3) k4) k5) k6) k7) k8) k9) k10) k11) k12) k13) k14) k15) k16) k17) k18) k19) k20) k21) k22) k23) factHeard) factEnter) factLift) factMake) k28) k29) k30) k31)
set_option maxRecDepth 100000 in
theorem named : Try.prog.funcNamed Rows.fnExactSetTimerRow.func = some 8 := by kernel_rfl
set_option maxRecDepth 100000 in
theorem inst : Try.f8.isInstance Try.prog Rows.fnExactSetTimerRow.origin Rows.fnExactSetTimerRow.targs := of_decide_eq_true (by kernel_rfl)
set_option maxRecDepth 100000 in
theorem over : Rows.fnExactSetTimerRow.holds Try.pinned (OpenSpec.ofChange Rows.fnExactSetTimerSpec) :=
  OpenClaim.holds_of_wide 8 Try.f8 rfl rfl rfl rfl rfl rfl rfl ⟨rfl, rfl, rfl, rfl, rfl⟩ rfl rfl rfl rfl rfl named Try.func8 facts
    inst (by unfold Func.isWrapper; first | (rw [if_pos (by decide +kernel)]; kernel_rfl) | (rw [if_neg (by decide +kernel)]; exact ⟨rfl, rfl⟩))
    (fun os started H enc _ => lifted os started H enc)
theorem proved : Rows.FnExactSetTimerSaid := over
#print axioms proved
end Go.Proofs.Ytagdclbpgkilgaa.fnExactSetTimer
