/- For every call, laws.FnExactNewTimers returns true: impl.NewTimers answers as the model spec.NewTimers, every field, leaves its arguments alone, and its result is memory of its own. No condition. -/
import Derived.Test.YtagdclbpgkilgaaTimSet
import Derived.Test.YtagdclbpgkilgaaGenRTimer
import Derived.Test.YtagdclbpgkilgaaGenOpen
import Derived.Test.YtagdclbpgkilgaaFactA
import Derived.Test.YtagdclbpgkilgaaFactB
import Derived.Test.YtagdclbpgkilgaaFactC
import Derived.Test.YtagdclbpgkilgaaFactD
import Derived.Deep.RegionHeld3
import Derived.ProofKit
import Derived.OpenShut
import Derived.ShutString
import Derived.ChangeOld
namespace Go.Proofs.Ytagdclbpgkilgaa.fnExactNewTimers
open Go.RowKit

set_option maxRecDepth 100000 in
set_option maxHeartbeats 16000000 in
theorem walk  (w : World) :
    Calls Try.prog 7 #[] w fun e w' => e = .returned (.bool true) ∧ Below w.heap.size w w' := by
  have HSpec := Lib.hid (fun W => specNewTimersA  W )
  have HImpl := Lib.hid (fun W => implNewTimersA  W )
  have HBnd := Lib.hid (fun (_ : True) => (show lenA [rTimer (newTs)] ≤ 4294967296 from (by simp [lenA, len_rTimer, newTs])))
  generalize newTs = r0d0 at HSpec HImpl HBnd
  have H0 : Hid (Below w.heap.size w w) := Lib.hid (Below.refl _ _)
  go_enter Try.func7, Try.ntmps7
  have HBd := Lib.hid (HBnd.out trivial)
  clear HBnd
  have HBr0 : Hid ((rTimer r0d0).len ≤ 4294967296) := Lib.hid (by have := HBd.out; simp only [lenA] at this; omega)
  go_wp2_with fail
  refine (HSpec.out w ).mono ?_
  rintro e w1 ⟨w0vA0, w0vc0, rfl, Nw, hc⟩
  have H2 := Lib.hid (bt H0.out hc)
  have Z3 : Hid (w.heap.size ≤ w1.heap.size) := Lib.hid hc.size
  clear H0 hc
  clear HSpec
  go_wp2_with fail
  refine (HImpl.out w1 ).mono ?_
  rintro e w4 ⟨g0vA0, g0vc0, rfl, Ng, hc⟩
  have F5 := Lib.hid (Nw.out.below hc)
  have H6 := Lib.hid (bt H2.out hc)
  have Z7 : Hid (w1.heap.size ≤ w4.heap.size) := Lib.hid hc.size
  clear Nw H2 hc
  go_wp2_with fail
  refine (eqLRTimer (.slice g0vA0 r0d0.length g0vc0) (.slice w0vA0 r0d0.length w0vc0) r0d0 w4 Ng.out.reads.1 F5.out.reads.1 (by have q := HBr0.out; simp only [Lf.len_I, Lf.len_B, Lf.len_S, len_rTimer] at q; unfold maxLen; omega)).mono ?_
  rintro e w8 ⟨rfl, hc⟩
  have F9 := Lib.hid (F5.out.below hc)
  have F10 := Lib.hid (Ng.out.below hc)
  have H11 := Lib.hid (bt H6.out hc)
  have Z12 : Hid (w4.heap.size ≤ w8.heap.size) := Lib.hid hc.size
  clear F5 Ng H6 hc
  go_wp2_with fail
  have HM := Lib.hid (markLRTimer (.slice g0vA0 r0d0.length g0vc0) r0d0 (1) w1.heap.size w4.heap.size w8 F10.out.1.1 (by omega) HBr0.out (by have := HBr0.out; omega))
  refine HM.out.mono ?_
  rintro e w13 ⟨rfl, M1, U1⟩
  clear HM
  have U2 := U1.btw F10.out
  have N14 := Lib.hid (OwnA.one M1.out)
  have F15 := Lib.hid (F9.out.btw U2 (by have := Z3.out; have := Z7.out; have := Z12.out; omega))
  have H16 := Lib.hid (H11.out.trans ((U2.below (by have := Z3.out; have := Z7.out; have := Z12.out; omega)).mono (by have := Z3.out; have := Z7.out; have := Z12.out; omega)))
  have Z17 : Hid (w8.heap.size ≤ w13.heap.size) := Lib.hid U2.size
  clear F9 H11
  clear U1 U2 M1 F10
  have hm0 : (((1 + (rTimer r0d0).len : Nat) : Int) != ((1 + (rTimer r0d0).len : Nat) : Int)) = false := by simp
  go_wp2_with fail
  refine (heldLRTimer (.slice g0vA0 r0d0.length g0vc0) r0d0 (1) w13 N14.out.reads.1 (by omega) HBr0.out (by have := HBr0.out; omega)).mono ?_
  rintro e w18 ⟨rfl, hc⟩
  have F19 := Lib.hid (F15.out.below hc)
  have F20 := Lib.hid (N14.out.below hc)
  have H21 := Lib.hid (bt H16.out hc)
  have Z22 : Hid (w13.heap.size ≤ w18.heap.size) := Lib.hid hc.size
  clear F15 N14 H16 hc
  have hqw18 : ¬ ((1 + (rTimer r0d0).len : Nat) : Int) < 0 := by omega
  go_wp2_with fail
  refine (HImpl.out w18 ).mono ?_
  rintro e w23 ⟨h0vA0, h0vc0, rfl, Nh, hc⟩
  have F24 := Lib.hid (F19.out.below hc)
  have F25 := Lib.hid (F20.out.below hc)
  have H26 := Lib.hid (bt H21.out hc)
  have Z27 : Hid (w18.heap.size ≤ w23.heap.size) := Lib.hid hc.size
  clear F19 F20 H21 hc
  go_wp2_with fail
  refine (eqLRTimer (.slice h0vA0 r0d0.length h0vc0) (.slice w0vA0 r0d0.length w0vc0) r0d0 w23 Nh.out.reads.1 F24.out.reads.1 (by have q := HBr0.out; simp only [Lf.len_I, Lf.len_B, Lf.len_S, len_rTimer] at q; unfold maxLen; omega)).mono ?_
  rintro e w28 ⟨rfl, hc⟩
  have F29 := Lib.hid (F24.out.below hc)
  have F30 := Lib.hid (F25.out.below hc)
  have F31 := Lib.hid (Nh.out.below hc)
  have H32 := Lib.hid (bt H26.out hc)
  have Z33 : Hid (w23.heap.size ≤ w28.heap.size) := Lib.hid hc.size
  clear F24 F25 Nh H26 hc
  go_wp2_with fail
  refine (heldLRTimer (.slice g0vA0 r0d0.length g0vc0) r0d0 (1) w28 F30.out.reads.1 (by omega) HBr0.out (by have := HBr0.out; omega)).mono ?_
  rintro e w34 ⟨rfl, hc⟩
  have F35 := Lib.hid (F29.out.below hc)
  have F36 := Lib.hid (F30.out.below hc)
  have F37 := Lib.hid (F31.out.below hc)
  have H38 := Lib.hid (bt H32.out hc)
  have Z39 : Hid (w28.heap.size ≤ w34.heap.size) := Lib.hid hc.size
  clear F29 F30 F31 H32 hc
  have hqw34 : ¬ ((1 + (rTimer r0d0).len : Nat) : Int) < 0 := by omega
  go_wp2
  go_ret
  exact ⟨rfl, H38.out⟩

/-! The row's step. -/
open Go.ChangeShapes Go.WideShapes Go.ChangeAt
open Go.ChangeMaps (open_string shut_string)
set_option maxRecDepth 100000 in
theorem own : ownKnob Try.prog.godebug = none := by kernel_rfl
set_option maxRecDepth 100000 in
theorem laidOut : laidOutB Try.prog = true := factLaid
set_option maxRecDepth 100000 in
theorem lifted (os : Os) (started : os.Started) (H : Type) (enc : TypeId × Value → H) :
    ReturnsInHanded {} Try.checked os 7 .any (Rows.fnExactNewTimersSpec.pre6 enc Try.prog Try.f7 Rows.fnExactNewTimersRow.domain false) (Rows.fnExactNewTimersSpec.post enc Try.prog Try.f7 false true false false) := by
  refine returnsInHanded_of_change (C := Try.checked) own started (by kernel_rfl) Try.func7
    (ChangeSpec.witness6 (enc := enc) (C := Try.checked) false ⟨#[], #[], []⟩ 8 (by kernel_rfl) (by kernel_rfl) (by kernel_rfl) (by kernel_rfl)) ?_
  intro W base args ds gs before hval0 hW hcnd _
  have hval : ∀ (j : Nat) t v, Try.f7.params[j]? = some t → args[j]? = some v → Value.okWide Try.prog W .any base t v := hval0
  have hW' := hW
  obtain ⟨p, q, hA0, hV, rfl, hfz, hnd⟩ := hW
  have hA : DataW.TrodAll enc Try.prog W 0 (fun _ => true) true Try.f7.params.toList args.toList ds p := hA0
  rw [Try.params7] at hA hval
  obtain ⟨rfl, rfl, rfl⟩ := trodAll_none hA
  obtain ⟨rfl, rfl⟩ := trodVars_none hV
  clear hA0 hval0
  refine (walk  W ).mono fun e W' ⟨he, bel⟩ => ?_
  subst he
  exact ⟨_, rfl, _, _, _, [], _, [], hW', trodAll_mk1 (shut_bool Try.underlying4 _), trodAll_mk0, rfl, bel.frame _, fun h => by cases h⟩

theorem k0 : (Rows.fnExactNewTimersRow.wf (OpenSpec.ofChange Rows.fnExactNewTimersSpec)) = true := by kernel_rfl
set_option maxRecDepth 100000 in
theorem k3 : (Try.f7.params.all (Try.prog.readableRec ·)) = true := by kernel_rfl
set_option maxRecDepth 100000 in
theorem k4 : (namedTie Try.prog Rows.fnExactNewTimersRow.named Rows.fnExactNewTimersSpec.vars) = true := by kernel_rfl
theorem k5 : ((Rows.fnExactNewTimersRow.stops == [])) = true := by kernel_rfl
set_option maxRecDepth 100000 in
theorem k6 : ((Try.prog.stops == [])) = true := by kernel_rfl
theorem k7 : ((Rows.fnExactNewTimersRow.knobs == [])) = true := by kernel_rfl
set_option maxRecDepth 100000 in
theorem k8 : ((Try.prog.stopKnobs == [])) = true := by kernel_rfl
set_option maxRecDepth 100000 in
theorem k9 : ((Rows.fnExactNewTimersRow.inPlace == Try.prog.inPlace 7)) = true := by kernel_rfl
set_option maxRecDepth 100000 in
theorem k10 : ((Rows.fnExactNewTimersRow.unfollowed == Try.prog.unfollowed 7)) = true := by kernel_rfl
set_option maxRecDepth 100000 in
theorem k11 : ((Rows.fnExactNewTimersRow.recurses == Try.prog.recurses 7)) = true := by kernel_rfl
set_option maxRecDepth 100000 in
theorem k12 : ((Rows.fnExactNewTimersRow.named == Try.prog.varsNamed 7)) = true := by kernel_rfl
set_option maxRecDepth 100000 in
theorem k13 : ((Rows.fnExactNewTimersRow.maps == (Try.f7.params.toList ++ Rows.fnExactNewTimersSpec.plain.varTypes Try.prog).any (Try.prog.mapsRec ·))) = true := by kernel_rfl
set_option maxRecDepth 100000 in
theorem k14 : ((Rows.fnExactNewTimersRow.ifaces == (Try.f7.params.toList ++ Rows.fnExactNewTimersSpec.plain.varTypes Try.prog).any (Try.prog.ifacesRec ·))) = true := by kernel_rfl
set_option maxRecDepth 100000 in
theorem k15 : ((Rows.fnExactNewTimersRow.mapsOut == Try.prog.mapsAmong Try.f7.resultTypes.toList)) = true := by kernel_rfl
set_option maxRecDepth 100000 in
theorem k16 : ((Rows.fnExactNewTimersRow.loops == (Try.f7.params.toList ++ Rows.fnExactNewTimersSpec.plain.varTypes Try.prog).any (Try.prog.loopsFrom ·))) = true := by kernel_rfl
set_option maxRecDepth 100000 in
theorem k17 : ((Rows.fnExactNewTimersRow.wideKeys == (Try.f7.params.toList ++ Rows.fnExactNewTimersSpec.plain.varTypes Try.prog ++ Try.f7.resultTypes.toList).any (Try.prog.wideKeysFrom ·))) = true := by kernel_rfl
set_option maxRecDepth 100000 in
theorem k18 : (Rows.fnExactNewTimersSpec.vars.all (Try.prog.varReadable ·)) = true := by kernel_rfl
set_option maxRecDepth 100000 in
theorem k19 : (Try.f7.resultTypes.all (fun t => Try.prog.readableRec t && decide (t < Try.prog.types.size))) = true := by kernel_rfl
set_option maxRecDepth 100000 in
theorem k20 : ((Rows.fnExactNewTimersRow.ifacesOut == Try.f7.resultTypes.toList.any (Try.prog.ifacesRec ·))) = true := by kernel_rfl
set_option maxRecDepth 100000 in
theorem k21 : ((Rows.fnExactNewTimersRow.loopsOut == Try.f7.resultTypes.toList.any (Try.prog.loopsFrom ·))) = true := by kernel_rfl
set_option maxRecDepth 100000 in
theorem k22 : ((Rows.fnExactNewTimersRow.plainKeys == Try.prog.plainKeys)) = true := by kernel_rfl
theorem k23 : (Rows.fnExactNewTimersRow.shortTexts.isNone) = true := by kernel_rfl
set_option maxRecDepth 100000 in
theorem k28 : ((Rows.fnExactNewTimersRow.kinds == (if Rows.fnExactNewTimersRow.domain.isEmpty then [] else Try.f7.params.toList.map fun t => match Try.prog.underlying t with | some (.int k) => some k | _ => none))) = true := by kernel_rfl
theorem k29 : ((Rows.fnExactNewTimersRow.pinned == Rows.fnExactNewTimersRow.pinnedBy)) = true := by kernel_rfl
set_option maxRecDepth 100000 in
theorem k30 : ((Rows.fnExactNewTimersRow.veiled == (Try.f7.params.toList ++ Rows.fnExactNewTimersSpec.plain.varTypes Try.prog ++ Try.f7.resultTypes.toList).any (Try.prog.veiledRec ·))) = true := by kernel_rfl
set_option maxRecDepth 100000 in
theorem k31 : (Rows.fnExactNewTimersRow.veiledFits Try.prog Try.f7.params.toList (Try.f7.params.toList ++ Rows.fnExactNewTimersSpec.plain.varTypes Try.prog ++ Try.f7.resultTypes.toList)) = true := by kernel_rfl
set_option maxRecDepth 100000 in
theorem facts : joinedFacts Try.prog 7 Try.f7 Rows.fnExactNewTimersSpec Rows.fnExactNewTimersRow = true := (and_mk (and_mk (and_mk (and_mk (and_mk (and_mk (and_mk (and_mk (and_mk (and_mk (and_mk (and_mk (and_mk (and_mk (and_mk (and_mk (and_mk (and_mk (and_mk (and_mk (and_mk (and_mk (and_mk (and_mk (and_mk (and_mk (and_mk (and_mk (and_mk (and_mk (and_mk k0 factLaid) factRowed) k3) k4) k5) k6) k7) k8) k9) k10) k11) k12) k13) k14) k15) k16) k17) k18) k19) k20) k21) k22) k23) factHeard) factEnter) factLift) factMake) k28) k29) k30) k31)
set_option maxRecDepth 100000 in
theorem named : Try.prog.funcNamed Rows.fnExactNewTimersRow.func = some 7 := by kernel_rfl
set_option maxRecDepth 100000 in
theorem inst : Try.f7.isInstance Try.prog Rows.fnExactNewTimersRow.origin Rows.fnExactNewTimersRow.targs := of_decide_eq_true (by kernel_rfl)
set_option maxRecDepth 100000 in
theorem over : Rows.fnExactNewTimersRow.holds Try.pinned (OpenSpec.ofChange Rows.fnExactNewTimersSpec) :=
  OpenClaim.holds_of_wide 7 Try.f7 rfl rfl rfl rfl rfl rfl rfl ⟨rfl, rfl, rfl, rfl, rfl⟩ rfl rfl rfl rfl rfl named Try.func7 facts
    inst (by unfold Func.isWrapper; first | (rw [if_pos (by decide +kernel)]; kernel_rfl) | (rw [if_neg (by decide +kernel)]; exact ⟨rfl, rfl⟩))
    (fun os started H enc _ => lifted os started H enc)
theorem proved : Rows.FnExactNewTimersSaid := over
#print axioms proved
end Go.Proofs.Ytagdclbpgkilgaa.fnExactNewTimers
