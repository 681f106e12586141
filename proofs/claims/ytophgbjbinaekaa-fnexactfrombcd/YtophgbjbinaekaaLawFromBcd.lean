/- For every int, laws.FnExactFromBcd returns true: impl.FromBcd answers as the model spec.FromBcd, every field, leaves its arguments alone, and its result is memory of its own. No condition. -/
import Derived.Test.YtophgbjbinaekaaM1
import Derived.Test.YtophgbjbinaekaaFactA
import Derived.Test.YtophgbjbinaekaaFactB
import Derived.Test.YtophgbjbinaekaaFactC
import Derived.Test.YtophgbjbinaekaaFactD
import Derived.Deep.RegionHeld3
import Derived.ProofKit
import Derived.OpenShut
import Derived.ShutString
import Derived.ChangeOld
namespace Go.Proofs.Ytophgbjbinaekaa.fnExactFromBcd
open Go.RowKit

set_option maxRecDepth 100000 in
set_option maxHeartbeats 16000000 in
theorem walk (a0d0 : Int) (w : World) :
    Calls Try.prog 7 #[.int .i64 a0d0] w fun e w' => e = .returned (.bool true) ∧ Below w.heap.size w w' := by
  have HSpec := Lib.hid (fun W => specFromBcdA a0d0 W )
  have HImpl := Lib.hid (fun W => implFromBcdA a0d0 W )
  generalize (bcdTo a0d0).1 = r0d0 at HSpec HImpl
  generalize (bcdTo a0d0).2 = r1d0 at HSpec HImpl
  have qr0d0 : (r0d0 != r0d0) = false := by simp
  have qr1d0 : (r1d0 != r1d0) = false := by simp
  have H0 : Hid (Below w.heap.size w w) := Lib.hid (Below.refl _ _)
  go_enter Try.func7, Try.ntmps7
  go_wp2_with fail
  refine (HSpec.out w ).mono ?_
  rintro e w1 ⟨rfl, hc⟩
  have H2 := Lib.hid (bt H0.out hc)
  have Z3 : Hid (w.heap.size ≤ w1.heap.size) := Lib.hid hc.size
  clear H0 hc
  clear HSpec
  go_wp2_with fail
  refine (HImpl.out w1 ).mono ?_
  rintro e w4 ⟨rfl, hc⟩
  have H5 := Lib.hid (bt H2.out hc)
  have Z6 : Hid (w1.heap.size ≤ w4.heap.size) := Lib.hid hc.size
  clear H2 hc
  go_wp2
  go_ret
  exact ⟨rfl, H5.out⟩

/-! The row's step. -/
open Go.ChangeShapes Go.WideShapes Go.ChangeAt
open Go.ChangeMaps (open_string shut_string)
set_option maxRecDepth 100000 in
theorem own : ownKnob Try.prog.godebug = none := by kernel_rfl
set_option maxRecDepth 100000 in
theorem laidOut : laidOutB Try.prog = true := factLaid
set_option maxRecDepth 100000 in
theorem lifted (os : Os) (started : os.Started) (H : Type) (enc : TypeId × Value → H) :
    ReturnsInHanded {} Try.checked os 7 .any (Rows.fnExactFromBcdSpec.pre6 enc Try.prog Try.f7 Rows.fnExactFromBcdRow.domain false) (Rows.fnExactFromBcdSpec.post enc Try.prog Try.f7 false true false false) := by
  refine returnsInHanded_of_change (C := Try.checked) own started (by kernel_rfl) Try.func7
    (ChangeSpec.witness6 (enc := enc) (C := Try.checked) false ⟨#[], #[.int .i64 0], []⟩ 8 (by kernel_rfl) (by kernel_rfl) (by kernel_rfl) (by kernel_rfl)) ?_
  intro W base args ds gs before hval0 hW hcnd _
  have hval : ∀ (j : Nat) t v, Try.f7.params[j]? = some t → args[j]? = some v → Value.okWide Try.prog W .any base t v := hval0
  have hW' := hW
  obtain ⟨p, q, hA0, hV, rfl, hfz, hnd⟩ := hW
  have hA : DataW.TrodAll enc Try.prog W 0 (fun _ => true) true Try.f7.params.toList args.toList ds p := hA0
  rw [Try.params7] at hA hval
  obtain ⟨v0, vs0, d0, ds0, p0, q0, hargs, rfl, rfl, h0, r0⟩ := trodAll_cons hA
  obtain ⟨rfl, rfl, rfl⟩ := trodAll_nil r0
  obtain rfl : args = #[v0] := by cases args; simp_all
  obtain ⟨rfl, rfl⟩ := trodVars_none hV
  obtain ⟨a0, rfl, rfl, rfl, w0⟩ := open_int Try.underlying3 (hval 0 3 v0 rfl rfl) h0
  clear hA0 hval0
  refine (walk a0 W ).mono fun e W' ⟨he, bel⟩ => ?_
  subst he
  exact ⟨_, rfl, _, _, _, [], _, [], hW', trodAll_mk1 (shut_bool Try.underlying4 _), (trodAll_cons_mk (shut_int Try.underlying3 w0) trodAll_mk0), rfl, bel.frame _, fun h => by cases h⟩

theorem k0 : (Rows.fnExactFromBcdRow.wf (OpenSpec.ofChange Rows.fnExactFromBcdSpec)) = true := by kernel_rfl
set_option maxRecDepth 100000 in
theorem k3 : (Try.f7.params.all (Try.prog.readableRec ·)) = true := by kernel_rfl
set_option maxRecDepth 100000 in
theorem k4 : (namedTie Try.prog Rows.fnExactFromBcdRow.named Rows.fnExactFromBcdSpec.vars) = true := by kernel_rfl
theorem k5 : ((Rows.fnExactFromBcdRow.stops == [])) = true := by kernel_rfl
set_option maxRecDepth 100000 in
theorem k6 : ((Try.prog.stops == [])) = true := by kernel_rfl
theorem k7 : ((Rows.fnExactFromBcdRow.knobs == [])) = true := by kernel_rfl
set_option maxRecDepth 100000 in
theorem k8 : ((Try.prog.stopKnobs == [])) = true := by kernel_rfl
set_option maxRecDepth 100000 in
theorem k9 : ((Rows.fnExactFromBcdRow.inPlace == Try.prog.inPlace 7)) = true := by kernel_rfl
set_option maxRecDepth 100000 in
theorem k10 : ((Rows.fnExactFromBcdRow.unfollowed == Try.prog.unfollowed 7)) = true := by kernel_rfl
set_option maxRecDepth 100000 in
theorem k11 : ((Rows.fnExactFromBcdRow.recurses == Try.prog.recurses 7)) = true := by kernel_rfl
set_option maxRecDepth 100000 in
theorem k12 : ((Rows.fnExactFromBcdRow.named == Try.prog.varsNamed 7)) = true := by kernel_rfl
set_option maxRecDepth 100000 in
theorem k13 : ((Rows.fnExactFromBcdRow.maps == (Try.f7.params.toList ++ Rows.fnExactFromBcdSpec.plain.varTypes Try.prog).any (Try.prog.mapsRec ·))) = true := by kernel_rfl
set_option maxRecDepth 100000 in
theorem k14 : ((Rows.fnExactFromBcdRow.ifaces == (Try.f7.params.toList ++ Rows.fnExactFromBcdSpec.plain.varTypes Try.prog).any (Try.prog.ifacesRec ·))) = true := by kernel_rfl
set_option maxRecDepth 100000 in
theorem k15 : ((Rows.fnExactFromBcdRow.mapsOut == Try.prog.mapsAmong Try.f7.resultTypes.toList)) = true := by kernel_rfl
set_option maxRecDepth 100000 in
theorem k16 : ((Rows.fnExactFromBcdRow.loops == (Try.f7.params.toList ++ Rows.fnExactFromBcdSpec.plain.varTypes Try.prog).any (Try.prog.loopsFrom ·))) = true := by kernel_rfl
set_option maxRecDepth 100000 in
theorem k17 : ((Rows.fnExactFromBcdRow.wideKeys == (Try.f7.params.toList ++ Rows.fnExactFromBcdSpec.plain.varTypes Try.prog ++ Try.f7.resultTypes.toList).any (Try.prog.wideKeysFrom ·))) = true := by kernel_rfl
set_option maxRecDepth 100000 in
theorem k18 : (Rows.fnExactFromBcdSpec.vars.all (Try.prog.varReadable ·)) = true := by kernel_rfl
set_option maxRecDepth 100000 in
theorem k19 : (Try.f7.resultTypes.all (fun t => Try.prog.readableRec t && decide (t < Try.prog.types.size))) = true := by kernel_rfl
set_option maxRecDepth 100000 in
theorem k20 : ((Rows.fnExactFromBcdRow.ifacesOut == Try.f7.resultTypes.toList.any (Try.prog.ifacesRec ·))) = true := by kernel_rfl
set_option maxRecDepth 100000 in
theorem k21 : ((Rows.fnExactFromBcdRow.loopsOut == Try.f7.resultTypes.toList.any (Try.prog.loopsFrom ·))) = true := by kernel_rfl
set_option maxRecDepth 100000 in
theorem k22 : ((Rows.fnExactFromBcdRow.plainKeys == Try.prog.plainKeys)) = true := by kernel_rfl
theorem k23 : (Rows.fnExactFromBcdRow.shortTexts.isNone) = true := by kernel_rfl
set_option maxRecDepth 100000 in
theorem k28 : ((Rows.fnExactFromBcdRow.kinds == (if Rows.fnExactFromBcdRow.domain.isEmpty then [] else Try.f7.params.toList.map fun t => match Try.prog.underlying t with | some (.int k) => some k | _ => none))) = true := by kernel_rfl
theorem k29 : ((Rows.fnExactFromBcdRow.pinned == Rows.fnExactFromBcdRow.pinnedBy)) = true := by kernel_rfl
set_option maxRecDepth 100000 in
theorem k30 : ((Rows.fnExactFromBcdRow.veiled == (Try.f7.params.toList ++ Rows.fnExactFromBcdSpec.plain.varTypes Try.prog ++ Try.f7.resultTypes.toList).any (Try.prog.veiledRec ·))) = true := by kernel_rfl
set_option maxRecDepth 100000 in
theorem k31 : (Rows.fnExactFromBcdRow.veiledFits Try.prog Try.f7.params.toList (Try.f7.params.toList ++ Rows.fnExactFromBcdSpec.plain.varTypes Try.prog ++ Try.f7.resultTypes.toList)) = true := by kernel_rfl
set_option maxRecDepth 100000 in
theorem facts : joinedFacts Try.prog 7 Try.f7 Rows.fnExactFromBcdSpec Rows.fnExactFromBcdRow = true := (and_mk (and_mk (and_mk (and_mk (and_mk (and_mk (and_mk (and_mk (and_mk (and_mk (and_mk (and_mk (and_mk (and_mk (and_mk (and_mk (and_mk (and_mk (and_mk (and_mk (and_mk (and_mk (and_mk (and_mk (and_mk (and_mk (and_mk (and_mk (and_mk (and_mk (and_mk k0 factLaid) factRowed) k3) k4) k5) k6) k7) k8) k9) k10) k11) k12) k13) k14) k15) k16) k17) k18) k19) k20) k21) k22) k23) factHeard) factEnter) factLift) factMake) k28) k29) k30) k31)
set_option maxRecDepth 100000 in
theorem named : Try.prog.funcNamed Rows.fnExactFromBcdRow.func = some 7 := by kernel_rfl
set_option maxRecDepth 100000 in
theorem inst : Try.f7.isInstance Try.prog Rows.fnExactFromBcdRow.origin Rows.fnExactFromBcdRow.targs := of_decide_eq_true (by kernel_rfl)
set_option maxRecDepth 100000 in
theorem over : Rows.fnExactFromBcdRow.holds Try.pinned (OpenSpec.ofChange Rows.fnExactFromBcdSpec) :=
  OpenClaim.holds_of_wide 7 Try.f7 rfl rfl rfl rfl rfl rfl rfl ⟨rfl, rfl, rfl, rfl, rfl⟩ rfl rfl rfl rfl rfl named Try.func7 facts
    inst (by unfold Func.isWrapper; first | (rw [if_pos (by decide +kernel)]; kernel_rfl) | (rw [if_neg (by decide +kernel)]; exact ⟨rfl, rfl⟩))
    (fun os started H enc _ => lifted os started H enc)
theorem proved : Rows.FnExactFromBcdSaid := over
#print axioms proved
end Go.Proofs.Ytophgbjbinaekaa.fnExactFromBcd
