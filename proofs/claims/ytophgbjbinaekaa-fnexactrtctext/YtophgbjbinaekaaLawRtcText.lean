/- For every Rtc, laws.FnExactRtcText returns true: impl.RtcText answers as the model spec.RtcText, every field, leaves its arguments alone, and its result is memory of its own. No condition. -/
import Derived.Test.YtophgbjbinaekaaM1
import Derived.Test.YtophgbjbinaekaaFactA
import Derived.Test.YtophgbjbinaekaaFactB
import Derived.Test.YtophgbjbinaekaaFactC
import Derived.Test.YtophgbjbinaekaaFactD
import Derived.Deep.RegionHeld3
import Derived.ProofKit
import Derived.OpenShut
import Derived.ShutString
import Derived.ChangeOld
namespace Go.Proofs.Ytophgbjbinaekaa.fnExactRtcText
open Go.RowKit

set_option maxRecDepth 100000 in
set_option maxHeartbeats 16000000 in
theorem walk (a0d0 : Int) (a0d1 : Int) (a0d2 : Int) (a0d3 : Bool) (a0d4 : Int) (a0d5 : Int) (w : World) :
    Calls Try.prog 10 #[.agg #[.int .i64 a0d0, .int .i64 a0d1, .int .i64 a0d2, .bool a0d3, .int .i64 a0d4, .int .i64 a0d5]] w fun e w' => e = .returned (.bool true) ∧ Below w.heap.size w w' := by
  have HTo0 := Lib.hid (fun W => toRtcA a0d0 a0d1 a0d2 a0d3 a0d4 a0d5 W)
  have HSpec := Lib.hid (fun W => specRtcTextA a0d0 a0d1 a0d2 a0d3 a0d4 a0d5 W )
  have HImpl := Lib.hid (fun W => implRtcTextA a0d0 a0d1 a0d2 a0d3 a0d4 a0d5 W )
  generalize (rtText a0d0 a0d1 a0d2 a0d4 a0d5).1 = r0d0 at HSpec HImpl
  generalize (rtText a0d0 a0d1 a0d2 a0d4 a0d5).2 = r1d0 at HSpec HImpl
  have qr0d0 : (r0d0.toList != r0d0.toList) = false := by simp
  have qr1d0 : (r1d0 != r1d0) = false := by simp
  have H0 : Hid (Below w.heap.size w w) := Lib.hid (Below.refl _ _)
  go_enter Try.func10, Try.ntmps10
  obtain ⟨W2, hW2⟩ : ∃ W2, W2 = (w.alloc (.cells #[.int .i64 a0d0, .int .i64 a0d1, .int .i64 a0d2, .bool a0d3, .int .i64 a0d4, .int .i64 a0d5] 38)) := ⟨_, rfl⟩
  have hba : Below w.heap.size w W2 := by rw [hW2]; exact ((Below.refl _ _).alloc (Nat.le_refl _) _)
  have Z3 : Hid (W2.heap.size = w.heap.size + 1) := Lib.hid (by rw [hW2]; simp)
  have B4 : Hid (Box W2 (w.heap.size) 38 #[.int .i64 a0d0, .int .i64 a0d1, .int .i64 a0d2, .bool a0d3, .int .i64 a0d4, .int .i64 a0d5]) := Lib.hid (by rw [hW2]; exact (Box.new w 38 #[.int .i64 a0d0, .int .i64 a0d1, .int .i64 a0d2, .bool a0d3, .int .i64 a0d4, .int .i64 a0d5]))
  have H5 := Lib.hid (bt H0.out hba)
  have Z6 : Hid (w.heap.size ≤ W2.heap.size) := Lib.hid hba.size
  clear H0 hba
  have HW2 := Lib.hid hW2
  clear hW2
  go_wp2_with fail
  rw [← HW2.out]
  refine (HTo0.out _).mono ?_
  rintro e w7 ⟨rfl, hc⟩
  clear HW2
  have F8 := Lib.hid (B4.out.step hc)
  have H9 := Lib.hid (bt H5.out hc)
  have Z10 : Hid (W2.heap.size ≤ w7.heap.size) := Lib.hid hc.size
  clear B4 H5 hc
  go_wp2_with fail
  refine (HSpec.out w7 ).mono ?_
  rintro e w11 ⟨rfl, hc⟩
  have F12 := Lib.hid (F8.out.step hc)
  have H13 := Lib.hid (bt H9.out hc)
  have Z14 : Hid (w7.heap.size ≤ w11.heap.size) := Lib.hid hc.size
  clear F8 H9 hc
  clear HSpec
  have f0 : w11.cell? ⟨w.heap.size, 0, none⟩ = some (.int .i64 a0d0) := F12.out.cell 0 rfl
  have f1 : w11.cell? ⟨w.heap.size, 1, none⟩ = some (.int .i64 a0d1) := F12.out.cell 1 rfl
  have f2 : w11.cell? ⟨w.heap.size, 2, none⟩ = some (.int .i64 a0d2) := F12.out.cell 2 rfl
  have f3 : w11.cell? ⟨w.heap.size, 3, none⟩ = some (.bool a0d3) := F12.out.cell 3 rfl
  have f4 : w11.cell? ⟨w.heap.size, 4, none⟩ = some (.int .i64 a0d4) := F12.out.cell 4 rfl
  have f5 : w11.cell? ⟨w.heap.size, 5, none⟩ = some (.int .i64 a0d5) := F12.out.cell 5 rfl
  go_wp2_with fail
  refine (HTo0.out _).mono ?_
  rintro e w16 ⟨rfl, hc⟩
  clear f0 f1 f2 f3 f4 f5
  have F17 := Lib.hid (F12.out.step hc)
  have H18 := Lib.hid (bt H13.out hc)
  have Z19 : Hid (w11.heap.size ≤ w16.heap.size) := Lib.hid hc.size
  clear F12 H13 hc
  go_wp2_with fail
  refine (HImpl.out w16 ).mono ?_
  rintro e w20 ⟨rfl, hc⟩
  have F21 := Lib.hid (F17.out.step hc)
  have H22 := Lib.hid (bt H18.out hc)
  have Z23 : Hid (w16.heap.size ≤ w20.heap.size) := Lib.hid hc.size
  clear F17 H18 hc
  go_wp2
  go_ret
  exact ⟨rfl, H22.out⟩

/-! The row's step. -/
open Go.ChangeShapes Go.WideShapes Go.ChangeAt
open Go.ChangeMaps (open_string shut_string)
set_option maxRecDepth 100000 in
theorem own : ownKnob Try.prog.godebug = none := by kernel_rfl
set_option maxRecDepth 100000 in
theorem laidOut : laidOutB Try.prog = true := factLaid
set_option maxRecDepth 100000 in
theorem lifted (os : Os) (started : os.Started) (H : Type) (enc : TypeId × Value → H) :
    ReturnsInHanded {} Try.checked os 10 .any (Rows.fnExactRtcTextSpec.pre6 enc Try.prog Try.f10 Rows.fnExactRtcTextRow.domain false) (Rows.fnExactRtcTextSpec.post enc Try.prog Try.f10 false true false false) := by
  refine returnsInHanded_of_change (C := Try.checked) own started (by kernel_rfl) Try.func10
    (ChangeSpec.witness6 (enc := enc) (C := Try.checked) false ⟨#[], #[.agg #[.int .i64 0, .int .i64 0, .int .i64 0, .bool false, .int .i64 0, .int .i64 0]], []⟩ 8 (by kernel_rfl) (by kernel_rfl) (by kernel_rfl) (by kernel_rfl)) ?_
  intro W base args ds gs before hval0 hW hcnd _
  have hval : ∀ (j : Nat) t v, Try.f10.params[j]? = some t → args[j]? = some v → Value.okWide Try.prog W .any base t v := hval0
  have hW' := hW
  obtain ⟨p, q, hA0, hV, rfl, hfz, hnd⟩ := hW
  have hA : DataW.TrodAll enc Try.prog W 0 (fun _ => true) true Try.f10.params.toList args.toList ds p := hA0
  rw [Try.params10] at hA hval
  obtain ⟨v0, vs0, d0, ds0, p0, q0, hargs, rfl, rfl, h0, r0⟩ := trodAll_cons hA
  obtain ⟨rfl, rfl, rfl⟩ := trodAll_nil r0
  obtain rfl : args = #[v0] := by cases args; simp_all
  obtain ⟨rfl, rfl⟩ := trodVars_none hV
  have k0 := h0
  have lt0 : ∀ x ∈ p0, x.block < W.heap.size := by obtain ⟨m, hm⟩ := k0; exact DataW.trod_lt m _ _ _ hm
  obtain ⟨a0d0, a0d1, a0d2, a0d3, a0d4, a0d5, rfl, R0, G0⟩ := openRtc (hval 0 38 v0 rfl rfl) h0
  clear hA0 hval0
  refine (walk a0d0 a0d1 a0d2 a0d3 a0d4 a0d5 W ).mono fun e W' ⟨he, bel⟩ => ?_
  subst he
  exact ⟨_, rfl, _, _, _, [], _, [], hW', trodAll_mk1 (shut_bool Try.underlying4 _), (trodAll_cons_mk (Below.trod laidOut (by kernel_rfl) (of_decide_eq_true (by kernel_rfl)) k0 bel lt0) trodAll_mk0), rfl, bel.frame _, fun h => by cases h⟩

theorem k0 : (Rows.fnExactRtcTextRow.wf (OpenSpec.ofChange Rows.fnExactRtcTextSpec)) = true := by kernel_rfl
set_option maxRecDepth 100000 in
theorem k3 : (Try.f10.params.all (Try.prog.readableRec ·)) = true := by kernel_rfl
set_option maxRecDepth 100000 in
theorem k4 : (namedTie Try.prog Rows.fnExactRtcTextRow.named Rows.fnExactRtcTextSpec.vars) = true := by kernel_rfl
theorem k5 : ((Rows.fnExactRtcTextRow.stops == [])) = true := by kernel_rfl
set_option maxRecDepth 100000 in
theorem k6 : ((Try.prog.stops == [])) = true := by kernel_rfl
theorem k7 : ((Rows.fnExactRtcTextRow.knobs == [])) = true := by kernel_rfl
set_option maxRecDepth 100000 in
theorem k8 : ((Try.prog.stopKnobs == [])) = true := by kernel_rfl
set_option maxRecDepth 100000 in
theorem k9 : ((Rows.fnExactRtcTextRow.inPlace == Try.prog.inPlace 10)) = true := by kernel_rfl
set_option maxRecDepth 100000 in
theorem k10 : ((Rows.fnExactRtcTextRow.unfollowed == Try.prog.unfollowed 10)) = true := by kernel_rfl
set_option maxRecDepth 100000 in
theorem k11 : ((Rows.fnExactRtcTextRow.recurses == Try.prog.recurses 10)) = true := by kernel_rfl
set_option maxRecDepth 100000 in
theorem k12 : ((Rows.fnExactRtcTextRow.named == Try.prog.varsNamed 10)) = true := by kernel_rfl
set_option maxRecDepth 100000 in
theorem k13 : ((Rows.fnExactRtcTextRow.maps == (Try.f10.params.toList ++ Rows.fnExactRtcTextSpec.plain.varTypes Try.prog).any (Try.prog.mapsRec ·))) = true := by kernel_rfl
set_option maxRecDepth 100000 in
theorem k14 : ((Rows.fnExactRtcTextRow.ifaces == (Try.f10.params.toList ++ Rows.fnExactRtcTextSpec.plain.varTypes Try.prog).any (Try.prog.ifacesRec ·))) = true := by kernel_rfl
set_option maxRecDepth 100000 in
theorem k15 : ((Rows.fnExactRtcTextRow.mapsOut == Try.prog.mapsAmong Try.f10.resultTypes.toList)) = true := by kernel_rfl
set_option maxRecDepth 100000 in
theorem k16 : ((Rows.fnExactRtcTextRow.loops == (Try.f10.params.toList ++ Rows.fnExactRtcTextSpec.plain.varTypes Try.prog).any (Try.prog.loopsFrom ·))) = true := by kernel_rfl
set_option maxRecDepth 100000 in
theorem k17 : ((Rows.fnExactRtcTextRow.wideKeys == (Try.f10.params.toList ++ Rows.fnExactRtcTextSpec.plain.varTypes Try.prog ++ Try.f10.resultTypes.toList).any (Try.prog.wideKeysFrom ·))) = true := by kernel_rfl
set_option maxRecDepth 100000 in
theorem k18 : (Rows.fnExactRtcTextSpec.vars.all (Try.prog.varReadable ·)) = true := by kernel_rfl
set_option maxRecDepth 100000 in
theorem k19 : (Try.f10.resultTypes.all (fun t => Try.prog.readableRec t && decide (t < Try.prog.types.size))) = true := by kernel_rfl
set_option maxRecDepth 100000 in
theorem k20 : ((Rows.fnExactRtcTextRow.ifacesOut == Try.f10.resultTypes.toList.any (Try.prog.ifacesRec ·))) = true := by kernel_rfl
set_option maxRecDepth 100000 in
theorem k21 : ((Rows.fnExactRtcTextRow.loopsOut == Try.f10.resultTypes.toList.any (Try.prog.loopsFrom ·))) = true := by kernel_rfl
set_option maxRecDepth 100000 in
theorem k22 : ((Rows.fnExactRtcTextRow.plainKeys == Try.prog.plainKeys)) = true := by kernel_rfl
theorem k23 : (Rows.fnExactRtcTextRow.shortTexts.isNone) = true := by kernel_rfl
set_option maxRecDepth 100000 in
theorem k28 : ((Rows.fnExactRtcTextRow.kinds == (if Rows.fnExactRtcTextRow.domain.isEmpty then [] else Try.f10.params.toList.map fun t => match Try.prog.underlying t with | some (.int k) => some k | _ => none))) = true := by kernel_rfl
theorem k29 : ((Rows.fnExactRtcTextRow.pinned == Rows.fnExactRtcTextRow.pinnedBy)) = true := by kernel_rfl
set_option maxRecDepth 100000 in
theorem k30 : ((Rows.fnExactRtcTextRow.veiled == (Try.f10.params.toList ++ Rows.fnExactRtcTextSpec.plain.varTypes Try.prog ++ Try.f10.resultTypes.toList).any (Try.prog.veiledRec ·))) = true := by kernel_rfl
set_option maxRecDepth 100000 in
theorem k31 : (Rows.fnExactRtcTextRow.veiledFits Try.prog Try.f10.params.toList (Try.f10.params.toList ++ Rows.fnExactRtcTextSpec.plain.varTypes Try.prog ++ Try.f10.resultTypes.toList)) = true := by kernel_rfl
set_option maxRecDepth 100000 in
theorem facts : joinedFacts Try.prog 10 Try.f10 Rows.fnExactRtcTextSpec Rows.fnExactRtcTextRow = true := (and_mk (and_mk (and_mk (and_mk (and_mk (and_mk (and_mk (and_mk (and_mk (and_mk (and_mk (and_mk (and_mk (and_mk (and_mk (and_mk (and_mk (and_mk (and_mk (and_mk (and_mk (and_mk (and_mk (and_mk (and_mk (and_mk (and_mk (and_mk (and_mk (and_mk (and_mk k0 factLaid) factRowed) k3) k4) k5) k6) k7) k8) k9) k10) k11) k12) k13) k14) k15) k16) k17) k18) k19) k20) k21) k22) k23) factHeard) factEnter) factLift) factMake) k28) k29) k30) k31)
set_option maxRecDepth 100000 in
theorem named : Try.prog.funcNamed Rows.fnExactRtcTextRow.func = some 10 := by kernel_rfl
set_option maxRecDepth 100000 in
theorem inst : Try.f10.isInstance Try.prog Rows.fnExactRtcTextRow.origin Rows.fnExactRtcTextRow.targs := of_decide_eq_true (by kernel_rfl)
set_option maxRecDepth 100000 in
theorem over : Rows.fnExactRtcTextRow.holds Try.pinned (OpenSpec.ofChange Rows.fnExactRtcTextSpec) :=
  OpenClaim.holds_of_wide 10 Try.f10 rfl rfl rfl rfl rfl rfl rfl ⟨rfl, rfl, rfl, rfl, rfl⟩ rfl rfl rfl rfl rfl named Try.func10 facts
    inst (by unfold Func.isWrapper; first | (rw [if_pos (by decide +kernel)]; kernel_rfl) | (rw [if_neg (by decide +kernel)]; exact ⟨rfl, rfl⟩))
    (fun os started H enc _ => lifted os started H enc)
theorem proved : Rows.FnExactRtcTextSaid := over
#print axioms proved
end Go.Proofs.Ytophgbjbinaekaa.fnExactRtcText
