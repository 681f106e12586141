/- For every Rtc and int and int, laws.FnExactSetAlarm returns true: impl.SetAlarm answers as the model spec.SetAlarm, every field, leaves its arguments alone, and its result is memory of its own. No condition. -/
import Derived.Test.YtophgbjbinaekaaM1
import Derived.Test.YtophgbjbinaekaaFactA
import Derived.Test.YtophgbjbinaekaaFactB
import Derived.Test.YtophgbjbinaekaaFactC
import Derived.Test.YtophgbjbinaekaaFactD
import Derived.Deep.RegionHeld3
import Derived.ProofKit
import Derived.OpenShut
import Derived.ShutString
import Derived.ChangeOld
namespace Go.Proofs.Ytophgbjbinaekaa.fnExactSetAlarm
open Go.RowKit

set_option maxRecDepth 100000 in
set_option maxHeartbeats 16000000 in
theorem walk (a0d0 : Int) (a0d1 : Int) (a0d2 : Int) (a0d3 : Bool) (a0d4 : Int) (a0d5 : Int) (a1d0 : Int) (a2d0 : Int) (w : World) :
    Calls Try.prog 9 #[.agg #[.int .i64 a0d0, .int .i64 a0d1, .int .i64 a0d2, .bool a0d3, .int .i64 a0d4, .int .i64 a0d5], .int .i64 a1d0, .int .i64 a2d0] w fun e w' => e = .returned (.bool true) ∧ Below w.heap.size w w' := by
  have HTo0 := Lib.hid (fun W => toRtcA a0d0 a0d1 a0d2 a0d3 a0d4 a0d5 W)
  have HSpec := Lib.hid (fun W => specSetAlarmA a0d0 a0d1 a0d2 a0d3 a0d4 a0d5 a1d0 a2d0 W   )
  have HImpl := Lib.hid (fun W => implSetAlarmA a0d0 a0d1 a0d2 a0d3 a0d4 a0d5 a1d0 a2d0 W   )
  generalize (sa a0d0 a0d1 a0d2 a0d4 a0d5 a1d0 a2d0).s = r0d0 at HSpec HImpl
  generalize (sa a0d0 a0d1 a0d2 a0d4 a0d5 a1d0 a2d0).m = r0d1 at HSpec HImpl
  generalize (sa a0d0 a0d1 a0d2 a0d4 a0d5 a1d0 a2d0).h = r0d2 at HSpec HImpl
  generalize (sa a0d0 a0d1 a0d2 a0d4 a0d5 a1d0 a2d0).a = r0d3 at HSpec HImpl
  generalize (sa a0d0 a0d1 a0d2 a0d4 a0d5 a1d0 a2d0).am = r0d4 at HSpec HImpl
  generalize (sa a0d0 a0d1 a0d2 a0d4 a0d5 a1d0 a2d0).ah = r0d5 at HSpec HImpl
  generalize (sa a0d0 a0d1 a0d2 a0d4 a0d5 a1d0 a2d0).c = r1d0 at HSpec HImpl
  have qr1d0 : (r1d0 != r1d0) = false := by simp
  have H0 : Hid (Below w.heap.size w w) := Lib.hid (Below.refl _ _)
  go_enter Try.func9, Try.ntmps9
  obtain ⟨W2, hW2⟩ : ∃ W2, W2 = (w.alloc (.cells #[.int .i64 a0d0, .int .i64 a0d1, .int .i64 a0d2, .bool a0d3, .int .i64 a0d4, .int .i64 a0d5] 38)) := ⟨_, rfl⟩
  have hba : Below w.heap.size w W2 := by rw [hW2]; exact ((Below.refl _ _).alloc (Nat.le_refl _) _)
  have Z3 : Hid (W2.heap.size = w.heap.size + 1) := Lib.hid (by rw [hW2]; simp)
  have B4 : Hid (Box W2 (w.heap.size) 38 #[.int .i64 a0d0, .int .i64 a0d1, .int .i64 a0d2, .bool a0d3, .int .i64 a0d4, .int .i64 a0d5]) := Lib.hid (by rw [hW2]; exact (Box.new w 38 #[.int .i64 a0d0, .int .i64 a0d1, .int .i64 a0d2, .bool a0d3, .int .i64 a0d4, .int .i64 a0d5]))
  have H5 := Lib.hid (bt H0.out hba)
  have Z6 : Hid (w.heap.size ≤ W2.heap.size) := Lib.hid hba.size
  clear H0 hba
  have HW2 := Lib.hid hW2
  clear hW2
  go_wp2_with fail
  rw [← HW2.out]
  refine (HTo0.out _).mono ?_
  rintro e w7 ⟨rfl, hc⟩
  clear HW2
  have F8 := Lib.hid (B4.out.step hc)
  have H9 := Lib.hid (bt H5.out hc)
  have Z10 : Hid (W2.heap.size ≤ w7.heap.size) := Lib.hid hc.size
  clear B4 H5 hc
  go_wp2_with fail
  refine (HSpec.out w7 ).mono ?_
  rintro e w11 ⟨rfl, hc⟩
  have F12 := Lib.hid (F8.out.step hc)
  have H13 := Lib.hid (bt H9.out hc)
  have Z14 : Hid (w7.heap.size ≤ w11.heap.size) := Lib.hid hc.size
  clear F8 H9 hc
  clear HSpec
  obtain ⟨W16, hW16⟩ : ∃ W16, W16 = (w11.alloc (.cells #[.int .i64 r0d0, .int .i64 r0d1, .int .i64 r0d2, .bool r0d3, .int .i64 r0d4, .int .i64 r0d5] 24)) := ⟨_, rfl⟩
  have hba : Below w11.heap.size w11 W16 := by rw [hW16]; exact ((Below.refl _ _).alloc (Nat.le_refl _) _)
  have Z17 : Hid (W16.heap.size = w11.heap.size + 1) := Lib.hid (by rw [hW16]; simp)
  have B18 : Hid (Box W16 (w11.heap.size) 24 #[.int .i64 r0d0, .int .i64 r0d1, .int .i64 r0d2, .bool r0d3, .int .i64 r0d4, .int .i64 r0d5]) := Lib.hid (by rw [hW16]; exact (Box.new w11 24 #[.int .i64 r0d0, .int .i64 r0d1, .int .i64 r0d2, .bool r0d3, .int .i64 r0d4, .int .i64 r0d5]))
  have F19 := Lib.hid (F12.out.step hba)
  have H20 := Lib.hid (bt H13.out hba)
  have Z21 : Hid (w11.heap.size ≤ W16.heap.size) := Lib.hid hba.size
  clear F12 H13 hba
  have HW16 := Lib.hid hW16
  clear hW16
  have f0 : W16.cell? ⟨w.heap.size, 0, none⟩ = some (.int .i64 a0d0) := F19.out.cell 0 rfl
  have f1 : W16.cell? ⟨w.heap.size, 1, none⟩ = some (.int .i64 a0d1) := F19.out.cell 1 rfl
  have f2 : W16.cell? ⟨w.heap.size, 2, none⟩ = some (.int .i64 a0d2) := F19.out.cell 2 rfl
  have f3 : W16.cell? ⟨w.heap.size, 3, none⟩ = some (.bool a0d3) := F19.out.cell 3 rfl
  have f4 : W16.cell? ⟨w.heap.size, 4, none⟩ = some (.int .i64 a0d4) := F19.out.cell 4 rfl
  have f5 : W16.cell? ⟨w.heap.size, 5, none⟩ = some (.int .i64 a0d5) := F19.out.cell 5 rfl
  rw [HW16.out] at f0 f1 f2 f3 f4 f5
  go_wp2_with fail
  rw [← HW16.out]
  refine (HTo0.out _).mono ?_
  rintro e w22 ⟨rfl, hc⟩
  clear f0 f1 f2 f3 f4 f5 HW16
  have F23 := Lib.hid (F19.out.step hc)
  have F24 := Lib.hid (B18.out.step hc)
  have H25 := Lib.hid (bt H20.out hc)
  have Z26 : Hid (W16.heap.size ≤ w22.heap.size) := Lib.hid hc.size
  clear F19 B18 H20 hc
  go_wp2_with fail
  refine (HImpl.out w22 ).mono ?_
  rintro e w27 ⟨rfl, hc⟩
  have F28 := Lib.hid (F23.out.step hc)
  have F29 := Lib.hid (F24.out.step hc)
  have H30 := Lib.hid (bt H25.out hc)
  have Z31 : Hid (w22.heap.size ≤ w27.heap.size) := Lib.hid hc.size
  clear F23 F24 H25 hc
  obtain ⟨W32, hW32⟩ : ∃ W32, W32 = (w27.alloc (.cells #[.int .i64 r0d0, .int .i64 r0d1, .int .i64 r0d2, .bool r0d3, .int .i64 r0d4, .int .i64 r0d5] 24)) := ⟨_, rfl⟩
  have hba : Below w27.heap.size w27 W32 := by rw [hW32]; exact ((Below.refl _ _).alloc (Nat.le_refl _) _)
  have Z33 : Hid (W32.heap.size = w27.heap.size + 1) := Lib.hid (by rw [hW32]; simp)
  have B34 : Hid (Box W32 (w27.heap.size) 24 #[.int .i64 r0d0, .int .i64 r0d1, .int .i64 r0d2, .bool r0d3, .int .i64 r0d4, .int .i64 r0d5]) := Lib.hid (by rw [hW32]; exact (Box.new w27 24 #[.int .i64 r0d0, .int .i64 r0d1, .int .i64 r0d2, .bool r0d3, .int .i64 r0d4, .int .i64 r0d5]))
  have F35 := Lib.hid (F28.out.step hba)
  have F36 := Lib.hid (F29.out.step hba)
  have H37 := Lib.hid (bt H30.out hba)
  have Z38 : Hid (w27.heap.size ≤ W32.heap.size) := Lib.hid hba.size
  clear F28 F29 H30 hba
  have HW32 := Lib.hid hW32
  clear hW32
  have f0 : W32.cell? ⟨w11.heap.size, 0, none⟩ = some (.int .i64 r0d0) := F36.out.cell 0 rfl
  have f1 : W32.cell? ⟨w11.heap.size, 1, none⟩ = some (.int .i64 r0d1) := F36.out.cell 1 rfl
  have f2 : W32.cell? ⟨w11.heap.size, 2, none⟩ = some (.int .i64 r0d2) := F36.out.cell 2 rfl
  have f3 : W32.cell? ⟨w11.heap.size, 3, none⟩ = some (.bool r0d3) := F36.out.cell 3 rfl
  have f4 : W32.cell? ⟨w11.heap.size, 4, none⟩ = some (.int .i64 r0d4) := F36.out.cell 4 rfl
  have f5 : W32.cell? ⟨w11.heap.size, 5, none⟩ = some (.int .i64 r0d5) := F36.out.cell 5 rfl
  rw [HW32.out] at f0 f1 f2 f3 f4 f5
  go_wp2_with fail
  rw [← HW32.out]
  refine (eqRtcA r0d0 r0d1 r0d2 r0d3 r0d4 r0d5 W32).mono ?_
  rintro e w39 ⟨rfl, hc⟩
  clear f0 f1 f2 f3 f4 f5 HW32
  have F40 := Lib.hid (F35.out.step hc)
  have F41 := Lib.hid (F36.out.step hc)
  have F42 := Lib.hid (B34.out.step hc)
  have H43 := Lib.hid (bt H37.out hc)
  have Z44 : Hid (W32.heap.size ≤ w39.heap.size) := Lib.hid hc.size
  clear F35 F36 B34 H37 hc
  go_wp2
  go_ret
  exact ⟨rfl, H43.out⟩

/-! The row's step. -/
open Go.ChangeShapes Go.WideShapes Go.ChangeAt
open Go.ChangeMaps (open_string shut_string)
set_option maxRecDepth 100000 in
theorem own : ownKnob Try.prog.godebug = none := by kernel_rfl
set_option maxRecDepth 100000 in
theorem laidOut : laidOutB Try.prog = true := factLaid
set_option maxRecDepth 100000 in
theorem lifted (os : Os) (started : os.Started) (H : Type) (enc : TypeId × Value → H) :
    ReturnsInHanded {} Try.checked os 9 .any (Rows.fnExactSetAlarmSpec.pre6 enc Try.prog Try.f9 Rows.fnExactSetAlarmRow.domain false) (Rows.fnExactSetAlarmSpec.post enc Try.prog Try.f9 false true false false) := by
  refine returnsInHanded_of_change (C := Try.checked) own started (by kernel_rfl) Try.func9
    (ChangeSpec.witness6 (enc := enc) (C := Try.checked) false ⟨#[], #[.agg #[.int .i64 0, .int .i64 0, .int .i64 0, .bool false, .int .i64 0, .int .i64 0], .int .i64 0, .int .i64 0], []⟩ 8 (by kernel_rfl) (by kernel_rfl) (by kernel_rfl) (by kernel_rfl)) ?_
  intro W base args ds gs before hval0 hW hcnd _
  have hval : ∀ (j : Nat) t v, Try.f9.params[j]? = some t → args[j]? = some v → Value.okWide Try.prog W .any base t v := hval0
  have hW' := hW
  obtain ⟨p, q, hA0, hV, rfl, hfz, hnd⟩ := hW
  have hA : DataW.TrodAll enc Try.prog W 0 (fun _ => true) true Try.f9.params.toList args.toList ds p := hA0
  rw [Try.params9] at hA hval
  obtain ⟨v0, vs0, d0, ds0, p0, q0, hargs, rfl, rfl, h0, r0⟩ := trodAll_cons hA
  obtain ⟨v1, vs1, d1, ds1, p1, q1, rfl, rfl, rfl, h1, r1⟩ := trodAll_cons r0
  obtain ⟨v2, vs2, d2, ds2, p2, q2, rfl, rfl, rfl, h2, r2⟩ := trodAll_cons r1
  obtain ⟨rfl, rfl, rfl⟩ := trodAll_nil r2
  obtain rfl : args = #[v0, v1, v2] := by cases args; simp_all
  obtain ⟨rfl, rfl⟩ := trodVars_none hV
  have k0 := h0
  have lt0 : ∀ x ∈ p0, x.block < W.heap.size := by obtain ⟨m, hm⟩ := k0; exact DataW.trod_lt m _ _ _ hm
  obtain ⟨a0d0, a0d1, a0d2, a0d3, a0d4, a0d5, rfl, R0, G0⟩ := openRtc (hval 0 38 v0 rfl rfl) h0
  obtain ⟨a1, rfl, rfl, rfl, w1⟩ := open_int Try.underlying3 (hval 1 3 v1 rfl rfl) h1
  obtain ⟨a2, rfl, rfl, rfl, w2⟩ := open_int Try.underlying3 (hval 2 3 v2 rfl rfl) h2
  clear hA0 hval0
  refine (walk a0d0 a0d1 a0d2 a0d3 a0d4 a0d5 a1 a2 W ).mono fun e W' ⟨he, bel⟩ => ?_
  subst he
  exact ⟨_, rfl, _, _, _, [], _, [], hW', trodAll_mk1 (shut_bool Try.underlying4 _), (trodAll_cons_mk (Below.trod laidOut (by kernel_rfl) (of_decide_eq_true (by kernel_rfl)) k0 bel lt0) (trodAll_cons_mk (shut_int Try.underlying3 w1) (trodAll_cons_mk (shut_int Try.underlying3 w2) trodAll_mk0))), rfl, bel.frame _, fun h => by cases h⟩

theorem k0 : (Rows.fnExactSetAlarmRow.wf (OpenSpec.ofChange Rows.fnExactSetAlarmSpec)) = true := by kernel_rfl
set_option maxRecDepth 100000 in
theorem k3 : (Try.f9.params.all (Try.prog.readableRec ·)) = true := by kernel_rfl
set_option maxRecDepth 100000 in
theorem k4 : (namedTie Try.prog Rows.fnExactSetAlarmRow.named Rows.fnExactSetAlarmSpec.vars) = true := by kernel_rfl
theorem k5 : ((Rows.fnExactSetAlarmRow.stops == [])) = true := by kernel_rfl
set_option maxRecDepth 100000 in
theorem k6 : ((Try.prog.stops == [])) = true := by kernel_rfl
theorem k7 : ((Rows.fnExactSetAlarmRow.knobs == [])) = true := by kernel_rfl
set_option maxRecDepth 100000 in
theorem k8 : ((Try.prog.stopKnobs == [])) = true := by kernel_rfl
set_option maxRecDepth 100000 in
theorem k9 : ((Rows.fnExactSetAlarmRow.inPlace == Try.prog.inPlace 9)) = true := by kernel_rfl
set_option maxRecDepth 100000 in
theorem k10 : ((Rows.fnExactSetAlarmRow.unfollowed == Try.prog.unfollowed 9)) = true := by kernel_rfl
set_option maxRecDepth 100000 in
theorem k11 : ((Rows.fnExactSetAlarmRow.recurses == Try.prog.recurses 9)) = true := by kernel_rfl
set_option maxRecDepth 100000 in
theorem k12 : ((Rows.fnExactSetAlarmRow.named == Try.prog.varsNamed 9)) = true := by kernel_rfl
set_option maxRecDepth 100000 in
theorem k13 : ((Rows.fnExactSetAlarmRow.maps == (Try.f9.params.toList ++ Rows.fnExactSetAlarmSpec.plain.varTypes Try.prog).any (Try.prog.mapsRec ·))) = true := by kernel_rfl
set_option maxRecDepth 100000 in
theorem k14 : ((Rows.fnExactSetAlarmRow.ifaces == (Try.f9.params.toList ++ Rows.fnExactSetAlarmSpec.plain.varTypes Try.prog).any (Try.prog.ifacesRec ·))) = true := by kernel_rfl
set_option maxRecDepth 100000 in
theorem k15 : ((Rows.fnExactSetAlarmRow.mapsOut == Try.prog.mapsAmong Try.f9.resultTypes.toList)) = true := by kernel_rfl
set_option maxRecDepth 100000 in
theorem k16 : ((Rows.fnExactSetAlarmRow.loops == (Try.f9.params.toList ++ Rows.fnExactSetAlarmSpec.plain.varTypes Try.prog).any (Try.prog.loopsFrom ·))) = true := by kernel_rfl
set_option maxRecDepth 100000 in
theorem k17 : ((Rows.fnExactSetAlarmRow.wideKeys == (Try.f9.params.toList ++ Rows.fnExactSetAlarmSpec.plain.varTypes Try.prog ++ Try.f9.resultTypes.toList).any (Try.prog.wideKeysFrom ·))) = true := by kernel_rfl
set_option maxRecDepth 100000 in
theorem k18 : (Rows.fnExactSetAlarmSpec.vars.all (Try.prog.varReadable ·)) = true := by kernel_rfl
set_option maxRecDepth 100000 in
theorem k19 : (Try.f9.resultTypes.all (fun t => Try.prog.readableRec t && decide (t < Try.prog.types.size))) = true := by kernel_rfl
set_option maxRecDepth 100000 in
theorem k20 : ((Rows.fnExactSetAlarmRow.ifacesOut == Try.f9.resultTypes.toList.any (Try.prog.ifacesRec ·))) = true := by kernel_rfl
set_option maxRecDepth 100000 in
theorem k21 : ((Rows.fnExactSetAlarmRow.loopsOut == Try.f9.resultTypes.toList.any (Try.prog.loopsFrom ·))) = true := by kernel_rfl
set_option maxRecDepth 100000 in
theorem k22 : ((Rows.fnExactSetAlarmRow.plainKeys == Try.prog.plainKeys)) = true := by kernel_rfl
theorem k23 : (Rows.fnExactSetAlarmRow.shortTexts.isNone) = true := by kernel_rfl
set_option maxRecDepth 100000 in
theorem k28 : ((Rows.fnExactSetAlarmRow.kinds == (if Rows.fnExactSetAlarmRow.domain.isEmpty then [] else Try.f9.params.toList.map fun t => match Try.prog.underlying t with | some (.int k) => some k | _ => none))) = true := by kernel_rfl
theorem k29 : ((Rows.fnExactSetAlarmRow.pinned == Rows.fnExactSetAlarmRow.pinnedBy)) = true := by kernel_rfl
set_option maxRecDepth 100000 in
theorem k30 : ((Rows.fnExactSetAlarmRow.veiled == (Try.f9.params.toList ++ Rows.fnExactSetAlarmSpec.plain.varTypes Try.prog ++ Try.f9.resultTypes.toList).any (Try.prog.veiledRec ·))) = true := by kernel_rfl
set_option maxRecDepth 100000 in
theorem k31 : (Rows.fnExactSetAlarmRow.veiledFits Try.prog Try.f9.params.toList (Try.f9.params.toList ++ Rows.fnExactSetAlarmSpec.plain.varTypes Try.prog ++ Try.f9.resultTypes.toList)) = true := by kernel_rfl
set_option maxRecDepth 100000 in
theorem facts : joinedFacts Try.prog 9 Try.f9 Rows.fnExactSetAlarmSpec Rows.fnExactSetAlarmRow = true := (and_mk (and_mk (and_mk (and_mk (and_mk (and_mk (and_mk (and_mk (and_mk (and_mk (and_mk (and_mk (and_mk (and_mk (and_mk (and_mk (and_mk (and_mk (and_mk (and_mk (and_mk (and_mk (and_mk (and_mk (and_mk (and_mk (and_mk (and_mk (and_mk (and_mk (and_mk k0 factLaid) factRowed) k3) k4) k5) k6) k7) k8) k9) k10) k11) k12) k13) k14) k15) k16) k17) k18) k19) k20) k21) k22) k23) factHeard) factEnter) factLift) factMake) k28) k29) k30) k31)
set_option maxRecDepth 100000 in
theorem named : Try.prog.funcNamed Rows.fnExactSetAlarmRow.func = some 9 := by kernel_rfl
set_option maxRecDepth 100000 in
theorem inst : Try.f9.isInstance Try.prog Rows.fnExactSetAlarmRow.origin Rows.fnExactSetAlarmRow.targs := of_decide_eq_true (by kernel_rfl)
set_option maxRecDepth 100000 in
theorem over : Rows.fnExactSetAlarmRow.holds Try.pinned (OpenSpec.ofChange Rows.fnExactSetAlarmSpec) :=
  OpenClaim.holds_of_wide 9 Try.f9 rfl rfl rfl rfl rfl rfl rfl ⟨rfl, rfl, rfl, rfl, rfl⟩ rfl rfl rfl rfl rfl named Try.func9 facts
    inst (by unfold Func.isWrapper; first | (rw [if_pos (by decide +kernel)]; kernel_rfl) | (rw [if_neg (by decide +kernel)]; exact ⟨rfl, rfl⟩))
    (fun os started H enc _ => lifted os started H enc)
theorem proved : Rows.FnExactSetAlarmSaid := over
#print axioms proved
end Go.Proofs.Ytophgbjbinaekaa.fnExactSetAlarm
