/- laws.FnExactNewFlash returns true: impl.NewFlash answers as the model spec.NewFlash, every field, and its result is memory of its own. No condition. -/
import Derived.Test.YtapopagphoiemaaNewFlash
import Derived.Test.YtapopagphoiemaaMark
import Derived.Test.YtapopagphoiemaaFactA
import Derived.Test.YtapopagphoiemaaFactB
import Derived.Test.YtapopagphoiemaaFactC
import Derived.Test.YtapopagphoiemaaFactD
import Derived.Deep.RegionHeld3
import Derived.ProofKit
import Derived.OpenShut
import Derived.ShutString
import Derived.ChangeOld
namespace Go.Proofs.Ytapopagphoiemaa.fnExactNewFlash
open Go.RowKit

set_option maxRecDepth 100000 in
set_option maxHeartbeats 4000000 in
theorem walk (w : World) : Calls Try.prog 4 #[] w fun e w' => e = .returned (.bool true) ∧ Below w.heap.size w w' := by
  go_enter Try.func4, Try.ntmps4
  go_wp2_with fail
  refine (specNewFlash w).mono ?_
  rintro e w1 ⟨A1, n1, c1, C1, m1, d1, rfl, L1, M1, S1, R1, hb1⟩
  have hba := (Below.refl w1.heap.size w1).alloc (Nat.le_refl _) (.cells #[.slice A1 n1 c1, .slice C1 m1 d1, .int .i64 0] 26)
  have hb2 := bt hb1 hba
  have X2 := Lib.hid (Box.new w1 26 #[.slice A1 n1 c1, .slice C1 m1 d1, .int .i64 0])
  have S2 := Lib.hid (S1.out.below hba)
  have R2 := Lib.hid (R1.out.below hba)
  have HW2 := Lib.hid hb2.size
  clear hba hb1 S1 R1
  go_wp2_with fail
  generalize w1.alloc (.cells #[.slice A1 n1 c1, .slice C1 m1 d1, .int .i64 0] 26) = w2 at X2 S2 R2 hb2 HW2 ⊢
  refine (implNewFlash w2).mono ?_
  rintro e w3 ⟨A3, n3, c3, C3, m3, d3, rfl, L3, M3, S3, R3, hb3⟩
  have hba := (Below.refl w3.heap.size w3).alloc (Nat.le_refl _) (.cells #[.slice A3 n3 c3, .slice C3 m3 d3, .int .i64 0] 26)
  have k4 := bt hb3 hba
  have hb4 := bt hb2 k4
  have X4 := Lib.hid (X2.out.step k4)
  have S4 := Lib.hid (S2.out.below k4)
  have R4 := Lib.hid (R2.out.below k4)
  have Y4 := Lib.hid (Box.new w3 26 #[.slice A3 n3 c3, .slice C3 m3 d3, .int .i64 0])
  have T4 := Lib.hid (S3.out.below hba)
  have U4 := Lib.hid (R3.out.below hba)
  have Hlt := Lib.hid hb3.size
  have HX1 := Lib.hid X2.out.lt
  clear hba hb2 hb3 k4 X2 S2 R2 S3 R3
  obtain ⟨w4, hw4⟩ : ∃ w4, w4 = w3.alloc (.cells #[.slice A3 n3 c3, .slice C3 m3 d3, .int .i64 0] 26) := ⟨_, rfl⟩
  rw [← hw4] at hb4 X4 S4 R4 Y4 T4 U4
  have f0 : w4.cell? ⟨w1.heap.size, 0, none⟩ = some (.slice A1 n1 c1) := X4.out.cell 0 rfl
  have f1 : w4.cell? ⟨w1.heap.size, 1, none⟩ = some (.slice C1 m1 d1) := X4.out.cell 1 rfl
  have fx : w4.cell? ⟨w1.heap.size, 2, none⟩ = some (.int .i64 0) := X4.out.cell 2 rfl
  rw [hw4] at f0 f1 fx
  have H4 := Lib.hid hw4
  clear hw4
  have B : n1 ≤ maxLen ∧ m1 ≤ maxLen ∧ n3 ≤ maxLen ∧ m3 ≤ maxLen := by
    have a1 := L1.out; have a2 := M1.out; have a3 := L3.out; have a4 := M3.out
    rw [newZ_len] at a1 a3
    rw [zG_len] at a2 a4
    unfold maxLen; omega
  have HB := Lib.hid B
  clear B
  go_wp2_with fail
  rw [← H4.out]
  clear f0 f1 fx H4
  refine (eqFlashSame A3 A1 C3 C1 n3 n1 m3 m1 c3 c1 d3 d1 0 newZ zG w4 L3.out L1.out M3.out M1.out HB.out.2.2.1 HB.out.2.2.2 T4.out.reads S4.out.reads U4.out.reads R4.out.reads).mono ?_
  rintro e w5 ⟨rfl, hb5⟩
  have hb5' := bt hb4 hb5
  have X5 := Lib.hid (X4.out.step hb5)
  have Y5 := Lib.hid (Y4.out.step hb5)
  have S5 := Lib.hid (S4.out.below hb5)
  have R5 := Lib.hid (R4.out.below hb5)
  have T5 := Lib.hid (T4.out.below hb5)
  have U5 := Lib.hid (U4.out.below hb5)
  have HI : Hid (w3.heap.size ≤ w5.heap.size) := Lib.hid (Nat.le_of_lt Y5.out.lt)
  clear X4 Y4 S4 R4 T4 U4 hb4 hb5
  have f0 : w5.cell? ⟨w3.heap.size, 0, none⟩ = some (.slice A3 n3 c3) := Y5.out.cell 0 rfl
  have f1 : w5.cell? ⟨w3.heap.size, 1, none⟩ = some (.slice C3 m3 d3) := Y5.out.cell 1 rfl
  have fx : w5.cell? ⟨w3.heap.size, 2, none⟩ = some (.int .i64 0) := Y5.out.cell 2 rfl
  go_wp2_with fail
  have HBn : Hid (n3 ≤ 4294967296 ∧ m3 ≤ 4294967296) := by
    have a3 := L3.out; have a4 := M3.out
    rw [newZ_len] at a3
    rw [zG_len] at a4
    exact Lib.hid (by omega)
  refine (markFlash A3 C3 n3 c3 m3 d3 w2.heap.size w3.heap.size 0 newZ zG w5 L3.out M3.out HBn.out.1 HBn.out.2 T5.out U5.out HI.out).mono ?_
  rintro e w6 ⟨rfl, T6, U6, hb6⟩
  have HM6 : Hid (Below w.heap.size w w6) := Lib.hid (hb5'.trans ((hb6.below (Nat.le_trans Hlt.out HI.out)).mono HW2.out))
  have X6 := Lib.hid (X5.out.btw hb6 (.inl HX1.out))
  have Y6 := Lib.hid (Y5.out.btw hb6 (.inr (Nat.le_refl _)))
  have S6 := Lib.hid (S5.out.btw hb6 (.inl (Nat.le_of_lt HX1.out)))
  have R6 := Lib.hid (R5.out.btw hb6 (.inl (Nat.le_of_lt HX1.out)))
  clear f0 f1 fx X5 Y5 S5 R5 T5 U5 hb6 hb5'
  have f0 : w6.cell? ⟨w3.heap.size, 0, none⟩ = some (.slice A3 n3 c3) := Y6.out.cell 0 rfl
  have f1 : w6.cell? ⟨w3.heap.size, 1, none⟩ = some (.slice C3 m3 d3) := Y6.out.cell 1 rfl
  have fx : w6.cell? ⟨w3.heap.size, 2, none⟩ = some (.int .i64 0) := Y6.out.cell 2 rfl
  generalize hq : 1 + n3 + m3 = q
  have HQ := Lib.hid hq
  clear hq
  have hq0 : ¬ (q : Int) < 0 := by omega
  have hqq : ((q : Int) != (q : Int)) = false := by simp
  go_wp2_with fail
  refine (heldFlash A3 C3 n3 c3 m3 d3 0 w6 HBn.out.1 HBn.out.2 T6.out.reads U6.out.reads).mono ?_
  rintro e w7 ⟨rfl, hb7⟩
  rw [HQ.out]
  have hb7' := Lib.hid (bt HM6.out hb7)
  have X7 := Lib.hid (X6.out.step hb7)
  have Y7 := Lib.hid (Y6.out.step hb7)
  have S7 := Lib.hid (S6.out.below hb7)
  have R7 := Lib.hid (R6.out.below hb7)
  have T7 := Lib.hid (T6.out.below hb7)
  have U7 := Lib.hid (U6.out.below hb7)
  clear f0 f1 fx X6 Y6 S6 R6 T6 U6 hb7 HM6
  go_wp2_with fail
  refine (implNewFlash w7).mono ?_
  rintro e w8 ⟨A8, n8, c8, C8, m8, d8, rfl, L8, M8, S8, R8, hb8⟩
  have hba := (Below.refl w8.heap.size w8).alloc (Nat.le_refl _) (.cells #[.slice A8 n8 c8, .slice C8 m8 d8, .int .i64 0] 26)
  have k9 := bt hb8 hba
  have hb9 := bt hb7'.out k9
  have X9 := Lib.hid (X7.out.step k9)
  have Y9 := Lib.hid (Y7.out.step k9)
  have S9 := Lib.hid (S7.out.below k9)
  have R9 := Lib.hid (R7.out.below k9)
  have T9 := Lib.hid (T7.out.below k9)
  have U9 := Lib.hid (U7.out.below k9)
  have P9 := Lib.hid (S8.out.below hba)
  have Q9 := Lib.hid (R8.out.below hba)
  clear X7 Y7 S7 R7 T7 U7 S8 R8 hba k9 hb8 hb7'
  obtain ⟨w9, hw9⟩ : ∃ w9, w9 = w8.alloc (.cells #[.slice A8 n8 c8, .slice C8 m8 d8, .int .i64 0] 26) := ⟨_, rfl⟩
  rw [← hw9] at hb9 X9 Y9 S9 R9 T9 U9 P9 Q9
  have f0 : w9.cell? ⟨w1.heap.size, 0, none⟩ = some (.slice A1 n1 c1) := X9.out.cell 0 rfl
  have f1 : w9.cell? ⟨w1.heap.size, 1, none⟩ = some (.slice C1 m1 d1) := X9.out.cell 1 rfl
  have fx : w9.cell? ⟨w1.heap.size, 2, none⟩ = some (.int .i64 0) := X9.out.cell 2 rfl
  rw [hw9] at f0 f1 fx
  have H9 := Lib.hid hw9
  clear hw9
  have B : n8 ≤ maxLen ∧ m8 ≤ maxLen := by
    have a1 := L8.out; have a2 := M8.out
    rw [newZ_len] at a1
    rw [zG_len] at a2
    unfold maxLen; omega
  have HB8 := Lib.hid B
  clear B
  go_wp2_with fail
  rw [← H9.out]
  clear f0 f1 fx H9
  refine (eqFlashSame A8 A1 C8 C1 n8 n1 m8 m1 c8 c1 d8 d1 0 newZ zG w9 L8.out L1.out M8.out M1.out HB8.out.1 HB8.out.2 P9.out.reads S9.out.reads Q9.out.reads R9.out.reads).mono ?_
  rintro e wa ⟨rfl, hba⟩
  have hba' := bt hb9 hba
  have Ya := Y9.out.step hba
  have Ta := Lib.hid (T9.out.below hba)
  have Ua := Lib.hid (U9.out.below hba)
  have f0 : wa.cell? ⟨w3.heap.size, 0, none⟩ = some (.slice A3 n3 c3) := Ya.cell 0 rfl
  have f1 : wa.cell? ⟨w3.heap.size, 1, none⟩ = some (.slice C3 m3 d3) := Ya.cell 1 rfl
  have fx : wa.cell? ⟨w3.heap.size, 2, none⟩ = some (.int .i64 0) := Ya.cell 2 rfl
  clear Ya X9 Y9 S9 R9 T9 U9 P9 Q9 hb9 hba
  go_wp2_with fail
  refine (heldFlash A3 C3 n3 c3 m3 d3 0 wa HBn.out.1 HBn.out.2 Ta.out.reads Ua.out.reads).mono ?_
  rintro e wb ⟨rfl, hbb⟩
  rw [HQ.out]
  go_wp2
  go_ret
  exact ⟨rfl, bt hba' hbb⟩


/-! The row's step. -/
open Go.ChangeShapes Go.WideShapes Go.ChangeAt
open Go.ChangeMaps (open_string shut_string)
set_option maxRecDepth 100000 in
theorem own : ownKnob Try.prog.godebug = none := by kernel_rfl
set_option maxRecDepth 100000 in
theorem laidOut : laidOutB Try.prog = true := factLaid
set_option maxRecDepth 100000 in
theorem lifted (os : Os) (started : os.Started) (H : Type) (enc : TypeId × Value → H) :
    ReturnsInHanded {} Try.checked os 4 .any (Rows.fnExactNewFlashSpec.pre6 enc Try.prog Try.f4 Rows.fnExactNewFlashRow.domain false) (Rows.fnExactNewFlashSpec.post enc Try.prog Try.f4 false true false false) := by
  refine returnsInHanded_of_change (C := Try.checked) own started (by kernel_rfl) Try.func4
    (ChangeSpec.witness6 (enc := enc) (C := Try.checked) false ⟨#[], #[], []⟩ 8 (by kernel_rfl) (by kernel_rfl) (by kernel_rfl) (by kernel_rfl)) ?_
  intro W base args ds gs before hval0 hW hcnd _
  have hval : ∀ (j : Nat) t v, Try.f4.params[j]? = some t → args[j]? = some v → Value.okWide Try.prog W .any base t v := hval0
  have hW' := hW
  obtain ⟨p, q, hA0, hV, rfl, hfz, hnd⟩ := hW
  have hA : DataW.TrodAll enc Try.prog W 0 (fun _ => true) true Try.f4.params.toList args.toList ds p := hA0
  rw [Try.params4] at hA hval
  obtain ⟨rfl, rfl, rfl⟩ := trodAll_none hA
  obtain ⟨rfl, rfl⟩ := trodVars_none hV
  clear hA0 hval0
  refine (walk  W ).mono fun e W' ⟨he, bel⟩ => ?_
  subst he
  exact ⟨_, rfl, _, _, _, [], _, [], hW', trodAll_mk1 (shut_bool Try.underlying4 _), trodAll_mk0, rfl, bel.frame _, fun h => by cases h⟩

theorem k0 : (Rows.fnExactNewFlashRow.wf (OpenSpec.ofChange Rows.fnExactNewFlashSpec)) = true := by kernel_rfl
set_option maxRecDepth 100000 in
theorem k3 : (Try.f4.params.all (Try.prog.readableRec ·)) = true := by kernel_rfl
set_option maxRecDepth 100000 in
theorem k4 : (namedTie Try.prog Rows.fnExactNewFlashRow.named Rows.fnExactNewFlashSpec.vars) = true := by kernel_rfl
theorem k5 : ((Rows.fnExactNewFlashRow.stops == [])) = true := by kernel_rfl
set_option maxRecDepth 100000 in
theorem k6 : ((Try.prog.stops == [])) = true := by kernel_rfl
theorem k7 : ((Rows.fnExactNewFlashRow.knobs == [])) = true := by kernel_rfl
set_option maxRecDepth 100000 in
theorem k8 : ((Try.prog.stopKnobs == [])) = true := by kernel_rfl
set_option maxRecDepth 100000 in
theorem k9 : ((Rows.fnExactNewFlashRow.inPlace == Try.prog.inPlace 4)) = true := by kernel_rfl
set_option maxRecDepth 100000 in
theorem k10 : ((Rows.fnExactNewFlashRow.unfollowed == Try.prog.unfollowed 4)) = true := by kernel_rfl
set_option maxRecDepth 100000 in
theorem k11 : ((Rows.fnExactNewFlashRow.recurses == Try.prog.recurses 4)) = true := by kernel_rfl
set_option maxRecDepth 100000 in
theorem k12 : ((Rows.fnExactNewFlashRow.named == Try.prog.varsNamed 4)) = true := by kernel_rfl
set_option maxRecDepth 100000 in
theorem k13 : ((Rows.fnExactNewFlashRow.maps == (Try.f4.params.toList ++ Rows.fnExactNewFlashSpec.plain.varTypes Try.prog).any (Try.prog.mapsRec ·))) = true := by kernel_rfl
set_option maxRecDepth 100000 in
theorem k14 : ((Rows.fnExactNewFlashRow.ifaces == (Try.f4.params.toList ++ Rows.fnExactNewFlashSpec.plain.varTypes Try.prog).any (Try.prog.ifacesRec ·))) = true := by kernel_rfl
set_option maxRecDepth 100000 in
theorem k15 : ((Rows.fnExactNewFlashRow.mapsOut == Try.prog.mapsAmong Try.f4.resultTypes.toList)) = true := by kernel_rfl
set_option maxRecDepth 100000 in
theorem k16 : ((Rows.fnExactNewFlashRow.loops == (Try.f4.params.toList ++ Rows.fnExactNewFlashSpec.plain.varTypes Try.prog).any (Try.prog.loopsFrom ·))) = true := by kernel_rfl
set_option maxRecDepth 100000 in
theorem k17 : ((Rows.fnExactNewFlashRow.wideKeys == (Try.f4.params.toList ++ Rows.fnExactNewFlashSpec.plain.varTypes Try.prog ++ Try.f4.resultTypes.toList).any (Try.prog.wideKeysFrom ·))) = true := by kernel_rfl
set_option maxRecDepth 100000 in
theorem k18 : (Rows.fnExactNewFlashSpec.vars.all (Try.prog.varReadable ·)) = true := by kernel_rfl
set_option maxRecDepth 100000 in
theorem k19 : (Try.f4.resultTypes.all (fun t => Try.prog.readableRec t && decide (t < Try.prog.types.size))) = true := by kernel_rfl
set_option maxRecDepth 100000 in
theorem k20 : ((Rows.fnExactNewFlashRow.ifacesOut == Try.f4.resultTypes.toList.any (Try.prog.ifacesRec ·))) = true := by kernel_rfl
set_option maxRecDepth 100000 in
theorem k21 : ((Rows.fnExactNewFlashRow.loopsOut == Try.f4.resultTypes.toList.any (Try.prog.loopsFrom ·))) = true := by kernel_rfl
set_option maxRecDepth 100000 in
theorem k22 : ((Rows.fnExactNewFlashRow.plainKeys == Try.prog.plainKeys)) = true := by kernel_rfl
theorem k23 : (Rows.fnExactNewFlashRow.shortTexts.isNone) = true := by kernel_rfl
set_option maxRecDepth 100000 in
theorem k28 : ((Rows.fnExactNewFlashRow.kinds == (if Rows.fnExactNewFlashRow.domain.isEmpty then [] else Try.f4.params.toList.map fun t => match Try.prog.underlying t with | some (.int k) => some k | _ => none))) = true := by kernel_rfl
theorem k29 : ((Rows.fnExactNewFlashRow.pinned == Rows.fnExactNewFlashRow.pinnedBy)) = true := by kernel_rfl
set_option maxRecDepth 100000 in
theorem k30 : ((Rows.fnExactNewFlashRow.veiled == (Try.f4.params.toList ++ Rows.fnExactNewFlashSpec.plain.varTypes Try.prog ++ Try.f4.resultTypes.toList).any (Try.prog.veiledRec ·))) = true := by kernel_rfl
set_option maxRecDepth 100000 in
theorem k31 : (Rows.fnExactNewFlashRow.veiledFits Try.prog Try.f4.params.toList (Try.f4.params.toList ++ Rows.fnExactNewFlashSpec.plain.varTypes Try.prog ++ Try.f4.resultTypes.toList)) = true := by kernel_rfl
set_option maxRecDepth 100000 in
theorem facts : joinedFacts Try.prog 4 Try.f4 Rows.fnExactNewFlashSpec Rows.fnExactNewFlashRow = true := (and_mk (and_mk (and_mk (and_mk (and_mk (and_mk (and_mk (and_mk (and_mk (and_mk (and_mk (and_mk (and_mk (and_mk (and_mk (and_mk (and_mk (and_mk (and_mk (and_mk (and_mk (and_mk (and_mk (and_mk (and_mk (and_mk (and_mk (and_mk (and_mk (and_mk (and_mk k0 factLaid) factRowed) k3) k4) k5) k6) k7) k8) k9) k10) k11) k12) k13) k14) k15) k16) k17) k18) k19) k20) k21) k22) k23) factHeard) factEnter) factLift) factMake) k28) k29) k30) k31)
set_option maxRecDepth 100000 in
theorem named : Try.prog.funcNamed Rows.fnExactNewFlashRow.func = some 4 := by kernel_rfl
set_option maxRecDepth 100000 in
theorem inst : Try.f4.isInstance Try.prog Rows.fnExactNewFlashRow.origin Rows.fnExactNewFlashRow.targs := of_decide_eq_true (by kernel_rfl)
set_option maxRecDepth 100000 in
theorem over : Rows.fnExactNewFlashRow.holds Try.pinned (OpenSpec.ofChange Rows.fnExactNewFlashSpec) :=
  OpenClaim.holds_of_wide 4 Try.f4 rfl rfl rfl rfl rfl rfl rfl ⟨rfl, rfl, rfl, rfl, rfl⟩ rfl rfl rfl rfl rfl named Try.func4 facts
    inst (by unfold Func.isWrapper; first | (rw [if_pos (by decide +kernel)]; kernel_rfl) | (rw [if_neg (by decide +kernel)]; exact ⟨rfl, rfl⟩))
    (fun os started H enc _ => lifted os started H enc)
theorem proved : Rows.FnExactNewFlashSaid := over
#print axioms proved
end Go.Proofs.Ytapopagphoiemaa.fnExactNewFlash
