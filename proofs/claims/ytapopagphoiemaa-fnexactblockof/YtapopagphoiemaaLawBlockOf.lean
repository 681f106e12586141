/- For every integer, laws.FnExactBlockOf returns true: impl.BlockOf answers as the model spec.BlockOf. No condition. -/
import Derived.Test.YtapopagphoiemaaFlashOk
import Derived.Test.YtapopagphoiemaaFactA
import Derived.Test.YtapopagphoiemaaFactB
import Derived.Test.YtapopagphoiemaaFactC
import Derived.Test.YtapopagphoiemaaFactD
import Derived.ProofKit
import Derived.OpenShut
import Derived.ShutString
import Derived.ChangeOld
namespace Go.Proofs.Ytapopagphoiemaa.fnExactBlockOf
open Go.RowKit

def blkOf (a : Int) : Int × Int := if byB a then (((a.toNat / 16 : Nat) : Int), 0) else (0, 4)
set_option maxRecDepth 100000 in
theorem implBlockOf (a : Int) (w : World) : Calls Try.prog 28 #[.int .i64 a] w fun e w' => e = .returned (.tuple #[.int .i64 (blkOf a).1, .int .i64 (blkOf a).2]) ∧ w = w' := by
  by_cases ha : byB a = true
  · obtain ⟨k, rfl⟩ : ∃ k : Nat, a = k := ⟨a.toNat, by have := byB_range ha; omega⟩
    have hk : k ≤ 255 := by have := byB_range ha; omega
    have HE : Hid (blkOf k = (((k / 16 : Nat) : Int), 0)) := Lib.hid (by unfold blkOf; rw [if_pos ha]; rfl)
    generalize blkOf k = r at HE
    go_enter Try.func28, Try.ntmps28
    go_wp2_with (first | (go_at_call 64; refine (isOffset _ _).mono ?_; rintro e w' ⟨rfl, rfl⟩; rw [ha]) | (go_at_call 65; refine (blockOf k hk _).mono ?_; rintro e w' ⟨rfl, rfl⟩))
    refine bodyPost_ret (v := .tuple #[.int .i64 ((k / 16 : Nat) : Int), .int .i64 0]) (by simp [results, Try.results28, go_sem]) rfl ?_
    exact ⟨by rw [HE.out], rfl⟩
  · have ha' : byB a = false := by simpa using ha
    have HE : Hid (blkOf a = (0, 4)) := Lib.hid (by unfold blkOf; simp [ha'])
    generalize blkOf a = r at HE
    go_enter Try.func28, Try.ntmps28
    go_wp2_with (first | (go_at_call 64; refine (isOffset _ _).mono ?_; rintro e w' ⟨rfl, rfl⟩; rw [ha']))
    refine bodyPost_ret (v := .tuple #[.int .i64 0, .int .i64 4]) (by simp [results, Try.results28, go_sem]) rfl ?_
    exact ⟨by rw [HE.out], rfl⟩
set_option maxRecDepth 100000 in
theorem specBlockOf (a : Int) (w : World) : Calls Try.prog 27 #[.int .i64 a] w fun e w' => e = .returned (.tuple #[.int .i64 (blkOf a).1, .int .i64 (blkOf a).2]) ∧ w = w' := by
  by_cases ha : byB a = true
  · obtain ⟨k, rfl⟩ : ∃ k : Nat, a = k := ⟨a.toNat, by have := byB_range ha; omega⟩
    have hk : k ≤ 255 := by have := byB_range ha; omega
    have HE : Hid (blkOf k = (((k / 16 : Nat) : Int), 0)) := Lib.hid (by unfold blkOf; rw [if_pos ha]; rfl)
    generalize blkOf k = r at HE
    go_enter Try.func27, Try.ntmps27
    go_wp2_with (first | (go_at_call 47; refine (l03At _ _).mono ?_; rintro e w' ⟨rfl, rfl⟩; rw [ha]))
    refine bodyPost_ret (v := .tuple #[.int .i64 ((k / 16 : Nat) : Int), .int .i64 0]) (by simp [results, Try.results27, go_sem]) rfl ?_
    exact ⟨by rw [HE.out], rfl⟩
  · have ha' : byB a = false := by simpa using ha
    have HE : Hid (blkOf a = (0, 4)) := Lib.hid (by unfold blkOf; simp [ha'])
    generalize blkOf a = r at HE
    go_enter Try.func27, Try.ntmps27
    go_wp2_with (first | (go_at_call 47; refine (l03At _ _).mono ?_; rintro e w' ⟨rfl, rfl⟩; rw [ha']))
    refine bodyPost_ret (v := .tuple #[.int .i64 0, .int .i64 4]) (by simp [results, Try.results27, go_sem]) rfl ?_
    exact ⟨by rw [HE.out], rfl⟩
set_option maxRecDepth 100000 in
set_option maxHeartbeats 1000000 in
theorem walk (a : Int) (w : World) (_w0 : (Lit.int .i64 a).wf = true) :
    Calls Try.prog 6 #[.int .i64 a] w fun e w' => e = .returned (.bool true) ∧ Below w.heap.size w w' := by
  have HI := Lib.hid (fun W => implBlockOf a W)
  have HS := Lib.hid (fun W => specBlockOf a W)
  generalize blkOf a = r at HI HS
  obtain ⟨x, y⟩ := r
  simp only at HI HS
  have h1 : (x != x) = false := by simp
  have h2 : (y != y) = false := by simp
  go_enter Try.func6, Try.ntmps6
  go_wp2_with fail
  refine (HS.out _).mono ?_
  rintro e w1 ⟨rfl, rfl⟩
  go_wp2_with fail
  refine (HI.out _).mono ?_
  rintro e w1 ⟨rfl, rfl⟩
  go_wp2
  go_ret
  exact ⟨rfl, Below.refl _ _⟩

/-! The row's step. -/
open Go.ChangeShapes Go.WideShapes Go.ChangeAt
open Go.ChangeMaps (open_string shut_string)
set_option maxRecDepth 100000 in
theorem own : ownKnob Try.prog.godebug = none := by kernel_rfl
set_option maxRecDepth 100000 in
theorem laidOut : laidOutB Try.prog = true := factLaid
set_option maxRecDepth 100000 in
theorem lifted (os : Os) (started : os.Started) (H : Type) (enc : TypeId × Value → H) :
    ReturnsInHanded {} Try.checked os 6 .any (Rows.fnExactBlockOfSpec.pre6 enc Try.prog Try.f6 Rows.fnExactBlockOfRow.domain false) (Rows.fnExactBlockOfSpec.post enc Try.prog Try.f6 false true false false) := by
  refine returnsInHanded_of_change (C := Try.checked) own started (by kernel_rfl) Try.func6
    (ChangeSpec.witness6 (enc := enc) (C := Try.checked) false ⟨#[], #[.int .i64 0], []⟩ 8 (by kernel_rfl) (by kernel_rfl) (by kernel_rfl) (by kernel_rfl)) ?_
  intro W base args ds gs before hval0 hW hcnd _
  have hval : ∀ (j : Nat) t v, Try.f6.params[j]? = some t → args[j]? = some v → Value.okWide Try.prog W .any base t v := hval0
  have hW' := hW
  obtain ⟨p, q, hA0, hV, rfl, hfz, hnd⟩ := hW
  have hA : DataW.TrodAll enc Try.prog W 0 (fun _ => true) true Try.f6.params.toList args.toList ds p := hA0
  rw [Try.params6] at hA hval
  obtain ⟨v0, vs0, d0, ds0, p0, q0, hargs, rfl, rfl, h0, r0⟩ := trodAll_cons hA
  obtain ⟨rfl, rfl, rfl⟩ := trodAll_nil r0
  obtain rfl : args = #[v0] := by cases args; simp_all
  obtain ⟨rfl, rfl⟩ := trodVars_none hV
  obtain ⟨a0, rfl, rfl, rfl, w0⟩ := open_int Try.underlying3 (hval 0 3 v0 rfl rfl) h0
  clear hA0 hval0
  refine (walk a0 W w0).mono fun e W' ⟨he, bel⟩ => ?_
  subst he
  exact ⟨_, rfl, _, _, _, [], _, [], hW', trodAll_mk1 (shut_bool Try.underlying4 _), (trodAll_cons_mk (shut_int Try.underlying3 w0) trodAll_mk0), rfl, bel.frame _, fun h => by cases h⟩

theorem k0 : (Rows.fnExactBlockOfRow.wf (OpenSpec.ofChange Rows.fnExactBlockOfSpec)) = true := by kernel_rfl
set_option maxRecDepth 100000 in
theorem k3 : (Try.f6.params.all (Try.prog.readableRec ·)) = true := by kernel_rfl
set_option maxRecDepth 100000 in
theorem k4 : (namedTie Try.prog Rows.fnExactBlockOfRow.named Rows.fnExactBlockOfSpec.vars) = true := by kernel_rfl
theorem k5 : ((Rows.fnExactBlockOfRow.stops == [])) = true := by kernel_rfl
set_option maxRecDepth 100000 in
theorem k6 : ((Try.prog.stops == [])) = true := by kernel_rfl
theorem k7 : ((Rows.fnExactBlockOfRow.knobs == [])) = true := by kernel_rfl
set_option maxRecDepth 100000 in
theorem k8 : ((Try.prog.stopKnobs == [])) = true := by kernel_rfl
set_option maxRecDepth 100000 in
theorem k9 : ((Rows.fnExactBlockOfRow.inPlace == Try.prog.inPlace 6)) = true := by kernel_rfl
set_option maxRecDepth 100000 in
theorem k10 : ((Rows.fnExactBlockOfRow.unfollowed == Try.prog.unfollowed 6)) = true := by kernel_rfl
set_option maxRecDepth 100000 in
theorem k11 : ((Rows.fnExactBlockOfRow.recurses == Try.prog.recurses 6)) = true := by kernel_rfl
set_option maxRecDepth 100000 in
theorem k12 : ((Rows.fnExactBlockOfRow.named == Try.prog.varsNamed 6)) = true := by kernel_rfl
set_option maxRecDepth 100000 in
theorem k13 : ((Rows.fnExactBlockOfRow.maps == (Try.f6.params.toList ++ Rows.fnExactBlockOfSpec.plain.varTypes Try.prog).any (Try.prog.mapsRec ·))) = true := by kernel_rfl
set_option maxRecDepth 100000 in
theorem k14 : ((Rows.fnExactBlockOfRow.ifaces == (Try.f6.params.toList ++ Rows.fnExactBlockOfSpec.plain.varTypes Try.prog).any (Try.prog.ifacesRec ·))) = true := by kernel_rfl
set_option maxRecDepth 100000 in
theorem k15 : ((Rows.fnExactBlockOfRow.mapsOut == Try.prog.mapsAmong Try.f6.resultTypes.toList)) = true := by kernel_rfl
set_option maxRecDepth 100000 in
theorem k16 : ((Rows.fnExactBlockOfRow.loops == (Try.f6.params.toList ++ Rows.fnExactBlockOfSpec.plain.varTypes Try.prog).any (Try.prog.loopsFrom ·))) = true := by kernel_rfl
set_option maxRecDepth 100000 in
theorem k17 : ((Rows.fnExactBlockOfRow.wideKeys == (Try.f6.params.toList ++ Rows.fnExactBlockOfSpec.plain.varTypes Try.prog ++ Try.f6.resultTypes.toList).any (Try.prog.wideKeysFrom ·))) = true := by kernel_rfl
set_option maxRecDepth 100000 in
theorem k18 : (Rows.fnExactBlockOfSpec.vars.all (Try.prog.varReadable ·)) = true := by kernel_rfl
set_option maxRecDepth 100000 in
theorem k19 : (Try.f6.resultTypes.all (fun t => Try.prog.readableRec t && decide (t < Try.prog.types.size))) = true := by kernel_rfl
set_option maxRecDepth 100000 in
theorem k20 : ((Rows.fnExactBlockOfRow.ifacesOut == Try.f6.resultTypes.toList.any (Try.prog.ifacesRec ·))) = true := by kernel_rfl
set_option maxRecDepth 100000 in
theorem k21 : ((Rows.fnExactBlockOfRow.loopsOut == Try.f6.resultTypes.toList.any (Try.prog.loopsFrom ·))) = true := by kernel_rfl
set_option maxRecDepth 100000 in
theorem k22 : ((Rows.fnExactBlockOfRow.plainKeys == Try.prog.plainKeys)) = true := by kernel_rfl
theorem k23 : (Rows.fnExactBlockOfRow.shortTexts.isNone) = true := by kernel_rfl
set_option maxRecDepth 100000 in
theorem k28 : ((Rows.fnExactBlockOfRow.kinds == (if Rows.fnExactBlockOfRow.domain.isEmpty then [] else Try.f6.params.toList.map fun t => match Try.prog.underlying t with | some (.int k) => some k | _ => none))) = true := by kernel_rfl
theorem k29 : ((Rows.fnExactBlockOfRow.pinned == Rows.fnExactBlockOfRow.pinnedBy)) = true := by kernel_rfl
set_option maxRecDepth 100000 in
theorem k30 : ((Rows.fnExactBlockOfRow.veiled == (Try.f6.params.toList ++ Rows.fnExactBlockOfSpec.plain.varTypes Try.prog ++ Try.f6.resultTypes.toList).any (Try.prog.veiledRec ·))) = true := by kernel_rfl
set_option maxRecDepth 100000 in
theorem k31 : (Rows.fnExactBlockOfRow.veiledFits Try.prog Try.f6.params.toList (Try.f6.params.toList ++ Rows.fnExactBlockOfSpec.plain.varTypes Try.prog ++ Try.f6.resultTypes.toList)) = true := by kernel_rfl
set_option maxRecDepth 100000 in
theorem facts : joinedFacts Try.prog 6 Try.f6 Rows.fnExactBlockOfSpec Rows.fnExactBlockOfRow = true := (and_mk (and_mk (and_mk (and_mk (and_mk (and_mk (and_mk (and_mk (and_mk (and_mk (and_mk (and_mk (and_mk (and_mk (and_mk (and_mk (and_mk (and_mk (and_mk (and_mk (and_mk (and_mk (and_mk (and_mk (and_mk (and_mk (and_mk (and_mk (and_mk (and_mk (and_mk k0 factLaid) factRowed) k3) k4) k5) k6) k7) k8) k9) k10) k11) k12) k13) k14) k15) k16) k17) k18) k19) k20) k21) k22) k23) factHeard) factEnter) factLift) factMake) k28) k29) k30) k31)
set_option maxRecDepth 100000 in
theorem named : Try.prog.funcNamed Rows.fnExactBlockOfRow.func = some 6 := by kernel_rfl
set_option maxRecDepth 100000 in
theorem inst : Try.f6.isInstance Try.prog Rows.fnExactBlockOfRow.origin Rows.fnExactBlockOfRow.targs := of_decide_eq_true (by kernel_rfl)
set_option maxRecDepth 100000 in
theorem over : Rows.fnExactBlockOfRow.holds Try.pinned (OpenSpec.ofChange Rows.fnExactBlockOfSpec) :=
  OpenClaim.holds_of_wide 6 Try.f6 rfl rfl rfl rfl rfl rfl rfl ⟨rfl, rfl, rfl, rfl, rfl⟩ rfl rfl rfl rfl rfl named Try.func6 facts
    inst (by unfold Func.isWrapper; first | (rw [if_pos (by decide +kernel)]; kernel_rfl) | (rw [if_neg (by decide +kernel)]; exact ⟨rfl, rfl⟩))
    (fun os started H enc _ => lifted os started H enc)
theorem proved : Rows.FnExactBlockOfSaid := over
#print axioms proved
end Go.Proofs.Ytapopagphoiemaa.fnExactBlockOf
