/- For every []Timer, laws.FnExactTimersOK returns true: impl.TimersOK answers as the model spec.TimersOK, every field, leaves its arguments alone, and its result is memory of its own. No condition. -/
import Derived.Test.YtagdclbpgkilgaaTimOk
import Derived.Test.YtagdclbpgkilgaaGenRTimer
import Derived.Test.YtagdclbpgkilgaaGenOpen
import Derived.Test.YtagdclbpgkilgaaFactA
import Derived.Test.YtagdclbpgkilgaaFactB
import Derived.Test.YtagdclbpgkilgaaFactC
import Derived.Test.YtagdclbpgkilgaaFactD
import Derived.Deep.RegionHeld3
import Derived.ProofKit
import Derived.OpenShut
import Derived.ShutString
import Derived.ChangeOld
namespace Go.Proofs.Ytagdclbpgkilgaa.fnExactTimersOK
open Go.RowKit

set_option maxRecDepth 100000 in
set_option maxHeartbeats 16000000 in
theorem walk (a0vA0 : Option Addr) (a0vc0 : Nat) (a0d0 : List TTimer) (w : World) (h0 : RepA w [.slice a0vA0 a0d0.length a0vc0] [rTimer a0d0]) (f0 : FitA [rTimer a0d0]) :
    Calls Try.prog 6 #[.slice a0vA0 a0d0.length a0vc0] w fun e w' => e = .returned (.bool true) ∧ Below w.heap.size w w' := by
  have HSz0 := Lib.hid (fun W (hb : Below w.heap.size w W) l g0 g1 => szLRTimer (.slice a0vA0 a0d0.length a0vc0) a0d0 l W (h0.below hb).1 (f0 _ (by simp)) g0 g1)
  have HTo0 := Lib.hid (fun W (hb : Below w.heap.size w W) (z : szA [rTimer a0d0] ≤ 1048576) => toLRTimer (.slice a0vA0 a0d0.length a0vc0) a0d0 W (h0.below hb).1 (by have q := z; simp only [szA, Lf.sz_I, Lf.sz_B, Lf.sz_S, sz_rTimer] at q; omega))
  have HSpec := Lib.hid (fun W (q0vA0 : Option Addr) (q0vc0 : Nat) (h0 : RepA W [.slice q0vA0 a0d0.length q0vc0] [rTimer a0d0]) (c0 : CapA [.slice q0vA0 a0d0.length q0vc0]) (z0 : szA [rTimer a0d0] ≤ 1048576) => specTimersOKA q0vA0 q0vc0 a0d0 W h0 c0 z0)
  have HImpl := Lib.hid (fun W (q0vA0 : Option Addr) (q0vc0 : Nat) (h0 : RepA W [.slice q0vA0 a0d0.length q0vc0] [rTimer a0d0]) (c0 : CapA [.slice q0vA0 a0d0.length q0vc0]) (z0 : szA [rTimer a0d0] ≤ 1048576) => implTimersOKA q0vA0 q0vc0 a0d0 W h0 c0 z0)
  generalize timB a0d0 = r0d0 at HSpec HImpl
  have qr0d0 : (r0d0 != r0d0) = false := by simp
  clear h0 f0
  have H0 : Hid (Below w.heap.size w w) := Lib.hid (Below.refl _ _)
  go_enter Try.func6, Try.ntmps6
  go_wp2_with fail
  refine (HSz0.out _ H0.out _ (by omega) (by omega)).mono ?_
  rintro e w1 ⟨hres, hc⟩
  have H2 := Lib.hid (bt H0.out hc)
  have Z3 : Hid (w.heap.size ≤ w1.heap.size) := Lib.hid hc.size
  clear H0 hc
  clear HSz0
  rcases hres with rfl | ⟨rfl, hle0⟩
  · go_wp2
    go_ret
    exact ⟨rfl, H2.out⟩
  have z0 : szA [rTimer a0d0] ≤ 1048576 := by simp only [szA] at hle0 ⊢; omega
  generalize hu0 : Lf.sz (rTimer a0d0) = u0 at hle0 ⊢
  clear hu0
  have hp0 : ¬ (1048576 : Int) - (u0 : Int) < 0 := by omega
  go_wp2_with fail
  refine (HTo0.out _ H2.out z0).mono ?_
  rintro e w5 ⟨t4vA0, t4vc0, rfl, Nt4, Kt4, hc⟩
  have H6 := Lib.hid (bt H2.out hc)
  have Z7 : Hid (w1.heap.size ≤ w5.heap.size) := Lib.hid hc.size
  clear H2 hc
  have Ot4 := Lib.hid (OwnA.one Nt4.out)
  clear Nt4
  have Kt4 := Lib.hid (CapA.cons Kt4.out CapA.nil)
  go_wp2_with fail
  refine (HSpec.out w5 t4vA0 t4vc0 Ot4.out.reads Kt4.out z0).mono ?_
  rintro e w8 ⟨rfl, hc⟩
  have F9 := Lib.hid (Ot4.out.below hc)
  have H10 := Lib.hid (bt H6.out hc)
  have Z11 : Hid (w5.heap.size ≤ w8.heap.size) := Lib.hid hc.size
  clear Ot4 H6 hc
  clear F9 Kt4
  clear HSpec
  go_wp2_with fail
  refine (HTo0.out _ H10.out z0).mono ?_
  rintro e w12 ⟨x0vA0, x0vc0, rfl, Nx0, Kx0, hc⟩
  have H13 := Lib.hid (bt H10.out hc)
  have Z14 : Hid (w8.heap.size ≤ w12.heap.size) := Lib.hid hc.size
  clear H10 hc
  have Ox0 := Lib.hid (OwnA.one Nx0.out)
  clear Nx0
  have Kx0 := Lib.hid (CapA.cons Kx0.out CapA.nil)
  go_wp2_with fail
  refine (HImpl.out w12 x0vA0 x0vc0 Ox0.out.reads Kx0.out z0).mono ?_
  rintro e w15 ⟨rfl, hc⟩
  have F16 := Lib.hid (Ox0.out.below hc)
  have H17 := Lib.hid (bt H13.out hc)
  have Z18 : Hid (w12.heap.size ≤ w15.heap.size) := Lib.hid hc.size
  clear Ox0 H13 hc
  go_wp2_with fail
  refine (HTo0.out _ H17.out z0).mono ?_
  rintro e w20 ⟨t19vA0, t19vc0, rfl, Nt19, Kt19, hc⟩
  have F21 := Lib.hid (F16.out.below hc)
  have H22 := Lib.hid (bt H17.out hc)
  have Z23 : Hid (w15.heap.size ≤ w20.heap.size) := Lib.hid hc.size
  clear F16 H17 hc
  have Ot19 := Lib.hid (OwnA.one Nt19.out)
  clear Nt19
  have Kt19 := Lib.hid (CapA.cons Kt19.out CapA.nil)
  go_wp2_with fail
  refine (eqLRTimer (.slice x0vA0 a0d0.length x0vc0) (.slice t19vA0 a0d0.length t19vc0) a0d0 w20 F21.out.reads.1 Ot19.out.reads.1 (by have q := szA_len [rTimer a0d0]; have q2 := z0; simp only [lenA, Lf.len_I, Lf.len_B, Lf.len_S, len_rTimer] at q; unfold maxLen; omega)).mono ?_
  rintro e w24 ⟨rfl, hc⟩
  have F25 := Lib.hid (F21.out.below hc)
  have F26 := Lib.hid (Ot19.out.below hc)
  have H27 := Lib.hid (bt H22.out hc)
  have Z28 : Hid (w20.heap.size ≤ w24.heap.size) := Lib.hid hc.size
  clear F21 Ot19 H22 hc
  clear F26 Kt19
  go_wp2
  go_ret
  exact ⟨rfl, H27.out⟩

/-! The row's step. -/
open Go.ChangeShapes Go.WideShapes Go.ChangeAt
open Go.ChangeMaps (open_string shut_string)
set_option maxRecDepth 100000 in
theorem own : ownKnob Try.prog.godebug = none := by kernel_rfl
set_option maxRecDepth 100000 in
theorem laidOut : laidOutB Try.prog = true := factLaid
set_option maxRecDepth 100000 in
theorem lifted (os : Os) (started : os.Started) (H : Type) (enc : TypeId × Value → H) :
    ReturnsInHanded {} Try.checked os 6 .any (Rows.fnExactTimersOKSpec.pre6 enc Try.prog Try.f6 Rows.fnExactTimersOKRow.domain false) (Rows.fnExactTimersOKSpec.post enc Try.prog Try.f6 false true false false) := by
  refine returnsInHanded_of_change (C := Try.checked) own started (by kernel_rfl) Try.func6
    (ChangeSpec.witness6 (enc := enc) (C := Try.checked) false ⟨#[], #[.slice none 0 0], []⟩ 8 (by kernel_rfl) (by kernel_rfl) (by kernel_rfl) (by kernel_rfl)) ?_
  intro W base args ds gs before hval0 hW hcnd _
  have hval : ∀ (j : Nat) t v, Try.f6.params[j]? = some t → args[j]? = some v → Value.okWide Try.prog W .any base t v := hval0
  have hW' := hW
  obtain ⟨p, q, hA0, hV, rfl, hfz, hnd⟩ := hW
  have hA : DataW.TrodAll enc Try.prog W 0 (fun _ => true) true Try.f6.params.toList args.toList ds p := hA0
  rw [Try.params6] at hA hval
  obtain ⟨v0, vs0, d0, ds0, p0, q0, hargs, rfl, rfl, h0, r0⟩ := trodAll_cons hA
  obtain ⟨rfl, rfl, rfl⟩ := trodAll_nil r0
  obtain rfl : args = #[v0] := by cases args; simp_all
  obtain ⟨rfl, rfl⟩ := trodVars_none hV
  have k0 := h0
  have lt0 : ∀ x ∈ p0, x.block < W.heap.size := by obtain ⟨m, hm⟩ := k0; exact DataW.trod_lt m _ _ _ hm
  obtain ⟨f0, hf0⟩ := h0
  obtain ⟨x0, y0, z0, e0⟩ := okWide_slice Try.underlying55 (hval 0 55 v0 rfl rfl)
  obtain ⟨a0vA0, a0vc0, a0d0, e0x, R0x, G0x⟩ := openRTimer (by rw [e0] at hf0; simpa [Value.cells] using hf0)
  rw [← e0] at e0x R0x
  subst e0x
  have R0 : RepA W [.slice a0vA0 a0d0.length a0vc0] [rTimer a0d0] := ⟨R0x, trivial⟩
  have G0 : FitA [rTimer a0d0] := fun d hd => by simp only [List.mem_cons, List.not_mem_nil, or_false] at hd; subst hd; exact G0x
  clear hA0 hval0
  refine (walk a0vA0 a0vc0 a0d0 W R0 G0).mono fun e W' ⟨he, bel⟩ => ?_
  subst he
  exact ⟨_, rfl, _, _, _, [], _, [], hW', trodAll_mk1 (shut_bool Try.underlying4 _), (trodAll_cons_mk (Below.trod laidOut (by kernel_rfl) (of_decide_eq_true (by kernel_rfl)) k0 bel lt0) trodAll_mk0), rfl, bel.frame _, fun h => by cases h⟩

theorem k0 : (Rows.fnExactTimersOKRow.wf (OpenSpec.ofChange Rows.fnExactTimersOKSpec)) = true := by kernel_rfl
set_option maxRecDepth 100000 in
theorem k3 : (Try.f6.params.all (Try.prog.readableRec ·)) = true := by kernel_rfl
set_option maxRecDepth 100000 in
theorem k4 : (namedTie Try.prog Rows.fnExactTimersOKRow.named Rows.fnExactTimersOKSpec.vars) = true := by kernel_rfl
theorem k5 : ((Rows.fnExactTimersOKRow.stops == [])) = true := by kernel_rfl
set_option maxRecDepth 100000 in
theorem k6 : ((Try.prog.stops == [])) = true := by kernel_rfl
theorem k7 : ((Rows.fnExactTimersOKRow.knobs == [])) = true := by kernel_rfl
set_option maxRecDepth 100000 in
theorem k8 : ((Try.prog.stopKnobs == [])) = true := by kernel_rfl
set_option maxRecDepth 100000 in
theorem k9 : ((Rows.fnExactTimersOKRow.inPlace == Try.prog.inPlace 6)) = true := by kernel_rfl
set_option maxRecDepth 100000 in
theorem k10 : ((Rows.fnExactTimersOKRow.unfollowed == Try.prog.unfollowed 6)) = true := by kernel_rfl
set_option maxRecDepth 100000 in
theorem k11 : ((Rows.fnExactTimersOKRow.recurses == Try.prog.recurses 6)) = true := by kernel_rfl
set_option maxRecDepth 100000 in
theorem k12 : ((Rows.fnExactTimersOKRow.named == Try.prog.varsNamed 6)) = true := by kernel_rfl
set_option maxRecDepth 100000 in
theorem k13 : ((Rows.fnExactTimersOKRow.maps == (Try.f6.params.toList ++ Rows.fnExactTimersOKSpec.plain.varTypes Try.prog).any (Try.prog.mapsRec ·))) = true := by kernel_rfl
set_option maxRecDepth 100000 in
theorem k14 : ((Rows.fnExactTimersOKRow.ifaces == (Try.f6.params.toList ++ Rows.fnExactTimersOKSpec.plain.varTypes Try.prog).any (Try.prog.ifacesRec ·))) = true := by kernel_rfl
set_option maxRecDepth 100000 in
theorem k15 : ((Rows.fnExactTimersOKRow.mapsOut == Try.prog.mapsAmong Try.f6.resultTypes.toList)) = true := by kernel_rfl
set_option maxRecDepth 100000 in
theorem k16 : ((Rows.fnExactTimersOKRow.loops == (Try.f6.params.toList ++ Rows.fnExactTimersOKSpec.plain.varTypes Try.prog).any (Try.prog.loopsFrom ·))) = true := by kernel_rfl
set_option maxRecDepth 100000 in
theorem k17 : ((Rows.fnExactTimersOKRow.wideKeys == (Try.f6.params.toList ++ Rows.fnExactTimersOKSpec.plain.varTypes Try.prog ++ Try.f6.resultTypes.toList).any (Try.prog.wideKeysFrom ·))) = true := by kernel_rfl
set_option maxRecDepth 100000 in
theorem k18 : (Rows.fnExactTimersOKSpec.vars.all (Try.prog.varReadable ·)) = true := by kernel_rfl
set_option maxRecDepth 100000 in
theorem k19 : (Try.f6.resultTypes.all (fun t => Try.prog.readableRec t && decide (t < Try.prog.types.size))) = true := by kernel_rfl
set_option maxRecDepth 100000 in
theorem k20 : ((Rows.fnExactTimersOKRow.ifacesOut == Try.f6.resultTypes.toList.any (Try.prog.ifacesRec ·))) = true := by kernel_rfl
set_option maxRecDepth 100000 in
theorem k21 : ((Rows.fnExactTimersOKRow.loopsOut == Try.f6.resultTypes.toList.any (Try.prog.loopsFrom ·))) = true := by kernel_rfl
set_option maxRecDepth 100000 in
theorem k22 : ((Rows.fnExactTimersOKRow.plainKeys == Try.prog.plainKeys)) = true := by kernel_rfl
theorem k23 : (Rows.fnExactTimersOKRow.shortTexts.isNone) = true := by kernel_rfl
set_option maxRecDepth 100000 in
theorem k28 : ((Rows.fnExactTimersOKRow.kinds == (if Rows.fnExactTimersOKRow.domain.isEmpty then [] else Try.f6.params.toList.map fun t => match Try.prog.underlying t with | some (.int k) => some k | _ => none))) = true := by kernel_rfl
theorem k29 : ((Rows.fnExactTimersOKRow.pinned == Rows.fnExactTimersOKRow.pinnedBy)) = true := by kernel_rfl
set_option maxRecDepth 100000 in
theorem k30 : ((Rows.fnExactTimersOKRow.veiled == (Try.f6.params.toList ++ Rows.fnExactTimersOKSpec.plain.varTypes Try.prog ++ Try.f6.resultTypes.toList).any (Try.prog.veiledRec ·))) = true := by kernel_rfl
set_option maxRecDepth 100000 in
theorem k31 : (Rows.fnExactTimersOKRow.veiledFits Try.prog Try.f6.params.toList (Try.f6.params.toList ++ Rows.fnExactTimersOKSpec.plain.varTypes Try.prog ++ Try.f6.resultTypes.toList)) = true := by kernel_rfl
set_option maxRecDepth 100000 in
theorem facts : joinedFacts Try.prog 6 Try.f6 Rows.fnExactTimersOKSpec Rows.fnExactTimersOKRow = true := (and_mk (and_mk (and_mk (and_mk (and_mk (and_mk (and_mk (and_mk (and_mk (and_mk (and_mk (and_mk (and_mk (and_mk (and_mk (and_mk (and_mk (and_mk (and_mk (and_mk (and_mk (and_mk (and_mk (and_mk (and_mk (and_mk (and_mk (and_mk (and_mk (and_mk (and_mk k0 factLaid) factRowed) k3) k4) k5) k6) k7) k8) k9) k10) k11) k12) k13) k14) k15) k16) k17) k18) k19) k20) k21) k22) k23) factHeard) factEnter) factLift) factMake) k28) k29) k30) k31)
set_option maxRecDepth 100000 in
theorem named : Try.prog.funcNamed Rows.fnExactTimersOKRow.func = some 6 := by kernel_rfl
set_option maxRecDepth 100000 in
theorem inst : Try.f6.isInstance Try.prog Rows.fnExactTimersOKRow.origin Rows.fnExactTimersOKRow.targs := of_decide_eq_true (by kernel_rfl)
set_option maxRecDepth 100000 in
theorem over : Rows.fnExactTimersOKRow.holds Try.pinned (OpenSpec.ofChange Rows.fnExactTimersOKSpec) :=
  OpenClaim.holds_of_wide 6 Try.f6 rfl rfl rfl rfl rfl rfl rfl ⟨rfl, rfl, rfl, rfl, rfl⟩ rfl rfl rfl rfl rfl named Try.func6 facts
    inst (by unfold Func.isWrapper; first | (rw [if_pos (by decide +kernel)]; kernel_rfl) | (rw [if_neg (by decide +kernel)]; exact ⟨rfl, rfl⟩))
    (fun os started H enc _ => lifted os started H enc)
theorem proved : Rows.FnExactTimersOKSaid := over
#print axioms proved
end Go.Proofs.Ytagdclbpgkilgaa.fnExactTimersOK
