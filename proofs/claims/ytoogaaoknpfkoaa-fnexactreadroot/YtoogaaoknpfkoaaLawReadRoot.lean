/- For every text (of any size), laws.FnExactReadRoot returns true: impl.ReadRoot answers as the model spec.ReadRoot, every field, and its result is memory of its own. No condition. -/
import Derived.Test.YtoogaaoknpfkoaaReadSpec
import Derived.Test.YtoogaaoknpfkoaaOpen
import Derived.Test.YtoogaaoknpfkoaaFactA
import Derived.Test.YtoogaaoknpfkoaaFactB
import Derived.Test.YtoogaaoknpfkoaaFactC
import Derived.Test.YtoogaaoknpfkoaaFactD
import Derived.ProofKit
import Derived.OpenShut
import Derived.ShutString
import Derived.ChangeOld
namespace Go.Proofs.Ytoogaaoknpfkoaa.fnExactReadRoot
open Go.RowKit

theorem rdZ_len (t : ByteArray) : (rdZ t).length ≤ 17 := by
  unfold rdZ
  split
  · simp
  · split
    · rw [tabT_len]; omega
    · simp

set_option maxRecDepth 100000 in
set_option maxHeartbeats 4000000 in
theorem walk (t : ByteArray) (w : World) (ht : t.size ≤ maxLen) :
    Calls Try.prog 8 #[.string t] w fun e w' => e = .returned (.bool true) ∧ Below w.heap.size w w' := by
  by_cases hbig : (1048576 : Int) < (t.size : Int)
  · clear ht
    go_enter Try.func8, Try.ntmps8
    go_wp2
    go_ret
    exact ⟨rfl, Below.refl _ _⟩
  have HSp := Lib.hid (fun W => specReadRoot t W ht)
  have HIm := Lib.hid (fun W => implReadRoot t W ht)
  have HLz := Lib.hid (rdZ_len t)
  generalize rdG t = g at HSp HIm
  generalize rdC t = code at HSp HIm
  generalize rdZ t = zs at HSp HIm HLz
  have hob : (code != code) = false := by simp
  unfold maxLen at ht
  go_enter Try.func8, Try.ntmps8
  go_wp2_with fail
  refine (HSp.out _).mono ?_
  rintro e w1 ⟨A1, n1, c1, rfl, L1, S1, hb1⟩
  have H0 := Lib.hid hb1
  have D1 := Lib.hid (BR.new (g := g) (n := n1) (c := c1) S1.out)
  have H1 := Lib.hid (bt H0.out (alloc_below w1 (.cells #[.int .i64 g, .slice A1 n1 c1] 57)))
  have Z0 : Hid (w.heap.size ≤ w1.heap.size) := Lib.hid hb1.size
  have Z1 : Hid (w1.heap.size < (w1.alloc (.cells #[.int .i64 g, .slice A1 n1 c1] 57)).heap.size) := Lib.hid D1.out.box.lt
  clear hb1 H0 S1 HSp
  go_wp2_with fail
  generalize w1.alloc (.cells #[.int .i64 g, .slice A1 n1 c1] 57) = w2 at D1 H1 Z1 ⊢
  refine (HIm.out _).mono ?_
  rintro e w3 ⟨A3, n3, c3, rfl, L3, S3, hb3⟩
  have D2 := Lib.hid (D1.out.step hb3)
  have H2 := Lib.hid (bt H1.out hb3)
  have Q2 : Hid (w2.heap.size ≤ w3.heap.size) := Lib.hid hb3.size
  have G3 := Lib.hid (BR.new (g := g) (n := n3) (c := c3) S3.out)
  have D3 := Lib.hid (D2.out.step (alloc_below w3 (.cells #[.int .i64 g, .slice A3 n3 c3] 57)))
  have H3 := Lib.hid (bt H2.out (alloc_below w3 (.cells #[.int .i64 g, .slice A3 n3 c3] 57)))
  have BL : Hid (n1 ≤ 17 ∧ n3 ≤ 17) := Lib.hid (by have := L1.out; have := L3.out; have := HLz.out; omega)
  obtain ⟨w4, hw4⟩ : ∃ w4, w4 = w3.alloc (.cells #[.int .i64 g, .slice A3 n3 c3] 57) := ⟨_, rfl⟩
  rw [← hw4] at G3 D3 H3
  have HW4 := Lib.hid hw4
  have f0 := D3.out.f0
  have f1 := D3.out.f1
  rw [hw4] at f0 f1
  clear hb3 S3 D1 D2 H1 H2 hw4
  go_wp2_with fail
  rw [← HW4.out]
  clear f0 f1 HW4
  refine (eqRootSame g A3 A1 n3 n1 c3 c1 zs w4 L3.out L1.out (by have := BL.out; unfold maxLen; omega) G3.out.s.reads D3.out.s.reads).mono ?_
  rintro e w5 ⟨rfl, hb5⟩
  have D5 := Lib.hid (D3.out.step hb5)
  have G5 := Lib.hid (G3.out.step hb5)
  have H5 := Lib.hid (bt H3.out hb5)
  clear hb5 D3 G3 H3
  have f0 := G5.out.f0
  have f1 := G5.out.f1
  go_wp2_with fail
  refine (markRoot g A3 n3 c3 w2.heap.size w3.heap.size zs w5 L3.out (by have := BL.out; omega) G5.out.s).mono ?_
  rintro e w6 ⟨rfl, T6, hb6⟩
  have HLo : Hid (w.heap.size ≤ w2.heap.size ∧ w2.heap.size ≤ w5.heap.size) := Lib.hid (by have := Z0.out; have := Z1.out; have := Q2.out; have := G5.out.box.lt; omega)
  have D6 := Lib.hid (D5.out.btw hb6 (.inl Z1.out) (.inl (by have := Z1.out; omega)))
  have GB := Lib.hid (G5.out.box.btw hb6 (.inr (Nat.le_refl _)))
  have H6 := Lib.hid (H5.out.trans ((hb6.below HLo.out.2).mono HLo.out.1))
  clear D5 G5 H5 hb6 f0 f1 HLo
  generalize hq : 1 + n3 = q
  have HQ := Lib.hid hq
  clear hq
  have hq0 : ¬ (q : Int) < 0 := by omega
  have hqq : ((q : Int) != (q : Int)) = false := by simp
  have f0 := GB.out.cell 0 rfl
  have f1 := GB.out.cell 1 rfl
  go_wp2_with fail
  refine (heldRoot g A3 n3 c3 w6 (by have := BL.out; omega) T6.out.reads).mono ?_
  rintro e w7 ⟨rfl, hb7⟩
  rw [HQ.out]
  have D7 := Lib.hid (D6.out.step hb7)
  have GB7 := Lib.hid (GB.out.step hb7)
  have T7 := Lib.hid (T6.out.below hb7)
  have H7 := Lib.hid (bt H6.out hb7)
  clear D6 GB T6 H6 hb7 f0 f1
  go_wp2_with fail
  refine (HIm.out _).mono ?_
  rintro e w8 ⟨A8, n8, c8, rfl, L8, S8, hb8⟩
  have hb8' := bt hb8 (alloc_below w8 (.cells #[.int .i64 g, .slice A8 n8 c8] 57))
  have G9 := Lib.hid (BR.new (g := g) (n := n8) (c := c8) S8.out)
  have D9 := Lib.hid (D7.out.step hb8')
  have GB9 := Lib.hid (GB7.out.step hb8')
  have T9 := Lib.hid (T7.out.below hb8')
  have H9 := Lib.hid (bt H7.out hb8')
  have BL8 : Hid (n8 ≤ 17) := Lib.hid (by have := L8.out; have := HLz.out; omega)
  obtain ⟨w9, hw9⟩ : ∃ w9, w9 = w8.alloc (.cells #[.int .i64 g, .slice A8 n8 c8] 57) := ⟨_, rfl⟩
  rw [← hw9] at G9 D9 GB9 T9 H9
  have HW9 := Lib.hid hw9
  have f0 := D9.out.f0
  have f1 := D9.out.f1
  rw [hw9] at f0 f1
  clear hb8 hb8' S8 D7 GB7 T7 H7 hw9
  go_wp2_with fail
  rw [← HW9.out]
  clear f0 f1 HW9
  refine (eqRootSame g A8 A1 n8 n1 c8 c1 zs w9 L8.out L1.out (by have := BL8.out; unfold maxLen; omega) G9.out.s.reads D9.out.s.reads).mono ?_
  rintro e w10 ⟨rfl, hb10⟩
  have GB10 := Lib.hid (GB9.out.step hb10)
  have T10 := Lib.hid (T9.out.below hb10)
  have H10 := Lib.hid (bt H9.out hb10)
  clear hb10 D9 G9 GB9 T9 H9
  have f0 := GB10.out.cell 0 rfl
  have f1 := GB10.out.cell 1 rfl
  go_wp2_with fail
  refine (heldRoot g A3 n3 c3 w10 (by have := BL.out; omega) T10.out.reads).mono ?_
  rintro e w11 ⟨rfl, hb11⟩
  rw [HQ.out]
  go_wp2
  go_ret
  exact ⟨rfl, bt H10.out hb11⟩


/-! The row's step. -/
open Go.ChangeShapes Go.WideShapes Go.ChangeAt
open Go.ChangeMaps (open_string shut_string)
set_option maxRecDepth 100000 in
theorem own : ownKnob Try.prog.godebug = none := by kernel_rfl
set_option maxRecDepth 100000 in
theorem laidOut : laidOutB Try.prog = true := factLaid
set_option maxRecDepth 100000 in
theorem lifted (os : Os) (started : os.Started) (H : Type) (enc : TypeId × Value → H) :
    ReturnsInHanded {} Try.checked os 8 .any (Rows.fnExactReadRootSpec.pre6 enc Try.prog Try.f8 Rows.fnExactReadRootRow.domain false) (Rows.fnExactReadRootSpec.post enc Try.prog Try.f8 false true false false) := by
  refine returnsInHanded_of_change (C := Try.checked) own started (by kernel_rfl) Try.func8
    (ChangeSpec.witness6 (enc := enc) (C := Try.checked) false ⟨#[], #[.string ByteArray.empty], []⟩ 8 (by kernel_rfl) (by kernel_rfl) (by kernel_rfl) (by kernel_rfl)) ?_
  intro W base args ds gs before hval0 hW hcnd _
  have hval : ∀ (j : Nat) t v, Try.f8.params[j]? = some t → args[j]? = some v → Value.okWide Try.prog W .any base t v := hval0
  have hW' := hW
  obtain ⟨p, q, hA0, hV, rfl, hfz, hnd⟩ := hW
  have hA : DataW.TrodAll enc Try.prog W 0 (fun _ => true) true Try.f8.params.toList args.toList ds p := hA0
  rw [Try.params8] at hA hval
  obtain ⟨v0, vs0, d0, ds0, p0, q0, hargs, rfl, rfl, h0, r0⟩ := trodAll_cons hA
  obtain ⟨rfl, rfl, rfl⟩ := trodAll_nil r0
  obtain rfl : args = #[v0] := by cases args; simp_all
  obtain ⟨rfl, rfl⟩ := trodVars_none hV
  obtain ⟨a0, rfl, rfl, rfl, w0⟩ := open_string Try.underlying9 (hval 0 9 v0 rfl rfl) h0
  clear hA0 hval0
  refine (walk a0 W w0).mono fun e W' ⟨he, bel⟩ => ?_
  subst he
  exact ⟨_, rfl, _, _, _, [], _, [], hW', trodAll_mk1 (shut_bool Try.underlying4 _), (trodAll_cons_mk (shut_string Try.underlying9 w0) trodAll_mk0), rfl, bel.frame _, fun h => by cases h⟩

theorem k0 : (Rows.fnExactReadRootRow.wf (OpenSpec.ofChange Rows.fnExactReadRootSpec)) = true := by kernel_rfl
set_option maxRecDepth 100000 in
theorem k3 : (Try.f8.params.all (Try.prog.readableRec ·)) = true := by kernel_rfl
set_option maxRecDepth 100000 in
theorem k4 : (namedTie Try.prog Rows.fnExactReadRootRow.named Rows.fnExactReadRootSpec.vars) = true := by kernel_rfl
theorem k5 : ((Rows.fnExactReadRootRow.stops == [])) = true := by kernel_rfl
set_option maxRecDepth 100000 in
theorem k6 : ((Try.prog.stops == [])) = true := by kernel_rfl
theorem k7 : ((Rows.fnExactReadRootRow.knobs == [])) = true := by kernel_rfl
set_option maxRecDepth 100000 in
theorem k8 : ((Try.prog.stopKnobs == [])) = true := by kernel_rfl
set_option maxRecDepth 100000 in
theorem k9 : ((Rows.fnExactReadRootRow.inPlace == Try.prog.inPlace 8)) = true := by kernel_rfl
set_option maxRecDepth 100000 in
theorem k10 : ((Rows.fnExactReadRootRow.unfollowed == Try.prog.unfollowed 8)) = true := by kernel_rfl
set_option maxRecDepth 100000 in
theorem k11 : ((Rows.fnExactReadRootRow.recurses == Try.prog.recurses 8)) = true := by kernel_rfl
set_option maxRecDepth 100000 in
theorem k12 : ((Rows.fnExactReadRootRow.named == Try.prog.varsNamed 8)) = true := by kernel_rfl
set_option maxRecDepth 100000 in
theorem k13 : ((Rows.fnExactReadRootRow.maps == (Try.f8.params.toList ++ Rows.fnExactReadRootSpec.plain.varTypes Try.prog).any (Try.prog.mapsRec ·))) = true := by kernel_rfl
set_option maxRecDepth 100000 in
theorem k14 : ((Rows.fnExactReadRootRow.ifaces == (Try.f8.params.toList ++ Rows.fnExactReadRootSpec.plain.varTypes Try.prog).any (Try.prog.ifacesRec ·))) = true := by kernel_rfl
set_option maxRecDepth 100000 in
theorem k15 : ((Rows.fnExactReadRootRow.mapsOut == Try.prog.mapsAmong Try.f8.resultTypes.toList)) = true := by kernel_rfl
set_option maxRecDepth 100000 in
theorem k16 : ((Rows.fnExactReadRootRow.loops == (Try.f8.params.toList ++ Rows.fnExactReadRootSpec.plain.varTypes Try.prog).any (Try.prog.loopsFrom ·))) = true := by kernel_rfl
set_option maxRecDepth 100000 in
theorem k17 : ((Rows.fnExactReadRootRow.wideKeys == (Try.f8.params.toList ++ Rows.fnExactReadRootSpec.plain.varTypes Try.prog ++ Try.f8.resultTypes.toList).any (Try.prog.wideKeysFrom ·))) = true := by kernel_rfl
set_option maxRecDepth 100000 in
theorem k18 : (Rows.fnExactReadRootSpec.vars.all (Try.prog.varReadable ·)) = true := by kernel_rfl
set_option maxRecDepth 100000 in
theorem k19 : (Try.f8.resultTypes.all (fun t => Try.prog.readableRec t && decide (t < Try.prog.types.size))) = true := by kernel_rfl
set_option maxRecDepth 100000 in
theorem k20 : ((Rows.fnExactReadRootRow.ifacesOut == Try.f8.resultTypes.toList.any (Try.prog.ifacesRec ·))) = true := by kernel_rfl
set_option maxRecDepth 100000 in
theorem k21 : ((Rows.fnExactReadRootRow.loopsOut == Try.f8.resultTypes.toList.any (Try.prog.loopsFrom ·))) = true := by kernel_rfl
set_option maxRecDepth 100000 in
theorem k22 : ((Rows.fnExactReadRootRow.plainKeys == Try.prog.plainKeys)) = true := by kernel_rfl
theorem k23 : (Rows.fnExactReadRootRow.shortTexts.isNone) = true := by kernel_rfl
set_option maxRecDepth 100000 in
theorem k28 : ((Rows.fnExactReadRootRow.kinds == (if Rows.fnExactReadRootRow.domain.isEmpty then [] else Try.f8.params.toList.map fun t => match Try.prog.underlying t with | some (.int k) => some k | _ => none))) = true := by kernel_rfl
theorem k29 : ((Rows.fnExactReadRootRow.pinned == Rows.fnExactReadRootRow.pinnedBy)) = true := by kernel_rfl
set_option maxRecDepth 100000 in
theorem k30 : ((Rows.fnExactReadRootRow.veiled == (Try.f8.params.toList ++ Rows.fnExactReadRootSpec.plain.varTypes Try.prog ++ Try.f8.resultTypes.toList).any (Try.prog.veiledRec ·))) = true := by kernel_rfl
set_option maxRecDepth 100000 in
theorem k31 : (Rows.fnExactReadRootRow.veiledFits Try.prog Try.f8.params.toList (Try.f8.params.toList ++ Rows.fnExactReadRootSpec.plain.varTypes Try.prog ++ Try.f8.resultTypes.toList)) = true := by kernel_rfl
set_option maxRecDepth 100000 in
theorem facts : joinedFacts Try.prog 8 Try.f8 Rows.fnExactReadRootSpec Rows.fnExactReadRootRow = true := (and_mk (and_mk (and_mk (and_mk (and_mk (and_mk (and_mk (and_mk (and_mk (and_mk (and_mk (and_mk (and_mk (and_mk (and_mk (and_mk (and_mk (and_mk (and_mk (and_mk (and_mk (and_mk (and_mk (and_mk (and_mk (and_mk (and_mk (and_mk (and_mk (and_mk (and_mk k0 factLaid) factRowed) k3) k4) k5) k6) k7) k8) k9) k10) k11) k12) k13) k14) k15) k16) k17) k18) k19) k20) k21) k22) k23) factHeard) factEnter) factLift) factMake) k28) k29) k30) k31)
set_option maxRecDepth 100000 in
theorem named : Try.prog.funcNamed Rows.fnExactReadRootRow.func = some 8 := by kernel_rfl
set_option maxRecDepth 100000 in
theorem inst : Try.f8.isInstance Try.prog Rows.fnExactReadRootRow.origin Rows.fnExactReadRootRow.targs := of_decide_eq_true (by kernel_rfl)
set_option maxRecDepth 100000 in
theorem over : Rows.fnExactReadRootRow.holds Try.pinned (OpenSpec.ofChange Rows.fnExactReadRootSpec) :=
  OpenClaim.holds_of_wide 8 Try.f8 rfl rfl rfl rfl rfl rfl rfl ⟨rfl, rfl, rfl, rfl, rfl⟩ rfl rfl rfl rfl rfl named Try.func8 facts
    inst (by unfold Func.isWrapper; first | (rw [if_pos (by decide +kernel)]; kernel_rfl) | (rw [if_neg (by decide +kernel)]; exact ⟨rfl, rfl⟩))
    (fun os started H enc _ => lifted os started H enc)
theorem proved : Rows.FnExactReadRootSaid := over
#print axioms proved
end Go.Proofs.Ytoogaaoknpfkoaa.fnExactReadRoot
