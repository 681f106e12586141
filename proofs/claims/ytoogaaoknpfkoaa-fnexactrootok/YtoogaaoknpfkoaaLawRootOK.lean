/- For every root (of any size), laws.FnExactRootOK returns true: impl.RootOK answers as the model spec.RootOK and leaves its argument alone. No condition. -/
import Derived.Test.YtoogaaoknpfkoaaRootSpec
import Derived.Test.YtoogaaoknpfkoaaOpenRoot
import Derived.Test.YtoogaaoknpfkoaaFactA
import Derived.Test.YtoogaaoknpfkoaaFactB
import Derived.Test.YtoogaaoknpfkoaaFactC
import Derived.Test.YtoogaaoknpfkoaaFactD
import Derived.Deep.RegionHeld3
import Derived.ProofKit
import Derived.OpenShut
import Derived.ShutString
import Derived.ChangeOld
namespace Go.Proofs.Ytoogaaoknpfkoaa.fnExactRootOK
open Go.RowKit

set_option maxRecDepth 100000 in
set_option maxHeartbeats 4000000 in
theorem walk (g : Int) (A : Option Addr) (n c : Nat) (zs : List Int) (w : World) (hl : zs.length = n) (hn : n ≤ maxLen) (h : IntL w A zs) (_wg : (Lit.int .i64 g).wf = true) :
    Calls Try.prog 6 #[.agg #[.int .i64 g, .slice A n c]] w fun e w' => e = .returned (.bool true) ∧ Below w.heap.size w w' := by
  have HSz := Lib.hid (fun W => szRoot g A n c 1048576 W hn (by omega) (by omega))
  have HTo := Lib.hid (fun W (hb : Below w.heap.size w W) (h1 : n ≤ 1048576) => toRoot g A n c zs W hl h1 (h.below hb))
  have HL := Lib.hid hl
  clear hl hn h _wg
  have hb0 := alloc_below w (.cells #[.int .i64 g, .slice A n c] 54)
  have X0 := Box.new w 54 #[.int .i64 g, .slice A n c]
  go_enter Try.func6, Try.ntmps6
  go_wp2_with fail
  refine (HSz.out _).mono ?_
  rintro e w1 ⟨hres, hb1⟩
  have X1 := X0.step hb1
  have hb1' := bt hb0 hb1
  clear hb0 X0 HSz hb1
  rcases hres with rfl | ⟨rfl, hle⟩
  · go_wp2
    go_ret
    exact ⟨rfl, hb1'⟩
  have hp : ¬ (1048576 : Int) - (n : Int) < 0 := by omega
  have hn' : n ≤ 1048576 := by omega
  have f0 := X1.cell 0 rfl
  have f1 := X1.cell 1 rfl
  have HX1 := Lib.hid X1
  clear X1
  go_wp2_with fail
  refine (HTo.out _ hb1' hn').mono ?_
  rintro e w2 ⟨A2, n2, c2, rfl, L2, S2, hc2, hb2⟩
  have hb2' := bt hb1' hb2
  have HX2 := Lib.hid (HX1.out.step hb2)
  have hn2 : n2 ≤ maxLen := by have := L2.out; have := HL.out; unfold maxLen; omega
  clear f0 f1 HX1 hb1' hb2
  go_wp2_with fail
  refine (specRootOK g A2 n2 c2 zs w2 L2.out hn2 hc2 S2.out.reads).mono ?_
  rintro e w3 ⟨rfl, hb3⟩
  have hb3' := bt hb2' hb3
  have HX3 := Lib.hid (HX2.out.step hb3)
  have f0 := HX3.out.cell 0 rfl
  have f1 := HX3.out.cell 1 rfl
  clear HX2 hb3 hb2' L2 S2 hn2 hc2
  go_wp2_with fail
  refine (HTo.out _ hb3' hn').mono ?_
  rintro e w4 ⟨A4, n4, c4, rfl, L4, S4, hc4, hb4⟩
  have hb4' := bt hb3' hb4
  have HX4 := Lib.hid (HX3.out.step hb4)
  have hn4 : n4 ≤ maxLen := by have := L4.out; have := HL.out; unfold maxLen; omega
  have hba := alloc_below w4 (.cells #[.int .i64 g, .slice A4 n4 c4] 57)
  have HX5 := Lib.hid (HX4.out.step hba)
  have HZ5 := Lib.hid (Box.new w4 57 #[.int .i64 g, .slice A4 n4 c4])
  have HS5 := Lib.hid (S4.out.below hba)
  have hb5' := bt hb4' hba
  clear f0 f1 HX3 hb3' hb4 HX4 S4 hba
  go_wp2_with fail
  generalize w4.alloc (.cells #[.int .i64 g, .slice A4 n4 c4] 57) = w5 at HX5 HZ5 HS5 hb5' ⊢
  refine (implRootOK g A4 n4 c4 zs w5 L4.out hn4 HS5.out.reads).mono ?_
  rintro e w6 ⟨rfl, hb6⟩
  have hb6' := bt hb5' hb6
  have X6 := HX5.out.step hb6
  have Z6 := HZ5.out.step hb6
  have HS6 := Lib.hid (HS5.out.below hb6)
  clear HX5 HZ5 HS5 hb5' hb6 hb4'
  have f0 : w6.cell? ⟨w.heap.size, 0, none⟩ = some (.int .i64 g) := X6.cell 0 rfl
  have f1 : w6.cell? ⟨w.heap.size, 1, none⟩ = some (.slice A n c) := X6.cell 1 rfl
  have f2 : w6.cell? ⟨w4.heap.size, 0, none⟩ = some (.int .i64 g) := Z6.cell 0 rfl
  have f3 : w6.cell? ⟨w4.heap.size, 1, none⟩ = some (.slice A4 n4 c4) := Z6.cell 1 rfl
  have HK := Lib.hid (fun W' (hb : Below w6.heap.size w6 W') => And.intro ((hb.cell (cell_lt f0)).trans f0) (And.intro ((hb.cell (cell_lt f1)).trans f1) (And.intro ((hb.cell (cell_lt f2)).trans f2) ((hb.cell (cell_lt f3)).trans f3))))
  clear X6 Z6
  generalize rootB g zs = ob
  have hob : (ob != ob) = false := by simp
  have h6 : Below w6.heap.size w6 w6.drew := (Below.refl _ _).drew
  go_wp2
  go_region_held3 (fun W => W.cell? ⟨w.heap.size, 0, none⟩ = some (.int .i64 g) ∧ W.cell? ⟨w.heap.size, 1, none⟩ = some (.slice A n c) ∧ W.cell? ⟨w4.heap.size, 0, none⟩ = some (.int .i64 g) ∧ W.cell? ⟨w4.heap.size, 1, none⟩ = some (.slice A4 n4 c4))
    (first | exact HK.out _ h6 | exact HK.out _ (bt h6 hb7) | exact HK.out _ (bt (bt h6 hb7) hb8))
    (first | (go_at_call 44; refine (HTo.out _ hb6'.drew hn').mono ?_; rintro e w7 ⟨A7, n7, c7, rfl, L7, S7, hc7, hb7⟩) | (go_at_call 46; refine (eqRootSame g A4 A7 n4 n7 c4 c7 zs w7 L4.out L7.out hn4 (HS6.out.below (bt h6 hb7)).reads S7.out.reads).mono ?_; rintro e w8 ⟨rfl, hb8⟩))
  go_wp2
  go_ret
  exact ⟨rfl, bt hb6' (bt (bt h6 hb7) hb8)⟩

/-! The row's step. -/
open Go.ChangeShapes Go.WideShapes Go.ChangeAt
open Go.ChangeMaps (open_string shut_string)
set_option maxRecDepth 100000 in
theorem own : ownKnob Try.prog.godebug = none := by kernel_rfl
set_option maxRecDepth 100000 in
theorem laidOut : laidOutB Try.prog = true := factLaid
set_option maxRecDepth 100000 in
theorem lifted (os : Os) (started : os.Started) (H : Type) (enc : TypeId × Value → H) :
    ReturnsInHanded {} Try.checked os 6 .any (Rows.fnExactRootOKSpec.pre6 enc Try.prog Try.f6 Rows.fnExactRootOKRow.domain false) (Rows.fnExactRootOKSpec.post enc Try.prog Try.f6 false true false false) := by
  refine returnsInHanded_of_change (C := Try.checked) own started (by kernel_rfl) Try.func6
    (ChangeSpec.witness6 (enc := enc) (C := Try.checked) false ⟨#[], #[.agg #[.int .i64 0, .slice none 0 0]], []⟩ 8 (by kernel_rfl) (by kernel_rfl) (by kernel_rfl) (by kernel_rfl)) ?_
  intro W base args ds gs before hval0 hW hcnd _
  have hval : ∀ (j : Nat) t v, Try.f6.params[j]? = some t → args[j]? = some v → Value.okWide Try.prog W .any base t v := hval0
  have hW' := hW
  obtain ⟨p, q, hA0, hV, rfl, hfz, hnd⟩ := hW
  have hA : DataW.TrodAll enc Try.prog W 0 (fun _ => true) true Try.f6.params.toList args.toList ds p := hA0
  rw [Try.params6] at hA hval
  obtain ⟨v0, vs0, d0, ds0, p0, q0, hargs, rfl, rfl, h0, r0⟩ := trodAll_cons hA
  obtain ⟨rfl, rfl, rfl⟩ := trodAll_nil r0
  obtain rfl : args = #[v0] := by cases args; simp_all
  obtain ⟨rfl, rfl⟩ := trodVars_none hV
  have k0 := h0
  have lt0 : ∀ x ∈ p0, x.block < W.heap.size := by obtain ⟨m, hm⟩ := k0; exact DataW.trod_lt m _ _ _ hm
  obtain ⟨g0, A0, n0, c0, zs0, rfl, hl0, hn0, hs0, wg0⟩ := open_root (hval 0 54 v0 rfl rfl) h0
  clear hA0 hval0
  refine (walk g0 A0 n0 c0 zs0 W hl0 hn0 hs0 wg0).mono fun e W' ⟨he, bel⟩ => ?_
  subst he
  exact ⟨_, rfl, _, _, _, [], _, [], hW', trodAll_mk1 (shut_bool Try.underlying4 _), (trodAll_cons_mk (Below.trod laidOut (by kernel_rfl) (of_decide_eq_true (by kernel_rfl)) k0 bel lt0) trodAll_mk0), rfl, bel.frame _, fun h => by cases h⟩

theorem k0 : (Rows.fnExactRootOKRow.wf (OpenSpec.ofChange Rows.fnExactRootOKSpec)) = true := by kernel_rfl
set_option maxRecDepth 100000 in
theorem k3 : (Try.f6.params.all (Try.prog.readableRec ·)) = true := by kernel_rfl
set_option maxRecDepth 100000 in
theorem k4 : (namedTie Try.prog Rows.fnExactRootOKRow.named Rows.fnExactRootOKSpec.vars) = true := by kernel_rfl
theorem k5 : ((Rows.fnExactRootOKRow.stops == [])) = true := by kernel_rfl
set_option maxRecDepth 100000 in
theorem k6 : ((Try.prog.stops == [])) = true := by kernel_rfl
theorem k7 : ((Rows.fnExactRootOKRow.knobs == [])) = true := by kernel_rfl
set_option maxRecDepth 100000 in
theorem k8 : ((Try.prog.stopKnobs == [])) = true := by kernel_rfl
set_option maxRecDepth 100000 in
theorem k9 : ((Rows.fnExactRootOKRow.inPlace == Try.prog.inPlace 6)) = true := by kernel_rfl
set_option maxRecDepth 100000 in
theorem k10 : ((Rows.fnExactRootOKRow.unfollowed == Try.prog.unfollowed 6)) = true := by kernel_rfl
set_option maxRecDepth 100000 in
theorem k11 : ((Rows.fnExactRootOKRow.recurses == Try.prog.recurses 6)) = true := by kernel_rfl
set_option maxRecDepth 100000 in
theorem k12 : ((Rows.fnExactRootOKRow.named == Try.prog.varsNamed 6)) = true := by kernel_rfl
set_option maxRecDepth 100000 in
theorem k13 : ((Rows.fnExactRootOKRow.maps == (Try.f6.params.toList ++ Rows.fnExactRootOKSpec.plain.varTypes Try.prog).any (Try.prog.mapsRec ·))) = true := by kernel_rfl
set_option maxRecDepth 100000 in
theorem k14 : ((Rows.fnExactRootOKRow.ifaces == (Try.f6.params.toList ++ Rows.fnExactRootOKSpec.plain.varTypes Try.prog).any (Try.prog.ifacesRec ·))) = true := by kernel_rfl
set_option maxRecDepth 100000 in
theorem k15 : ((Rows.fnExactRootOKRow.mapsOut == Try.prog.mapsAmong Try.f6.resultTypes.toList)) = true := by kernel_rfl
set_option maxRecDepth 100000 in
theorem k16 : ((Rows.fnExactRootOKRow.loops == (Try.f6.params.toList ++ Rows.fnExactRootOKSpec.plain.varTypes Try.prog).any (Try.prog.loopsFrom ·))) = true := by kernel_rfl
set_option maxRecDepth 100000 in
theorem k17 : ((Rows.fnExactRootOKRow.wideKeys == (Try.f6.params.toList ++ Rows.fnExactRootOKSpec.plain.varTypes Try.prog ++ Try.f6.resultTypes.toList).any (Try.prog.wideKeysFrom ·))) = true := by kernel_rfl
set_option maxRecDepth 100000 in
theorem k18 : (Rows.fnExactRootOKSpec.vars.all (Try.prog.varReadable ·)) = true := by kernel_rfl
set_option maxRecDepth 100000 in
theorem k19 : (Try.f6.resultTypes.all (fun t => Try.prog.readableRec t && decide (t < Try.prog.types.size))) = true := by kernel_rfl
set_option maxRecDepth 100000 in
theorem k20 : ((Rows.fnExactRootOKRow.ifacesOut == Try.f6.resultTypes.toList.any (Try.prog.ifacesRec ·))) = true := by kernel_rfl
set_option maxRecDepth 100000 in
theorem k21 : ((Rows.fnExactRootOKRow.loopsOut == Try.f6.resultTypes.toList.any (Try.prog.loopsFrom ·))) = true := by kernel_rfl
set_option maxRecDepth 100000 in
theorem k22 : ((Rows.fnExactRootOKRow.plainKeys == Try.prog.plainKeys)) = true := by kernel_rfl
theorem k23 : (Rows.fnExactRootOKRow.shortTexts.isNone) = true := by kernel_rfl
set_option maxRecDepth 100000 in
theorem k28 : ((Rows.fnExactRootOKRow.kinds == (if Rows.fnExactRootOKRow.domain.isEmpty then [] else Try.f6.params.toList.map fun t => match Try.prog.underlying t with | some (.int k) => some k | _ => none))) = true := by kernel_rfl
theorem k29 : ((Rows.fnExactRootOKRow.pinned == Rows.fnExactRootOKRow.pinnedBy)) = true := by kernel_rfl
set_option maxRecDepth 100000 in
theorem k30 : ((Rows.fnExactRootOKRow.veiled == (Try.f6.params.toList ++ Rows.fnExactRootOKSpec.plain.varTypes Try.prog ++ Try.f6.resultTypes.toList).any (Try.prog.veiledRec ·))) = true := by kernel_rfl
set_option maxRecDepth 100000 in
theorem k31 : (Rows.fnExactRootOKRow.veiledFits Try.prog Try.f6.params.toList (Try.f6.params.toList ++ Rows.fnExactRootOKSpec.plain.varTypes Try.prog ++ Try.f6.resultTypes.toList)) = true := by kernel_rfl
set_option maxRecDepth 100000 in
theorem facts : joinedFacts Try.prog 6 Try.f6 Rows.fnExactRootOKSpec Rows.fnExactRootOKRow = true := (and_mk (and_mk (and_mk (and_mk (and_mk (and_mk (and_mk (and_mk (and_mk (and_mk (and_mk (and_mk (and_mk (and_mk (and_mk (and_mk (and_mk (and_mk (and_mk (and_mk (and_mk (and_mk (and_mk (and_mk (and_mk (and_mk (and_mk (and_mk (and_mk (and_mk (and_mk k0 factLaid) factRowed) k3) k4) k5) k6) k7) k8) k9) k10) k11) k12) k13) k14) k15) k16) k17) k18) k19) k20) k21) k22) k23) factHeard) factEnter) factLift) factMake) k28) k29) k30) k31)
set_option maxRecDepth 100000 in
theorem named : Try.prog.funcNamed Rows.fnExactRootOKRow.func = some 6 := by kernel_rfl
set_option maxRecDepth 100000 in
theorem inst : Try.f6.isInstance Try.prog Rows.fnExactRootOKRow.origin Rows.fnExactRootOKRow.targs := of_decide_eq_true (by kernel_rfl)
set_option maxRecDepth 100000 in
theorem over : Rows.fnExactRootOKRow.holds Try.pinned (OpenSpec.ofChange Rows.fnExactRootOKSpec) :=
  OpenClaim.holds_of_wide 6 Try.f6 rfl rfl rfl rfl rfl rfl rfl ⟨rfl, rfl, rfl, rfl, rfl⟩ rfl rfl rfl rfl rfl named Try.func6 facts
    inst (by unfold Func.isWrapper; first | (rw [if_pos (by decide +kernel)]; kernel_rfl) | (rw [if_neg (by decide +kernel)]; exact ⟨rfl, rfl⟩))
    (fun os started H enc _ => lifted os started H enc)
theorem proved : Rows.FnExactRootOKSaid := over
#print axioms proved
end Go.Proofs.Ytoogaaoknpfkoaa.fnExactRootOK
