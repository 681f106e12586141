/- For every int, laws.FnExactCyclesOf returns true: impl.CyclesOf answers as the model spec.CyclesOf, every field, leaves its arguments alone, and its result is memory of its own. Condition: the listed tables start as the program's text lays them (the card ties them to it). -/
import Derived.Test.YtoaeofahknknhaaDoorOpLen
import Derived.Test.YtoaeofahknknhaaDoorGenOpen
import Derived.Test.YtoaeofahknknhaaDoorLaid
import Derived.Test.YtoaeofahknknhaaDoorFactA
import Derived.Test.YtoaeofahknknhaaDoorFactB
import Derived.Test.YtoaeofahknknhaaDoorFactC
import Derived.Test.YtoaeofahknknhaaDoorFactD
import Derived.Deep.RegionHeld3
import Derived.ProofKit
import Derived.OpenShut
import Derived.ShutString
import Derived.ChangeOld
namespace Go.Proofs.YtoaeofahknknhaaDoor.fnExactCyclesOf
open Go.RowKit

set_option maxRecDepth 100000 in
set_option maxHeartbeats 16000000 in
theorem walk (a0d0 : Int) (w : World) (ht : OpsT w) :
    Calls Tryd.prog 7 #[.int .i64 a0d0] w fun e w' => e = .returned (.bool true) ∧ Below w.heap.size w w' := by
  have HT := Lib.hid ht
  clear ht
  have HSpec := Lib.hid (fun W => specCyclesOfA a0d0 W )
  have HImpl := Lib.hid (fun W (t : OpsT W) => implCyclesOfA a0d0 W  t)
  generalize (cycF a0d0).1 = r0d0 at HSpec HImpl
  generalize (cycF a0d0).2 = r1d0 at HSpec HImpl
  have qr0d0 : (r0d0 != r0d0) = false := by simp
  have qr1d0 : (r1d0 != r1d0) = false := by simp
  have H0 : Hid (Below w.heap.size w w) := Lib.hid (Below.refl _ _)
  go_enter Tryd.func7, Tryd.ntmps7
  go_wp2_with fail
  refine (HSpec.out w ).mono ?_
  rintro e w1 ⟨rfl, hc⟩
  have H2 := Lib.hid (bt H0.out hc)
  have Z3 : Hid (w.heap.size ≤ w1.heap.size) := Lib.hid hc.size
  clear H0 hc
  clear HSpec
  go_wp2_with fail
  refine (HImpl.out w1 (HT.out.below (H2.out))).mono ?_
  rintro e w4 ⟨rfl, hc⟩
  have H5 := Lib.hid (bt H2.out hc)
  have Z6 : Hid (w1.heap.size ≤ w4.heap.size) := Lib.hid hc.size
  clear H2 hc
  go_wp2
  go_ret
  exact ⟨rfl, H5.out⟩

/-! The row's step and the card. -/
open Go.ChangeShapes Go.WideShapes Go.ChangeAt
open Go.ChangeMaps (open_string shut_string)
set_option maxRecDepth 100000 in
theorem laidOut : laidOutB Tryd.prog = true := factLaid
set_option maxRecDepth 100000 in
theorem laid_met (os : Os) (args : Array Value) : laidMet Tryd.prog Rows.fnExactCyclesOfRow.laid ((laidWorld os).forCall (fun _ _ => 0) ⟨#[], args, []⟩).memory :=
  laidMet_of_run' 8 (by kernel_rfl) (by kernel_rfl)
set_option maxRecDepth 100000 in
theorem laid_of {W : World} (h : laidMetH Tryd.prog Rows.fnExactCyclesOfRow.laid W) : laidMet Tryd.prog Rows.fnExactCyclesOfRow.laid W := h
set_option maxRecDepth 100000 in
theorem ops_of {W : World} (h : laidMetH Tryd.prog Rows.fnExactCyclesOfRow.laid W) : W.var? Tryd.prog "loop.example/g00563/impl.operations" = some opCells :=
  var_of_reads (reads_of_laid (laid_of h) (by unfold Rows.fnExactCyclesOfRow; repeat (first | exact List.Mem.head _ | apply List.Mem.tail)))
set_option maxRecDepth 100000 in
theorem contract (H : Type) (enc : TypeId × Value → H) (W : World) (base : Nat) (args : Array Value) (ds gs : List (DataW H)) (before : List MemPlace)
    (hval0 : ∀ (j : Nat) t v, Tryd.f7.params[j]? = some t → args[j]? = some v → Value.okWide Tryd.prog W .any base t v)
    (hW : DataW.Whole enc Tryd.prog Tryd.f7.params.toList Rows.fnExactCyclesOfSpec.vars false W args.toList ds gs before) (hL : laidMetH Tryd.prog Rows.fnExactCyclesOfRow.laid W) :
    Calls Tryd.prog 7 args W fun e W' => ∃ v, e = .returned v ∧ Rows.fnExactCyclesOfSpec.post enc Tryd.prog Tryd.f7 false true false false W args v W' := by
  have hval : ∀ (j : Nat) t v, Tryd.f7.params[j]? = some t → args[j]? = some v → Value.okWide Tryd.prog W .any base t v := hval0
  have hW' := hW
  obtain ⟨p, q, hA0, hV0, rfl, hfz, hnd⟩ := hW
  have hA : DataW.TrodAll enc Tryd.prog W 0 (fun _ => true) true Tryd.f7.params.toList args.toList ds p := hA0
  have hV : DataW.TrodVars enc Tryd.prog W (fun _ => true) ["loop.example/g00563/impl.operations"] gs q := hV0
  rw [Tryd.params7] at hA hval
  obtain ⟨v0, vs0, d0, ds0, p0, q0, hargs, rfl, rfl, h0, r0⟩ := trodAll_cons hA
  obtain ⟨rfl, rfl, rfl⟩ := trodAll_nil r0
  obtain rfl : args = #[v0] := by cases args; simp_all
  obtain ⟨a0, rfl, rfl, rfl, w0⟩ := open_int Tryd.underlying3 (hval 0 3 v0 rfl rfl) h0
  obtain ⟨g, t, cs, fuel, d, p', rfl, hg, ht, hvar, hd, rfl⟩ := trodVars_one hV
  obtain rfl := Option.some.inj (gOps.symm.trans hg)
  obtain rfl := Option.some.inj (gOpsType.symm.trans ht)
  obtain rfl : cs = opCells := Option.some.inj (hvar.symm.trans (ops_of hL))
  obtain ⟨rfl, rfl⟩ := DataW.Trod.unique (v := .agg opCells) ⟨fuel, hd⟩ ⟨4, reads_ops enc W _⟩
  clear hA0 hV0 hval0
  have HT := opsT_of_var hvar
  refine (walk a0 W HT).mono fun e W' ⟨he, bel⟩ => ?_
  subst he
  exact ⟨_, rfl, _, _, _, [], _, _, hW', trodAll_mk1 (shut_bool Tryd.underlying4 _), (trodAll_cons_mk (shut_int Tryd.underlying3 w0) trodAll_mk0), ⟨0, 92, opCells, 4, [], [], hg, ht, var?_below bel hg HT.lt hvar, reads_ops enc W' _, rfl, rfl⟩, bel.frame _, fun h => by cases h⟩

set_option maxRecDepth 100000 in
theorem reads (os : Os) {H : Type} (enc : TypeId × Value → H) : ∃ x, DataW.whole enc Tryd.prog ((laidWorld os).forCall (fun _ _ => 0) ⟨#[], #[.int .i64 0], []⟩).memory Tryd.f7.params.toList Rows.fnExactCyclesOfSpec.vars false (#[.int .i64 0] : Array Value).toList 8 = some x :=
  Option.isSome_iff_exists.1 (by kernel_rfl)

set_option maxRecDepth 100000 in
theorem lifted (os : Os) (started : os.Started) (H : Type) (enc : TypeId × Value → H) (F : Stop.Interp) :
    ReturnsInHanded {} Tryd.checked os 7 .any ((OpenSpec.ofChange Rows.fnExactCyclesOfSpec).preRow enc Tryd.prog Tryd.f7 Rows.fnExactCyclesOfRow.domain false Rows.fnExactCyclesOfRow.laid) (((OpenSpec.ofChange Rows.fnExactCyclesOfSpec).at F).post enc Tryd.prog Tryd.f7 false true false false) := by
  obtain ⟨x, hx⟩ := reads os enc
  refine returnsInHanded_of_row (C := Tryd.checked) (s := OpenSpec.ofChange Rows.fnExactCyclesOfSpec) ownK started (by kernel_rfl) Tryd.func7
    (witness_row_at (enc := enc) (C := Tryd.checked) false (laidWorld os) #[.int .i64 0] rfl (by kernel_rfl) (by kernel_rfl) (by kernel_rfl)
      (OpenSpec.preRow_of_cond 8 hx rfl (fun k hk => by cases hk) (by kernel_rfl) (laid_met os _))) ?_
  intro W base args ds gs before hval hW _ _ _ hL _ _
  exact contract H enc W base args ds gs before hval hW hL

theorem k0 : (Rows.fnExactCyclesOfRow.wf (OpenSpec.ofChange Rows.fnExactCyclesOfSpec)) = true := by kernel_rfl
set_option maxRecDepth 100000 in
theorem k3 : (Tryd.f7.params.all (Tryd.prog.readableRec ·)) = true := by kernel_rfl
set_option maxRecDepth 100000 in
theorem k4 : (namedTie Tryd.prog Rows.fnExactCyclesOfRow.named Rows.fnExactCyclesOfSpec.vars) = true := by kernel_rfl
theorem k5 : ((Rows.fnExactCyclesOfRow.stops == [])) = true := by kernel_rfl
set_option maxRecDepth 100000 in
theorem k6 : ((Tryd.prog.stops == [])) = true := by kernel_rfl
theorem k7 : ((Rows.fnExactCyclesOfRow.knobs == [])) = true := by kernel_rfl
set_option maxRecDepth 100000 in
theorem k8 : ((Tryd.prog.stopKnobs == [])) = true := by kernel_rfl
set_option maxRecDepth 100000 in
theorem k9 : ((Rows.fnExactCyclesOfRow.inPlace == Tryd.prog.inPlace 7)) = true := by kernel_rfl
set_option maxRecDepth 100000 in
theorem k10 : ((Rows.fnExactCyclesOfRow.unfollowed == Tryd.prog.unfollowed 7)) = true := by kernel_rfl
set_option maxRecDepth 100000 in
theorem k11 : ((Rows.fnExactCyclesOfRow.recurses == Tryd.prog.recurses 7)) = true := by kernel_rfl
set_option maxRecDepth 100000 in
theorem k12 : ((Rows.fnExactCyclesOfRow.named == Tryd.prog.varsNamed 7)) = true := by kernel_rfl
set_option maxRecDepth 100000 in
theorem k13 : ((Rows.fnExactCyclesOfRow.maps == (Tryd.f7.params.toList ++ Rows.fnExactCyclesOfSpec.plain.varTypes Tryd.prog).any (Tryd.prog.mapsRec ·))) = true := by kernel_rfl
set_option maxRecDepth 100000 in
theorem k14 : ((Rows.fnExactCyclesOfRow.ifaces == (Tryd.f7.params.toList ++ Rows.fnExactCyclesOfSpec.plain.varTypes Tryd.prog).any (Tryd.prog.ifacesRec ·))) = true := by kernel_rfl
set_option maxRecDepth 100000 in
theorem k15 : ((Rows.fnExactCyclesOfRow.mapsOut == Tryd.prog.mapsAmong Tryd.f7.resultTypes.toList)) = true := by kernel_rfl
set_option maxRecDepth 100000 in
theorem k16 : ((Rows.fnExactCyclesOfRow.loops == (Tryd.f7.params.toList ++ Rows.fnExactCyclesOfSpec.plain.varTypes Tryd.prog).any (Tryd.prog.loopsFrom ·))) = true := by kernel_rfl
set_option maxRecDepth 100000 in
theorem k17 : ((Rows.fnExactCyclesOfRow.wideKeys == (Tryd.f7.params.toList ++ Rows.fnExactCyclesOfSpec.plain.varTypes Tryd.prog ++ Tryd.f7.resultTypes.toList).any (Tryd.prog.wideKeysFrom ·))) = true := by kernel_rfl
set_option maxRecDepth 100000 in
theorem k18 : (Rows.fnExactCyclesOfSpec.vars.all (Tryd.prog.varReadable ·)) = true := by kernel_rfl
set_option maxRecDepth 100000 in
theorem k19 : (Tryd.f7.resultTypes.all (fun t => Tryd.prog.readableRec t && decide (t < Tryd.prog.types.size))) = true := by kernel_rfl
set_option maxRecDepth 100000 in
theorem k20 : ((Rows.fnExactCyclesOfRow.ifacesOut == Tryd.f7.resultTypes.toList.any (Tryd.prog.ifacesRec ·))) = true := by kernel_rfl
set_option maxRecDepth 100000 in
theorem k21 : ((Rows.fnExactCyclesOfRow.loopsOut == Tryd.f7.resultTypes.toList.any (Tryd.prog.loopsFrom ·))) = true := by kernel_rfl
set_option maxRecDepth 100000 in
theorem k22 : ((Rows.fnExactCyclesOfRow.plainKeys == Tryd.prog.plainKeys)) = true := by kernel_rfl
theorem k23 : (Rows.fnExactCyclesOfRow.shortTexts.isNone) = true := by kernel_rfl
set_option maxRecDepth 100000 in
theorem k28 : ((Rows.fnExactCyclesOfRow.kinds == (if Rows.fnExactCyclesOfRow.domain.isEmpty then [] else Tryd.f7.params.toList.map fun t => match Tryd.prog.underlying t with | some (.int k) => some k | _ => none))) = true := by kernel_rfl
theorem k29 : ((Rows.fnExactCyclesOfRow.pinned == Rows.fnExactCyclesOfRow.pinnedBy)) = true := by kernel_rfl
set_option maxRecDepth 100000 in
theorem k30 : ((Rows.fnExactCyclesOfRow.veiled == (Tryd.f7.params.toList ++ Rows.fnExactCyclesOfSpec.plain.varTypes Tryd.prog ++ Tryd.f7.resultTypes.toList).any (Tryd.prog.veiledRec ·))) = true := by kernel_rfl
set_option maxRecDepth 100000 in
theorem k31 : (Rows.fnExactCyclesOfRow.veiledFits Tryd.prog Tryd.f7.params.toList (Tryd.f7.params.toList ++ Rows.fnExactCyclesOfSpec.plain.varTypes Tryd.prog ++ Tryd.f7.resultTypes.toList)) = true := by kernel_rfl
set_option maxRecDepth 100000 in
theorem facts : joinedFacts Tryd.prog 7 Tryd.f7 Rows.fnExactCyclesOfSpec Rows.fnExactCyclesOfRow = true := (and_mk (and_mk (and_mk (and_mk (and_mk (and_mk (and_mk (and_mk (and_mk (and_mk (and_mk (and_mk (and_mk (and_mk (and_mk (and_mk (and_mk (and_mk (and_mk (and_mk (and_mk (and_mk (and_mk (and_mk (and_mk (and_mk (and_mk (and_mk (and_mk (and_mk (and_mk k0 factLaid) factRowed) k3) k4) k5) k6) k7) k8) k9) k10) k11) k12) k13) k14) k15) k16) k17) k18) k19) k20) k21) k22) k23) factHeard) factEnter) factLift) factMake) k28) k29) k30) k31)
set_option maxRecDepth 100000 in
theorem named : Tryd.prog.funcNamed Rows.fnExactCyclesOfRow.func = some 7 := by kernel_rfl
set_option maxRecDepth 100000 in
theorem inst : Tryd.f7.isInstance Tryd.prog Rows.fnExactCyclesOfRow.origin Rows.fnExactCyclesOfRow.targs := of_decide_eq_true (by kernel_rfl)
set_option maxRecDepth 100000 in
theorem said : Rows.FnExactCyclesOfSaid :=
  OpenClaim.holds_of_cond 7 Tryd.f7 rfl rfl rfl rfl rfl rfl rfl ⟨rfl, rfl, rfl, rfl, rfl⟩ rfl rfl rfl rfl rfl named Tryd.func7 facts
    inst (by unfold Func.isWrapper; first | (rw [if_pos (by decide +kernel)]; kernel_rfl) | (rw [if_neg (by decide +kernel)]; exact ⟨rfl, rfl⟩))
    (fun os started H enc _ F => by rw [OpenClaim.pre_eq_preRow]; exact lifted os started H enc F)

set_option maxRecDepth 100000 in
theorem plain (f : FuncId) (fn : Func) (hf : Tryd.pinned.checked.prog.funcNamed "loop.example/g00563/laws.FnExactCyclesOf" = some f) (hfn : Tryd.pinned.checked.prog.funcs[f]? = some fn) :
    false = Tryd.pinned.checked.prog.looks [] ∧ ∀ (j : Nat) t, fn.params[j]? = some t → Tryd.pinned.checked.prog.wantsStandIn t = false := by
  obtain rfl : f = 7 := Option.some.inj ((show Tryd.prog.funcNamed "loop.example/g00563/laws.FnExactCyclesOf" = some 7 by kernel_rfl).symm.trans hf) |>.symm
  obtain rfl : fn = Tryd.f7 := (Option.some.inj (Tryd.func7.symm.trans hfn)).symm
  refine ⟨by kernel_rfl, fun j t ht => ?_⟩
  rw [Tryd.params7] at ht
  have hm := Array.mem_of_getElem? ht
  simp only [List.mem_toArray, List.mem_cons, List.not_mem_nil, or_false] at hm
  subst hm; exact (show Tryd.prog.wantsStandIn _ = false by kernel_rfl)

theorem card : Rows.FnExactCyclesOfCardSaid :=
  Claim7.holds_tied_plain_at .later [] _ _ _ _ said (fun _ h => by cases h) (by kernel_rfl) (fun _ h => by cases h) fnExactCyclesOf_row_tie rfl ⟨rfl, rfl⟩ (by kernel_rfl) rfl plain (by kernel_rfl)
#print axioms card
end Go.Proofs.YtoaeofahknknhaaDoor.fnExactCyclesOf
