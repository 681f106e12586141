/- For every Instr, laws.FnExactInstrOK returns true: impl.InstrOK answers as the model spec.InstrOK, every field, leaves its arguments alone, and its result is memory of its own. Condition: the listed tables start as the program's text lays them (the card ties them to it). -/
import Derived.Test.YtoaeofahknknhaaDoorOpLen
import Derived.Test.YtoaeofahknknhaaDoorGenOpen
import Derived.Test.YtoaeofahknknhaaDoorLaid
import Derived.Test.YtoaeofahknknhaaDoorFactA
import Derived.Test.YtoaeofahknknhaaDoorFactB
import Derived.Test.YtoaeofahknknhaaDoorFactC
import Derived.Test.YtoaeofahknknhaaDoorFactD
import Derived.Deep.RegionHeld3
import Derived.ProofKit
import Derived.OpenShut
import Derived.ShutString
import Derived.ChangeOld
namespace Go.Proofs.YtoaeofahknknhaaDoor.fnExactInstrOK
open Go.RowKit

set_option maxRecDepth 100000 in
set_option maxHeartbeats 16000000 in
theorem walk (a0d0 : Int) (a0d1 : Int) (a0d2 : Int) (w : World) (ht : OpsT w) :
    Calls Tryd.prog 5 #[.agg #[.int .i64 a0d0, .int .i64 a0d1, .int .i64 a0d2]] w fun e w' => e = .returned (.bool true) ∧ Below w.heap.size w w' := by
  have HT := Lib.hid ht
  clear ht
  have HTo0 := Lib.hid (fun W => toInstrA a0d0 a0d1 a0d2 W)
  have HSpec := Lib.hid (fun W => specInstrOKA a0d0 a0d1 a0d2 W )
  have HImpl := Lib.hid (fun W (t : OpsT W) => implInstrOKA a0d0 a0d1 a0d2 W  t)
  generalize okIns a0d0 a0d1 a0d2 = r0d0 at HSpec HImpl
  have qr0d0 : (r0d0 != r0d0) = false := by simp
  have H0 : Hid (Below w.heap.size w w) := Lib.hid (Below.refl _ _)
  go_enter Tryd.func5, Tryd.ntmps5
  obtain ⟨W2, hW2⟩ : ∃ W2, W2 = (w.alloc (.cells #[.int .i64 a0d0, .int .i64 a0d1, .int .i64 a0d2] 50)) := ⟨_, rfl⟩
  have hba : Below w.heap.size w W2 := by rw [hW2]; exact ((Below.refl _ _).alloc (Nat.le_refl _) _)
  have Z3 : Hid (W2.heap.size = w.heap.size + 1) := Lib.hid (by rw [hW2]; simp)
  have B4 : Hid (Box W2 (w.heap.size) 50 #[.int .i64 a0d0, .int .i64 a0d1, .int .i64 a0d2]) := Lib.hid (by rw [hW2]; exact (Box.new w 50 #[.int .i64 a0d0, .int .i64 a0d1, .int .i64 a0d2]))
  have H5 := Lib.hid (bt H0.out hba)
  have Z6 : Hid (w.heap.size ≤ W2.heap.size) := Lib.hid hba.size
  clear H0 hba
  have HW2 := Lib.hid hW2
  clear hW2
  go_wp2_with fail
  rw [← HW2.out]
  refine (HTo0.out _).mono ?_
  rintro e w7 ⟨rfl, hc⟩
  clear HW2
  have F8 := Lib.hid (B4.out.step hc)
  have H9 := Lib.hid (bt H5.out hc)
  have Z10 : Hid (W2.heap.size ≤ w7.heap.size) := Lib.hid hc.size
  clear B4 H5 hc
  go_wp2_with fail
  refine (HSpec.out w7 ).mono ?_
  rintro e w11 ⟨rfl, hc⟩
  have F12 := Lib.hid (F8.out.step hc)
  have H13 := Lib.hid (bt H9.out hc)
  have Z14 : Hid (w7.heap.size ≤ w11.heap.size) := Lib.hid hc.size
  clear F8 H9 hc
  clear HSpec
  have f0 : w11.cell? ⟨w.heap.size, 0, none⟩ = some (.int .i64 a0d0) := F12.out.cell 0 rfl
  have f1 : w11.cell? ⟨w.heap.size, 1, none⟩ = some (.int .i64 a0d1) := F12.out.cell 1 rfl
  have f2 : w11.cell? ⟨w.heap.size, 2, none⟩ = some (.int .i64 a0d2) := F12.out.cell 2 rfl
  go_wp2_with fail
  refine (HTo0.out _).mono ?_
  rintro e w16 ⟨rfl, hc⟩
  clear f0 f1 f2
  have F17 := Lib.hid (F12.out.step hc)
  have H18 := Lib.hid (bt H13.out hc)
  have Z19 : Hid (w11.heap.size ≤ w16.heap.size) := Lib.hid hc.size
  clear F12 H13 hc
  go_wp2_with fail
  refine (HImpl.out w16 (HT.out.below (H18.out))).mono ?_
  rintro e w20 ⟨rfl, hc⟩
  have F21 := Lib.hid (F17.out.step hc)
  have H22 := Lib.hid (bt H18.out hc)
  have Z23 : Hid (w16.heap.size ≤ w20.heap.size) := Lib.hid hc.size
  clear F17 H18 hc
  go_wp2
  go_ret
  exact ⟨rfl, H22.out⟩

/-! The row's step and the card. -/
open Go.ChangeShapes Go.WideShapes Go.ChangeAt
open Go.ChangeMaps (open_string shut_string)
set_option maxRecDepth 100000 in
theorem laidOut : laidOutB Tryd.prog = true := factLaid
set_option maxRecDepth 100000 in
theorem laid_met (os : Os) (args : Array Value) : laidMet Tryd.prog Rows.fnExactInstrOKRow.laid ((laidWorld os).forCall (fun _ _ => 0) ⟨#[], args, []⟩).memory :=
  laidMet_of_run' 8 (by kernel_rfl) (by kernel_rfl)
set_option maxRecDepth 100000 in
theorem laid_of {W : World} (h : laidMetH Tryd.prog Rows.fnExactInstrOKRow.laid W) : laidMet Tryd.prog Rows.fnExactInstrOKRow.laid W := h
set_option maxRecDepth 100000 in
theorem ops_of {W : World} (h : laidMetH Tryd.prog Rows.fnExactInstrOKRow.laid W) : W.var? Tryd.prog "loop.example/g00563/impl.operations" = some opCells :=
  var_of_reads (reads_of_laid (laid_of h) (by unfold Rows.fnExactInstrOKRow; repeat (first | exact List.Mem.head _ | apply List.Mem.tail)))
set_option maxRecDepth 100000 in
theorem contract (H : Type) (enc : TypeId × Value → H) (W : World) (base : Nat) (args : Array Value) (ds gs : List (DataW H)) (before : List MemPlace)
    (hval0 : ∀ (j : Nat) t v, Tryd.f5.params[j]? = some t → args[j]? = some v → Value.okWide Tryd.prog W .any base t v)
    (hW : DataW.Whole enc Tryd.prog Tryd.f5.params.toList Rows.fnExactInstrOKSpec.vars false W args.toList ds gs before) (hL : laidMetH Tryd.prog Rows.fnExactInstrOKRow.laid W) :
    Calls Tryd.prog 5 args W fun e W' => ∃ v, e = .returned v ∧ Rows.fnExactInstrOKSpec.post enc Tryd.prog Tryd.f5 false true false false W args v W' := by
  have hval : ∀ (j : Nat) t v, Tryd.f5.params[j]? = some t → args[j]? = some v → Value.okWide Tryd.prog W .any base t v := hval0
  have hW' := hW
  obtain ⟨p, q, hA0, hV0, rfl, hfz, hnd⟩ := hW
  have hA : DataW.TrodAll enc Tryd.prog W 0 (fun _ => true) true Tryd.f5.params.toList args.toList ds p := hA0
  have hV : DataW.TrodVars enc Tryd.prog W (fun _ => true) ["loop.example/g00563/impl.operations"] gs q := hV0
  rw [Tryd.params5] at hA hval
  obtain ⟨v0, vs0, d0, ds0, p0, q0, hargs, rfl, rfl, h0, r0⟩ := trodAll_cons hA
  obtain ⟨rfl, rfl, rfl⟩ := trodAll_nil r0
  obtain rfl : args = #[v0] := by cases args; simp_all
  have k0 := h0
  have lt0 : ∀ x ∈ p0, x.block < W.heap.size := by obtain ⟨m, hm⟩ := k0; exact DataW.trod_lt m _ _ _ hm
  obtain ⟨a0d0, a0d1, a0d2, rfl, R0, G0⟩ := openInstr (hval 0 50 v0 rfl rfl) h0
  obtain ⟨g, t, cs, fuel, d, p', rfl, hg, ht, hvar, hd, rfl⟩ := trodVars_one hV
  obtain rfl := Option.some.inj (gOps.symm.trans hg)
  obtain rfl := Option.some.inj (gOpsType.symm.trans ht)
  obtain rfl : cs = opCells := Option.some.inj (hvar.symm.trans (ops_of hL))
  obtain ⟨rfl, rfl⟩ := DataW.Trod.unique (v := .agg opCells) ⟨fuel, hd⟩ ⟨4, reads_ops enc W _⟩
  clear hA0 hV0 hval0
  have HT := opsT_of_var hvar
  refine (walk a0d0 a0d1 a0d2 W HT).mono fun e W' ⟨he, bel⟩ => ?_
  subst he
  exact ⟨_, rfl, _, _, _, [], _, _, hW', trodAll_mk1 (shut_bool Tryd.underlying4 _), (trodAll_cons_mk (Below.trod laidOut (by kernel_rfl) (of_decide_eq_true (by kernel_rfl)) k0 bel lt0) trodAll_mk0), ⟨0, 92, opCells, 4, [], [], hg, ht, var?_below bel hg HT.lt hvar, reads_ops enc W' _, rfl, rfl⟩, bel.frame _, fun h => by cases h⟩

set_option maxRecDepth 100000 in
theorem reads (os : Os) {H : Type} (enc : TypeId × Value → H) : ∃ x, DataW.whole enc Tryd.prog ((laidWorld os).forCall (fun _ _ => 0) ⟨#[], #[.agg #[.int .i64 0, .int .i64 0, .int .i64 0]], []⟩).memory Tryd.f5.params.toList Rows.fnExactInstrOKSpec.vars false (#[.agg #[.int .i64 0, .int .i64 0, .int .i64 0]] : Array Value).toList 8 = some x :=
  Option.isSome_iff_exists.1 (by kernel_rfl)

set_option maxRecDepth 100000 in
theorem lifted (os : Os) (started : os.Started) (H : Type) (enc : TypeId × Value → H) (F : Stop.Interp) :
    ReturnsInHanded {} Tryd.checked os 5 .any ((OpenSpec.ofChange Rows.fnExactInstrOKSpec).preRow enc Tryd.prog Tryd.f5 Rows.fnExactInstrOKRow.domain false Rows.fnExactInstrOKRow.laid) (((OpenSpec.ofChange Rows.fnExactInstrOKSpec).at F).post enc Tryd.prog Tryd.f5 false true false false) := by
  obtain ⟨x, hx⟩ := reads os enc
  refine returnsInHanded_of_row (C := Tryd.checked) (s := OpenSpec.ofChange Rows.fnExactInstrOKSpec) ownK started (by kernel_rfl) Tryd.func5
    (witness_row_at (enc := enc) (C := Tryd.checked) false (laidWorld os) #[.agg #[.int .i64 0, .int .i64 0, .int .i64 0]] rfl (by kernel_rfl) (by kernel_rfl) (by kernel_rfl)
      (OpenSpec.preRow_of_cond 8 hx rfl (fun k hk => by cases hk) (by kernel_rfl) (laid_met os _))) ?_
  intro W base args ds gs before hval hW _ _ _ hL _ _
  exact contract H enc W base args ds gs before hval hW hL

theorem k0 : (Rows.fnExactInstrOKRow.wf (OpenSpec.ofChange Rows.fnExactInstrOKSpec)) = true := by kernel_rfl
set_option maxRecDepth 100000 in
theorem k3 : (Tryd.f5.params.all (Tryd.prog.readableRec ·)) = true := by kernel_rfl
set_option maxRecDepth 100000 in
theorem k4 : (namedTie Tryd.prog Rows.fnExactInstrOKRow.named Rows.fnExactInstrOKSpec.vars) = true := by kernel_rfl
theorem k5 : ((Rows.fnExactInstrOKRow.stops == [])) = true := by kernel_rfl
set_option maxRecDepth 100000 in
theorem k6 : ((Tryd.prog.stops == [])) = true := by kernel_rfl
theorem k7 : ((Rows.fnExactInstrOKRow.knobs == [])) = true := by kernel_rfl
set_option maxRecDepth 100000 in
theorem k8 : ((Tryd.prog.stopKnobs == [])) = true := by kernel_rfl
set_option maxRecDepth 100000 in
theorem k9 : ((Rows.fnExactInstrOKRow.inPlace == Tryd.prog.inPlace 5)) = true := by kernel_rfl
set_option maxRecDepth 100000 in
theorem k10 : ((Rows.fnExactInstrOKRow.unfollowed == Tryd.prog.unfollowed 5)) = true := by kernel_rfl
set_option maxRecDepth 100000 in
theorem k11 : ((Rows.fnExactInstrOKRow.recurses == Tryd.prog.recurses 5)) = true := by kernel_rfl
set_option maxRecDepth 100000 in
theorem k12 : ((Rows.fnExactInstrOKRow.named == Tryd.prog.varsNamed 5)) = true := by kernel_rfl
set_option maxRecDepth 100000 in
theorem k13 : ((Rows.fnExactInstrOKRow.maps == (Tryd.f5.params.toList ++ Rows.fnExactInstrOKSpec.plain.varTypes Tryd.prog).any (Tryd.prog.mapsRec ·))) = true := by kernel_rfl
set_option maxRecDepth 100000 in
theorem k14 : ((Rows.fnExactInstrOKRow.ifaces == (Tryd.f5.params.toList ++ Rows.fnExactInstrOKSpec.plain.varTypes Tryd.prog).any (Tryd.prog.ifacesRec ·))) = true := by kernel_rfl
set_option maxRecDepth 100000 in
theorem k15 : ((Rows.fnExactInstrOKRow.mapsOut == Tryd.prog.mapsAmong Tryd.f5.resultTypes.toList)) = true := by kernel_rfl
set_option maxRecDepth 100000 in
theorem k16 : ((Rows.fnExactInstrOKRow.loops == (Tryd.f5.params.toList ++ Rows.fnExactInstrOKSpec.plain.varTypes Tryd.prog).any (Tryd.prog.loopsFrom ·))) = true := by kernel_rfl
set_option maxRecDepth 100000 in
theorem k17 : ((Rows.fnExactInstrOKRow.wideKeys == (Tryd.f5.params.toList ++ Rows.fnExactInstrOKSpec.plain.varTypes Tryd.prog ++ Tryd.f5.resultTypes.toList).any (Tryd.prog.wideKeysFrom ·))) = true := by kernel_rfl
set_option maxRecDepth 100000 in
theorem k18 : (Rows.fnExactInstrOKSpec.vars.all (Tryd.prog.varReadable ·)) = true := by kernel_rfl
set_option maxRecDepth 100000 in
theorem k19 : (Tryd.f5.resultTypes.all (fun t => Tryd.prog.readableRec t && decide (t < Tryd.prog.types.size))) = true := by kernel_rfl
set_option maxRecDepth 100000 in
theorem k20 : ((Rows.fnExactInstrOKRow.ifacesOut == Tryd.f5.resultTypes.toList.any (Tryd.prog.ifacesRec ·))) = true := by kernel_rfl
set_option maxRecDepth 100000 in
theorem k21 : ((Rows.fnExactInstrOKRow.loopsOut == Tryd.f5.resultTypes.toList.any (Tryd.prog.loopsFrom ·))) = true := by kernel_rfl
set_option maxRecDepth 100000 in
theorem k22 : ((Rows.fnExactInstrOKRow.plainKeys == Tryd.prog.plainKeys)) = true := by kernel_rfl
theorem k23 : (Rows.fnExactInstrOKRow.shortTexts.isNone) = true := by kernel_rfl
set_option maxRecDepth 100000 in
theorem k28 : ((Rows.fnExactInstrOKRow.kinds == (if Rows.fnExactInstrOKRow.domain.isEmpty then [] else Tryd.f5.params.toList.map fun t => match Tryd.prog.underlying t with | some (.int k) => some k | _ => none))) = true := by kernel_rfl
theorem k29 : ((Rows.fnExactInstrOKRow.pinned == Rows.fnExactInstrOKRow.pinnedBy)) = true := by kernel_rfl
set_option maxRecDepth 100000 in
theorem k30 : ((Rows.fnExactInstrOKRow.veiled == (Tryd.f5.params.toList ++ Rows.fnExactInstrOKSpec.plain.varTypes Tryd.prog ++ Tryd.f5.resultTypes.toList).any (Tryd.prog.veiledRec ·))) = true := by kernel_rfl
set_option maxRecDepth 100000 in
theorem k31 : (Rows.fnExactInstrOKRow.veiledFits Tryd.prog Tryd.f5.params.toList (Tryd.f5.params.toList ++ Rows.fnExactInstrOKSpec.plain.varTypes Tryd.prog ++ Tryd.f5.resultTypes.toList)) = true := by kernel_rfl
set_option maxRecDepth 100000 in
theorem facts : joinedFacts Tryd.prog 5 Tryd.f5 Rows.fnExactInstrOKSpec Rows.fnExactInstrOKRow = true := (and_mk (and_mk (and_mk (and_mk (and_mk (and_mk (and_mk (and_mk (and_mk (and_mk (and_mk (and_mk (and_mk (and_mk (and_mk (and_mk (and_mk (and_mk (and_mk (and_mk (and_mk (and_mk (and_mk (and_mk (and_mk (and_mk (and_mk (and_mk (and_mk (and_mk (and_mk k0 factLaid) factRowed) k3) k4) k5) k6) k7) k8) k9) k10) k11) k12) k13) k14) k15) k16) k17) k18) k19) k20) k21) k22) k23) factHeard) factEnter) factLift) factMake) k28) k29) k30) k31)
set_option maxRecDepth 100000 in
theorem named : Tryd.prog.funcNamed Rows.fnExactInstrOKRow.func = some 5 := by kernel_rfl
set_option maxRecDepth 100000 in
theorem inst : Tryd.f5.isInstance Tryd.prog Rows.fnExactInstrOKRow.origin Rows.fnExactInstrOKRow.targs := of_decide_eq_true (by kernel_rfl)
set_option maxRecDepth 100000 in
theorem said : Rows.FnExactInstrOKSaid :=
  OpenClaim.holds_of_cond 5 Tryd.f5 rfl rfl rfl rfl rfl rfl rfl ⟨rfl, rfl, rfl, rfl, rfl⟩ rfl rfl rfl rfl rfl named Tryd.func5 facts
    inst (by unfold Func.isWrapper; first | (rw [if_pos (by decide +kernel)]; kernel_rfl) | (rw [if_neg (by decide +kernel)]; exact ⟨rfl, rfl⟩))
    (fun os started H enc _ F => by rw [OpenClaim.pre_eq_preRow]; exact lifted os started H enc F)

set_option maxRecDepth 100000 in
theorem plain (f : FuncId) (fn : Func) (hf : Tryd.pinned.checked.prog.funcNamed "loop.example/g00563/laws.FnExactInstrOK" = some f) (hfn : Tryd.pinned.checked.prog.funcs[f]? = some fn) :
    false = Tryd.pinned.checked.prog.looks [] ∧ ∀ (j : Nat) t, fn.params[j]? = some t → Tryd.pinned.checked.prog.wantsStandIn t = false := by
  obtain rfl : f = 5 := Option.some.inj ((show Tryd.prog.funcNamed "loop.example/g00563/laws.FnExactInstrOK" = some 5 by kernel_rfl).symm.trans hf) |>.symm
  obtain rfl : fn = Tryd.f5 := (Option.some.inj (Tryd.func5.symm.trans hfn)).symm
  refine ⟨by kernel_rfl, fun j t ht => ?_⟩
  rw [Tryd.params5] at ht
  have hm := Array.mem_of_getElem? ht
  simp only [List.mem_toArray, List.mem_cons, List.not_mem_nil, or_false] at hm
  subst hm; exact (show Tryd.prog.wantsStandIn _ = false by kernel_rfl)

theorem card : Rows.FnExactInstrOKCardSaid :=
  Claim7.holds_tied_plain_at .later [] _ _ _ _ said (fun _ h => by cases h) (by kernel_rfl) (fun _ h => by cases h) fnExactInstrOK_row_tie rfl ⟨rfl, rfl⟩ (by kernel_rfl) rfl plain (by kernel_rfl)
#print axioms card
end Go.Proofs.YtoaeofahknknhaaDoor.fnExactInstrOK
