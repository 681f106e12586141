/- For every int and int and int, laws.FnExactDecode returns true: impl.Decode answers as the model spec.Decode, every field, leaves its arguments alone, and its result is memory of its own. Condition: the listed tables start as the program's text lays them (the card ties them to it). -/
import Derived.Test.YtoaeofahknknhaaDoorOpDec2
import Derived.Test.YtoaeofahknknhaaDoorGenOpen
import Derived.Test.YtoaeofahknknhaaDoorLaid
import Derived.Test.YtoaeofahknknhaaDoorFactA
import Derived.Test.YtoaeofahknknhaaDoorFactB
import Derived.Test.YtoaeofahknknhaaDoorFactC
import Derived.Test.YtoaeofahknknhaaDoorFactD
import Derived.Deep.RegionHeld3
import Derived.ProofKit
import Derived.OpenShut
import Derived.ShutString
import Derived.ChangeOld
namespace Go.Proofs.YtoaeofahknknhaaDoor.fnExactDecode
open Go.RowKit

set_option maxRecDepth 100000 in
set_option maxHeartbeats 16000000 in
theorem walk (a0d0 : Int) (a1d0 : Int) (a2d0 : Int) (w : World) (ht : OpsT w) :
    Calls Tryd.prog 9 #[.int .i64 a0d0, .int .i64 a1d0, .int .i64 a2d0] w fun e w' => e = .returned (.bool true) ∧ Below w.heap.size w w' := by
  have HT := Lib.hid ht
  clear ht
  have HSpec := Lib.hid (fun W => specDecodeA a0d0 a1d0 a2d0 W   )
  have HImpl := Lib.hid (fun W (t : OpsT W) => implDecodeA a0d0 a1d0 a2d0 W    t)
  generalize (decF a0d0 a1d0 a2d0).1.1 = r0d0 at HSpec HImpl
  generalize (decF a0d0 a1d0 a2d0).1.2.1 = r0d1 at HSpec HImpl
  generalize (decF a0d0 a1d0 a2d0).1.2.2 = r0d2 at HSpec HImpl
  generalize (decF a0d0 a1d0 a2d0).2 = r1d0 at HSpec HImpl
  have qr1d0 : (r1d0 != r1d0) = false := by simp
  have H0 : Hid (Below w.heap.size w w) := Lib.hid (Below.refl _ _)
  go_enter Tryd.func9, Tryd.ntmps9
  go_wp2_with fail
  refine (HSpec.out w ).mono ?_
  rintro e w1 ⟨rfl, hc⟩
  have H2 := Lib.hid (bt H0.out hc)
  have Z3 : Hid (w.heap.size ≤ w1.heap.size) := Lib.hid hc.size
  clear H0 hc
  clear HSpec
  obtain ⟨W4, hW4⟩ : ∃ W4, W4 = (w1.alloc (.cells #[.int .i64 r0d0, .int .i64 r0d1, .int .i64 r0d2] 24)) := ⟨_, rfl⟩
  have hba : Below w1.heap.size w1 W4 := by rw [hW4]; exact ((Below.refl _ _).alloc (Nat.le_refl _) _)
  have Z5 : Hid (W4.heap.size = w1.heap.size + 1) := Lib.hid (by rw [hW4]; simp)
  have B6 : Hid (Box W4 (w1.heap.size) 24 #[.int .i64 r0d0, .int .i64 r0d1, .int .i64 r0d2]) := Lib.hid (by rw [hW4]; exact (Box.new w1 24 #[.int .i64 r0d0, .int .i64 r0d1, .int .i64 r0d2]))
  have H7 := Lib.hid (bt H2.out hba)
  have Z8 : Hid (w1.heap.size ≤ W4.heap.size) := Lib.hid hba.size
  clear H2 hba
  have HW4 := Lib.hid hW4
  clear hW4
  go_wp2_with fail
  rw [← HW4.out]
  refine (HImpl.out W4 (HT.out.below (H7.out))).mono ?_
  rintro e w9 ⟨rfl, hc⟩
  clear HW4
  have F10 := Lib.hid (B6.out.step hc)
  have H11 := Lib.hid (bt H7.out hc)
  have Z12 : Hid (W4.heap.size ≤ w9.heap.size) := Lib.hid hc.size
  clear B6 H7 hc
  obtain ⟨W13, hW13⟩ : ∃ W13, W13 = (w9.alloc (.cells #[.int .i64 r0d0, .int .i64 r0d1, .int .i64 r0d2] 24)) := ⟨_, rfl⟩
  have hba : Below w9.heap.size w9 W13 := by rw [hW13]; exact ((Below.refl _ _).alloc (Nat.le_refl _) _)
  have Z14 : Hid (W13.heap.size = w9.heap.size + 1) := Lib.hid (by rw [hW13]; simp)
  have B15 : Hid (Box W13 (w9.heap.size) 24 #[.int .i64 r0d0, .int .i64 r0d1, .int .i64 r0d2]) := Lib.hid (by rw [hW13]; exact (Box.new w9 24 #[.int .i64 r0d0, .int .i64 r0d1, .int .i64 r0d2]))
  have F16 := Lib.hid (F10.out.step hba)
  have H17 := Lib.hid (bt H11.out hba)
  have Z18 : Hid (w9.heap.size ≤ W13.heap.size) := Lib.hid hba.size
  clear F10 H11 hba
  have HW13 := Lib.hid hW13
  clear hW13
  have f0 : W13.cell? ⟨w1.heap.size, 0, none⟩ = some (.int .i64 r0d0) := F16.out.cell 0 rfl
  have f1 : W13.cell? ⟨w1.heap.size, 1, none⟩ = some (.int .i64 r0d1) := F16.out.cell 1 rfl
  have f2 : W13.cell? ⟨w1.heap.size, 2, none⟩ = some (.int .i64 r0d2) := F16.out.cell 2 rfl
  rw [HW13.out] at f0 f1 f2
  go_wp2_with fail
  rw [← HW13.out]
  refine (eqInstrA r0d0 r0d1 r0d2 W13).mono ?_
  rintro e w19 ⟨rfl, hc⟩
  clear f0 f1 f2 HW13
  have F20 := Lib.hid (F16.out.step hc)
  have F21 := Lib.hid (B15.out.step hc)
  have H22 := Lib.hid (bt H17.out hc)
  have Z23 : Hid (W13.heap.size ≤ w19.heap.size) := Lib.hid hc.size
  clear F16 B15 H17 hc
  go_wp2
  go_ret
  exact ⟨rfl, H22.out⟩

/-! The row's step and the card. -/
open Go.ChangeShapes Go.WideShapes Go.ChangeAt
open Go.ChangeMaps (open_string shut_string)
set_option maxRecDepth 100000 in
theorem laidOut : laidOutB Tryd.prog = true := factLaid
set_option maxRecDepth 100000 in
theorem laid_met (os : Os) (args : Array Value) : laidMet Tryd.prog Rows.fnExactDecodeRow.laid ((laidWorld os).forCall (fun _ _ => 0) ⟨#[], args, []⟩).memory :=
  laidMet_of_run' 8 (by kernel_rfl) (by kernel_rfl)
set_option maxRecDepth 100000 in
theorem laid_of {W : World} (h : laidMetH Tryd.prog Rows.fnExactDecodeRow.laid W) : laidMet Tryd.prog Rows.fnExactDecodeRow.laid W := h
set_option maxRecDepth 100000 in
theorem ops_of {W : World} (h : laidMetH Tryd.prog Rows.fnExactDecodeRow.laid W) : W.var? Tryd.prog "loop.example/g00563/impl.operations" = some opCells :=
  var_of_reads (reads_of_laid (laid_of h) (by unfold Rows.fnExactDecodeRow; repeat (first | exact List.Mem.head _ | apply List.Mem.tail)))
set_option maxRecDepth 100000 in
theorem contract (H : Type) (enc : TypeId × Value → H) (W : World) (base : Nat) (args : Array Value) (ds gs : List (DataW H)) (before : List MemPlace)
    (hval0 : ∀ (j : Nat) t v, Tryd.f9.params[j]? = some t → args[j]? = some v → Value.okWide Tryd.prog W .any base t v)
    (hW : DataW.Whole enc Tryd.prog Tryd.f9.params.toList Rows.fnExactDecodeSpec.vars false W args.toList ds gs before) (hL : laidMetH Tryd.prog Rows.fnExactDecodeRow.laid W) :
    Calls Tryd.prog 9 args W fun e W' => ∃ v, e = .returned v ∧ Rows.fnExactDecodeSpec.post enc Tryd.prog Tryd.f9 false true false false W args v W' := by
  have hval : ∀ (j : Nat) t v, Tryd.f9.params[j]? = some t → args[j]? = some v → Value.okWide Tryd.prog W .any base t v := hval0
  have hW' := hW
  obtain ⟨p, q, hA0, hV0, rfl, hfz, hnd⟩ := hW
  have hA : DataW.TrodAll enc Tryd.prog W 0 (fun _ => true) true Tryd.f9.params.toList args.toList ds p := hA0
  have hV : DataW.TrodVars enc Tryd.prog W (fun _ => true) ["loop.example/g00563/impl.operations"] gs q := hV0
  rw [Tryd.params9] at hA hval
  obtain ⟨v0, vs0, d0, ds0, p0, q0, hargs, rfl, rfl, h0, r0⟩ := trodAll_cons hA
  obtain ⟨v1, vs1, d1, ds1, p1, q1, rfl, rfl, rfl, h1, r1⟩ := trodAll_cons r0
  obtain ⟨v2, vs2, d2, ds2, p2, q2, rfl, rfl, rfl, h2, r2⟩ := trodAll_cons r1
  obtain ⟨rfl, rfl, rfl⟩ := trodAll_nil r2
  obtain rfl : args = #[v0, v1, v2] := by cases args; simp_all
  obtain ⟨a0, rfl, rfl, rfl, w0⟩ := open_int Tryd.underlying3 (hval 0 3 v0 rfl rfl) h0
  obtain ⟨a1, rfl, rfl, rfl, w1⟩ := open_int Tryd.underlying3 (hval 1 3 v1 rfl rfl) h1
  obtain ⟨a2, rfl, rfl, rfl, w2⟩ := open_int Tryd.underlying3 (hval 2 3 v2 rfl rfl) h2
  obtain ⟨g, t, cs, fuel, d, p', rfl, hg, ht, hvar, hd, rfl⟩ := trodVars_one hV
  obtain rfl := Option.some.inj (gOps.symm.trans hg)
  obtain rfl := Option.some.inj (gOpsType.symm.trans ht)
  obtain rfl : cs = opCells := Option.some.inj (hvar.symm.trans (ops_of hL))
  obtain ⟨rfl, rfl⟩ := DataW.Trod.unique (v := .agg opCells) ⟨fuel, hd⟩ ⟨4, reads_ops enc W _⟩
  clear hA0 hV0 hval0
  have HT := opsT_of_var hvar
  refine (walk a0 a1 a2 W HT).mono fun e W' ⟨he, bel⟩ => ?_
  subst he
  exact ⟨_, rfl, _, _, _, [], _, _, hW', trodAll_mk1 (shut_bool Tryd.underlying4 _), (trodAll_cons_mk (shut_int Tryd.underlying3 w0) (trodAll_cons_mk (shut_int Tryd.underlying3 w1) (trodAll_cons_mk (shut_int Tryd.underlying3 w2) trodAll_mk0))), ⟨0, 92, opCells, 4, [], [], hg, ht, var?_below bel hg HT.lt hvar, reads_ops enc W' _, rfl, rfl⟩, bel.frame _, fun h => by cases h⟩

set_option maxRecDepth 100000 in
theorem reads (os : Os) {H : Type} (enc : TypeId × Value → H) : ∃ x, DataW.whole enc Tryd.prog ((laidWorld os).forCall (fun _ _ => 0) ⟨#[], #[.int .i64 0, .int .i64 0, .int .i64 0], []⟩).memory Tryd.f9.params.toList Rows.fnExactDecodeSpec.vars false (#[.int .i64 0, .int .i64 0, .int .i64 0] : Array Value).toList 8 = some x :=
  Option.isSome_iff_exists.1 (by kernel_rfl)

set_option maxRecDepth 100000 in
theorem lifted (os : Os) (started : os.Started) (H : Type) (enc : TypeId × Value → H) (F : Stop.Interp) :
    ReturnsInHanded {} Tryd.checked os 9 .any ((OpenSpec.ofChange Rows.fnExactDecodeSpec).preRow enc Tryd.prog Tryd.f9 Rows.fnExactDecodeRow.domain false Rows.fnExactDecodeRow.laid) (((OpenSpec.ofChange Rows.fnExactDecodeSpec).at F).post enc Tryd.prog Tryd.f9 false true false false) := by
  obtain ⟨x, hx⟩ := reads os enc
  refine returnsInHanded_of_row (C := Tryd.checked) (s := OpenSpec.ofChange Rows.fnExactDecodeSpec) ownK started (by kernel_rfl) Tryd.func9
    (witness_row_at (enc := enc) (C := Tryd.checked) false (laidWorld os) #[.int .i64 0, .int .i64 0, .int .i64 0] rfl (by kernel_rfl) (by kernel_rfl) (by kernel_rfl)
      (OpenSpec.preRow_of_cond 8 hx rfl (fun k hk => by cases hk) (by kernel_rfl) (laid_met os _))) ?_
  intro W base args ds gs before hval hW _ _ _ hL _ _
  exact contract H enc W base args ds gs before hval hW hL

theorem k0 : (Rows.fnExactDecodeRow.wf (OpenSpec.ofChange Rows.fnExactDecodeSpec)) = true := by kernel_rfl
set_option maxRecDepth 100000 in
theorem k3 : (Tryd.f9.params.all (Tryd.prog.readableRec ·)) = true := by kernel_rfl
set_option maxRecDepth 100000 in
theorem k4 : (namedTie Tryd.prog Rows.fnExactDecodeRow.named Rows.fnExactDecodeSpec.vars) = true := by kernel_rfl
theorem k5 : ((Rows.fnExactDecodeRow.stops == [])) = true := by kernel_rfl
set_option maxRecDepth 100000 in
theorem k6 : ((Tryd.prog.stops == [])) = true := by kernel_rfl
theorem k7 : ((Rows.fnExactDecodeRow.knobs == [])) = true := by kernel_rfl
set_option maxRecDepth 100000 in
theorem k8 : ((Tryd.prog.stopKnobs == [])) = true := by kernel_rfl
set_option maxRecDepth 100000 in
theorem k9 : ((Rows.fnExactDecodeRow.inPlace == Tryd.prog.inPlace 9)) = true := by kernel_rfl
set_option maxRecDepth 100000 in
theorem k10 : ((Rows.fnExactDecodeRow.unfollowed == Tryd.prog.unfollowed 9)) = true := by kernel_rfl
set_option maxRecDepth 100000 in
theorem k11 : ((Rows.fnExactDecodeRow.recurses == Tryd.prog.recurses 9)) = true := by kernel_rfl
set_option maxRecDepth 100000 in
theorem k12 : ((Rows.fnExactDecodeRow.named == Tryd.prog.varsNamed 9)) = true := by kernel_rfl
set_option maxRecDepth 100000 in
theorem k13 : ((Rows.fnExactDecodeRow.maps == (Tryd.f9.params.toList ++ Rows.fnExactDecodeSpec.plain.varTypes Tryd.prog).any (Tryd.prog.mapsRec ·))) = true := by kernel_rfl
set_option maxRecDepth 100000 in
theorem k14 : ((Rows.fnExactDecodeRow.ifaces == (Tryd.f9.params.toList ++ Rows.fnExactDecodeSpec.plain.varTypes Tryd.prog).any (Tryd.prog.ifacesRec ·))) = true := by kernel_rfl
set_option maxRecDepth 100000 in
theorem k15 : ((Rows.fnExactDecodeRow.mapsOut == Tryd.prog.mapsAmong Tryd.f9.resultTypes.toList)) = true := by kernel_rfl
set_option maxRecDepth 100000 in
theorem k16 : ((Rows.fnExactDecodeRow.loops == (Tryd.f9.params.toList ++ Rows.fnExactDecodeSpec.plain.varTypes Tryd.prog).any (Tryd.prog.loopsFrom ·))) = true := by kernel_rfl
set_option maxRecDepth 100000 in
theorem k17 : ((Rows.fnExactDecodeRow.wideKeys == (Tryd.f9.params.toList ++ Rows.fnExactDecodeSpec.plain.varTypes Tryd.prog ++ Tryd.f9.resultTypes.toList).any (Tryd.prog.wideKeysFrom ·))) = true := by kernel_rfl
set_option maxRecDepth 100000 in
theorem k18 : (Rows.fnExactDecodeSpec.vars.all (Tryd.prog.varReadable ·)) = true := by kernel_rfl
set_option maxRecDepth 100000 in
theorem k19 : (Tryd.f9.resultTypes.all (fun t => Tryd.prog.readableRec t && decide (t < Tryd.prog.types.size))) = true := by kernel_rfl
set_option maxRecDepth 100000 in
theorem k20 : ((Rows.fnExactDecodeRow.ifacesOut == Tryd.f9.resultTypes.toList.any (Tryd.prog.ifacesRec ·))) = true := by kernel_rfl
set_option maxRecDepth 100000 in
theorem k21 : ((Rows.fnExactDecodeRow.loopsOut == Tryd.f9.resultTypes.toList.any (Tryd.prog.loopsFrom ·))) = true := by kernel_rfl
set_option maxRecDepth 100000 in
theorem k22 : ((Rows.fnExactDecodeRow.plainKeys == Tryd.prog.plainKeys)) = true := by kernel_rfl
theorem k23 : (Rows.fnExactDecodeRow.shortTexts.isNone) = true := by kernel_rfl
set_option maxRecDepth 100000 in
theorem k28 : ((Rows.fnExactDecodeRow.kinds == (if Rows.fnExactDecodeRow.domain.isEmpty then [] else Tryd.f9.params.toList.map fun t => match Tryd.prog.underlying t with | some (.int k) => some k | _ => none))) = true := by kernel_rfl
theorem k29 : ((Rows.fnExactDecodeRow.pinned == Rows.fnExactDecodeRow.pinnedBy)) = true := by kernel_rfl
set_option maxRecDepth 100000 in
theorem k30 : ((Rows.fnExactDecodeRow.veiled == (Tryd.f9.params.toList ++ Rows.fnExactDecodeSpec.plain.varTypes Tryd.prog ++ Tryd.f9.resultTypes.toList).any (Tryd.prog.veiledRec ·))) = true := by kernel_rfl
set_option maxRecDepth 100000 in
theorem k31 : (Rows.fnExactDecodeRow.veiledFits Tryd.prog Tryd.f9.params.toList (Tryd.f9.params.toList ++ Rows.fnExactDecodeSpec.plain.varTypes Tryd.prog ++ Tryd.f9.resultTypes.toList)) = true := by kernel_rfl
set_option maxRecDepth 100000 in
theorem facts : joinedFacts Tryd.prog 9 Tryd.f9 Rows.fnExactDecodeSpec Rows.fnExactDecodeRow = true := (and_mk (and_mk (and_mk (and_mk (and_mk (and_mk (and_mk (and_mk (and_mk (and_mk (and_mk (and_mk (and_mk (and_mk (and_mk (and_mk (and_mk (and_mk (and_mk (and_mk (and_mk (and_mk (and_mk (and_mk (and_mk (and_mk (and_mk (and_mk (and_mk (and_mk (and_mk k0 factLaid) factRowed) k3) k4) k5) k6) k7) k8) k9) k10) k11) k12) k13) k14) k15) k16) k17) k18) k19) k20) k21) k22) k23) factHeard) factEnter) factLift) factMake) k28) k29) k30) k31)
set_option maxRecDepth 100000 in
theorem named : Tryd.prog.funcNamed Rows.fnExactDecodeRow.func = some 9 := by kernel_rfl
set_option maxRecDepth 100000 in
theorem inst : Tryd.f9.isInstance Tryd.prog Rows.fnExactDecodeRow.origin Rows.fnExactDecodeRow.targs := of_decide_eq_true (by kernel_rfl)
set_option maxRecDepth 100000 in
theorem said : Rows.FnExactDecodeSaid :=
  OpenClaim.holds_of_cond 9 Tryd.f9 rfl rfl rfl rfl rfl rfl rfl ⟨rfl, rfl, rfl, rfl, rfl⟩ rfl rfl rfl rfl rfl named Tryd.func9 facts
    inst (by unfold Func.isWrapper; first | (rw [if_pos (by decide +kernel)]; kernel_rfl) | (rw [if_neg (by decide +kernel)]; exact ⟨rfl, rfl⟩))
    (fun os started H enc _ F => by rw [OpenClaim.pre_eq_preRow]; exact lifted os started H enc F)

set_option maxRecDepth 100000 in
theorem plain (f : FuncId) (fn : Func) (hf : Tryd.pinned.checked.prog.funcNamed "loop.example/g00563/laws.FnExactDecode" = some f) (hfn : Tryd.pinned.checked.prog.funcs[f]? = some fn) :
    false = Tryd.pinned.checked.prog.looks [] ∧ ∀ (j : Nat) t, fn.params[j]? = some t → Tryd.pinned.checked.prog.wantsStandIn t = false := by
  obtain rfl : f = 9 := Option.some.inj ((show Tryd.prog.funcNamed "loop.example/g00563/laws.FnExactDecode" = some 9 by kernel_rfl).symm.trans hf) |>.symm
  obtain rfl : fn = Tryd.f9 := (Option.some.inj (Tryd.func9.symm.trans hfn)).symm
  refine ⟨by kernel_rfl, fun j t ht => ?_⟩
  rw [Tryd.params9] at ht
  have hm := Array.mem_of_getElem? ht
  simp only [List.mem_toArray, List.mem_cons, List.not_mem_nil, or_false] at hm
  rcases hm with rfl | rfl | rfl <;> exact (show Tryd.prog.wantsStandIn _ = false by kernel_rfl)

theorem card : Rows.FnExactDecodeCardSaid :=
  Claim7.holds_tied_plain_at .later [] _ _ _ _ said (fun _ h => by cases h) (by kernel_rfl) (fun _ h => by cases h) fnExactDecode_row_tie rfl ⟨rfl, rfl⟩ (by kernel_rfl) rfl plain (by kernel_rfl)
#print axioms card
end Go.Proofs.YtoaeofahknknhaaDoor.fnExactDecode
