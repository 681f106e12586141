/- For every Instr, laws.FnExactEncode returns true: impl.Encode answers as the model spec.Encode, every field, leaves its arguments alone, and its result is memory of its own. Condition: the listed tables start as the program's text lays them (the card ties them to it). -/
import Derived.Test.YtoaeofahknknhaaDoorOpEnc2
import Derived.Test.YtoaeofahknknhaaDoorGenOpen
import Derived.Test.YtoaeofahknknhaaDoorLaid
import Derived.Test.YtoaeofahknknhaaDoorFactA
import Derived.Test.YtoaeofahknknhaaDoorFactB
import Derived.Test.YtoaeofahknknhaaDoorFactC
import Derived.Test.YtoaeofahknknhaaDoorFactD
import Derived.Deep.RegionHeld3
import Derived.ProofKit
import Derived.OpenShut
import Derived.ShutString
import Derived.ChangeOld
namespace Go.Proofs.YtoaeofahknknhaaDoor.fnExactEncode
open Go.RowKit

set_option maxRecDepth 100000 in
set_option maxHeartbeats 16000000 in
theorem walk (a0d0 : Int) (a0d1 : Int) (a0d2 : Int) (w : World) (ht : OpsT w) :
    Calls Tryd.prog 8 #[.agg #[.int .i64 a0d0, .int .i64 a0d1, .int .i64 a0d2]] w fun e w' => e = .returned (.bool true) ∧ Below w.heap.size w w' := by
  have HT := Lib.hid ht
  clear ht
  have HTo0 := Lib.hid (fun W => toInstrA a0d0 a0d1 a0d2 W)
  have HSpec := Lib.hid (fun W => specEncodeA a0d0 a0d1 a0d2 W )
  have HImpl := Lib.hid (fun W (t : OpsT W) => implEncodeA a0d0 a0d1 a0d2 W  t)
  have HBnd := Lib.hid (fun (_ : True) => (show lenA [Lf.I ((encF a0d0 a0d1 a0d2).1)] ≤ 4294967296 from encF_len a0d0 a0d1 a0d2))
  generalize (encF a0d0 a0d1 a0d2).1 = r0d0 at HSpec HImpl HBnd
  generalize (encF a0d0 a0d1 a0d2).2 = r1d0 at HSpec HImpl HBnd
  have qr1d0 : (r1d0 != r1d0) = false := by simp
  have H0 : Hid (Below w.heap.size w w) := Lib.hid (Below.refl _ _)
  go_enter Tryd.func8, Tryd.ntmps8
  have HBd := Lib.hid (HBnd.out trivial)
  clear HBnd
  have HBr0 : Hid ((Lf.I r0d0).len ≤ 4294967296) := Lib.hid (by have := HBd.out; simp only [lenA] at this; omega)
  obtain ⟨W2, hW2⟩ : ∃ W2, W2 = (w.alloc (.cells #[.int .i64 a0d0, .int .i64 a0d1, .int .i64 a0d2] 50)) := ⟨_, rfl⟩
  have hba : Below w.heap.size w W2 := by rw [hW2]; exact ((Below.refl _ _).alloc (Nat.le_refl _) _)
  have Z3 : Hid (W2.heap.size = w.heap.size + 1) := Lib.hid (by rw [hW2]; simp)
  have B4 : Hid (Box W2 (w.heap.size) 50 #[.int .i64 a0d0, .int .i64 a0d1, .int .i64 a0d2]) := Lib.hid (by rw [hW2]; exact (Box.new w 50 #[.int .i64 a0d0, .int .i64 a0d1, .int .i64 a0d2]))
  have H5 := Lib.hid (bt H0.out hba)
  have Z6 : Hid (w.heap.size ≤ W2.heap.size) := Lib.hid hba.size
  clear H0 hba
  have HW2 := Lib.hid hW2
  clear hW2
  go_wp2_with fail
  rw [← HW2.out]
  refine (HTo0.out _).mono ?_
  rintro e w7 ⟨rfl, hc⟩
  clear HW2
  have F8 := Lib.hid (B4.out.step hc)
  have H9 := Lib.hid (bt H5.out hc)
  have Z10 : Hid (W2.heap.size ≤ w7.heap.size) := Lib.hid hc.size
  clear B4 H5 hc
  go_wp2_with fail
  refine (HSpec.out w7 ).mono ?_
  rintro e w11 ⟨w0vA0, w0vc0, rfl, Nw, hc⟩
  have F12 := Lib.hid (F8.out.step hc)
  have H13 := Lib.hid (bt H9.out hc)
  have Z14 : Hid (w7.heap.size ≤ w11.heap.size) := Lib.hid hc.size
  clear F8 H9 hc
  clear HSpec
  have f0 : w11.cell? ⟨w.heap.size, 0, none⟩ = some (.int .i64 a0d0) := F12.out.cell 0 rfl
  have f1 : w11.cell? ⟨w.heap.size, 1, none⟩ = some (.int .i64 a0d1) := F12.out.cell 1 rfl
  have f2 : w11.cell? ⟨w.heap.size, 2, none⟩ = some (.int .i64 a0d2) := F12.out.cell 2 rfl
  go_wp2_with fail
  refine (HTo0.out _).mono ?_
  rintro e w16 ⟨rfl, hc⟩
  clear f0 f1 f2
  have F17 := Lib.hid (F12.out.step hc)
  have F18 := Lib.hid (Nw.out.below hc)
  have H19 := Lib.hid (bt H13.out hc)
  have Z20 : Hid (w11.heap.size ≤ w16.heap.size) := Lib.hid hc.size
  clear F12 Nw H13 hc
  go_wp2_with fail
  refine (HImpl.out w16 (HT.out.below (H19.out))).mono ?_
  rintro e w21 ⟨g0vA0, g0vc0, rfl, Ng, hc⟩
  have F22 := Lib.hid (F17.out.step hc)
  have F23 := Lib.hid (F18.out.below hc)
  have H24 := Lib.hid (bt H19.out hc)
  have Z25 : Hid (w16.heap.size ≤ w21.heap.size) := Lib.hid hc.size
  clear F17 F18 H19 hc
  go_wp2_with fail
  refine (eqLI (.slice g0vA0 r0d0.length g0vc0) (.slice w0vA0 r0d0.length w0vc0) r0d0 w21 Ng.out.reads.1 F23.out.reads.1 (by have q := HBr0.out; simp only [Lf.len] at q; unfold maxLen; omega)).mono ?_
  rintro e w26 ⟨rfl, hc⟩
  have F27 := Lib.hid (F22.out.step hc)
  have F28 := Lib.hid (F23.out.below hc)
  have F29 := Lib.hid (Ng.out.below hc)
  have H30 := Lib.hid (bt H24.out hc)
  have Z31 : Hid (w21.heap.size ≤ w26.heap.size) := Lib.hid hc.size
  clear F22 F23 Ng H24 hc
  go_wp2_with fail
  have HM := Lib.hid (markLI (.slice g0vA0 r0d0.length g0vc0) r0d0 (1) w16.heap.size w21.heap.size w26 F29.out.1.1 (by omega) (by have q := HBr0.out; simpa only [Lf.len] using q) (by have := HBr0.out; omega))
  refine HM.out.mono ?_
  rintro e w32 ⟨rfl, M1, U1⟩
  clear HM
  have U2 := U1.btw F29.out
  have N33 := Lib.hid (OwnA.one M1.out)
  have F34 := Lib.hid (F27.out.btw U2 (by have := Z3.out; have := Z6.out; have := Z10.out; have := Z14.out; have := Z20.out; have := Z25.out; have := Z31.out; omega))
  have F35 := Lib.hid (F28.out.btw U2 (by have := Z3.out; have := Z6.out; have := Z10.out; have := Z14.out; have := Z20.out; have := Z25.out; have := Z31.out; omega))
  have H36 := Lib.hid (H30.out.trans ((U2.below (by have := Z3.out; have := Z6.out; have := Z10.out; have := Z14.out; have := Z20.out; have := Z25.out; have := Z31.out; omega)).mono (by have := Z3.out; have := Z6.out; have := Z10.out; have := Z14.out; have := Z20.out; have := Z25.out; have := Z31.out; omega)))
  have Z37 : Hid (w26.heap.size ≤ w32.heap.size) := Lib.hid U2.size
  clear F27 F28 H30
  clear U1 U2 M1 F29
  have hm0 : (((1 + (Lf.I r0d0).len : Nat) : Int) != ((1 + (Lf.I r0d0).len : Nat) : Int)) = false := by simp
  go_wp2_with fail
  refine (heldLI (.slice g0vA0 r0d0.length g0vc0) r0d0 (1) w32 N33.out.reads.1 (by omega) (by have q := HBr0.out; simpa only [Lf.len] using q) (by have := HBr0.out; omega)).mono ?_
  rintro e w38 ⟨rfl, hc⟩
  have F39 := Lib.hid (F34.out.step hc)
  have F40 := Lib.hid (F35.out.below hc)
  have F41 := Lib.hid (N33.out.below hc)
  have H42 := Lib.hid (bt H36.out hc)
  have Z43 : Hid (w32.heap.size ≤ w38.heap.size) := Lib.hid hc.size
  clear F34 F35 N33 H36 hc
  have hqw38 : ¬ ((1 + (Lf.I r0d0).len : Nat) : Int) < 0 := by omega
  have f0 : w38.cell? ⟨w.heap.size, 0, none⟩ = some (.int .i64 a0d0) := F39.out.cell 0 rfl
  have f1 : w38.cell? ⟨w.heap.size, 1, none⟩ = some (.int .i64 a0d1) := F39.out.cell 1 rfl
  have f2 : w38.cell? ⟨w.heap.size, 2, none⟩ = some (.int .i64 a0d2) := F39.out.cell 2 rfl
  go_wp2_with fail
  refine (HTo0.out _).mono ?_
  rintro e w45 ⟨rfl, hc⟩
  clear f0 f1 f2
  have F46 := Lib.hid (F39.out.step hc)
  have F47 := Lib.hid (F40.out.below hc)
  have F48 := Lib.hid (F41.out.below hc)
  have H49 := Lib.hid (bt H42.out hc)
  have Z50 : Hid (w38.heap.size ≤ w45.heap.size) := Lib.hid hc.size
  clear F39 F40 F41 H42 hc
  go_wp2_with fail
  refine (HImpl.out w45 (HT.out.below (H49.out))).mono ?_
  rintro e w51 ⟨h0vA0, h0vc0, rfl, Nh, hc⟩
  have F52 := Lib.hid (F46.out.step hc)
  have F53 := Lib.hid (F47.out.below hc)
  have F54 := Lib.hid (F48.out.below hc)
  have H55 := Lib.hid (bt H49.out hc)
  have Z56 : Hid (w45.heap.size ≤ w51.heap.size) := Lib.hid hc.size
  clear F46 F47 F48 H49 hc
  go_wp2_with fail
  refine (eqLI (.slice h0vA0 r0d0.length h0vc0) (.slice w0vA0 r0d0.length w0vc0) r0d0 w51 Nh.out.reads.1 F53.out.reads.1 (by have q := HBr0.out; simp only [Lf.len] at q; unfold maxLen; omega)).mono ?_
  rintro e w57 ⟨rfl, hc⟩
  have F58 := Lib.hid (F52.out.step hc)
  have F59 := Lib.hid (F53.out.below hc)
  have F60 := Lib.hid (F54.out.below hc)
  have F61 := Lib.hid (Nh.out.below hc)
  have H62 := Lib.hid (bt H55.out hc)
  have Z63 : Hid (w51.heap.size ≤ w57.heap.size) := Lib.hid hc.size
  clear F52 F53 F54 Nh H55 hc
  go_wp2_with fail
  refine (heldLI (.slice g0vA0 r0d0.length g0vc0) r0d0 (1) w57 F60.out.reads.1 (by omega) (by have q := HBr0.out; simpa only [Lf.len] using q) (by have := HBr0.out; omega)).mono ?_
  rintro e w64 ⟨rfl, hc⟩
  have F65 := Lib.hid (F58.out.step hc)
  have F66 := Lib.hid (F59.out.below hc)
  have F67 := Lib.hid (F60.out.below hc)
  have F68 := Lib.hid (F61.out.below hc)
  have H69 := Lib.hid (bt H62.out hc)
  have Z70 : Hid (w57.heap.size ≤ w64.heap.size) := Lib.hid hc.size
  clear F58 F59 F60 F61 H62 hc
  have hqw64 : ¬ ((1 + (Lf.I r0d0).len : Nat) : Int) < 0 := by omega
  go_wp2
  go_ret
  exact ⟨rfl, H69.out⟩

/-! The row's step and the card. -/
open Go.ChangeShapes Go.WideShapes Go.ChangeAt
open Go.ChangeMaps (open_string shut_string)
set_option maxRecDepth 100000 in
theorem laidOut : laidOutB Tryd.prog = true := factLaid
set_option maxRecDepth 100000 in
theorem laid_met (os : Os) (args : Array Value) : laidMet Tryd.prog Rows.fnExactEncodeRow.laid ((laidWorld os).forCall (fun _ _ => 0) ⟨#[], args, []⟩).memory :=
  laidMet_of_run' 8 (by kernel_rfl) (by kernel_rfl)
set_option maxRecDepth 100000 in
theorem laid_of {W : World} (h : laidMetH Tryd.prog Rows.fnExactEncodeRow.laid W) : laidMet Tryd.prog Rows.fnExactEncodeRow.laid W := h
set_option maxRecDepth 100000 in
theorem ops_of {W : World} (h : laidMetH Tryd.prog Rows.fnExactEncodeRow.laid W) : W.var? Tryd.prog "loop.example/g00563/impl.operations" = some opCells :=
  var_of_reads (reads_of_laid (laid_of h) (by unfold Rows.fnExactEncodeRow; repeat (first | exact List.Mem.head _ | apply List.Mem.tail)))
set_option maxRecDepth 100000 in
theorem contract (H : Type) (enc : TypeId × Value → H) (W : World) (base : Nat) (args : Array Value) (ds gs : List (DataW H)) (before : List MemPlace)
    (hval0 : ∀ (j : Nat) t v, Tryd.f8.params[j]? = some t → args[j]? = some v → Value.okWide Tryd.prog W .any base t v)
    (hW : DataW.Whole enc Tryd.prog Tryd.f8.params.toList Rows.fnExactEncodeSpec.vars false W args.toList ds gs before) (hL : laidMetH Tryd.prog Rows.fnExactEncodeRow.laid W) :
    Calls Tryd.prog 8 args W fun e W' => ∃ v, e = .returned v ∧ Rows.fnExactEncodeSpec.post enc Tryd.prog Tryd.f8 false true false false W args v W' := by
  have hval : ∀ (j : Nat) t v, Tryd.f8.params[j]? = some t → args[j]? = some v → Value.okWide Tryd.prog W .any base t v := hval0
  have hW' := hW
  obtain ⟨p, q, hA0, hV0, rfl, hfz, hnd⟩ := hW
  have hA : DataW.TrodAll enc Tryd.prog W 0 (fun _ => true) true Tryd.f8.params.toList args.toList ds p := hA0
  have hV : DataW.TrodVars enc Tryd.prog W (fun _ => true) ["loop.example/g00563/impl.operations"] gs q := hV0
  rw [Tryd.params8] at hA hval
  obtain ⟨v0, vs0, d0, ds0, p0, q0, hargs, rfl, rfl, h0, r0⟩ := trodAll_cons hA
  obtain ⟨rfl, rfl, rfl⟩ := trodAll_nil r0
  obtain rfl : args = #[v0] := by cases args; simp_all
  have k0 := h0
  have lt0 : ∀ x ∈ p0, x.block < W.heap.size := by obtain ⟨m, hm⟩ := k0; exact DataW.trod_lt m _ _ _ hm
  obtain ⟨a0d0, a0d1, a0d2, rfl, R0, G0⟩ := openInstr (hval 0 50 v0 rfl rfl) h0
  obtain ⟨g, t, cs, fuel, d, p', rfl, hg, ht, hvar, hd, rfl⟩ := trodVars_one hV
  obtain rfl := Option.some.inj (gOps.symm.trans hg)
  obtain rfl := Option.some.inj (gOpsType.symm.trans ht)
  obtain rfl : cs = opCells := Option.some.inj (hvar.symm.trans (ops_of hL))
  obtain ⟨rfl, rfl⟩ := DataW.Trod.unique (v := .agg opCells) ⟨fuel, hd⟩ ⟨4, reads_ops enc W _⟩
  clear hA0 hV0 hval0
  have HT := opsT_of_var hvar
  refine (walk a0d0 a0d1 a0d2 W HT).mono fun e W' ⟨he, bel⟩ => ?_
  subst he
  exact ⟨_, rfl, _, _, _, [], _, _, hW', trodAll_mk1 (shut_bool Tryd.underlying4 _), (trodAll_cons_mk (Below.trod laidOut (by kernel_rfl) (of_decide_eq_true (by kernel_rfl)) k0 bel lt0) trodAll_mk0), ⟨0, 92, opCells, 4, [], [], hg, ht, var?_below bel hg HT.lt hvar, reads_ops enc W' _, rfl, rfl⟩, bel.frame _, fun h => by cases h⟩

set_option maxRecDepth 100000 in
theorem reads (os : Os) {H : Type} (enc : TypeId × Value → H) : ∃ x, DataW.whole enc Tryd.prog ((laidWorld os).forCall (fun _ _ => 0) ⟨#[], #[.agg #[.int .i64 0, .int .i64 0, .int .i64 0]], []⟩).memory Tryd.f8.params.toList Rows.fnExactEncodeSpec.vars false (#[.agg #[.int .i64 0, .int .i64 0, .int .i64 0]] : Array Value).toList 8 = some x :=
  Option.isSome_iff_exists.1 (by kernel_rfl)

set_option maxRecDepth 100000 in
theorem lifted (os : Os) (started : os.Started) (H : Type) (enc : TypeId × Value → H) (F : Stop.Interp) :
    ReturnsInHanded {} Tryd.checked os 8 .any ((OpenSpec.ofChange Rows.fnExactEncodeSpec).preRow enc Tryd.prog Tryd.f8 Rows.fnExactEncodeRow.domain false Rows.fnExactEncodeRow.laid) (((OpenSpec.ofChange Rows.fnExactEncodeSpec).at F).post enc Tryd.prog Tryd.f8 false true false false) := by
  obtain ⟨x, hx⟩ := reads os enc
  refine returnsInHanded_of_row (C := Tryd.checked) (s := OpenSpec.ofChange Rows.fnExactEncodeSpec) ownK started (by kernel_rfl) Tryd.func8
    (witness_row_at (enc := enc) (C := Tryd.checked) false (laidWorld os) #[.agg #[.int .i64 0, .int .i64 0, .int .i64 0]] rfl (by kernel_rfl) (by kernel_rfl) (by kernel_rfl)
      (OpenSpec.preRow_of_cond 8 hx rfl (fun k hk => by cases hk) (by kernel_rfl) (laid_met os _))) ?_
  intro W base args ds gs before hval hW _ _ _ hL _ _
  exact contract H enc W base args ds gs before hval hW hL

theorem k0 : (Rows.fnExactEncodeRow.wf (OpenSpec.ofChange Rows.fnExactEncodeSpec)) = true := by kernel_rfl
set_option maxRecDepth 100000 in
theorem k3 : (Tryd.f8.params.all (Tryd.prog.readableRec ·)) = true := by kernel_rfl
set_option maxRecDepth 100000 in
theorem k4 : (namedTie Tryd.prog Rows.fnExactEncodeRow.named Rows.fnExactEncodeSpec.vars) = true := by kernel_rfl
theorem k5 : ((Rows.fnExactEncodeRow.stops == [])) = true := by kernel_rfl
set_option maxRecDepth 100000 in
theorem k6 : ((Tryd.prog.stops == [])) = true := by kernel_rfl
theorem k7 : ((Rows.fnExactEncodeRow.knobs == [])) = true := by kernel_rfl
set_option maxRecDepth 100000 in
theorem k8 : ((Tryd.prog.stopKnobs == [])) = true := by kernel_rfl
set_option maxRecDepth 100000 in
theorem k9 : ((Rows.fnExactEncodeRow.inPlace == Tryd.prog.inPlace 8)) = true := by kernel_rfl
set_option maxRecDepth 100000 in
theorem k10 : ((Rows.fnExactEncodeRow.unfollowed == Tryd.prog.unfollowed 8)) = true := by kernel_rfl
set_option maxRecDepth 100000 in
theorem k11 : ((Rows.fnExactEncodeRow.recurses == Tryd.prog.recurses 8)) = true := by kernel_rfl
set_option maxRecDepth 100000 in
theorem k12 : ((Rows.fnExactEncodeRow.named == Tryd.prog.varsNamed 8)) = true := by kernel_rfl
set_option maxRecDepth 100000 in
theorem k13 : ((Rows.fnExactEncodeRow.maps == (Tryd.f8.params.toList ++ Rows.fnExactEncodeSpec.plain.varTypes Tryd.prog).any (Tryd.prog.mapsRec ·))) = true := by kernel_rfl
set_option maxRecDepth 100000 in
theorem k14 : ((Rows.fnExactEncodeRow.ifaces == (Tryd.f8.params.toList ++ Rows.fnExactEncodeSpec.plain.varTypes Tryd.prog).any (Tryd.prog.ifacesRec ·))) = true := by kernel_rfl
set_option maxRecDepth 100000 in
theorem k15 : ((Rows.fnExactEncodeRow.mapsOut == Tryd.prog.mapsAmong Tryd.f8.resultTypes.toList)) = true := by kernel_rfl
set_option maxRecDepth 100000 in
theorem k16 : ((Rows.fnExactEncodeRow.loops == (Tryd.f8.params.toList ++ Rows.fnExactEncodeSpec.plain.varTypes Tryd.prog).any (Tryd.prog.loopsFrom ·))) = true := by kernel_rfl
set_option maxRecDepth 100000 in
theorem k17 : ((Rows.fnExactEncodeRow.wideKeys == (Tryd.f8.params.toList ++ Rows.fnExactEncodeSpec.plain.varTypes Tryd.prog ++ Tryd.f8.resultTypes.toList).any (Tryd.prog.wideKeysFrom ·))) = true := by kernel_rfl
set_option maxRecDepth 100000 in
theorem k18 : (Rows.fnExactEncodeSpec.vars.all (Tryd.prog.varReadable ·)) = true := by kernel_rfl
set_option maxRecDepth 100000 in
theorem k19 : (Tryd.f8.resultTypes.all (fun t => Tryd.prog.readableRec t && decide (t < Tryd.prog.types.size))) = true := by kernel_rfl
set_option maxRecDepth 100000 in
theorem k20 : ((Rows.fnExactEncodeRow.ifacesOut == Tryd.f8.resultTypes.toList.any (Tryd.prog.ifacesRec ·))) = true := by kernel_rfl
set_option maxRecDepth 100000 in
theorem k21 : ((Rows.fnExactEncodeRow.loopsOut == Tryd.f8.resultTypes.toList.any (Tryd.prog.loopsFrom ·))) = true := by kernel_rfl
set_option maxRecDepth 100000 in
theorem k22 : ((Rows.fnExactEncodeRow.plainKeys == Tryd.prog.plainKeys)) = true := by kernel_rfl
theorem k23 : (Rows.fnExactEncodeRow.shortTexts.isNone) = true := by kernel_rfl
set_option maxRecDepth 100000 in
theorem k28 : ((Rows.fnExactEncodeRow.kinds == (if Rows.fnExactEncodeRow.domain.isEmpty then [] else Tryd.f8.params.toList.map fun t => match Tryd.prog.underlying t with | some (.int k) => some k | _ => none))) = true := by kernel_rfl
theorem k29 : ((Rows.fnExactEncodeRow.pinned == Rows.fnExactEncodeRow.pinnedBy)) = true := by kernel_rfl
set_option maxRecDepth 100000 in
theorem k30 : ((Rows.fnExactEncodeRow.veiled == (Tryd.f8.params.toList ++ Rows.fnExactEncodeSpec.plain.varTypes Tryd.prog ++ Tryd.f8.resultTypes.toList).any (Tryd.prog.veiledRec ·))) = true := by kernel_rfl
set_option maxRecDepth 100000 in
theorem k31 : (Rows.fnExactEncodeRow.veiledFits Tryd.prog Tryd.f8.params.toList (Tryd.f8.params.toList ++ Rows.fnExactEncodeSpec.plain.varTypes Tryd.prog ++ Tryd.f8.resultTypes.toList)) = true := by kernel_rfl
set_option maxRecDepth 100000 in
theorem facts : joinedFacts Tryd.prog 8 Tryd.f8 Rows.fnExactEncodeSpec Rows.fnExactEncodeRow = true := (and_mk (and_mk (and_mk (and_mk (and_mk (and_mk (and_mk (and_mk (and_mk (and_mk (and_mk (and_mk (and_mk (and_mk (and_mk (and_mk (and_mk (and_mk (and_mk (and_mk (and_mk (and_mk (and_mk (and_mk (and_mk (and_mk (and_mk (and_mk (and_mk (and_mk (and_mk k0 factLaid) factRowed) k3) k4) k5) k6) k7) k8) k9) k10) k11) k12) k13) k14) k15) k16) k17) k18) k19) k20) k21) k22) k23) factHeard) factEnter) factLift) factMake) k28) k29) k30) k31)
set_option maxRecDepth 100000 in
theorem named : Tryd.prog.funcNamed Rows.fnExactEncodeRow.func = some 8 := by kernel_rfl
set_option maxRecDepth 100000 in
theorem inst : Tryd.f8.isInstance Tryd.prog Rows.fnExactEncodeRow.origin Rows.fnExactEncodeRow.targs := of_decide_eq_true (by kernel_rfl)
set_option maxRecDepth 100000 in
theorem said : Rows.FnExactEncodeSaid :=
  OpenClaim.holds_of_cond 8 Tryd.f8 rfl rfl rfl rfl rfl rfl rfl ⟨rfl, rfl, rfl, rfl, rfl⟩ rfl rfl rfl rfl rfl named Tryd.func8 facts
    inst (by unfold Func.isWrapper; first | (rw [if_pos (by decide +kernel)]; kernel_rfl) | (rw [if_neg (by decide +kernel)]; exact ⟨rfl, rfl⟩))
    (fun os started H enc _ F => by rw [OpenClaim.pre_eq_preRow]; exact lifted os started H enc F)

set_option maxRecDepth 100000 in
theorem plain (f : FuncId) (fn : Func) (hf : Tryd.pinned.checked.prog.funcNamed "loop.example/g00563/laws.FnExactEncode" = some f) (hfn : Tryd.pinned.checked.prog.funcs[f]? = some fn) :
    false = Tryd.pinned.checked.prog.looks [] ∧ ∀ (j : Nat) t, fn.params[j]? = some t → Tryd.pinned.checked.prog.wantsStandIn t = false := by
  obtain rfl : f = 8 := Option.some.inj ((show Tryd.prog.funcNamed "loop.example/g00563/laws.FnExactEncode" = some 8 by kernel_rfl).symm.trans hf) |>.symm
  obtain rfl : fn = Tryd.f8 := (Option.some.inj (Tryd.func8.symm.trans hfn)).symm
  refine ⟨by kernel_rfl, fun j t ht => ?_⟩
  rw [Tryd.params8] at ht
  have hm := Array.mem_of_getElem? ht
  simp only [List.mem_toArray, List.mem_cons, List.not_mem_nil, or_false] at hm
  subst hm; exact (show Tryd.prog.wantsStandIn _ = false by kernel_rfl)

theorem card : Rows.FnExactEncodeCardSaid :=
  Claim7.holds_tied_plain_at .later [] _ _ _ _ said (fun _ h => by cases h) (by kernel_rfl) (fun _ h => by cases h) fnExactEncode_row_tie rfl ⟨rfl, rfl⟩ (by kernel_rfl) rfl plain (by kernel_rfl)
#print axioms card
end Go.Proofs.YtoaeofahknknhaaDoor.fnExactEncode
