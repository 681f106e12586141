/- For every disk (of any size) and every int, laws.FnExactReadDisk returns true: impl.ReadDisk answers as the model spec.ReadDisk and leaves its argument alone. No condition. -/
import Derived.Test.YtoogaaoknpfkoaaOkDisk
import Derived.Test.YtoogaaoknpfkoaaSzDisk
import Derived.Test.YtoogaaoknpfkoaaToDisk
import Derived.Test.YtoogaaoknpfkoaaReadDisk
import Derived.Deep.RegionHeld3
import Derived.Test.YtoogaaoknpfkoaaOpen
import Derived.Test.YtoogaaoknpfkoaaFactA
import Derived.Test.YtoogaaoknpfkoaaFactB
import Derived.Test.YtoogaaoknpfkoaaFactC
import Derived.Test.YtoogaaoknpfkoaaFactD
import Derived.ProofKit
import Derived.OpenShut
import Derived.ShutString
import Derived.ChangeOld
namespace Go.Proofs.Ytoogaaoknpfkoaa.fnExactReadDisk
open Go.RowKit

set_option maxRecDepth 100000 in
set_option maxHeartbeats 4000000 in
theorem walk (A C : Option Addr) (n c m d : Nat) (ss : List ByteArray) (ws : List (Int × ByteArray)) (a : Int) (w : World) (hl : ss.length = n) (hm : ws.length = m) (hn : n ≤ maxLen) (hmm : m ≤ maxLen) (h : StrL w A ss) (g : WrL w C ws) (fs : FitS ss) (fw : FitW ws) (_wa : (Lit.int .i64 a).wf = true) :
    Calls Try.prog 4 #[.agg #[.slice A n c, .slice C m d], .int .i64 a] w fun e w' => e = .returned (.bool true) ∧ Below w.heap.size w w' := by
  have HSz := Lib.hid (fun W (hb : Below w.heap.size w W) => szDisk A C n c m d ss ws 1048576 W (by omega) (by omega) hl hm hn hmm (h.below hb) (g.below hb) fs fw)
  have HTo := Lib.hid (fun W (hb : Below w.heap.size w W) (h1 : n ≤ 1048576) (h2 : m ≤ 1048576) => toDisk A C n c m d ss ws W hl hm h1 h2 (h.below hb) (g.below hb))
  have HL := Lib.hid hl
  have HM := Lib.hid hm
  have HF := Lib.hid (And.intro fs fw)
  clear hl hm hn hmm h g fs fw _wa
  have hb0 : Below w.heap.size w (w.alloc (.cells #[.slice A n c, .slice C m d] 44)) := (Below.refl _ _).alloc (Nat.le_refl _) _
  have X0 := Box.new w 44 #[.slice A n c, .slice C m d]
  go_enter Try.func4, Try.ntmps4
  go_wp2_with fail
  refine (HSz.out _ hb0).mono ?_
  rintro e w1 ⟨hres, hb1⟩
  have X1 := X0.step hb1
  have hb1' := bt hb0 hb1
  clear hb0 X0 HSz hb1
  rcases hres with rfl | ⟨rfl, hle⟩
  · go_wp2
    go_ret
    exact ⟨rfl, hb1'⟩
  have hsz : n + m ≤ 1048576 := by have := HL.out; have := HM.out; unfold szOf at hle; omega
  generalize szOf ss ws = u at hle
  have hp : ¬ (1048576 : Int) - (u : Int) < 0 := by omega
  have f0 := X1.cell 0 rfl
  have f1 := X1.cell 1 rfl
  have HX1 := Lib.hid X1
  clear X1
  go_wp2_with fail
  refine (HTo.out _ hb1' (by omega) (by omega)).mono ?_
  rintro e w2 ⟨A2, n2, c2, C2, m2, d2, rfl, L2, M2, S2, R2, hb2⟩
  have hb2' := bt hb1' hb2
  have HX2 := Lib.hid (HX1.out.step hb2)
  have hn2 : n2 ≤ maxLen := by have := L2.out; have := HL.out; unfold maxLen; omega
  have hm2 : m2 ≤ maxLen := by have := M2.out; have := HM.out; unfold maxLen; omega
  clear f0 f1 HX1 hb1' hb2
  go_wp2_with fail
  refine (specRead A2 C2 n2 c2 m2 d2 ss ws a w2 L2.out M2.out hn2 hm2 S2.out.reads R2.out.reads HF.out.1 HF.out.2).mono ?_
  rintro e w3 ⟨rfl, hb3⟩
  have hb3' := bt hb2' hb3
  have HX3 := Lib.hid (HX2.out.step hb3)
  have f0 := HX3.out.cell 0 rfl
  have f1 := HX3.out.cell 1 rfl
  clear HX2 hb3 hb2' L2 M2 S2 R2 hn2 hm2
  go_wp2_with fail
  refine (HTo.out _ hb3' (by omega) (by omega)).mono ?_
  rintro e w4 ⟨A4, n4, c4, C4, m4, d4, rfl, L4, M4, S4, R4, hb4⟩
  have hb4' := bt hb3' hb4
  have HX4 := Lib.hid (HX3.out.step hb4)
  have hn4 : n4 ≤ maxLen := by have := L4.out; have := HL.out; unfold maxLen; omega
  have hm4 : m4 ≤ maxLen := by have := M4.out; have := HM.out; unfold maxLen; omega
  have hba := (Below.refl w4.heap.size w4).alloc (Nat.le_refl _) (.cells #[.slice A4 n4 c4, .slice C4 m4 d4] 26)
  have HX5 := Lib.hid (HX4.out.step hba)
  have HZ5 := Lib.hid (Box.new w4 26 #[.slice A4 n4 c4, .slice C4 m4 d4])
  have HS5 := Lib.hid (S4.out.below hba)
  have HR5 := Lib.hid (R4.out.below hba)
  have hb5' := bt hb4' hba
  clear f0 f1 HX3 hb3' hb4 HX4 S4 R4 hba
  go_wp2_with fail
  generalize w4.alloc (.cells #[.slice A4 n4 c4, .slice C4 m4 d4] 26) = w5 at HX5 HZ5 HS5 HR5 hb5' ⊢
  refine (implRead A4 C4 n4 c4 m4 d4 ss ws a w5 L4.out M4.out hn4 hm4 HS5.out.reads HR5.out.reads HF.out.1 HF.out.2).mono ?_
  rintro e w6 ⟨rfl, hb6⟩
  have hb6' := bt hb5' hb6
  have X6 := HX5.out.step hb6
  have Z6 := HZ5.out.step hb6
  have HS6 := Lib.hid (HS5.out.below hb6)
  have HR6 := Lib.hid (HR5.out.below hb6)
  clear HX5 HZ5 HS5 HR5 hb5' hb6 hb4'
  have f0 : w6.cell? ⟨w.heap.size, 0, none⟩ = some (.slice A n c) := X6.cell 0 rfl
  have f1 : w6.cell? ⟨w.heap.size, 1, none⟩ = some (.slice C m d) := X6.cell 1 rfl
  have f2 : w6.cell? ⟨w4.heap.size, 0, none⟩ = some (.slice A4 n4 c4) := Z6.cell 0 rfl
  have f3 : w6.cell? ⟨w4.heap.size, 1, none⟩ = some (.slice C4 m4 d4) := Z6.cell 1 rfl
  have HK := Lib.hid (fun W' (hb : Below w6.heap.size w6 W') => And.intro ((hb.cell (cell_lt f0)).trans f0) (And.intro ((hb.cell (cell_lt f1)).trans f1) (And.intro ((hb.cell (cell_lt f2)).trans f2) ((hb.cell (cell_lt f3)).trans f3))))
  clear X6 Z6
  generalize (readOf ss ws a).1 = os1
  generalize (readOf ss ws a).2 = oi1
  have hob : (oi1 != oi1) = false := by simp
  have hob2 : (os1.toList == os1.toList) = true := by simp
  have h6 : Below w6.heap.size w6 w6.drew := (Below.refl _ _).drew
  go_wp2
  go_region_held3 (fun W => W.cell? ⟨w.heap.size, 0, none⟩ = some (.slice A n c) ∧ W.cell? ⟨w.heap.size, 1, none⟩ = some (.slice C m d) ∧ W.cell? ⟨w4.heap.size, 0, none⟩ = some (.slice A4 n4 c4) ∧ W.cell? ⟨w4.heap.size, 1, none⟩ = some (.slice C4 m4 d4))
    (first | exact HK.out _ h6 | exact HK.out _ (bt h6 hb7) | exact HK.out _ (bt (bt h6 hb7) hb8))
    (first | (go_at_call 35; refine (HTo.out _ hb6'.drew (by omega) (by omega)).mono ?_; rintro e w7 ⟨A7, n7, c7, C7, m7, d7, rfl, L7, M7, S7, R7, hb7⟩) | (go_at_call 36; refine (eqDiskSame A4 A7 C4 C7 n4 n7 m4 m7 c4 c7 d4 d7 ss ws w7 L4.out L7.out M4.out M7.out hn4 hm4 (HS6.out.below (bt h6 hb7)).reads S7.out.reads (HR6.out.below (bt h6 hb7)).reads R7.out.reads).mono ?_; rintro e w8 ⟨rfl, hb8⟩))
  go_wp2
  go_ret
  exact ⟨rfl, bt hb6' (bt (bt h6 hb7) hb8)⟩

/-! The row's step. -/
open Go.ChangeShapes Go.WideShapes Go.ChangeAt
open Go.ChangeMaps (open_string shut_string)
set_option maxRecDepth 100000 in
theorem own : ownKnob Try.prog.godebug = none := by kernel_rfl
set_option maxRecDepth 100000 in
theorem laidOut : laidOutB Try.prog = true := factLaid
set_option maxRecDepth 100000 in
theorem lifted (os : Os) (started : os.Started) (H : Type) (enc : TypeId × Value → H) :
    ReturnsInHanded {} Try.checked os 4 .any (Rows.fnExactReadDiskSpec.pre6 enc Try.prog Try.f4 Rows.fnExactReadDiskRow.domain false) (Rows.fnExactReadDiskSpec.post enc Try.prog Try.f4 false true false false) := by
  refine returnsInHanded_of_change (C := Try.checked) own started (by kernel_rfl) Try.func4
    (ChangeSpec.witness6 (enc := enc) (C := Try.checked) false ⟨#[], #[.agg #[.slice none 0 0, .slice none 0 0], .int .i64 0], []⟩ 8 (by kernel_rfl) (by kernel_rfl) (by kernel_rfl) (by kernel_rfl)) ?_
  intro W base args ds gs before hval0 hW hcnd _
  have hval : ∀ (j : Nat) t v, Try.f4.params[j]? = some t → args[j]? = some v → Value.okWide Try.prog W .any base t v := hval0
  have hW' := hW
  obtain ⟨p, q, hA0, hV, rfl, hfz, hnd⟩ := hW
  have hA : DataW.TrodAll enc Try.prog W 0 (fun _ => true) true Try.f4.params.toList args.toList ds p := hA0
  rw [Try.params4] at hA hval
  obtain ⟨v0, vs0, d0, ds0, p0, q0, hargs, rfl, rfl, h0, r0⟩ := trodAll_cons hA
  obtain ⟨v1, vs1, d1, ds1, p1, q1, rfl, rfl, rfl, h1, r1⟩ := trodAll_cons r0
  obtain ⟨rfl, rfl, rfl⟩ := trodAll_nil r1
  obtain rfl : args = #[v0, v1] := by cases args; simp_all
  obtain ⟨rfl, rfl⟩ := trodVars_none hV
  have k0 := h0
  have lt0 : ∀ x ∈ p0, x.block < W.heap.size := by obtain ⟨m, hm⟩ := k0; exact DataW.trod_lt m _ _ _ hm
  obtain ⟨A0, n0, c0, C0, m0, e0, ss0, ws0, rfl, hl0, hm0, hn0, hmm0, hs0, hw0, fs0, fw0⟩ := open_disk (hval 0 44 v0 rfl rfl) h0
  obtain ⟨a1, rfl, rfl, rfl, w1⟩ := open_int Try.underlying3 (hval 1 3 v1 rfl rfl) h1
  clear hA0 hval0
  refine (walk A0 C0 n0 c0 m0 e0 ss0 ws0 a1 W hl0 hm0 hn0 hmm0 hs0 hw0 fs0 fw0 w1).mono fun e W' ⟨he, bel⟩ => ?_
  subst he
  exact ⟨_, rfl, _, _, _, [], _, [], hW', trodAll_mk1 (shut_bool Try.underlying4 _), (trodAll_cons_mk (Below.trod laidOut (by kernel_rfl) (of_decide_eq_true (by kernel_rfl)) k0 bel lt0) (trodAll_cons_mk (shut_int Try.underlying3 w1) trodAll_mk0)), rfl, bel.frame _, fun h => by cases h⟩

theorem k0 : (Rows.fnExactReadDiskRow.wf (OpenSpec.ofChange Rows.fnExactReadDiskSpec)) = true := by kernel_rfl
set_option maxRecDepth 100000 in
theorem k3 : (Try.f4.params.all (Try.prog.readableRec ·)) = true := by kernel_rfl
set_option maxRecDepth 100000 in
theorem k4 : (namedTie Try.prog Rows.fnExactReadDiskRow.named Rows.fnExactReadDiskSpec.vars) = true := by kernel_rfl
theorem k5 : ((Rows.fnExactReadDiskRow.stops == [])) = true := by kernel_rfl
set_option maxRecDepth 100000 in
theorem k6 : ((Try.prog.stops == [])) = true := by kernel_rfl
theorem k7 : ((Rows.fnExactReadDiskRow.knobs == [])) = true := by kernel_rfl
set_option maxRecDepth 100000 in
theorem k8 : ((Try.prog.stopKnobs == [])) = true := by kernel_rfl
set_option maxRecDepth 100000 in
theorem k9 : ((Rows.fnExactReadDiskRow.inPlace == Try.prog.inPlace 4)) = true := by kernel_rfl
set_option maxRecDepth 100000 in
theorem k10 : ((Rows.fnExactReadDiskRow.unfollowed == Try.prog.unfollowed 4)) = true := by kernel_rfl
set_option maxRecDepth 100000 in
theorem k11 : ((Rows.fnExactReadDiskRow.recurses == Try.prog.recurses 4)) = true := by kernel_rfl
set_option maxRecDepth 100000 in
theorem k12 : ((Rows.fnExactReadDiskRow.named == Try.prog.varsNamed 4)) = true := by kernel_rfl
set_option maxRecDepth 100000 in
theorem k13 : ((Rows.fnExactReadDiskRow.maps == (Try.f4.params.toList ++ Rows.fnExactReadDiskSpec.plain.varTypes Try.prog).any (Try.prog.mapsRec ·))) = true := by kernel_rfl
set_option maxRecDepth 100000 in
theorem k14 : ((Rows.fnExactReadDiskRow.ifaces == (Try.f4.params.toList ++ Rows.fnExactReadDiskSpec.plain.varTypes Try.prog).any (Try.prog.ifacesRec ·))) = true := by kernel_rfl
set_option maxRecDepth 100000 in
theorem k15 : ((Rows.fnExactReadDiskRow.mapsOut == Try.prog.mapsAmong Try.f4.resultTypes.toList)) = true := by kernel_rfl
set_option maxRecDepth 100000 in
theorem k16 : ((Rows.fnExactReadDiskRow.loops == (Try.f4.params.toList ++ Rows.fnExactReadDiskSpec.plain.varTypes Try.prog).any (Try.prog.loopsFrom ·))) = true := by kernel_rfl
set_option maxRecDepth 100000 in
theorem k17 : ((Rows.fnExactReadDiskRow.wideKeys == (Try.f4.params.toList ++ Rows.fnExactReadDiskSpec.plain.varTypes Try.prog ++ Try.f4.resultTypes.toList).any (Try.prog.wideKeysFrom ·))) = true := by kernel_rfl
set_option maxRecDepth 100000 in
theorem k18 : (Rows.fnExactReadDiskSpec.vars.all (Try.prog.varReadable ·)) = true := by kernel_rfl
set_option maxRecDepth 100000 in
theorem k19 : (Try.f4.resultTypes.all (fun t => Try.prog.readableRec t && decide (t < Try.prog.types.size))) = true := by kernel_rfl
set_option maxRecDepth 100000 in
theorem k20 : ((Rows.fnExactReadDiskRow.ifacesOut == Try.f4.resultTypes.toList.any (Try.prog.ifacesRec ·))) = true := by kernel_rfl
set_option maxRecDepth 100000 in
theorem k21 : ((Rows.fnExactReadDiskRow.loopsOut == Try.f4.resultTypes.toList.any (Try.prog.loopsFrom ·))) = true := by kernel_rfl
set_option maxRecDepth 100000 in
theorem k22 : ((Rows.fnExactReadDiskRow.plainKeys == Try.prog.plainKeys)) = true := by kernel_rfl
theorem k23 : (Rows.fnExactReadDiskRow.shortTexts.isNone) = true := by kernel_rfl
set_option maxRecDepth 100000 in
theorem k28 : ((Rows.fnExactReadDiskRow.kinds == (if Rows.fnExactReadDiskRow.domain.isEmpty then [] else Try.f4.params.toList.map fun t => match Try.prog.underlying t with | some (.int k) => some k | _ => none))) = true := by kernel_rfl
theorem k29 : ((Rows.fnExactReadDiskRow.pinned == Rows.fnExactReadDiskRow.pinnedBy)) = true := by kernel_rfl
set_option maxRecDepth 100000 in
theorem k30 : ((Rows.fnExactReadDiskRow.veiled == (Try.f4.params.toList ++ Rows.fnExactReadDiskSpec.plain.varTypes Try.prog ++ Try.f4.resultTypes.toList).any (Try.prog.veiledRec ·))) = true := by kernel_rfl
set_option maxRecDepth 100000 in
theorem k31 : (Rows.fnExactReadDiskRow.veiledFits Try.prog Try.f4.params.toList (Try.f4.params.toList ++ Rows.fnExactReadDiskSpec.plain.varTypes Try.prog ++ Try.f4.resultTypes.toList)) = true := by kernel_rfl
set_option maxRecDepth 100000 in
theorem facts : joinedFacts Try.prog 4 Try.f4 Rows.fnExactReadDiskSpec Rows.fnExactReadDiskRow = true := (and_mk (and_mk (and_mk (and_mk (and_mk (and_mk (and_mk (and_mk (and_mk (and_mk (and_mk (and_mk (and_mk (and_mk (and_mk (and_mk (and_mk (and_mk (and_mk (and_mk (and_mk (and_mk (and_mk (and_mk (and_mk (and_mk (and_mk (and_mk (and_mk (and_mk (and_mk k0 factLaid) factRowed) k3) k4) k5) k6) k7) k8) k9) k10) k11) k12) k13) k14) k15) k16) k17) k18) k19) k20) k21) k22) k23) factHeard) factEnter) factLift) factMake) k28) k29) k30) k31)
set_option maxRecDepth 100000 in
theorem named : Try.prog.funcNamed Rows.fnExactReadDiskRow.func = some 4 := by kernel_rfl
set_option maxRecDepth 100000 in
theorem inst : Try.f4.isInstance Try.prog Rows.fnExactReadDiskRow.origin Rows.fnExactReadDiskRow.targs := of_decide_eq_true (by kernel_rfl)
set_option maxRecDepth 100000 in
theorem over : Rows.fnExactReadDiskRow.holds Try.pinned (OpenSpec.ofChange Rows.fnExactReadDiskSpec) :=
  OpenClaim.holds_of_wide 4 Try.f4 rfl rfl rfl rfl rfl rfl rfl ⟨rfl, rfl, rfl, rfl, rfl⟩ rfl rfl rfl rfl rfl named Try.func4 facts
    inst (by unfold Func.isWrapper; first | (rw [if_pos (by decide +kernel)]; kernel_rfl) | (rw [if_neg (by decide +kernel)]; exact ⟨rfl, rfl⟩))
    (fun os started H enc _ => lifted os started H enc)
theorem proved : Rows.FnExactReadDiskSaid := over
#print axioms proved
end Go.Proofs.Ytoogaaoknpfkoaa.fnExactReadDisk
