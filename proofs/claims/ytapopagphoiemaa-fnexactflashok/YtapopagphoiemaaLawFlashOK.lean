/- For every flash (of any size), laws.FnExactFlashOK returns true: impl.FlashOK answers as the model spec.FlashOK and leaves its argument alone. No condition. -/
import Derived.Test.YtapopagphoiemaaFlashOk
import Derived.Test.YtapopagphoiemaaOpenFlash
import Derived.Test.YtapopagphoiemaaFactA
import Derived.Test.YtapopagphoiemaaFactB
import Derived.Test.YtapopagphoiemaaFactC
import Derived.Test.YtapopagphoiemaaFactD
import Derived.Deep.RegionHeld3
import Derived.ProofKit
import Derived.OpenShut
import Derived.ShutString
import Derived.ChangeOld
namespace Go.Proofs.Ytapopagphoiemaa.fnExactFlashOK
open Go.RowKit

set_option maxRecDepth 100000 in
set_option maxHeartbeats 8000000 in
theorem walk (A : Option Addr) (n c : Nat) (C : Option Addr) (m d : Nat) (st : Int) (zs : List Int) (gs : List Bool) (w : World) (hl : zs.length = n) (hm : gs.length = m) (hn : n ≤ maxLen) (hmm : m ≤ maxLen) (h : IntL w A zs) (g : BoolL w C gs) (_ws : (Lit.int .i64 st).wf = true) :
    Calls Try.prog 5 #[.agg #[.slice A n c, .slice C m d, .int .i64 st]] w fun e w' => e = .returned (.bool true) ∧ Below w.heap.size w w' := by
  have HSz := Lib.hid (fun W => szFlash A C n c m d st 1048576 W hn hmm (by omega) (by omega))
  have HTo := Lib.hid (fun W (hb : Below w.heap.size w W) (h1 : n ≤ 1048576) (h2 : m ≤ 1048576) => toFlash A C n c m d st zs gs W hl hm h1 h2 (h.below hb) (g.below hb))
  have HL := Lib.hid (And.intro hl hm)
  have HSpec := Lib.hid (fun W A' n' c' C' m' d' (hl' : zs.length = n') (hm' : gs.length = m') (hn' : n' ≤ maxLen) (hmm' : m' ≤ maxLen) (h' : IntL W A' zs) (g' : BoolL W C' gs) => specFlashOK A' C' n' c' m' d' st zs gs W hl' hm' hn' hmm' h')
  have HImpl := Lib.hid (fun W A' n' c' C' m' d' (hl' : zs.length = n') (hm' : gs.length = m') (hn' : n' ≤ maxLen) (hmm' : m' ≤ maxLen) (h' : IntL W A' zs) (g' : BoolL W C' gs) => implFlashOK A' C' n' c' m' d' st zs gs W hl' hm' hn' hmm' h')
  generalize okFlash zs gs st = ob at HSpec HImpl
  clear hl hm hn hmm h g _ws
  have hb0 := alloc_below w (.cells #[.slice A n c, .slice C m d, .int .i64 st] 39)
  have X0 := Lib.hid (Box.new w 39 #[.slice A n c, .slice C m d, .int .i64 st])
  go_enter Try.func5, Try.ntmps5
  go_wp2_with fail
  refine (HSz.out _).mono ?_
  rintro e w1 ⟨hres, hb1⟩
  have X1 := Lib.hid (X0.out.step hb1)
  have H0 := Lib.hid (bt hb0 hb1)
  clear hb0 X0 HSz hb1
  rcases hres with rfl | ⟨rfl, hle⟩
  · go_wp2
    go_ret
    exact ⟨rfl, H0.out⟩
  have hsz : n + m ≤ 1048576 := by omega
  generalize n + m = u at hle
  have hp : ¬ (1048576 : Int) - (u : Int) < 0 := by omega
  have f0 : w1.cell? ⟨w.heap.size, 0, none⟩ = some (.slice A n c) := X1.out.cell 0 rfl
  have f1 : w1.cell? ⟨w.heap.size, 1, none⟩ = some (.slice C m d) := X1.out.cell 1 rfl
  have fx : w1.cell? ⟨w.heap.size, 2, none⟩ = some (.int .i64 st) := X1.out.cell 2 rfl
  go_wp2_with fail
  refine (HTo.out _ H0.out (by omega) (by omega)).mono ?_
  rintro e w2 ⟨A2, n2, c2, C2, m2, d2, rfl, L2, M2, S2, R2, hb2⟩
  clear f0 f1 fx
  have F1 := Lib.hid (X1.out.step hb2)
  have H2 := Lib.hid (bt H0.out hb2)
  clear X1 H0
  clear hb2
  go_wp2_with fail
  refine (HSpec.out w2 A2 n2 c2 C2 m2 d2 L2.out M2.out (by have := L2.out; have := HL.out.1; unfold maxLen; omega) (by have := M2.out; have := HL.out.2; unfold maxLen; omega) S2.out.reads R2.out.reads).mono ?_
  rintro e w3 ⟨rfl, hb3⟩
  have F3 := Lib.hid (F1.out.step hb3)
  have H4 := Lib.hid (bt H2.out hb3)
  clear F1 H2
  clear hb3 L2 M2 S2 R2
  have f0 : w3.cell? ⟨w.heap.size, 0, none⟩ = some (.slice A n c) := F3.out.cell 0 rfl
  have f1 : w3.cell? ⟨w.heap.size, 1, none⟩ = some (.slice C m d) := F3.out.cell 1 rfl
  have fx : w3.cell? ⟨w.heap.size, 2, none⟩ = some (.int .i64 st) := F3.out.cell 2 rfl
  go_wp2_with fail
  refine (HTo.out _ H4.out (by omega) (by omega)).mono ?_
  rintro e w5 ⟨A5, n5, c5, C5, m5, d5, rfl, L5, M5, S5, R5, hb5⟩
  clear f0 f1 fx
  have F5 := Lib.hid (F3.out.step hb5)
  have H6 := Lib.hid (bt H4.out hb5)
  clear F3 H4
  clear hb5
  have hba := alloc_below w5 (.cells #[.slice A5 n5 c5, .slice C5 m5 d5, .int .i64 st] 26)
  have D5 := Lib.hid (BF.new (n := n5) (c := c5) (m := m5) (d := d5) (st := st) S5.out R5.out)
  have F7 := Lib.hid (F5.out.step hba)
  have H8 := Lib.hid (bt H6.out hba)
  clear F5 H6
  have Z5 : Hid (w5.heap.size < (w5.alloc (.cells #[.slice A5 n5 c5, .slice C5 m5 d5, .int .i64 st] 26)).heap.size) := Lib.hid D5.out.box.lt
  clear hba S5 R5
  obtain ⟨w6, hw6⟩ : ∃ w6, w6 = w5.alloc (.cells #[.slice A5 n5 c5, .slice C5 m5 d5, .int .i64 st] 26) := ⟨_, rfl⟩
  rw [← hw6] at F7 H8 D5 Z5
  have HW6 := Lib.hid hw6
  clear hw6
  go_wp2_with fail
  rw [← HW6.out]
  clear HW6
  refine (HImpl.out w6 A5 n5 c5 C5 m5 d5 L5.out M5.out (by have := L5.out; have := HL.out.1; unfold maxLen; omega) (by have := M5.out; have := HL.out.2; unfold maxLen; omega) D5.out.s.reads D5.out.r.reads).mono ?_
  rintro e w7 ⟨rfl, hb7⟩
  have F9 := Lib.hid (F7.out.step hb7)
  have F10 := Lib.hid (D5.out.step hb7)
  have H11 := Lib.hid (bt H8.out hb7)
  clear F7 D5 H8
  clear hb7
  have hob0 : (ob != ob) = false := by simp
  have f0 : w7.cell? ⟨w.heap.size, 0, none⟩ = some (.slice A n c) := F9.out.cell 0 rfl
  have f1 : w7.cell? ⟨w.heap.size, 1, none⟩ = some (.slice C m d) := F9.out.cell 1 rfl
  have fx : w7.cell? ⟨w.heap.size, 2, none⟩ = some (.int .i64 st) := F9.out.cell 2 rfl
  have f2 := F10.out.f0
  have f3 := F10.out.f1
  have fy := F10.out.f2
  have HK := Lib.hid (fun W' (hb : Below w7.heap.size w7 W') => And.intro ((hb.cell (cell_lt f0)).trans f0) (And.intro ((hb.cell (cell_lt f1)).trans f1) (And.intro ((hb.cell (cell_lt fx)).trans fx) (And.intro ((hb.cell (cell_lt f2)).trans f2) (And.intro ((hb.cell (cell_lt f3)).trans f3) ((hb.cell (cell_lt fy)).trans fy))))))
  have h6 : Below w7.heap.size w7 w7.drew := (Below.refl _ _).drew
  go_wp2
  go_region_held3 (fun W => W.cell? ⟨w.heap.size, 0, none⟩ = some (.slice A n c) ∧ W.cell? ⟨w.heap.size, 1, none⟩ = some (.slice C m d) ∧ W.cell? ⟨w.heap.size, 2, none⟩ = some (.int .i64 st) ∧ W.cell? ⟨w5.heap.size, 0, none⟩ = some (.slice A5 n5 c5) ∧ W.cell? ⟨w5.heap.size, 1, none⟩ = some (.slice C5 m5 d5) ∧ W.cell? ⟨w5.heap.size, 2, none⟩ = some (.int .i64 st))
    (first | exact HK.out _ h6 | exact HK.out _ (bt h6 hba) | exact HK.out _ (bt (bt h6 hba) hbb))
    (first | (go_at_call 26; refine (HTo.out _ H11.out.drew (by omega) (by omega)).mono ?_; rintro e wa ⟨Aa, na, ca, Ca, ma, da, rfl, La, Ma, Sa, Ra, hba⟩) | (go_at_call 21; refine (eqFlashSame A5 Aa C5 Ca n5 na m5 ma c5 ca d5 da st zs gs wa L5.out La.out M5.out Ma.out (by have := L5.out; have := HL.out.1; unfold maxLen; omega) (by have := M5.out; have := HL.out.2; unfold maxLen; omega) (F10.out.s.below (bt h6 hba)).reads Sa.out.reads (F10.out.r.below (bt h6 hba)).reads Ra.out.reads).mono ?_; rintro e wb ⟨rfl, hbb⟩))
  have kb : Below w7.heap.size w7 wb := bt (bt h6 hba) hbb
  have F12 := Lib.hid (F9.out.step kb)
  have F13 := Lib.hid (F10.out.step kb)
  have H14 := Lib.hid (bt H11.out kb)
  clear F9 F10 H11
  clear f0 f1 fx f2 f3 fy HK h6 hba hbb kb La Ma Sa Ra
  go_wp2
  go_ret
  exact ⟨rfl, H14.out⟩

/-! The row's step. -/
open Go.ChangeShapes Go.WideShapes Go.ChangeAt
open Go.ChangeMaps (open_string shut_string)
set_option maxRecDepth 100000 in
theorem own : ownKnob Try.prog.godebug = none := by kernel_rfl
set_option maxRecDepth 100000 in
theorem laidOut : laidOutB Try.prog = true := factLaid
set_option maxRecDepth 100000 in
theorem lifted (os : Os) (started : os.Started) (H : Type) (enc : TypeId × Value → H) :
    ReturnsInHanded {} Try.checked os 5 .any (Rows.fnExactFlashOKSpec.pre6 enc Try.prog Try.f5 Rows.fnExactFlashOKRow.domain false) (Rows.fnExactFlashOKSpec.post enc Try.prog Try.f5 false true false false) := by
  refine returnsInHanded_of_change (C := Try.checked) own started (by kernel_rfl) Try.func5
    (ChangeSpec.witness6 (enc := enc) (C := Try.checked) false ⟨#[], #[.agg #[.slice none 0 0, .slice none 0 0, .int .i64 0]], []⟩ 8 (by kernel_rfl) (by kernel_rfl) (by kernel_rfl) (by kernel_rfl)) ?_
  intro W base args ds gs before hval0 hW hcnd _
  have hval : ∀ (j : Nat) t v, Try.f5.params[j]? = some t → args[j]? = some v → Value.okWide Try.prog W .any base t v := hval0
  have hW' := hW
  obtain ⟨p, q, hA0, hV, rfl, hfz, hnd⟩ := hW
  have hA : DataW.TrodAll enc Try.prog W 0 (fun _ => true) true Try.f5.params.toList args.toList ds p := hA0
  rw [Try.params5] at hA hval
  obtain ⟨v0, vs0, d0, ds0, p0, q0, hargs, rfl, rfl, h0, r0⟩ := trodAll_cons hA
  obtain ⟨rfl, rfl, rfl⟩ := trodAll_nil r0
  obtain rfl : args = #[v0] := by cases args; simp_all
  obtain ⟨rfl, rfl⟩ := trodVars_none hV
  have k0 := h0
  have lt0 : ∀ x ∈ p0, x.block < W.heap.size := by obtain ⟨m, hm⟩ := k0; exact DataW.trod_lt m _ _ _ hm
  obtain ⟨A0, n0, c0, C0, m0, e0, st0, zs0, gs0, rfl, hl0, hm0, hn0, hmm0, hs0, hw0, ws0⟩ := open_flash (hval 0 39 v0 rfl rfl) h0
  clear hA0 hval0
  refine (walk A0 n0 c0 C0 m0 e0 st0 zs0 gs0 W hl0 hm0 hn0 hmm0 hs0 hw0 ws0).mono fun e W' ⟨he, bel⟩ => ?_
  subst he
  exact ⟨_, rfl, _, _, _, [], _, [], hW', trodAll_mk1 (shut_bool Try.underlying4 _), (trodAll_cons_mk (Below.trod laidOut (by kernel_rfl) (of_decide_eq_true (by kernel_rfl)) k0 bel lt0) trodAll_mk0), rfl, bel.frame _, fun h => by cases h⟩

theorem k0 : (Rows.fnExactFlashOKRow.wf (OpenSpec.ofChange Rows.fnExactFlashOKSpec)) = true := by kernel_rfl
set_option maxRecDepth 100000 in
theorem k3 : (Try.f5.params.all (Try.prog.readableRec ·)) = true := by kernel_rfl
set_option maxRecDepth 100000 in
theorem k4 : (namedTie Try.prog Rows.fnExactFlashOKRow.named Rows.fnExactFlashOKSpec.vars) = true := by kernel_rfl
theorem k5 : ((Rows.fnExactFlashOKRow.stops == [])) = true := by kernel_rfl
set_option maxRecDepth 100000 in
theorem k6 : ((Try.prog.stops == [])) = true := by kernel_rfl
theorem k7 : ((Rows.fnExactFlashOKRow.knobs == [])) = true := by kernel_rfl
set_option maxRecDepth 100000 in
theorem k8 : ((Try.prog.stopKnobs == [])) = true := by kernel_rfl
set_option maxRecDepth 100000 in
theorem k9 : ((Rows.fnExactFlashOKRow.inPlace == Try.prog.inPlace 5)) = true := by kernel_rfl
set_option maxRecDepth 100000 in
theorem k10 : ((Rows.fnExactFlashOKRow.unfollowed == Try.prog.unfollowed 5)) = true := by kernel_rfl
set_option maxRecDepth 100000 in
theorem k11 : ((Rows.fnExactFlashOKRow.recurses == Try.prog.recurses 5)) = true := by kernel_rfl
set_option maxRecDepth 100000 in
theorem k12 : ((Rows.fnExactFlashOKRow.named == Try.prog.varsNamed 5)) = true := by kernel_rfl
set_option maxRecDepth 100000 in
theorem k13 : ((Rows.fnExactFlashOKRow.maps == (Try.f5.params.toList ++ Rows.fnExactFlashOKSpec.plain.varTypes Try.prog).any (Try.prog.mapsRec ·))) = true := by kernel_rfl
set_option maxRecDepth 100000 in
theorem k14 : ((Rows.fnExactFlashOKRow.ifaces == (Try.f5.params.toList ++ Rows.fnExactFlashOKSpec.plain.varTypes Try.prog).any (Try.prog.ifacesRec ·))) = true := by kernel_rfl
set_option maxRecDepth 100000 in
theorem k15 : ((Rows.fnExactFlashOKRow.mapsOut == Try.prog.mapsAmong Try.f5.resultTypes.toList)) = true := by kernel_rfl
set_option maxRecDepth 100000 in
theorem k16 : ((Rows.fnExactFlashOKRow.loops == (Try.f5.params.toList ++ Rows.fnExactFlashOKSpec.plain.varTypes Try.prog).any (Try.prog.loopsFrom ·))) = true := by kernel_rfl
set_option maxRecDepth 100000 in
theorem k17 : ((Rows.fnExactFlashOKRow.wideKeys == (Try.f5.params.toList ++ Rows.fnExactFlashOKSpec.plain.varTypes Try.prog ++ Try.f5.resultTypes.toList).any (Try.prog.wideKeysFrom ·))) = true := by kernel_rfl
set_option maxRecDepth 100000 in
theorem k18 : (Rows.fnExactFlashOKSpec.vars.all (Try.prog.varReadable ·)) = true := by kernel_rfl
set_option maxRecDepth 100000 in
theorem k19 : (Try.f5.resultTypes.all (fun t => Try.prog.readableRec t && decide (t < Try.prog.types.size))) = true := by kernel_rfl
set_option maxRecDepth 100000 in
theorem k20 : ((Rows.fnExactFlashOKRow.ifacesOut == Try.f5.resultTypes.toList.any (Try.prog.ifacesRec ·))) = true := by kernel_rfl
set_option maxRecDepth 100000 in
theorem k21 : ((Rows.fnExactFlashOKRow.loopsOut == Try.f5.resultTypes.toList.any (Try.prog.loopsFrom ·))) = true := by kernel_rfl
set_option maxRecDepth 100000 in
theorem k22 : ((Rows.fnExactFlashOKRow.plainKeys == Try.prog.plainKeys)) = true := by kernel_rfl
theorem k23 : (Rows.fnExactFlashOKRow.shortTexts.isNone) = true := by kernel_rfl
set_option maxRecDepth 100000 in
theorem k28 : ((Rows.fnExactFlashOKRow.kinds == (if Rows.fnExactFlashOKRow.domain.isEmpty then [] else Try.f5.params.toList.map fun t => match Try.prog.underlying t with | some (.int k) => some k | _ => none))) = true := by kernel_rfl
theorem k29 : ((Rows.fnExactFlashOKRow.pinned == Rows.fnExactFlashOKRow.pinnedBy)) = true := by kernel_rfl
set_option maxRecDepth 100000 in
theorem k30 : ((Rows.fnExactFlashOKRow.veiled == (Try.f5.params.toList ++ Rows.fnExactFlashOKSpec.plain.varTypes Try.prog ++ Try.f5.resultTypes.toList).any (Try.prog.veiledRec ·))) = true := by kernel_rfl
set_option maxRecDepth 100000 in
theorem k31 : (Rows.fnExactFlashOKRow.veiledFits Try.prog Try.f5.params.toList (Try.f5.params.toList ++ Rows.fnExactFlashOKSpec.plain.varTypes Try.prog ++ Try.f5.resultTypes.toList)) = true := by kernel_rfl
set_option maxRecDepth 100000 in
theorem facts : joinedFacts Try.prog 5 Try.f5 Rows.fnExactFlashOKSpec Rows.fnExactFlashOKRow = true := (and_mk (and_mk (and_mk (and_mk (and_mk (and_mk (and_mk (and_mk (and_mk (and_mk (and_mk (and_mk (and_mk (and_mk (and_mk (and_mk (and_mk (and_mk (and_mk (and_mk (and_mk (and_mk (and_mk (and_mk (and_mk (and_mk (and_mk (and_mk (and_mk (and_mk (and_mk k0 factLaid) factRowed) k3) k4) k5) k6) k7) k8) k9) k10) k11) k12) k13) k14) k15) k16) k17) k18) k19) k20) k21) k22) k23) factHeard) factEnter) factLift) factMake) k28) k29) k30) k31)
set_option maxRecDepth 100000 in
theorem named : Try.prog.funcNamed Rows.fnExactFlashOKRow.func = some 5 := by kernel_rfl
set_option maxRecDepth 100000 in
theorem inst : Try.f5.isInstance Try.prog Rows.fnExactFlashOKRow.origin Rows.fnExactFlashOKRow.targs := of_decide_eq_true (by kernel_rfl)
set_option maxRecDepth 100000 in
theorem over : Rows.fnExactFlashOKRow.holds Try.pinned (OpenSpec.ofChange Rows.fnExactFlashOKSpec) :=
  OpenClaim.holds_of_wide 5 Try.f5 rfl rfl rfl rfl rfl rfl rfl ⟨rfl, rfl, rfl, rfl, rfl⟩ rfl rfl rfl rfl rfl named Try.func5 facts
    inst (by unfold Func.isWrapper; first | (rw [if_pos (by decide +kernel)]; kernel_rfl) | (rw [if_neg (by decide +kernel)]; exact ⟨rfl, rfl⟩))
    (fun os started H enc _ => lifted os started H enc)
theorem proved : Rows.FnExactFlashOKSaid := over
#print axioms proved
end Go.Proofs.Ytapopagphoiemaa.fnExactFlashOK
