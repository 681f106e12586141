/- For every disk (of any size), laws.FnExactLoadPages returns true: impl.LoadPages answers as the model spec.LoadPages, every field, leaves its argument alone, and its result is memory of its own. No condition. -/
import Derived.Test.YtoogaaoknpfkoaaLoadImpl
import Derived.Test.YtoogaaoknpfkoaaRoot
import Derived.Test.YtoogaaoknpfkoaaSzDisk
import Derived.Test.YtoogaaoknpfkoaaOpen
import Derived.Test.YtoogaaoknpfkoaaBoxDisk
import Derived.Test.YtoogaaoknpfkoaaFactA
import Derived.Test.YtoogaaoknpfkoaaFactB
import Derived.Test.YtoogaaoknpfkoaaFactC
import Derived.Test.YtoogaaoknpfkoaaFactD
import Derived.Deep.RegionHeld3
import Derived.ProofKit
import Derived.OpenShut
import Derived.ShutString
import Derived.ChangeOld
namespace Go.Proofs.Ytoogaaoknpfkoaa.fnExactLoadPages
open Go.RowKit

set_option maxRecDepth 100000 in
theorem eqStrSame (A A' : Option Addr) (n n' c c' : Nat) (ss : List ByteArray) (w : World) (hl : ss.length = n) (hl' : ss.length = n') (hn : n ≤ maxLen) (h : StrL w A ss) (h' : StrL w A' ss) :
    Calls Try.prog 57 #[.slice A n c, .slice A' n' c'] w fun e w' => e = .returned (.bool true) ∧ Below w.heap.size w w' :=
  (eqStringS A A' n n' c c' ss ss w hl hl' hn (by omega) h h').mono fun e w' ⟨he, hb⟩ => ⟨by rw [he]; simp, hb⟩

set_option maxRecDepth 100000 in
set_option maxHeartbeats 16000000 in
theorem walk (A C : Option Addr) (n c m d : Nat) (ss : List ByteArray) (ws : List (Int × ByteArray)) (w : World) (hl : ss.length = n) (hm : ws.length = m) (hn : n ≤ maxLen) (hmm : m ≤ maxLen) (h : StrL w A ss) (g : WrL w C ws) (fs : FitS ss) (fw : FitW ws) :
    Calls Try.prog 11 #[.agg #[.slice A n c, .slice C m d]] w fun e w' => e = .returned (.bool true) ∧ Below w.heap.size w w' := by
  have HSz := Lib.hid (fun W (hb : Below w.heap.size w W) => szDisk A C n c m d ss ws 1048576 W (by omega) (by omega) hl hm hn hmm (h.below hb) (g.below hb) fs fw)
  have HTo := Lib.hid (fun W (hb : Below w.heap.size w W) (h1 : n ≤ 1048576) (h2 : m ≤ 1048576) => toDisk A C n c m d ss ws W hl hm h1 h2 (h.below hb) (g.below hb))
  have HSpec := Lib.hid (fun W A' n' c' C' m' d' (hl' : ss.length = n') (hm' : ws.length = m') (hn' : n' ≤ maxLen) (hmm' : m' ≤ maxLen) (h' : StrL W A' ss) (g' : WrL W C' ws) => specLoad A' C' n' c' m' d' ss ws W hl' hm' hn' hmm' h' g' fs fw)
  have HImpl := Lib.hid (fun W A' n' c' C' m' d' (hl' : ss.length = n') (hm' : ws.length = m') (hn' : n' ≤ maxLen) (hmm' : m' ≤ maxLen) (h' : StrL W A' ss) (g' : WrL W C' ws) => implLoad A' C' n' c' m' d' ss ws W hl' hm' hn' hmm' h' g' fs fw)
  have HL := Lib.hid (And.intro hl hm)
  have HLz := Lib.hid (loadOf_len ss ws)
  generalize hres : loadOf ss ws = b at HSpec HImpl HLz
  clear hl hm hn hmm h g fs fw hres
  have hob0 : (b.2 != b.2) = false := by simp
  have hb0 : Below w.heap.size w (w.alloc (.cells #[.slice A n c, .slice C m d] 44)) := alloc_below _ _
  have X0 := Lib.hid (Box.new w 44 #[.slice A n c, .slice C m d])
  go_enter Try.func11, Try.ntmps11
  go_wp2_with fail
  refine (HSz.out _ hb0).mono ?_
  rintro e w1 ⟨hres, hb1⟩
  have X1 := Lib.hid (X0.out.step hb1)
  have QW1 : Hid (w.heap.size < w1.heap.size) := Lib.hid X1.out.lt
  have H0 := Lib.hid (bt hb0 hb1)
  clear hb0 X0 HSz hb1
  rcases hres with rfl | ⟨rfl, hle⟩
  · go_wp2
    go_ret
    exact ⟨rfl, H0.out⟩
  have hsz : n + m ≤ 1048576 := by have := HL.out.1; have := HL.out.2; unfold szOf at hle; omega
  generalize szOf ss ws = u at hle
  have hp : ¬ (1048576 : Int) - (u : Int) < 0 := by omega
  have f0 : w1.cell? ⟨w.heap.size, 0, none⟩ = some (.slice A n c) := X1.out.cell 0 rfl
  have f1 : w1.cell? ⟨w.heap.size, 1, none⟩ = some (.slice C m d) := X1.out.cell 1 rfl
  go_wp2_with fail
  refine (HTo.out _ H0.out (by omega) (by omega)).mono ?_
  rintro e w2 ⟨A2, n2, c2, C2, m2, d2, rfl, L2, M2, S2, R2, hb2⟩
  have QW : Hid (w.heap.size < w2.heap.size) := Lib.hid (Nat.lt_of_lt_of_le QW1.out hb2.size)
  clear f0 f1
  have F1 := Lib.hid (X1.out.step hb2)
  have H2 := Lib.hid (bt H0.out hb2)
  clear X1 H0
  clear hb2
  go_wp2_with fail
  refine (HSpec.out w2 A2 n2 c2 C2 m2 d2 L2.out M2.out (by have := L2.out; have := HL.out.1; unfold maxLen; omega) (by have := M2.out; have := HL.out.2; unfold maxLen; omega) S2.out.reads R2.out.reads).mono ?_
  rintro e w3 ⟨A3, n3, c3, rfl, L3, S3, hb3⟩
  have F3 := Lib.hid (F1.out.step hb3)
  have H4 := Lib.hid (bt H2.out hb3)
  clear F1 H2
  have Q0 : Hid (w2.heap.size ≤ w3.heap.size) := Lib.hid hb3.size
  clear hb3 L2 M2 S2 R2
  have f0 : w3.cell? ⟨w.heap.size, 0, none⟩ = some (.slice A n c) := F3.out.cell 0 rfl
  have f1 : w3.cell? ⟨w.heap.size, 1, none⟩ = some (.slice C m d) := F3.out.cell 1 rfl
  go_wp2_with fail
  refine (HTo.out w3 H4.out (by omega) (by omega)).mono ?_
  rintro e w5 ⟨A5, n5, c5, C5, m5, d5, rfl, L5, M5, S5, R5, hb5⟩
  clear f0 f1
  have F5 := Lib.hid (F3.out.step hb5)
  have F6 := Lib.hid (S3.out.below hb5)
  have H7 := Lib.hid (bt H4.out hb5)
  clear F3 S3 H4
  have Q1 : Hid (w3.heap.size ≤ w5.heap.size) := Lib.hid hb5.size
  clear hb5
  have hba := alloc_below w5 (.cells #[.slice A5 n5 c5, .slice C5 m5 d5] 26)
  have D5 := Lib.hid (BD.new (n := n5) (c := c5) (m := m5) (d := d5) S5.out R5.out)
  have F8 := Lib.hid (F5.out.step hba)
  have F9 := Lib.hid (F6.out.below hba)
  have H10 := Lib.hid (bt H7.out hba)
  clear F5 F6 H7
  have Z5 : Hid (w5.heap.size < (w5.alloc (.cells #[.slice A5 n5 c5, .slice C5 m5 d5] 26)).heap.size) := Lib.hid D5.out.box.lt
  clear hba S5 R5
  obtain ⟨w6, hw6⟩ : ∃ w6, w6 = w5.alloc (.cells #[.slice A5 n5 c5, .slice C5 m5 d5] 26) := ⟨_, rfl⟩
  rw [← hw6] at F8 F9 H10 D5 Z5
  have HW6 := Lib.hid hw6
  clear hw6
  go_wp2_with fail
  rw [← HW6.out]
  clear HW6
  refine (HImpl.out w6 A5 n5 c5 C5 m5 d5 L5.out M5.out (by have := L5.out; have := HL.out.1; unfold maxLen; omega) (by have := M5.out; have := HL.out.2; unfold maxLen; omega) D5.out.s.reads D5.out.r.reads).mono ?_
  rintro e w7 ⟨A7, n7, c7, rfl, L7, S7, hb7⟩
  have F11 := Lib.hid (F8.out.step hb7)
  have F12 := Lib.hid (F9.out.below hb7)
  have F13 := Lib.hid (D5.out.step hb7)
  have H14 := Lib.hid (bt H10.out hb7)
  clear F8 F9 D5 H10
  have Q2 : Hid (w6.heap.size ≤ w7.heap.size) := Lib.hid hb7.size
  clear hb7
  have BL : Hid ((n3 ≤ 17 ∧ n7 ≤ 17) ∧ (n5 ≤ 4294967296 ∧ m5 ≤ 4294967296)) := by
    have a1 := HLz.out; have a2 := L3.out; have a4 := L7.out; have a6 := L5.out; have a7 := M5.out; have a8 := HL.out.1; have a9 := HL.out.2
    exact Lib.hid (by omega)
  go_wp2_with fail
  refine (eqStrSame A7 A3 n7 n3 c7 c3 b.1 w7 L7.out L3.out (by have := BL.out.1; unfold maxLen; omega) S7.out.reads F12.out.reads).mono ?_
  rintro e w9 ⟨rfl, hb9⟩
  have K9 := Lib.hid hb9.size
  have F15 := Lib.hid (F11.out.step hb9)
  have F16 := Lib.hid (F12.out.below hb9)
  have F17 := Lib.hid (F13.out.step hb9)
  have F18 := Lib.hid (S7.out.below hb9)
  have H19 := Lib.hid (bt H14.out hb9)
  clear F11 F12 F13 S7 H14
  clear hb9
  have f0 : w9.cell? ⟨w.heap.size, 0, none⟩ = some (.slice A n c) := F15.out.cell 0 rfl
  have f1 : w9.cell? ⟨w.heap.size, 1, none⟩ = some (.slice C m d) := F15.out.cell 1 rfl
  have f2 := F17.out.f0
  have f3 := F17.out.f1
  have HK := Lib.hid (fun W' (hb : Below w9.heap.size w9 W') => And.intro ((hb.cell (cell_lt f0)).trans f0) (And.intro ((hb.cell (cell_lt f1)).trans f1) (And.intro ((hb.cell (cell_lt f2)).trans f2) ((hb.cell (cell_lt f3)).trans f3))))
  have h6 : Below w9.heap.size w9 w9.drew := (Below.refl _ _).drew
  go_wp2
  go_region_held3 (fun W => W.cell? ⟨w.heap.size, 0, none⟩ = some (.slice A n c) ∧ W.cell? ⟨w.heap.size, 1, none⟩ = some (.slice C m d) ∧ W.cell? ⟨w5.heap.size, 0, none⟩ = some (.slice A5 n5 c5) ∧ W.cell? ⟨w5.heap.size, 1, none⟩ = some (.slice C5 m5 d5))
    (first | exact HK.out _ h6 | exact HK.out _ (bt h6 hba) | exact HK.out _ (bt (bt h6 hba) hbb))
    (first | (go_at_call 35; refine (HTo.out _ H19.out.drew (by omega) (by omega)).mono ?_; rintro e wa ⟨Aa, na, ca, Ca, ma, da, rfl, La, Ma, Sa, Ra, hba⟩) | (go_at_call 36; refine (eqDiskSame A5 Aa C5 Ca n5 na m5 ma c5 ca d5 da ss ws wa L5.out La.out M5.out Ma.out (by have := BL.out.2; unfold maxLen; omega) (by have := BL.out.2; unfold maxLen; omega) (F17.out.s.below (bt h6 hba)).reads Sa.out.reads (F17.out.r.below (bt h6 hba)).reads Ra.out.reads).mono ?_; rintro e wb ⟨rfl, hbb⟩))
  have kb : Below w9.heap.size w9 wb := bt (bt h6 hba) hbb
  have KB := Lib.hid kb.size
  have F20 := Lib.hid (F15.out.step kb)
  have F21 := Lib.hid (F16.out.below kb)
  have F22 := Lib.hid (F17.out.step kb)
  have F23 := Lib.hid (F18.out.below kb)
  have H24 := Lib.hid (bt H19.out kb)
  clear F15 F16 F17 F18 H19
  clear f0 f1 f2 f3 HK h6 hba hbb kb La Ma Sa Ra
  have f0 := F22.out.f0
  have f1 := F22.out.f1
  go_wp2_with fail
  refine (markDisk A5 C5 n5 c5 m5 d5 w3.heap.size w5.heap.size ss ws wb L5.out M5.out BL.out.2.1 BL.out.2.2 F22.out.s F22.out.r (Nat.le_of_lt F22.out.box.lt)).mono ?_
  rintro e wc ⟨rfl, Tc, Uc, hbc⟩
  have KC := Lib.hid hbc.size
  have QA : Hid (w.heap.size < w2.heap.size) := QW
  have HLo : Hid (w3.heap.size ≤ wb.heap.size) := Lib.hid (Nat.le_trans Q1.out (Nat.le_of_lt F22.out.box.lt))
  have HLw : Hid (w.heap.size ≤ w3.heap.size) := Lib.hid (by have := Q0.out; have := Q1.out; have := Z5.out; have := Q2.out; have := QA.out; omega)
  have F25 := Lib.hid (F20.out.btw hbc (.inl (by have := Q0.out; have := Q1.out; have := Z5.out; have := Q2.out; have := QA.out; omega)))
  have F26 := Lib.hid (F21.out.btw hbc (.inl (by have := Q0.out; have := Q1.out; have := Z5.out; have := Q2.out; have := QA.out; omega)))
  have F27 := Lib.hid (F23.out.btw hbc (.inr (by have := Q0.out; have := Q1.out; have := Z5.out; have := Q2.out; have := QA.out; omega)))
  have H28 := Lib.hid (H24.out.trans ((hbc.below HLo.out).mono HLw.out))
  clear F20 F21 F22 F23 H24
  clear f0 f1 hbc Tc Uc HLo HLw
  generalize hk : 1 + n5 + m5 * 2 = kk
  clear hk
  have hk0 : ¬ (kk : Int) < 0 := by omega
  go_wp2_with fail
  refine (eqStrSame A7 A3 n7 n3 c7 c3 b.1 wc L7.out L3.out (by have := BL.out.1; unfold maxLen; omega) F27.out.reads F26.out.reads).mono ?_
  rintro e wd ⟨rfl, hbd⟩
  have KD := Lib.hid hbd.size
  have F29 := Lib.hid (F25.out.step hbd)
  have F30 := Lib.hid (F26.out.below hbd)
  have F31 := Lib.hid (F27.out.below hbd)
  have H32 := Lib.hid (bt H28.out hbd)
  clear F25 F26 F27 H28
  clear hbd
  go_wp2_with fail
  refine (markStringS A7 n7 c7 1 w6.heap.size w7.heap.size b.1 wd L7.out (by omega) (by have := BL.out.1; omega) (by have := BL.out.1; omega) F31.out).mono ?_
  have GLt : Hid (w7.heap.size ≤ wd.heap.size) := Lib.hid (by have := K9.out; have := KB.out; have := KC.out; have := KD.out; omega)
  rintro e we ⟨rfl, Te, hbe⟩
  have HLo : Hid (w6.heap.size ≤ wd.heap.size) := Lib.hid (by have := GLt.out; have := Q0.out; have := Q1.out; have := Z5.out; have := Q2.out; have := QA.out; omega)
  have HLw : Hid (w.heap.size ≤ w6.heap.size) := Lib.hid (by have := Q0.out; have := Q1.out; have := Z5.out; have := Q2.out; have := QA.out; omega)
  have F33 := Lib.hid (F29.out.btw hbe (.inl (by have := Q0.out; have := Q1.out; have := Z5.out; have := Q2.out; have := QA.out; omega)))
  have F34 := Lib.hid (F30.out.btw hbe (.inl (by have := Q0.out; have := Q1.out; have := Z5.out; have := Q2.out; have := QA.out; omega)))
  have H35 := Lib.hid (H32.out.trans ((hbe.below HLo.out).mono HLw.out))
  clear F29 F30 F31 H32
  clear hbe HLo HLw
  generalize hq : 1 + n7 = q
  have HQ := Lib.hid hq
  clear hq
  have hq0 : ¬ (q : Int) < 0 := by omega
  have hqq : ((q : Int) != (q : Int)) = false := by simp
  go_wp2_with fail
  refine (heldStringS A7 n7 c7 1 we (by omega) (by have := BL.out.1; omega) Te.out.reads).mono ?_
  rintro e wf ⟨rfl, hbwf⟩
  rw [HQ.out]
  have F36 := Lib.hid (F33.out.step hbwf)
  have F37 := Lib.hid (F34.out.below hbwf)
  have F38 := Lib.hid (Te.out.below hbwf)
  have H39 := Lib.hid (bt H35.out hbwf)
  clear F33 F34 Te H35
  clear hbwf
  have f0 : wf.cell? ⟨w.heap.size, 0, none⟩ = some (.slice A n c) := F36.out.cell 0 rfl
  have f1 : wf.cell? ⟨w.heap.size, 1, none⟩ = some (.slice C m d) := F36.out.cell 1 rfl
  go_wp2_with fail
  refine (HTo.out _ H39.out (by omega) (by omega)).mono ?_
  rintro e wg ⟨Ag, ng, cg, Cg, mg, dg, rfl, Lg, Mg, Sg, Rg, hbg⟩
  have F40 := Lib.hid (F36.out.step hbg)
  have F41 := Lib.hid (F37.out.below hbg)
  have F42 := Lib.hid (F38.out.below hbg)
  have H43 := Lib.hid (bt H39.out hbg)
  clear F36 F37 F38 H39
  clear hbg f0 f1
  go_wp2_with fail
  refine (HImpl.out wg Ag ng cg Cg mg dg Lg.out Mg.out (by have := Lg.out; have := HL.out.1; unfold maxLen; omega) (by have := Mg.out; have := HL.out.2; unfold maxLen; omega) Sg.out.reads Rg.out.reads).mono ?_
  rintro e wh ⟨Ah, nh, ch, rfl, Lh, Sh, hbh⟩
  have F44 := Lib.hid (F40.out.step hbh)
  have F45 := Lib.hid (F41.out.below hbh)
  have F46 := Lib.hid (F42.out.below hbh)
  have H47 := Lib.hid (bt H43.out hbh)
  clear F40 F41 F42 H43
  clear hbh Lg Mg Sg Rg
  have Bh : Hid (nh ≤ 17) := Lib.hid (by have := HLz.out; have := Lh.out; omega)
  go_wp2_with fail
  refine (eqStrSame Ah A3 nh n3 ch c3 b.1 wh Lh.out L3.out (by have := Bh.out; unfold maxLen; omega) Sh.out.reads F45.out.reads).mono ?_
  rintro e wj ⟨rfl, hbj⟩
  have F48 := Lib.hid (F44.out.step hbj)
  have F49 := Lib.hid (F45.out.below hbj)
  have F50 := Lib.hid (F46.out.below hbj)
  have F51 := Lib.hid (Sh.out.below hbj)
  have H52 := Lib.hid (bt H47.out hbj)
  clear F44 F45 F46 Sh H47
  clear hbj
  go_wp2_with fail
  refine (heldStringS A7 n7 c7 1 wj (by omega) (by have := BL.out.1; omega) F50.out.reads).mono ?_
  rintro e wk ⟨rfl, hbwk⟩
  rw [HQ.out]
  have F53 := Lib.hid (F48.out.step hbwk)
  have F54 := Lib.hid (F49.out.below hbwk)
  have F55 := Lib.hid (F50.out.below hbwk)
  have F56 := Lib.hid (F51.out.below hbwk)
  have H57 := Lib.hid (bt H52.out hbwk)
  clear F48 F49 F50 F51 H52
  clear hbwk
  go_wp2
  go_ret
  exact ⟨rfl, H57.out⟩

/-! The row's step. -/
open Go.ChangeShapes Go.WideShapes Go.ChangeAt
open Go.ChangeMaps (open_string shut_string)
set_option maxRecDepth 100000 in
theorem own : ownKnob Try.prog.godebug = none := by kernel_rfl
set_option maxRecDepth 100000 in
theorem laidOut : laidOutB Try.prog = true := factLaid
set_option maxRecDepth 100000 in
theorem lifted (os : Os) (started : os.Started) (H : Type) (enc : TypeId × Value → H) :
    ReturnsInHanded {} Try.checked os 11 .any (Rows.fnExactLoadPagesSpec.pre6 enc Try.prog Try.f11 Rows.fnExactLoadPagesRow.domain false) (Rows.fnExactLoadPagesSpec.post enc Try.prog Try.f11 false true false false) := by
  refine returnsInHanded_of_change (C := Try.checked) own started (by kernel_rfl) Try.func11
    (ChangeSpec.witness6 (enc := enc) (C := Try.checked) false ⟨#[], #[.agg #[.slice none 0 0, .slice none 0 0]], []⟩ 8 (by kernel_rfl) (by kernel_rfl) (by kernel_rfl) (by kernel_rfl)) ?_
  intro W base args ds gs before hval0 hW hcnd _
  have hval : ∀ (j : Nat) t v, Try.f11.params[j]? = some t → args[j]? = some v → Value.okWide Try.prog W .any base t v := hval0
  have hW' := hW
  obtain ⟨p, q, hA0, hV, rfl, hfz, hnd⟩ := hW
  have hA : DataW.TrodAll enc Try.prog W 0 (fun _ => true) true Try.f11.params.toList args.toList ds p := hA0
  rw [Try.params11] at hA hval
  obtain ⟨v0, vs0, d0, ds0, p0, q0, hargs, rfl, rfl, h0, r0⟩ := trodAll_cons hA
  obtain ⟨rfl, rfl, rfl⟩ := trodAll_nil r0
  obtain rfl : args = #[v0] := by cases args; simp_all
  obtain ⟨rfl, rfl⟩ := trodVars_none hV
  have k0 := h0
  have lt0 : ∀ x ∈ p0, x.block < W.heap.size := by obtain ⟨m, hm⟩ := k0; exact DataW.trod_lt m _ _ _ hm
  obtain ⟨A0, n0, c0, C0, m0, e0, ss0, ws0, rfl, hl0, hm0, hn0, hmm0, hs0, hw0, fs0, fw0⟩ := open_disk (hval 0 44 v0 rfl rfl) h0
  clear hA0 hval0
  refine (walk A0 C0 n0 c0 m0 e0 ss0 ws0 W hl0 hm0 hn0 hmm0 hs0 hw0 fs0 fw0).mono fun e W' ⟨he, bel⟩ => ?_
  subst he
  exact ⟨_, rfl, _, _, _, [], _, [], hW', trodAll_mk1 (shut_bool Try.underlying4 _), (trodAll_cons_mk (Below.trod laidOut (by kernel_rfl) (of_decide_eq_true (by kernel_rfl)) k0 bel lt0) trodAll_mk0), rfl, bel.frame _, fun h => by cases h⟩

theorem k0 : (Rows.fnExactLoadPagesRow.wf (OpenSpec.ofChange Rows.fnExactLoadPagesSpec)) = true := by kernel_rfl
set_option maxRecDepth 100000 in
theorem k3 : (Try.f11.params.all (Try.prog.readableRec ·)) = true := by kernel_rfl
set_option maxRecDepth 100000 in
theorem k4 : (namedTie Try.prog Rows.fnExactLoadPagesRow.named Rows.fnExactLoadPagesSpec.vars) = true := by kernel_rfl
theorem k5 : ((Rows.fnExactLoadPagesRow.stops == [])) = true := by kernel_rfl
set_option maxRecDepth 100000 in
theorem k6 : ((Try.prog.stops == [])) = true := by kernel_rfl
theorem k7 : ((Rows.fnExactLoadPagesRow.knobs == [])) = true := by kernel_rfl
set_option maxRecDepth 100000 in
theorem k8 : ((Try.prog.stopKnobs == [])) = true := by kernel_rfl
set_option maxRecDepth 100000 in
theorem k9 : ((Rows.fnExactLoadPagesRow.inPlace == Try.prog.inPlace 11)) = true := by kernel_rfl
set_option maxRecDepth 100000 in
theorem k10 : ((Rows.fnExactLoadPagesRow.unfollowed == Try.prog.unfollowed 11)) = true := by kernel_rfl
set_option maxRecDepth 100000 in
theorem k11 : ((Rows.fnExactLoadPagesRow.recurses == Try.prog.recurses 11)) = true := by kernel_rfl
set_option maxRecDepth 100000 in
theorem k12 : ((Rows.fnExactLoadPagesRow.named == Try.prog.varsNamed 11)) = true := by kernel_rfl
set_option maxRecDepth 100000 in
theorem k13 : ((Rows.fnExactLoadPagesRow.maps == (Try.f11.params.toList ++ Rows.fnExactLoadPagesSpec.plain.varTypes Try.prog).any (Try.prog.mapsRec ·))) = true := by kernel_rfl
set_option maxRecDepth 100000 in
theorem k14 : ((Rows.fnExactLoadPagesRow.ifaces == (Try.f11.params.toList ++ Rows.fnExactLoadPagesSpec.plain.varTypes Try.prog).any (Try.prog.ifacesRec ·))) = true := by kernel_rfl
set_option maxRecDepth 100000 in
theorem k15 : ((Rows.fnExactLoadPagesRow.mapsOut == Try.prog.mapsAmong Try.f11.resultTypes.toList)) = true := by kernel_rfl
set_option maxRecDepth 100000 in
theorem k16 : ((Rows.fnExactLoadPagesRow.loops == (Try.f11.params.toList ++ Rows.fnExactLoadPagesSpec.plain.varTypes Try.prog).any (Try.prog.loopsFrom ·))) = true := by kernel_rfl
set_option maxRecDepth 100000 in
theorem k17 : ((Rows.fnExactLoadPagesRow.wideKeys == (Try.f11.params.toList ++ Rows.fnExactLoadPagesSpec.plain.varTypes Try.prog ++ Try.f11.resultTypes.toList).any (Try.prog.wideKeysFrom ·))) = true := by kernel_rfl
set_option maxRecDepth 100000 in
theorem k18 : (Rows.fnExactLoadPagesSpec.vars.all (Try.prog.varReadable ·)) = true := by kernel_rfl
set_option maxRecDepth 100000 in
theorem k19 : (Try.f11.resultTypes.all (fun t => Try.prog.readableRec t && decide (t < Try.prog.types.size))) = true := by kernel_rfl
set_option maxRecDepth 100000 in
theorem k20 : ((Rows.fnExactLoadPagesRow.ifacesOut == Try.f11.resultTypes.toList.any (Try.prog.ifacesRec ·))) = true := by kernel_rfl
set_option maxRecDepth 100000 in
theorem k21 : ((Rows.fnExactLoadPagesRow.loopsOut == Try.f11.resultTypes.toList.any (Try.prog.loopsFrom ·))) = true := by kernel_rfl
set_option maxRecDepth 100000 in
theorem k22 : ((Rows.fnExactLoadPagesRow.plainKeys == Try.prog.plainKeys)) = true := by kernel_rfl
theorem k23 : (Rows.fnExactLoadPagesRow.shortTexts.isNone) = true := by kernel_rfl
set_option maxRecDepth 100000 in
theorem k28 : ((Rows.fnExactLoadPagesRow.kinds == (if Rows.fnExactLoadPagesRow.domain.isEmpty then [] else Try.f11.params.toList.map fun t => match Try.prog.underlying t with | some (.int k) => some k | _ => none))) = true := by kernel_rfl
theorem k29 : ((Rows.fnExactLoadPagesRow.pinned == Rows.fnExactLoadPagesRow.pinnedBy)) = true := by kernel_rfl
set_option maxRecDepth 100000 in
theorem k30 : ((Rows.fnExactLoadPagesRow.veiled == (Try.f11.params.toList ++ Rows.fnExactLoadPagesSpec.plain.varTypes Try.prog ++ Try.f11.resultTypes.toList).any (Try.prog.veiledRec ·))) = true := by kernel_rfl
set_option maxRecDepth 100000 in
theorem k31 : (Rows.fnExactLoadPagesRow.veiledFits Try.prog Try.f11.params.toList (Try.f11.params.toList ++ Rows.fnExactLoadPagesSpec.plain.varTypes Try.prog ++ Try.f11.resultTypes.toList)) = true := by kernel_rfl
set_option maxRecDepth 100000 in
theorem facts : joinedFacts Try.prog 11 Try.f11 Rows.fnExactLoadPagesSpec Rows.fnExactLoadPagesRow = true := (and_mk (and_mk (and_mk (and_mk (and_mk (and_mk (and_mk (and_mk (and_mk (and_mk (and_mk (and_mk (and_mk (and_mk (and_mk (and_mk (and_mk (and_mk (and_mk (and_mk (and_mk (and_mk (and_mk (and_mk (and_mk (and_mk (and_mk (and_mk (and_mk (and_mk (and_mk k0 factLaid) factRowed) k3) k4) k5) k6) k7) k8) k9) k10) k11) k12) k13) k14) k15) k16) k17) k18) k19) k20) k21) k22) k23) factHeard) factEnter) factLift) factMake) k28) k29) k30) k31)
set_option maxRecDepth 100000 in
theorem named : Try.prog.funcNamed Rows.fnExactLoadPagesRow.func = some 11 := by kernel_rfl
set_option maxRecDepth 100000 in
theorem inst : Try.f11.isInstance Try.prog Rows.fnExactLoadPagesRow.origin Rows.fnExactLoadPagesRow.targs := of_decide_eq_true (by kernel_rfl)
set_option maxRecDepth 100000 in
theorem over : Rows.fnExactLoadPagesRow.holds Try.pinned (OpenSpec.ofChange Rows.fnExactLoadPagesSpec) :=
  OpenClaim.holds_of_wide 11 Try.f11 rfl rfl rfl rfl rfl rfl rfl ⟨rfl, rfl, rfl, rfl, rfl⟩ rfl rfl rfl rfl rfl named Try.func11 facts
    inst (by unfold Func.isWrapper; first | (rw [if_pos (by decide +kernel)]; kernel_rfl) | (rw [if_neg (by decide +kernel)]; exact ⟨rfl, rfl⟩))
    (fun os started H enc _ => lifted os started H enc)
theorem proved : Rows.FnExactLoadPagesSaid := over
#print axioms proved
end Go.Proofs.Ytoogaaoknpfkoaa.fnExactLoadPages
