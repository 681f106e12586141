/- For every list of texts (of any size), laws.FnExactFormat returns true: impl.Format answers as the model spec.Format, every field, leaves its argument alone, and its result is memory of its own. No condition. -/
import Derived.Test.YtoogaaoknpfkoaaFormatTop
import Derived.Test.YtoogaaoknpfkoaaSzDisk
import Derived.Test.YtoogaaoknpfkoaaOpen
import Derived.Test.YtoogaaoknpfkoaaBoxDisk
import Derived.Test.YtoogaaoknpfkoaaFactA
import Derived.Test.YtoogaaoknpfkoaaFactB
import Derived.Test.YtoogaaoknpfkoaaFactC
import Derived.Test.YtoogaaoknpfkoaaFactD
import Derived.Deep.RegionHeld3
import Derived.ProofKit
import Derived.OpenShut
import Derived.ShutString
import Derived.ChangeOld
namespace Go.Proofs.Ytoogaaoknpfkoaa.fnExactFormat
open Go.RowKit

set_option maxRecDepth 100000 in
theorem eqStrSame (A A' : Option Addr) (n n' c c' : Nat) (ss : List ByteArray) (w : World) (hl : ss.length = n) (hl' : ss.length = n') (hn : n ≤ maxLen) (h : StrL w A ss) (h' : StrL w A' ss) :
    Calls Try.prog 57 #[.slice A n c, .slice A' n' c'] w fun e w' => e = .returned (.bool true) ∧ Below w.heap.size w w' :=
  (eqStringS A A' n n' c c' ss ss w hl hl' hn (by omega) h h').mono fun e w' ⟨he, hb⟩ => ⟨by rw [he]; simp, hb⟩
set_option maxRecDepth 100000 in
theorem toStrs (A : Option Addr) (n c : Nat) (ss : List ByteArray) (w : World) (hl : ss.length = n) (hn : n ≤ 1048576) (h : StrL w A ss) :
    Calls Try.prog 55 #[.slice A n c] w fun e w' => ∃ B k, e = .returned (.slice B n k) ∧ Hid (OwnS w' w.heap.size w'.heap.size B ss) ∧ Below w.heap.size w w' :=
  (toStringS A n c ss w hl hn h).mono fun e w' ⟨he, hb, hr⟩ => ⟨_, _, he, Lib.hid (own_of_rowS hl hr (Nat.le_refl _) hr.lt), hb⟩
theorem fmt_bound (ps : List ByteArray) : (fmtS ps).length ≤ 48 := by
  unfold fmtS
  split
  · rw [fmtL_len]; omega
  · simp

set_option maxRecDepth 100000 in
set_option maxHeartbeats 16000000 in
theorem walk (A : Option Addr) (n c : Nat) (ss : List ByteArray) (w : World) (hl : ss.length = n) (hn : n ≤ maxLen) (h : StrL w A ss) (fs : FitS ss) :
    Calls Try.prog 9 #[.slice A n c] w fun e w' => e = .returned (.bool true) ∧ Below w.heap.size w w' := by
  have HSz := Lib.hid (szStringS A n c ss 1048576 w hl hn (by omega) (by omega) h fs)
  have HTo := Lib.hid (fun W (hb : Below w.heap.size w W) (h1 : n ≤ 1048576) => toStrs A n c ss W hl h1 (h.below hb))
  have HSpec := Lib.hid (fun W A' c' (h' : StrL W A' ss) => specFormat A' n c' ss W hl hn h' fs)
  have HImpl := Lib.hid (fun W A' c' (h' : StrL W A' ss) => implFormat A' n c' ss W hl hn h' fs)
  have HL := Lib.hid hl
  have HBr := Lib.hid (fmt_bound ss)
  generalize hrs : fmtS ss = rs at HSpec HImpl HBr
  generalize hcode : pagesC ss = code at HSpec HImpl
  clear hl hn h fs hrs hcode
  have hob : (code != code) = false := by simp
  go_enter Try.func9, Try.ntmps9
  go_wp2_with fail
  refine HSz.out.mono ?_
  rintro e w1 ⟨hres, hb1⟩
  have H0 := Lib.hid hb1
  clear HSz hb1
  rcases hres with rfl | ⟨rfl, hle⟩
  · go_wp2
    go_ret
    exact ⟨rfl, H0.out⟩
  have hsz : n ≤ 1048576 := by have := HL.out; omega
  generalize ss.length + lenS ss = u at hle
  have hp : ¬ (1048576 : Int) - (u : Int) < 0 := by omega
  go_wp2_with fail
  refine (HTo.out _ H0.out hsz).mono ?_
  rintro e w2 ⟨A2, c2, rfl, S2, hb2⟩
  have H1 := Lib.hid (bt H0.out hb2)
  clear H0
  clear hb2
  go_wp2_with fail
  refine (HSpec.out w2 A2 c2 S2.out.reads).mono ?_
  rintro e w3 ⟨A3, n3, c3, C3, m3, d3, rfl, L3, M3, S3, R3, hb3⟩
  have H2 := Lib.hid (bt H1.out hb3)
  clear H1
  have Q0 : Hid (w.heap.size ≤ w3.heap.size) := Lib.hid H2.out.size
  clear hb3 S2
  have hba := alloc_below w3 (.cells #[.slice A3 n3 c3, .slice C3 m3 d3] 26)
  have D3 := Lib.hid (BD.new (n := n3) (c := c3) (m := m3) (d := d3) S3.out R3.out)
  have H3 := Lib.hid (bt H2.out hba)
  clear H2
  have Z3 : Hid (w3.heap.size < (w3.alloc (.cells #[.slice A3 n3 c3, .slice C3 m3 d3] 26)).heap.size) := Lib.hid D3.out.box.lt
  clear hba S3 R3
  obtain ⟨w4, hw4⟩ : ∃ w4, w4 = w3.alloc (.cells #[.slice A3 n3 c3, .slice C3 m3 d3] 26) := ⟨_, rfl⟩
  rw [← hw4] at  H3 D3 Z3
  have HW4 := Lib.hid hw4
  clear hw4
  go_wp2_with fail
  rw [← HW4.out]
  clear HW4
  refine (HTo.out w4 H3.out hsz).mono ?_
  rintro e w5 ⟨A5, c5, rfl, S5, hb5⟩
  have F4 := Lib.hid (D3.out.step hb5)
  have H5 := Lib.hid (bt H3.out hb5)
  clear D3 H3
  have Q1 : Hid (w4.heap.size ≤ w5.heap.size) := Lib.hid hb5.size
  clear hb5
  go_wp2_with fail
  refine (HImpl.out w5 A5 c5 S5.out.reads).mono ?_
  rintro e w7 ⟨A7, n7, c7, C7, m7, d7, rfl, L7, M7, S7, R7, hb7⟩
  have F6 := Lib.hid (F4.out.step hb7)
  have F7 := Lib.hid (S5.out.below hb7)
  have H8 := Lib.hid (bt H5.out hb7)
  clear F4 S5 H5
  have Q2 : Hid (w5.heap.size ≤ w7.heap.size) := Lib.hid hb7.size
  clear hb7
  have hba := alloc_below w7 (.cells #[.slice A7 n7 c7, .slice C7 m7 d7] 26)
  have D7 := Lib.hid (BD.new (n := n7) (c := c7) (m := m7) (d := d7) S7.out R7.out)
  have F9 := Lib.hid (F6.out.step hba)
  have F10 := Lib.hid (F7.out.below hba)
  have H11 := Lib.hid (bt H8.out hba)
  clear F6 F7 H8
  have Z7 : Hid (w7.heap.size < (w7.alloc (.cells #[.slice A7 n7 c7, .slice C7 m7 d7] 26)).heap.size) := Lib.hid D7.out.box.lt
  clear hba S7 R7
  obtain ⟨w8, hw8⟩ : ∃ w8, w8 = w7.alloc (.cells #[.slice A7 n7 c7, .slice C7 m7 d7] 26) := ⟨_, rfl⟩
  rw [← hw8] at F9 F10 H11 D7 Z7
  have HW8 := Lib.hid hw8
  clear hw8
  have BR : Hid ((n3 ≤ 48 ∧ m3 ≤ 48) ∧ (n7 ≤ 48 ∧ m7 ≤ 48)) := by
    have a1 := HBr.out; have a2 := L3.out; have a3 := M3.out; have a4 := L7.out; have a5 := M7.out
    exact Lib.hid (by simp at a3 a5; omega)
  have f0 := F9.out.f0
  have f1 := F9.out.f1
  rw [HW8.out] at f0 f1
  go_wp2_with fail
  rw [← HW8.out]
  clear f0 f1 HW8
  refine (eqDiskSame A7 A3 C7 C3 n7 n3 m7 m3 c7 c3 d7 d3 rs [] w8 L7.out L3.out M7.out M3.out (by have := BR.out.2; unfold maxLen; omega) (by have := BR.out.2; unfold maxLen; omega) D7.out.s.reads F9.out.s.reads D7.out.r.reads F9.out.r.reads).mono ?_
  rintro e w9 ⟨rfl, hb9⟩
  have F12 := Lib.hid (F9.out.step hb9)
  have F13 := Lib.hid (F10.out.below hb9)
  have F14 := Lib.hid (D7.out.step hb9)
  have H15 := Lib.hid (bt H11.out hb9)
  clear F9 F10 D7 H11
  clear hb9
  go_wp2_with fail
  refine (HTo.out _ H15.out hsz).mono ?_
  rintro e wa ⟨Aa, ca, rfl, Sa, hba⟩
  have F16 := Lib.hid (F12.out.step hba)
  have F17 := Lib.hid (F13.out.below hba)
  have F18 := Lib.hid (F14.out.step hba)
  have H19 := Lib.hid (bt H15.out hba)
  clear F12 F13 F14 H15
  clear hba
  go_wp2_with fail
  refine (eqStrSame A5 Aa n n c5 ca ss wa HL.out HL.out (by unfold maxLen; omega) F17.out.reads Sa.out.reads).mono ?_
  rintro e wb ⟨rfl, hbb⟩
  have F20 := Lib.hid (F16.out.step hbb)
  have F21 := Lib.hid (F17.out.below hbb)
  have F22 := Lib.hid (F18.out.step hbb)
  have H23 := Lib.hid (bt H19.out hbb)
  clear F16 F17 F18 H19
  clear hbb Sa
  go_wp2_with fail
  refine (markStringS A5 n c5 1 w4.heap.size w5.heap.size ss wb HL.out (by omega) (by omega) (by omega) F21.out).mono ?_
  rintro e wc ⟨rfl, Tc, hbc⟩
  have HLo : Hid (w4.heap.size ≤ wb.heap.size) := Lib.hid (by have := F22.out.box.lt; have := Q1.out; have := Q2.out; omega)
  have HLw : Hid (w.heap.size ≤ w4.heap.size) := Lib.hid (by have := Q0.out; have := Z3.out; have := Q1.out; have := Q2.out; have := Z7.out; omega)
  have F24 := Lib.hid (F20.out.btw hbc (.inl (by have := Q0.out; have := Z3.out; have := Q1.out; have := Q2.out; have := Z7.out; omega)) (.inl (by have := Q0.out; have := Z3.out; have := Q1.out; have := Q2.out; have := Z7.out; omega)))
  have F25 := Lib.hid (F22.out.btw hbc (.inr (by have := Q0.out; have := Z3.out; have := Q1.out; have := Q2.out; have := Z7.out; omega)) (.inr (by have := Q0.out; have := Z3.out; have := Q1.out; have := Q2.out; have := Z7.out; omega)))
  have H26 := Lib.hid (H23.out.trans ((hbc.below HLo.out).mono HLw.out))
  clear F20 F21 F22 H23
  clear hbc Tc HLo HLw
  generalize hk : 1 + n = kk
  clear hk
  have hk0 : ¬ (kk : Int) < 0 := by omega
  have f0 := F25.out.f0
  have f1 := F25.out.f1
  have f2 := F24.out.f0
  have f3 := F24.out.f1
  go_wp2_with fail
  refine (eqDiskSame A7 A3 C7 C3 n7 n3 m7 m3 c7 c3 d7 d3 rs [] wc L7.out L3.out M7.out M3.out (by have := BR.out.2; unfold maxLen; omega) (by have := BR.out.2; unfold maxLen; omega) F25.out.s.reads F24.out.s.reads F25.out.r.reads F24.out.r.reads).mono ?_
  rintro e wd ⟨rfl, hbd⟩
  have F27 := Lib.hid (F24.out.step hbd)
  have F28 := Lib.hid (F25.out.step hbd)
  have H29 := Lib.hid (bt H26.out hbd)
  clear F24 F25 H26
  clear hbd f0 f1 f2 f3
  have f0 := F28.out.f0
  have f1 := F28.out.f1
  go_wp2_with fail
  refine (markDisk A7 C7 n7 c7 m7 d7 w5.heap.size w7.heap.size rs [] wd L7.out M7.out (by have := BR.out.2; omega) (by have := BR.out.2; omega) F28.out.s F28.out.r (Nat.le_of_lt F28.out.box.lt)).mono ?_
  rintro e we ⟨rfl, Te, Ue, hbe⟩
  have HLo : Hid (w5.heap.size ≤ wd.heap.size) := Lib.hid (Nat.le_trans Q2.out (Nat.le_of_lt F28.out.box.lt))
  have HLw : Hid (w.heap.size ≤ w5.heap.size) := Lib.hid (by have := Q0.out; have := Z3.out; have := Q1.out; have := Q2.out; have := Z7.out; omega)
  have GB := Lib.hid (F28.out.box.btw hbe (.inr (Nat.le_refl _)))
  have F30 := Lib.hid (F27.out.btw hbe (.inl (by have := Q0.out; have := Z3.out; have := Q1.out; have := Q2.out; have := Z7.out; omega)) (.inl (by have := Q0.out; have := Z3.out; have := Q1.out; have := Q2.out; have := Z7.out; omega)))
  have H31 := Lib.hid (H29.out.trans ((hbe.below HLo.out).mono HLw.out))
  clear F27 F28 H29
  clear f0 f1 hbe HLo HLw
  generalize hq : 1 + n7 + m7 * 2 = q
  have HQ := Lib.hid hq
  clear hq
  have hq0 : ¬ (q : Int) < 0 := by omega
  have hqq : ((q : Int) != (q : Int)) = false := by simp
  have f0 : we.cell? ⟨w7.heap.size, 0, none⟩ = some (.slice A7 n7 c7) := GB.out.cell 0 rfl
  have f1 : we.cell? ⟨w7.heap.size, 1, none⟩ = some (.slice C7 m7 d7) := GB.out.cell 1 rfl
  go_wp2_with fail
  refine (heldDisk A7 C7 n7 c7 m7 d7 we (by have := BR.out.2; omega) (by have := BR.out.2; omega) Te.out.reads Ue.out.reads).mono ?_
  rintro e wf ⟨rfl, hbwf⟩
  rw [HQ.out]
  have F32 := Lib.hid (F30.out.step hbwf)
  have F33 := Lib.hid (GB.out.step hbwf)
  have F34 := Lib.hid (Te.out.below hbwf)
  have F35 := Lib.hid (Ue.out.below hbwf)
  have H36 := Lib.hid (bt H31.out hbwf)
  clear F30 GB Te Ue H31
  clear hbwf f0 f1
  go_wp2_with fail
  refine (HTo.out _ H36.out hsz).mono ?_
  rintro e wg ⟨Ag, cg, rfl, Sg, hbg⟩
  have F37 := Lib.hid (F32.out.step hbg)
  have F38 := Lib.hid (F33.out.step hbg)
  have F39 := Lib.hid (F34.out.below hbg)
  have F40 := Lib.hid (F35.out.below hbg)
  have H41 := Lib.hid (bt H36.out hbg)
  clear F32 F33 F34 F35 H36
  clear hbg
  go_wp2_with fail
  refine (HImpl.out wg Ag cg Sg.out.reads).mono ?_
  rintro e wh ⟨Ah, nh, ch, Ch, mh, dh, rfl, Lh, Mh, Sh, Rh, hbh⟩
  have F42 := Lib.hid (F37.out.step hbh)
  have F43 := Lib.hid (F38.out.step hbh)
  have F44 := Lib.hid (F39.out.below hbh)
  have F45 := Lib.hid (F40.out.below hbh)
  have H46 := Lib.hid (bt H41.out hbh)
  clear F37 F38 F39 F40 H41
  clear hbh Sg
  have hba := alloc_below wh (.cells #[.slice Ah nh ch, .slice Ch mh dh] 26)
  have Dh := Lib.hid (BD.new (n := nh) (c := ch) (m := mh) (d := dh) Sh.out Rh.out)
  have F47 := Lib.hid (F42.out.step hba)
  have F48 := Lib.hid (F43.out.step hba)
  have F49 := Lib.hid (F44.out.below hba)
  have F50 := Lib.hid (F45.out.below hba)
  have H51 := Lib.hid (bt H46.out hba)
  clear F42 F43 F44 F45 H46
  have Zh : Hid (wh.heap.size < (wh.alloc (.cells #[.slice Ah nh ch, .slice Ch mh dh] 26)).heap.size) := Lib.hid Dh.out.box.lt
  clear hba Sh Rh
  obtain ⟨wi, hwi⟩ : ∃ wi, wi = wh.alloc (.cells #[.slice Ah nh ch, .slice Ch mh dh] 26) := ⟨_, rfl⟩
  rw [← hwi] at F47 F48 F49 F50 H51 Dh Zh
  have HWi := Lib.hid hwi
  clear hwi
  have f0 := F47.out.f0
  have f1 := F47.out.f1
  rw [HWi.out] at f0 f1
  have Bh : Hid (nh ≤ maxLen ∧ mh ≤ maxLen) := by have a1 := HBr.out; have a2 := Lh.out; have a3 := Mh.out; exact Lib.hid (by simp at a3; unfold maxLen; omega)
  go_wp2_with fail
  rw [← HWi.out]
  clear f0 f1 HWi
  refine (eqDiskSame Ah A3 Ch C3 nh n3 mh m3 ch c3 dh d3 rs [] wi Lh.out L3.out Mh.out M3.out Bh.out.1 Bh.out.2 Dh.out.s.reads F47.out.s.reads Dh.out.r.reads F47.out.r.reads).mono ?_
  rintro e wj ⟨rfl, hbj⟩
  have F52 := Lib.hid (F47.out.step hbj)
  have F53 := Lib.hid (F48.out.step hbj)
  have F54 := Lib.hid (F49.out.below hbj)
  have F55 := Lib.hid (F50.out.below hbj)
  have F56 := Lib.hid (Dh.out.step hbj)
  have H57 := Lib.hid (bt H51.out hbj)
  clear F47 F48 F49 F50 Dh H51
  clear hbj
  have f0 : wj.cell? ⟨w7.heap.size, 0, none⟩ = some (.slice A7 n7 c7) := F53.out.cell 0 rfl
  have f1 : wj.cell? ⟨w7.heap.size, 1, none⟩ = some (.slice C7 m7 d7) := F53.out.cell 1 rfl
  go_wp2_with fail
  refine (heldDisk A7 C7 n7 c7 m7 d7 wj (by have := BR.out.2; omega) (by have := BR.out.2; omega) F54.out.reads F55.out.reads).mono ?_
  rintro e wk ⟨rfl, hbwk⟩
  rw [HQ.out]
  have F58 := Lib.hid (F52.out.step hbwk)
  have F59 := Lib.hid (F53.out.step hbwk)
  have F60 := Lib.hid (F54.out.below hbwk)
  have F61 := Lib.hid (F55.out.below hbwk)
  have F62 := Lib.hid (F56.out.step hbwk)
  have H63 := Lib.hid (bt H57.out hbwk)
  clear F52 F53 F54 F55 F56 H57
  clear hbwk f0 f1
  go_wp2
  go_ret
  exact ⟨rfl, H63.out⟩

/-! The row's step. -/
open Go.ChangeShapes Go.WideShapes Go.ChangeAt
open Go.ChangeMaps (open_string shut_string)
set_option maxRecDepth 100000 in
theorem own : ownKnob Try.prog.godebug = none := by kernel_rfl
set_option maxRecDepth 100000 in
theorem laidOut : laidOutB Try.prog = true := factLaid
set_option maxRecDepth 100000 in
theorem lifted (os : Os) (started : os.Started) (H : Type) (enc : TypeId × Value → H) :
    ReturnsInHanded {} Try.checked os 9 .any (Rows.fnExactFormatSpec.pre6 enc Try.prog Try.f9 Rows.fnExactFormatRow.domain false) (Rows.fnExactFormatSpec.post enc Try.prog Try.f9 false true false false) := by
  refine returnsInHanded_of_change (C := Try.checked) own started (by kernel_rfl) Try.func9
    (ChangeSpec.witness6 (enc := enc) (C := Try.checked) false ⟨#[], #[.slice none 0 0], []⟩ 8 (by kernel_rfl) (by kernel_rfl) (by kernel_rfl) (by kernel_rfl)) ?_
  intro W base args ds gs before hval0 hW hcnd _
  have hval : ∀ (j : Nat) t v, Try.f9.params[j]? = some t → args[j]? = some v → Value.okWide Try.prog W .any base t v := hval0
  have hW' := hW
  obtain ⟨p, q, hA0, hV, rfl, hfz, hnd⟩ := hW
  have hA : DataW.TrodAll enc Try.prog W 0 (fun _ => true) true Try.f9.params.toList args.toList ds p := hA0
  rw [Try.params9] at hA hval
  obtain ⟨v0, vs0, d0, ds0, p0, q0, hargs, rfl, rfl, h0, r0⟩ := trodAll_cons hA
  obtain ⟨rfl, rfl, rfl⟩ := trodAll_nil r0
  obtain rfl : args = #[v0] := by cases args; simp_all
  obtain ⟨rfl, rfl⟩ := trodVars_none hV
  have k0 := h0
  have lt0 : ∀ x ∈ p0, x.block < W.heap.size := by obtain ⟨m, hm⟩ := k0; exact DataW.trod_lt m _ _ _ hm
  obtain ⟨f0, hf0⟩ := h0
  obtain ⟨a0, l0, c0, rfl⟩ := okWide_slice Try.underlying23 (hval 0 23 v0 rfl rfl)
  obtain ⟨A0, n0, cc0, zs0, e0, hl0, hn0, hs0, fs0⟩ := open_strs Try.underlying23 Try.underlying9 cellsStr (by simpa [Value.cells] using hf0)
  injection e0 with e1 e2 e3; subst e1 e2 e3
  clear hA0 hval0
  refine (walk a0 l0 c0 zs0 W hl0 hn0 hs0 fs0).mono fun e W' ⟨he, bel⟩ => ?_
  subst he
  exact ⟨_, rfl, _, _, _, [], _, [], hW', trodAll_mk1 (shut_bool Try.underlying4 _), (trodAll_cons_mk (Below.trod laidOut (by kernel_rfl) (of_decide_eq_true (by kernel_rfl)) k0 bel lt0) trodAll_mk0), rfl, bel.frame _, fun h => by cases h⟩

theorem k0 : (Rows.fnExactFormatRow.wf (OpenSpec.ofChange Rows.fnExactFormatSpec)) = true := by kernel_rfl
set_option maxRecDepth 100000 in
theorem k3 : (Try.f9.params.all (Try.prog.readableRec ·)) = true := by kernel_rfl
set_option maxRecDepth 100000 in
theorem k4 : (namedTie Try.prog Rows.fnExactFormatRow.named Rows.fnExactFormatSpec.vars) = true := by kernel_rfl
theorem k5 : ((Rows.fnExactFormatRow.stops == [])) = true := by kernel_rfl
set_option maxRecDepth 100000 in
theorem k6 : ((Try.prog.stops == [])) = true := by kernel_rfl
theorem k7 : ((Rows.fnExactFormatRow.knobs == [])) = true := by kernel_rfl
set_option maxRecDepth 100000 in
theorem k8 : ((Try.prog.stopKnobs == [])) = true := by kernel_rfl
set_option maxRecDepth 100000 in
theorem k9 : ((Rows.fnExactFormatRow.inPlace == Try.prog.inPlace 9)) = true := by kernel_rfl
set_option maxRecDepth 100000 in
theorem k10 : ((Rows.fnExactFormatRow.unfollowed == Try.prog.unfollowed 9)) = true := by kernel_rfl
set_option maxRecDepth 100000 in
theorem k11 : ((Rows.fnExactFormatRow.recurses == Try.prog.recurses 9)) = true := by kernel_rfl
set_option maxRecDepth 100000 in
theorem k12 : ((Rows.fnExactFormatRow.named == Try.prog.varsNamed 9)) = true := by kernel_rfl
set_option maxRecDepth 100000 in
theorem k13 : ((Rows.fnExactFormatRow.maps == (Try.f9.params.toList ++ Rows.fnExactFormatSpec.plain.varTypes Try.prog).any (Try.prog.mapsRec ·))) = true := by kernel_rfl
set_option maxRecDepth 100000 in
theorem k14 : ((Rows.fnExactFormatRow.ifaces == (Try.f9.params.toList ++ Rows.fnExactFormatSpec.plain.varTypes Try.prog).any (Try.prog.ifacesRec ·))) = true := by kernel_rfl
set_option maxRecDepth 100000 in
theorem k15 : ((Rows.fnExactFormatRow.mapsOut == Try.prog.mapsAmong Try.f9.resultTypes.toList)) = true := by kernel_rfl
set_option maxRecDepth 100000 in
theorem k16 : ((Rows.fnExactFormatRow.loops == (Try.f9.params.toList ++ Rows.fnExactFormatSpec.plain.varTypes Try.prog).any (Try.prog.loopsFrom ·))) = true := by kernel_rfl
set_option maxRecDepth 100000 in
theorem k17 : ((Rows.fnExactFormatRow.wideKeys == (Try.f9.params.toList ++ Rows.fnExactFormatSpec.plain.varTypes Try.prog ++ Try.f9.resultTypes.toList).any (Try.prog.wideKeysFrom ·))) = true := by kernel_rfl
set_option maxRecDepth 100000 in
theorem k18 : (Rows.fnExactFormatSpec.vars.all (Try.prog.varReadable ·)) = true := by kernel_rfl
set_option maxRecDepth 100000 in
theorem k19 : (Try.f9.resultTypes.all (fun t => Try.prog.readableRec t && decide (t < Try.prog.types.size))) = true := by kernel_rfl
set_option maxRecDepth 100000 in
theorem k20 : ((Rows.fnExactFormatRow.ifacesOut == Try.f9.resultTypes.toList.any (Try.prog.ifacesRec ·))) = true := by kernel_rfl
set_option maxRecDepth 100000 in
theorem k21 : ((Rows.fnExactFormatRow.loopsOut == Try.f9.resultTypes.toList.any (Try.prog.loopsFrom ·))) = true := by kernel_rfl
set_option maxRecDepth 100000 in
theorem k22 : ((Rows.fnExactFormatRow.plainKeys == Try.prog.plainKeys)) = true := by kernel_rfl
theorem k23 : (Rows.fnExactFormatRow.shortTexts.isNone) = true := by kernel_rfl
set_option maxRecDepth 100000 in
theorem k28 : ((Rows.fnExactFormatRow.kinds == (if Rows.fnExactFormatRow.domain.isEmpty then [] else Try.f9.params.toList.map fun t => match Try.prog.underlying t with | some (.int k) => some k | _ => none))) = true := by kernel_rfl
theorem k29 : ((Rows.fnExactFormatRow.pinned == Rows.fnExactFormatRow.pinnedBy)) = true := by kernel_rfl
set_option maxRecDepth 100000 in
theorem k30 : ((Rows.fnExactFormatRow.veiled == (Try.f9.params.toList ++ Rows.fnExactFormatSpec.plain.varTypes Try.prog ++ Try.f9.resultTypes.toList).any (Try.prog.veiledRec ·))) = true := by kernel_rfl
set_option maxRecDepth 100000 in
theorem k31 : (Rows.fnExactFormatRow.veiledFits Try.prog Try.f9.params.toList (Try.f9.params.toList ++ Rows.fnExactFormatSpec.plain.varTypes Try.prog ++ Try.f9.resultTypes.toList)) = true := by kernel_rfl
set_option maxRecDepth 100000 in
theorem facts : joinedFacts Try.prog 9 Try.f9 Rows.fnExactFormatSpec Rows.fnExactFormatRow = true := (and_mk (and_mk (and_mk (and_mk (and_mk (and_mk (and_mk (and_mk (and_mk (and_mk (and_mk (and_mk (and_mk (and_mk (and_mk (and_mk (and_mk (and_mk (and_mk (and_mk (and_mk (and_mk (and_mk (and_mk (and_mk (and_mk (and_mk (and_mk (and_mk (and_mk (and_mk k0 factLaid) factRowed) k3) k4) k5) k6) k7) k8) k9) k10) k11) k12) k13) k14) k15) k16) k17) k18) k19) k20) k21) k22) k23) factHeard) factEnter) factLift) factMake) k28) k29) k30) k31)
set_option maxRecDepth 100000 in
theorem named : Try.prog.funcNamed Rows.fnExactFormatRow.func = some 9 := by kernel_rfl
set_option maxRecDepth 100000 in
theorem inst : Try.f9.isInstance Try.prog Rows.fnExactFormatRow.origin Rows.fnExactFormatRow.targs := of_decide_eq_true (by kernel_rfl)
set_option maxRecDepth 100000 in
theorem over : Rows.fnExactFormatRow.holds Try.pinned (OpenSpec.ofChange Rows.fnExactFormatSpec) :=
  OpenClaim.holds_of_wide 9 Try.f9 rfl rfl rfl rfl rfl rfl rfl ⟨rfl, rfl, rfl, rfl, rfl⟩ rfl rfl rfl rfl rfl named Try.func9 facts
    inst (by unfold Func.isWrapper; first | (rw [if_pos (by decide +kernel)]; kernel_rfl) | (rw [if_neg (by decide +kernel)]; exact ⟨rfl, rfl⟩))
    (fun os started H enc _ => lifted os started H enc)
theorem proved : Rows.FnExactFormatSaid := over
#print axioms proved
end Go.Proofs.Ytoogaaoknpfkoaa.fnExactFormat
