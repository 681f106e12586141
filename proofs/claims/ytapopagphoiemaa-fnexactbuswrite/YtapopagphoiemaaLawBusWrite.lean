/- For every flash (of any size, valid or not) and every further argument, laws.FnExactBusWrite returns true: impl.BusWrite answers as the model spec.BusWrite, every field, leaves its argument alone, and its result is memory of its own. No condition. -/
import Derived.Test.YtapopagphoiemaaBusWrite
import Derived.Test.YtapopagphoiemaaOpenFlash
import Derived.Test.YtapopagphoiemaaFactA
import Derived.Test.YtapopagphoiemaaFactB
import Derived.Test.YtapopagphoiemaaFactC
import Derived.Test.YtapopagphoiemaaFactD
import Derived.Deep.RegionHeld3
import Derived.ProofKit
import Derived.OpenShut
import Derived.ShutString
import Derived.ChangeOld
namespace Go.Proofs.Ytapopagphoiemaa.fnExactBusWrite
open Go.RowKit

set_option maxRecDepth 100000 in
set_option maxHeartbeats 16000000 in
theorem walk (A : Option Addr) (n c : Nat) (C : Option Addr) (m d : Nat) (st : Int) (zs : List Int) (gs : List Bool) (a v : Int) (w : World) (hl : zs.length = n) (hm : gs.length = m) (hn : n ≤ maxLen) (hmm : m ≤ maxLen) (h : IntL w A zs) (g : BoolL w C gs) (_ws : (Lit.int .i64 st).wf = true) (_w0 : (Lit.int .i64 a).wf = true) (_w1 : (Lit.int .i64 v).wf = true) :
    Calls Try.prog 7 #[.agg #[.slice A n c, .slice C m d, .int .i64 st], .int .i64 a, .int .i64 v] w fun e w' => e = .returned (.bool true) ∧ Below w.heap.size w w' := by
  have HSz := Lib.hid (fun W => szFlash A C n c m d st 1048576 W hn hmm (by omega) (by omega))
  have HTo := Lib.hid (fun W (hb : Below w.heap.size w W) (h1 : n ≤ 1048576) (h2 : m ≤ 1048576) => toFlash A C n c m d st zs gs W hl hm h1 h2 (h.below hb) (g.below hb))
  have HL := Lib.hid (And.intro hl hm)
  have HSpec := Lib.hid (fun W A' n' c' C' m' d' (hl' : zs.length = n') (hm' : gs.length = m') (hn' : n' ≤ maxLen) (hmm' : m' ≤ maxLen) (h' : IntL W A' zs) (g' : BoolL W C' gs) => specBusWrite A' C' n' c' m' d' st zs gs a v W hl' hm' hn' hmm' h' g')
  have HImpl := Lib.hid (fun W A' n' c' C' m' d' (hl' : zs.length = n') (hm' : gs.length = m') (hn' : n' ≤ maxLen) (hmm' : m' ≤ maxLen) (h' : IntL W A' zs) (g' : BoolL W C' gs) => implBusWrite A' C' n' c' m' d' st zs gs a v W hl' hm' hn' hmm' h' g')
  have HB2 := Lib.hid (writeF_bound zs gs st a v)
  generalize writeF zs gs st a v = rf at HSpec HImpl HB2
  obtain ⟨rs, rw, rt, code⟩ := rf
  simp only at HSpec HImpl HB2
  clear hl hm hn hmm h g _ws _w0 _w1
  have hb0 := alloc_below w (.cells #[.slice A n c, .slice C m d, .int .i64 st] 39)
  have X0 := Lib.hid (Box.new w 39 #[.slice A n c, .slice C m d, .int .i64 st])
  go_enter Try.func7, Try.ntmps7
  go_wp2_with fail
  refine (HSz.out _).mono ?_
  rintro e w1 ⟨hres, hb1⟩
  have X1 := Lib.hid (X0.out.step hb1)
  have H0 := Lib.hid (bt hb0 hb1)
  clear hb0 X0 HSz hb1
  rcases hres with rfl | ⟨rfl, hle⟩
  · go_wp2
    go_ret
    exact ⟨rfl, H0.out⟩
  have hsz : n + m ≤ 1048576 := by omega
  generalize n + m = u at hle
  have hp : ¬ (1048576 : Int) - (u : Int) < 0 := by omega
  have f0 : w1.cell? ⟨w.heap.size, 0, none⟩ = some (.slice A n c) := X1.out.cell 0 rfl
  have f1 : w1.cell? ⟨w.heap.size, 1, none⟩ = some (.slice C m d) := X1.out.cell 1 rfl
  have fx : w1.cell? ⟨w.heap.size, 2, none⟩ = some (.int .i64 st) := X1.out.cell 2 rfl
  go_wp2_with fail
  refine (HTo.out _ H0.out (by omega) (by omega)).mono ?_
  rintro e w2 ⟨A2, n2, c2, C2, m2, d2, rfl, L2, M2, S2, R2, hb2⟩
  clear f0 f1 fx
  have F1 := Lib.hid (X1.out.step hb2)
  have H2 := Lib.hid (bt H0.out hb2)
  clear X1 H0
  clear hb2
  go_wp2_with fail
  refine (HSpec.out w2 A2 n2 c2 C2 m2 d2 L2.out M2.out (by have := L2.out; have := HL.out.1; unfold maxLen; omega) (by have := M2.out; have := HL.out.2; unfold maxLen; omega) S2.out.reads R2.out.reads).mono ?_
  rintro e w3 ⟨A3, n3, c3, C3, m3, d3, rfl, L3, M3, S3, R3, hb3⟩
  have F3 := Lib.hid (F1.out.step hb3)
  have H4 := Lib.hid (bt H2.out hb3)
  clear F1 H2
  have Q0 : Hid (w.heap.size < w3.heap.size) := Lib.hid F3.out.lt
  clear hb3 L2 M2 S2 R2
  have hba := alloc_below w3 (.cells #[.slice A3 n3 c3, .slice C3 m3 d3, .int .i64 rt] 26)
  have D3 := Lib.hid (BF.new (n := n3) (c := c3) (m := m3) (d := d3) (st := rt) S3.out R3.out)
  have F5 := Lib.hid (F3.out.step hba)
  have H6 := Lib.hid (bt H4.out hba)
  clear F3 H4
  have Z3 : Hid (w3.heap.size < (w3.alloc (.cells #[.slice A3 n3 c3, .slice C3 m3 d3, .int .i64 rt] 26)).heap.size) := Lib.hid D3.out.box.lt
  clear hba S3 R3
  obtain ⟨w4, hw4⟩ : ∃ w4, w4 = w3.alloc (.cells #[.slice A3 n3 c3, .slice C3 m3 d3, .int .i64 rt] 26) := ⟨_, rfl⟩
  rw [← hw4] at F5 H6 D3 Z3
  have HW4 := Lib.hid hw4
  clear hw4
  have f0 : w4.cell? ⟨w.heap.size, 0, none⟩ = some (.slice A n c) := F5.out.cell 0 rfl
  have f1 : w4.cell? ⟨w.heap.size, 1, none⟩ = some (.slice C m d) := F5.out.cell 1 rfl
  have fx : w4.cell? ⟨w.heap.size, 2, none⟩ = some (.int .i64 st) := F5.out.cell 2 rfl
  rw [HW4.out] at f0 f1 fx
  go_wp2_with fail
  rw [← HW4.out]
  refine (HTo.out w4 H6.out (by omega) (by omega)).mono ?_
  rintro e w5 ⟨A5, n5, c5, C5, m5, d5, rfl, L5, M5, S5, R5, hb5⟩
  clear f0 f1 fx HW4
  have F7 := Lib.hid (F5.out.step hb5)
  have F8 := Lib.hid (D3.out.step hb5)
  have H9 := Lib.hid (bt H6.out hb5)
  clear F5 D3 H6
  have Q1 : Hid (w4.heap.size ≤ w5.heap.size) := Lib.hid hb5.size
  clear hb5
  have hba := alloc_below w5 (.cells #[.slice A5 n5 c5, .slice C5 m5 d5, .int .i64 st] 26)
  have D5 := Lib.hid (BF.new (n := n5) (c := c5) (m := m5) (d := d5) (st := st) S5.out R5.out)
  have F10 := Lib.hid (F7.out.step hba)
  have F11 := Lib.hid (F8.out.step hba)
  have H12 := Lib.hid (bt H9.out hba)
  clear F7 F8 H9
  have Z5 : Hid (w5.heap.size < (w5.alloc (.cells #[.slice A5 n5 c5, .slice C5 m5 d5, .int .i64 st] 26)).heap.size) := Lib.hid D5.out.box.lt
  clear hba S5 R5
  obtain ⟨w6, hw6⟩ : ∃ w6, w6 = w5.alloc (.cells #[.slice A5 n5 c5, .slice C5 m5 d5, .int .i64 st] 26) := ⟨_, rfl⟩
  rw [← hw6] at F10 F11 H12 D5 Z5
  have HW6 := Lib.hid hw6
  clear hw6
  go_wp2_with fail
  rw [← HW6.out]
  clear HW6
  refine (HImpl.out w6 A5 n5 c5 C5 m5 d5 L5.out M5.out (by have := L5.out; have := HL.out.1; unfold maxLen; omega) (by have := M5.out; have := HL.out.2; unfold maxLen; omega) D5.out.s.reads D5.out.r.reads).mono ?_
  rintro e w7 ⟨A7, n7, c7, C7, m7, d7, rfl, L7, M7, S7, R7, hb7⟩
  have F13 := Lib.hid (F10.out.step hb7)
  have F14 := Lib.hid (F11.out.step hb7)
  have F15 := Lib.hid (D5.out.step hb7)
  have H16 := Lib.hid (bt H12.out hb7)
  clear F10 F11 D5 H12
  have Q2 : Hid (w6.heap.size ≤ w7.heap.size) := Lib.hid hb7.size
  clear hb7
  have hba := alloc_below w7 (.cells #[.slice A7 n7 c7, .slice C7 m7 d7, .int .i64 rt] 26)
  have D7 := Lib.hid (BF.new (n := n7) (c := c7) (m := m7) (d := d7) (st := rt) S7.out R7.out)
  have F17 := Lib.hid (F13.out.step hba)
  have F18 := Lib.hid (F14.out.step hba)
  have F19 := Lib.hid (F15.out.step hba)
  have H20 := Lib.hid (bt H16.out hba)
  clear F13 F14 F15 H16
  have Z7 : Hid (w7.heap.size < (w7.alloc (.cells #[.slice A7 n7 c7, .slice C7 m7 d7, .int .i64 rt] 26)).heap.size) := Lib.hid D7.out.box.lt
  clear hba S7 R7
  obtain ⟨w8, hw8⟩ : ∃ w8, w8 = w7.alloc (.cells #[.slice A7 n7 c7, .slice C7 m7 d7, .int .i64 rt] 26) := ⟨_, rfl⟩
  rw [← hw8] at F17 F18 F19 H20 D7 Z7
  have HW8 := Lib.hid hw8
  clear hw8
  have BR : Hid ((n3 ≤ maxLen ∧ m3 ≤ maxLen) ∧ (n7 ≤ 4294967296 ∧ m7 ≤ 4294967296) ∧ (n5 ≤ 4294967296 ∧ m5 ≤ 4294967296)) := by
    have a1 := HB2.out; have a2 := L3.out; have a3 := M3.out; have a4 := L7.out; have a5 := M7.out; have a6 := L5.out; have a7 := M5.out; have a8 := HL.out.1; have a9 := HL.out.2
    exact Lib.hid (by unfold maxLen; omega)
  have f0 := F18.out.f0
  have f1 := F18.out.f1
  have fx := F18.out.f2
  rw [HW8.out] at f0 f1 fx
  go_wp2_with fail
  rw [← HW8.out]
  clear f0 f1 fx HW8
  refine (eqFlashSame A7 A3 C7 C3 n7 n3 m7 m3 c7 c3 d7 d3 rt rs rw w8 L7.out L3.out M7.out M3.out (by have := BR.out.2.1; unfold maxLen; omega) (by have := BR.out.2.1; unfold maxLen; omega) D7.out.s.reads F18.out.s.reads D7.out.r.reads F18.out.r.reads).mono ?_
  rintro e w9 ⟨rfl, hb9⟩
  have F21 := Lib.hid (F17.out.step hb9)
  have F22 := Lib.hid (F18.out.step hb9)
  have F23 := Lib.hid (F19.out.step hb9)
  have F24 := Lib.hid (D7.out.step hb9)
  have H25 := Lib.hid (bt H20.out hb9)
  clear F17 F18 F19 D7 H20
  clear hb9
  have hob : (code != code) = false := by simp
  have f0 : w9.cell? ⟨w.heap.size, 0, none⟩ = some (.slice A n c) := F21.out.cell 0 rfl
  have f1 : w9.cell? ⟨w.heap.size, 1, none⟩ = some (.slice C m d) := F21.out.cell 1 rfl
  have fx : w9.cell? ⟨w.heap.size, 2, none⟩ = some (.int .i64 st) := F21.out.cell 2 rfl
  have f2 := F23.out.f0
  have f3 := F23.out.f1
  have fy := F23.out.f2
  have HK := Lib.hid (fun W' (hb : Below w9.heap.size w9 W') => And.intro ((hb.cell (cell_lt f0)).trans f0) (And.intro ((hb.cell (cell_lt f1)).trans f1) (And.intro ((hb.cell (cell_lt fx)).trans fx) (And.intro ((hb.cell (cell_lt f2)).trans f2) (And.intro ((hb.cell (cell_lt f3)).trans f3) ((hb.cell (cell_lt fy)).trans fy))))))
  have h6 : Below w9.heap.size w9 w9.drew := (Below.refl _ _).drew
  go_wp2
  go_region_held3 (fun W => W.cell? ⟨w.heap.size, 0, none⟩ = some (.slice A n c) ∧ W.cell? ⟨w.heap.size, 1, none⟩ = some (.slice C m d) ∧ W.cell? ⟨w.heap.size, 2, none⟩ = some (.int .i64 st) ∧ W.cell? ⟨w5.heap.size, 0, none⟩ = some (.slice A5 n5 c5) ∧ W.cell? ⟨w5.heap.size, 1, none⟩ = some (.slice C5 m5 d5) ∧ W.cell? ⟨w5.heap.size, 2, none⟩ = some (.int .i64 st))
    (first | exact HK.out _ h6 | exact HK.out _ (bt h6 hba) | exact HK.out _ (bt (bt h6 hba) hbb))
    (first | (go_at_call 26; refine (HTo.out _ H25.out.drew (by omega) (by omega)).mono ?_; rintro e wa ⟨Aa, na, ca, Ca, ma, da, rfl, La, Ma, Sa, Ra, hba⟩) | (go_at_call 21; refine (eqFlashSame A5 Aa C5 Ca n5 na m5 ma c5 ca d5 da st zs gs wa L5.out La.out M5.out Ma.out (by have := L5.out; have := HL.out.1; unfold maxLen; omega) (by have := M5.out; have := HL.out.2; unfold maxLen; omega) (F23.out.s.below (bt h6 hba)).reads Sa.out.reads (F23.out.r.below (bt h6 hba)).reads Ra.out.reads).mono ?_; rintro e wb ⟨rfl, hbb⟩))
  have kb : Below w9.heap.size w9 wb := bt (bt h6 hba) hbb
  have F26 := Lib.hid (F21.out.step kb)
  have F27 := Lib.hid (F22.out.step kb)
  have F28 := Lib.hid (F23.out.step kb)
  have F29 := Lib.hid (F24.out.step kb)
  have H30 := Lib.hid (bt H25.out kb)
  clear F21 F22 F23 F24 H25
  clear f0 f1 fx f2 f3 fy HK h6 hba hbb kb La Ma Sa Ra
  have f0 := F28.out.f0
  have f1 := F28.out.f1
  have fx := F28.out.f2
  go_wp2_with fail
  refine (markFlash A5 C5 n5 c5 m5 d5 w4.heap.size w5.heap.size st zs gs wb L5.out M5.out BR.out.2.2.1 BR.out.2.2.2 F28.out.s F28.out.r (Nat.le_of_lt F28.out.box.lt)).mono ?_
  rintro e wc ⟨rfl, Tc, Uc, hbc⟩
  have HLo : Hid (w4.heap.size ≤ wb.heap.size) := Lib.hid (Nat.le_trans Q1.out (Nat.le_of_lt F28.out.box.lt))
  have HLw : Hid (w.heap.size ≤ w4.heap.size) := Lib.hid (by have := Q0.out; have := Z3.out; omega)
  have F31 := Lib.hid (F26.out.btw hbc (.inl (by have := Q0.out; have := Z3.out; have := Q1.out; have := Z5.out; have := Q2.out; omega)))
  have F32 := Lib.hid (F27.out.btw hbc (.inl (by have := Q0.out; have := Z3.out; have := Q1.out; have := Z5.out; have := Q2.out; omega)) (.inl (by have := Q0.out; have := Z3.out; have := Q1.out; have := Z5.out; have := Q2.out; omega)))
  have F33 := Lib.hid (F29.out.btw hbc (.inr (by have := Q0.out; have := Z3.out; have := Q1.out; have := Z5.out; have := Q2.out; omega)) (.inr (by have := Q0.out; have := Z3.out; have := Q1.out; have := Z5.out; have := Q2.out; omega)))
  have H34 := Lib.hid (H30.out.trans ((hbc.below HLo.out).mono HLw.out))
  clear F26 F27 F28 F29 H30
  clear f0 f1 fx hbc Tc Uc HLo HLw
  generalize hk : 1 + n5 + m5 = kk
  clear hk
  have hk0 : ¬ (kk : Int) < 0 := by omega
  have f0 := F33.out.f0
  have f1 := F33.out.f1
  have fx := F33.out.f2
  have f2 := F32.out.f0
  have f3 := F32.out.f1
  have fy := F32.out.f2
  go_wp2_with fail
  refine (eqFlashSame A7 A3 C7 C3 n7 n3 m7 m3 c7 c3 d7 d3 rt rs rw wc L7.out L3.out M7.out M3.out (by have := BR.out.2.1; unfold maxLen; omega) (by have := BR.out.2.1; unfold maxLen; omega) F33.out.s.reads F32.out.s.reads F33.out.r.reads F32.out.r.reads).mono ?_
  rintro e wd ⟨rfl, hbd⟩
  have F35 := Lib.hid (F31.out.step hbd)
  have F36 := Lib.hid (F32.out.step hbd)
  have F37 := Lib.hid (F33.out.step hbd)
  have H38 := Lib.hid (bt H34.out hbd)
  clear F31 F32 F33 H34
  clear hbd f0 f1 fx f2 f3 fy
  have f0 := F37.out.f0
  have f1 := F37.out.f1
  have fx := F37.out.f2
  go_wp2_with fail
  refine (markFlash A7 C7 n7 c7 m7 d7 w6.heap.size w7.heap.size rt rs rw wd L7.out M7.out BR.out.2.1.1 BR.out.2.1.2 F37.out.s F37.out.r (Nat.le_of_lt F37.out.box.lt)).mono ?_
  rintro e we ⟨rfl, Te, Ue, hbe⟩
  have HLo : Hid (w6.heap.size ≤ wd.heap.size) := Lib.hid (Nat.le_trans Q2.out (Nat.le_of_lt F37.out.box.lt))
  have HLw : Hid (w.heap.size ≤ w6.heap.size) := Lib.hid (by have := Q0.out; have := Z3.out; have := Q1.out; have := Z5.out; have := Q2.out; omega)
  have GB := Lib.hid (F37.out.box.btw hbe (.inr (Nat.le_refl _)))
  have F39 := Lib.hid (F35.out.btw hbe (.inl (by have := Q0.out; have := Z3.out; have := Q1.out; have := Z5.out; have := Q2.out; omega)))
  have F40 := Lib.hid (F36.out.btw hbe (.inl (by have := Q0.out; have := Z3.out; have := Q1.out; have := Z5.out; have := Q2.out; omega)) (.inl (by have := Q0.out; have := Z3.out; have := Q1.out; have := Z5.out; have := Q2.out; omega)))
  have H41 := Lib.hid (H38.out.trans ((hbe.below HLo.out).mono HLw.out))
  clear F35 F36 F37 H38
  clear f0 f1 fx hbe HLo HLw
  generalize hq : 1 + n7 + m7 = q
  have HQ := Lib.hid hq
  clear hq
  have hq0 : ¬ (q : Int) < 0 := by omega
  have hqq : ((q : Int) != (q : Int)) = false := by simp
  have f0 : we.cell? ⟨w7.heap.size, 0, none⟩ = some (.slice A7 n7 c7) := GB.out.cell 0 rfl
  have f1 : we.cell? ⟨w7.heap.size, 1, none⟩ = some (.slice C7 m7 d7) := GB.out.cell 1 rfl
  have fx : we.cell? ⟨w7.heap.size, 2, none⟩ = some (.int .i64 rt) := GB.out.cell 2 rfl
  go_wp2_with fail
  refine (heldFlash A7 C7 n7 c7 m7 d7 rt we BR.out.2.1.1 BR.out.2.1.2 Te.out.reads Ue.out.reads).mono ?_
  rintro e wf ⟨rfl, hbwf⟩
  rw [HQ.out]
  have F42 := Lib.hid (F39.out.step hbwf)
  have F43 := Lib.hid (F40.out.step hbwf)
  have F44 := Lib.hid (GB.out.step hbwf)
  have F45 := Lib.hid (Te.out.below hbwf)
  have F46 := Lib.hid (Ue.out.below hbwf)
  have H47 := Lib.hid (bt H41.out hbwf)
  clear F39 F40 GB Te Ue H41
  clear hbwf f0 f1 fx
  have f0 : wf.cell? ⟨w.heap.size, 0, none⟩ = some (.slice A n c) := F42.out.cell 0 rfl
  have f1 : wf.cell? ⟨w.heap.size, 1, none⟩ = some (.slice C m d) := F42.out.cell 1 rfl
  have fx : wf.cell? ⟨w.heap.size, 2, none⟩ = some (.int .i64 st) := F42.out.cell 2 rfl
  go_wp2_with fail
  refine (HTo.out _ H47.out (by omega) (by omega)).mono ?_
  rintro e wg ⟨Ag, ng, cg, Cg, mg, dg, rfl, Lg, Mg, Sg, Rg, hbg⟩
  have F48 := Lib.hid (F42.out.step hbg)
  have F49 := Lib.hid (F43.out.step hbg)
  have F50 := Lib.hid (F44.out.step hbg)
  have F51 := Lib.hid (F45.out.below hbg)
  have F52 := Lib.hid (F46.out.below hbg)
  have H53 := Lib.hid (bt H47.out hbg)
  clear F42 F43 F44 F45 F46 H47
  clear hbg f0 f1 fx
  go_wp2_with fail
  refine (HImpl.out wg Ag ng cg Cg mg dg Lg.out Mg.out (by have := Lg.out; have := HL.out.1; unfold maxLen; omega) (by have := Mg.out; have := HL.out.2; unfold maxLen; omega) Sg.out.reads Rg.out.reads).mono ?_
  rintro e wh ⟨Ah, nh, ch, Ch, mh, dh, rfl, Lh, Mh, Sh, Rh, hbh⟩
  have F54 := Lib.hid (F48.out.step hbh)
  have F55 := Lib.hid (F49.out.step hbh)
  have F56 := Lib.hid (F50.out.step hbh)
  have F57 := Lib.hid (F51.out.below hbh)
  have F58 := Lib.hid (F52.out.below hbh)
  have H59 := Lib.hid (bt H53.out hbh)
  clear F48 F49 F50 F51 F52 H53
  clear hbh Lg Mg Sg Rg
  have hba := alloc_below wh (.cells #[.slice Ah nh ch, .slice Ch mh dh, .int .i64 rt] 26)
  have Dh := Lib.hid (BF.new (n := nh) (c := ch) (m := mh) (d := dh) (st := rt) Sh.out Rh.out)
  have F60 := Lib.hid (F54.out.step hba)
  have F61 := Lib.hid (F55.out.step hba)
  have F62 := Lib.hid (F56.out.step hba)
  have F63 := Lib.hid (F57.out.below hba)
  have F64 := Lib.hid (F58.out.below hba)
  have H65 := Lib.hid (bt H59.out hba)
  clear F54 F55 F56 F57 F58 H59
  have Zh : Hid (wh.heap.size < (wh.alloc (.cells #[.slice Ah nh ch, .slice Ch mh dh, .int .i64 rt] 26)).heap.size) := Lib.hid Dh.out.box.lt
  clear hba Sh Rh
  obtain ⟨wi, hwi⟩ : ∃ wi, wi = wh.alloc (.cells #[.slice Ah nh ch, .slice Ch mh dh, .int .i64 rt] 26) := ⟨_, rfl⟩
  rw [← hwi] at F60 F61 F62 F63 F64 H65 Dh Zh
  have HWi := Lib.hid hwi
  clear hwi
  have f0 := F61.out.f0
  have f1 := F61.out.f1
  have fx := F61.out.f2
  rw [HWi.out] at f0 f1 fx
  have Bh : Hid (nh ≤ maxLen ∧ mh ≤ maxLen) := by have a1 := HB2.out; have a2 := Lh.out; have a3 := Mh.out; exact Lib.hid (by unfold maxLen; omega)
  go_wp2_with fail
  rw [← HWi.out]
  clear f0 f1 fx HWi
  refine (eqFlashSame Ah A3 Ch C3 nh n3 mh m3 ch c3 dh d3 rt rs rw wi Lh.out L3.out Mh.out M3.out Bh.out.1 Bh.out.2 Dh.out.s.reads F61.out.s.reads Dh.out.r.reads F61.out.r.reads).mono ?_
  rintro e wj ⟨rfl, hbj⟩
  have F66 := Lib.hid (F60.out.step hbj)
  have F67 := Lib.hid (F61.out.step hbj)
  have F68 := Lib.hid (F62.out.step hbj)
  have F69 := Lib.hid (F63.out.below hbj)
  have F70 := Lib.hid (F64.out.below hbj)
  have F71 := Lib.hid (Dh.out.step hbj)
  have H72 := Lib.hid (bt H65.out hbj)
  clear F60 F61 F62 F63 F64 Dh H65
  clear hbj
  have f0 : wj.cell? ⟨w7.heap.size, 0, none⟩ = some (.slice A7 n7 c7) := F68.out.cell 0 rfl
  have f1 : wj.cell? ⟨w7.heap.size, 1, none⟩ = some (.slice C7 m7 d7) := F68.out.cell 1 rfl
  have fx : wj.cell? ⟨w7.heap.size, 2, none⟩ = some (.int .i64 rt) := F68.out.cell 2 rfl
  go_wp2_with fail
  refine (heldFlash A7 C7 n7 c7 m7 d7 rt wj BR.out.2.1.1 BR.out.2.1.2 F69.out.reads F70.out.reads).mono ?_
  rintro e wk ⟨rfl, hbwk⟩
  rw [HQ.out]
  have F73 := Lib.hid (F66.out.step hbwk)
  have F74 := Lib.hid (F67.out.step hbwk)
  have F75 := Lib.hid (F68.out.step hbwk)
  have F76 := Lib.hid (F69.out.below hbwk)
  have F77 := Lib.hid (F70.out.below hbwk)
  have F78 := Lib.hid (F71.out.step hbwk)
  have H79 := Lib.hid (bt H72.out hbwk)
  clear F66 F67 F68 F69 F70 F71 H72
  clear hbwk f0 f1 fx
  go_wp2
  go_ret
  exact ⟨rfl, H79.out⟩

/-! The row's step. -/
open Go.ChangeShapes Go.WideShapes Go.ChangeAt
open Go.ChangeMaps (open_string shut_string)
set_option maxRecDepth 100000 in
theorem own : ownKnob Try.prog.godebug = none := by kernel_rfl
set_option maxRecDepth 100000 in
theorem laidOut : laidOutB Try.prog = true := factLaid
set_option maxRecDepth 100000 in
theorem lifted (os : Os) (started : os.Started) (H : Type) (enc : TypeId × Value → H) :
    ReturnsInHanded {} Try.checked os 7 .any (Rows.fnExactBusWriteSpec.pre6 enc Try.prog Try.f7 Rows.fnExactBusWriteRow.domain false) (Rows.fnExactBusWriteSpec.post enc Try.prog Try.f7 false true false false) := by
  refine returnsInHanded_of_change (C := Try.checked) own started (by kernel_rfl) Try.func7
    (ChangeSpec.witness6 (enc := enc) (C := Try.checked) false ⟨#[], #[.agg #[.slice none 0 0, .slice none 0 0, .int .i64 0], .int .i64 0, .int .i64 0], []⟩ 8 (by kernel_rfl) (by kernel_rfl) (by kernel_rfl) (by kernel_rfl)) ?_
  intro W base args ds gs before hval0 hW hcnd _
  have hval : ∀ (j : Nat) t v, Try.f7.params[j]? = some t → args[j]? = some v → Value.okWide Try.prog W .any base t v := hval0
  have hW' := hW
  obtain ⟨p, q, hA0, hV, rfl, hfz, hnd⟩ := hW
  have hA : DataW.TrodAll enc Try.prog W 0 (fun _ => true) true Try.f7.params.toList args.toList ds p := hA0
  rw [Try.params7] at hA hval
  obtain ⟨v0, vs0, d0, ds0, p0, q0, hargs, rfl, rfl, h0, r0⟩ := trodAll_cons hA
  obtain ⟨v1, vs1, d1, ds1, p1, q1, rfl, rfl, rfl, h1, r1⟩ := trodAll_cons r0
  obtain ⟨v2, vs2, d2, ds2, p2, q2, rfl, rfl, rfl, h2, r2⟩ := trodAll_cons r1
  obtain ⟨rfl, rfl, rfl⟩ := trodAll_nil r2
  obtain rfl : args = #[v0, v1, v2] := by cases args; simp_all
  obtain ⟨rfl, rfl⟩ := trodVars_none hV
  have k0 := h0
  have lt0 : ∀ x ∈ p0, x.block < W.heap.size := by obtain ⟨m, hm⟩ := k0; exact DataW.trod_lt m _ _ _ hm
  obtain ⟨A0, n0, c0, C0, m0, e0, st0, zs0, gs0, rfl, hl0, hm0, hn0, hmm0, hs0, hw0, ws0⟩ := open_flash (hval 0 39 v0 rfl rfl) h0
  obtain ⟨a1, rfl, rfl, rfl, w1⟩ := open_int Try.underlying3 (hval 1 3 v1 rfl rfl) h1
  obtain ⟨a2, rfl, rfl, rfl, w2⟩ := open_int Try.underlying3 (hval 2 3 v2 rfl rfl) h2
  clear hA0 hval0
  refine (walk A0 n0 c0 C0 m0 e0 st0 zs0 gs0 a1 a2 W hl0 hm0 hn0 hmm0 hs0 hw0 ws0 w1 w2).mono fun e W' ⟨he, bel⟩ => ?_
  subst he
  exact ⟨_, rfl, _, _, _, [], _, [], hW', trodAll_mk1 (shut_bool Try.underlying4 _), (trodAll_cons_mk (Below.trod laidOut (by kernel_rfl) (of_decide_eq_true (by kernel_rfl)) k0 bel lt0) (trodAll_cons_mk (shut_int Try.underlying3 w1) (trodAll_cons_mk (shut_int Try.underlying3 w2) trodAll_mk0))), rfl, bel.frame _, fun h => by cases h⟩

theorem k0 : (Rows.fnExactBusWriteRow.wf (OpenSpec.ofChange Rows.fnExactBusWriteSpec)) = true := by kernel_rfl
set_option maxRecDepth 100000 in
theorem k3 : (Try.f7.params.all (Try.prog.readableRec ·)) = true := by kernel_rfl
set_option maxRecDepth 100000 in
theorem k4 : (namedTie Try.prog Rows.fnExactBusWriteRow.named Rows.fnExactBusWriteSpec.vars) = true := by kernel_rfl
theorem k5 : ((Rows.fnExactBusWriteRow.stops == [])) = true := by kernel_rfl
set_option maxRecDepth 100000 in
theorem k6 : ((Try.prog.stops == [])) = true := by kernel_rfl
theorem k7 : ((Rows.fnExactBusWriteRow.knobs == [])) = true := by kernel_rfl
set_option maxRecDepth 100000 in
theorem k8 : ((Try.prog.stopKnobs == [])) = true := by kernel_rfl
set_option maxRecDepth 100000 in
theorem k9 : ((Rows.fnExactBusWriteRow.inPlace == Try.prog.inPlace 7)) = true := by kernel_rfl
set_option maxRecDepth 100000 in
theorem k10 : ((Rows.fnExactBusWriteRow.unfollowed == Try.prog.unfollowed 7)) = true := by kernel_rfl
set_option maxRecDepth 100000 in
theorem k11 : ((Rows.fnExactBusWriteRow.recurses == Try.prog.recurses 7)) = true := by kernel_rfl
set_option maxRecDepth 100000 in
theorem k12 : ((Rows.fnExactBusWriteRow.named == Try.prog.varsNamed 7)) = true := by kernel_rfl
set_option maxRecDepth 100000 in
theorem k13 : ((Rows.fnExactBusWriteRow.maps == (Try.f7.params.toList ++ Rows.fnExactBusWriteSpec.plain.varTypes Try.prog).any (Try.prog.mapsRec ·))) = true := by kernel_rfl
set_option maxRecDepth 100000 in
theorem k14 : ((Rows.fnExactBusWriteRow.ifaces == (Try.f7.params.toList ++ Rows.fnExactBusWriteSpec.plain.varTypes Try.prog).any (Try.prog.ifacesRec ·))) = true := by kernel_rfl
set_option maxRecDepth 100000 in
theorem k15 : ((Rows.fnExactBusWriteRow.mapsOut == Try.prog.mapsAmong Try.f7.resultTypes.toList)) = true := by kernel_rfl
set_option maxRecDepth 100000 in
theorem k16 : ((Rows.fnExactBusWriteRow.loops == (Try.f7.params.toList ++ Rows.fnExactBusWriteSpec.plain.varTypes Try.prog).any (Try.prog.loopsFrom ·))) = true := by kernel_rfl
set_option maxRecDepth 100000 in
theorem k17 : ((Rows.fnExactBusWriteRow.wideKeys == (Try.f7.params.toList ++ Rows.fnExactBusWriteSpec.plain.varTypes Try.prog ++ Try.f7.resultTypes.toList).any (Try.prog.wideKeysFrom ·))) = true := by kernel_rfl
set_option maxRecDepth 100000 in
theorem k18 : (Rows.fnExactBusWriteSpec.vars.all (Try.prog.varReadable ·)) = true := by kernel_rfl
set_option maxRecDepth 100000 in
theorem k19 : (Try.f7.resultTypes.all (fun t => Try.prog.readableRec t && decide (t < Try.prog.types.size))) = true := by kernel_rfl
set_option maxRecDepth 100000 in
theorem k20 : ((Rows.fnExactBusWriteRow.ifacesOut == Try.f7.resultTypes.toList.any (Try.prog.ifacesRec ·))) = true := by kernel_rfl
set_option maxRecDepth 100000 in
theorem k21 : ((Rows.fnExactBusWriteRow.loopsOut == Try.f7.resultTypes.toList.any (Try.prog.loopsFrom ·))) = true := by kernel_rfl
set_option maxRecDepth 100000 in
theorem k22 : ((Rows.fnExactBusWriteRow.plainKeys == Try.prog.plainKeys)) = true := by kernel_rfl
theorem k23 : (Rows.fnExactBusWriteRow.shortTexts.isNone) = true := by kernel_rfl
set_option maxRecDepth 100000 in
theorem k28 : ((Rows.fnExactBusWriteRow.kinds == (if Rows.fnExactBusWriteRow.domain.isEmpty then [] else Try.f7.params.toList.map fun t => match Try.prog.underlying t with | some (.int k) => some k | _ => none))) = true := by kernel_rfl
theorem k29 : ((Rows.fnExactBusWriteRow.pinned == Rows.fnExactBusWriteRow.pinnedBy)) = true := by kernel_rfl
set_option maxRecDepth 100000 in
theorem k30 : ((Rows.fnExactBusWriteRow.veiled == (Try.f7.params.toList ++ Rows.fnExactBusWriteSpec.plain.varTypes Try.prog ++ Try.f7.resultTypes.toList).any (Try.prog.veiledRec ·))) = true := by kernel_rfl
set_option maxRecDepth 100000 in
theorem k31 : (Rows.fnExactBusWriteRow.veiledFits Try.prog Try.f7.params.toList (Try.f7.params.toList ++ Rows.fnExactBusWriteSpec.plain.varTypes Try.prog ++ Try.f7.resultTypes.toList)) = true := by kernel_rfl
set_option maxRecDepth 100000 in
theorem facts : joinedFacts Try.prog 7 Try.f7 Rows.fnExactBusWriteSpec Rows.fnExactBusWriteRow = true := (and_mk (and_mk (and_mk (and_mk (and_mk (and_mk (and_mk (and_mk (and_mk (and_mk (and_mk (and_mk (and_mk (and_mk (and_mk (and_mk (and_mk (and_mk (and_mk (and_mk (and_mk (and_mk (and_mk (and_mk (and_mk (and_mk (and_mk (and_mk (and_mk (and_mk (and_mk k0 factLaid) factRowed) k3) k4) k5) k6) k7) k8) k9) k10) k11) k12) k13) k14) k15) k16) k17) k18) k19) k20) k21) k22) k23) factHeard) factEnter) factLift) factMake) k28) k29) k30) k31)
set_option maxRecDepth 100000 in
theorem named : Try.prog.funcNamed Rows.fnExactBusWriteRow.func = some 7 := by kernel_rfl
set_option maxRecDepth 100000 in
theorem inst : Try.f7.isInstance Try.prog Rows.fnExactBusWriteRow.origin Rows.fnExactBusWriteRow.targs := of_decide_eq_true (by kernel_rfl)
set_option maxRecDepth 100000 in
theorem over : Rows.fnExactBusWriteRow.holds Try.pinned (OpenSpec.ofChange Rows.fnExactBusWriteSpec) :=
  OpenClaim.holds_of_wide 7 Try.f7 rfl rfl rfl rfl rfl rfl rfl ⟨rfl, rfl, rfl, rfl, rfl⟩ rfl rfl rfl rfl rfl named Try.func7 facts
    inst (by unfold Func.isWrapper; first | (rw [if_pos (by decide +kernel)]; kernel_rfl) | (rw [if_neg (by decide +kernel)]; exact ⟨rfl, rfl⟩))
    (fun os started H enc _ => lifted os started H enc)
theorem proved : Rows.FnExactBusWriteSaid := over
#print axioms proved
end Go.Proofs.Ytapopagphoiemaa.fnExactBusWrite
