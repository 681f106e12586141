/- For every disk and every list of fates (of any size), laws.FnExactCrashDisk returns true: impl.CrashDisk answers as the model spec.CrashDisk, every field, leaves its arguments alone, and its result is memory of its own. No condition. -/
import Derived.Test.YtoogaaoknpfkoaaCrashDisk
import Derived.Test.YtoogaaoknpfkoaaInts
import Derived.Test.YtoogaaoknpfkoaaBoxDisk
import Derived.Test.YtoogaaoknpfkoaaSzDisk
import Derived.Test.YtoogaaoknpfkoaaOpen
import Derived.Test.YtoogaaoknpfkoaaFactA
import Derived.Test.YtoogaaoknpfkoaaFactB
import Derived.Test.YtoogaaoknpfkoaaFactC
import Derived.Test.YtoogaaoknpfkoaaFactD
import Derived.Deep.RegionHeld3
import Derived.ProofKit
import Derived.OpenShut
import Derived.ShutString
import Derived.ChangeOld
namespace Go.Proofs.Ytoogaaoknpfkoaa.fnExactCrashDisk
open Go.RowKit

set_option maxRecDepth 100000 in
set_option maxHeartbeats 16000000 in
theorem walk (A C : Option Addr) (n c m d : Nat) (ss : List ByteArray) (ws : List (Int × ByteArray)) (F : Option Addr) (nf cf : Nat) (zs : List Int) (w : World) (hl : ss.length = n) (hm : ws.length = m) (hn : n ≤ maxLen) (hmm : m ≤ maxLen) (h : StrL w A ss) (g : WrL w C ws) (fs : FitS ss) (fw : FitW ws) (hf : zs.length = nf) (hnf : nf ≤ maxLen) (i : IntL w F zs) (_wz : ∀ z ∈ zs, (Lit.int .i64 z).wf = true) :
    Calls Try.prog 5 #[.agg #[.slice A n c, .slice C m d], .slice F nf cf] w fun e w' => e = .returned (.bool true) ∧ Below w.heap.size w w' := by
  have HSz := Lib.hid (fun W (hb : Below w.heap.size w W) => szDisk A C n c m d ss ws 1048576 W (by omega) (by omega) hl hm hn hmm (h.below hb) (g.below hb) fs fw)
  have HTo := Lib.hid (fun W (hb : Below w.heap.size w W) (h1 : n ≤ 1048576) (h2 : m ≤ 1048576) => toDisk A C n c m d ss ws W hl hm h1 h2 (h.below hb) (g.below hb))
  have HSpec := Lib.hid (fun W A' n' c' C' m' d' F' c2 (hl' : ss.length = n') (hm' : ws.length = m') (hn' : n' ≤ maxLen) (hmm' : m' ≤ maxLen) (h' : StrL W A' ss) (g' : WrL W C' ws) (i' : IntL W F' zs) => specCrash A' C' F' n' c' m' d' nf c2 ss ws zs W hl' hm' hn' hmm' h' g' fs fw hf hnf i')
  have HImpl := Lib.hid (fun W A' n' c' C' m' d' F' c2 (hl' : ss.length = n') (hm' : ws.length = m') (hn' : n' ≤ maxLen) (hmm' : m' ≤ maxLen) (h' : StrL W A' ss) (g' : WrL W C' ws) (i' : IntL W F' zs) => implCrash A' C' F' n' c' m' d' nf c2 ss ws zs W hl' hm' hn' hmm' h' g' fs fw hf hnf i')
  have HL := Lib.hid (And.intro hl hm)
  have HBr := Lib.hid (fun (h1 : ss.length ≤ 1048576) (h2 : ws.length ≤ 1048576) => crash_bound ss ws zs h1)
  generalize hrs : crashS ss ws zs = rs at HSpec HImpl HBr
  generalize hrw : ([] : List (Int × ByteArray)) = rw at HSpec HImpl HBr
  generalize hcode : crashC ss ws zs = code at HSpec HImpl
  clear hl hm hn hmm h g fs fw hrs hrw hcode
  have HNF := Lib.hid hf
  have HToI := Lib.hid (fun (hlim : nf ≤ 1048576) W (hb : Below w.heap.size w W) => toIntS F nf cf zs W hf hlim (i.below hb))
  clear hf hnf i _wz
  by_cases hbig : (1048576 : Int) < (nf : Int)
  · go_enter Try.func5, Try.ntmps5
    go_wp2
    go_ret
    exact ⟨rfl, alloc_below _ _⟩
  have hnfs : nf ≤ 1048576 := by omega
  replace HToI := Lib.hid (HToI.out hnfs)
  have hb0 : Below w.heap.size w (w.alloc (.cells #[.slice A n c, .slice C m d] 44)) := alloc_below _ _
  have X0 := Lib.hid (Box.new w 44 #[.slice A n c, .slice C m d])
  go_enter Try.func5, Try.ntmps5
  go_wp2_with fail
  refine (HSz.out _ hb0).mono ?_
  rintro e w1 ⟨hres, hb1⟩
  have X1 := Lib.hid (X0.out.step hb1)
  have H0 := Lib.hid (bt hb0 hb1)
  clear hb0 X0 HSz hb1
  rcases hres with rfl | ⟨rfl, hle⟩
  · go_wp2
    go_ret
    exact ⟨rfl, H0.out⟩
  have hsz : n + m ≤ 1048576 := by have := HL.out.1; have := HL.out.2; unfold szOf at hle; omega
  have HB2 := Lib.hid (HBr.out (by rw [HL.out.1]; omega) (by rw [HL.out.2]; omega))
  generalize szOf ss ws = u at hle
  have hp : ¬ (1048576 : Int) - (u : Int) < 0 := by omega
  clear HBr
  have f0 : w1.cell? ⟨w.heap.size, 0, none⟩ = some (.slice A n c) := X1.out.cell 0 rfl
  have f1 : w1.cell? ⟨w.heap.size, 1, none⟩ = some (.slice C m d) := X1.out.cell 1 rfl
  go_wp2_with fail
  refine (HTo.out _ H0.out (by omega) (by omega)).mono ?_
  rintro e w2 ⟨A2, n2, c2, C2, m2, d2, rfl, L2, M2, S2, R2, hb2⟩
  clear f0 f1
  have F1 := Lib.hid (X1.out.step hb2)
  have H2 := Lib.hid (bt H0.out hb2)
  clear X1 H0
  clear hb2
  go_wp2_with fail
  refine (HToI.out _ H2.out).mono ?_
  rintro e w2i ⟨F2i, nn, cf2i, rfl, LF2i, SF2i, hb2i⟩
  obtain rfl : nf = nn := by have := LF2i.out; have := HNF.out; omega
  have S2i := Lib.hid (S2.out.below hb2i)
  have R2i := Lib.hid (R2.out.below hb2i)
  have F3 := Lib.hid (F1.out.step hb2i)
  have H4 := Lib.hid (bt H2.out hb2i)
  clear F1 H2
  clear hb2i LF2i
  go_wp2_with fail
  refine (HSpec.out w2i A2 n2 c2 C2 m2 d2 F2i cf2i L2.out M2.out (by have := L2.out; have := HL.out.1; unfold maxLen; omega) (by have := M2.out; have := HL.out.2; unfold maxLen; omega) S2i.out.reads R2i.out.reads SF2i.out.reads).mono ?_
  rintro e w3 ⟨A3, n3, c3, C3, m3, d3, rfl, L3, M3, S3, R3, hb3⟩
  have F5 := Lib.hid (F3.out.step hb3)
  have H6 := Lib.hid (bt H4.out hb3)
  clear F3 H4
  have Q0 : Hid (w.heap.size < w3.heap.size) := Lib.hid F5.out.lt
  clear hb3 L2 M2 S2 R2
  have hba := alloc_below w3 (.cells #[.slice A3 n3 c3, .slice C3 m3 d3] 26)
  have D3 := Lib.hid (BD.new (n := n3) (c := c3) (m := m3) (d := d3) S3.out R3.out)
  have F7 := Lib.hid (F5.out.step hba)
  have H8 := Lib.hid (bt H6.out hba)
  clear F5 H6
  have Z3 : Hid (w3.heap.size < (w3.alloc (.cells #[.slice A3 n3 c3, .slice C3 m3 d3] 26)).heap.size) := Lib.hid D3.out.box.lt
  clear hba S3 R3
  obtain ⟨w4, hw4⟩ : ∃ w4, w4 = w3.alloc (.cells #[.slice A3 n3 c3, .slice C3 m3 d3] 26) := ⟨_, rfl⟩
  rw [← hw4] at F7 H8 D3 Z3
  have HW4 := Lib.hid hw4
  have hw4 := HW4.out
  have f0 : w4.cell? ⟨w.heap.size, 0, none⟩ = some (.slice A n c) := F7.out.cell 0 rfl
  have f1 : w4.cell? ⟨w.heap.size, 1, none⟩ = some (.slice C m d) := F7.out.cell 1 rfl
  rw [HW4.out] at f0 f1
  clear hw4
  go_wp2_with fail
  rw [← HW4.out]
  refine (HTo.out w4 H8.out (by omega) (by omega)).mono ?_
  rintro e w5 ⟨A5, n5, c5, C5, m5, d5, rfl, L5, M5, S5, R5, hb5⟩
  clear f0 f1 HW4
  have F9 := Lib.hid (F7.out.step hb5)
  have F10 := Lib.hid (D3.out.step hb5)
  have H11 := Lib.hid (bt H8.out hb5)
  clear F7 D3 H8
  have Q1 : Hid (w4.heap.size ≤ w5.heap.size) := Lib.hid hb5.size
  clear hb5
  have hba := alloc_below w5 (.cells #[.slice A5 n5 c5, .slice C5 m5 d5] 26)
  have D5 := Lib.hid (BD.new (n := n5) (c := c5) (m := m5) (d := d5) S5.out R5.out)
  have F12 := Lib.hid (F9.out.step hba)
  have F13 := Lib.hid (F10.out.step hba)
  have H14 := Lib.hid (bt H11.out hba)
  clear F9 F10 H11
  have Z5 : Hid (w5.heap.size < (w5.alloc (.cells #[.slice A5 n5 c5, .slice C5 m5 d5] 26)).heap.size) := Lib.hid D5.out.box.lt
  clear hba S5 R5
  obtain ⟨w6, hw6⟩ : ∃ w6, w6 = w5.alloc (.cells #[.slice A5 n5 c5, .slice C5 m5 d5] 26) := ⟨_, rfl⟩
  rw [← hw6] at F12 F13 H14 D5 Z5
  have HW6 := Lib.hid hw6
  go_wp2_with fail
  rw [← HW6.out]
  refine (HToI.out _ H14.out).mono ?_
  rintro e w6i ⟨F6i, nn, cf6i, rfl, LF6i, SF6i, hb6i⟩
  obtain rfl : nf = nn := by have := LF6i.out; have := HNF.out; omega
  have F15 := Lib.hid (F12.out.step hb6i)
  have F16 := Lib.hid (F13.out.step hb6i)
  have F17 := Lib.hid (D5.out.step hb6i)
  have H18 := Lib.hid (bt H14.out hb6i)
  clear F12 F13 D5 H14
  have Q3 : Hid (w6.heap.size ≤ w6i.heap.size) := Lib.hid hb6i.size
  clear hb6i HW6 LF6i
  have f0 := F17.out.f0
  have f1 := F17.out.f1
  go_wp2_with fail
  clear f0 f1
  refine (HImpl.out w6i A5 n5 c5 C5 m5 d5 F6i cf6i L5.out M5.out (by have := L5.out; have := HL.out.1; unfold maxLen; omega) (by have := M5.out; have := HL.out.2; unfold maxLen; omega) F17.out.s.reads F17.out.r.reads SF6i.out.reads).mono ?_
  rintro e w7 ⟨A7, n7, c7, C7, m7, d7, rfl, L7, M7, S7, R7, hb7⟩
  have F19 := Lib.hid (F15.out.step hb7)
  have F20 := Lib.hid (F16.out.step hb7)
  have F21 := Lib.hid (F17.out.step hb7)
  have F22 := Lib.hid (SF6i.out.below hb7)
  have H23 := Lib.hid (bt H18.out hb7)
  clear F15 F16 F17 SF6i H18
  have Q2 : Hid (w6i.heap.size ≤ w7.heap.size) := Lib.hid hb7.size
  clear hb7
  have hba := alloc_below w7 (.cells #[.slice A7 n7 c7, .slice C7 m7 d7] 26)
  have D7 := Lib.hid (BD.new (n := n7) (c := c7) (m := m7) (d := d7) S7.out R7.out)
  have F24 := Lib.hid (F19.out.step hba)
  have F25 := Lib.hid (F20.out.step hba)
  have F26 := Lib.hid (F21.out.step hba)
  have F27 := Lib.hid (F22.out.below hba)
  have H28 := Lib.hid (bt H23.out hba)
  clear F19 F20 F21 F22 H23
  have Z7 : Hid (w7.heap.size < (w7.alloc (.cells #[.slice A7 n7 c7, .slice C7 m7 d7] 26)).heap.size) := Lib.hid D7.out.box.lt
  clear hba S7 R7
  obtain ⟨w8, hw8⟩ : ∃ w8, w8 = w7.alloc (.cells #[.slice A7 n7 c7, .slice C7 m7 d7] 26) := ⟨_, rfl⟩
  rw [← hw8] at F24 F25 F26 F27 H28 D7 Z7
  have HW8 := Lib.hid hw8
  have BR : Hid ((n3 ≤ maxLen ∧ m3 ≤ maxLen) ∧ (n7 ≤ 4294967296 ∧ m7 ≤ 4294967296) ∧ (n5 ≤ 4294967296 ∧ m5 ≤ 4294967296)) := by
    have a1 := HB2.out; have a2 := L3.out; have a3 := M3.out; have a4 := L7.out; have a5 := M7.out; have a6 := L5.out; have a7 := M5.out; have a8 := HL.out.1; have a9 := HL.out.2
    exact Lib.hid (by unfold maxLen; omega)
  have f0 := F25.out.f0
  have f1 := F25.out.f1
  rw [HW8.out] at f0 f1
  go_wp2_with fail
  rw [← HW8.out]
  clear f0 f1 HW8
  refine (eqDiskSame A7 A3 C7 C3 n7 n3 m7 m3 c7 c3 d7 d3 rs rw w8 L7.out L3.out M7.out M3.out (by have := BR.out.2.1; unfold maxLen; omega) (by have := BR.out.2.1; unfold maxLen; omega) D7.out.s.reads F25.out.s.reads D7.out.r.reads F25.out.r.reads).mono ?_
  rintro e w9 ⟨rfl, hb9⟩
  have F29 := Lib.hid (F24.out.step hb9)
  have F30 := Lib.hid (F25.out.step hb9)
  have F31 := Lib.hid (F26.out.step hb9)
  have F32 := Lib.hid (F27.out.below hb9)
  have F33 := Lib.hid (D7.out.step hb9)
  have H34 := Lib.hid (bt H28.out hb9)
  clear F24 F25 F26 F27 D7 H28
  clear hb9
  have hob : (code != code) = false := by simp
  have f0 : w9.cell? ⟨w.heap.size, 0, none⟩ = some (.slice A n c) := F29.out.cell 0 rfl
  have f1 : w9.cell? ⟨w.heap.size, 1, none⟩ = some (.slice C m d) := F29.out.cell 1 rfl
  have f2 := F31.out.f0
  have f3 := F31.out.f1
  have HK := Lib.hid (fun W' (hb : Below w9.heap.size w9 W') => And.intro ((hb.cell (cell_lt f0)).trans f0) (And.intro ((hb.cell (cell_lt f1)).trans f1) (And.intro ((hb.cell (cell_lt f2)).trans f2) ((hb.cell (cell_lt f3)).trans f3))))
  have h6 : Below w9.heap.size w9 w9.drew := (Below.refl _ _).drew
  go_wp2
  go_region_held3 (fun W => W.cell? ⟨w.heap.size, 0, none⟩ = some (.slice A n c) ∧ W.cell? ⟨w.heap.size, 1, none⟩ = some (.slice C m d) ∧ W.cell? ⟨w5.heap.size, 0, none⟩ = some (.slice A5 n5 c5) ∧ W.cell? ⟨w5.heap.size, 1, none⟩ = some (.slice C5 m5 d5))
    (first | exact HK.out _ h6 | exact HK.out _ (bt h6 hba) | exact HK.out _ (bt (bt h6 hba) hbb))
    (first | (go_at_call 35; refine (HTo.out _ H34.out.drew (by omega) (by omega)).mono ?_; rintro e wa ⟨Aa, na, ca, Ca, ma, da, rfl, La, Ma, Sa, Ra, hba⟩) | (go_at_call 36; refine (eqDiskSame A5 Aa C5 Ca n5 na m5 ma c5 ca d5 da ss ws wa L5.out La.out M5.out Ma.out (by have := BR.out.2.2; unfold maxLen; omega) (by have := BR.out.2.2; unfold maxLen; omega) (F31.out.s.below (bt h6 hba)).reads Sa.out.reads (F31.out.r.below (bt h6 hba)).reads Ra.out.reads).mono ?_; rintro e wb ⟨rfl, hbb⟩))
  have kb : Below w9.heap.size w9 wb := bt (bt h6 hba) hbb
  have F35 := Lib.hid (F29.out.step kb)
  have F36 := Lib.hid (F30.out.step kb)
  have F37 := Lib.hid (F31.out.step kb)
  have F38 := Lib.hid (F32.out.below kb)
  have F39 := Lib.hid (F33.out.step kb)
  have H40 := Lib.hid (bt H34.out kb)
  clear F29 F30 F31 F32 F33 H34
  clear f0 f1 f2 f3 HK h6 hba hbb kb La Ma Sa Ra
  go_wp2_with fail
  refine (HToI.out _ H40.out).mono ?_
  rintro e wbi ⟨Fbi, nn, cfbi, rfl, LFbi, SFbi, hbbi⟩
  obtain rfl : nf = nn := by have := LFbi.out; have := HNF.out; omega
  have F41 := Lib.hid (F35.out.step hbbi)
  have F42 := Lib.hid (F36.out.step hbbi)
  have F43 := Lib.hid (F37.out.step hbbi)
  have F44 := Lib.hid (F38.out.below hbbi)
  have F45 := Lib.hid (F39.out.step hbbi)
  have H46 := Lib.hid (bt H40.out hbbi)
  clear F35 F36 F37 F38 F39 H40
  clear hbbi
  go_wp2_with fail
  refine (eqIntSame F6i Fbi nf nf cf6i cfbi zs wbi HNF.out HNF.out (by unfold maxLen; omega) F44.out.reads SFbi.out.reads).mono ?_
  rintro e wbj ⟨rfl, hbbj⟩
  have F47 := Lib.hid (F41.out.step hbbj)
  have F48 := Lib.hid (F42.out.step hbbj)
  have F49 := Lib.hid (F43.out.step hbbj)
  have F50 := Lib.hid (F44.out.below hbbj)
  have F51 := Lib.hid (F45.out.step hbbj)
  have H52 := Lib.hid (bt H46.out hbbj)
  clear F41 F42 F43 F44 F45 H46
  clear hbbj LFbi SFbi
  have f0 := F49.out.f0
  have f1 := F49.out.f1
  go_wp2_with fail
  refine (markDisk A5 C5 n5 c5 m5 d5 w4.heap.size w5.heap.size ss ws wbj L5.out M5.out BR.out.2.2.1 BR.out.2.2.2 F49.out.s F49.out.r (Nat.le_of_lt F49.out.box.lt)).mono ?_
  rintro e wc ⟨rfl, Tc, Uc, hbc⟩
  have HLo : Hid (w4.heap.size ≤ wbj.heap.size) := Lib.hid (Nat.le_trans Q1.out (Nat.le_of_lt F49.out.box.lt))
  have HLw : Hid (w.heap.size ≤ w4.heap.size) := Lib.hid (by have := Q0.out; have := Z3.out; omega)
  have XB := Lib.hid (F49.out.box.btw hbc (.inr (Nat.le_refl _)))
  have F53 := Lib.hid (F47.out.btw hbc (.inl (by have := Q0.out; have := Z3.out; have := Q1.out; have := Z5.out; have := Q2.out; have := Q3.out; omega)))
  have F54 := Lib.hid (F48.out.btw hbc (.inl (by have := Q0.out; have := Z3.out; have := Q1.out; have := Z5.out; have := Q2.out; have := Q3.out; omega)) (.inl (by have := Q0.out; have := Z3.out; have := Q1.out; have := Z5.out; have := Q2.out; have := Q3.out; omega)))
  have F55 := Lib.hid (F50.out.btw hbc (.inr (by have := Q0.out; have := Z3.out; have := Q1.out; have := Z5.out; have := Q2.out; have := Q3.out; omega)))
  have F56 := Lib.hid (F51.out.btw hbc (.inr (by have := Q0.out; have := Z3.out; have := Q1.out; have := Z5.out; have := Q2.out; have := Q3.out; omega)) (.inr (by have := Q0.out; have := Z3.out; have := Q1.out; have := Z5.out; have := Q2.out; have := Q3.out; omega)))
  have H57 := Lib.hid (H52.out.trans ((hbc.below HLo.out).mono HLw.out))
  clear F47 F48 F49 F50 F51 H52
  clear f0 f1 hbc Tc Uc XB HLo HLw
  generalize hk : 1 + n5 + m5 * 2 = kk
  have hk1 : 1 ≤ kk := by omega
  have hk2 : kk + nf ≤ 1099511627776 := by have := BR.out.2.2; omega
  clear hk
  go_wp2_with fail
  refine (markIntS F6i nf cf6i kk w6.heap.size w6i.heap.size zs wc HNF.out hk1 (by omega) hk2 F55.out).mono ?_
  rintro e wci ⟨rfl, hbci⟩
  have HLo : Hid (w6.heap.size ≤ wc.heap.size) := Lib.hid (by have := F56.out.box.lt; have := Q2.out; have := Q3.out; omega)
  have HLw : Hid (w.heap.size ≤ w6.heap.size) := Lib.hid (by have := Q0.out; have := Z3.out; have := Q1.out; have := Z5.out; have := Q2.out; have := Q3.out; omega)
  have F58 := Lib.hid (F53.out.btw hbci (.inl (by have := Q0.out; have := Z3.out; have := Q1.out; have := Z5.out; have := Q2.out; have := Q3.out; omega)))
  have F59 := Lib.hid (F54.out.btw hbci (.inl (by have := Q0.out; have := Z3.out; have := Q1.out; have := Z5.out; have := Q2.out; have := Q3.out; omega)) (.inl (by have := Q0.out; have := Z3.out; have := Q1.out; have := Z5.out; have := Q2.out; have := Q3.out; omega)))
  have F60 := Lib.hid (F56.out.btw hbci (.inr (by have := Q0.out; have := Z3.out; have := Q1.out; have := Z5.out; have := Q2.out; have := Q3.out; omega)) (.inr (by have := Q0.out; have := Z3.out; have := Q1.out; have := Z5.out; have := Q2.out; have := Q3.out; omega)))
  have H61 := Lib.hid (H57.out.trans ((hbci.below HLo.out).mono HLw.out))
  clear F53 F54 F55 F56 H57
  clear hbci HLo HLw
  generalize hk3 : kk + nf = k3
  clear hk3 hk1 hk2
  have hk0 : ¬ (k3 : Int) < 0 := by omega
  have f0 := F60.out.f0
  have f1 := F60.out.f1
  have f2 := F59.out.f0
  have f3 := F59.out.f1
  go_wp2_with fail
  refine (eqDiskSame A7 A3 C7 C3 n7 n3 m7 m3 c7 c3 d7 d3 rs rw wci L7.out L3.out M7.out M3.out (by have := BR.out.2.1; unfold maxLen; omega) (by have := BR.out.2.1; unfold maxLen; omega) F60.out.s.reads F59.out.s.reads F60.out.r.reads F59.out.r.reads).mono ?_
  rintro e wd ⟨rfl, hbd⟩
  have F62 := Lib.hid (F58.out.step hbd)
  have F63 := Lib.hid (F59.out.step hbd)
  have F64 := Lib.hid (F60.out.step hbd)
  have H65 := Lib.hid (bt H61.out hbd)
  clear F58 F59 F60 H61
  clear hbd f0 f1 f2 f3
  have f0 := F64.out.f0
  have f1 := F64.out.f1
  go_wp2_with fail
  refine (markDisk A7 C7 n7 c7 m7 d7 w6i.heap.size w7.heap.size rs rw wd L7.out M7.out BR.out.2.1.1 BR.out.2.1.2 F64.out.s F64.out.r (Nat.le_of_lt F64.out.box.lt)).mono ?_
  rintro e we ⟨rfl, Te, Ue, hbe⟩
  have HLo : Hid (w6i.heap.size ≤ wd.heap.size) := Lib.hid (Nat.le_trans Q2.out (Nat.le_of_lt F64.out.box.lt))
  have HLw : Hid (w.heap.size ≤ w6i.heap.size) := Lib.hid (by have := Q0.out; have := Z3.out; have := Q1.out; have := Z5.out; have := Q2.out; have := Q3.out; omega)
  have GB := Lib.hid (F64.out.box.btw hbe (.inr (Nat.le_refl _)))
  have F66 := Lib.hid (F62.out.btw hbe (.inl (by have := Q0.out; have := Z3.out; have := Q1.out; have := Z5.out; have := Q2.out; have := Q3.out; omega)))
  have F67 := Lib.hid (F63.out.btw hbe (.inl (by have := Q0.out; have := Z3.out; have := Q1.out; have := Z5.out; have := Q2.out; have := Q3.out; omega)) (.inl (by have := Q0.out; have := Z3.out; have := Q1.out; have := Z5.out; have := Q2.out; have := Q3.out; omega)))
  have H68 := Lib.hid (H65.out.trans ((hbe.below HLo.out).mono HLw.out))
  clear F62 F63 F64 H65
  clear f0 f1 hbe HLo HLw
  generalize hq : 1 + n7 + m7 * 2 = q
  have HQ := Lib.hid hq
  clear hq
  have hq0 : ¬ (q : Int) < 0 := by omega
  have hqq : ((q : Int) != (q : Int)) = false := by simp
  have f0 : we.cell? ⟨w7.heap.size, 0, none⟩ = some (.slice A7 n7 c7) := GB.out.cell 0 rfl
  have f1 : we.cell? ⟨w7.heap.size, 1, none⟩ = some (.slice C7 m7 d7) := GB.out.cell 1 rfl
  go_wp2_with fail
  refine (heldDisk A7 C7 n7 c7 m7 d7 we BR.out.2.1.1 BR.out.2.1.2 Te.out.reads Ue.out.reads).mono ?_
  rintro e wf ⟨rfl, hbwf⟩
  rw [HQ.out]
  have F69 := Lib.hid (F66.out.step hbwf)
  have F70 := Lib.hid (F67.out.step hbwf)
  have F71 := Lib.hid (GB.out.step hbwf)
  have F72 := Lib.hid (Te.out.below hbwf)
  have F73 := Lib.hid (Ue.out.below hbwf)
  have H74 := Lib.hid (bt H68.out hbwf)
  clear F66 F67 GB Te Ue H68
  clear hbwf f0 f1
  have f0 : wf.cell? ⟨w.heap.size, 0, none⟩ = some (.slice A n c) := F69.out.cell 0 rfl
  have f1 : wf.cell? ⟨w.heap.size, 1, none⟩ = some (.slice C m d) := F69.out.cell 1 rfl
  go_wp2_with fail
  refine (HTo.out _ H74.out (by omega) (by omega)).mono ?_
  rintro e wg ⟨Ag, ng, cg, Cg, mg, dg, rfl, Lg, Mg, Sg, Rg, hbg⟩
  have F75 := Lib.hid (F69.out.step hbg)
  have F76 := Lib.hid (F70.out.step hbg)
  have F77 := Lib.hid (F71.out.step hbg)
  have F78 := Lib.hid (F72.out.below hbg)
  have F79 := Lib.hid (F73.out.below hbg)
  have H80 := Lib.hid (bt H74.out hbg)
  clear F69 F70 F71 F72 F73 H74
  clear hbg f0 f1
  go_wp2_with fail
  refine (HToI.out _ H80.out).mono ?_
  rintro e wgi ⟨Fgi, nn, cfgi, rfl, LFgi, SFgi, hbgi⟩
  obtain rfl : nf = nn := by have := LFgi.out; have := HNF.out; omega
  have Sgi := Lib.hid (Sg.out.below hbgi)
  have Rgi := Lib.hid (Rg.out.below hbgi)
  have F81 := Lib.hid (F75.out.step hbgi)
  have F82 := Lib.hid (F76.out.step hbgi)
  have F83 := Lib.hid (F77.out.step hbgi)
  have F84 := Lib.hid (F78.out.below hbgi)
  have F85 := Lib.hid (F79.out.below hbgi)
  have H86 := Lib.hid (bt H80.out hbgi)
  clear F75 F76 F77 F78 F79 H80
  clear hbgi LFgi
  go_wp2_with fail
  refine (HImpl.out wgi Ag ng cg Cg mg dg Fgi cfgi Lg.out Mg.out (by have := Lg.out; have := HL.out.1; unfold maxLen; omega) (by have := Mg.out; have := HL.out.2; unfold maxLen; omega) Sgi.out.reads Rgi.out.reads SFgi.out.reads).mono ?_
  rintro e wh ⟨Ah, nh, ch, Ch, mh, dh, rfl, Lh, Mh, Sh, Rh, hbh⟩
  have F87 := Lib.hid (F81.out.step hbh)
  have F88 := Lib.hid (F82.out.step hbh)
  have F89 := Lib.hid (F83.out.step hbh)
  have F90 := Lib.hid (F84.out.below hbh)
  have F91 := Lib.hid (F85.out.below hbh)
  have H92 := Lib.hid (bt H86.out hbh)
  clear F81 F82 F83 F84 F85 H86
  clear hbh Lg Mg Sg Rg
  have hba := alloc_below wh (.cells #[.slice Ah nh ch, .slice Ch mh dh] 26)
  have Dh := Lib.hid (BD.new (n := nh) (c := ch) (m := mh) (d := dh) Sh.out Rh.out)
  have F93 := Lib.hid (F87.out.step hba)
  have F94 := Lib.hid (F88.out.step hba)
  have F95 := Lib.hid (F89.out.step hba)
  have F96 := Lib.hid (F90.out.below hba)
  have F97 := Lib.hid (F91.out.below hba)
  have H98 := Lib.hid (bt H92.out hba)
  clear F87 F88 F89 F90 F91 H92
  clear hba Sh Rh
  obtain ⟨wi, hwi⟩ : ∃ wi, wi = wh.alloc (.cells #[.slice Ah nh ch, .slice Ch mh dh] 26) := ⟨_, rfl⟩
  rw [← hwi] at F93 F94 F95 F96 F97 H98 Dh
  have HWi := Lib.hid hwi
  have f0 := F94.out.f0
  have f1 := F94.out.f1
  rw [hwi] at f0 f1
  clear hwi
  have Bh : Hid (nh ≤ maxLen ∧ mh ≤ maxLen) := by have a1 := HB2.out; have a2 := Lh.out; have a3 := Mh.out; exact Lib.hid (by unfold maxLen; omega)
  go_wp2_with fail
  rw [← HWi.out]
  clear f0 f1 HWi
  refine (eqDiskSame Ah A3 Ch C3 nh n3 mh m3 ch c3 dh d3 rs rw wi Lh.out L3.out Mh.out M3.out Bh.out.1 Bh.out.2 Dh.out.s.reads F94.out.s.reads Dh.out.r.reads F94.out.r.reads).mono ?_
  rintro e wj ⟨rfl, hbj⟩
  have F99 := Lib.hid (F93.out.step hbj)
  have F100 := Lib.hid (F94.out.step hbj)
  have F101 := Lib.hid (F95.out.step hbj)
  have F102 := Lib.hid (F96.out.below hbj)
  have F103 := Lib.hid (F97.out.below hbj)
  have H104 := Lib.hid (bt H98.out hbj)
  clear F93 F94 F95 F96 F97 H98
  clear hbj Dh
  have f0 : wj.cell? ⟨w7.heap.size, 0, none⟩ = some (.slice A7 n7 c7) := F101.out.cell 0 rfl
  have f1 : wj.cell? ⟨w7.heap.size, 1, none⟩ = some (.slice C7 m7 d7) := F101.out.cell 1 rfl
  go_wp2_with fail
  refine (heldDisk A7 C7 n7 c7 m7 d7 wj BR.out.2.1.1 BR.out.2.1.2 F102.out.reads F103.out.reads).mono ?_
  rintro e wk ⟨rfl, hbwk⟩
  rw [HQ.out]
  have F105 := Lib.hid (F99.out.step hbwk)
  have F106 := Lib.hid (F100.out.step hbwk)
  have F107 := Lib.hid (F101.out.step hbwk)
  have F108 := Lib.hid (F102.out.below hbwk)
  have F109 := Lib.hid (F103.out.below hbwk)
  have H110 := Lib.hid (bt H104.out hbwk)
  clear F99 F100 F101 F102 F103 H104
  clear hbwk f0 f1
  go_wp2
  go_ret
  exact ⟨rfl, H110.out⟩

/-! The row's step. -/
open Go.ChangeShapes Go.WideShapes Go.ChangeAt
open Go.ChangeMaps (open_string shut_string)
set_option maxRecDepth 100000 in
theorem own : ownKnob Try.prog.godebug = none := by kernel_rfl
set_option maxRecDepth 100000 in
theorem laidOut : laidOutB Try.prog = true := factLaid
set_option maxRecDepth 100000 in
theorem lifted (os : Os) (started : os.Started) (H : Type) (enc : TypeId × Value → H) :
    ReturnsInHanded {} Try.checked os 5 .any (Rows.fnExactCrashDiskSpec.pre6 enc Try.prog Try.f5 Rows.fnExactCrashDiskRow.domain false) (Rows.fnExactCrashDiskSpec.post enc Try.prog Try.f5 false true false false) := by
  refine returnsInHanded_of_change (C := Try.checked) own started (by kernel_rfl) Try.func5
    (ChangeSpec.witness6 (enc := enc) (C := Try.checked) false ⟨#[], #[.agg #[.slice none 0 0, .slice none 0 0], .slice none 0 0], []⟩ 8 (by kernel_rfl) (by kernel_rfl) (by kernel_rfl) (by kernel_rfl)) ?_
  intro W base args ds gs before hval0 hW hcnd _
  have hval : ∀ (j : Nat) t v, Try.f5.params[j]? = some t → args[j]? = some v → Value.okWide Try.prog W .any base t v := hval0
  have hW' := hW
  obtain ⟨p, q, hA0, hV, rfl, hfz, hnd⟩ := hW
  have hA : DataW.TrodAll enc Try.prog W 0 (fun _ => true) true Try.f5.params.toList args.toList ds p := hA0
  rw [Try.params5] at hA hval
  obtain ⟨v0, vs0, d0, ds0, p0, q0, hargs, rfl, rfl, h0, r0⟩ := trodAll_cons hA
  obtain ⟨v1, vs1, d1, ds1, p1, q1, rfl, rfl, rfl, h1, r1⟩ := trodAll_cons r0
  obtain ⟨rfl, rfl, rfl⟩ := trodAll_nil r1
  obtain rfl : args = #[v0, v1] := by cases args; simp_all
  obtain ⟨rfl, rfl⟩ := trodVars_none hV
  have k0 := h0
  have lt0 : ∀ x ∈ p0, x.block < W.heap.size := by obtain ⟨m, hm⟩ := k0; exact DataW.trod_lt m _ _ _ hm
  obtain ⟨A0, n0, c0, C0, m0, e0, ss0, ws0, rfl, hl0, hm0, hn0, hmm0, hs0, hw0, fs0, fw0⟩ := open_disk (hval 0 44 v0 rfl rfl) h0
  have k1 := h1
  have lt1 : ∀ x ∈ p1, x.block < W.heap.size := by obtain ⟨m, hm⟩ := k1; exact DataW.trod_lt m _ _ _ hm
  obtain ⟨f1, hf1⟩ := h1
  obtain ⟨a1, l1, c1, rfl⟩ := okWide_slice Try.underlying36 (hval 1 36 v1 rfl rfl)
  obtain ⟨A1, n1, cc1, zs1, e1, hl1, hn1, hs1, wz1⟩ := open_ints64 Try.underlying36 Try.underlying3 cellsInt (by simpa [Value.cells] using hf1)
  injection e1 with e1 e2 e3; subst e1 e2 e3
  clear hA0 hval0
  refine (walk A0 C0 n0 c0 m0 e0 ss0 ws0 a1 l1 c1 zs1 W hl0 hm0 hn0 hmm0 hs0 hw0 fs0 fw0 hl1 hn1 hs1 wz1).mono fun e W' ⟨he, bel⟩ => ?_
  subst he
  exact ⟨_, rfl, _, _, _, [], _, [], hW', trodAll_mk1 (shut_bool Try.underlying4 _), (trodAll_cons_mk (Below.trod laidOut (by kernel_rfl) (of_decide_eq_true (by kernel_rfl)) k0 bel lt0) (trodAll_cons_mk (Below.trod laidOut (by kernel_rfl) (of_decide_eq_true (by kernel_rfl)) k1 bel lt1) trodAll_mk0)), rfl, bel.frame _, fun h => by cases h⟩

theorem k0 : (Rows.fnExactCrashDiskRow.wf (OpenSpec.ofChange Rows.fnExactCrashDiskSpec)) = true := by kernel_rfl
set_option maxRecDepth 100000 in
theorem k3 : (Try.f5.params.all (Try.prog.readableRec ·)) = true := by kernel_rfl
set_option maxRecDepth 100000 in
theorem k4 : (namedTie Try.prog Rows.fnExactCrashDiskRow.named Rows.fnExactCrashDiskSpec.vars) = true := by kernel_rfl
theorem k5 : ((Rows.fnExactCrashDiskRow.stops == [])) = true := by kernel_rfl
set_option maxRecDepth 100000 in
theorem k6 : ((Try.prog.stops == [])) = true := by kernel_rfl
theorem k7 : ((Rows.fnExactCrashDiskRow.knobs == [])) = true := by kernel_rfl
set_option maxRecDepth 100000 in
theorem k8 : ((Try.prog.stopKnobs == [])) = true := by kernel_rfl
set_option maxRecDepth 100000 in
theorem k9 : ((Rows.fnExactCrashDiskRow.inPlace == Try.prog.inPlace 5)) = true := by kernel_rfl
set_option maxRecDepth 100000 in
theorem k10 : ((Rows.fnExactCrashDiskRow.unfollowed == Try.prog.unfollowed 5)) = true := by kernel_rfl
set_option maxRecDepth 100000 in
theorem k11 : ((Rows.fnExactCrashDiskRow.recurses == Try.prog.recurses 5)) = true := by kernel_rfl
set_option maxRecDepth 100000 in
theorem k12 : ((Rows.fnExactCrashDiskRow.named == Try.prog.varsNamed 5)) = true := by kernel_rfl
set_option maxRecDepth 100000 in
theorem k13 : ((Rows.fnExactCrashDiskRow.maps == (Try.f5.params.toList ++ Rows.fnExactCrashDiskSpec.plain.varTypes Try.prog).any (Try.prog.mapsRec ·))) = true := by kernel_rfl
set_option maxRecDepth 100000 in
theorem k14 : ((Rows.fnExactCrashDiskRow.ifaces == (Try.f5.params.toList ++ Rows.fnExactCrashDiskSpec.plain.varTypes Try.prog).any (Try.prog.ifacesRec ·))) = true := by kernel_rfl
set_option maxRecDepth 100000 in
theorem k15 : ((Rows.fnExactCrashDiskRow.mapsOut == Try.prog.mapsAmong Try.f5.resultTypes.toList)) = true := by kernel_rfl
set_option maxRecDepth 100000 in
theorem k16 : ((Rows.fnExactCrashDiskRow.loops == (Try.f5.params.toList ++ Rows.fnExactCrashDiskSpec.plain.varTypes Try.prog).any (Try.prog.loopsFrom ·))) = true := by kernel_rfl
set_option maxRecDepth 100000 in
theorem k17 : ((Rows.fnExactCrashDiskRow.wideKeys == (Try.f5.params.toList ++ Rows.fnExactCrashDiskSpec.plain.varTypes Try.prog ++ Try.f5.resultTypes.toList).any (Try.prog.wideKeysFrom ·))) = true := by kernel_rfl
set_option maxRecDepth 100000 in
theorem k18 : (Rows.fnExactCrashDiskSpec.vars.all (Try.prog.varReadable ·)) = true := by kernel_rfl
set_option maxRecDepth 100000 in
theorem k19 : (Try.f5.resultTypes.all (fun t => Try.prog.readableRec t && decide (t < Try.prog.types.size))) = true := by kernel_rfl
set_option maxRecDepth 100000 in
theorem k20 : ((Rows.fnExactCrashDiskRow.ifacesOut == Try.f5.resultTypes.toList.any (Try.prog.ifacesRec ·))) = true := by kernel_rfl
set_option maxRecDepth 100000 in
theorem k21 : ((Rows.fnExactCrashDiskRow.loopsOut == Try.f5.resultTypes.toList.any (Try.prog.loopsFrom ·))) = true := by kernel_rfl
set_option maxRecDepth 100000 in
theorem k22 : ((Rows.fnExactCrashDiskRow.plainKeys == Try.prog.plainKeys)) = true := by kernel_rfl
theorem k23 : (Rows.fnExactCrashDiskRow.shortTexts.isNone) = true := by kernel_rfl
set_option maxRecDepth 100000 in
theorem k28 : ((Rows.fnExactCrashDiskRow.kinds == (if Rows.fnExactCrashDiskRow.domain.isEmpty then [] else Try.f5.params.toList.map fun t => match Try.prog.underlying t with | some (.int k) => some k | _ => none))) = true := by kernel_rfl
theorem k29 : ((Rows.fnExactCrashDiskRow.pinned == Rows.fnExactCrashDiskRow.pinnedBy)) = true := by kernel_rfl
set_option maxRecDepth 100000 in
theorem k30 : ((Rows.fnExactCrashDiskRow.veiled == (Try.f5.params.toList ++ Rows.fnExactCrashDiskSpec.plain.varTypes Try.prog ++ Try.f5.resultTypes.toList).any (Try.prog.veiledRec ·))) = true := by kernel_rfl
set_option maxRecDepth 100000 in
theorem k31 : (Rows.fnExactCrashDiskRow.veiledFits Try.prog Try.f5.params.toList (Try.f5.params.toList ++ Rows.fnExactCrashDiskSpec.plain.varTypes Try.prog ++ Try.f5.resultTypes.toList)) = true := by kernel_rfl
set_option maxRecDepth 100000 in
theorem facts : joinedFacts Try.prog 5 Try.f5 Rows.fnExactCrashDiskSpec Rows.fnExactCrashDiskRow = true := (and_mk (and_mk (and_mk (and_mk (and_mk (and_mk (and_mk (and_mk (and_mk (and_mk (and_mk (and_mk (and_mk (and_mk (and_mk (and_mk (and_mk (and_mk (and_mk (and_mk (and_mk (and_mk (and_mk (and_mk (and_mk (and_mk (and_mk (and_mk (and_mk (and_mk (and_mk k0 factLaid) factRowed) k3) k4) k5) k6) k7) k8) k9) k10) k11) k12) k13) k14) k15) k16) k17) k18) k19) k20) k21) k22) k23) factHeard) factEnter) factLift) factMake) k28) k29) k30) k31)
set_option maxRecDepth 100000 in
theorem named : Try.prog.funcNamed Rows.fnExactCrashDiskRow.func = some 5 := by kernel_rfl
set_option maxRecDepth 100000 in
theorem inst : Try.f5.isInstance Try.prog Rows.fnExactCrashDiskRow.origin Rows.fnExactCrashDiskRow.targs := of_decide_eq_true (by kernel_rfl)
set_option maxRecDepth 100000 in
theorem over : Rows.fnExactCrashDiskRow.holds Try.pinned (OpenSpec.ofChange Rows.fnExactCrashDiskSpec) :=
  OpenClaim.holds_of_wide 5 Try.f5 rfl rfl rfl rfl rfl rfl rfl ⟨rfl, rfl, rfl, rfl, rfl⟩ rfl rfl rfl rfl rfl named Try.func5 facts
    inst (by unfold Func.isWrapper; first | (rw [if_pos (by decide +kernel)]; kernel_rfl) | (rw [if_neg (by decide +kernel)]; exact ⟨rfl, rfl⟩))
    (fun os started H enc _ => lifted os started H enc)
theorem proved : Rows.FnExactCrashDiskSaid := over
#print axioms proved
end Go.Proofs.Ytoogaaoknpfkoaa.fnExactCrashDisk
