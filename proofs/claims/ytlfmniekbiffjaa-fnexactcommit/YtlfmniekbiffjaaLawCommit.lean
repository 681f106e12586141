/- For every disk, every list of texts and every budget (of any size), laws.FnExactCommit returns true: impl.Commit answers as the model spec.Commit, every field, leaves its arguments alone, and its result is memory of its own. No condition. -/
import Derived.Test.YtlfmniekbiffjaaSpecCommit2
import Derived.Test.YtlfmniekbiffjaaCommitImpl
import Derived.Test.YtlfmniekbiffjaaStrsTo
import Derived.Test.YtlfmniekbiffjaaOpen
import Derived.Test.YtlfmniekbiffjaaFactA
import Derived.Test.YtlfmniekbiffjaaFactB
import Derived.Test.YtlfmniekbiffjaaFactC
import Derived.Test.YtlfmniekbiffjaaFactD
import Derived.Deep.RegionHeld3
import Derived.ProofKit
import Derived.OpenShut
import Derived.ShutString
import Derived.ChangeOld
namespace Go.Proofs.Ytlfmniekbiffjaa.fnExactCommit
open Go.RowKit

theorem commit_bound (ss : List ByteArray) (ws : List (Int × ByteArray)) (ps : List ByteArray) (bud : Int) (h : ss.length ≤ 1048576) : (commitOf ss ws ps bud).1.length ≤ 1048577 ∧ ([] : List (Int × ByteArray)).length ≤ 1048577 := by
  refine ⟨?_, by simp⟩
  unfold commitOf twoN
  split
  · simp
  · split
    · simp
    · split
      · show ss.length ≤ _; omega
      · split
        · show (settleN _ _ _ _).length ≤ _; rw [settleN_len]; omega
        · show (settleN _ _ _ _).length ≤ _; rw [settleN_len, settleN_len]; omega
set_option maxRecDepth 100000 in
set_option maxHeartbeats 16000000 in
theorem walk (A C : Option Addr) (n c m d : Nat) (ss : List ByteArray) (ws : List (Int × ByteArray)) (P : Option Addr) (k f : Nat) (ps : List ByteArray) (bud : Int) (w : World) (hl : ss.length = n) (hm : ws.length = m) (hn : n ≤ maxLen) (hmm : m ≤ maxLen) (h : StrL w A ss) (g : WrL w C ws) (fs : FitS ss) (fw : FitW ws) (hk : ps.length = k) (hkk : k ≤ maxLen) (i : StrL w P ps) (fp : FitS ps) (_wb : (Lit.int .i64 bud).wf = true) :
    Calls Try.prog 3 #[.agg #[.slice A n c, .slice C m d], .slice P k f, .int .i64 bud] w fun e w' => e = .returned (.bool true) ∧ Below w.heap.size w w' := by
  have HSz := Lib.hid (fun W (hb : Below w.heap.size w W) => szDisk A C n c m d ss ws 1048576 W (by omega) (by omega) hl hm hn hmm (h.below hb) (g.below hb) fs fw)
  have HTo := Lib.hid (fun W (hb : Below w.heap.size w W) (h1 : n ≤ 1048576) (h2 : m ≤ 1048576) => toDisk A C n c m d ss ws W hl hm h1 h2 (h.below hb) (g.below hb))
  have HSpec := Lib.hid (fun W A' n' c' C' m' d' P' f' (hl' : ss.length = n') (hm' : ws.length = m') (hn' : n' ≤ maxLen) (hmm' : m' ≤ maxLen) (h' : StrL W A' ss) (g' : WrL W C' ws) (i' : StrL W P' ps) => specCommit A' C' P' n' c' m' d' k f' ss ps ws bud W hl' hm' hk hn' hmm' hkk h' g' i' fs fw fp)
  have HImpl := Lib.hid (fun W A' n' c' C' m' d' P' f' (hl' : ss.length = n') (hm' : ws.length = m') (hn' : n' ≤ maxLen) (hmm' : m' ≤ maxLen) (h' : StrL W A' ss) (g' : WrL W C' ws) (i' : StrL W P' ps) => implCommit A' C' P' n' c' m' d' k f' ss ps ws bud W hl' hm' hk hn' hmm' hkk h' g' i' fs fw fp)
  have HL := Lib.hid (And.intro hl hm)
  have HBr := Lib.hid (fun (h1 : ss.length ≤ 1048576) (h2 : ws.length ≤ 1048576) => commit_bound ss ws ps bud h1)
  generalize hrs : (commitOf ss ws ps bud).1 = rs at HSpec HImpl HBr
  generalize hrw : ([] : List (Int × ByteArray)) = rw at HSpec HImpl HBr
  generalize hcode : (commitOf ss ws ps bud).2 = code at HSpec HImpl
  clear hl hm hn hmm h g fs fw hrs hrw hcode
  have HNK := Lib.hid hk
  have HToP0 := Lib.hid (fun (hlim : k ≤ 1048576) W (hb : Below w.heap.size w W) => toStrsC P k f ps W hk hlim (i.below hb))
  have HSzP := Lib.hid (fun W (hb : Below w.heap.size w W) (left : Int) g0 g1 => szStringS P k f ps left W hk hkk g0 g1 (i.below hb) fp)
  clear hk hkk i fp _wb
  have hb0 : Below w.heap.size w (w.alloc (.cells #[.slice A n c, .slice C m d] 25)) := alloc_below _ _
  have X0 := Lib.hid (Box.new w 25 #[.slice A n c, .slice C m d])
  go_enter Try.func3, Try.ntmps3
  go_wp2_with fail
  refine (HSz.out _ hb0).mono ?_
  rintro e w1 ⟨hres, hb1⟩
  have X1 := Lib.hid (X0.out.step hb1)
  have H0 := Lib.hid (bt hb0 hb1)
  clear hb0 X0 HSz hb1
  rcases hres with rfl | ⟨rfl, hle⟩
  · go_wp2
    go_ret
    exact ⟨rfl, H0.out⟩
  have hsz : n + m ≤ 1048576 := by have := HL.out.1; have := HL.out.2; unfold szOf at hle; omega
  have HB2 := Lib.hid (HBr.out (by rw [HL.out.1]; omega) (by rw [HL.out.2]; omega))
  generalize szOf ss ws = u at hle
  have hp : ¬ (1048576 : Int) - (u : Int) < 0 := by omega
  clear HBr
  go_wp2_with fail
  refine (HSzP.out _ H0.out _ (by omega) (by omega)).mono ?_
  rintro e w1b ⟨hres, hb1b⟩
  have F1 := Lib.hid (X1.out.step hb1b)
  have H2 := Lib.hid (bt H0.out hb1b)
  clear X1 H0
  clear hb1b
  rcases hres with rfl | ⟨rfl, hle2⟩
  · go_wp2
    go_ret
    exact ⟨rfl, H2.out⟩
  have hkl : k ≤ 1048576 := by have := HNK.out; omega
  generalize hu2 : ps.length + lenS ps = u2 at hle2
  clear hu2
  have hp2 : ¬ (1048576 : Int) - (u : Int) - (u2 : Int) < 0 := by omega
  have HToP := Lib.hid (HToP0.out hkl)
  clear HToP0 HSzP
  have f0 : w1b.cell? ⟨w.heap.size, 0, none⟩ = some (.slice A n c) := F1.out.cell 0 rfl
  have f1 : w1b.cell? ⟨w.heap.size, 1, none⟩ = some (.slice C m d) := F1.out.cell 1 rfl
  go_wp2_with fail
  refine (HTo.out _ H2.out (by omega) (by omega)).mono ?_
  rintro e w2 ⟨A2, n2, c2, C2, m2, d2, rfl, L2, M2, S2, R2, hb2⟩
  clear f0 f1
  have F3 := Lib.hid (F1.out.step hb2)
  have H4 := Lib.hid (bt H2.out hb2)
  clear F1 H2
  clear hb2
  go_wp2_with fail
  refine (HToP.out _ H4.out).mono ?_
  rintro e w2i ⟨F2i, cf2i, rfl, SF2i, hb2i⟩
  have S2i := Lib.hid (S2.out.below hb2i)
  have R2i := Lib.hid (R2.out.below hb2i)
  have F5 := Lib.hid (F3.out.step hb2i)
  have H6 := Lib.hid (bt H4.out hb2i)
  clear F3 H4
  clear hb2i
  go_wp2_with fail
  refine (HSpec.out w2i A2 n2 c2 C2 m2 d2 F2i cf2i L2.out M2.out (by have := L2.out; have := HL.out.1; unfold maxLen; omega) (by have := M2.out; have := HL.out.2; unfold maxLen; omega) S2i.out.reads R2i.out.reads SF2i.out.reads).mono ?_
  rintro e w3 ⟨A3, n3, c3, C3, m3, d3, rfl, L3, M3, S3, R3, hb3⟩
  have F7 := Lib.hid (F5.out.step hb3)
  have H8 := Lib.hid (bt H6.out hb3)
  clear F5 H6
  have Q0 : Hid (w.heap.size < w3.heap.size) := Lib.hid F7.out.lt
  clear hb3 L2 M2 S2 R2
  have hba := alloc_below w3 (.cells #[.slice A3 n3 c3, .slice C3 m3 d3] 30)
  have D3 := Lib.hid (BD.new (n := n3) (c := c3) (m := m3) (d := d3) S3.out R3.out)
  have F9 := Lib.hid (F7.out.step hba)
  have H10 := Lib.hid (bt H8.out hba)
  clear F7 H8
  have Z3 : Hid (w3.heap.size < (w3.alloc (.cells #[.slice A3 n3 c3, .slice C3 m3 d3] 30)).heap.size) := Lib.hid D3.out.box.lt
  clear hba S3 R3
  obtain ⟨w4, hw4⟩ : ∃ w4, w4 = w3.alloc (.cells #[.slice A3 n3 c3, .slice C3 m3 d3] 30) := ⟨_, rfl⟩
  rw [← hw4] at F9 H10 D3 Z3
  have HW4 := Lib.hid hw4
  have hw4 := HW4.out
  have f0 : w4.cell? ⟨w.heap.size, 0, none⟩ = some (.slice A n c) := F9.out.cell 0 rfl
  have f1 : w4.cell? ⟨w.heap.size, 1, none⟩ = some (.slice C m d) := F9.out.cell 1 rfl
  rw [HW4.out] at f0 f1
  clear hw4
  go_wp2_with fail
  rw [← HW4.out]
  refine (HTo.out w4 H10.out (by omega) (by omega)).mono ?_
  rintro e w5 ⟨A5, n5, c5, C5, m5, d5, rfl, L5, M5, S5, R5, hb5⟩
  clear f0 f1 HW4
  have F11 := Lib.hid (F9.out.step hb5)
  have F12 := Lib.hid (D3.out.step hb5)
  have H13 := Lib.hid (bt H10.out hb5)
  clear F9 D3 H10
  have Q1 : Hid (w4.heap.size ≤ w5.heap.size) := Lib.hid hb5.size
  clear hb5
  have hba := alloc_below w5 (.cells #[.slice A5 n5 c5, .slice C5 m5 d5] 30)
  have D5 := Lib.hid (BD.new (n := n5) (c := c5) (m := m5) (d := d5) S5.out R5.out)
  have F14 := Lib.hid (F11.out.step hba)
  have F15 := Lib.hid (F12.out.step hba)
  have H16 := Lib.hid (bt H13.out hba)
  clear F11 F12 H13
  have Z5 : Hid (w5.heap.size < (w5.alloc (.cells #[.slice A5 n5 c5, .slice C5 m5 d5] 30)).heap.size) := Lib.hid D5.out.box.lt
  clear hba S5 R5
  obtain ⟨w6, hw6⟩ : ∃ w6, w6 = w5.alloc (.cells #[.slice A5 n5 c5, .slice C5 m5 d5] 30) := ⟨_, rfl⟩
  rw [← hw6] at F14 F15 H16 D5 Z5
  have HW6 := Lib.hid hw6
  go_wp2_with fail
  rw [← HW6.out]
  refine (HToP.out _ H16.out).mono ?_
  rintro e w6i ⟨F6i, cf6i, rfl, SF6i, hb6i⟩
  have F17 := Lib.hid (F14.out.step hb6i)
  have F18 := Lib.hid (F15.out.step hb6i)
  have F19 := Lib.hid (D5.out.step hb6i)
  have H20 := Lib.hid (bt H16.out hb6i)
  clear F14 F15 D5 H16
  have Q3 : Hid (w6.heap.size ≤ w6i.heap.size) := Lib.hid hb6i.size
  clear hb6i HW6
  have f0 := F19.out.f0
  have f1 := F19.out.f1
  go_wp2_with fail
  clear f0 f1
  refine (HImpl.out w6i A5 n5 c5 C5 m5 d5 F6i cf6i L5.out M5.out (by have := L5.out; have := HL.out.1; unfold maxLen; omega) (by have := M5.out; have := HL.out.2; unfold maxLen; omega) F19.out.s.reads F19.out.r.reads SF6i.out.reads).mono ?_
  rintro e w7 ⟨A7, n7, c7, C7, m7, d7, rfl, L7, M7, S7, R7, hb7⟩
  have F21 := Lib.hid (F17.out.step hb7)
  have F22 := Lib.hid (F18.out.step hb7)
  have F23 := Lib.hid (F19.out.step hb7)
  have F24 := Lib.hid (SF6i.out.below hb7)
  have H25 := Lib.hid (bt H20.out hb7)
  clear F17 F18 F19 SF6i H20
  have Q2 : Hid (w6i.heap.size ≤ w7.heap.size) := Lib.hid hb7.size
  clear hb7
  have hba := alloc_below w7 (.cells #[.slice A7 n7 c7, .slice C7 m7 d7] 30)
  have D7 := Lib.hid (BD.new (n := n7) (c := c7) (m := m7) (d := d7) S7.out R7.out)
  have F26 := Lib.hid (F21.out.step hba)
  have F27 := Lib.hid (F22.out.step hba)
  have F28 := Lib.hid (F23.out.step hba)
  have F29 := Lib.hid (F24.out.below hba)
  have H30 := Lib.hid (bt H25.out hba)
  clear F21 F22 F23 F24 H25
  have Z7 : Hid (w7.heap.size < (w7.alloc (.cells #[.slice A7 n7 c7, .slice C7 m7 d7] 30)).heap.size) := Lib.hid D7.out.box.lt
  clear hba S7 R7
  obtain ⟨w8, hw8⟩ : ∃ w8, w8 = w7.alloc (.cells #[.slice A7 n7 c7, .slice C7 m7 d7] 30) := ⟨_, rfl⟩
  rw [← hw8] at F26 F27 F28 F29 H30 D7 Z7
  have HW8 := Lib.hid hw8
  have BR : Hid ((n3 ≤ maxLen ∧ m3 ≤ maxLen) ∧ (n7 ≤ 4294967296 ∧ m7 ≤ 4294967296) ∧ (n5 ≤ 4294967296 ∧ m5 ≤ 4294967296)) := by
    have a1 := HB2.out; have a2 := L3.out; have a3 := M3.out; have a4 := L7.out; have a5 := M7.out; have a6 := L5.out; have a7 := M5.out; have a8 := HL.out.1; have a9 := HL.out.2
    exact Lib.hid (by unfold maxLen; omega)
  have f0 := F27.out.f0
  have f1 := F27.out.f1
  rw [HW8.out] at f0 f1
  go_wp2_with fail
  rw [← HW8.out]
  clear f0 f1 HW8
  refine (eqDiskSame A7 A3 C7 C3 n7 n3 m7 m3 c7 c3 d7 d3 rs rw w8 L7.out L3.out M7.out M3.out (by have := BR.out.2.1; unfold maxLen; omega) (by have := BR.out.2.1; unfold maxLen; omega) D7.out.s.reads F27.out.s.reads D7.out.r.reads F27.out.r.reads).mono ?_
  rintro e w9 ⟨rfl, hb9⟩
  have F31 := Lib.hid (F26.out.step hb9)
  have F32 := Lib.hid (F27.out.step hb9)
  have F33 := Lib.hid (F28.out.step hb9)
  have F34 := Lib.hid (F29.out.below hb9)
  have F35 := Lib.hid (D7.out.step hb9)
  have H36 := Lib.hid (bt H30.out hb9)
  clear F26 F27 F28 F29 D7 H30
  clear hb9
  have hob : (code != code) = false := by simp
  have f0 : w9.cell? ⟨w.heap.size, 0, none⟩ = some (.slice A n c) := F31.out.cell 0 rfl
  have f1 : w9.cell? ⟨w.heap.size, 1, none⟩ = some (.slice C m d) := F31.out.cell 1 rfl
  have f2 := F33.out.f0
  have f3 := F33.out.f1
  have HK := Lib.hid (fun W' (hb : Below w9.heap.size w9 W') => And.intro ((hb.cell (cell_lt f0)).trans f0) (And.intro ((hb.cell (cell_lt f1)).trans f1) (And.intro ((hb.cell (cell_lt f2)).trans f2) ((hb.cell (cell_lt f3)).trans f3))))
  have h6 : Below w9.heap.size w9 w9.drew := (Below.refl _ _).drew
  go_wp2
  go_region_held3 (fun W => W.cell? ⟨w.heap.size, 0, none⟩ = some (.slice A n c) ∧ W.cell? ⟨w.heap.size, 1, none⟩ = some (.slice C m d) ∧ W.cell? ⟨w5.heap.size, 0, none⟩ = some (.slice A5 n5 c5) ∧ W.cell? ⟨w5.heap.size, 1, none⟩ = some (.slice C5 m5 d5))
    (first | exact HK.out _ h6 | exact HK.out _ (bt h6 hba) | exact HK.out _ (bt (bt h6 hba) hbb))
    (first | (go_at_call 12; refine (HTo.out _ H36.out.drew (by omega) (by omega)).mono ?_; rintro e wa ⟨Aa, na, ca, Ca, ma, da, rfl, La, Ma, Sa, Ra, hba⟩) | (go_at_call 15; refine (eqDiskSame A5 Aa C5 Ca n5 na m5 ma c5 ca d5 da ss ws wa L5.out La.out M5.out Ma.out (by have := BR.out.2.2; unfold maxLen; omega) (by have := BR.out.2.2; unfold maxLen; omega) (F33.out.s.below (bt h6 hba)).reads Sa.out.reads (F33.out.r.below (bt h6 hba)).reads Ra.out.reads).mono ?_; rintro e wb ⟨rfl, hbb⟩))
  have kb : Below w9.heap.size w9 wb := bt (bt h6 hba) hbb
  have F37 := Lib.hid (F31.out.step kb)
  have F38 := Lib.hid (F32.out.step kb)
  have F39 := Lib.hid (F33.out.step kb)
  have F40 := Lib.hid (F34.out.below kb)
  have F41 := Lib.hid (F35.out.step kb)
  have H42 := Lib.hid (bt H36.out kb)
  clear F31 F32 F33 F34 F35 H36
  clear f0 f1 f2 f3 HK h6 hba hbb kb La Ma Sa Ra
  go_wp2_with fail
  refine (HToP.out _ H42.out).mono ?_
  rintro e wbi ⟨Fbi, cfbi, rfl, SFbi, hbbi⟩
  have F43 := Lib.hid (F37.out.step hbbi)
  have F44 := Lib.hid (F38.out.step hbbi)
  have F45 := Lib.hid (F39.out.step hbbi)
  have F46 := Lib.hid (F40.out.below hbbi)
  have F47 := Lib.hid (F41.out.step hbbi)
  have H48 := Lib.hid (bt H42.out hbbi)
  clear F37 F38 F39 F40 F41 H42
  clear hbbi
  go_wp2_with fail
  refine (eqStrSameC F6i Fbi k k cf6i cfbi ps wbi HNK.out HNK.out (by unfold maxLen; omega) F46.out.reads SFbi.out.reads).mono ?_
  rintro e wbj ⟨rfl, hbbj⟩
  have F49 := Lib.hid (F43.out.step hbbj)
  have F50 := Lib.hid (F44.out.step hbbj)
  have F51 := Lib.hid (F45.out.step hbbj)
  have F52 := Lib.hid (F46.out.below hbbj)
  have F53 := Lib.hid (F47.out.step hbbj)
  have H54 := Lib.hid (bt H48.out hbbj)
  clear F43 F44 F45 F46 F47 H48
  clear hbbj SFbi
  have f0 := F51.out.f0
  have f1 := F51.out.f1
  go_wp2_with fail
  refine (markDisk A5 C5 n5 c5 m5 d5 w4.heap.size w5.heap.size ss ws wbj L5.out M5.out BR.out.2.2.1 BR.out.2.2.2 F51.out.s F51.out.r (Nat.le_of_lt F51.out.box.lt)).mono ?_
  rintro e wc ⟨rfl, Tc, Uc, hbc⟩
  have HLo : Hid (w4.heap.size ≤ wbj.heap.size) := Lib.hid (Nat.le_trans Q1.out (Nat.le_of_lt F51.out.box.lt))
  have HLw : Hid (w.heap.size ≤ w4.heap.size) := Lib.hid (by have := Q0.out; have := Z3.out; omega)
  have XB := Lib.hid (F51.out.box.btw hbc (.inr (Nat.le_refl _)))
  have F55 := Lib.hid (F49.out.btw hbc (.inl (by have := Q0.out; have := Z3.out; have := Q1.out; have := Z5.out; have := Q2.out; have := Q3.out; omega)))
  have F56 := Lib.hid (F50.out.btw hbc (.inl (by have := Q0.out; have := Z3.out; have := Q1.out; have := Z5.out; have := Q2.out; have := Q3.out; omega)) (.inl (by have := Q0.out; have := Z3.out; have := Q1.out; have := Z5.out; have := Q2.out; have := Q3.out; omega)))
  have F57 := Lib.hid (F52.out.btw hbc (.inr (by have := Q0.out; have := Z3.out; have := Q1.out; have := Z5.out; have := Q2.out; have := Q3.out; omega)))
  have F58 := Lib.hid (F53.out.btw hbc (.inr (by have := Q0.out; have := Z3.out; have := Q1.out; have := Z5.out; have := Q2.out; have := Q3.out; omega)) (.inr (by have := Q0.out; have := Z3.out; have := Q1.out; have := Z5.out; have := Q2.out; have := Q3.out; omega)))
  have H59 := Lib.hid (H54.out.trans ((hbc.below HLo.out).mono HLw.out))
  clear F49 F50 F51 F52 F53 H54
  clear f0 f1 hbc Tc Uc XB HLo HLw
  generalize hk : 1 + n5 + m5 * 2 = kk
  have hk1 : 1 ≤ kk := by omega
  have hk2 : kk + k ≤ 1099511627776 := by have := BR.out.2.2; omega
  clear hk
  go_wp2_with fail
  refine (markStringS F6i k cf6i kk w6.heap.size w6i.heap.size ps wc HNK.out hk1 (by omega) hk2 F57.out).mono ?_
  rintro e wci ⟨rfl, -, hbci⟩
  have HLo : Hid (w6.heap.size ≤ wc.heap.size) := Lib.hid (by have := F58.out.box.lt; have := Q2.out; have := Q3.out; omega)
  have HLw : Hid (w.heap.size ≤ w6.heap.size) := Lib.hid (by have := Q0.out; have := Z3.out; have := Q1.out; have := Z5.out; have := Q2.out; have := Q3.out; omega)
  have F60 := Lib.hid (F55.out.btw hbci (.inl (by have := Q0.out; have := Z3.out; have := Q1.out; have := Z5.out; have := Q2.out; have := Q3.out; omega)))
  have F61 := Lib.hid (F56.out.btw hbci (.inl (by have := Q0.out; have := Z3.out; have := Q1.out; have := Z5.out; have := Q2.out; have := Q3.out; omega)) (.inl (by have := Q0.out; have := Z3.out; have := Q1.out; have := Z5.out; have := Q2.out; have := Q3.out; omega)))
  have F62 := Lib.hid (F58.out.btw hbci (.inr (by have := Q0.out; have := Z3.out; have := Q1.out; have := Z5.out; have := Q2.out; have := Q3.out; omega)) (.inr (by have := Q0.out; have := Z3.out; have := Q1.out; have := Z5.out; have := Q2.out; have := Q3.out; omega)))
  have H63 := Lib.hid (H59.out.trans ((hbci.below HLo.out).mono HLw.out))
  clear F55 F56 F57 F58 H59
  clear hbci HLo HLw
  generalize hk3 : kk + k = k3
  clear hk3 hk1 hk2
  have hk0 : ¬ (k3 : Int) < 0 := by omega
  have f0 := F62.out.f0
  have f1 := F62.out.f1
  have f2 := F61.out.f0
  have f3 := F61.out.f1
  go_wp2_with fail
  refine (eqDiskSame A7 A3 C7 C3 n7 n3 m7 m3 c7 c3 d7 d3 rs rw wci L7.out L3.out M7.out M3.out (by have := BR.out.2.1; unfold maxLen; omega) (by have := BR.out.2.1; unfold maxLen; omega) F62.out.s.reads F61.out.s.reads F62.out.r.reads F61.out.r.reads).mono ?_
  rintro e wd ⟨rfl, hbd⟩
  have F64 := Lib.hid (F60.out.step hbd)
  have F65 := Lib.hid (F61.out.step hbd)
  have F66 := Lib.hid (F62.out.step hbd)
  have H67 := Lib.hid (bt H63.out hbd)
  clear F60 F61 F62 H63
  clear hbd f0 f1 f2 f3
  have f0 := F66.out.f0
  have f1 := F66.out.f1
  go_wp2_with fail
  refine (markDisk A7 C7 n7 c7 m7 d7 w6i.heap.size w7.heap.size rs rw wd L7.out M7.out BR.out.2.1.1 BR.out.2.1.2 F66.out.s F66.out.r (Nat.le_of_lt F66.out.box.lt)).mono ?_
  rintro e we ⟨rfl, Te, Ue, hbe⟩
  have HLo : Hid (w6i.heap.size ≤ wd.heap.size) := Lib.hid (Nat.le_trans Q2.out (Nat.le_of_lt F66.out.box.lt))
  have HLw : Hid (w.heap.size ≤ w6i.heap.size) := Lib.hid (by have := Q0.out; have := Z3.out; have := Q1.out; have := Z5.out; have := Q2.out; have := Q3.out; omega)
  have GB := Lib.hid (F66.out.box.btw hbe (.inr (Nat.le_refl _)))
  have F68 := Lib.hid (F64.out.btw hbe (.inl (by have := Q0.out; have := Z3.out; have := Q1.out; have := Z5.out; have := Q2.out; have := Q3.out; omega)))
  have F69 := Lib.hid (F65.out.btw hbe (.inl (by have := Q0.out; have := Z3.out; have := Q1.out; have := Z5.out; have := Q2.out; have := Q3.out; omega)) (.inl (by have := Q0.out; have := Z3.out; have := Q1.out; have := Z5.out; have := Q2.out; have := Q3.out; omega)))
  have H70 := Lib.hid (H67.out.trans ((hbe.below HLo.out).mono HLw.out))
  clear F64 F65 F66 H67
  clear f0 f1 hbe HLo HLw
  generalize hq : 1 + n7 + m7 * 2 = q
  have HQ := Lib.hid hq
  clear hq
  have hq0 : ¬ (q : Int) < 0 := by omega
  have hqq : ((q : Int) != (q : Int)) = false := by simp
  have f0 : we.cell? ⟨w7.heap.size, 0, none⟩ = some (.slice A7 n7 c7) := GB.out.cell 0 rfl
  have f1 : we.cell? ⟨w7.heap.size, 1, none⟩ = some (.slice C7 m7 d7) := GB.out.cell 1 rfl
  go_wp2_with fail
  refine (heldDisk A7 C7 n7 c7 m7 d7 we BR.out.2.1.1 BR.out.2.1.2 Te.out.reads Ue.out.reads).mono ?_
  rintro e wf ⟨rfl, hbwf⟩
  rw [HQ.out]
  have F71 := Lib.hid (F68.out.step hbwf)
  have F72 := Lib.hid (F69.out.step hbwf)
  have F73 := Lib.hid (GB.out.step hbwf)
  have F74 := Lib.hid (Te.out.below hbwf)
  have F75 := Lib.hid (Ue.out.below hbwf)
  have H76 := Lib.hid (bt H70.out hbwf)
  clear F68 F69 GB Te Ue H70
  clear hbwf f0 f1
  have f0 : wf.cell? ⟨w.heap.size, 0, none⟩ = some (.slice A n c) := F71.out.cell 0 rfl
  have f1 : wf.cell? ⟨w.heap.size, 1, none⟩ = some (.slice C m d) := F71.out.cell 1 rfl
  go_wp2_with fail
  refine (HTo.out _ H76.out (by omega) (by omega)).mono ?_
  rintro e wg ⟨Ag, ng, cg, Cg, mg, dg, rfl, Lg, Mg, Sg, Rg, hbg⟩
  have F77 := Lib.hid (F71.out.step hbg)
  have F78 := Lib.hid (F72.out.step hbg)
  have F79 := Lib.hid (F73.out.step hbg)
  have F80 := Lib.hid (F74.out.below hbg)
  have F81 := Lib.hid (F75.out.below hbg)
  have H82 := Lib.hid (bt H76.out hbg)
  clear F71 F72 F73 F74 F75 H76
  clear hbg f0 f1
  go_wp2_with fail
  refine (HToP.out _ H82.out).mono ?_
  rintro e wgi ⟨Fgi, cfgi, rfl, SFgi, hbgi⟩
  have Sgi := Lib.hid (Sg.out.below hbgi)
  have Rgi := Lib.hid (Rg.out.below hbgi)
  have F83 := Lib.hid (F77.out.step hbgi)
  have F84 := Lib.hid (F78.out.step hbgi)
  have F85 := Lib.hid (F79.out.step hbgi)
  have F86 := Lib.hid (F80.out.below hbgi)
  have F87 := Lib.hid (F81.out.below hbgi)
  have H88 := Lib.hid (bt H82.out hbgi)
  clear F77 F78 F79 F80 F81 H82
  clear hbgi
  go_wp2_with fail
  refine (HImpl.out wgi Ag ng cg Cg mg dg Fgi cfgi Lg.out Mg.out (by have := Lg.out; have := HL.out.1; unfold maxLen; omega) (by have := Mg.out; have := HL.out.2; unfold maxLen; omega) Sgi.out.reads Rgi.out.reads SFgi.out.reads).mono ?_
  rintro e wh ⟨Ah, nh, ch, Ch, mh, dh, rfl, Lh, Mh, Sh, Rh, hbh⟩
  have F89 := Lib.hid (F83.out.step hbh)
  have F90 := Lib.hid (F84.out.step hbh)
  have F91 := Lib.hid (F85.out.step hbh)
  have F92 := Lib.hid (F86.out.below hbh)
  have F93 := Lib.hid (F87.out.below hbh)
  have H94 := Lib.hid (bt H88.out hbh)
  clear F83 F84 F85 F86 F87 H88
  clear hbh Lg Mg Sg Rg
  have hba := alloc_below wh (.cells #[.slice Ah nh ch, .slice Ch mh dh] 30)
  have Dh := Lib.hid (BD.new (n := nh) (c := ch) (m := mh) (d := dh) Sh.out Rh.out)
  have F95 := Lib.hid (F89.out.step hba)
  have F96 := Lib.hid (F90.out.step hba)
  have F97 := Lib.hid (F91.out.step hba)
  have F98 := Lib.hid (F92.out.below hba)
  have F99 := Lib.hid (F93.out.below hba)
  have H100 := Lib.hid (bt H94.out hba)
  clear F89 F90 F91 F92 F93 H94
  clear hba Sh Rh
  obtain ⟨wi, hwi⟩ : ∃ wi, wi = wh.alloc (.cells #[.slice Ah nh ch, .slice Ch mh dh] 30) := ⟨_, rfl⟩
  rw [← hwi] at F95 F96 F97 F98 F99 H100 Dh
  have HWi := Lib.hid hwi
  have f0 := F96.out.f0
  have f1 := F96.out.f1
  rw [hwi] at f0 f1
  clear hwi
  have Bh : Hid (nh ≤ maxLen ∧ mh ≤ maxLen) := by have a1 := HB2.out; have a2 := Lh.out; have a3 := Mh.out; exact Lib.hid (by unfold maxLen; omega)
  go_wp2_with fail
  rw [← HWi.out]
  clear f0 f1 HWi
  refine (eqDiskSame Ah A3 Ch C3 nh n3 mh m3 ch c3 dh d3 rs rw wi Lh.out L3.out Mh.out M3.out Bh.out.1 Bh.out.2 Dh.out.s.reads F96.out.s.reads Dh.out.r.reads F96.out.r.reads).mono ?_
  rintro e wj ⟨rfl, hbj⟩
  have F101 := Lib.hid (F95.out.step hbj)
  have F102 := Lib.hid (F96.out.step hbj)
  have F103 := Lib.hid (F97.out.step hbj)
  have F104 := Lib.hid (F98.out.below hbj)
  have F105 := Lib.hid (F99.out.below hbj)
  have H106 := Lib.hid (bt H100.out hbj)
  clear F95 F96 F97 F98 F99 H100
  clear hbj Dh
  have f0 : wj.cell? ⟨w7.heap.size, 0, none⟩ = some (.slice A7 n7 c7) := F103.out.cell 0 rfl
  have f1 : wj.cell? ⟨w7.heap.size, 1, none⟩ = some (.slice C7 m7 d7) := F103.out.cell 1 rfl
  go_wp2_with fail
  refine (heldDisk A7 C7 n7 c7 m7 d7 wj BR.out.2.1.1 BR.out.2.1.2 F104.out.reads F105.out.reads).mono ?_
  rintro e wk ⟨rfl, hbwk⟩
  rw [HQ.out]
  have F107 := Lib.hid (F101.out.step hbwk)
  have F108 := Lib.hid (F102.out.step hbwk)
  have F109 := Lib.hid (F103.out.step hbwk)
  have F110 := Lib.hid (F104.out.below hbwk)
  have F111 := Lib.hid (F105.out.below hbwk)
  have H112 := Lib.hid (bt H106.out hbwk)
  clear F101 F102 F103 F104 F105 H106
  clear hbwk f0 f1
  go_wp2
  go_ret
  exact ⟨rfl, H112.out⟩

/-! The row's step. -/
open Go.ChangeShapes Go.WideShapes Go.ChangeAt
open Go.ChangeMaps (open_string shut_string)
set_option maxRecDepth 100000 in
theorem own : ownKnob Try.prog.godebug = none := by kernel_rfl
set_option maxRecDepth 100000 in
theorem laidOut : laidOutB Try.prog = true := factLaid
set_option maxRecDepth 100000 in
theorem lifted (os : Os) (started : os.Started) (H : Type) (enc : TypeId × Value → H) :
    ReturnsInHanded {} Try.checked os 3 .any (Rows.fnExactCommitSpec.pre6 enc Try.prog Try.f3 Rows.fnExactCommitRow.domain false) (Rows.fnExactCommitSpec.post enc Try.prog Try.f3 false true false false) := by
  refine returnsInHanded_of_change (C := Try.checked) own started (by kernel_rfl) Try.func3
    (ChangeSpec.witness6 (enc := enc) (C := Try.checked) false ⟨#[], #[.agg #[.slice none 0 0, .slice none 0 0], .slice none 0 0, .int .i64 0], []⟩ 8 (by kernel_rfl) (by kernel_rfl) (by kernel_rfl) (by kernel_rfl)) ?_
  intro W base args ds gs before hval0 hW hcnd _
  have hval : ∀ (j : Nat) t v, Try.f3.params[j]? = some t → args[j]? = some v → Value.okWide Try.prog W .any base t v := hval0
  have hW' := hW
  obtain ⟨p, q, hA0, hV, rfl, hfz, hnd⟩ := hW
  have hA : DataW.TrodAll enc Try.prog W 0 (fun _ => true) true Try.f3.params.toList args.toList ds p := hA0
  rw [Try.params3] at hA hval
  obtain ⟨v0, vs0, d0, ds0, p0, q0, hargs, rfl, rfl, h0, r0⟩ := trodAll_cons hA
  obtain ⟨v1, vs1, d1, ds1, p1, q1, rfl, rfl, rfl, h1, r1⟩ := trodAll_cons r0
  obtain ⟨v2, vs2, d2, ds2, p2, q2, rfl, rfl, rfl, h2, r2⟩ := trodAll_cons r1
  obtain ⟨rfl, rfl, rfl⟩ := trodAll_nil r2
  obtain rfl : args = #[v0, v1, v2] := by cases args; simp_all
  obtain ⟨rfl, rfl⟩ := trodVars_none hV
  have k0 := h0
  have lt0 : ∀ x ∈ p0, x.block < W.heap.size := by obtain ⟨m, hm⟩ := k0; exact DataW.trod_lt m _ _ _ hm
  obtain ⟨A0, n0, c0, C0, m0, e0, ss0, ws0, rfl, hl0, hm0, hn0, hmm0, hs0, hw0, fs0, fw0⟩ := open_disk (hval 0 25 v0 rfl rfl) h0
  have k1 := h1
  have lt1 : ∀ x ∈ p1, x.block < W.heap.size := by obtain ⟨m, hm⟩ := k1; exact DataW.trod_lt m _ _ _ hm
  obtain ⟨f1, hf1⟩ := h1
  obtain ⟨a1, l1, c1, rfl⟩ := okWide_slice Try.underlying22 (hval 1 22 v1 rfl rfl)
  obtain ⟨A1, n1, cc1, zs1, e1, hl1, hn1, hs1, fs1⟩ := open_strs Try.underlying22 Try.underlying9 cellsStr (by simpa [Value.cells] using hf1)
  injection e1 with e1 e2 e3; subst e1 e2 e3
  obtain ⟨a2, rfl, rfl, rfl, w2⟩ := open_int Try.underlying3 (hval 2 3 v2 rfl rfl) h2
  clear hA0 hval0
  refine (walk A0 C0 n0 c0 m0 e0 ss0 ws0 a1 l1 c1 zs1 a2 W hl0 hm0 hn0 hmm0 hs0 hw0 fs0 fw0 hl1 hn1 hs1 fs1 w2).mono fun e W' ⟨he, bel⟩ => ?_
  subst he
  exact ⟨_, rfl, _, _, _, [], _, [], hW', trodAll_mk1 (shut_bool Try.underlying4 _), (trodAll_cons_mk (Below.trod laidOut (by kernel_rfl) (of_decide_eq_true (by kernel_rfl)) k0 bel lt0) (trodAll_cons_mk (Below.trod laidOut (by kernel_rfl) (of_decide_eq_true (by kernel_rfl)) k1 bel lt1) (trodAll_cons_mk (shut_int Try.underlying3 w2) trodAll_mk0))), rfl, bel.frame _, fun h => by cases h⟩

theorem k0 : (Rows.fnExactCommitRow.wf (OpenSpec.ofChange Rows.fnExactCommitSpec)) = true := by kernel_rfl
set_option maxRecDepth 100000 in
theorem k3 : (Try.f3.params.all (Try.prog.readableRec ·)) = true := by kernel_rfl
set_option maxRecDepth 100000 in
theorem k4 : (namedTie Try.prog Rows.fnExactCommitRow.named Rows.fnExactCommitSpec.vars) = true := by kernel_rfl
theorem k5 : ((Rows.fnExactCommitRow.stops == [])) = true := by kernel_rfl
set_option maxRecDepth 100000 in
theorem k6 : ((Try.prog.stops == [])) = true := by kernel_rfl
theorem k7 : ((Rows.fnExactCommitRow.knobs == [])) = true := by kernel_rfl
set_option maxRecDepth 100000 in
theorem k8 : ((Try.prog.stopKnobs == [])) = true := by kernel_rfl
set_option maxRecDepth 100000 in
theorem k9 : ((Rows.fnExactCommitRow.inPlace == Try.prog.inPlace 3)) = true := by kernel_rfl
set_option maxRecDepth 100000 in
theorem k10 : ((Rows.fnExactCommitRow.unfollowed == Try.prog.unfollowed 3)) = true := by kernel_rfl
set_option maxRecDepth 100000 in
theorem k11 : ((Rows.fnExactCommitRow.recurses == Try.prog.recurses 3)) = true := by kernel_rfl
set_option maxRecDepth 100000 in
theorem k12 : ((Rows.fnExactCommitRow.named == Try.prog.varsNamed 3)) = true := by kernel_rfl
set_option maxRecDepth 100000 in
theorem k13 : ((Rows.fnExactCommitRow.maps == (Try.f3.params.toList ++ Rows.fnExactCommitSpec.plain.varTypes Try.prog).any (Try.prog.mapsRec ·))) = true := by kernel_rfl
set_option maxRecDepth 100000 in
theorem k14 : ((Rows.fnExactCommitRow.ifaces == (Try.f3.params.toList ++ Rows.fnExactCommitSpec.plain.varTypes Try.prog).any (Try.prog.ifacesRec ·))) = true := by kernel_rfl
set_option maxRecDepth 100000 in
theorem k15 : ((Rows.fnExactCommitRow.mapsOut == Try.prog.mapsAmong Try.f3.resultTypes.toList)) = true := by kernel_rfl
set_option maxRecDepth 100000 in
theorem k16 : ((Rows.fnExactCommitRow.loops == (Try.f3.params.toList ++ Rows.fnExactCommitSpec.plain.varTypes Try.prog).any (Try.prog.loopsFrom ·))) = true := by kernel_rfl
set_option maxRecDepth 100000 in
theorem k17 : ((Rows.fnExactCommitRow.wideKeys == (Try.f3.params.toList ++ Rows.fnExactCommitSpec.plain.varTypes Try.prog ++ Try.f3.resultTypes.toList).any (Try.prog.wideKeysFrom ·))) = true := by kernel_rfl
set_option maxRecDepth 100000 in
theorem k18 : (Rows.fnExactCommitSpec.vars.all (Try.prog.varReadable ·)) = true := by kernel_rfl
set_option maxRecDepth 100000 in
theorem k19 : (Try.f3.resultTypes.all (fun t => Try.prog.readableRec t && decide (t < Try.prog.types.size))) = true := by kernel_rfl
set_option maxRecDepth 100000 in
theorem k20 : ((Rows.fnExactCommitRow.ifacesOut == Try.f3.resultTypes.toList.any (Try.prog.ifacesRec ·))) = true := by kernel_rfl
set_option maxRecDepth 100000 in
theorem k21 : ((Rows.fnExactCommitRow.loopsOut == Try.f3.resultTypes.toList.any (Try.prog.loopsFrom ·))) = true := by kernel_rfl
set_option maxRecDepth 100000 in
theorem k22 : ((Rows.fnExactCommitRow.plainKeys == Try.prog.plainKeys)) = true := by kernel_rfl
theorem k23 : (Rows.fnExactCommitRow.shortTexts.isNone) = true := by kernel_rfl
set_option maxRecDepth 100000 in
theorem k28 : ((Rows.fnExactCommitRow.kinds == (if Rows.fnExactCommitRow.domain.isEmpty then [] else Try.f3.params.toList.map fun t => match Try.prog.underlying t with | some (.int k) => some k | _ => none))) = true := by kernel_rfl
theorem k29 : ((Rows.fnExactCommitRow.pinned == Rows.fnExactCommitRow.pinnedBy)) = true := by kernel_rfl
set_option maxRecDepth 100000 in
theorem k30 : ((Rows.fnExactCommitRow.veiled == (Try.f3.params.toList ++ Rows.fnExactCommitSpec.plain.varTypes Try.prog ++ Try.f3.resultTypes.toList).any (Try.prog.veiledRec ·))) = true := by kernel_rfl
set_option maxRecDepth 100000 in
theorem k31 : (Rows.fnExactCommitRow.veiledFits Try.prog Try.f3.params.toList (Try.f3.params.toList ++ Rows.fnExactCommitSpec.plain.varTypes Try.prog ++ Try.f3.resultTypes.toList)) = true := by kernel_rfl
set_option maxRecDepth 100000 in
theorem facts : joinedFacts Try.prog 3 Try.f3 Rows.fnExactCommitSpec Rows.fnExactCommitRow = true := (and_mk (and_mk (and_mk (and_mk (and_mk (and_mk (and_mk (and_mk (and_mk (and_mk (and_mk (and_mk (and_mk (and_mk (and_mk (and_mk (and_mk (and_mk (and_mk (and_mk (and_mk (and_mk (and_mk (and_mk (and_mk (and_mk (and_mk (and_mk (and_mk (and_mk (and_mk k0 factLaid) factRowed) k3) k4) k5) k6) k7) k8) k9) k10) k11) k12) k13) k14) k15) k16) k17) k18) k19) k20) k21) k22) k23) factHeard) factEnter) factLift) factMake) k28) k29) k30) k31)
set_option maxRecDepth 100000 in
theorem named : Try.prog.funcNamed Rows.fnExactCommitRow.func = some 3 := by kernel_rfl
set_option maxRecDepth 100000 in
theorem inst : Try.f3.isInstance Try.prog Rows.fnExactCommitRow.origin Rows.fnExactCommitRow.targs := of_decide_eq_true (by kernel_rfl)
set_option maxRecDepth 100000 in
theorem over : Rows.fnExactCommitRow.holds Try.pinned (OpenSpec.ofChange Rows.fnExactCommitSpec) :=
  OpenClaim.holds_of_wide 3 Try.f3 rfl rfl rfl rfl rfl rfl rfl ⟨rfl, rfl, rfl, rfl, rfl⟩ rfl rfl rfl rfl rfl named Try.func3 facts
    inst (by unfold Func.isWrapper; first | (rw [if_pos (by decide +kernel)]; kernel_rfl) | (rw [if_neg (by decide +kernel)]; exact ⟨rfl, rfl⟩))
    (fun os started H enc _ => lifted os started H enc)
theorem proved : Rows.FnExactCommitSaid := over
#print axioms proved
end Go.Proofs.Ytlfmniekbiffjaa.fnExactCommit
