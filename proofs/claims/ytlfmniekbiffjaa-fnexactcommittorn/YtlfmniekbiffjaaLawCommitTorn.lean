/- For every disk, every list of texts, every phase and every list of fates (of any size), laws.FnExactCommitTorn returns true: impl.CommitTorn answers as the model spec.CommitTorn, every field, leaves its arguments alone, and its result is memory of its own. No condition. -/
import Derived.Test.YtlfmniekbiffjaaSpecTorn2
import Derived.Test.YtlfmniekbiffjaaTornImpl
import Derived.Test.YtlfmniekbiffjaaStrsTo
import Derived.Test.YtlfmniekbiffjaaM5
import Derived.Test.YtlfmniekbiffjaaOpen
import Derived.Test.YtlfmniekbiffjaaFactA
import Derived.Test.YtlfmniekbiffjaaFactB
import Derived.Test.YtlfmniekbiffjaaFactC
import Derived.Test.YtlfmniekbiffjaaFactD
import Derived.Deep.RegionHeld3
import Derived.ProofKit
import Derived.OpenShut
import Derived.ShutString
import Derived.ChangeOld
namespace Go.Proofs.Ytlfmniekbiffjaa.fnExactCommitTorn
open Go.RowKit

theorem torn_bound (ss : List ByteArray) (ws : List (Int × ByteArray)) (ps : List ByteArray) (ph : Int) (zs : List Int) (h : ss.length ≤ 1048576) : (tornOf ss ws ps ph zs).1.length ≤ 1048577 ∧ ([] : List (Int × ByteArray)).length ≤ 1048577 := by
  refine ⟨?_, by simp⟩
  unfold tornOf twoN
  split
  · simp
  · split
    · simp
    · split
      · simp
      · split
        · show ss.length ≤ _; omega
        · split
          · show (settleN _ _ _ _).length ≤ _; rw [settleN_len]; omega
          · split
            · show (settleN _ _ _ _).length ≤ _; rw [settleN_len, settleN_len]; omega
            · show (settleN _ _ _ _).length ≤ _; rw [settleN_len, settleN_len]; omega
set_option maxRecDepth 100000 in
set_option maxHeartbeats 16000000 in
theorem walk (A C : Option Addr) (n c m d : Nat) (ss : List ByteArray) (ws : List (Int × ByteArray)) (P : Option Addr) (k f : Nat) (ps : List ByteArray) (ph : Int) (F : Option Addr) (nf cf : Nat) (zs : List Int) (w : World) (hl : ss.length = n) (hm : ws.length = m) (hn : n ≤ maxLen) (hmm : m ≤ maxLen) (h : StrL w A ss) (g : WrL w C ws) (fs : FitS ss) (fw : FitW ws) (hk : ps.length = k) (hkk : k ≤ maxLen) (i : StrL w P ps) (fp : FitS ps) (_wb : (Lit.int .i64 ph).wf = true) (hf : zs.length = nf) (hnf : nf ≤ maxLen) (j : IntL w F zs) (_wz : ∀ z ∈ zs, (Lit.int .i64 z).wf = true) :
    Calls Try.prog 4 #[.agg #[.slice A n c, .slice C m d], .slice P k f, .int .i64 ph, .slice F nf cf] w fun e w' => e = .returned (.bool true) ∧ Below w.heap.size w w' := by
  have HSz := Lib.hid (fun W (hb : Below w.heap.size w W) => szDisk A C n c m d ss ws 1048576 W (by omega) (by omega) hl hm hn hmm (h.below hb) (g.below hb) fs fw)
  have HTo := Lib.hid (fun W (hb : Below w.heap.size w W) (h1 : n ≤ 1048576) (h2 : m ≤ 1048576) => toDisk A C n c m d ss ws W hl hm h1 h2 (h.below hb) (g.below hb))
  have HSpec := Lib.hid (fun W A' n' c' C' m' d' P' f' F' cf' (hl' : ss.length = n') (hm' : ws.length = m') (hn' : n' ≤ maxLen) (hmm' : m' ≤ maxLen) (h' : StrL W A' ss) (g' : WrL W C' ws) (i' : StrL W P' ps) (j' : IntL W F' zs) => specTorn A' C' P' F' n' c' m' d' k f' nf cf' ss ps ws ph zs W hl' hm' hk hf hn' hmm' hkk hnf h' g' i' j' fs fw fp)
  have HImpl := Lib.hid (fun W A' n' c' C' m' d' P' f' F' cf' (hl' : ss.length = n') (hm' : ws.length = m') (hn' : n' ≤ maxLen) (hmm' : m' ≤ maxLen) (h' : StrL W A' ss) (g' : WrL W C' ws) (i' : StrL W P' ps) (j' : IntL W F' zs) => implTorn A' C' P' F' n' c' m' d' k f' nf cf' ss ps ws ph zs W hl' hm' hk hf hn' hmm' hkk hnf h' g' i' j' fs fw fp)
  have HL := Lib.hid (And.intro hl hm)
  have HBr := Lib.hid (fun (h1 : ss.length ≤ 1048576) (h2 : ws.length ≤ 1048576) => torn_bound ss ws ps ph zs h1)
  generalize hrs : (tornOf ss ws ps ph zs).1 = rs at HSpec HImpl HBr
  generalize hrw : ([] : List (Int × ByteArray)) = rw at HSpec HImpl HBr
  generalize hcode : (tornOf ss ws ps ph zs).2 = code at HSpec HImpl
  clear hl hm hn hmm h g fs fw hrs hrw hcode
  have HNK := Lib.hid hk
  have HToP0 := Lib.hid (fun (hlim : k ≤ 1048576) W (hb : Below w.heap.size w W) => toStrsC P k f ps W hk hlim (i.below hb))
  have HSzP := Lib.hid (fun W (hb : Below w.heap.size w W) (left : Int) g0 g1 => szStringS P k f ps left W hk hkk g0 g1 (i.below hb) fp)
  have HNF := Lib.hid hf
  have HToI := Lib.hid (fun (hlim : nf ≤ 1048576) W (hb : Below w.heap.size w W) => toIntS F nf cf zs W hf hlim (j.below hb))
  clear hk hkk i fp _wb hf hnf j _wz
  by_cases hbig : (1048576 : Int) < (nf : Int)
  · go_enter Try.func4, Try.ntmps4
    go_wp2
    go_ret
    exact ⟨rfl, alloc_below _ _⟩
  have hnfs : nf ≤ 1048576 := by omega
  replace HToI := Lib.hid (HToI.out hnfs)
  have hb0 : Below w.heap.size w (w.alloc (.cells #[.slice A n c, .slice C m d] 25)) := alloc_below _ _
  have X0 := Lib.hid (Box.new w 25 #[.slice A n c, .slice C m d])
  go_enter Try.func4, Try.ntmps4
  go_wp2_with fail
  refine (HSz.out _ hb0).mono ?_
  rintro e w1 ⟨hres, hb1⟩
  have X1 := Lib.hid (X0.out.step hb1)
  have H0 := Lib.hid (bt hb0 hb1)
  clear hb0 X0 HSz hb1
  rcases hres with rfl | ⟨rfl, hle⟩
  · go_wp2
    go_ret
    exact ⟨rfl, H0.out⟩
  have hsz : n + m ≤ 1048576 := by have := HL.out.1; have := HL.out.2; unfold szOf at hle; omega
  have HB2 := Lib.hid (HBr.out (by rw [HL.out.1]; omega) (by rw [HL.out.2]; omega))
  generalize szOf ss ws = u at hle
  have hp : ¬ (1048576 : Int) - (u : Int) < 0 := by omega
  clear HBr
  go_wp2_with fail
  refine (HSzP.out _ H0.out _ (by omega) (by omega)).mono ?_
  rintro e w1b ⟨hres, hb1b⟩
  have F1 := Lib.hid (X1.out.step hb1b)
  have H2 := Lib.hid (bt H0.out hb1b)
  clear X1 H0
  clear hb1b
  rcases hres with rfl | ⟨rfl, hle2⟩
  · go_wp2
    go_ret
    exact ⟨rfl, H2.out⟩
  have hkl : k ≤ 1048576 := by have := HNK.out; omega
  generalize hu2 : ps.length + lenS ps = u2 at hle2
  clear hu2
  have hp2 : ¬ (1048576 : Int) - (u : Int) - (u2 : Int) < 0 := by omega
  have HToP := Lib.hid (HToP0.out hkl)
  clear HToP0 HSzP
  have f0 : w1b.cell? ⟨w.heap.size, 0, none⟩ = some (.slice A n c) := F1.out.cell 0 rfl
  have f1 : w1b.cell? ⟨w.heap.size, 1, none⟩ = some (.slice C m d) := F1.out.cell 1 rfl
  go_wp2_with fail
  refine (HTo.out _ H2.out (by omega) (by omega)).mono ?_
  rintro e w2 ⟨A2, n2, c2, C2, m2, d2, rfl, L2, M2, S2, R2, hb2⟩
  clear f0 f1
  have F3 := Lib.hid (F1.out.step hb2)
  have H4 := Lib.hid (bt H2.out hb2)
  clear F1 H2
  clear hb2
  go_wp2_with fail
  refine (HToP.out _ H4.out).mono ?_
  rintro e w2i ⟨F2i, cf2i, rfl, SF2i, hb2i⟩
  have S2i := Lib.hid (S2.out.below hb2i)
  have R2i := Lib.hid (R2.out.below hb2i)
  have F5 := Lib.hid (F3.out.step hb2i)
  have H6 := Lib.hid (bt H4.out hb2i)
  clear F3 H4
  clear hb2i
  go_wp2_with fail
  refine (HToI.out _ H6.out).mono ?_
  rintro e w2j ⟨F2j, nn, cf2j, rfl, LF2j, SF2j, hb2j⟩
  obtain rfl : nf = nn := by have := LF2j.out; have := HNF.out; omega
  have S2j := Lib.hid (S2i.out.below hb2j)
  have R2j := Lib.hid (R2i.out.below hb2j)
  have SF2k := Lib.hid (SF2i.out.below hb2j)
  have F7 := Lib.hid (F5.out.step hb2j)
  have H8 := Lib.hid (bt H6.out hb2j)
  clear F5 H6
  clear hb2j LF2j
  go_wp2_with fail
  refine (HSpec.out w2j A2 n2 c2 C2 m2 d2 F2i cf2i F2j cf2j L2.out M2.out (by have := L2.out; have := HL.out.1; unfold maxLen; omega) (by have := M2.out; have := HL.out.2; unfold maxLen; omega) S2j.out.reads R2j.out.reads SF2k.out.reads SF2j.out.reads).mono ?_
  rintro e w3 ⟨A3, n3, c3, C3, m3, d3, rfl, L3, M3, S3, R3, hb3⟩
  have F9 := Lib.hid (F7.out.step hb3)
  have H10 := Lib.hid (bt H8.out hb3)
  clear F7 H8
  have Q0 : Hid (w.heap.size < w3.heap.size) := Lib.hid F9.out.lt
  clear hb3 L2 M2 S2 R2
  have hba := alloc_below w3 (.cells #[.slice A3 n3 c3, .slice C3 m3 d3] 30)
  have D3 := Lib.hid (BD.new (n := n3) (c := c3) (m := m3) (d := d3) S3.out R3.out)
  have F11 := Lib.hid (F9.out.step hba)
  have H12 := Lib.hid (bt H10.out hba)
  clear F9 H10
  have Z3 : Hid (w3.heap.size < (w3.alloc (.cells #[.slice A3 n3 c3, .slice C3 m3 d3] 30)).heap.size) := Lib.hid D3.out.box.lt
  clear hba S3 R3
  obtain ⟨w4, hw4⟩ : ∃ w4, w4 = w3.alloc (.cells #[.slice A3 n3 c3, .slice C3 m3 d3] 30) := ⟨_, rfl⟩
  rw [← hw4] at F11 H12 D3 Z3
  have HW4 := Lib.hid hw4
  have hw4 := HW4.out
  have f0 : w4.cell? ⟨w.heap.size, 0, none⟩ = some (.slice A n c) := F11.out.cell 0 rfl
  have f1 : w4.cell? ⟨w.heap.size, 1, none⟩ = some (.slice C m d) := F11.out.cell 1 rfl
  rw [HW4.out] at f0 f1
  clear hw4
  go_wp2_with fail
  rw [← HW4.out]
  refine (HTo.out w4 H12.out (by omega) (by omega)).mono ?_
  rintro e w5 ⟨A5, n5, c5, C5, m5, d5, rfl, L5, M5, S5, R5, hb5⟩
  clear f0 f1 HW4
  have F13 := Lib.hid (F11.out.step hb5)
  have F14 := Lib.hid (D3.out.step hb5)
  have H15 := Lib.hid (bt H12.out hb5)
  clear F11 D3 H12
  have Q1 : Hid (w4.heap.size ≤ w5.heap.size) := Lib.hid hb5.size
  clear hb5
  have hba := alloc_below w5 (.cells #[.slice A5 n5 c5, .slice C5 m5 d5] 30)
  have D5 := Lib.hid (BD.new (n := n5) (c := c5) (m := m5) (d := d5) S5.out R5.out)
  have F16 := Lib.hid (F13.out.step hba)
  have F17 := Lib.hid (F14.out.step hba)
  have H18 := Lib.hid (bt H15.out hba)
  clear F13 F14 H15
  have Z5 : Hid (w5.heap.size < (w5.alloc (.cells #[.slice A5 n5 c5, .slice C5 m5 d5] 30)).heap.size) := Lib.hid D5.out.box.lt
  clear hba S5 R5
  obtain ⟨w6, hw6⟩ : ∃ w6, w6 = w5.alloc (.cells #[.slice A5 n5 c5, .slice C5 m5 d5] 30) := ⟨_, rfl⟩
  rw [← hw6] at F16 F17 H18 D5 Z5
  have HW6 := Lib.hid hw6
  go_wp2_with fail
  rw [← HW6.out]
  refine (HToP.out _ H18.out).mono ?_
  rintro e w6i ⟨F6i, cf6i, rfl, SF6i, hb6i⟩
  have F19 := Lib.hid (F16.out.step hb6i)
  have F20 := Lib.hid (F17.out.step hb6i)
  have F21 := Lib.hid (D5.out.step hb6i)
  have H22 := Lib.hid (bt H18.out hb6i)
  clear F16 F17 D5 H18
  have Q3 : Hid (w6.heap.size ≤ w6i.heap.size) := Lib.hid hb6i.size
  clear hb6i HW6
  go_wp2_with fail
  refine (HToI.out _ H22.out).mono ?_
  rintro e w6j ⟨F6j, nn, cf6j, rfl, LF6j, SF6j, hb6j⟩
  obtain rfl : nf = nn := by have := LF6j.out; have := HNF.out; omega
  have F23 := Lib.hid (F19.out.step hb6j)
  have F24 := Lib.hid (F20.out.step hb6j)
  have F25 := Lib.hid (F21.out.step hb6j)
  have F26 := Lib.hid (SF6i.out.below hb6j)
  have H27 := Lib.hid (bt H22.out hb6j)
  clear F19 F20 F21 SF6i H22
  have Q4 : Hid (w6i.heap.size ≤ w6j.heap.size) := Lib.hid hb6j.size
  clear hb6j LF6j
  have f0 := F25.out.f0
  have f1 := F25.out.f1
  go_wp2_with fail
  clear f0 f1
  refine (HImpl.out w6j A5 n5 c5 C5 m5 d5 F6i cf6i F6j cf6j L5.out M5.out (by have := L5.out; have := HL.out.1; unfold maxLen; omega) (by have := M5.out; have := HL.out.2; unfold maxLen; omega) F25.out.s.reads F25.out.r.reads F26.out.reads SF6j.out.reads).mono ?_
  rintro e w7 ⟨A7, n7, c7, C7, m7, d7, rfl, L7, M7, S7, R7, hb7⟩
  have F28 := Lib.hid (F23.out.step hb7)
  have F29 := Lib.hid (F24.out.step hb7)
  have F30 := Lib.hid (F25.out.step hb7)
  have F31 := Lib.hid (F26.out.below hb7)
  have F32 := Lib.hid (SF6j.out.below hb7)
  have H33 := Lib.hid (bt H27.out hb7)
  clear F23 F24 F25 F26 SF6j H27
  have Q2 : Hid (w6j.heap.size ≤ w7.heap.size) := Lib.hid hb7.size
  clear hb7
  have hba := alloc_below w7 (.cells #[.slice A7 n7 c7, .slice C7 m7 d7] 30)
  have D7 := Lib.hid (BD.new (n := n7) (c := c7) (m := m7) (d := d7) S7.out R7.out)
  have F34 := Lib.hid (F28.out.step hba)
  have F35 := Lib.hid (F29.out.step hba)
  have F36 := Lib.hid (F30.out.step hba)
  have F37 := Lib.hid (F31.out.below hba)
  have F38 := Lib.hid (F32.out.below hba)
  have H39 := Lib.hid (bt H33.out hba)
  clear F28 F29 F30 F31 F32 H33
  have Z7 : Hid (w7.heap.size < (w7.alloc (.cells #[.slice A7 n7 c7, .slice C7 m7 d7] 30)).heap.size) := Lib.hid D7.out.box.lt
  clear hba S7 R7
  obtain ⟨w8, hw8⟩ : ∃ w8, w8 = w7.alloc (.cells #[.slice A7 n7 c7, .slice C7 m7 d7] 30) := ⟨_, rfl⟩
  rw [← hw8] at F34 F35 F36 F37 F38 H39 D7 Z7
  have HW8 := Lib.hid hw8
  have BR : Hid ((n3 ≤ maxLen ∧ m3 ≤ maxLen) ∧ (n7 ≤ 4294967296 ∧ m7 ≤ 4294967296) ∧ (n5 ≤ 4294967296 ∧ m5 ≤ 4294967296)) := by
    have a1 := HB2.out; have a2 := L3.out; have a3 := M3.out; have a4 := L7.out; have a5 := M7.out; have a6 := L5.out; have a7 := M5.out; have a8 := HL.out.1; have a9 := HL.out.2
    exact Lib.hid (by unfold maxLen; omega)
  have f0 := F35.out.f0
  have f1 := F35.out.f1
  rw [HW8.out] at f0 f1
  go_wp2_with fail
  rw [← HW8.out]
  clear f0 f1 HW8
  refine (eqDiskSame A7 A3 C7 C3 n7 n3 m7 m3 c7 c3 d7 d3 rs rw w8 L7.out L3.out M7.out M3.out (by have := BR.out.2.1; unfold maxLen; omega) (by have := BR.out.2.1; unfold maxLen; omega) D7.out.s.reads F35.out.s.reads D7.out.r.reads F35.out.r.reads).mono ?_
  rintro e w9 ⟨rfl, hb9⟩
  have F40 := Lib.hid (F34.out.step hb9)
  have F41 := Lib.hid (F35.out.step hb9)
  have F42 := Lib.hid (F36.out.step hb9)
  have F43 := Lib.hid (F37.out.below hb9)
  have F44 := Lib.hid (F38.out.below hb9)
  have F45 := Lib.hid (D7.out.step hb9)
  have H46 := Lib.hid (bt H39.out hb9)
  clear F34 F35 F36 F37 F38 D7 H39
  clear hb9
  have hob : (code != code) = false := by simp
  have f0 : w9.cell? ⟨w.heap.size, 0, none⟩ = some (.slice A n c) := F40.out.cell 0 rfl
  have f1 : w9.cell? ⟨w.heap.size, 1, none⟩ = some (.slice C m d) := F40.out.cell 1 rfl
  have f2 := F42.out.f0
  have f3 := F42.out.f1
  have HK := Lib.hid (fun W' (hb : Below w9.heap.size w9 W') => And.intro ((hb.cell (cell_lt f0)).trans f0) (And.intro ((hb.cell (cell_lt f1)).trans f1) (And.intro ((hb.cell (cell_lt f2)).trans f2) ((hb.cell (cell_lt f3)).trans f3))))
  have h6 : Below w9.heap.size w9 w9.drew := (Below.refl _ _).drew
  go_wp2
  go_region_held3 (fun W => W.cell? ⟨w.heap.size, 0, none⟩ = some (.slice A n c) ∧ W.cell? ⟨w.heap.size, 1, none⟩ = some (.slice C m d) ∧ W.cell? ⟨w5.heap.size, 0, none⟩ = some (.slice A5 n5 c5) ∧ W.cell? ⟨w5.heap.size, 1, none⟩ = some (.slice C5 m5 d5))
    (first | exact HK.out _ h6 | exact HK.out _ (bt h6 hba) | exact HK.out _ (bt (bt h6 hba) hbb))
    (first | (go_at_call 12; refine (HTo.out _ H46.out.drew (by omega) (by omega)).mono ?_; rintro e wa ⟨Aa, na, ca, Ca, ma, da, rfl, La, Ma, Sa, Ra, hba⟩) | (go_at_call 15; refine (eqDiskSame A5 Aa C5 Ca n5 na m5 ma c5 ca d5 da ss ws wa L5.out La.out M5.out Ma.out (by have := BR.out.2.2; unfold maxLen; omega) (by have := BR.out.2.2; unfold maxLen; omega) (F42.out.s.below (bt h6 hba)).reads Sa.out.reads (F42.out.r.below (bt h6 hba)).reads Ra.out.reads).mono ?_; rintro e wb ⟨rfl, hbb⟩))
  have kb : Below w9.heap.size w9 wb := bt (bt h6 hba) hbb
  have F47 := Lib.hid (F40.out.step kb)
  have F48 := Lib.hid (F41.out.step kb)
  have F49 := Lib.hid (F42.out.step kb)
  have F50 := Lib.hid (F43.out.below kb)
  have F51 := Lib.hid (F44.out.below kb)
  have F52 := Lib.hid (F45.out.step kb)
  have H53 := Lib.hid (bt H46.out kb)
  clear F40 F41 F42 F43 F44 F45 H46
  clear f0 f1 f2 f3 HK h6 hba hbb kb La Ma Sa Ra
  go_wp2_with fail
  refine (HToP.out _ H53.out).mono ?_
  rintro e wbi ⟨Fbi, cfbi, rfl, SFbi, hbbi⟩
  have F54 := Lib.hid (F47.out.step hbbi)
  have F55 := Lib.hid (F48.out.step hbbi)
  have F56 := Lib.hid (F49.out.step hbbi)
  have F57 := Lib.hid (F50.out.below hbbi)
  have F58 := Lib.hid (F51.out.below hbbi)
  have F59 := Lib.hid (F52.out.step hbbi)
  have H60 := Lib.hid (bt H53.out hbbi)
  clear F47 F48 F49 F50 F51 F52 H53
  clear hbbi
  go_wp2_with fail
  refine (eqStrSameC F6i Fbi k k cf6i cfbi ps wbi HNK.out HNK.out (by unfold maxLen; omega) F57.out.reads SFbi.out.reads).mono ?_
  rintro e wbj ⟨rfl, hbbj⟩
  have F61 := Lib.hid (F54.out.step hbbj)
  have F62 := Lib.hid (F55.out.step hbbj)
  have F63 := Lib.hid (F56.out.step hbbj)
  have F64 := Lib.hid (F57.out.below hbbj)
  have F65 := Lib.hid (F58.out.below hbbj)
  have F66 := Lib.hid (F59.out.step hbbj)
  have H67 := Lib.hid (bt H60.out hbbj)
  clear F54 F55 F56 F57 F58 F59 H60
  clear hbbj SFbi
  go_wp2_with fail
  refine (HToI.out _ H67.out).mono ?_
  rintro e wbk ⟨Fbk, nn, cfbk, rfl, LFbk, SFbk, hbbk⟩
  obtain rfl : nf = nn := by have := LFbk.out; have := HNF.out; omega
  have F68 := Lib.hid (F61.out.step hbbk)
  have F69 := Lib.hid (F62.out.step hbbk)
  have F70 := Lib.hid (F63.out.step hbbk)
  have F71 := Lib.hid (F64.out.below hbbk)
  have F72 := Lib.hid (F65.out.below hbbk)
  have F73 := Lib.hid (F66.out.step hbbk)
  have H74 := Lib.hid (bt H67.out hbbk)
  clear F61 F62 F63 F64 F65 F66 H67
  clear hbbk
  go_wp2_with fail
  refine (eqIntSame F6j Fbk nf nf cf6j cfbk zs wbk HNF.out HNF.out (by unfold maxLen; omega) F72.out.reads SFbk.out.reads).mono ?_
  rintro e wbl ⟨rfl, hbbl⟩
  have F75 := Lib.hid (F68.out.step hbbl)
  have F76 := Lib.hid (F69.out.step hbbl)
  have F77 := Lib.hid (F70.out.step hbbl)
  have F78 := Lib.hid (F71.out.below hbbl)
  have F79 := Lib.hid (F72.out.below hbbl)
  have F80 := Lib.hid (F73.out.step hbbl)
  have H81 := Lib.hid (bt H74.out hbbl)
  clear F68 F69 F70 F71 F72 F73 H74
  clear hbbl LFbk SFbk
  have f0 := F77.out.f0
  have f1 := F77.out.f1
  go_wp2_with fail
  refine (markDisk A5 C5 n5 c5 m5 d5 w4.heap.size w5.heap.size ss ws wbl L5.out M5.out BR.out.2.2.1 BR.out.2.2.2 F77.out.s F77.out.r (Nat.le_of_lt F77.out.box.lt)).mono ?_
  rintro e wc ⟨rfl, Tc, Uc, hbc⟩
  have HLo : Hid (w4.heap.size ≤ wbl.heap.size) := Lib.hid (Nat.le_trans Q1.out (Nat.le_of_lt F77.out.box.lt))
  have HLw : Hid (w.heap.size ≤ w4.heap.size) := Lib.hid (by have := Q0.out; have := Z3.out; omega)
  have XB := Lib.hid (F77.out.box.btw hbc (.inr (Nat.le_refl _)))
  have F82 := Lib.hid (F75.out.btw hbc (.inl (by have := Q0.out; have := Z3.out; have := Q1.out; have := Z5.out; have := Q2.out; have := Q3.out; have := Q4.out; omega)))
  have F83 := Lib.hid (F76.out.btw hbc (.inl (by have := Q0.out; have := Z3.out; have := Q1.out; have := Z5.out; have := Q2.out; have := Q3.out; have := Q4.out; omega)) (.inl (by have := Q0.out; have := Z3.out; have := Q1.out; have := Z5.out; have := Q2.out; have := Q3.out; have := Q4.out; omega)))
  have F84 := Lib.hid (F78.out.btw hbc (.inr (by have := Q0.out; have := Z3.out; have := Q1.out; have := Z5.out; have := Q2.out; have := Q3.out; have := Q4.out; omega)))
  have F85 := Lib.hid (F79.out.btw hbc (.inr (by have := Q0.out; have := Z3.out; have := Q1.out; have := Z5.out; have := Q2.out; have := Q3.out; have := Q4.out; omega)))
  have F86 := Lib.hid (F80.out.btw hbc (.inr (by have := Q0.out; have := Z3.out; have := Q1.out; have := Z5.out; have := Q2.out; have := Q3.out; have := Q4.out; omega)) (.inr (by have := Q0.out; have := Z3.out; have := Q1.out; have := Z5.out; have := Q2.out; have := Q3.out; have := Q4.out; omega)))
  have H87 := Lib.hid (H81.out.trans ((hbc.below HLo.out).mono HLw.out))
  clear F75 F76 F77 F78 F79 F80 H81
  clear f0 f1 hbc Tc Uc XB HLo HLw
  generalize hk : 1 + n5 + m5 * 2 = kk
  have hk1 : 1 ≤ kk := by omega
  have hk2 : kk + k ≤ 549755813888 := by have := BR.out.2.2; omega
  clear hk
  go_wp2_with fail
  refine (markStringS F6i k cf6i kk w6.heap.size w6i.heap.size ps wc HNK.out hk1 (by omega) (by omega) F84.out).mono ?_
  rintro e wci ⟨rfl, -, hbci⟩
  have HLo : Hid (w6.heap.size ≤ wc.heap.size) := Lib.hid (by have := F86.out.box.lt; have := Q2.out; have := Q3.out; have := Q4.out; omega)
  have HLw : Hid (w.heap.size ≤ w6.heap.size) := Lib.hid (by have := Q0.out; have := Z3.out; have := Q1.out; have := Z5.out; have := Q2.out; have := Q3.out; have := Q4.out; omega)
  have F88 := Lib.hid (F82.out.btw hbci (.inl (by have := Q0.out; have := Z3.out; have := Q1.out; have := Z5.out; have := Q2.out; have := Q3.out; have := Q4.out; omega)))
  have F89 := Lib.hid (F83.out.btw hbci (.inl (by have := Q0.out; have := Z3.out; have := Q1.out; have := Z5.out; have := Q2.out; have := Q3.out; have := Q4.out; omega)) (.inl (by have := Q0.out; have := Z3.out; have := Q1.out; have := Z5.out; have := Q2.out; have := Q3.out; have := Q4.out; omega)))
  have F90 := Lib.hid (F85.out.btw hbci (.inr (Nat.le_refl _)))
  have F91 := Lib.hid (F86.out.btw hbci (.inr (by have := Q0.out; have := Z3.out; have := Q1.out; have := Z5.out; have := Q2.out; have := Q3.out; have := Q4.out; omega)) (.inr (by have := Q0.out; have := Z3.out; have := Q1.out; have := Z5.out; have := Q2.out; have := Q3.out; have := Q4.out; omega)))
  have H92 := Lib.hid (H87.out.trans ((hbci.below HLo.out).mono HLw.out))
  clear F82 F83 F84 F85 F86 H87
  clear hbci HLo HLw
  generalize hk3 : kk + k = k3 at hk2
  have hk4 : 1 ≤ k3 := by omega
  clear hk3 hk1
  go_wp2_with fail
  refine (markIntS F6j nf cf6j k3 w6i.heap.size w6j.heap.size zs wci HNF.out hk4 (by omega) (by omega) F90.out).mono ?_
  rintro e wcj ⟨rfl, hbcj⟩
  have HLo : Hid (w6i.heap.size ≤ wci.heap.size) := Lib.hid (by have := F91.out.box.lt; have := Q2.out; have := Q3.out; have := Q4.out; omega)
  have HLw : Hid (w.heap.size ≤ w6i.heap.size) := Lib.hid (by have := Q0.out; have := Z3.out; have := Q1.out; have := Z5.out; have := Q2.out; have := Q3.out; have := Q4.out; omega)
  have F93 := Lib.hid (F88.out.btw hbcj (.inl (by have := Q0.out; have := Z3.out; have := Q1.out; have := Z5.out; have := Q2.out; have := Q3.out; have := Q4.out; omega)))
  have F94 := Lib.hid (F89.out.btw hbcj (.inl (by have := Q0.out; have := Z3.out; have := Q1.out; have := Z5.out; have := Q2.out; have := Q3.out; have := Q4.out; omega)) (.inl (by have := Q0.out; have := Z3.out; have := Q1.out; have := Z5.out; have := Q2.out; have := Q3.out; have := Q4.out; omega)))
  have F95 := Lib.hid (F91.out.btw hbcj (.inr (by have := Q0.out; have := Z3.out; have := Q1.out; have := Z5.out; have := Q2.out; have := Q3.out; have := Q4.out; omega)) (.inr (by have := Q0.out; have := Z3.out; have := Q1.out; have := Z5.out; have := Q2.out; have := Q3.out; have := Q4.out; omega)))
  have H96 := Lib.hid (H92.out.trans ((hbcj.below HLo.out).mono HLw.out))
  clear F88 F89 F90 F91 H92
  clear hbcj HLo HLw
  generalize hk5 : k3 + nf = k5
  clear hk5 hk4 hk2
  have hk0 : ¬ (k5 : Int) < 0 := by omega
  have f0 := F95.out.f0
  have f1 := F95.out.f1
  have f2 := F94.out.f0
  have f3 := F94.out.f1
  go_wp2_with fail
  refine (eqDiskSame A7 A3 C7 C3 n7 n3 m7 m3 c7 c3 d7 d3 rs rw wcj L7.out L3.out M7.out M3.out (by have := BR.out.2.1; unfold maxLen; omega) (by have := BR.out.2.1; unfold maxLen; omega) F95.out.s.reads F94.out.s.reads F95.out.r.reads F94.out.r.reads).mono ?_
  rintro e wd ⟨rfl, hbd⟩
  have F97 := Lib.hid (F93.out.step hbd)
  have F98 := Lib.hid (F94.out.step hbd)
  have F99 := Lib.hid (F95.out.step hbd)
  have H100 := Lib.hid (bt H96.out hbd)
  clear F93 F94 F95 H96
  clear hbd f0 f1 f2 f3
  have f0 := F99.out.f0
  have f1 := F99.out.f1
  go_wp2_with fail
  refine (markDisk A7 C7 n7 c7 m7 d7 w6j.heap.size w7.heap.size rs rw wd L7.out M7.out BR.out.2.1.1 BR.out.2.1.2 F99.out.s F99.out.r (Nat.le_of_lt F99.out.box.lt)).mono ?_
  rintro e we ⟨rfl, Te, Ue, hbe⟩
  have HLo : Hid (w6j.heap.size ≤ wd.heap.size) := Lib.hid (Nat.le_trans Q2.out (Nat.le_of_lt F99.out.box.lt))
  have HLw : Hid (w.heap.size ≤ w6j.heap.size) := Lib.hid (by have := Q0.out; have := Z3.out; have := Q1.out; have := Z5.out; have := Q2.out; have := Q3.out; have := Q4.out; omega)
  have GB := Lib.hid (F99.out.box.btw hbe (.inr (Nat.le_refl _)))
  have F101 := Lib.hid (F97.out.btw hbe (.inl (by have := Q0.out; have := Z3.out; have := Q1.out; have := Z5.out; have := Q2.out; have := Q3.out; have := Q4.out; omega)))
  have F102 := Lib.hid (F98.out.btw hbe (.inl (by have := Q0.out; have := Z3.out; have := Q1.out; have := Z5.out; have := Q2.out; have := Q3.out; have := Q4.out; omega)) (.inl (by have := Q0.out; have := Z3.out; have := Q1.out; have := Z5.out; have := Q2.out; have := Q3.out; have := Q4.out; omega)))
  have H103 := Lib.hid (H100.out.trans ((hbe.below HLo.out).mono HLw.out))
  clear F97 F98 F99 H100
  clear f0 f1 hbe HLo HLw
  generalize hq : 1 + n7 + m7 * 2 = q
  have HQ := Lib.hid hq
  clear hq
  have hq0 : ¬ (q : Int) < 0 := by omega
  have hqq : ((q : Int) != (q : Int)) = false := by simp
  have f0 : we.cell? ⟨w7.heap.size, 0, none⟩ = some (.slice A7 n7 c7) := GB.out.cell 0 rfl
  have f1 : we.cell? ⟨w7.heap.size, 1, none⟩ = some (.slice C7 m7 d7) := GB.out.cell 1 rfl
  go_wp2_with fail
  refine (heldDisk A7 C7 n7 c7 m7 d7 we BR.out.2.1.1 BR.out.2.1.2 Te.out.reads Ue.out.reads).mono ?_
  rintro e wf ⟨rfl, hbwf⟩
  rw [HQ.out]
  have F104 := Lib.hid (F101.out.step hbwf)
  have F105 := Lib.hid (F102.out.step hbwf)
  have F106 := Lib.hid (GB.out.step hbwf)
  have F107 := Lib.hid (Te.out.below hbwf)
  have F108 := Lib.hid (Ue.out.below hbwf)
  have H109 := Lib.hid (bt H103.out hbwf)
  clear F101 F102 GB Te Ue H103
  clear hbwf f0 f1
  have f0 : wf.cell? ⟨w.heap.size, 0, none⟩ = some (.slice A n c) := F104.out.cell 0 rfl
  have f1 : wf.cell? ⟨w.heap.size, 1, none⟩ = some (.slice C m d) := F104.out.cell 1 rfl
  go_wp2_with fail
  refine (HTo.out _ H109.out (by omega) (by omega)).mono ?_
  rintro e wg ⟨Ag, ng, cg, Cg, mg, dg, rfl, Lg, Mg, Sg, Rg, hbg⟩
  have F110 := Lib.hid (F104.out.step hbg)
  have F111 := Lib.hid (F105.out.step hbg)
  have F112 := Lib.hid (F106.out.step hbg)
  have F113 := Lib.hid (F107.out.below hbg)
  have F114 := Lib.hid (F108.out.below hbg)
  have H115 := Lib.hid (bt H109.out hbg)
  clear F104 F105 F106 F107 F108 H109
  clear hbg f0 f1
  go_wp2_with fail
  refine (HToP.out _ H115.out).mono ?_
  rintro e wgi ⟨Fgi, cfgi, rfl, SFgi, hbgi⟩
  have Sgi := Lib.hid (Sg.out.below hbgi)
  have Rgi := Lib.hid (Rg.out.below hbgi)
  have F116 := Lib.hid (F110.out.step hbgi)
  have F117 := Lib.hid (F111.out.step hbgi)
  have F118 := Lib.hid (F112.out.step hbgi)
  have F119 := Lib.hid (F113.out.below hbgi)
  have F120 := Lib.hid (F114.out.below hbgi)
  have H121 := Lib.hid (bt H115.out hbgi)
  clear F110 F111 F112 F113 F114 H115
  clear hbgi
  go_wp2_with fail
  refine (HToI.out _ H121.out).mono ?_
  rintro e wgj ⟨Fgj, nn, cfgj, rfl, LFgj, SFgj, hbgj⟩
  obtain rfl : nf = nn := by have := LFgj.out; have := HNF.out; omega
  have Sgj := Lib.hid (Sgi.out.below hbgj)
  have Rgj := Lib.hid (Rgi.out.below hbgj)
  have SFgk := Lib.hid (SFgi.out.below hbgj)
  have F122 := Lib.hid (F116.out.step hbgj)
  have F123 := Lib.hid (F117.out.step hbgj)
  have F124 := Lib.hid (F118.out.step hbgj)
  have F125 := Lib.hid (F119.out.below hbgj)
  have F126 := Lib.hid (F120.out.below hbgj)
  have H127 := Lib.hid (bt H121.out hbgj)
  clear F116 F117 F118 F119 F120 H121
  clear hbgj LFgj
  go_wp2_with fail
  refine (HImpl.out wgj Ag ng cg Cg mg dg Fgi cfgi Fgj cfgj Lg.out Mg.out (by have := Lg.out; have := HL.out.1; unfold maxLen; omega) (by have := Mg.out; have := HL.out.2; unfold maxLen; omega) Sgj.out.reads Rgj.out.reads SFgk.out.reads SFgj.out.reads).mono ?_
  rintro e wh ⟨Ah, nh, ch, Ch, mh, dh, rfl, Lh, Mh, Sh, Rh, hbh⟩
  have F128 := Lib.hid (F122.out.step hbh)
  have F129 := Lib.hid (F123.out.step hbh)
  have F130 := Lib.hid (F124.out.step hbh)
  have F131 := Lib.hid (F125.out.below hbh)
  have F132 := Lib.hid (F126.out.below hbh)
  have H133 := Lib.hid (bt H127.out hbh)
  clear F122 F123 F124 F125 F126 H127
  clear hbh Lg Mg Sg Rg
  have hba := alloc_below wh (.cells #[.slice Ah nh ch, .slice Ch mh dh] 30)
  have Dh := Lib.hid (BD.new (n := nh) (c := ch) (m := mh) (d := dh) Sh.out Rh.out)
  have F134 := Lib.hid (F128.out.step hba)
  have F135 := Lib.hid (F129.out.step hba)
  have F136 := Lib.hid (F130.out.step hba)
  have F137 := Lib.hid (F131.out.below hba)
  have F138 := Lib.hid (F132.out.below hba)
  have H139 := Lib.hid (bt H133.out hba)
  clear F128 F129 F130 F131 F132 H133
  clear hba Sh Rh
  obtain ⟨wi, hwi⟩ : ∃ wi, wi = wh.alloc (.cells #[.slice Ah nh ch, .slice Ch mh dh] 30) := ⟨_, rfl⟩
  rw [← hwi] at F134 F135 F136 F137 F138 H139 Dh
  have HWi := Lib.hid hwi
  have f0 := F135.out.f0
  have f1 := F135.out.f1
  rw [hwi] at f0 f1
  clear hwi
  have Bh : Hid (nh ≤ maxLen ∧ mh ≤ maxLen) := by have a1 := HB2.out; have a2 := Lh.out; have a3 := Mh.out; exact Lib.hid (by unfold maxLen; omega)
  go_wp2_with fail
  rw [← HWi.out]
  clear f0 f1 HWi
  refine (eqDiskSame Ah A3 Ch C3 nh n3 mh m3 ch c3 dh d3 rs rw wi Lh.out L3.out Mh.out M3.out Bh.out.1 Bh.out.2 Dh.out.s.reads F135.out.s.reads Dh.out.r.reads F135.out.r.reads).mono ?_
  rintro e wj ⟨rfl, hbj⟩
  have F140 := Lib.hid (F134.out.step hbj)
  have F141 := Lib.hid (F135.out.step hbj)
  have F142 := Lib.hid (F136.out.step hbj)
  have F143 := Lib.hid (F137.out.below hbj)
  have F144 := Lib.hid (F138.out.below hbj)
  have H145 := Lib.hid (bt H139.out hbj)
  clear F134 F135 F136 F137 F138 H139
  clear hbj Dh
  have f0 : wj.cell? ⟨w7.heap.size, 0, none⟩ = some (.slice A7 n7 c7) := F142.out.cell 0 rfl
  have f1 : wj.cell? ⟨w7.heap.size, 1, none⟩ = some (.slice C7 m7 d7) := F142.out.cell 1 rfl
  go_wp2_with fail
  refine (heldDisk A7 C7 n7 c7 m7 d7 wj BR.out.2.1.1 BR.out.2.1.2 F143.out.reads F144.out.reads).mono ?_
  rintro e wk ⟨rfl, hbwk⟩
  rw [HQ.out]
  have F146 := Lib.hid (F140.out.step hbwk)
  have F147 := Lib.hid (F141.out.step hbwk)
  have F148 := Lib.hid (F142.out.step hbwk)
  have F149 := Lib.hid (F143.out.below hbwk)
  have F150 := Lib.hid (F144.out.below hbwk)
  have H151 := Lib.hid (bt H145.out hbwk)
  clear F140 F141 F142 F143 F144 H145
  clear hbwk f0 f1
  go_wp2
  go_ret
  exact ⟨rfl, H151.out⟩

/-! The row's step. -/
open Go.ChangeShapes Go.WideShapes Go.ChangeAt
open Go.ChangeMaps (open_string shut_string)
set_option maxRecDepth 100000 in
theorem own : ownKnob Try.prog.godebug = none := by kernel_rfl
set_option maxRecDepth 100000 in
theorem laidOut : laidOutB Try.prog = true := factLaid
set_option maxRecDepth 100000 in
theorem lifted (os : Os) (started : os.Started) (H : Type) (enc : TypeId × Value → H) :
    ReturnsInHanded {} Try.checked os 4 .any (Rows.fnExactCommitTornSpec.pre6 enc Try.prog Try.f4 Rows.fnExactCommitTornRow.domain false) (Rows.fnExactCommitTornSpec.post enc Try.prog Try.f4 false true false false) := by
  refine returnsInHanded_of_change (C := Try.checked) own started (by kernel_rfl) Try.func4
    (ChangeSpec.witness6 (enc := enc) (C := Try.checked) false ⟨#[], #[.agg #[.slice none 0 0, .slice none 0 0], .slice none 0 0, .int .i64 0, .slice none 0 0], []⟩ 8 (by kernel_rfl) (by kernel_rfl) (by kernel_rfl) (by kernel_rfl)) ?_
  intro W base args ds gs before hval0 hW hcnd _
  have hval : ∀ (j : Nat) t v, Try.f4.params[j]? = some t → args[j]? = some v → Value.okWide Try.prog W .any base t v := hval0
  have hW' := hW
  obtain ⟨p, q, hA0, hV, rfl, hfz, hnd⟩ := hW
  have hA : DataW.TrodAll enc Try.prog W 0 (fun _ => true) true Try.f4.params.toList args.toList ds p := hA0
  rw [Try.params4] at hA hval
  obtain ⟨v0, vs0, d0, ds0, p0, q0, hargs, rfl, rfl, h0, r0⟩ := trodAll_cons hA
  obtain ⟨v1, vs1, d1, ds1, p1, q1, rfl, rfl, rfl, h1, r1⟩ := trodAll_cons r0
  obtain ⟨v2, vs2, d2, ds2, p2, q2, rfl, rfl, rfl, h2, r2⟩ := trodAll_cons r1
  obtain ⟨v3, vs3, d3, ds3, p3, q3, rfl, rfl, rfl, h3, r3⟩ := trodAll_cons r2
  obtain ⟨rfl, rfl, rfl⟩ := trodAll_nil r3
  obtain rfl : args = #[v0, v1, v2, v3] := by cases args; simp_all
  obtain ⟨rfl, rfl⟩ := trodVars_none hV
  have k0 := h0
  have lt0 : ∀ x ∈ p0, x.block < W.heap.size := by obtain ⟨m, hm⟩ := k0; exact DataW.trod_lt m _ _ _ hm
  obtain ⟨A0, n0, c0, C0, m0, e0, ss0, ws0, rfl, hl0, hm0, hn0, hmm0, hs0, hw0, fs0, fw0⟩ := open_disk (hval 0 25 v0 rfl rfl) h0
  have k1 := h1
  have lt1 : ∀ x ∈ p1, x.block < W.heap.size := by obtain ⟨m, hm⟩ := k1; exact DataW.trod_lt m _ _ _ hm
  obtain ⟨f1, hf1⟩ := h1
  obtain ⟨a1, l1, c1, rfl⟩ := okWide_slice Try.underlying22 (hval 1 22 v1 rfl rfl)
  obtain ⟨A1, n1, cc1, zs1, e1, hl1, hn1, hs1, fs1⟩ := open_strs Try.underlying22 Try.underlying9 cellsStr (by simpa [Value.cells] using hf1)
  injection e1 with e1 e2 e3; subst e1 e2 e3
  obtain ⟨a2, rfl, rfl, rfl, w2⟩ := open_int Try.underlying3 (hval 2 3 v2 rfl rfl) h2
  have k3 := h3
  have lt3 : ∀ x ∈ p3, x.block < W.heap.size := by obtain ⟨m, hm⟩ := k3; exact DataW.trod_lt m _ _ _ hm
  obtain ⟨f3, hf3⟩ := h3
  obtain ⟨a3, l3, c3, rfl⟩ := okWide_slice Try.underlying39 (hval 3 39 v3 rfl rfl)
  obtain ⟨A3, n3, cc3, zs3, e3, hl3, hn3, hs3, wz3⟩ := open_ints64 Try.underlying39 Try.underlying3 cellsInt (by simpa [Value.cells] using hf3)
  injection e3 with e1 e2 e3; subst e1 e2 e3
  clear hA0 hval0
  refine (walk A0 C0 n0 c0 m0 e0 ss0 ws0 a1 l1 c1 zs1 a2 a3 l3 c3 zs3 W hl0 hm0 hn0 hmm0 hs0 hw0 fs0 fw0 hl1 hn1 hs1 fs1 w2 hl3 hn3 hs3 wz3).mono fun e W' ⟨he, bel⟩ => ?_
  subst he
  exact ⟨_, rfl, _, _, _, [], _, [], hW', trodAll_mk1 (shut_bool Try.underlying4 _), (trodAll_cons_mk (Below.trod laidOut (by kernel_rfl) (of_decide_eq_true (by kernel_rfl)) k0 bel lt0) (trodAll_cons_mk (Below.trod laidOut (by kernel_rfl) (of_decide_eq_true (by kernel_rfl)) k1 bel lt1) (trodAll_cons_mk (shut_int Try.underlying3 w2) (trodAll_cons_mk (Below.trod laidOut (by kernel_rfl) (of_decide_eq_true (by kernel_rfl)) k3 bel lt3) trodAll_mk0)))), rfl, bel.frame _, fun h => by cases h⟩

theorem k0 : (Rows.fnExactCommitTornRow.wf (OpenSpec.ofChange Rows.fnExactCommitTornSpec)) = true := by kernel_rfl
set_option maxRecDepth 100000 in
theorem k3 : (Try.f4.params.all (Try.prog.readableRec ·)) = true := by kernel_rfl
set_option maxRecDepth 100000 in
theorem k4 : (namedTie Try.prog Rows.fnExactCommitTornRow.named Rows.fnExactCommitTornSpec.vars) = true := by kernel_rfl
theorem k5 : ((Rows.fnExactCommitTornRow.stops == [])) = true := by kernel_rfl
set_option maxRecDepth 100000 in
theorem k6 : ((Try.prog.stops == [])) = true := by kernel_rfl
theorem k7 : ((Rows.fnExactCommitTornRow.knobs == [])) = true := by kernel_rfl
set_option maxRecDepth 100000 in
theorem k8 : ((Try.prog.stopKnobs == [])) = true := by kernel_rfl
set_option maxRecDepth 100000 in
theorem k9 : ((Rows.fnExactCommitTornRow.inPlace == Try.prog.inPlace 4)) = true := by kernel_rfl
set_option maxRecDepth 100000 in
theorem k10 : ((Rows.fnExactCommitTornRow.unfollowed == Try.prog.unfollowed 4)) = true := by kernel_rfl
set_option maxRecDepth 100000 in
theorem k11 : ((Rows.fnExactCommitTornRow.recurses == Try.prog.recurses 4)) = true := by kernel_rfl
set_option maxRecDepth 100000 in
theorem k12 : ((Rows.fnExactCommitTornRow.named == Try.prog.varsNamed 4)) = true := by kernel_rfl
set_option maxRecDepth 100000 in
theorem k13 : ((Rows.fnExactCommitTornRow.maps == (Try.f4.params.toList ++ Rows.fnExactCommitTornSpec.plain.varTypes Try.prog).any (Try.prog.mapsRec ·))) = true := by kernel_rfl
set_option maxRecDepth 100000 in
theorem k14 : ((Rows.fnExactCommitTornRow.ifaces == (Try.f4.params.toList ++ Rows.fnExactCommitTornSpec.plain.varTypes Try.prog).any (Try.prog.ifacesRec ·))) = true := by kernel_rfl
set_option maxRecDepth 100000 in
theorem k15 : ((Rows.fnExactCommitTornRow.mapsOut == Try.prog.mapsAmong Try.f4.resultTypes.toList)) = true := by kernel_rfl
set_option maxRecDepth 100000 in
theorem k16 : ((Rows.fnExactCommitTornRow.loops == (Try.f4.params.toList ++ Rows.fnExactCommitTornSpec.plain.varTypes Try.prog).any (Try.prog.loopsFrom ·))) = true := by kernel_rfl
set_option maxRecDepth 100000 in
theorem k17 : ((Rows.fnExactCommitTornRow.wideKeys == (Try.f4.params.toList ++ Rows.fnExactCommitTornSpec.plain.varTypes Try.prog ++ Try.f4.resultTypes.toList).any (Try.prog.wideKeysFrom ·))) = true := by kernel_rfl
set_option maxRecDepth 100000 in
theorem k18 : (Rows.fnExactCommitTornSpec.vars.all (Try.prog.varReadable ·)) = true := by kernel_rfl
set_option maxRecDepth 100000 in
theorem k19 : (Try.f4.resultTypes.all (fun t => Try.prog.readableRec t && decide (t < Try.prog.types.size))) = true := by kernel_rfl
set_option maxRecDepth 100000 in
theorem k20 : ((Rows.fnExactCommitTornRow.ifacesOut == Try.f4.resultTypes.toList.any (Try.prog.ifacesRec ·))) = true := by kernel_rfl
set_option maxRecDepth 100000 in
theorem k21 : ((Rows.fnExactCommitTornRow.loopsOut == Try.f4.resultTypes.toList.any (Try.prog.loopsFrom ·))) = true := by kernel_rfl
set_option maxRecDepth 100000 in
theorem k22 : ((Rows.fnExactCommitTornRow.plainKeys == Try.prog.plainKeys)) = true := by kernel_rfl
theorem k23 : (Rows.fnExactCommitTornRow.shortTexts.isNone) = true := by kernel_rfl
set_option maxRecDepth 100000 in
theorem k28 : ((Rows.fnExactCommitTornRow.kinds == (if Rows.fnExactCommitTornRow.domain.isEmpty then [] else Try.f4.params.toList.map fun t => match Try.prog.underlying t with | some (.int k) => some k | _ => none))) = true := by kernel_rfl
theorem k29 : ((Rows.fnExactCommitTornRow.pinned == Rows.fnExactCommitTornRow.pinnedBy)) = true := by kernel_rfl
set_option maxRecDepth 100000 in
theorem k30 : ((Rows.fnExactCommitTornRow.veiled == (Try.f4.params.toList ++ Rows.fnExactCommitTornSpec.plain.varTypes Try.prog ++ Try.f4.resultTypes.toList).any (Try.prog.veiledRec ·))) = true := by kernel_rfl
set_option maxRecDepth 100000 in
theorem k31 : (Rows.fnExactCommitTornRow.veiledFits Try.prog Try.f4.params.toList (Try.f4.params.toList ++ Rows.fnExactCommitTornSpec.plain.varTypes Try.prog ++ Try.f4.resultTypes.toList)) = true := by kernel_rfl
set_option maxRecDepth 100000 in
theorem facts : joinedFacts Try.prog 4 Try.f4 Rows.fnExactCommitTornSpec Rows.fnExactCommitTornRow = true := (and_mk (and_mk (and_mk (and_mk (and_mk (and_mk (and_mk (and_mk (and_mk (and_mk (and_mk (and_mk (and_mk (and_mk (and_mk (and_mk (and_mk (and_mk (and_mk (and_mk (and_mk (and_mk (and_mk (and_mk (and_mk (and_mk (and_mk (and_mk (and_mk (and_mk (and_mk k0 factLaid) factRowed) k3) k4) k5) k6) k7) k8) k9) k10) k11) k12) k13) k14) k15) k16) k17) k18) k19) k20) k21) k22) k23) factHeard) factEnter) factLift) factMake) k28) k29) k30) k31)
set_option maxRecDepth 100000 in
theorem named : Try.prog.funcNamed Rows.fnExactCommitTornRow.func = some 4 := by kernel_rfl
set_option maxRecDepth 100000 in
theorem inst : Try.f4.isInstance Try.prog Rows.fnExactCommitTornRow.origin Rows.fnExactCommitTornRow.targs := of_decide_eq_true (by kernel_rfl)
set_option maxRecDepth 100000 in
theorem over : Rows.fnExactCommitTornRow.holds Try.pinned (OpenSpec.ofChange Rows.fnExactCommitTornSpec) :=
  OpenClaim.holds_of_wide 4 Try.f4 rfl rfl rfl rfl rfl rfl rfl ⟨rfl, rfl, rfl, rfl, rfl⟩ rfl rfl rfl rfl rfl named Try.func4 facts
    inst (by unfold Func.isWrapper; first | (rw [if_pos (by decide +kernel)]; kernel_rfl) | (rw [if_neg (by decide +kernel)]; exact ⟨rfl, rfl⟩))
    (fun os started H enc _ => lifted os started H enc)
theorem proved : Rows.FnExactCommitTornSaid := over
#print axioms proved
end Go.Proofs.Ytlfmniekbiffjaa.fnExactCommitTorn
