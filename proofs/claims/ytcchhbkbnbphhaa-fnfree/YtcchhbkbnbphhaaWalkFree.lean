/- The law FnFree, walked. Written by gen_walkcommit.py. -/
import Derived.Test.YtcchhbkbnbphhaaM10
import Derived.Test.YtcchhbkbnbphhaaM3
import Derived.Test.YtcchhbkbnbphhaaM7
import Derived.Test.YtcchhbkbnbphhaaM8
import Derived.Test.YtcchhbkbnbphhaaFormatImpl
namespace Go.Proofs.Ytcchhbkbnbphhaa
open Go.RowKit

set_option maxRecDepth 100000 in
theorem sameIntsF (A A' : Option Addr) (n c c' : Nat) (zs : List Int) (w : World) (hl : zs.length = n) (hn : n ≤ maxLen) (h : IntL w A zs) (h' : IntL w A' zs) :
    Calls Try.prog 23 #[.slice A n c, .slice A' n c'] w fun e w' => e = .returned (.bool true) ∧ Below w.heap.size w w' := by
  unfold maxLen at hn
  have HL := Lib.hid hl
  have H := Lib.hid h
  have H' := Lib.hid h'
  clear hl h h'
  have hb : ((n : Int) != (n : Int)) = false := by simp
  go_enter Try.func23, Try.ntmps23
  go_wp2
  go_loopw [5] (fun i wr => ∃ k : Nat, k ≤ n ∧ i = .int .i64 k ∧ Below w.heap.size w wr) (fun i _ => n - (intOf i).toNat)
  case atStart => exact ⟨0, Nat.zero_le _, rfl, Below.refl _ _⟩
  case round =>
    obtain ⟨k, hk, rfl, hbw⟩ := hrel
    by_cases hlt : k < n
    · obtain ⟨b, off, rfl, hc⟩ := (H.out.below hbw) k (by rw [HL.out]; exact hlt)
      obtain ⟨b', off', rfl, hc'⟩ := (H'.out.below hbw) k (by rw [HL.out]; exact hlt)
      generalize zs.getD k 0 = x at hc hc'
      have hi : (k : Int) < (n : Int) := by omega
      have hq1 : (x != x) = false := by simp
      go_wp2
      go_quiet (fail)
      go_wp2
      go_roundw
      case rel => exact ⟨k + 1, by omega, by go_num, below_drewN hbw _⟩
      case measure => simp [intOf]; omega
    · go_wp2
      go_ret
      exact ⟨rfl, hbw⟩

set_option maxRecDepth 100000 in
set_option maxHeartbeats 16000000 in
theorem walkFree (A : Option Addr) (n c : Nat) (zs : List Nat) (A' : Option Addr) (n' c' : Nat) (zs' : List Nat) (w : World) (hl : zs.length = n) (hn : n ≤ maxLen) (h : ByB w w.heap.size A zs) (hl' : zs'.length = n') (hn' : n' ≤ maxLen) (h' : ByB w w.heap.size A' zs') :
    Calls Try.prog 6 #[.slice A n c, .slice A' n' c'] w fun e w' => e = .returned (.bool true) ∧ Below w.heap.size w w' := by
  have HN1 := Lib.hid hn
  have HN2 := Lib.hid hn'
  unfold maxLen at hn hn'
  by_cases hle : 1048576 < n
  · have i1 : (1048576 : Int) < (n : Int) := by omega
    clear hle
    go_enter Try.func6, Try.ntmps6
    go_wp2
    go_ret
    exact ⟨rfl, Below.refl _ _⟩
  have i1 : ¬ (1048576 : Int) < (n : Int) := by omega
  by_cases hle' : 1048576 < n'
  · have i2 : (1048576 : Int) < (n' : Int) := by omega
    clear hle'
    go_enter Try.func6, Try.ntmps6
    go_wp2
    go_ret
    exact ⟨rfl, Below.refl _ _⟩
  have i2 : ¬ (1048576 : Int) < (n' : Int) := by omega
  have HFm := Lib.hid (formDrawn A n c zs w HN1.out hl h)
  have HPd := Lib.hid (fun W (hb : Below w.heap.size w W) => pagesDrawn A' n' c' zs' W HN2.out hl' (h'.step hb))
  have HPs := Lib.hid (And.intro (pagesX_len zs' n') (pagesX_size zs' n'))
  generalize pagesX zs' n' = ps at HPd HPs
  have M17 : Hid ((17 : Nat) ≤ maxLen ∧ (48 : Nat) ≤ maxLen ∧ (0 : Nat) ≤ maxLen) := Lib.hid (by unfold maxLen; omega)
  clear hl hl' hn hn' h h' hle hle' HN1 HN2
  go_enter Try.func6, Try.ntmps6
  go_wp2_with fail
  refine HFm.out.mono ?_
  rintro e w1 ⟨ss, A1, n1, c1, C1, d1, g, z, sl, rfl, L1, S1, FDh, k1⟩
  obtain ⟨fd, hg4⟩ := FDh.out
  obtain rfl : n1 = 48 := by rw [← L1.out]; exact fd.small.1
  have HB := Lib.hid k1
  have HFD := Lib.hid (And.intro fd hg4)
  clear HFm FDh fd hg4 k1
  obtain ⟨V1, hW⟩ : ∃ V1, V1 = w1.alloc (.cells #[.slice A1 48 c1, .slice C1 0 d1] 26) := ⟨_, rfl⟩
  have ka : Below w1.heap.size w1 V1 := by rw [hW]; exact alloc_below _ _
  replace S1 := Lib.hid (S1.out.below ka)
  replace HB := Lib.hid (bt HB.out ka)
  have X5 : Hid (Box V1 w1.heap.size 26 #[.slice A1 48 c1, .slice C1 0 d1]) := Lib.hid (by rw [hW]; exact Box.new _ _ _)
  clear ka
  have HNw := Lib.hid (fun W (q : StrL W A1 ss) => implNewest A1 C1 48 c1 0 d1 ss [] W L1.out rfl M17.out.2.1 M17.out.2.2 q (wrl_nil _ _) HFD.out.1.fit fitW_nil)
  rw [HFD.out.1.new] at HNw
  have fX50 := X5.out.cell 0 rfl; have fX51 := X5.out.cell 1 rfl
  rw [hW] at fX50 fX51
  go_wp2_with fail
  rw [← hW]
  clear hW
  obtain ⟨D5, hD⟩ : ∃ D5, D5 = w1.heap.size := ⟨_, rfl⟩
  rw [← hD] at X5 ⊢
  clear hD
  clear fX50 fX51
  refine (HNw.out _ S1.out).mono ?_
  rintro e w3 ⟨A2, n2, c2, rfl, L2, O2, k3⟩
  replace X5 := Lib.hid (X5.out.step k3)
  replace S1 := Lib.hid (S1.out.below k3)
  replace HB := Lib.hid (bt HB.out k3)
  clear k3
  have S2 := Lib.hid O2.out.reads
  obtain rfl : n2 = 17 := by rw [← L2.out]; exact (rootB_all HFD.out.1.root).2.1
  clear HNw O2
  obtain ⟨V2, hW⟩ : ∃ V2, V2 = w3.alloc (.cells #[.int .i64 g, .slice A2 17 c2] 31) := ⟨_, rfl⟩
  have ka : Below w3.heap.size w3 V2 := by rw [hW]; exact alloc_below _ _
  replace X5 := Lib.hid (X5.out.step ka)
  replace S1 := Lib.hid (S1.out.below ka)
  replace S2 := Lib.hid (S2.out.below ka)
  replace HB := Lib.hid (bt HB.out ka)
  have X6 : Hid (Box V2 w3.heap.size 31 #[.int .i64 g, .slice A2 17 c2]) := Lib.hid (by rw [hW]; exact Box.new _ _ _)
  clear ka
  have HFr := Lib.hid (fun W (q : StrL W A1 ss) => implFree A1 C1 48 c1 0 d1 ss [] W L1.out rfl M17.out.2.1 M17.out.2.2 q (wrl_nil _ _) HFD.out.1.fit fitW_nil)
  rw [HFD.out.1.free] at HFr
  have fX50 := X5.out.cell 0 rfl; have fX51 := X5.out.cell 1 rfl; have fX60 := X6.out.cell 0 rfl; have fX61 := X6.out.cell 1 rfl
  rw [hW] at fX50 fX51 fX60 fX61
  go_wp2_with fail
  rw [← hW]
  clear hW
  obtain ⟨D6, hD⟩ : ∃ D6, D6 = w3.heap.size := ⟨_, rfl⟩
  rw [← hD] at X6 ⊢
  clear hD
  clear fX50 fX51 fX60 fX61
  refine (HFr.out _ S1.out).mono ?_
  rintro e w4 ⟨A3, n3, c3, rfl, L3, O3, k4⟩
  replace X5 := Lib.hid (X5.out.step k4)
  replace X6 := Lib.hid (X6.out.step k4)
  replace S1 := Lib.hid (S1.out.below k4)
  replace S2 := Lib.hid (S2.out.below k4)
  replace HB := Lib.hid (bt HB.out k4)
  clear k4
  have S3 := Lib.hid O3.out.reads
  obtain rfl : n3 = 29 := by rw [← L3.out]; exact HFD.out.1.free29
  clear HFr O3
  have HFr := Lib.hid (fun W (q : StrL W A1 ss) => specFree A1 C1 48 c1 0 d1 ss [] W L1.out rfl M17.out.2.1 M17.out.2.2 q (wrl_nil _ _) HFD.out.1.fit fitW_nil)
  rw [HFD.out.1.free] at HFr
  have fX50 := X5.out.cell 0 rfl; have fX51 := X5.out.cell 1 rfl; have fX60 := X6.out.cell 0 rfl; have fX61 := X6.out.cell 1 rfl
  go_wp2_with fail
  clear fX50 fX51 fX60 fX61
  refine (HFr.out _ S1.out).mono ?_
  rintro e w5 ⟨A4, n4, c4, rfl, L4, O4, k5⟩
  replace X5 := Lib.hid (X5.out.step k5)
  replace X6 := Lib.hid (X6.out.step k5)
  replace S1 := Lib.hid (S1.out.below k5)
  replace S2 := Lib.hid (S2.out.below k5)
  replace S3 := Lib.hid (S3.out.below k5)
  replace HB := Lib.hid (bt HB.out k5)
  clear k5
  have S4 := Lib.hid O4.out.reads
  obtain rfl : n4 = 29 := by rw [← L4.out]; exact HFD.out.1.free29
  clear HFr O4
  have fX50 := X5.out.cell 0 rfl; have fX51 := X5.out.cell 1 rfl; have fX60 := X6.out.cell 0 rfl; have fX61 := X6.out.cell 1 rfl
  go_wp2_with fail
  clear fX50 fX51 fX60 fX61
  refine (HPd.out _ HB.out).mono ?_
  rintro e w6 ⟨P, cp, rfl, SP, kp⟩
  replace X5 := Lib.hid (X5.out.step kp)
  replace X6 := Lib.hid (X6.out.step kp)
  replace S1 := Lib.hid (S1.out.below kp)
  replace S2 := Lib.hid (S2.out.below kp)
  replace S3 := Lib.hid (S3.out.below kp)
  replace S4 := Lib.hid (S4.out.below kp)
  replace HB := Lib.hid (bt HB.out kp)
  clear kp
  have HFo := Lib.hid (fun W (q : StrL W P ps) => implFormat P 17 cp ps W HPs.out.1 M17.out.1 q (fit_of HPs.out.2))
  have hfs : fmtS ps = fmtL ps ∧ pagesC ps = 0 := by
    have q := ask_ok (fmt_fd ps HPs.out.1 HPs.out.2).1 HPs.out.1 HPs.out.2
    have p0 : pagesC ps = 0 := by
      unfold askC at q
      by_cases e : pagesC ps = 0
      · exact e
      · rw [if_pos e] at q; exact q
    exact ⟨by unfold fmtS; rw [if_pos p0], p0⟩
  rw [hfs.1, hfs.2] at HFo
  clear hfs
  have HFF := Lib.hid (fmt_fd ps HPs.out.1 HPs.out.2)
  have fX50 := X5.out.cell 0 rfl; have fX51 := X5.out.cell 1 rfl; have fX60 := X6.out.cell 0 rfl; have fX61 := X6.out.cell 1 rfl
  go_wp2_with fail
  clear fX50 fX51 fX60 fX61
  refine (HFo.out _ SP.out).mono ?_
  rintro e w7 ⟨A5, n5, c5, C5, m5, d5, rfl, L5, M5, O5, -, k7⟩
  replace X5 := Lib.hid (X5.out.step k7)
  replace X6 := Lib.hid (X6.out.step k7)
  replace S1 := Lib.hid (S1.out.below k7)
  replace S2 := Lib.hid (S2.out.below k7)
  replace S3 := Lib.hid (S3.out.below k7)
  replace S4 := Lib.hid (S4.out.below k7)
  replace SP := Lib.hid (SP.out.below k7)
  replace HB := Lib.hid (bt HB.out k7)
  clear k7
  obtain rfl : m5 = 0 := M5.out.symm
  obtain rfl : n5 = 48 := by rw [← L5.out]; exact fmtL_len ps
  have S5 := Lib.hid O5.out.reads
  clear M5 O5 HFo
  obtain ⟨V3, hW⟩ : ∃ V3, V3 = w7.alloc (.cells #[.slice A5 48 c5, .slice C5 0 d5] 26) := ⟨_, rfl⟩
  have ka : Below w7.heap.size w7 V3 := by rw [hW]; exact alloc_below _ _
  replace X5 := Lib.hid (X5.out.step ka)
  replace X6 := Lib.hid (X6.out.step ka)
  replace S1 := Lib.hid (S1.out.below ka)
  replace S2 := Lib.hid (S2.out.below ka)
  replace S3 := Lib.hid (S3.out.below ka)
  replace S4 := Lib.hid (S4.out.below ka)
  replace SP := Lib.hid (SP.out.below ka)
  replace S5 := Lib.hid (S5.out.below ka)
  replace HB := Lib.hid (bt HB.out ka)
  have X13 : Hid (Box V3 w7.heap.size 26 #[.slice A5 48 c5, .slice C5 0 d5]) := Lib.hid (by rw [hW]; exact Box.new _ _ _)
  clear ka
  have HLd := Lib.hid (fun W (q : StrL W A5 (fmtL ps)) => implLoad A5 C5 48 c5 0 d5 (fmtL ps) [] W L5.out rfl M17.out.2.1 M17.out.2.2 q (wrl_nil _ _) HFF.out.1.fit fitW_nil)
  rw [HFF.out.1.load, HFF.out.2] at HLd
  have fX50 := X5.out.cell 0 rfl; have fX51 := X5.out.cell 1 rfl; have fX60 := X6.out.cell 0 rfl; have fX61 := X6.out.cell 1 rfl; have fX130 := X13.out.cell 0 rfl; have fX131 := X13.out.cell 1 rfl
  rw [hW] at fX50 fX51 fX60 fX61 fX130 fX131
  go_wp2_with fail
  rw [← hW]
  clear hW
  obtain ⟨D13, hD⟩ : ∃ D13, D13 = w7.heap.size := ⟨_, rfl⟩
  rw [← hD] at X13 ⊢
  clear hD
  clear fX50 fX51 fX60 fX61 fX130 fX131
  refine (HLd.out _ S5.out).mono ?_
  rintro e w8 ⟨A6, n6, c6, rfl, L6, O6, k8⟩
  replace X5 := Lib.hid (X5.out.step k8)
  replace X6 := Lib.hid (X6.out.step k8)
  replace X13 := Lib.hid (X13.out.step k8)
  replace S1 := Lib.hid (S1.out.below k8)
  replace S2 := Lib.hid (S2.out.below k8)
  replace S3 := Lib.hid (S3.out.below k8)
  replace S4 := Lib.hid (S4.out.below k8)
  replace SP := Lib.hid (SP.out.below k8)
  replace S5 := Lib.hid (S5.out.below k8)
  replace HB := Lib.hid (bt HB.out k8)
  clear k8
  have S6 := Lib.hid (O6.out.reads)
  obtain rfl : n6 = 17 := by rw [← L6.out]; exact HPs.out.1
  clear HLd O6
  have fX50 := X5.out.cell 0 rfl; have fX51 := X5.out.cell 1 rfl; have fX60 := X6.out.cell 0 rfl; have fX61 := X6.out.cell 1 rfl; have fX130 := X13.out.cell 0 rfl; have fX131 := X13.out.cell 1 rfl
  go_wp2_with fail
  clear fX50 fX51 fX60 fX61 fX130 fX131
  refine (sameIntsF A3 A4 29 c3 c4 (freeL z) _ L3.out (by have := M17.out.2.1; omega) S3.out S4.out).mono ?_
  rintro e w9 ⟨rfl, k9⟩
  replace X5 := Lib.hid (X5.out.step k9)
  replace X6 := Lib.hid (X6.out.step k9)
  replace X13 := Lib.hid (X13.out.step k9)
  replace S1 := Lib.hid (S1.out.below k9)
  replace S2 := Lib.hid (S2.out.below k9)
  replace S3 := Lib.hid (S3.out.below k9)
  replace S4 := Lib.hid (S4.out.below k9)
  replace SP := Lib.hid (SP.out.below k9)
  replace S5 := Lib.hid (S5.out.below k9)
  replace S6 := Lib.hid (S6.out.below k9)
  replace HB := Lib.hid (bt HB.out k9)
  clear k9
  have fX50 := X5.out.cell 0 rfl; have fX51 := X5.out.cell 1 rfl; have fX60 := X6.out.cell 0 rfl; have fX61 := X6.out.cell 1 rfl; have fX130 := X13.out.cell 0 rfl; have fX131 := X13.out.cell 1 rfl
  go_wp2_with fail
  clear fX50 fX51 fX60 fX61 fX130 fX131
  refine (HPd.out _ HB.out).mono ?_
  rintro e w10 ⟨P2, cp2, rfl, SQ, kp⟩
  replace X5 := Lib.hid (X5.out.step kp)
  replace X6 := Lib.hid (X6.out.step kp)
  replace X13 := Lib.hid (X13.out.step kp)
  replace S1 := Lib.hid (S1.out.below kp)
  replace S2 := Lib.hid (S2.out.below kp)
  replace S3 := Lib.hid (S3.out.below kp)
  replace S4 := Lib.hid (S4.out.below kp)
  replace SP := Lib.hid (SP.out.below kp)
  replace S5 := Lib.hid (S5.out.below kp)
  replace S6 := Lib.hid (S6.out.below kp)
  replace HB := Lib.hid (bt HB.out kp)
  clear kp
  have fX50 := X5.out.cell 0 rfl; have fX51 := X5.out.cell 1 rfl; have fX60 := X6.out.cell 0 rfl; have fX61 := X6.out.cell 1 rfl; have fX130 := X13.out.cell 0 rfl; have fX131 := X13.out.cell 1 rfl
  go_wp2_with fail
  clear fX50 fX51 fX60 fX61 fX130 fX131
  refine (sameTexts A6 P2 17 c6 cp2 ps _ HPs.out.1 (by omega) S6.out SQ.out).mono ?_
  rintro e w11 ⟨rfl, k11⟩
  replace X5 := Lib.hid (X5.out.step k11)
  replace X6 := Lib.hid (X6.out.step k11)
  replace X13 := Lib.hid (X13.out.step k11)
  replace S1 := Lib.hid (S1.out.below k11)
  replace S2 := Lib.hid (S2.out.below k11)
  replace S3 := Lib.hid (S3.out.below k11)
  replace S4 := Lib.hid (S4.out.below k11)
  replace SP := Lib.hid (SP.out.below k11)
  replace S5 := Lib.hid (S5.out.below k11)
  replace S6 := Lib.hid (S6.out.below k11)
  replace SQ := Lib.hid (SQ.out.below k11)
  replace HB := Lib.hid (bt HB.out k11)
  clear k11
  have HAp := Lib.hid (free_apart z)
  go_wp2
  go_loopw [17] (fun q wr => ∃ i : Nat, i ≤ 29 ∧ q = .int .i64 i ∧ Below w11.heap.size w11 wr) (fun q _ => 29 - (intOf q).toNat)
  case atStart => exact ⟨0, by omega, rfl, Below.refl _ _⟩
  case round =>
    obtain ⟨i, hi, rfl, hbi⟩ := hrel
    by_cases hlt : i < 29
    · have hi1 : (i : Int) < 29 := by omega
      go_wp2
      go_loopw [18] (fun q wr2 => ∃ k : Nat, k ≤ 17 ∧ q = .int .i64 k ∧ Below w11.heap.size w11 wr2) (fun q _ => 17 - (intOf q).toNat)
      case atStart => exact ⟨0, by omega, rfl, hbi⟩
      case round =>
        obtain ⟨k, hk, rfl, hbk⟩ := hrel
        have fX := (X6.out.step hbk).cell 1 rfl
        by_cases hkt : k < 17
        · have hk1 : (k : Int) < 17 := by omega
          obtain ⟨b3, o3, rfl, hc3⟩ := (S3.out.below hbk) i (by rw [L3.out]; exact hlt)
          obtain ⟨b2, o2, rfl, hc2⟩ := (S2.out.below hbk) k (by rw [L2.out]; exact hkt)
          have hne := HAp.out i k (by rw [L3.out]; exact hlt) (by rw [L2.out]; exact hkt)
          have i0 : (0 : Int) ≤ (i : Int) := by omega
          have k0 : (0 : Int) ≤ (k : Int) := by omega
          generalize (freeL z).getD i 0 = x at hc3 hne
          generalize z.getD k 0 = y at hc2 hne
          go_wp2
          go_quiet (fail)
          go_wp2
          go_roundw
          case rel => exact ⟨k + 1, by omega, by go_num, below_drewN hbk _⟩
          case measure => simp [intOf]; omega
        · obtain rfl : k = 17 := by omega
          go_wp2
          go_roundw
          case rel => exact ⟨i + 1, by omega, by go_num, hbk⟩
          case measure => simp [intOf]; omega
    · obtain rfl : i = 29 := by omega
      go_wp2
      go_ret
      exact ⟨rfl, bt HB.out hbi⟩
end Go.Proofs.Ytcchhbkbnbphhaa
