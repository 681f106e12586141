/- The law FnCommit, walked. Written by gen_walkcommit.py. -/
import Derived.Test.YtcchhbkbnbphhaaM11
import Derived.Test.YtcchhbkbnbphhaaM3
import Derived.Test.YtcchhbkbnbphhaaM7
import Derived.Test.YtcchhbkbnbphhaaSpecCommit2
import Derived.Test.YtcchhbkbnbphhaaCommitImpl
namespace Go.Proofs.Ytcchhbkbnbphhaa
open Go.RowKit

set_option maxRecDepth 100000 in
set_option maxHeartbeats 16000000 in
theorem walkCommit (A : Option Addr) (n c : Nat) (zs : List Nat) (A' : Option Addr) (n' c' : Nat) (zs' : List Nat) (w : World) (hl : zs.length = n) (hn : n ≤ maxLen) (h : ByB w w.heap.size A zs) (hl' : zs'.length = n') (hn' : n' ≤ maxLen) (h' : ByB w w.heap.size A' zs') :
    Calls Try.prog 3 #[.slice A n c, .slice A' n' c'] w fun e w' => e = .returned (.bool true) ∧ Below w.heap.size w w' := by
  have HN1 := Lib.hid hn
  have HN2 := Lib.hid hn'
  unfold maxLen at hn hn'
  by_cases hle : 1048576 < n
  · have i1 : (1048576 : Int) < (n : Int) := by omega
    clear hle
    go_enter Try.func3, Try.ntmps3
    go_wp2
    go_ret
    exact ⟨rfl, Below.refl _ _⟩
  have i1 : ¬ (1048576 : Int) < (n : Int) := by omega
  by_cases hle' : 1048576 < n'
  · have i2 : (1048576 : Int) < (n' : Int) := by omega
    clear hle'
    go_enter Try.func3, Try.ntmps3
    go_wp2
    go_ret
    exact ⟨rfl, Below.refl _ _⟩
  have i2 : ¬ (1048576 : Int) < (n' : Int) := by omega
  have HFm := Lib.hid (formDrawn A n c zs w HN1.out hl h)
  have HPd := Lib.hid (fun W (hb : Below w.heap.size w W) => pagesDrawn A' n' c' zs' W HN2.out hl' (h'.step hb))
  have HPs := Lib.hid (And.intro (pagesX_len zs' n') (pagesX_size zs' n'))
  generalize pagesX zs' n' = ps at HPd HPs
  have M17 : Hid ((17 : Nat) ≤ maxLen ∧ (48 : Nat) ≤ maxLen ∧ (0 : Nat) ≤ maxLen) := Lib.hid (by unfold maxLen; omega)
  clear hl hl' hn hn' h h' hle hle' HN1 HN2
  go_enter Try.func3, Try.ntmps3
  go_wp2_with fail
  refine HFm.out.mono ?_
  rintro e w1 ⟨ss, A1, n1, c1, C1, d1, g, z, sl, rfl, L1, S1, FDh, k1⟩
  obtain ⟨fd, hg4⟩ := FDh.out
  obtain rfl : n1 = 48 := by rw [← L1.out]; exact fd.small.1
  have HB := Lib.hid k1
  have HFD := Lib.hid (And.intro fd hg4)
  clear HFm FDh fd hg4 k1
  obtain ⟨V1, hW⟩ : ∃ V1, V1 = w1.alloc (.cells #[.slice A1 48 c1, .slice C1 0 d1] 26) := ⟨_, rfl⟩
  have ka : Below w1.heap.size w1 V1 := by rw [hW]; exact alloc_below _ _
  replace S1 := Lib.hid (S1.out.below ka)
  replace HB := Lib.hid (bt HB.out ka)
  have X5 : Hid (Box V1 w1.heap.size 26 #[.slice A1 48 c1, .slice C1 0 d1]) := Lib.hid (by rw [hW]; exact Box.new _ _ _)
  clear ka
  have fX50 := X5.out.cell 0 rfl; have fX51 := X5.out.cell 1 rfl
  rw [hW] at fX50 fX51
  go_wp2_with fail
  rw [← hW]
  clear hW
  obtain ⟨D5, hD⟩ : ∃ D5, D5 = w1.heap.size := ⟨_, rfl⟩
  rw [← hD] at X5 ⊢
  clear hD
  clear fX50 fX51
  refine (HPd.out _ HB.out).mono ?_
  rintro e w2 ⟨P, cp, rfl, SP, kp⟩
  replace X5 := Lib.hid (X5.out.step kp)
  replace S1 := Lib.hid (S1.out.below kp)
  replace HB := Lib.hid (bt HB.out kp)
  clear kp
  have HNw := Lib.hid (fun W (q : StrL W A1 ss) => implNewest A1 C1 48 c1 0 d1 ss [] W L1.out rfl M17.out.2.1 M17.out.2.2 q (wrl_nil _ _) HFD.out.1.fit fitW_nil)
  rw [HFD.out.1.new] at HNw
  have fX50 := X5.out.cell 0 rfl; have fX51 := X5.out.cell 1 rfl
  go_wp2_with fail
  clear fX50 fX51
  refine (HNw.out _ S1.out).mono ?_
  rintro e w3 ⟨A2, n2, c2, rfl, -, -, k3⟩
  replace X5 := Lib.hid (X5.out.step k3)
  replace S1 := Lib.hid (S1.out.below k3)
  replace SP := Lib.hid (SP.out.below k3)
  replace HB := Lib.hid (bt HB.out k3)
  clear k3
  clear HNw
  obtain ⟨V2, hW⟩ : ∃ V2, V2 = w3.alloc (.cells #[.int .i64 g, .slice A2 n2 c2] 31) := ⟨_, rfl⟩
  have ka : Below w3.heap.size w3 V2 := by rw [hW]; exact alloc_below _ _
  replace X5 := Lib.hid (X5.out.step ka)
  replace S1 := Lib.hid (S1.out.below ka)
  replace SP := Lib.hid (SP.out.below ka)
  replace HB := Lib.hid (bt HB.out ka)
  have X7 : Hid (Box V2 w3.heap.size 31 #[.int .i64 g, .slice A2 n2 c2]) := Lib.hid (by rw [hW]; exact Box.new _ _ _)
  clear ka
  have HLd := Lib.hid (fun W (q : StrL W A1 ss) => implLoad A1 C1 48 c1 0 d1 ss [] W L1.out rfl M17.out.2.1 M17.out.2.2 q (wrl_nil _ _) HFD.out.1.fit fitW_nil)
  rw [HFD.out.1.load] at HLd
  have fX50 := X5.out.cell 0 rfl; have fX51 := X5.out.cell 1 rfl; have fX70 := X7.out.cell 0 rfl; have fX71 := X7.out.cell 1 rfl
  rw [hW] at fX50 fX51 fX70 fX71
  go_wp2_with fail
  rw [← hW]
  clear hW
  obtain ⟨D7, hD⟩ : ∃ D7, D7 = w3.heap.size := ⟨_, rfl⟩
  rw [← hD] at X7 ⊢
  clear hD
  clear fX50 fX51 fX70 fX71
  refine (HLd.out _ S1.out).mono ?_
  rintro e w4 ⟨A3, n3, c3, rfl, L3, O3, k4⟩
  replace X5 := Lib.hid (X5.out.step k4)
  replace X7 := Lib.hid (X7.out.step k4)
  replace S1 := Lib.hid (S1.out.below k4)
  replace SP := Lib.hid (SP.out.below k4)
  replace HB := Lib.hid (bt HB.out k4)
  clear k4
  have S3 := Lib.hid (O3.out.reads)
  obtain rfl : n3 = 17 := by rw [← L3.out, load_len]; exact (rootB_all HFD.out.1.root).2.1
  clear HLd O3
  obtain ⟨r, g', z', sl', hr1, hr2, hr3, hr4, hr5⟩ := HFD.out.1.commit2 (by have := HFD.out.2; omega) HPs.out.1 HPs.out.2
  have HCi := Lib.hid (fun W (q : StrL W A1 ss) (q' : StrL W P ps) => implCommit A1 C1 P 48 c1 0 d1 17 cp ss ps [] 100 W L1.out rfl HPs.out.1 M17.out.2.1 M17.out.2.2 M17.out.1 q (wrl_nil _ _) q' HFD.out.1.fit fitW_nil (fit_of HPs.out.2))
  have HCs := Lib.hid (fun W (q : StrL W A1 ss) (q' : StrL W P ps) => specCommit A1 C1 P 48 c1 0 d1 17 cp ss ps [] 100 W L1.out rfl HPs.out.1 M17.out.2.1 M17.out.2.2 M17.out.1 q (wrl_nil _ _) q' HFD.out.1.fit fitW_nil (fit_of HPs.out.2))
  rw [hr1] at HCi HCs
  have HR := Lib.hid (And.intro hr2 (And.intro hr3 (And.intro hr4 hr5)))
  have HR48 : Hid (r.length = 48) := Lib.hid hr2.small.1
  clear hr1 hr2 hr3 hr4 hr5
  have fX50 := X5.out.cell 0 rfl; have fX51 := X5.out.cell 1 rfl; have fX70 := X7.out.cell 0 rfl; have fX71 := X7.out.cell 1 rfl
  go_wp2_with fail
  clear fX50 fX51 fX70 fX71
  refine (HCi.out _ S1.out SP.out).mono ?_
  rintro e w5 ⟨A4, n4, c4, C4, m4, d4, rfl, L4, M4, O4, -, k5⟩
  replace X5 := Lib.hid (X5.out.step k5)
  replace X7 := Lib.hid (X7.out.step k5)
  replace S1 := Lib.hid (S1.out.below k5)
  replace SP := Lib.hid (SP.out.below k5)
  replace S3 := Lib.hid (S3.out.below k5)
  replace HB := Lib.hid (bt HB.out k5)
  clear k5
  obtain rfl : m4 = 0 := M4.out.symm
  obtain rfl : n4 = 48 := by rw [← L4.out]; exact HR48.out
  have S4 := Lib.hid O4.out.reads
  clear HCi M4 O4
  obtain ⟨V3, hW⟩ : ∃ V3, V3 = w5.alloc (.cells #[.slice A4 48 c4, .slice C4 0 d4] 26) := ⟨_, rfl⟩
  have ka : Below w5.heap.size w5 V3 := by rw [hW]; exact alloc_below _ _
  replace X5 := Lib.hid (X5.out.step ka)
  replace X7 := Lib.hid (X7.out.step ka)
  replace S1 := Lib.hid (S1.out.below ka)
  replace SP := Lib.hid (SP.out.below ka)
  replace S3 := Lib.hid (S3.out.below ka)
  replace S4 := Lib.hid (S4.out.below ka)
  replace HB := Lib.hid (bt HB.out ka)
  have X12 : Hid (Box V3 w5.heap.size 26 #[.slice A4 48 c4, .slice C4 0 d4]) := Lib.hid (by rw [hW]; exact Box.new _ _ _)
  clear ka
  have fX50 := X5.out.cell 0 rfl; have fX51 := X5.out.cell 1 rfl; have fX70 := X7.out.cell 0 rfl; have fX71 := X7.out.cell 1 rfl; have fX120 := X12.out.cell 0 rfl; have fX121 := X12.out.cell 1 rfl
  rw [hW] at fX50 fX51 fX70 fX71 fX120 fX121
  go_wp2_with fail
  rw [← hW]
  clear hW
  obtain ⟨D12, hD⟩ : ∃ D12, D12 = w5.heap.size := ⟨_, rfl⟩
  rw [← hD] at X12 ⊢
  clear hD
  clear fX50 fX51 fX70 fX71 fX120 fX121
  refine (HCs.out _ S1.out SP.out).mono ?_
  rintro e w6 ⟨A5, n5, c5, C5, m5, d5, rfl, L5, M5, O5, -, k6⟩
  replace X5 := Lib.hid (X5.out.step k6)
  replace X7 := Lib.hid (X7.out.step k6)
  replace X12 := Lib.hid (X12.out.step k6)
  replace S1 := Lib.hid (S1.out.below k6)
  replace SP := Lib.hid (SP.out.below k6)
  replace S3 := Lib.hid (S3.out.below k6)
  replace S4 := Lib.hid (S4.out.below k6)
  replace HB := Lib.hid (bt HB.out k6)
  clear k6
  obtain rfl : m5 = 0 := M5.out.symm
  obtain rfl : n5 = 48 := by rw [← L5.out]; exact HR48.out
  have S5 := Lib.hid O5.out.reads
  clear HCs M5 O5
  obtain ⟨V4, hW⟩ : ∃ V4, V4 = w6.alloc (.cells #[.slice A5 48 c5, .slice C5 0 d5] 26) := ⟨_, rfl⟩
  have ka : Below w6.heap.size w6 V4 := by rw [hW]; exact alloc_below _ _
  replace X5 := Lib.hid (X5.out.step ka)
  replace X7 := Lib.hid (X7.out.step ka)
  replace X12 := Lib.hid (X12.out.step ka)
  replace S1 := Lib.hid (S1.out.below ka)
  replace SP := Lib.hid (SP.out.below ka)
  replace S3 := Lib.hid (S3.out.below ka)
  replace S4 := Lib.hid (S4.out.below ka)
  replace S5 := Lib.hid (S5.out.below ka)
  replace HB := Lib.hid (bt HB.out ka)
  have X14 : Hid (Box V4 w6.heap.size 26 #[.slice A5 48 c5, .slice C5 0 d5]) := Lib.hid (by rw [hW]; exact Box.new _ _ _)
  clear ka
  have HNw := Lib.hid (fun W (q : StrL W A4 r) => implNewest A4 C4 48 c4 0 d4 r [] W L4.out rfl M17.out.2.1 M17.out.2.2 q (wrl_nil _ _) HR.out.1.fit fitW_nil)
  rw [HR.out.1.new] at HNw
  have fX50 := X5.out.cell 0 rfl; have fX51 := X5.out.cell 1 rfl; have fX70 := X7.out.cell 0 rfl; have fX71 := X7.out.cell 1 rfl; have fX120 := X12.out.cell 0 rfl; have fX121 := X12.out.cell 1 rfl; have fX140 := X14.out.cell 0 rfl; have fX141 := X14.out.cell 1 rfl
  rw [hW] at fX50 fX51 fX70 fX71 fX120 fX121 fX140 fX141
  go_wp2_with fail
  rw [← hW]
  clear hW
  obtain ⟨D14, hD⟩ : ∃ D14, D14 = w6.heap.size := ⟨_, rfl⟩
  rw [← hD] at X14 ⊢
  clear hD
  clear fX50 fX51 fX70 fX71 fX120 fX121 fX140 fX141
  refine (HNw.out _ S4.out).mono ?_
  rintro e w7 ⟨A6, n6, c6, rfl, -, -, k7⟩
  replace X5 := Lib.hid (X5.out.step k7)
  replace X7 := Lib.hid (X7.out.step k7)
  replace X12 := Lib.hid (X12.out.step k7)
  replace X14 := Lib.hid (X14.out.step k7)
  replace S1 := Lib.hid (S1.out.below k7)
  replace SP := Lib.hid (SP.out.below k7)
  replace S3 := Lib.hid (S3.out.below k7)
  replace S4 := Lib.hid (S4.out.below k7)
  replace S5 := Lib.hid (S5.out.below k7)
  replace HB := Lib.hid (bt HB.out k7)
  clear k7
  clear HNw
  obtain ⟨V5, hW⟩ : ∃ V5, V5 = w7.alloc (.cells #[.int .i64 g', .slice A6 n6 c6] 31) := ⟨_, rfl⟩
  have ka : Below w7.heap.size w7 V5 := by rw [hW]; exact alloc_below _ _
  replace X5 := Lib.hid (X5.out.step ka)
  replace X7 := Lib.hid (X7.out.step ka)
  replace X12 := Lib.hid (X12.out.step ka)
  replace X14 := Lib.hid (X14.out.step ka)
  replace S1 := Lib.hid (S1.out.below ka)
  replace SP := Lib.hid (SP.out.below ka)
  replace S3 := Lib.hid (S3.out.below ka)
  replace S4 := Lib.hid (S4.out.below ka)
  replace S5 := Lib.hid (S5.out.below ka)
  replace HB := Lib.hid (bt HB.out ka)
  have X16 : Hid (Box V5 w7.heap.size 31 #[.int .i64 g', .slice A6 n6 c6]) := Lib.hid (by rw [hW]; exact Box.new _ _ _)
  clear ka
  have HLd := Lib.hid (fun W (q : StrL W A4 r) => implLoad A4 C4 48 c4 0 d4 r [] W L4.out rfl M17.out.2.1 M17.out.2.2 q (wrl_nil _ _) HR.out.1.fit fitW_nil)
  rw [HR.out.1.load, HR.out.2.1] at HLd
  have fX50 := X5.out.cell 0 rfl; have fX51 := X5.out.cell 1 rfl; have fX70 := X7.out.cell 0 rfl; have fX71 := X7.out.cell 1 rfl; have fX120 := X12.out.cell 0 rfl; have fX121 := X12.out.cell 1 rfl; have fX140 := X14.out.cell 0 rfl; have fX141 := X14.out.cell 1 rfl; have fX160 := X16.out.cell 0 rfl; have fX161 := X16.out.cell 1 rfl
  rw [hW] at fX50 fX51 fX70 fX71 fX120 fX121 fX140 fX141 fX160 fX161
  go_wp2_with fail
  rw [← hW]
  clear hW
  obtain ⟨D16, hD⟩ : ∃ D16, D16 = w7.heap.size := ⟨_, rfl⟩
  rw [← hD] at X16 ⊢
  clear hD
  clear fX50 fX51 fX70 fX71 fX120 fX121 fX140 fX141 fX160 fX161
  refine (HLd.out _ S4.out).mono ?_
  rintro e w8 ⟨A7, n7, c7, rfl, L7, O7, k8⟩
  replace X5 := Lib.hid (X5.out.step k8)
  replace X7 := Lib.hid (X7.out.step k8)
  replace X12 := Lib.hid (X12.out.step k8)
  replace X14 := Lib.hid (X14.out.step k8)
  replace X16 := Lib.hid (X16.out.step k8)
  replace S1 := Lib.hid (S1.out.below k8)
  replace SP := Lib.hid (SP.out.below k8)
  replace S3 := Lib.hid (S3.out.below k8)
  replace S4 := Lib.hid (S4.out.below k8)
  replace S5 := Lib.hid (S5.out.below k8)
  replace HB := Lib.hid (bt HB.out k8)
  clear k8
  have S7 := Lib.hid (O7.out.reads)
  obtain rfl : n7 = 17 := by rw [← L7.out]; exact HPs.out.1
  clear HLd O7
  have fX50 := X5.out.cell 0 rfl; have fX51 := X5.out.cell 1 rfl; have fX70 := X7.out.cell 0 rfl; have fX71 := X7.out.cell 1 rfl; have fX120 := X12.out.cell 0 rfl; have fX121 := X12.out.cell 1 rfl; have fX140 := X14.out.cell 0 rfl; have fX141 := X14.out.cell 1 rfl; have fX160 := X16.out.cell 0 rfl; have fX161 := X16.out.cell 1 rfl
  go_wp2_with fail
  clear fX50 fX51 fX70 fX71 fX120 fX121 fX140 fX141 fX160 fX161
  refine (sameDiskT A4 A5 C4 C5 48 c4 c5 0 d4 d5 r [] _ L4.out rfl (by omega) (by omega) S4.out S5.out (wrl_nil _ _) (wrl_nil _ _)).mono ?_
  rintro e w9 ⟨rfl, k9⟩
  replace X5 := Lib.hid (X5.out.step k9)
  replace X7 := Lib.hid (X7.out.step k9)
  replace X12 := Lib.hid (X12.out.step k9)
  replace X14 := Lib.hid (X14.out.step k9)
  replace X16 := Lib.hid (X16.out.step k9)
  replace S1 := Lib.hid (S1.out.below k9)
  replace SP := Lib.hid (SP.out.below k9)
  replace S3 := Lib.hid (S3.out.below k9)
  replace S4 := Lib.hid (S4.out.below k9)
  replace S5 := Lib.hid (S5.out.below k9)
  replace S7 := Lib.hid (S7.out.below k9)
  replace HB := Lib.hid (bt HB.out k9)
  clear k9
  have fX50 := X5.out.cell 0 rfl; have fX51 := X5.out.cell 1 rfl; have fX70 := X7.out.cell 0 rfl; have fX71 := X7.out.cell 1 rfl; have fX120 := X12.out.cell 0 rfl; have fX121 := X12.out.cell 1 rfl; have fX140 := X14.out.cell 0 rfl; have fX141 := X14.out.cell 1 rfl; have fX160 := X16.out.cell 0 rfl; have fX161 := X16.out.cell 1 rfl
  go_wp2_with fail
  clear fX50 fX51 fX70 fX71 fX120 fX121 fX140 fX141 fX160 fX161
  refine (sameTexts A7 P 17 c7 cp ps _ HPs.out.1 (by omega) S7.out SP.out).mono ?_
  rintro e w10 ⟨rfl, k10⟩
  replace X5 := Lib.hid (X5.out.step k10)
  replace X7 := Lib.hid (X7.out.step k10)
  replace X12 := Lib.hid (X12.out.step k10)
  replace X14 := Lib.hid (X14.out.step k10)
  replace X16 := Lib.hid (X16.out.step k10)
  replace S1 := Lib.hid (S1.out.below k10)
  replace SP := Lib.hid (SP.out.below k10)
  replace S3 := Lib.hid (S3.out.below k10)
  replace S4 := Lib.hid (S4.out.below k10)
  replace S5 := Lib.hid (S5.out.below k10)
  replace S7 := Lib.hid (S7.out.below k10)
  replace HB := Lib.hid (bt HB.out k10)
  clear k10
  have HOk := Lib.hid (fun W (q : StrL W A4 r) => implDiskOK A4 C4 48 c4 0 d4 r [] W L4.out rfl M17.out.2.1 M17.out.2.2 q (wrl_nil _ _) HR.out.1.fit fitW_nil)
  rw [HR.out.1.ok] at HOk
  have fX50 := X5.out.cell 0 rfl; have fX51 := X5.out.cell 1 rfl; have fX70 := X7.out.cell 0 rfl; have fX71 := X7.out.cell 1 rfl; have fX120 := X12.out.cell 0 rfl; have fX121 := X12.out.cell 1 rfl; have fX140 := X14.out.cell 0 rfl; have fX141 := X14.out.cell 1 rfl; have fX160 := X16.out.cell 0 rfl; have fX161 := X16.out.cell 1 rfl
  go_wp2_with fail
  clear fX50 fX51 fX70 fX71 fX120 fX121 fX140 fX141 fX160 fX161
  refine (HOk.out _ S4.out).mono ?_
  rintro e w11 ⟨rfl, k11⟩
  replace X5 := Lib.hid (X5.out.step k11)
  replace X7 := Lib.hid (X7.out.step k11)
  replace X12 := Lib.hid (X12.out.step k11)
  replace X14 := Lib.hid (X14.out.step k11)
  replace X16 := Lib.hid (X16.out.step k11)
  replace S1 := Lib.hid (S1.out.below k11)
  replace SP := Lib.hid (SP.out.below k11)
  replace S3 := Lib.hid (S3.out.below k11)
  replace S4 := Lib.hid (S4.out.below k11)
  replace S5 := Lib.hid (S5.out.below k11)
  replace S7 := Lib.hid (S7.out.below k11)
  replace HB := Lib.hid (bt HB.out k11)
  clear k11
  have fX50 := X5.out.cell 0 rfl; have fX51 := X5.out.cell 1 rfl; have fX70 := X7.out.cell 0 rfl; have fX71 := X7.out.cell 1 rfl; have fX120 := X12.out.cell 0 rfl; have fX121 := X12.out.cell 1 rfl; have fX140 := X14.out.cell 0 rfl; have fX141 := X14.out.cell 1 rfl; have fX160 := X16.out.cell 0 rfl; have fX161 := X16.out.cell 1 rfl
  go_wp2_with fail
  clear fX50 fX51 fX70 fX71 fX120 fX121 fX140 fX141 fX160 fX161
  refine (sameTextsB A3 P 17 c3 cp (loadL ss [] z) ps _ L3.out HPs.out.1 (by omega) S3.out SP.out).mono ?_
  rintro e w12 ⟨rfl, k12⟩
  replace X5 := Lib.hid (X5.out.step k12)
  replace X7 := Lib.hid (X7.out.step k12)
  replace X12 := Lib.hid (X12.out.step k12)
  replace X14 := Lib.hid (X14.out.step k12)
  replace X16 := Lib.hid (X16.out.step k12)
  replace S1 := Lib.hid (S1.out.below k12)
  replace SP := Lib.hid (SP.out.below k12)
  replace S3 := Lib.hid (S3.out.below k12)
  replace S4 := Lib.hid (S4.out.below k12)
  replace S5 := Lib.hid (S5.out.below k12)
  replace S7 := Lib.hid (S7.out.below k12)
  replace HB := Lib.hid (bt HB.out k12)
  clear k12
  rcases HR.out.2.2.2 with ⟨he, hrs⟩ | ⟨he, hgg, hss⟩
  · subst hrs
    have HDe : Hid (decide (loadL r [] z = ps) = true) := Lib.hid (decide_eq_true he)
    rw [HDe.out]
    clear he HDe
    have fX50 := X5.out.cell 0 rfl; have fX51 := X5.out.cell 1 rfl; have fX70 := X7.out.cell 0 rfl; have fX71 := X7.out.cell 1 rfl; have fX120 := X12.out.cell 0 rfl; have fX121 := X12.out.cell 1 rfl; have fX140 := X14.out.cell 0 rfl; have fX141 := X14.out.cell 1 rfl; have fX160 := X16.out.cell 0 rfl; have fX161 := X16.out.cell 1 rfl
    go_wp2_with fail
    clear fX50 fX51 fX70 fX71 fX120 fX121 fX140 fX141 fX160 fX161
    refine (sameDiskT A4 A1 C4 C1 48 c4 c1 0 d4 d1 r [] _ L4.out rfl (by omega) (by omega) S4.out S1.out (wrl_nil _ _) (wrl_nil _ _)).mono ?_
    rintro e w13 ⟨rfl, k13⟩
    replace X5 := Lib.hid (X5.out.step k13)
    replace X7 := Lib.hid (X7.out.step k13)
    replace X12 := Lib.hid (X12.out.step k13)
    replace X14 := Lib.hid (X14.out.step k13)
    replace X16 := Lib.hid (X16.out.step k13)
    replace S1 := Lib.hid (S1.out.below k13)
    replace SP := Lib.hid (SP.out.below k13)
    replace S3 := Lib.hid (S3.out.below k13)
    replace S4 := Lib.hid (S4.out.below k13)
    replace S5 := Lib.hid (S5.out.below k13)
    replace S7 := Lib.hid (S7.out.below k13)
    replace HB := Lib.hid (bt HB.out k13)
    clear k13
    go_wp2
    go_ret
    exact ⟨rfl, HB.out⟩
  · have HDe : Hid (decide (loadL ss [] z = ps) = false) := Lib.hid (decide_eq_false he)
    rw [HDe.out]
    have e1 : IntKind.i64.wrap (g + 1) = g + 1 := IntWalk.i64_in _ (by have := HFD.out.2; have := HFD.out.1.up; omega)
    have e2 : IntKind.i64.wrap (1 - sl) = 1 - sl := IntWalk.i64_in _ (by have := HFD.out.1.slot; omega)
    subst hgg hss
    have j1 : (g + 1 == g + 1) = true := by simp
    have j2 : (1 - sl == 1 - sl) = true := by simp
    have fX7 := X7.out.cell 0 rfl
    have fX16 := X16.out.cell 0 rfl
    clear he HDe
    go_wp2
    go_ret
    exact ⟨rfl, HB.out⟩
end Go.Proofs.Ytcchhbkbnbphhaa
