/- The law FnAtomic, walked. Written by gen_walkcommit.py. -/
import Derived.Test.YtcchhbkbnbphhaaM11
import Derived.Test.YtcchhbkbnbphhaaM3
import Derived.Test.YtcchhbkbnbphhaaM7
import Derived.Test.YtcchhbkbnbphhaaSpecCommit2
import Derived.Test.YtcchhbkbnbphhaaCommitImpl
import Derived.Test.YtcchhbkbnbphhaaSpecTorn2
import Derived.Test.YtcchhbkbnbphhaaTornImpl
namespace Go.Proofs.Ytcchhbkbnbphhaa
open Go.RowKit

set_option maxRecDepth 100000 in
set_option maxHeartbeats 16000000 in
theorem walkAtomic (A : Option Addr) (n c : Nat) (zs : List Nat) (A' : Option Addr) (n' c' : Nat) (zs' : List Nat) (w : World) (hl : zs.length = n) (hn : n ≤ maxLen) (h : ByB w w.heap.size A zs) (hl' : zs'.length = n') (hn' : n' ≤ maxLen) (h' : ByB w w.heap.size A' zs') :
    Calls Try.prog 5 #[.slice A n c, .slice A' n' c'] w fun e w' => e = .returned (.bool true) ∧ Below w.heap.size w w' := by
  have HN1 := Lib.hid hn
  have HN2 := Lib.hid hn'
  unfold maxLen at hn hn'
  by_cases hle : 1048576 < n
  · have i1 : (1048576 : Int) < (n : Int) := by omega
    clear hle
    go_enter Try.func5, Try.ntmps5
    go_wp2
    go_ret
    exact ⟨rfl, Below.refl _ _⟩
  have i1 : ¬ (1048576 : Int) < (n : Int) := by omega
  by_cases hle' : 1048576 < n'
  · have i2 : (1048576 : Int) < (n' : Int) := by omega
    clear hle'
    go_enter Try.func5, Try.ntmps5
    go_wp2
    go_ret
    exact ⟨rfl, Below.refl _ _⟩
  have i2 : ¬ (1048576 : Int) < (n' : Int) := by omega
  have HFm := Lib.hid (formDrawn A n c zs w HN1.out hl h)
  have HPd := Lib.hid (fun W (hb : Below w.heap.size w W) => pagesDrawn A' n' c' zs' W HN2.out hl' (h'.step hb))
  have HPs := Lib.hid (And.intro (pagesX_len zs' n') (pagesX_size zs' n'))
  have HAt := Lib.hid (fun W (hb : Below w.heap.size w W) => lawAt 0 3 A' n' c' zs' W (by omega) (by omega) (by omega) (by omega) hl' (h'.step hb))
  have HFt := Lib.hid (fun W (hb : Below w.heap.size w W) => fatesOf A' n' c' zs' W HN2.out hl' (h'.step hb))
  generalize pagesX zs' n' = ps at HPd HPs
  have M17 : Hid ((17 : Nat) ≤ maxLen ∧ (48 : Nat) ≤ maxLen ∧ (0 : Nat) ≤ maxLen) := Lib.hid (by unfold maxLen; omega)
  clear hl hl' hn hn' h h' hle hle' HN1 HN2
  go_enter Try.func5, Try.ntmps5
  go_wp2_with fail
  refine HFm.out.mono ?_
  rintro e w1 ⟨ss, A1, n1, c1, C1, d1, g, z, sl, rfl, L1, S1, FDh, k1⟩
  obtain ⟨fd, hg4⟩ := FDh.out
  obtain rfl : n1 = 48 := by rw [← L1.out]; exact fd.small.1
  have HB := Lib.hid k1
  have HFD := Lib.hid (And.intro fd hg4)
  clear HFm FDh fd hg4 k1
  obtain ⟨V1, hW⟩ : ∃ V1, V1 = w1.alloc (.cells #[.slice A1 48 c1, .slice C1 0 d1] 26) := ⟨_, rfl⟩
  have ka : Below w1.heap.size w1 V1 := by rw [hW]; exact alloc_below _ _
  replace S1 := Lib.hid (S1.out.below ka)
  replace HB := Lib.hid (bt HB.out ka)
  have X5 : Hid (Box V1 w1.heap.size 26 #[.slice A1 48 c1, .slice C1 0 d1]) := Lib.hid (by rw [hW]; exact Box.new _ _ _)
  clear ka
  have fX50 := X5.out.cell 0 rfl; have fX51 := X5.out.cell 1 rfl
  rw [hW] at fX50 fX51
  go_wp2_with fail
  rw [← hW]
  clear hW
  obtain ⟨D5, hD⟩ : ∃ D5, D5 = w1.heap.size := ⟨_, rfl⟩
  rw [← hD] at X5 ⊢
  clear hD
  clear fX50 fX51
  refine (HPd.out _ HB.out).mono ?_
  rintro e w2 ⟨P, cp, rfl, SP, kp⟩
  replace X5 := Lib.hid (X5.out.step kp)
  replace S1 := Lib.hid (S1.out.below kp)
  replace HB := Lib.hid (bt HB.out kp)
  clear kp
  have fX50 := X5.out.cell 0 rfl; have fX51 := X5.out.cell 1 rfl
  go_wp2_with fail
  clear fX50 fX51
  refine (HAt.out _ HB.out).mono ?_
  rintro e w3 ⟨v, rfl, hv, k3⟩
  replace X5 := Lib.hid (X5.out.step k3)
  replace S1 := Lib.hid (S1.out.below k3)
  replace SP := Lib.hid (SP.out.below k3)
  replace HB := Lib.hid (bt HB.out k3)
  clear k3
  have fX50 := X5.out.cell 0 rfl; have fX51 := X5.out.cell 1 rfl
  go_wp2_with fail
  clear fX50 fX51
  refine (HFt.out _ HB.out).mono ?_
  rintro e w4 ⟨F, nf, cf, rfl, LF, SF, RF⟩
  have kf := RF.out
  replace X5 := Lib.hid (X5.out.step kf)
  replace S1 := Lib.hid (S1.out.below kf)
  replace SP := Lib.hid (SP.out.below kf)
  replace HB := Lib.hid (bt HB.out kf)
  clear kf RF
  have HFx := Lib.hid (show okF (fatesX zs' 0 (n' % 1000)) = true ∧ (fatesX zs' 0 (n' % 1000)).length ≤ 3 from ⟨by unfold okF fateB; simp only [List.all_eq_true, decide_eq_true_eq]; exact fatesX_in zs' 0 (n' % 1000), fatesX_len zs' 0 (n' % 1000)⟩)
  generalize fatesX zs' 0 (n' % 1000) = xs at LF SF HFx
  have hnf3 : nf ≤ 3 := by rw [← LF.out]; exact HFx.out.2
  have HT := Lib.hid (HFD.out.1.torn (ps := ps) (by have := HFD.out.2; omega) HPs.out.1 HPs.out.2 v xs (by omega) HFx.out.1 (by have := HFx.out.2; omega))
  have HCi := Lib.hid (fun W (q : StrL W A1 ss) (q' : StrL W P ps) (q9 : IntL W F xs) => implTorn A1 C1 P F 48 c1 0 d1 17 cp nf cf ss ps [] (v : Int) xs W L1.out rfl HPs.out.1 LF.out M17.out.2.1 M17.out.2.2 M17.out.1 (by have := M17.out.1; omega) q (wrl_nil _ _) q' q9 HFD.out.1.fit fitW_nil (fit_of HPs.out.2))
  have HCs := Lib.hid (fun W (q : StrL W A1 ss) (q' : StrL W P ps) (q9 : IntL W F xs) => specTorn A1 C1 P F 48 c1 0 d1 17 cp nf cf ss ps [] (v : Int) xs W L1.out rfl HPs.out.1 LF.out M17.out.2.1 M17.out.2.2 M17.out.1 (by have := M17.out.1; omega) q (wrl_nil _ _) q' q9 HFD.out.1.fit fitW_nil (fit_of HPs.out.2))
  obtain ⟨r, hr⟩ : ∃ r, r = (tornOf ss [] ps v xs).1 := ⟨_, rfl⟩
  obtain ⟨cd, hcd⟩ : ∃ cd, cd = (tornOf ss [] ps v xs).2 := ⟨_, rfl⟩
  rw [← hr, ← hcd] at HCi HCs HT
  clear hr hcd
  obtain ⟨rfl, g', z', sl', hr1, hr2, hr3⟩ := HT.out
  have HQ : Hid (FD r g' z' sl' ∧ g' ≤ 5) := Lib.hid ⟨hr2, by have := HFD.out.2; omega⟩
  have HQ3 := Lib.hid hr3
  have HR48 : Hid (r.length = 48) := Lib.hid hr2.small.1
  have HO17 : Hid ((loadL ss [] z).length = 17 ∧ (loadL r [] z').length = 17) := Lib.hid ⟨by rw [load_len]; exact (rootB_all HFD.out.1.root).2.1, by rw [load_len]; exact (rootB_all hr2.root).2.1⟩
  clear hr1 hr2 hr3 HT HAt HFt hnf3
  have fX50 := X5.out.cell 0 rfl; have fX51 := X5.out.cell 1 rfl
  go_wp2_with fail
  clear fX50 fX51
  refine (HCi.out _ S1.out SP.out SF.out).mono ?_
  rintro e w5 ⟨A4, n4, c4, C4, m4, d4, rfl, L4, M4, O4, -, k5⟩
  replace X5 := Lib.hid (X5.out.step k5)
  replace S1 := Lib.hid (S1.out.below k5)
  replace SP := Lib.hid (SP.out.below k5)
  replace SF := Lib.hid (SF.out.below k5)
  replace HB := Lib.hid (bt HB.out k5)
  clear k5
  obtain rfl : m4 = 0 := M4.out.symm
  obtain rfl : n4 = 48 := by rw [← L4.out]; exact HR48.out
  have S4 := Lib.hid O4.out.reads
  clear M4 O4 HCi
  obtain ⟨V2, hW⟩ : ∃ V2, V2 = w5.alloc (.cells #[.slice A4 48 c4, .slice C4 0 d4] 26) := ⟨_, rfl⟩
  have ka : Below w5.heap.size w5 V2 := by rw [hW]; exact alloc_below _ _
  replace X5 := Lib.hid (X5.out.step ka)
  replace S1 := Lib.hid (S1.out.below ka)
  replace SP := Lib.hid (SP.out.below ka)
  replace SF := Lib.hid (SF.out.below ka)
  replace S4 := Lib.hid (S4.out.below ka)
  replace HB := Lib.hid (bt HB.out ka)
  have X9 : Hid (Box V2 w5.heap.size 26 #[.slice A4 48 c4, .slice C4 0 d4]) := Lib.hid (by rw [hW]; exact Box.new _ _ _)
  clear ka
  have fX50 := X5.out.cell 0 rfl; have fX51 := X5.out.cell 1 rfl; have fX90 := X9.out.cell 0 rfl; have fX91 := X9.out.cell 1 rfl
  rw [hW] at fX50 fX51 fX90 fX91
  go_wp2_with fail
  rw [← hW]
  clear hW
  obtain ⟨D9, hD⟩ : ∃ D9, D9 = w5.heap.size := ⟨_, rfl⟩
  rw [← hD] at X9 ⊢
  clear hD
  clear fX50 fX51 fX90 fX91
  refine (HCs.out _ S1.out SP.out SF.out).mono ?_
  rintro e w6 ⟨A5, n5, c5, C5, m5, d5, rfl, L5, M5, O5, -, k6⟩
  replace X5 := Lib.hid (X5.out.step k6)
  replace X9 := Lib.hid (X9.out.step k6)
  replace S1 := Lib.hid (S1.out.below k6)
  replace SP := Lib.hid (SP.out.below k6)
  replace SF := Lib.hid (SF.out.below k6)
  replace S4 := Lib.hid (S4.out.below k6)
  replace HB := Lib.hid (bt HB.out k6)
  clear k6
  obtain rfl : m5 = 0 := M5.out.symm
  obtain rfl : n5 = 48 := by rw [← L5.out]; exact HR48.out
  have S5 := Lib.hid O5.out.reads
  clear M5 O5 HCs
  obtain ⟨V3, hW⟩ : ∃ V3, V3 = w6.alloc (.cells #[.slice A5 48 c5, .slice C5 0 d5] 26) := ⟨_, rfl⟩
  have ka : Below w6.heap.size w6 V3 := by rw [hW]; exact alloc_below _ _
  replace X5 := Lib.hid (X5.out.step ka)
  replace X9 := Lib.hid (X9.out.step ka)
  replace S1 := Lib.hid (S1.out.below ka)
  replace SP := Lib.hid (SP.out.below ka)
  replace SF := Lib.hid (SF.out.below ka)
  replace S4 := Lib.hid (S4.out.below ka)
  replace S5 := Lib.hid (S5.out.below ka)
  replace HB := Lib.hid (bt HB.out ka)
  have X11 : Hid (Box V3 w6.heap.size 26 #[.slice A5 48 c5, .slice C5 0 d5]) := Lib.hid (by rw [hW]; exact Box.new _ _ _)
  clear ka
  have HLd := Lib.hid (fun W (q : StrL W A1 ss) => implLoad A1 C1 48 c1 0 d1 ss [] W L1.out rfl M17.out.2.1 M17.out.2.2 q (wrl_nil _ _) HFD.out.1.fit fitW_nil)
  rw [HFD.out.1.load] at HLd
  have fX50 := X5.out.cell 0 rfl; have fX51 := X5.out.cell 1 rfl; have fX90 := X9.out.cell 0 rfl; have fX91 := X9.out.cell 1 rfl; have fX110 := X11.out.cell 0 rfl; have fX111 := X11.out.cell 1 rfl
  rw [hW] at fX50 fX51 fX90 fX91 fX110 fX111
  go_wp2_with fail
  rw [← hW]
  clear hW
  obtain ⟨D11, hD⟩ : ∃ D11, D11 = w6.heap.size := ⟨_, rfl⟩
  rw [← hD] at X11 ⊢
  clear hD
  clear fX50 fX51 fX90 fX91 fX110 fX111
  refine (HLd.out _ S1.out).mono ?_
  rintro e w7 ⟨A6, n6, c6, rfl, L6, O6, k7⟩
  replace X5 := Lib.hid (X5.out.step k7)
  replace X9 := Lib.hid (X9.out.step k7)
  replace X11 := Lib.hid (X11.out.step k7)
  replace S1 := Lib.hid (S1.out.below k7)
  replace SP := Lib.hid (SP.out.below k7)
  replace SF := Lib.hid (SF.out.below k7)
  replace S4 := Lib.hid (S4.out.below k7)
  replace S5 := Lib.hid (S5.out.below k7)
  replace HB := Lib.hid (bt HB.out k7)
  clear k7
  have S6 := Lib.hid (O6.out.reads)
  obtain rfl : n6 = 17 := by rw [← L6.out]; exact HO17.out.1
  clear HLd O6
  have HLd := Lib.hid (fun W (q : StrL W A4 r) => implLoad A4 C4 48 c4 0 d4 r [] W L4.out rfl M17.out.2.1 M17.out.2.2 q (wrl_nil _ _) HQ.out.1.fit fitW_nil)
  rw [HQ.out.1.load] at HLd
  have fX50 := X5.out.cell 0 rfl; have fX51 := X5.out.cell 1 rfl; have fX90 := X9.out.cell 0 rfl; have fX91 := X9.out.cell 1 rfl; have fX110 := X11.out.cell 0 rfl; have fX111 := X11.out.cell 1 rfl
  go_wp2_with fail
  clear fX50 fX51 fX90 fX91 fX110 fX111
  refine (HLd.out _ S4.out).mono ?_
  rintro e w8 ⟨A7, n7, c7, rfl, L7, O7, k8⟩
  replace X5 := Lib.hid (X5.out.step k8)
  replace X9 := Lib.hid (X9.out.step k8)
  replace X11 := Lib.hid (X11.out.step k8)
  replace S1 := Lib.hid (S1.out.below k8)
  replace SP := Lib.hid (SP.out.below k8)
  replace SF := Lib.hid (SF.out.below k8)
  replace S4 := Lib.hid (S4.out.below k8)
  replace S5 := Lib.hid (S5.out.below k8)
  replace S6 := Lib.hid (S6.out.below k8)
  replace HB := Lib.hid (bt HB.out k8)
  clear k8
  have S7 := Lib.hid (O7.out.reads)
  obtain rfl : n7 = 17 := by rw [← L7.out]; exact HO17.out.2
  clear HLd O7
  obtain ⟨r2, g2, z2, sl2, y1, y2, y3, -, -⟩ := HQ.out.1.commit2 (ps := ps) (by have := HQ.out.2; omega) HPs.out.1 HPs.out.2
  have HCy := Lib.hid (fun W (q : StrL W A4 r) (q' : StrL W P ps) => implCommit A4 C4 P 48 c4 0 d4 17 cp r ps [] 100 W L4.out rfl HPs.out.1 M17.out.2.1 M17.out.2.2 M17.out.1 q (wrl_nil _ _) q' HQ.out.1.fit fitW_nil (fit_of HPs.out.2))
  rw [y1] at HCy
  have HY := Lib.hid (And.intro y2 y3)
  clear y1 y2 y3
  have fX50 := X5.out.cell 0 rfl; have fX51 := X5.out.cell 1 rfl; have fX90 := X9.out.cell 0 rfl; have fX91 := X9.out.cell 1 rfl; have fX110 := X11.out.cell 0 rfl; have fX111 := X11.out.cell 1 rfl
  go_wp2_with fail
  clear fX50 fX51 fX90 fX91 fX110 fX111
  refine (HCy.out _ S4.out SP.out).mono ?_
  rintro e w13 ⟨A8, n8, c8, C8, m8, d8, rfl, L8, M8, O8, -, k13⟩
  replace X5 := Lib.hid (X5.out.step k13)
  replace X9 := Lib.hid (X9.out.step k13)
  replace X11 := Lib.hid (X11.out.step k13)
  replace S1 := Lib.hid (S1.out.below k13)
  replace SP := Lib.hid (SP.out.below k13)
  replace SF := Lib.hid (SF.out.below k13)
  replace S4 := Lib.hid (S4.out.below k13)
  replace S5 := Lib.hid (S5.out.below k13)
  replace S6 := Lib.hid (S6.out.below k13)
  replace S7 := Lib.hid (S7.out.below k13)
  replace HB := Lib.hid (bt HB.out k13)
  clear k13
  obtain rfl : m8 = 0 := M8.out.symm
  obtain rfl : n8 = 48 := by rw [← L8.out]; exact HY.out.1.small.1
  have S8 := Lib.hid O8.out.reads
  clear M8 O8 HCy
  obtain ⟨V4, hW⟩ : ∃ V4, V4 = w13.alloc (.cells #[.slice A8 48 c8, .slice C8 0 d8] 26) := ⟨_, rfl⟩
  have ka : Below w13.heap.size w13 V4 := by rw [hW]; exact alloc_below _ _
  replace X5 := Lib.hid (X5.out.step ka)
  replace X9 := Lib.hid (X9.out.step ka)
  replace X11 := Lib.hid (X11.out.step ka)
  replace S1 := Lib.hid (S1.out.below ka)
  replace SP := Lib.hid (SP.out.below ka)
  replace SF := Lib.hid (SF.out.below ka)
  replace S4 := Lib.hid (S4.out.below ka)
  replace S5 := Lib.hid (S5.out.below ka)
  replace S6 := Lib.hid (S6.out.below ka)
  replace S7 := Lib.hid (S7.out.below ka)
  replace S8 := Lib.hid (S8.out.below ka)
  replace HB := Lib.hid (bt HB.out ka)
  have X17 : Hid (Box V4 w13.heap.size 26 #[.slice A8 48 c8, .slice C8 0 d8]) := Lib.hid (by rw [hW]; exact Box.new _ _ _)
  clear ka
  have HLd := Lib.hid (fun W (q : StrL W A8 r2) => implLoad A8 C8 48 c8 0 d8 r2 [] W L8.out rfl M17.out.2.1 M17.out.2.2 q (wrl_nil _ _) HY.out.1.fit fitW_nil)
  rw [HY.out.1.load, HY.out.2] at HLd
  have fX50 := X5.out.cell 0 rfl; have fX51 := X5.out.cell 1 rfl; have fX90 := X9.out.cell 0 rfl; have fX91 := X9.out.cell 1 rfl; have fX110 := X11.out.cell 0 rfl; have fX111 := X11.out.cell 1 rfl; have fX170 := X17.out.cell 0 rfl; have fX171 := X17.out.cell 1 rfl
  rw [hW] at fX50 fX51 fX90 fX91 fX110 fX111 fX170 fX171
  go_wp2_with fail
  rw [← hW]
  clear hW
  obtain ⟨D17, hD⟩ : ∃ D17, D17 = w13.heap.size := ⟨_, rfl⟩
  rw [← hD] at X17 ⊢
  clear hD
  clear fX50 fX51 fX90 fX91 fX110 fX111 fX170 fX171
  refine (HLd.out _ S8.out).mono ?_
  rintro e w14 ⟨A9, n9, c9, rfl, L9, O9, k14⟩
  replace X5 := Lib.hid (X5.out.step k14)
  replace X9 := Lib.hid (X9.out.step k14)
  replace X11 := Lib.hid (X11.out.step k14)
  replace X17 := Lib.hid (X17.out.step k14)
  replace S1 := Lib.hid (S1.out.below k14)
  replace SP := Lib.hid (SP.out.below k14)
  replace SF := Lib.hid (SF.out.below k14)
  replace S4 := Lib.hid (S4.out.below k14)
  replace S5 := Lib.hid (S5.out.below k14)
  replace S6 := Lib.hid (S6.out.below k14)
  replace S7 := Lib.hid (S7.out.below k14)
  replace S8 := Lib.hid (S8.out.below k14)
  replace HB := Lib.hid (bt HB.out k14)
  clear k14
  have S9 := Lib.hid (O9.out.reads)
  obtain rfl : n9 = 17 := by rw [← L9.out]; exact HPs.out.1
  clear HLd O9
  have fX50 := X5.out.cell 0 rfl; have fX51 := X5.out.cell 1 rfl; have fX90 := X9.out.cell 0 rfl; have fX91 := X9.out.cell 1 rfl; have fX110 := X11.out.cell 0 rfl; have fX111 := X11.out.cell 1 rfl; have fX170 := X17.out.cell 0 rfl; have fX171 := X17.out.cell 1 rfl
  go_wp2_with fail
  clear fX50 fX51 fX90 fX91 fX110 fX111 fX170 fX171
  refine (sameDiskT A4 A5 C4 C5 48 c4 c5 0 d4 d5 r [] _ L4.out rfl (by omega) (by omega) S4.out S5.out (wrl_nil _ _) (wrl_nil _ _)).mono ?_
  rintro e w15 ⟨rfl, k15⟩
  replace X5 := Lib.hid (X5.out.step k15)
  replace X9 := Lib.hid (X9.out.step k15)
  replace X11 := Lib.hid (X11.out.step k15)
  replace X17 := Lib.hid (X17.out.step k15)
  replace S1 := Lib.hid (S1.out.below k15)
  replace SP := Lib.hid (SP.out.below k15)
  replace SF := Lib.hid (SF.out.below k15)
  replace S4 := Lib.hid (S4.out.below k15)
  replace S5 := Lib.hid (S5.out.below k15)
  replace S6 := Lib.hid (S6.out.below k15)
  replace S7 := Lib.hid (S7.out.below k15)
  replace S8 := Lib.hid (S8.out.below k15)
  replace S9 := Lib.hid (S9.out.below k15)
  replace HB := Lib.hid (bt HB.out k15)
  clear k15
  have fX50 := X5.out.cell 0 rfl; have fX51 := X5.out.cell 1 rfl; have fX90 := X9.out.cell 0 rfl; have fX91 := X9.out.cell 1 rfl; have fX110 := X11.out.cell 0 rfl; have fX111 := X11.out.cell 1 rfl; have fX170 := X17.out.cell 0 rfl; have fX171 := X17.out.cell 1 rfl
  go_wp2_with fail
  clear fX50 fX51 fX90 fX91 fX110 fX111 fX170 fX171
  refine (sameTexts A9 P 17 c9 cp ps _ HPs.out.1 (by omega) S9.out SP.out).mono ?_
  rintro e w16 ⟨rfl, k16⟩
  replace X5 := Lib.hid (X5.out.step k16)
  replace X9 := Lib.hid (X9.out.step k16)
  replace X11 := Lib.hid (X11.out.step k16)
  replace X17 := Lib.hid (X17.out.step k16)
  replace S1 := Lib.hid (S1.out.below k16)
  replace SP := Lib.hid (SP.out.below k16)
  replace SF := Lib.hid (SF.out.below k16)
  replace S4 := Lib.hid (S4.out.below k16)
  replace S5 := Lib.hid (S5.out.below k16)
  replace S6 := Lib.hid (S6.out.below k16)
  replace S7 := Lib.hid (S7.out.below k16)
  replace S8 := Lib.hid (S8.out.below k16)
  replace S9 := Lib.hid (S9.out.below k16)
  replace HB := Lib.hid (bt HB.out k16)
  clear k16
  rcases (by omega : v = 0 ∨ v = 1 ∨ v = 2) with hv0 | hv0 | hv0
  · subst hv0
    have HE : Hid (loadL r [] z' = loadL ss [] z) := Lib.hid (HQ3.out.elim (fun q => q.2) (fun q => absurd rfl q.1))
    clear hv HQ3
    have fX50 := X5.out.cell 0 rfl; have fX51 := X5.out.cell 1 rfl; have fX90 := X9.out.cell 0 rfl; have fX91 := X9.out.cell 1 rfl; have fX110 := X11.out.cell 0 rfl; have fX111 := X11.out.cell 1 rfl; have fX170 := X17.out.cell 0 rfl; have fX171 := X17.out.cell 1 rfl
    go_wp2_with fail
    clear fX50 fX51 fX90 fX91 fX110 fX111 fX170 fX171
    refine (sameTexts A7 A6 17 c7 c6 (loadL ss [] z) _ HO17.out.1 (by omega) (by rw [← HE.out]; exact S7.out) S6.out).mono ?_
    rintro e w17 ⟨rfl, k17⟩
    replace X5 := Lib.hid (X5.out.step k17)
    replace X9 := Lib.hid (X9.out.step k17)
    replace X11 := Lib.hid (X11.out.step k17)
    replace X17 := Lib.hid (X17.out.step k17)
    replace S1 := Lib.hid (S1.out.below k17)
    replace SP := Lib.hid (SP.out.below k17)
    replace SF := Lib.hid (SF.out.below k17)
    replace S4 := Lib.hid (S4.out.below k17)
    replace S5 := Lib.hid (S5.out.below k17)
    replace S6 := Lib.hid (S6.out.below k17)
    replace S7 := Lib.hid (S7.out.below k17)
    replace S8 := Lib.hid (S8.out.below k17)
    replace S9 := Lib.hid (S9.out.below k17)
    replace HB := Lib.hid (bt HB.out k17)
    clear k17
    go_wp2
    go_ret
    exact ⟨rfl, HB.out⟩
  · subst hv0
    clear hv
    have fX50 := X5.out.cell 0 rfl; have fX51 := X5.out.cell 1 rfl; have fX90 := X9.out.cell 0 rfl; have fX91 := X9.out.cell 1 rfl; have fX110 := X11.out.cell 0 rfl; have fX111 := X11.out.cell 1 rfl; have fX170 := X17.out.cell 0 rfl; have fX171 := X17.out.cell 1 rfl
    go_wp2_with fail
    clear fX50 fX51 fX90 fX91 fX110 fX111 fX170 fX171
    refine (sameTextsB A7 A6 17 c7 c6 (loadL r [] z') (loadL ss [] z) _ HO17.out.2 HO17.out.1 (by omega) S7.out S6.out).mono ?_
    rintro e w17 ⟨rfl, k17⟩
    replace X5 := Lib.hid (X5.out.step k17)
    replace X9 := Lib.hid (X9.out.step k17)
    replace X11 := Lib.hid (X11.out.step k17)
    replace X17 := Lib.hid (X17.out.step k17)
    replace S1 := Lib.hid (S1.out.below k17)
    replace SP := Lib.hid (SP.out.below k17)
    replace SF := Lib.hid (SF.out.below k17)
    replace S4 := Lib.hid (S4.out.below k17)
    replace S5 := Lib.hid (S5.out.below k17)
    replace S6 := Lib.hid (S6.out.below k17)
    replace S7 := Lib.hid (S7.out.below k17)
    replace S8 := Lib.hid (S8.out.below k17)
    replace S9 := Lib.hid (S9.out.below k17)
    replace HB := Lib.hid (bt HB.out k17)
    clear k17
    by_cases hd : loadL r [] z' = loadL ss [] z
    · have HD : Hid (decide (loadL r [] z' = loadL ss [] z) = true) := Lib.hid (decide_eq_true hd)
      rw [HD.out]
      clear hd HD HQ3
      go_wp2
      go_ret
      exact ⟨rfl, HB.out⟩
    · have HD : Hid (decide (loadL r [] z' = loadL ss [] z) = false) := Lib.hid (decide_eq_false hd)
      have HE : Hid (loadL r [] z' = ps) := Lib.hid (HQ3.out.elim (fun q => absurd q.2 hd) (fun q => q.2))
      rw [HD.out]
      clear hd HD HQ3
      have fX50 := X5.out.cell 0 rfl; have fX51 := X5.out.cell 1 rfl; have fX90 := X9.out.cell 0 rfl; have fX91 := X9.out.cell 1 rfl; have fX110 := X11.out.cell 0 rfl; have fX111 := X11.out.cell 1 rfl; have fX170 := X17.out.cell 0 rfl; have fX171 := X17.out.cell 1 rfl
      go_wp2_with fail
      clear fX50 fX51 fX90 fX91 fX110 fX111 fX170 fX171
      refine (sameTexts A7 P 17 c7 cp ps _ HPs.out.1 (by omega) (by rw [← HE.out]; exact S7.out) SP.out).mono ?_
      rintro e w18 ⟨rfl, k18⟩
      replace X5 := Lib.hid (X5.out.step k18)
      replace X9 := Lib.hid (X9.out.step k18)
      replace X11 := Lib.hid (X11.out.step k18)
      replace X17 := Lib.hid (X17.out.step k18)
      replace S1 := Lib.hid (S1.out.below k18)
      replace SP := Lib.hid (SP.out.below k18)
      replace SF := Lib.hid (SF.out.below k18)
      replace S4 := Lib.hid (S4.out.below k18)
      replace S5 := Lib.hid (S5.out.below k18)
      replace S6 := Lib.hid (S6.out.below k18)
      replace S7 := Lib.hid (S7.out.below k18)
      replace S8 := Lib.hid (S8.out.below k18)
      replace S9 := Lib.hid (S9.out.below k18)
      replace HB := Lib.hid (bt HB.out k18)
      clear k18
      go_wp2
      go_ret
      exact ⟨rfl, HB.out⟩
  · subst hv0
    have HE : Hid (loadL r [] z' = ps) := Lib.hid (HQ3.out.elim (fun q => absurd rfl q.1) (fun q => q.2))
    clear hv HQ3
    have fX50 := X5.out.cell 0 rfl; have fX51 := X5.out.cell 1 rfl; have fX90 := X9.out.cell 0 rfl; have fX91 := X9.out.cell 1 rfl; have fX110 := X11.out.cell 0 rfl; have fX111 := X11.out.cell 1 rfl; have fX170 := X17.out.cell 0 rfl; have fX171 := X17.out.cell 1 rfl
    go_wp2_with fail
    clear fX50 fX51 fX90 fX91 fX110 fX111 fX170 fX171
    refine (sameTexts A7 P 17 c7 cp ps _ HPs.out.1 (by omega) (by rw [← HE.out]; exact S7.out) SP.out).mono ?_
    rintro e w17 ⟨rfl, k17⟩
    replace X5 := Lib.hid (X5.out.step k17)
    replace X9 := Lib.hid (X9.out.step k17)
    replace X11 := Lib.hid (X11.out.step k17)
    replace X17 := Lib.hid (X17.out.step k17)
    replace S1 := Lib.hid (S1.out.below k17)
    replace SP := Lib.hid (SP.out.below k17)
    replace SF := Lib.hid (SF.out.below k17)
    replace S4 := Lib.hid (S4.out.below k17)
    replace S5 := Lib.hid (S5.out.below k17)
    replace S6 := Lib.hid (S6.out.below k17)
    replace S7 := Lib.hid (S7.out.below k17)
    replace S8 := Lib.hid (S8.out.below k17)
    replace S9 := Lib.hid (S9.out.below k17)
    replace HB := Lib.hid (bt HB.out k17)
    clear k17
    go_wp2
    go_ret
    exact ⟨rfl, HB.out⟩
end Go.Proofs.Ytcchhbkbnbphhaa
