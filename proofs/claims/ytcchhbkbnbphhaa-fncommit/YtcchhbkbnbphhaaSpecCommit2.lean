/- The contract of spec.Commit. -/
import Derived.Test.YtcchhbkbnbphhaaSpecCommit
namespace Go.Proofs.Ytcchhbkbnbphhaa
open Go.RowKit

set_option maxRecDepth 100000 in
theorem l01In1000 (z : Int) (w : World) : Calls Try.prog 37 #[.int .i64 z, .int .i64 0, .int .i64 1000] w fun e w' => e = .returned (.bool (decide (0 ≤ z ∧ z ≤ 1000))) ∧ w = w' := by
  go_enter Try.func37, Try.ntmps37
  go_wp2
  all_goals go_ret
  all_goals (refine ⟨ret_bool ?_, rfl⟩)
  all_goals (rw [Bool.eq_iff_iff]; simp; try omega)
theorem askC_long {ps ss : List ByteArray} {ws : List (Int × ByteArray)} (h : 4096 < ps.length) : askC ps ss ws = 2 := by
  have : pagesC ps = 2 := by unfold pagesC; rw [if_pos h]
  unfold askC
  rw [this]
  rfl
theorem commit_small {ss ps : List ByteArray} {u : Nat} (ha : askC ps ss [] = 0) (hu : u ≤ 1000) : (commitOf ss [] ps u).1.length ≤ 48 := by
  obtain ⟨hp17, hps, hok, -⟩ := askC_zero ha
  have n48 := (ok_of hok).n48
  by_cases h3 : (planOf ss ps).2 = 0
  · by_cases h4 : u < (planOf ss ps).1.length
    · rw [commit_few ha hu h3 h4]; show (settleN _ _ _ _).length ≤ 48; rw [settleN_len]; omega
    · rw [commit_all ha hu h3 (by omega)]; show (twoN _ _ _ _).length ≤ 48; unfold twoN; rw [settleN_len, settleN_len]; omega
  · rw [commit_code ha ⟨by omega, by omega⟩ h3]; show ss.length ≤ 48; omega

set_option maxRecDepth 100000 in
set_option maxHeartbeats 8000000 in
theorem specCommit (A C P : Option Addr) (n c m d k f : Nat) (ss ps : List ByteArray) (ws : List (Int × ByteArray)) (bud : Int) (w : World) (hl : ss.length = n) (hm : ws.length = m) (hk : ps.length = k) (hn : n ≤ maxLen) (hmm : m ≤ maxLen) (hkk : k ≤ maxLen) (h : StrL w A ss) (g : WrL w C ws) (i : StrL w P ps) (fs : FitS ss) (fw : FitW ws) (fp : FitS ps) :
    Calls Try.prog 12 #[.agg #[.slice A n c, .slice C m d], .slice P k f, .int .i64 bud] w (GivesDiskCode (commitOf ss ws ps bud).1 [] (commitOf ss ws ps bud).2 w) := by
  obtain ⟨W0, hW0⟩ : ∃ W0, W0 = ((w.alloc (.cells #[.slice A n c, .slice C m d] 26)).alloc (.cells #[.slice none 0 0, .slice none 0 0] 26)) := ⟨_, rfl⟩
  have hb0 : Below w.heap.size w W0 := by rw [hW0]; exact bt (alloc_below _ _) (alloc_below _ _)
  have X0 : Hid (Box W0 w.heap.size 26 #[.slice A n c, .slice C m d]) := Lib.hid (by rw [hW0]; exact (Box.new _ _ _).alloc _)
  have Y0 : Hid (Box W0 (w.heap.size + 1) 26 #[.slice none 0 0, .slice none 0 0]) := Lib.hid (by rw [hW0]; simpa using Box.new (w.alloc (.cells #[.slice A n c, .slice C m d] 26)) 26 #[.slice none 0 0, .slice none 0 0])
  have HC := Lib.hid (specAsk A C P n c m d k f ss ps ws W0 hl hm hk hn hmm hkk (h.below hb0) (g.below hb0) (i.below hb0) fs fw fp)
  have H := Lib.hid (And.intro (And.intro hl (And.intro hm hk)) (And.intro h i))
  obtain ⟨r, hr⟩ : ∃ r, commitOf ss ws ps bud = r := ⟨_, rfl⟩
  rw [hr]
  have HR := Lib.hid hr
  have HW0 := Lib.hid hW0
  unfold maxLen at hkk
  clear hl hm hk hn hmm h g i fs fw fp hW0 hr
  by_cases hlong : 4096 < k
  · have HRz : Hid (r = ([], 2)) := Lib.hid (by
      have e := askC_long (ps := ps) (ss := ss) (ws := ws) (by rw [H.out.1.2.2]; exact hlong)
      rw [← HR.out, commit_ask (by rw [e]; decide), e])
    have hlong' : (4096 : Int) < (k : Int) := by omega
    clear HR HC H X0
    go_enter Try.func12, Try.ntmps12
    go_wp2
    refine bodyPost_ret (v := .tuple #[.agg #[.slice none 0 0, .slice none 0 0], .int .i64 2]) (by simp [results, Try.results12, go_sem]) rfl ?_
    rw [HRz.out]
    exact gives_none (bt (alloc_below _ _) (alloc_below _ _))
  have hlong' : ¬ (4096 : Int) < (k : Int) := by omega
  clear hlong
  go_enter Try.func12, Try.ntmps12
  go_wp2_with fail
  rw [← HW0.out]
  refine HC.out.mono ?_
  rintro e w1 ⟨rfl, hb1⟩
  have hb := bt hb0 hb1
  have X1 := Lib.hid (X0.out.step hb1)
  have Y1 := Lib.hid (Y0.out.step hb1)
  have s0 := Y1.out.cell 0 rfl
  have s1 := Y1.out.cell 1 rfl
  have s0z := Y1.out.frozen 0
  have s1z := Y1.out.frozen 1
  clear X0 Y0 HC HW0
  by_cases ha : askC ps ss ws = 0
  · have hcb : (askC ps ss ws != 0) = false := by simp [ha]
    by_cases hbd : 0 ≤ bud ∧ bud ≤ 1000
    · obtain ⟨hp17, hps, hok, rfl⟩ := askC_zero ha
      obtain rfl : m = 0 := by have := H.out.1.2.1; simpa using this.symm
      obtain rfl : k = 17 := by have := H.out.1.2.2; omega
      obtain ⟨u, rfl⟩ : ∃ u : Nat, bud = u := ⟨bud.toNat, by omega⟩
      have hu : u ≤ 1000 := by omega
      have HIn : Hid (decide (0 ≤ (u : Int) ∧ (u : Int) ≤ 1000) = true) := Lib.hid (decide_eq_true hbd)
      have HCm := Lib.hid (l02Commit A C P n c d f u ss ps w1 H.out.1.1 ha hu (H.out.2.1.below hb) (H.out.2.2.below hb))
      have HSm := Lib.hid (commit_small ha hu)
      rw [HR.out] at HCm HSm
      have f0 := X1.out.cell 0 rfl
      have f1 := X1.out.cell 1 rfl
      generalize askC ps ss [] = ac at hcb
      clear HR ha hbd hok hps hp17 H
      go_wp2_with (first | (go_at_call 37; refine (l01In1000 _ _).mono ?_; rintro e w' ⟨rfl, rfl⟩; rw [HIn.out]))
      refine HCm.out.mono ?_
      rintro e w2 ⟨A2, n2, c2, C2, d2, rfl, L2, S2, hb2⟩
      obtain ⟨w3, hw3⟩ : ∃ w3, w3 = w2.alloc (.cells #[.slice A2 n2 c2, .slice C2 0 d2] 26) := ⟨_, rfl⟩
      have k3 : Below w2.heap.size w2 w3 := by rw [hw3]; exact alloc_below _ _
      have HOw := Lib.hid (l01Own A2 C2 n2 c2 0 d2 r.1 [] w3 L2.out rfl (by have := HSm.out; have := L2.out; omega) (by omega) (S2.out.below k3) (fun i hi => by simp at hi))
      have hb3 := bt (bt hb hb2) k3
      have Y3 := Lib.hid ((Y1.out.step hb2).step k3)
      have HYl : Hid (w.heap.size + 1 < w3.heap.size) := Lib.hid Y3.out.lt
      have HW3 := Lib.hid hw3
      clear f0 f1 s0 s1 s0z s1z HCm hw3
      go_wp2_with fail
      rw [← HW3.out]
      refine HOw.out.mono ?_
      rintro e w4 ⟨A4, n4, c4, C4, m4, d4, rfl, L4, M4, S4, R4, k4⟩
      have Y4 := Y3.out.step k4
      have t0 := Y4.cell 0 rfl
      have t1 := Y4.cell 1 rfl
      have t0z := Y4.frozen 0
      have t1z := Y4.frozen 1
      clear Y4 HOw
      go_wp2
      refine bodyPost_ret (v := .tuple #[.agg #[.slice A4 n4 c4, .slice C4 m4 d4], .int .i64 r.2]) (by simp [results, Try.results12, go_sem, t0, t1]) rfl ?_
      exact gives_stored hb3 HYl.out k4 L4.out M4.out S4.out
    · have HRz : Hid (r = ([], 4)) := Lib.hid (by rw [← HR.out]; exact commit_range ha hbd)
      have HIn : Hid (decide (0 ≤ bud ∧ bud ≤ 1000) = false) := Lib.hid (decide_eq_false hbd)
      generalize askC ps ss ws = ac at hcb
      clear HR ha hbd
      go_wp2_with (first | (go_at_call 37; refine (l01In1000 _ _).mono ?_; rintro e w' ⟨rfl, rfl⟩; rw [HIn.out]))
      refine bodyPost_ret (v := .tuple #[.agg #[.slice none 0 0, .slice none 0 0], .int .i64 4]) (by simp [results, Try.results12, go_sem, s0, s1]) rfl ?_
      rw [HRz.out]
      exact gives_none (below_stored hb)
  · have hcb : (askC ps ss ws != 0) = true := by simp [ha]
    have HRz : Hid (r = ([], askC ps ss ws)) := Lib.hid (by rw [← HR.out]; exact commit_ask ha)
    generalize askC ps ss ws = ac at hcb HRz ha
    clear HR ha
    go_wp2
    refine bodyPost_ret (v := .tuple #[.agg #[.slice none 0 0, .slice none 0 0], .int .i64 ac]) (by simp [results, Try.results12, go_sem, s0, s1]) rfl ?_
    rw [HRz.out]
    exact gives_none (below_stored hb)
end Go.Proofs.Ytcchhbkbnbphhaa
