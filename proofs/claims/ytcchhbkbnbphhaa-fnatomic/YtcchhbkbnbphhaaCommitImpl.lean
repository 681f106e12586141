/- The contract of impl.Commit. -/
import Derived.Test.YtcchhbkbnbphhaaM8
import Derived.Test.YtcchhbkbnbphhaaPlan
import Derived.Test.YtcchhbkbnbphhaaM7
import Derived.Test.YtcchhbkbnbphhaaSettleW
import Derived.Deep.RegionHeld3
namespace Go.Proofs.Ytcchhbkbnbphhaa
open Go.RowKit

theorem gives_stored {w w1 w2 : World} {A2 C2 : Option Addr} {n2 c2 m2 d2 : Nat} {rs : List ByteArray} {code : Int} (hb : Below w.heap.size w w1) (hy : w.heap.size + 1 < w1.heap.size) (hb2 : Below w1.heap.size w1 w2) (L : rs.length = n2) (M : ([] : List (Int × ByteArray)).length = m2) (S2 : OwnS w2 w1.heap.size w2.heap.size A2 rs) :
    GivesDiskCode rs [] code w (.returned (.tuple #[.agg #[.slice A2 n2 c2, .slice C2 m2 d2], .int .i64 code])) ((w2.setCell ⟨w.heap.size + 1, 0, none⟩ (.slice A2 n2 c2)).setCell ⟨w.heap.size + 1, 1, none⟩ (.slice C2 m2 d2)) :=
  ⟨_, _, _, _, _, _, rfl, Lib.hid L, Lib.hid M, Lib.hid (own_stored hb hy S2), Lib.hid (.inl rfl), below_stored (bt hb hb2)⟩

theorem commit_ask {ss ps : List ByteArray} {ws : List (Int × ByteArray)} {bud : Int} (h : askC ps ss ws ≠ 0) : commitOf ss ws ps bud = ([], askC ps ss ws) := by unfold commitOf; rw [if_pos h]
theorem commit_range {ss ps : List ByteArray} {ws : List (Int × ByteArray)} {bud : Int} (h : askC ps ss ws = 0) (h2 : ¬ (0 ≤ bud ∧ bud ≤ 1000)) : commitOf ss ws ps bud = ([], 4) := by unfold commitOf; rw [if_neg (by omega), if_pos h2]
theorem commit_code {ss ps : List ByteArray} {ws : List (Int × ByteArray)} {bud : Int} (h : askC ps ss ws = 0) (h2 : 0 ≤ bud ∧ bud ≤ 1000) (h3 : (planOf ss ps).2 ≠ 0) : commitOf ss ws ps bud = (ss, (planOf ss ps).2) := by unfold commitOf; rw [if_neg (by omega), if_neg (by omega), if_pos h3]
theorem commit_few {ss ps : List ByteArray} {ws : List (Int × ByteArray)} {u : Nat} (h : askC ps ss ws = 0) (h2 : u ≤ 1000) (h3 : (planOf ss ps).2 = 0) (h4 : u < (planOf ss ps).1.length) : commitOf ss ws ps u = (settleN ss ((planOf ss ps).1.take u) [1] u, 10) := by
  unfold commitOf; rw [if_neg (by omega), if_neg (by omega), if_neg (by omega), if_pos (by omega)]; rfl
theorem commit_all {ss ps : List ByteArray} {ws : List (Int × ByteArray)} {u : Nat} (h : askC ps ss ws = 0) (h2 : u ≤ 1000) (h3 : (planOf ss ps).2 = 0) (h4 : (planOf ss ps).1.length ≤ u) : commitOf ss ws ps u = (twoN ss (planOf ss ps).1 [1] [1], 0) := by
  unfold commitOf; rw [if_neg (by omega), if_neg (by omega), if_neg (by omega), if_neg (by omega)]

set_option maxRecDepth 100000 in
set_option maxHeartbeats 8000000 in
theorem implCommit (A C P : Option Addr) (n c m d k f : Nat) (ss ps : List ByteArray) (ws : List (Int × ByteArray)) (bud : Int) (w : World) (hl : ss.length = n) (hm : ws.length = m) (hk : ps.length = k) (hn : n ≤ maxLen) (hmm : m ≤ maxLen) (hkk : k ≤ maxLen) (h : StrL w A ss) (g : WrL w C ws) (i : StrL w P ps) (fs : FitS ss) (fw : FitW ws) (fp : FitS ps) :
    Calls Try.prog 11 #[.agg #[.slice A n c, .slice C m d], .slice P k f, .int .i64 bud] w (GivesDiskCode (commitOf ss ws ps bud).1 [] (commitOf ss ws ps bud).2 w) := by
  obtain ⟨W0, hW0⟩ : ∃ W0, W0 = ((w.alloc (.cells #[.slice A n c, .slice C m d] 26)).alloc (.cells #[.slice none 0 0, .slice none 0 0] 26)) := ⟨_, rfl⟩
  have hb0 : Below w.heap.size w W0 := by rw [hW0]; exact bt (alloc_below _ _) (alloc_below _ _)
  have X0 : Hid (Box W0 w.heap.size 26 #[.slice A n c, .slice C m d]) := Lib.hid (by rw [hW0]; exact (Box.new _ _ _).alloc _)
  have Y0 : Hid (Box W0 (w.heap.size + 1) 26 #[.slice none 0 0, .slice none 0 0]) := Lib.hid (by rw [hW0]; simpa using Box.new (w.alloc (.cells #[.slice A n c, .slice C m d] 26)) 26 #[.slice none 0 0, .slice none 0 0])
  have HC := Lib.hid (checkCommit A C P n c m d k f ss ps ws W0 hl hm hk hn hmm hkk (h.below hb0) (g.below hb0) (i.below hb0) fs fw fp)
  have H := Lib.hid (And.intro (And.intro hl (And.intro hm hk)) (And.intro h i))
  obtain ⟨r, hr⟩ : ∃ r, commitOf ss ws ps bud = r := ⟨_, rfl⟩
  rw [hr]
  have HR := Lib.hid hr
  have HW0 := Lib.hid hW0
  clear hl hm hk hn hmm hkk h g i fs fw fp hW0 hr
  go_enter Try.func11, Try.ntmps11
  go_wp2_with fail
  rw [← HW0.out]
  refine HC.out.mono ?_
  rintro e w1 ⟨rfl, hb1⟩
  have hb := bt hb0 hb1
  have X1 := Lib.hid (X0.out.step hb1)
  have Y1 := Lib.hid (Y0.out.step hb1)
  have s0 := Y1.out.cell 0 rfl
  have s1 := Y1.out.cell 1 rfl
  have s0z := Y1.out.frozen 0
  have s1z := Y1.out.frozen 1
  have HYl : Hid (w.heap.size + 1 < w1.heap.size) := Lib.hid Y1.out.lt
  clear X0 Y0 HC HW0
  by_cases ha : askC ps ss ws = 0
  · have hcb : (askC ps ss ws != 0) = false := by simp [ha]
    by_cases hbd : 0 ≤ bud ∧ bud ≤ 1000
    · obtain ⟨hp17, hps, hok, rfl⟩ := askC_zero ha
      obtain rfl : m = 0 := by have := H.out.1.2.1; simpa using this.symm
      obtain rfl : k = 17 := by have := H.out.1.2.2; omega
      obtain ⟨u, rfl⟩ : ∃ u : Nat, bud = u := ⟨bud.toNat, by omega⟩
      have hu : u ≤ 1000 := by omega
      have hu0 : ¬ ((u : Int) < 0) := by omega
      have hu1 : ¬ ((1000 : Int) < (u : Int)) := by omega
      have HP := Lib.hid (planI A C P n c d f ss ps w1 H.out.1.1 hp17 hok (H.out.2.1.below hb) (H.out.2.2.below hb))
      have HOk := Lib.hid (plan_ok hok hps)
      have HO := Lib.hid hok
      have HFew := Lib.hid (fun h3 h4 => commit_few (ss := ss) (ps := ps) (ws := []) ha hu h3 h4)
      have HAll := Lib.hid (fun h3 h4 => commit_all (ss := ss) (ps := ps) (ws := []) ha hu h3 h4)
      have HCd := Lib.hid (fun h3 => commit_code (ss := ss) (ps := ps) (ws := []) (bud := u) ha hbd h3)
      rw [HR.out] at HFew HAll HCd
      have f0 := X1.out.cell 0 rfl
      have f1 := X1.out.cell 1 rfl
      generalize askC ps ss [] = ac at hcb
      generalize planOf ss ps = pl at HP HOk HFew HAll HCd
      obtain ⟨ls, code⟩ := pl
      have HN := Lib.hid H.out.1.1
      have HA := Lib.hid H.out.2.1
      have n48 : Hid (n ≤ 1048576) := Lib.hid (by have := (ok_of HO.out).n48; have := H.out.1.1; omega)
      clear HR ha hbd hok hps hp17 H
      go_wp2_with fail
      refine HP.out.mono ?_
      rintro e w2 ⟨B, kk, ff, rfl, HK, HF, HWr, hb2⟩
      replace HK : Hid (ls.length = kk) := HK
      replace HWr : Hid (WrL w2 B ls) := HWr
      replace HOk : Hid (Ok ss ls ∧ ls.length ≤ 18) := HOk
      have hb12 := bt hb hb2
      have X2 := Lib.hid (X1.out.step hb2)
      have Y2 := Lib.hid (Y1.out.step hb2)
      have HYl2 : Hid (w.heap.size + 1 < w2.heap.size) := Lib.hid Y2.out.lt
      clear f0 f1 s0 s1 s0z s1z HP X1 Y1
      have f0 := X2.out.cell 0 rfl
      have f1 := X2.out.cell 1 rfl
      have hkk : kk ≤ 18 := by have := HK.out; have := HOk.out.2; omega
      by_cases hc : code = 0
      · subst hc
        have hcz : ((0 : Int) != 0) = false := rfl
        by_cases hlt : u < kk
        · have hlt' : (u : Int) < (kk : Int) := by omega
          have HRz : Hid (r = (settleN ss (ls.take u) [1] u, 10)) := Lib.hid (HFew.out rfl (by have := HK.out; omega))
          obtain ⟨b, rfl⟩ : ∃ b, B = some ⟨b, 0, none⟩ := by rcases HF.out with ⟨q, _⟩ | ⟨_, _, q⟩ <;> first | omega | exact q
          have hff : kk ≤ ff := by rcases HF.out with ⟨q, _⟩ | ⟨_, q, _⟩ <;> omega
          have e1 : (u : Int) ≤ (ff : Int) := by omega
          have e2 : u ≤ ff := by omega
          have e3 : (u : Int) ≤ (kk : Int) := by omega
          have HFl := Lib.hid (fun W (q : Below w2.heap.size w2 W) => flushWrites A C (some ⟨b, 0, none⟩) n c d u ff ss (ls.take u) W HN.out (by rw [List.length_take]; have := HK.out; omega) (HA.out.below (bt hb12 q)) ((HWr.out.below q).take u) (HOk.out.1.take u))
          have h6 : Below w2.heap.size w2 w2.drew := (Below.refl _ _).drew
          have HX2 := Lib.hid X2.out
          clear HFew HAll HCd HK HF HWr HOk
          go_wp2
          go_region_held3 (fun W' => W'.cell? ⟨w.heap.size, 0, none⟩ = some (.slice A n c) ∧ W'.cell? ⟨w.heap.size, 1, none⟩ = some (.slice C 0 d))
            (first | exact ⟨(HX2.out.step h6).cell 0 rfl, (HX2.out.step h6).cell 1 rfl⟩ | exact ⟨(HX2.out.step (bt h6 hb3)).cell 0 rfl, (HX2.out.step (bt h6 hb3)).cell 1 rfl⟩ | exact ⟨(((HX2.out.step (bt h6 hb3)).far (p := ⟨w.heap.size + 1, 0, none⟩) (by show w.heap.size ≠ w.heap.size + 1; omega) _).far (p := ⟨w.heap.size + 1, 1, none⟩) (by show w.heap.size ≠ w.heap.size + 1; omega) _).cell 0 rfl, (((HX2.out.step (bt h6 hb3)).far (p := ⟨w.heap.size + 1, 0, none⟩) (by show w.heap.size ≠ w.heap.size + 1; omega) _).far (p := ⟨w.heap.size + 1, 1, none⟩) (by show w.heap.size ≠ w.heap.size + 1; omega) _).cell 1 rfl⟩)
            (first | (go_at_call 34; refine (HFl.out _ h6).mono ?_; rintro e w3 ⟨A3, n3, c3, C3, m3, d3, rfl, L3, M3, S3, R3, hb3⟩; have Y3 := Y2.out.step (bt h6 hb3); have t0 := Y3.cell 0 rfl; have t1 := Y3.cell 1 rfl; have t0z := Y3.frozen 0; have t1z := Y3.frozen 1))
          all_goals (
            go_wp2
            refine bodyPost_ret (v := .tuple #[.agg #[.slice A3 n3 c3, .slice C3 m3 d3], .int .i64 10]) (by simp [results, Try.results11, go_sem, t0, t1]) rfl ?_
            rw [HRz.out]
            exact gives_stored (bt hb12 h6) HYl2.out hb3 L3.out M3.out S3.out)
        · have hlt' : ¬ ((u : Int) < (kk : Int)) := by omega
          have HRz : Hid (r = (twoN ss ls [1] [1], 0)) := Lib.hid (HAll.out rfl (by have := HK.out; omega))
          by_cases hz : kk = 0
          · subst hz
            obtain ⟨rfl, rfl⟩ : B = none ∧ ff = 0 := by rcases HF.out with ⟨_, q⟩ | ⟨q, _⟩ <;> first | exact q | omega
            obtain rfl : ls = [] := List.eq_nil_of_length_eq_zero HK.out
            have HSp := Lib.hid (splitNone w2)
            have HNil : Hid (Ok ss ([] : List (Int × ByteArray))) := Lib.hid HOk.out.1
            clear HFew HAll HCd HK HF HOk
            go_wp2_with fail
            refine HSp.out.mono ?_
            rintro e w3 ⟨rfl, hb3⟩
            have HFl := Lib.hid (flushWrites A C none n c d 0 0 ss [] w3 HN.out rfl (HA.out.below (bt hb12 hb3)) (HWr.out.below hb3) HNil.out)
            have X3 := Lib.hid (X2.out.step hb3)
            clear f0 f1
            have f0 := X3.out.cell 0 rfl
            have f1 := X3.out.cell 1 rfl
            go_wp2_with fail
            refine HFl.out.mono ?_
            rintro e w4 ⟨A4, n4, c4, C4, m4, d4, rfl, L4, M4, S4, R4, hb4⟩
            obtain rfl : m4 = 0 := by have := M4.out; simpa using this.symm
            have HFl2 := Lib.hid (flushWrites A4 C4 none n4 c4 d4 0 0 (settleN ss [] [1] 0) [] w4 L4.out rfl S4.out.reads (fun i hi => by simp at hi) HNil.out)
            go_wp2_with fail
            refine HFl2.out.mono ?_
            rintro e w5 ⟨A5, n5, c5, C5, m5, d5, rfl, L5, M5, S5, R5, hb5⟩
            have Y5 := Y2.out.step (bt (bt hb3 hb4) hb5)
            have t0 := Y5.cell 0 rfl
            have t1 := Y5.cell 1 rfl
            have t0z := Y5.frozen 0
            have t1z := Y5.frozen 1
            have HYl4 : Hid (w.heap.size + 1 < w4.heap.size) := Lib.hid (Y2.out.step (bt hb3 hb4)).lt
            clear Y5 f0 f1
            go_wp2
            refine bodyPost_ret (v := .tuple #[.agg #[.slice A5 n5 c5, .slice C5 m5 d5], .int .i64 0]) (by simp [results, Try.results11, go_sem, t0, t1]) rfl ?_
            rw [HRz.out]
            exact gives_stored (bt (bt hb12 hb3) hb4) HYl4.out hb5 L5.out M5.out S5.out
          · obtain ⟨b, rfl⟩ : ∃ b, B = some ⟨b, 0, none⟩ := by rcases HF.out with ⟨q, _⟩ | ⟨_, _, q⟩ <;> first | omega | exact q
            have hff : kk ≤ ff := by rcases HF.out with ⟨q, _⟩ | ⟨_, q, _⟩ <;> omega
            obtain ⟨j, rfl⟩ : ∃ j, kk = j + 1 := ⟨kk - 1, by omega⟩
            have HSp := Lib.hid (splitSome b 0 j ff w2 (by omega) hff)
            have HL1 : Hid ((ls.take j).length = j ∧ (ls.drop j).length = 1) := Lib.hid (by rw [List.length_take, List.length_drop]; have := HK.out; omega)
            have HTw : Hid (twoN ss ls [1] [1] = settleN (settleN ss (ls.take j) [1] j) (ls.drop j) [1] 1) := Lib.hid (by
              unfold twoN
              rw [List.dropLast_eq_take, show ls.length - 1 = j by have := HK.out; omega, HL1.out.1, HL1.out.2])
            clear HFew HAll HCd HF
            go_wp2_with fail
            refine HSp.out.mono ?_
            rintro e w3 ⟨rfl, hb3⟩
            have HFl := Lib.hid (flushWrites A C (some ⟨b, 0, none⟩) n c d j ff ss (ls.take j) w3 HN.out HL1.out.1 (HA.out.below (bt hb12 hb3)) ((HWr.out.below hb3).take j) (HOk.out.1.take j))
            have X3 := Lib.hid (X2.out.step hb3)
            clear f0 f1
            have f0 := X3.out.cell 0 rfl
            have f1 := X3.out.cell 1 rfl
            go_wp2_with fail
            refine HFl.out.mono ?_
            rintro e w4 ⟨A4, n4, c4, C4, m4, d4, rfl, L4, M4, S4, R4, hb4⟩
            obtain rfl : m4 = 0 := by have := M4.out; simpa using this.symm
            have HOk2 : Hid (Ok (settleN ss (ls.take j) [1] j) (ls.drop j)) := Lib.hid (by
              have := (HOk.out.1.take j).settled [1] (HOk.out.1.drop j)
              rwa [HL1.out.1] at this)
            have HFl2 := Lib.hid (flushWrites A4 C4 (some ⟨b, j * 2, none⟩) n4 c4 d4 1 (ff - j) (settleN ss (ls.take j) [1] j) (ls.drop j) w4 L4.out HL1.out.2 S4.out.reads (by have := (HWr.out.below (bt hb3 hb4)).drop j; rwa [Nat.zero_add] at this) HOk2.out)
            go_wp2_with fail
            refine HFl2.out.mono ?_
            rintro e w5 ⟨A5, n5, c5, C5, m5, d5, rfl, L5, M5, S5, R5, hb5⟩
            have Y5 := Y2.out.step (bt (bt hb3 hb4) hb5)
            have t0 := Y5.cell 0 rfl
            have t1 := Y5.cell 1 rfl
            have t0z := Y5.frozen 0
            have t1z := Y5.frozen 1
            have HYl4 : Hid (w.heap.size + 1 < w4.heap.size) := Lib.hid (Y2.out.step (bt hb3 hb4)).lt
            clear Y5 f0 f1
            go_wp2
            refine bodyPost_ret (v := .tuple #[.agg #[.slice A5 n5 c5, .slice C5 m5 d5], .int .i64 0]) (by simp [results, Try.results11, go_sem, t0, t1]) rfl ?_
            rw [HRz.out, HTw.out]
            exact gives_stored (bt (bt hb12 hb3) hb4) HYl4.out hb5 L5.out M5.out S5.out
      · have hcz : (code != 0) = true := by simp [hc]
        have HRz : Hid (r = (ss, code)) := Lib.hid (HCd.out hc)
        have HCl := Lib.hid (clone A C n c 0 d ss [] w2 HN.out rfl n48.out (by omega) (HA.out.below hb12) (fun i hi => by simp at hi))
        clear HFew HAll HCd hc HK HF HWr HOk
        go_wp2_with fail
        refine HCl.out.mono ?_
        rintro e w3 ⟨b, b', rfl, HQ, hb3⟩
        have Y3 := Y2.out.step hb3
        have t0 := Y3.cell 0 rfl
        have t1 := Y3.cell 1 rfl
        have t0z := Y3.frozen 0
        have t1z := Y3.frozen 1
        have HS3 : Hid (OwnS w3 w2.heap.size w3.heap.size (some ⟨b, 0, none⟩) ss) := Lib.hid (own_of_rowS HN.out HQ.out.2.2.1 (by have := HQ.out.1; omega) HQ.out.2.2.1.lt)
        clear Y3 f0 f1
        go_wp2
        refine bodyPost_ret (v := .tuple #[.agg #[.slice (some ⟨b, 0, none⟩) n n, .slice (some ⟨b', 0, none⟩) 0 0], .int .i64 code]) (by simp [results, Try.results11, go_sem, t0, t1]) rfl ?_
        rw [HRz.out]
        exact gives_stored hb12 HYl2.out hb3 HN.out rfl HS3.out
    · have HRz : Hid (r = ([], 4)) := Lib.hid (by rw [← HR.out]; exact commit_range ha hbd)
      generalize askC ps ss ws = ac at hcb
      clear HR ha
      by_cases h1 : bud < 0
      · go_wp2
        refine bodyPost_ret (v := .tuple #[.agg #[.slice none 0 0, .slice none 0 0], .int .i64 4]) (by simp [results, Try.results11, go_sem, s0, s1]) rfl ?_
        rw [HRz.out]
        exact gives_none (below_stored hb)
      · have h2 : 1000 < bud := by omega
        go_wp2
        refine bodyPost_ret (v := .tuple #[.agg #[.slice none 0 0, .slice none 0 0], .int .i64 4]) (by simp [results, Try.results11, go_sem, s0, s1]) rfl ?_
        rw [HRz.out]
        exact gives_none (below_stored hb)
  · have hcb : (askC ps ss ws != 0) = true := by simp [ha]
    have HRz : Hid (r = ([], askC ps ss ws)) := Lib.hid (by rw [← HR.out]; exact commit_ask ha)
    generalize askC ps ss ws = ac at hcb HRz ha
    clear HR ha
    go_wp2
    refine bodyPost_ret (v := .tuple #[.agg #[.slice none 0 0, .slice none 0 0], .int .i64 ac]) (by simp [results, Try.results11, go_sem, s0, s1]) rfl ?_
    rw [HRz.out]
    exact gives_none (below_stored hb)
end Go.Proofs.Ytcchhbkbnbphhaa
