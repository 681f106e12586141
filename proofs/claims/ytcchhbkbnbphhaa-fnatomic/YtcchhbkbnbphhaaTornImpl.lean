/- The contract of impl.CommitTorn. Written by gen_tornimpl.py. -/
import Derived.Test.YtcchhbkbnbphhaaCommitImpl
namespace Go.Proofs.Ytcchhbkbnbphhaa
open Go.RowKit

section
variable {ss ps : List ByteArray} {ws : List (Int × ByteArray)} {ph : Int} {zs : List Int}
theorem torn_long (h : 4096 < zs.length) : tornOf ss ws ps ph zs = ([], 2) := by unfold tornOf; rw [if_pos h]
theorem torn_ask (h0 : ¬ 4096 < zs.length) (h : askC ps ss ws ≠ 0) : tornOf ss ws ps ph zs = ([], askC ps ss ws) := by unfold tornOf; rw [if_neg h0, if_pos h]
theorem torn_range (h0 : ¬ 4096 < zs.length) (h : askC ps ss ws = 0) (h2 : ¬ (fateB ph = true ∧ okF zs = true)) : tornOf ss ws ps ph zs = ([], 4) := by
  have : tornC ph zs = 4 := by unfold tornC; rw [if_neg h2]
  unfold tornOf; rw [if_neg h0, if_neg (by omega), this]; rfl
theorem torn_code (h0 : ¬ 4096 < zs.length) (h : askC ps ss ws = 0) (h2 : fateB ph = true ∧ okF zs = true) (h3 : (planOf ss ps).2 ≠ 0) : tornOf ss ws ps ph zs = (ss, (planOf ss ps).2) := by
  have : tornC ph zs = 0 := by unfold tornC; rw [if_pos h2]
  unfold tornOf; rw [if_neg h0, if_neg (by omega), if_neg (by omega), if_pos h3]
theorem torn_all (h0 : ¬ 4096 < zs.length) (h : askC ps ss ws = 0) (h2 : fateB ph = true ∧ okF zs = true) (h3 : (planOf ss ps).2 = 0) : tornOf ss ws ps ph zs = if ph = 0 then (settleN ss (planOf ss ps).1.dropLast zs (planOf ss ps).1.dropLast.length, 0) else
  if ph = 1 then (twoN ss (planOf ss ps).1 [1] zs, 0) else (twoN ss (planOf ss ps).1 [1] [1], 0) := by
  have : tornC ph zs = 0 := by unfold tornC; rw [if_pos h2]
  unfold tornOf; rw [if_neg h0, if_neg (by omega), if_neg (by omega), if_neg (by omega)]
end

theorem fateB_range {z : Int} (h : fateB z = true) : 0 ≤ z ∧ z ≤ 2 := by simpa [fateB] using h
set_option maxRecDepth 100000 in
set_option maxHeartbeats 8000000 in
theorem implTorn (A C P F : Option Addr) (n c m d k f nf cf : Nat) (ss ps : List ByteArray) (ws : List (Int × ByteArray)) (ph : Int) (zs : List Int) (w : World) (hl : ss.length = n) (hm : ws.length = m) (hk : ps.length = k) (hf : zs.length = nf) (hn : n ≤ maxLen) (hmm : m ≤ maxLen) (hkk : k ≤ maxLen) (hnf : nf ≤ maxLen) (h : StrL w A ss) (g : WrL w C ws) (i : StrL w P ps) (j : IntL w F zs) (fs : FitS ss) (fw : FitW ws) (fp : FitS ps) :
    Calls Try.prog 18 #[.agg #[.slice A n c, .slice C m d], .slice P k f, .int .i64 ph, .slice F nf cf] w (GivesDiskCode (tornOf ss ws ps ph zs).1 [] (tornOf ss ws ps ph zs).2 w) := by
  obtain ⟨W0, hW0⟩ : ∃ W0, W0 = ((w.alloc (.cells #[.slice A n c, .slice C m d] 26)).alloc (.cells #[.slice none 0 0, .slice none 0 0] 26)) := ⟨_, rfl⟩
  have hb0 : Below w.heap.size w W0 := by rw [hW0]; exact bt (alloc_below _ _) (alloc_below _ _)
  have X0 : Hid (Box W0 w.heap.size 26 #[.slice A n c, .slice C m d]) := Lib.hid (by rw [hW0]; exact (Box.new _ _ _).alloc _)
  have Y0 : Hid (Box W0 (w.heap.size + 1) 26 #[.slice none 0 0, .slice none 0 0]) := Lib.hid (by rw [hW0]; simpa using Box.new (w.alloc (.cells #[.slice A n c, .slice C m d] 26)) 26 #[.slice none 0 0, .slice none 0 0])
  have HC := Lib.hid (checkCommit A C P n c m d k f ss ps ws W0 hl hm hk hn hmm hkk (h.below hb0) (g.below hb0) (i.below hb0) fs fw fp)
  have HFt := Lib.hid (fun W (hb : Below w.heap.size w W) => allFates F nf cf zs W hf hnf (j.below hb))
  have H := Lib.hid (And.intro (And.intro hl (And.intro hm (And.intro hk (And.intro hf hnf)))) (And.intro h (And.intro i j)))
  obtain ⟨r, hr⟩ : ∃ r, tornOf ss ws ps ph zs = r := ⟨_, rfl⟩
  rw [hr]
  have HR := Lib.hid hr
  have HW0 := Lib.hid hW0
  unfold maxLen at hnf
  clear hl hm hk hf hn hmm hkk h g i j fs fw fp hW0 hr
  by_cases hlong : 4096 < nf
  · have HRz : Hid (r = ([], 2)) := Lib.hid (by rw [← HR.out]; exact torn_long (by rw [H.out.1.2.2.2.1]; exact hlong))
    have hlong' : (4096 : Int) < (nf : Int) := by omega
    clear HR HC HFt H X0
    go_enter Try.func18, Try.ntmps18
    go_wp2
    refine bodyPost_ret (v := .tuple #[.agg #[.slice none 0 0, .slice none 0 0], .int .i64 2]) (by simp [results, Try.results18, go_sem]) rfl ?_
    rw [HRz.out]
    exact gives_none (bt (alloc_below _ _) (alloc_below _ _))
  have hlong' : ¬ (4096 : Int) < (nf : Int) := by omega
  have HLg : Hid (¬ 4096 < zs.length) := Lib.hid (by rw [H.out.1.2.2.2.1]; exact hlong)
  clear hlong
  go_enter Try.func18, Try.ntmps18
  go_wp2_with fail
  rw [← HW0.out]
  refine HC.out.mono ?_
  rintro e w1 ⟨rfl, hb1⟩
  have hb := bt hb0 hb1
  have X1 := Lib.hid (X0.out.step hb1)
  have Y1 := Lib.hid (Y0.out.step hb1)
  have s0 := Y1.out.cell 0 rfl
  have s1 := Y1.out.cell 1 rfl
  have s0z := Y1.out.frozen 0
  have s1z := Y1.out.frozen 1
  have HYl : Hid (w.heap.size + 1 < w1.heap.size) := Lib.hid Y1.out.lt
  have HFx := Lib.hid (HFt.out w1 hb)
  clear X0 Y0 HC HW0 HFt
  by_cases ha : askC ps ss ws = 0
  · have hcb : (askC ps ss ws != 0) = false := by simp [ha]
    by_cases hph : fateB ph = true
    · obtain ⟨u, rfl⟩ : ∃ u : Nat, ph = u := ⟨ph.toNat, by have := fateB_range hph; omega⟩
      have hu : u ≤ 2 := by have := fateB_range hph; omega
      have hu0 : ¬ ((u : Int) < 0) := by omega
      have hu1 : ¬ ((2 : Int) < (u : Int)) := by omega
      by_cases hfz : okF zs = true
      · obtain ⟨hp17, hps, hok, rfl⟩ := askC_zero ha
        obtain rfl : m = 0 := by have := H.out.1.2.1; simpa using this.symm
        obtain rfl : k = 17 := by have := H.out.1.2.2.1; omega
        have HP := Lib.hid (planI A C P n c d f ss ps w1 H.out.1.1 hp17 hok (H.out.2.1.below hb) (H.out.2.2.1.below hb))
        have HOk := Lib.hid (plan_ok hok hps)
        have HO := Lib.hid hok
        have HAll := Lib.hid (fun h3 => torn_all (ss := ss) (ps := ps) (ws := []) HLg.out ha ⟨hph, hfz⟩ h3)
        have HCd := Lib.hid (fun h3 => torn_code (ss := ss) (ps := ps) (ws := []) HLg.out ha ⟨hph, hfz⟩ h3)
        rw [HR.out] at HAll HCd
        have f0 := X1.out.cell 0 rfl
        have f1 := X1.out.cell 1 rfl
        generalize askC ps ss [] = ac at hcb
        generalize planOf ss ps = pl at HP HOk HAll HCd
        obtain ⟨ls, code⟩ := pl
        have HN := Lib.hid H.out.1.1
        have HA := Lib.hid H.out.2.1
        have HF2 := Lib.hid (And.intro H.out.1.2.2.2 H.out.2.2.2)
        have n48 : Hid (n ≤ 1048576) := Lib.hid (by have := (ok_of HO.out).n48; have := H.out.1.1; omega)
        have HZ := Lib.hid hfz
        clear HR ha hok hps hp17 H hph hfz
        go_wp2_with (first | (go_at_call 41; refine HFx.out.mono ?_; rintro e w' ⟨rfl, rfl⟩; rw [HZ.out]))
        refine HP.out.mono ?_
        rintro e w2 ⟨B, kk, ff, rfl, HK, HF, HWr, hb2⟩
        replace HK : Hid (ls.length = kk) := HK
        replace HWr : Hid (WrL w2 B ls) := HWr
        replace HOk : Hid (Ok ss ls ∧ ls.length ≤ 18) := HOk
        have hb12 := bt hb hb2
        have X2 := Lib.hid (X1.out.step hb2)
        have Y2 := Lib.hid (Y1.out.step hb2)
        have HYl2 : Hid (w.heap.size + 1 < w2.heap.size) := Lib.hid Y2.out.lt
        clear f0 f1 s0 s1 s0z s1z HP X1 Y1 HFx
        have f0 := X2.out.cell 0 rfl
        have f1 := X2.out.cell 1 rfl
        have hkk : kk ≤ 18 := by have := HK.out; have := HOk.out.2; omega
        by_cases hc : code = 0
        · subst hc
          have hcz : ((0 : Int) != 0) = false := rfl
          have HRz : Hid (r = if (u : Int) = 0 then (settleN ss ls.dropLast zs ls.dropLast.length, 0) else if (u : Int) = 1 then (twoN ss ls [1] zs, 0) else (twoN ss ls [1] [1], 0)) := Lib.hid (HAll.out rfl)
          by_cases hz : kk = 0
          · subst hz
            obtain ⟨rfl, rfl⟩ : B = none ∧ ff = 0 := by rcases HF.out with ⟨_, q⟩ | ⟨q, _⟩ <;> first | exact q | omega
            obtain rfl : ls = [] := List.eq_nil_of_length_eq_zero HK.out
            have HSp := Lib.hid (splitNone w2)
            have HNil : Hid (Ok ss ([] : List (Int × ByteArray))) := Lib.hid HOk.out.1
            clear HAll HCd HK HF HOk
            go_wp2_with fail
            refine HSp.out.mono ?_
            rintro e w3 ⟨rfl, hb3⟩
            have X3 := Lib.hid (X2.out.step hb3)
            clear f0 f1
            have f0 := X3.out.cell 0 rfl
            have f1 := X3.out.cell 1 rfl
            have hb13 := bt hb12 hb3
            have Y3 := Lib.hid (Y2.out.step hb3)
            have HT3 := Lib.hid (fun W (q : Below w3.heap.size w3 W) => HF2.out.2.below (bt hb13 q))
            have hq : u = 0 ∨ u = 1 ∨ u = 2 := by omega
            rcases hq with rfl | rfl | rfl
            · have HRy : Hid (r = (settleN ss [] zs 0, 0)) := Lib.hid (by rw [HRz.out, if_pos (by omega)] <;> rfl)
              have HFl := Lib.hid (settleWrites A C F none n c d nf cf 0 0 ss [] zs w3 HN.out rfl HF2.out.1.1 HF2.out.1.2 (HA.out.below hb13) (HWr.out.below hb3) (HF2.out.2.below hb13) HNil.out)
              go_wp2_with fail
              refine HFl.out.mono ?_
              rintro e w5 ⟨A5, n5, c5, C5, m5, d5, rfl, L5, M5, S5, R5, hb5⟩
              have YF := Lib.hid (Y3.out.step hb5)
              have HYl4 : Hid (w.heap.size + 1 < w3.heap.size) := Lib.hid Y3.out.lt
              have t0 := YF.out.cell 0 rfl
              have t1 := YF.out.cell 1 rfl
              have t0z := YF.out.frozen 0
              have t1z := YF.out.frozen 1
              clear f0 f1
              go_wp2
              refine bodyPost_ret (v := .tuple #[.agg #[.slice A5 n5 c5, .slice C5 m5 d5], .int .i64 0]) (by simp [results, Try.results18, go_sem, t0, t1]) rfl ?_
              rw [HRy.out]
              exact gives_stored hb13 HYl4.out hb5 L5.out M5.out S5.out
            · have HRy : Hid (r = (settleN (settleN ss [] [1] 0) [] zs 0, 0)) := Lib.hid (by rw [HRz.out, if_neg (by omega), if_pos (by omega)] <;> rfl)
              have HFl := Lib.hid (flushWrites A C none n c d 0 0 ss [] w3 HN.out rfl (HA.out.below hb13) (HWr.out.below hb3) HNil.out)
              go_wp2_with fail
              refine HFl.out.mono ?_
              rintro e w4 ⟨A4, n4, c4, C4, m4, d4, rfl, L4, M4, S4, R4, hb4⟩
              obtain rfl : m4 = 0 := by have := M4.out; simpa using this.symm
              have HFl2 := Lib.hid (settleWrites A4 C4 F none n4 c4 d4 nf cf 0 0 (settleN ss [] [1] 0) [] zs w4 L4.out rfl HF2.out.1.1 HF2.out.1.2 S4.out.reads (fun i hi => by simp at hi) (HT3.out w4 hb4) HNil.out)
              go_wp2_with fail
              refine HFl2.out.mono ?_
              rintro e w5 ⟨A5, n5, c5, C5, m5, d5, rfl, L5, M5, S5, R5, hb5⟩
              have YF := Lib.hid (Y3.out.step (bt hb4 hb5))
              have HYl4 : Hid (w.heap.size + 1 < w4.heap.size) := Lib.hid (Y3.out.step hb4).lt
              have t0 := YF.out.cell 0 rfl
              have t1 := YF.out.cell 1 rfl
              have t0z := YF.out.frozen 0
              have t1z := YF.out.frozen 1
              clear f0 f1
              go_wp2
              refine bodyPost_ret (v := .tuple #[.agg #[.slice A5 n5 c5, .slice C5 m5 d5], .int .i64 0]) (by simp [results, Try.results18, go_sem, t0, t1]) rfl ?_
              rw [HRy.out]
              exact gives_stored (bt hb13 hb4) HYl4.out hb5 L5.out M5.out S5.out
            · have HRy : Hid (r = (settleN (settleN ss [] [1] 0) [] [1] 0, 0)) := Lib.hid (by rw [HRz.out, if_neg (by omega), if_neg (by omega)] <;> rfl)
              have HFl := Lib.hid (flushWrites A C none n c d 0 0 ss [] w3 HN.out rfl (HA.out.below hb13) (HWr.out.below hb3) HNil.out)
              go_wp2_with fail
              refine HFl.out.mono ?_
              rintro e w4 ⟨A4, n4, c4, C4, m4, d4, rfl, L4, M4, S4, R4, hb4⟩
              obtain rfl : m4 = 0 := by have := M4.out; simpa using this.symm
              have HFl2 := Lib.hid (flushWrites A4 C4 none n4 c4 d4 0 0 (settleN ss [] [1] 0) [] w4 L4.out rfl S4.out.reads (fun i hi => by simp at hi) HNil.out)
              go_wp2_with fail
              refine HFl2.out.mono ?_
              rintro e w5 ⟨A5, n5, c5, C5, m5, d5, rfl, L5, M5, S5, R5, hb5⟩
              have YF := Lib.hid (Y3.out.step (bt hb4 hb5))
              have HYl4 : Hid (w.heap.size + 1 < w4.heap.size) := Lib.hid (Y3.out.step hb4).lt
              have t0 := YF.out.cell 0 rfl
              have t1 := YF.out.cell 1 rfl
              have t0z := YF.out.frozen 0
              have t1z := YF.out.frozen 1
              clear f0 f1
              go_wp2
              refine bodyPost_ret (v := .tuple #[.agg #[.slice A5 n5 c5, .slice C5 m5 d5], .int .i64 0]) (by simp [results, Try.results18, go_sem, t0, t1]) rfl ?_
              rw [HRy.out]
              exact gives_stored (bt hb13 hb4) HYl4.out hb5 L5.out M5.out S5.out
          · obtain ⟨b, rfl⟩ : ∃ b, B = some ⟨b, 0, none⟩ := by rcases HF.out with ⟨q, _⟩ | ⟨_, _, q⟩ <;> first | omega | exact q
            have hff : kk ≤ ff := by rcases HF.out with ⟨q, _⟩ | ⟨_, q, _⟩ <;> omega
            obtain ⟨j, rfl⟩ : ∃ j, kk = j + 1 := ⟨kk - 1, by omega⟩
            have HSp := Lib.hid (splitSome b 0 j ff w2 (by omega) hff)
            have HL1 : Hid ((ls.take j).length = j ∧ (ls.drop j).length = 1) := Lib.hid (by rw [List.length_take, List.length_drop]; have := HK.out; omega)
            have HTw : Hid (∀ gs, twoN ss ls [1] gs = settleN (settleN ss (ls.take j) [1] j) (ls.drop j) gs 1) := Lib.hid (fun gs => by
              unfold twoN
              rw [List.dropLast_eq_take, show ls.length - 1 = j by have := HK.out; omega, HL1.out.1, HL1.out.2])
            have HTd : Hid (settleN ss ls.dropLast zs ls.dropLast.length = settleN ss (ls.take j) zs j) := Lib.hid (by
              rw [List.dropLast_eq_take, show ls.length - 1 = j by have := HK.out; omega, HL1.out.1])
            have HOk2 : Hid (Ok (settleN ss (ls.take j) [1] j) (ls.drop j)) := Lib.hid (by
              have := (HOk.out.1.take j).settled [1] (HOk.out.1.drop j)
              rwa [HL1.out.1] at this)
            clear HAll HCd HF
            go_wp2_with fail
            refine HSp.out.mono ?_
            rintro e w3 ⟨rfl, hb3⟩
            have X3 := Lib.hid (X2.out.step hb3)
            clear f0 f1
            have f0 := X3.out.cell 0 rfl
            have f1 := X3.out.cell 1 rfl
            have hb13 := bt hb12 hb3
            have Y3 := Lib.hid (Y2.out.step hb3)
            have HT3 := Lib.hid (fun W (q : Below w3.heap.size w3 W) => HF2.out.2.below (bt hb13 q))
            have HD3 := Lib.hid (fun W (q : Below w3.heap.size w3 W) => (show WrL W (some ⟨b, j * 2, none⟩) (ls.drop j) by have := (HWr.out.below (bt hb3 q)).drop j; rwa [Nat.zero_add] at this))
            have hq : u = 0 ∨ u = 1 ∨ u = 2 := by omega
            rcases hq with rfl | rfl | rfl
            · have HRy : Hid (r = (settleN ss (ls.take j) zs j, 0)) := Lib.hid (by rw [HRz.out, if_pos (by omega), HTd.out])
              have HFl := Lib.hid (settleWrites A C F (some ⟨b, 0, none⟩) n c d nf cf j ff ss (ls.take j) zs w3 HN.out HL1.out.1 HF2.out.1.1 HF2.out.1.2 (HA.out.below hb13) ((HWr.out.below hb3).take j) (HF2.out.2.below hb13) (HOk.out.1.take j))
              go_wp2_with fail
              refine HFl.out.mono ?_
              rintro e w5 ⟨A5, n5, c5, C5, m5, d5, rfl, L5, M5, S5, R5, hb5⟩
              have YF := Lib.hid (Y3.out.step hb5)
              have HYl4 : Hid (w.heap.size + 1 < w3.heap.size) := Lib.hid Y3.out.lt
              have t0 := YF.out.cell 0 rfl
              have t1 := YF.out.cell 1 rfl
              have t0z := YF.out.frozen 0
              have t1z := YF.out.frozen 1
              clear f0 f1
              go_wp2
              refine bodyPost_ret (v := .tuple #[.agg #[.slice A5 n5 c5, .slice C5 m5 d5], .int .i64 0]) (by simp [results, Try.results18, go_sem, t0, t1]) rfl ?_
              rw [HRy.out]
              exact gives_stored hb13 HYl4.out hb5 L5.out M5.out S5.out
            · have HRy : Hid (r = (settleN (settleN ss (ls.take j) [1] j) (ls.drop j) zs 1, 0)) := Lib.hid (by rw [HRz.out, if_neg (by omega), if_pos (by omega), HTw.out])
              have HFl := Lib.hid (flushWrites A C (some ⟨b, 0, none⟩) n c d j ff ss (ls.take j) w3 HN.out HL1.out.1 (HA.out.below hb13) ((HWr.out.below hb3).take j) (HOk.out.1.take j))
              go_wp2_with fail
              refine HFl.out.mono ?_
              rintro e w4 ⟨A4, n4, c4, C4, m4, d4, rfl, L4, M4, S4, R4, hb4⟩
              obtain rfl : m4 = 0 := by have := M4.out; simpa using this.symm
              have HFl2 := Lib.hid (settleWrites A4 C4 F (some ⟨b, j * 2, none⟩) n4 c4 d4 nf cf 1 (ff - j) (settleN ss (ls.take j) [1] j) (ls.drop j) zs w4 L4.out HL1.out.2 HF2.out.1.1 HF2.out.1.2 S4.out.reads (HD3.out w4 hb4) (HT3.out w4 hb4) HOk2.out)
              go_wp2_with fail
              refine HFl2.out.mono ?_
              rintro e w5 ⟨A5, n5, c5, C5, m5, d5, rfl, L5, M5, S5, R5, hb5⟩
              have YF := Lib.hid (Y3.out.step (bt hb4 hb5))
              have HYl4 : Hid (w.heap.size + 1 < w4.heap.size) := Lib.hid (Y3.out.step hb4).lt
              have t0 := YF.out.cell 0 rfl
              have t1 := YF.out.cell 1 rfl
              have t0z := YF.out.frozen 0
              have t1z := YF.out.frozen 1
              clear f0 f1
              go_wp2
              refine bodyPost_ret (v := .tuple #[.agg #[.slice A5 n5 c5, .slice C5 m5 d5], .int .i64 0]) (by simp [results, Try.results18, go_sem, t0, t1]) rfl ?_
              rw [HRy.out]
              exact gives_stored (bt hb13 hb4) HYl4.out hb5 L5.out M5.out S5.out
            · have HRy : Hid (r = (settleN (settleN ss (ls.take j) [1] j) (ls.drop j) [1] 1, 0)) := Lib.hid (by rw [HRz.out, if_neg (by omega), if_neg (by omega), HTw.out])
              have HFl := Lib.hid (flushWrites A C (some ⟨b, 0, none⟩) n c d j ff ss (ls.take j) w3 HN.out HL1.out.1 (HA.out.below hb13) ((HWr.out.below hb3).take j) (HOk.out.1.take j))
              go_wp2_with fail
              refine HFl.out.mono ?_
              rintro e w4 ⟨A4, n4, c4, C4, m4, d4, rfl, L4, M4, S4, R4, hb4⟩
              obtain rfl : m4 = 0 := by have := M4.out; simpa using this.symm
              have HFl2 := Lib.hid (flushWrites A4 C4 (some ⟨b, j * 2, none⟩) n4 c4 d4 1 (ff - j) (settleN ss (ls.take j) [1] j) (ls.drop j) w4 L4.out HL1.out.2 S4.out.reads (HD3.out w4 hb4) HOk2.out)
              go_wp2_with fail
              refine HFl2.out.mono ?_
              rintro e w5 ⟨A5, n5, c5, C5, m5, d5, rfl, L5, M5, S5, R5, hb5⟩
              have YF := Lib.hid (Y3.out.step (bt hb4 hb5))
              have HYl4 : Hid (w.heap.size + 1 < w4.heap.size) := Lib.hid (Y3.out.step hb4).lt
              have t0 := YF.out.cell 0 rfl
              have t1 := YF.out.cell 1 rfl
              have t0z := YF.out.frozen 0
              have t1z := YF.out.frozen 1
              clear f0 f1
              go_wp2
              refine bodyPost_ret (v := .tuple #[.agg #[.slice A5 n5 c5, .slice C5 m5 d5], .int .i64 0]) (by simp [results, Try.results18, go_sem, t0, t1]) rfl ?_
              rw [HRy.out]
              exact gives_stored (bt hb13 hb4) HYl4.out hb5 L5.out M5.out S5.out
        · have hcz : (code != 0) = true := by simp [hc]
          have HRz : Hid (r = (ss, code)) := Lib.hid (HCd.out hc)
          have HCl := Lib.hid (clone A C n c 0 d ss [] w2 HN.out rfl n48.out (by omega) (HA.out.below hb12) (fun i hi => by simp at hi))
          clear HAll HCd hc HK HF HWr HOk
          go_wp2_with fail
          refine HCl.out.mono ?_
          rintro e w3 ⟨b, b', rfl, HQ, hb3⟩
          have Y3 := Y2.out.step hb3
          have t0 := Y3.cell 0 rfl
          have t1 := Y3.cell 1 rfl
          have t0z := Y3.frozen 0
          have t1z := Y3.frozen 1
          have HS3 : Hid (OwnS w3 w2.heap.size w3.heap.size (some ⟨b, 0, none⟩) ss) := Lib.hid (own_of_rowS HN.out HQ.out.2.2.1 (by have := HQ.out.1; omega) HQ.out.2.2.1.lt)
          clear Y3 f0 f1
          go_wp2
          refine bodyPost_ret (v := .tuple #[.agg #[.slice (some ⟨b, 0, none⟩) n n, .slice (some ⟨b', 0, none⟩) 0 0], .int .i64 code]) (by simp [results, Try.results18, go_sem, t0, t1]) rfl ?_
          rw [HRz.out]
          exact gives_stored hb12 HYl2.out hb3 HN.out rfl HS3.out
      · have hfz' : okF zs = false := by simpa using hfz
        have HRz : Hid (r = ([], 4)) := Lib.hid (by rw [← HR.out]; exact torn_range HLg.out ha (fun q => hfz q.2))
        have HZ := Lib.hid hfz'
        generalize askC ps ss ws = ac at hcb
        clear HR ha hfz hfz' hph
        go_wp2_with (first | (go_at_call 41; refine HFx.out.mono ?_; rintro e w' ⟨rfl, rfl⟩; rw [HZ.out]))
        refine bodyPost_ret (v := .tuple #[.agg #[.slice none 0 0, .slice none 0 0], .int .i64 4]) (by simp [results, Try.results18, go_sem, s0, s1]) rfl ?_
        rw [HRz.out]
        exact gives_none (below_stored hb)
    · have HRz : Hid (r = ([], 4)) := Lib.hid (by rw [← HR.out]; exact torn_range HLg.out ha (fun q => hph q.1))
      have hrg : ¬ (0 ≤ ph ∧ ph ≤ 2) := fun q => hph (by unfold fateB; simpa using q)
      generalize askC ps ss ws = ac at hcb
      clear HR ha hph
      by_cases h1 : ph < 0
      · go_wp2
        refine bodyPost_ret (v := .tuple #[.agg #[.slice none 0 0, .slice none 0 0], .int .i64 4]) (by simp [results, Try.results18, go_sem, s0, s1]) rfl ?_
        rw [HRz.out]
        exact gives_none (below_stored hb)
      · have h2 : 2 < ph := by omega
        go_wp2
        refine bodyPost_ret (v := .tuple #[.agg #[.slice none 0 0, .slice none 0 0], .int .i64 4]) (by simp [results, Try.results18, go_sem, s0, s1]) rfl ?_
        rw [HRz.out]
        exact gives_none (below_stored hb)
  · have hcb : (askC ps ss ws != 0) = true := by simp [ha]
    have HRz : Hid (r = ([], askC ps ss ws)) := Lib.hid (by rw [← HR.out]; exact torn_ask HLg.out ha)
    generalize askC ps ss ws = ac at hcb HRz ha
    clear HR ha
    go_wp2
    refine bodyPost_ret (v := .tuple #[.agg #[.slice none 0 0, .slice none 0 0], .int .i64 ac]) (by simp [results, Try.results18, go_sem, s0, s1]) rfl ?_
    rw [HRz.out]
    exact gives_none (below_stored hb)
end Go.Proofs.Ytcchhbkbnbphhaa
