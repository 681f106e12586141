/- The model's l02Torn. -/
import Derived.Test.YtcchhbkbnbphhaaSpecCommit
import Derived.Test.YtcchhbkbnbphhaaTornImpl
import Derived.Test.YtcchhbkbnbphhaaM3
import Derived.Deep.RegionHeld3
import Derived.IntWalk
namespace Go.Proofs.Ytcchhbkbnbphhaa
open Go.RowKit

theorem arr62 (T : Array Value) (h : T.size = 62) : ∃ t0 t1 t2 t3 t4 t5 t6 t7 t8 t9 t10 t11 t12 t13 t14 t15 t16 t17 t18 t19 t20 t21 t22 t23 t24 t25 t26 t27 t28 t29 t30 t31 t32 t33 t34 t35 t36 t37 t38 t39 t40 t41 t42 t43 t44 t45 t46 t47 t48 t49 t50 t51 t52 t53 t54 t55 t56 t57 t58 t59 t60 t61 : Value, T = #[t0, t1, t2, t3, t4, t5, t6, t7, t8, t9, t10, t11, t12, t13, t14, t15, t16, t17, t18, t19, t20, t21, t22, t23, t24, t25, t26, t27, t28, t29, t30, t31, t32, t33, t34, t35, t36, t37, t38, t39, t40, t41, t42, t43, t44, t45, t46, t47, t48, t49, t50, t51, t52, t53, t54, t55, t56, t57, t58, t59, t60, t61] := by
  obtain ⟨l⟩ := T
  match l, h with
  | t0 :: t1 :: t2 :: t3 :: t4 :: t5 :: t6 :: t7 :: t8 :: t9 :: t10 :: t11 :: t12 :: t13 :: t14 :: t15 :: t16 :: t17 :: t18 :: t19 :: t20 :: t21 :: t22 :: t23 :: t24 :: t25 :: t26 :: t27 :: t28 :: t29 :: t30 :: t31 :: t32 :: t33 :: t34 :: t35 :: t36 :: t37 :: t38 :: t39 :: t40 :: t41 :: t42 :: t43 :: t44 :: t45 :: t46 :: t47 :: t48 :: t49 :: t50 :: t51 :: t52 :: t53 :: t54 :: t55 :: t56 :: t57 :: t58 :: t59 :: t60 :: t61 :: [], _ => exact ⟨t0, t1, t2, t3, t4, t5, t6, t7, t8, t9, t10, t11, t12, t13, t14, t15, t16, t17, t18, t19, t20, t21, t22, t23, t24, t25, t26, t27, t28, t29, t30, t31, t32, t33, t34, t35, t36, t37, t38, t39, t40, t41, t42, t43, t44, t45, t46, t47, t48, t49, t50, t51, t52, t53, t54, t55, t56, t57, t58, t59, t60, t61, rfl⟩

def trnF (N k : Nat) (A : Option Addr) (n c : Nat) (v0 v1 v6 : Value) (sl : Int) (rt : ByteArray) (S1 : List ByteArray) (list : List (Int × ByteArray)) : Nat → (Nat → Value) → World → Prop
  | 0, t, _ => t 46 = v0
  | 1, t, _ => t 47 = v1
  | 2, t, w => ∃ C' d', t 48 = .agg #[.slice A n c, .slice C' k d'] ∧ WrL w C' list
  | 3, t, w => ∃ A6 n6 c6 C6 d6, t 49 = .agg #[.slice A6 n6 c6, .slice C6 0 d6] ∧ S1.length = n6 ∧ OwnS w N w.heap.size A6 S1
  | 4, t, _ => t 50 = .int .i64 sl
  | 5, t, _ => t 51 = .int .i64 (1 - sl)
  | 6, t, _ => t 52 = v6
  | 7, t, _ => t 53 = .string rt
  | 8, t, w => ∃ A6 n6 c6 C9 d9, t 54 = .agg #[.slice A6 n6 c6, .slice C9 1 d9] ∧ S1.length = n6 ∧ OwnS w N w.heap.size A6 S1 ∧ OwnW w N w.heap.size C9 [(1 - sl, rt)]
  | _, _, _ => True
theorem trnF_below {N k : Nat} {A : Option Addr} {n c : Nat} {v0 v1 v6 : Value} {sl : Int} {rt : ByteArray} {S1 : List ByteArray} {list : List (Int × ByteArray)} {w w' : World} (q : Below w.heap.size w w') : ∀ (j : Nat) (t : Nat → Value), trnF N k A n c v0 v1 v6 sl rt S1 list j t w → trnF N k A n c v0 v1 v6 sl rt S1 list j t w'
  | 0, _, h | 1, _, h | 4, _, h | 5, _, h | 6, _, h | 7, _, h => h
  | 2, _, ⟨C', d', e, h⟩ => ⟨C', d', e, h.below q⟩
  | 3, _, ⟨A6, n6, c6, C6, d6, e, l, h⟩ => ⟨A6, n6, c6, C6, d6, e, l, (h.below q).wide (Nat.le_refl _) q.size⟩
  | 8, _, ⟨A6, n6, c6, C9, d9, e, l, h, g⟩ => ⟨A6, n6, c6, C9, d9, e, l, (h.below q).wide (Nat.le_refl _) q.size, (g.below q).wide (Nat.le_refl _) q.size⟩
  | _ + 9, _, _ => trivial

set_option maxRecDepth 100000 in
set_option maxHeartbeats 16000000 in
theorem l02Torn (A C P F : Option Addr) (n c d f nf cf u : Nat) (ss ps : List ByteArray) (zs : List Int) (w : World) (hl : ss.length = n) (ha : askC ps ss [] = 0) (hf : zs.length = nf) (hnf : nf ≤ maxLen) (hlg : ¬ 4096 < zs.length) (hfz : fateB (u : Int) = true ∧ okF zs = true) (h : StrL w A ss) (i : StrL w P ps) (j : IntL w F zs) :
    Calls Try.prog 44 #[.agg #[.slice A n c, .slice C 0 d], .slice P 17 f, .int .i64 u, .slice F nf cf] w (GivesRead (tornOf ss [] ps u zs) w) := by
  obtain ⟨hp17, hps, hok, -⟩ := askC_zero ha
  obtain ⟨W0, hW0⟩ : ∃ W0, W0 = ((w.alloc (.cells #[.slice A n c, .slice C 0 d] 26)).alloc (.cells #[.slice none 0 0, .slice none 0 0] 26)) := ⟨_, rfl⟩
  have hb0 : Below w.heap.size w W0 := by rw [hW0]; exact bt (alloc_below _ _) (alloc_below _ _)
  have X0 : Hid (Box W0 w.heap.size 26 #[.slice A n c, .slice C 0 d]) := Lib.hid (by rw [hW0]; exact (Box.new _ _ _).alloc _)
  have Y0 : Hid (Box W0 (w.heap.size + 1) 26 #[.slice none 0 0, .slice none 0 0]) := Lib.hid (by rw [hW0]; simpa using Box.new (w.alloc (.cells #[.slice A n c, .slice C 0 d] 26)) 26 #[.slice none 0 0, .slice none 0 0])
  have HN := Lib.hid (l02Newest A C n c 0 d ss [] W0 hl rfl hok (h.below hb0) (fun i hi => by simp at hi))
  have HCo := Lib.hid (best_code (fun k => readS ss [] k) (readS_small hok 0 (by omega)) (readS_small hok 1 (by omega)))
  have HGd := Lib.hid (fun hc => best_good (fun k => readS ss [] k) 2 hc)
  have HGe := Lib.hid (fun hc => best_gen (fun k => readS ss [] k) 2 hc)
  have HP1 := Lib.hid (fun b hb hc hg => planOf_of (ss := ss) (ps := ps) (b := b) hb hc hg)
  have HP2 := Lib.hid (fun b hb hc => planOf_none (ss := ss) (ps := ps) (b := b) hb hc)
  have HP3 := Lib.hid (fun b hb hc hg => planOf_full (ss := ss) (ps := ps) (b := b) hb hc hg)
  have HOk := Lib.hid (plan_ok hok hps)
  have HAll := Lib.hid (fun h3 => torn_all (ss := ss) (ps := ps) (ws := []) (ph := u) hlg ha hfz h3)
  have HCd := Lib.hid (fun h3 => torn_code (ss := ss) (ps := ps) (ws := []) (ph := u) hlg ha hfz h3)
  have hu2 : u ≤ 2 := by have := fateB_range hfz.1; omega
  have HFt := Lib.hid (And.intro hf (And.intro hnf j))
  obtain ⟨r, hr⟩ : ∃ r, tornOf ss [] ps u zs = r := ⟨_, rfl⟩
  rw [hr]
  rw [hr] at HAll HCd
  have HL := Lib.hid (And.intro hl (And.intro hp17 hok))
  have HA := Lib.hid (And.intro h i)
  have HW0 := Lib.hid hW0
  have H48 : Hid (n = 48) := Lib.hid (by have := (ok_of hok).n48; omega)
  clear hl ha h i j hf hnf hlg hfz hp17 hps hok hW0 hr
  generalize hbe : best (fun k => readS ss [] k) 2 = b at HN HCo HGd HGe
  go_enter Try.func44, Try.ntmps44
  go_wp2_with fail
  rw [← HW0.out]
  refine HN.out.mono ?_
  rintro e w1 ⟨T, nt, tc, rfl, LT, OT, hb1⟩
  obtain ⟨w2, hw2⟩ : ∃ w2, w2 = w1.alloc (.cells #[.int .i64 b.g, .slice T nt tc] 31) := ⟨_, rfl⟩
  have k2 : Below w1.heap.size w1 w2 := by rw [hw2]; exact alloc_below _ _
  have hb2 := bt (bt hb0 hb1) k2
  have X2 := Lib.hid ((X0.out.step hb1).step k2)
  have Y2 := Lib.hid ((Y0.out.step hb1).step k2)
  have D2 : Hid (Box w2 w1.heap.size 31 #[.int .i64 b.g, .slice T nt tc]) := Lib.hid (by rw [hw2]; exact Box.new _ _ _)
  have O2 := Lib.hid (OT.out.below k2)
  have f0 := X2.out.cell 0 rfl
  have f1 := X2.out.cell 1 rfl
  have s0 := Y2.out.cell 0 rfl
  have s1 := Y2.out.cell 1 rfl
  have s0z := Y2.out.frozen 0
  have s1z := Y2.out.frozen 1
  have d0 := D2.out.cell 0 rfl
  have d1 := D2.out.cell 1 rfl
  rw [hw2] at f0 f1 s0 s1 s0z s1z d0 d1
  have HW2 := Lib.hid hw2
  clear X0 Y0 HN OT hw2 HW0
  have HSelf : Hid (∀ code : Int, r = (ss, code) → GivesRead r w (.returned (.tuple #[.agg #[.slice A n c, .slice C 0 d], .int .i64 code])) ((w2.setCell ⟨w.heap.size + 1, 0, none⟩ (.slice A n c)).setCell ⟨w.heap.size + 1, 1, none⟩ (.slice C 0 d))) := Lib.hid (fun code hr => by
    rw [hr]
    exact ⟨A, n, c, C, d, rfl, Lib.hid HL.out.1, Lib.hid (HA.out.1.below (below_stored hb2)), below_stored hb2⟩)
  by_cases hc : b.c = 0
  · have hs : 0 ≤ b.s ∧ b.s < 2 := by have := HGe.out hc; omega
    have hsl : slotOf b = b.s := by unfold slotOf; rw [if_pos hc]
    have hs' : ¬ slotOf b < 0 := by rw [hsl]; omega
    by_cases hg : b.g = 999999
    · have hgb : (b.g == 999999) = true := by simp [hg]
      have HRz : Hid (r = (ss, 7)) := Lib.hid (by have := HP3.out b hbe hc hg; rw [this] at HCd; exact HCd.out (by decide))
      clear hg hsl hc
      go_wp2
      rw [← HW2.out]
      refine bodyPost_ret (v := .tuple #[.agg #[.slice A n c, .slice C 0 d], .int .i64 7]) (by rw [HW2.out]; simp [results, Try.results44, go_sem, s0, s1]) rfl ?_
      exact HSelf.out 7 HRz.out
    · have hgb : (b.g == 999999) = false := by simp [hg]
      have hgd := HGd.out hc
      have hge := HGe.out hc
      obtain rfl : nt = 17 := by have := LT.out; omega
      have HPln := Lib.hid (l02Plan A C T P n c d tc f ss ps b.g b.z w2 HL.out.1 H48.out HL.out.2.1 hgd.1 hgd.2 (by omega) (HA.out.1.below hb2) (HA.out.2.below hb2) O2.out.reads)
      have HPo := Lib.hid (HP1.out b hbe hc hg)
      have HTab : Hid ((planN b.z (freeL b.z) (loadL ss [] b.z) ps 17).1.length = 17 ∧ ∀ z ∈ (planN b.z (freeL b.z) (loadL ss [] b.z) ps 17).1, 0 ≤ z ∧ z ≤ 99) := Lib.hid ⟨by rw [planN_tab]; exact hgd.1, by
        rw [plan_eq]
        intro z hz
        have := withN_in b.z (diffN ps (loadL ss [] b.z) 17) (freeL b.z) hgd.2 (freeL_in b.z) (diffN ps (loadL ss [] b.z) 17).length (by have := freeL_len b.z hgd.1; have := diffN_len ps (loadL ss [] b.z) 17; omega) z hz
        omega⟩
      generalize planN b.z (freeL b.z) (loadL ss [] b.z) ps 17 = q at HPln HPo HTab
      obtain ⟨tab, list⟩ := q
      replace HPo : Hid (planOf ss ps = if list.length = 0 then ([], 0) else (list ++ [(1 - b.s, rootTx (b.g + 1) tab)], 0)) := HPo
      replace HTab : Hid (tab.length = 17 ∧ ∀ z ∈ tab, 0 ≤ z ∧ z ≤ 99) := HTab
      have HSl : Hid (slotOf b = b.s) := Lib.hid hsl
      have hg6 : b.g + 1 ≤ 999999 := by omega
      have hg0 : 0 ≤ b.g + 1 := by omega
      generalize slotOf b = sl at hs' HSl
      have es : IntKind.i64.wrap (1 - sl) = 1 - sl := IntWalk.i64_in _ (by have := HSl.out; omega)
      clear hg hsl hc hbe HGd HGe HP1 HP2 HP3 HCd HCo hgd
      go_wp2_with fail
      rw [← HW2.out]
      refine HPln.out.mono ?_
      rintro e w3 ⟨G, gc, B, k, ff, rfl, HK, HKf, HBs, HGt, HWr, k3⟩
      replace HK : Hid (list.length = k) := HK
      replace HGt : Hid (IntL w3 G tab) := HGt
      replace HWr : Hid (WrL w3 B list) := HWr
      obtain ⟨w4, hw4⟩ : ∃ w4, w4 = w3.alloc (.cells #[.int .i64 (b.g + 1), .slice G 17 gc] 31) := ⟨_, rfl⟩
      have k4 : Below w3.heap.size w3 w4 := by rw [hw4]; exact alloc_below _ _
      have hb4 := bt (bt hb2 k3) k4
      have X4 := Lib.hid ((X2.out.step k3).step k4)
      have Y4 := Lib.hid ((Y2.out.step k3).step k4)
      have D4 : Hid (Box w4 w3.heap.size 31 #[.int .i64 (b.g + 1), .slice G 17 gc]) := Lib.hid (by rw [hw4]; exact Box.new _ _ _)
      have HW3 := Lib.hid (HWr.out.below k4)
      have HG4 := Lib.hid (HGt.out.below k4)
      clear f0 f1 s0 s1 s0z s1z d0 d1 HPln HWr HGt HSelf X2 Y2 D2 O2
      have f0 := X4.out.cell 0 rfl
      have f1 := X4.out.cell 1 rfl
      have s0 := Y4.out.cell 0 rfl
      have s1 := Y4.out.cell 1 rfl
      have s0z := Y4.out.frozen 0
      have s1z := Y4.out.frozen 1
      rw [hw4] at f0 f1 s0 s1 s0z s1z
      have HW4 := Lib.hid hw4
      have hyl : Hid (w.heap.size + 1 < w4.heap.size) := Lib.hid Y4.out.lt
      clear hw4 HW2
      by_cases hz : k = 0
      · have hzb : ((k : Int) == 0) = true := by simp; omega
        have HRz : Hid (r = (ss, 0)) := Lib.hid (by
          have e1 : planOf ss ps = ([], 0) := by rw [HPo.out, if_pos (by rw [HK.out]; exact hz)]
          have := HAll.out (by rw [e1])
          rw [this, e1]
          split
          · rfl
          · split <;> rfl)
        clear hz
        go_wp2
        rw [← HW4.out]
        refine bodyPost_ret (v := .tuple #[.agg #[.slice A n c, .slice C 0 d], .int .i64 0]) (by rw [HW4.out]; simp [results, Try.results44, go_sem, s0, s1]) rfl ?_
        rw [HRz.out]
        exact ⟨A, n, c, C, d, rfl, Lib.hid HL.out.1, Lib.hid (HA.out.1.below (below_stored hb4)), below_stored hb4⟩
      · have hzb : ((k : Int) == 0) = false := by simp; omega
        have HPe : Hid (planOf ss ps = (list ++ [(1 - b.s, rootTx (b.g + 1) tab)], 0)) := Lib.hid (by rw [HPo.out, if_neg (by rw [HK.out]; exact hz)])
        have HOL : Hid (Ok ss (list ++ [(1 - b.s, rootTx (b.g + 1) tab)])) := Lib.hid (by have := HOk.out.1; rw [HPe.out] at this; exact this)
        have HK17 : Hid (k ≤ 17) := Lib.hid (by have := HOk.out.2; rw [HPe.out] at this; have q := HK.out; simp only [List.length_append, List.length_singleton] at this; omega)
        have HOk1 : Hid (Ok ss list) := Lib.hid (HOL.out.sub (by simp) (fun x hx => List.mem_append_left _ hx))
        obtain ⟨bb, rfl⟩ : ∃ bb, B = some ⟨bb, 0, none⟩ := by rcases HBs.out with q | q <;> first | omega | exact q
        have HAl2 : Hid (r = if (u : Int) = 0 then (settleN ss list zs k, 0) else if (u : Int) = 1 then (settleN (settleN ss list [1] k) [(1 - sl, rootTx (b.g + 1) tab)] zs 1, 0) else (settleN (settleN ss list [1] k) [(1 - sl, rootTx (b.g + 1) tab)] [1] 1, 0)) := Lib.hid (by
          have := HAll.out (by rw [HPe.out])
          rw [this, HPe.out, List.dropLast_concat, twoN_snoc, twoN_snoc, HK.out, HSl.out])
        have hsz2 : Hid (w.heap.size ≤ w4.heap.size) := Lib.hid hb4.size
        clear HPo HOk HPe HAll
        have HLay : Hid (∀ W, Below w4.heap.size w4 W → Calls Try.prog 69 #[.agg #[.slice A n c, .slice C 0 d], .slice (some ⟨bb, 0, none⟩) k ff] W (GivesLay A n c k list W)) := Lib.hid (fun W q => by
          have := l02Lay A C (some ⟨bb, 0, none⟩) n c 0 d k ff [] list W rfl HK.out (by have := HK17.out; omega) (fun i hi => by simp at hi) (HW3.out.below q)
          rwa [Nat.zero_add, List.nil_append] at this)
        by_cases hu0 : u = 0
        · have hub : ((u : Int) == 0) = true := by simp; omega
          have HRz : Hid (r = (settleN ss list zs k, 0)) := Lib.hid (by rw [HAl2.out, if_pos (by omega)])
          have HCr := Lib.hid (fun W C' d' (q : Below w4.heap.size w4 W) (g : WrL W C' list) => l01Crash A C' F n c k d' nf cf ss list zs W HL.out.1 HK.out HFt.out.1 HFt.out.2.1 (HA.out.1.below (bt hb4 q)) g (HFt.out.2.2.below (bt hb4 q)) HOk1.out)
          have HLy4 := Lib.hid (HLay.out w4 (Below.refl _ _))
          clear HLay HAl2 hu0
          go_wp2_with fail
          rw [← HW4.out]
          refine HLy4.out.mono ?_
          rintro e w5 ⟨C5, d5, rfl, HW5, k5⟩
          have HFl5 := Lib.hid (HCr.out w5 C5 d5 k5 HW5.out)
          clear HCr HLy4 HW5
          go_wp2_with fail
          refine HFl5.out.mono ?_
          rintro e w6 ⟨A6, n6, c6, C6, m6, d6, rfl, L6, M6, S6, R6, k6⟩
          obtain rfl : m6 = 0 := by have := M6.out; simpa using this.symm
          have Y6 := Y4.out.step (bt k5 k6)
          have t0 := Y6.cell 0 rfl
          have t1 := Y6.cell 1 rfl
          have t0z := Y6.frozen 0
          have t1z := Y6.frozen 1
          clear Y6 f0 f1 s0 s1 s0z s1z HFl5
          go_wp2
          refine bodyPost_ret (v := .tuple #[.agg #[.slice A6 n6 c6, .slice C6 0 d6], .int .i64 0]) (by simp [results, Try.results44, go_sem, t0, t1]) rfl ?_
          rw [HRz.out]
          have hbz := bt hb4 k5
          exact ⟨_, _, _, _, _, rfl, L6, Lib.hid (own_stored hbz (by have := hyl.out; have := k5.size; omega) S6.out).reads, below_stored (bt hbz k6)⟩
        · have hub : ((u : Int) == 0) = false := by simp; omega
          have HFl := Lib.hid (fun W C' d' (q : Below w4.heap.size w4 W) (g : WrL W C' list) => l01Flush A C' n c k d' ss list W HL.out.1 HK.out (HA.out.1.below (bt hb4 q)) g HOk1.out)
          have HOr : Hid (Ok (settleN ss list [1] k) [(1 - sl, rootTx (b.g + 1) tab)]) := Lib.hid (by
            have := HOk1.out.settled [1] (HOL.out.sub (ms := [(1 - b.s, rootTx (b.g + 1) tab)]) (by simp) (fun x hx => List.mem_append_right _ hx))
            rw [HK.out] at this
            rw [HSl.out]
            exact this)
          have HTx := Lib.hid (fun W (q : Below w4.heap.size w4 W) => l02Text (b.g + 1) G 17 gc tab W HTab.out.1 (by omega) ⟨hg0, hg6⟩ HTab.out.2 (HG4.out.below q))
          generalize rootTx (b.g + 1) tab = rt at HAl2 HOr HTx
          have HWt : Hid (∀ W A6 n6 c6 C6 d6, Calls Try.prog 70 #[.agg #[.slice A6 n6 c6, .slice C6 0 d6], .int .i64 (1 - sl), .string rt] W (GivesWrite A6 n6 c6 1 [(1 - sl, rt)] W)) := Lib.hid (fun W A6 n6 c6 C6 d6 => by
            have := l01Write A6 C6 n6 c6 0 d6 [] (1 - sl) rt W rfl (by omega) (fun i hi => by simp at hi)
            rwa [Nat.zero_add, List.nil_append] at this)
          have h6 : Below w4.heap.size w4 w4.drew := (Below.refl _ _).drew
          have HKq : Hid (∀ W', Below w4.heap.size w4 W' → W'.cell? ⟨w.heap.size, 0, none⟩ = some (.slice A n c) ∧ W'.cell? ⟨w.heap.size, 1, none⟩ = some (.slice C 0 d) ∧ W'.cell? ⟨w3.heap.size, 0, none⟩ = some (.int .i64 (b.g + 1)) ∧ W'.cell? ⟨w3.heap.size, 1, none⟩ = some (.slice G 17 gc)) := Lib.hid (fun W' q => ⟨(X4.out.step q).cell 0 rfl, (X4.out.step q).cell 1 rfl, (D4.out.step q).cell 0 rfl, (D4.out.step q).cell 1 rfl⟩)
          have HX4 := Lib.hid X4.out
          clear f0 f1 s0 s1 s0z s1z
          go_wp2
          rw [← HW4.out]
          have HEs := Lib.hid es
          refine wp_region_last (by kernel_rfl) 9 rfl [[46], [47], [48], [49], [50], [51], [52], [53], [54], []] [[], [], [0, 1], [0, 1, 2], [], [4], [], [6, 3, 0, 1, 2], [3, 5, 7, 0, 1, 2, 4, 6], [0, 1, 2, 3, 4, 5, 6, 7, 8]] [2, 3, 4, 8, 11, 12, 13] (by decide) (by kernel_rfl) (Below w4.heap.size w4) (trnF w4.heap.size k A n c (.agg #[.slice A n c, .slice C 0 d]) (.slice (some ⟨bb, 0, none⟩) k ff) (.agg #[.int .i64 (b.g + 1), .slice G 17 gc]) sl rt (settleN ss list [1] k) list) h6 ?_ ?_
          · refine ⟨?_, ?_, ?_, ?_, ?_, ?_, ?_, ?_, ?_, trivial⟩
            · intro T W hT hs hC hF K hK
              obtain ⟨t0, t1, t2, t3, t4, t5, t6, t7, t8, t9, t10, t11, t12, t13, t14, t15, t16, t17, t18, t19, t20, t21, t22, t23, t24, t25, t26, t27, t28, t29, t30, t31, t32, t33, t34, t35, t36, t37, t38, t39, t40, t41, t42, t43, t44, t45, t46, t47, t48, t49, t50, t51, t52, t53, t54, t55, t56, t57, t58, t59, t60, t61, rfl⟩ := arr62 T hT
              obtain rfl : t2 = .int .i64 (u : Int) := hs 2 (by decide)
              obtain rfl : t3 = .slice F nf cf := hs 3 (by decide)
              obtain rfl : t4 = .pointer (some ⟨w.heap.size, 0, none⟩) := hs 4 (by decide)
              obtain rfl : t8 = .pointer (some ⟨w.heap.size + 1, 0, none⟩) := hs 8 (by decide)
              obtain rfl : t11 = .int .i64 sl := hs 11 (by decide)
              obtain rfl : t12 = .pointer (some ⟨w3.heap.size, 0, none⟩) := hs 12 (by decide)
              obtain rfl : t13 = .slice (some ⟨bb, 0, none⟩) k ff := hs 13 (by decide)
              clear hF hs hT
              obtain ⟨k0, k1, k2, k3⟩ := HKq.out W hC
              go_simp
              exact hK.out _ W hC (fun _ _ _ h => h) rfl
            · intro T W hT hs hC hF K hK
              obtain ⟨t0, t1, t2, t3, t4, t5, t6, t7, t8, t9, t10, t11, t12, t13, t14, t15, t16, t17, t18, t19, t20, t21, t22, t23, t24, t25, t26, t27, t28, t29, t30, t31, t32, t33, t34, t35, t36, t37, t38, t39, t40, t41, t42, t43, t44, t45, t46, t47, t48, t49, t50, t51, t52, t53, t54, t55, t56, t57, t58, t59, t60, t61, rfl⟩ := arr62 T hT
              obtain rfl : t2 = .int .i64 (u : Int) := hs 2 (by decide)
              obtain rfl : t3 = .slice F nf cf := hs 3 (by decide)
              obtain rfl : t4 = .pointer (some ⟨w.heap.size, 0, none⟩) := hs 4 (by decide)
              obtain rfl : t8 = .pointer (some ⟨w.heap.size + 1, 0, none⟩) := hs 8 (by decide)
              obtain rfl : t11 = .int .i64 sl := hs 11 (by decide)
              obtain rfl : t12 = .pointer (some ⟨w3.heap.size, 0, none⟩) := hs 12 (by decide)
              obtain rfl : t13 = .slice (some ⟨bb, 0, none⟩) k ff := hs 13 (by decide)
              clear hF hs hT
              go_simp
              exact hK.out _ W hC (fun _ _ _ h => h) rfl
            · intro T W hT hs hC hF K hK
              obtain ⟨t0, t1, t2, t3, t4, t5, t6, t7, t8, t9, t10, t11, t12, t13, t14, t15, t16, t17, t18, t19, t20, t21, t22, t23, t24, t25, t26, t27, t28, t29, t30, t31, t32, t33, t34, t35, t36, t37, t38, t39, t40, t41, t42, t43, t44, t45, t46, t47, t48, t49, t50, t51, t52, t53, t54, t55, t56, t57, t58, t59, t60, t61, rfl⟩ := arr62 T hT
              obtain rfl : t2 = .int .i64 (u : Int) := hs 2 (by decide)
              obtain rfl : t3 = .slice F nf cf := hs 3 (by decide)
              obtain rfl : t4 = .pointer (some ⟨w.heap.size, 0, none⟩) := hs 4 (by decide)
              obtain rfl : t8 = .pointer (some ⟨w.heap.size + 1, 0, none⟩) := hs 8 (by decide)
              obtain rfl : t11 = .int .i64 sl := hs 11 (by decide)
              obtain rfl : t12 = .pointer (some ⟨w3.heap.size, 0, none⟩) := hs 12 (by decide)
              obtain rfl : t13 = .slice (some ⟨bb, 0, none⟩) k ff := hs 13 (by decide)
              have f0 := hF 0 (by decide)
              simp only [trnF, mask] at f0
              have f1 := hF 1 (by decide)
              simp only [trnF, mask] at f1
              clear hF hs hT
              subst f0 f1
              go_simp
              refine (HLay.out W hC).mono ?_
              rintro e w5 ⟨C5, d5, rfl, HW5, k5⟩
              exact hK.out _ w5 (bt hC k5) (fun j t _ h => trnF_below k5 j t h) ⟨C5, d5, rfl, HW5.out⟩
            · intro T W hT hs hC hF K hK
              obtain ⟨t0, t1, t2, t3, t4, t5, t6, t7, t8, t9, t10, t11, t12, t13, t14, t15, t16, t17, t18, t19, t20, t21, t22, t23, t24, t25, t26, t27, t28, t29, t30, t31, t32, t33, t34, t35, t36, t37, t38, t39, t40, t41, t42, t43, t44, t45, t46, t47, t48, t49, t50, t51, t52, t53, t54, t55, t56, t57, t58, t59, t60, t61, rfl⟩ := arr62 T hT
              obtain rfl : t2 = .int .i64 (u : Int) := hs 2 (by decide)
              obtain rfl : t3 = .slice F nf cf := hs 3 (by decide)
              obtain rfl : t4 = .pointer (some ⟨w.heap.size, 0, none⟩) := hs 4 (by decide)
              obtain rfl : t8 = .pointer (some ⟨w.heap.size + 1, 0, none⟩) := hs 8 (by decide)
              obtain rfl : t11 = .int .i64 sl := hs 11 (by decide)
              obtain rfl : t12 = .pointer (some ⟨w3.heap.size, 0, none⟩) := hs 12 (by decide)
              obtain rfl : t13 = .slice (some ⟨bb, 0, none⟩) k ff := hs 13 (by decide)
              have f2 := hF 2 (by decide)
              simp only [trnF, mask] at f2
              clear hF hs hT
              obtain ⟨C5, d5, e48, W5⟩ := f2
              subst e48
              have HW5 := Lib.hid W5
              clear W5
              go_simp
              refine (HFl.out W C5 d5 hC HW5.out).mono ?_
              rintro e w6 ⟨A6, n6, c6, C6, m6, d6, rfl, L6, M6, S6, R6, k6⟩
              obtain rfl : m6 = 0 := by have := M6.out; simpa using this.symm
              exact hK.out _ w6 (bt hC k6) (fun j t _ h => trnF_below k6 j t h) ⟨A6, n6, c6, C6, d6, rfl, L6.out, S6.out.wide hC.size (Nat.le_refl _)⟩
            · intro T W hT hs hC hF K hK
              obtain ⟨t0, t1, t2, t3, t4, t5, t6, t7, t8, t9, t10, t11, t12, t13, t14, t15, t16, t17, t18, t19, t20, t21, t22, t23, t24, t25, t26, t27, t28, t29, t30, t31, t32, t33, t34, t35, t36, t37, t38, t39, t40, t41, t42, t43, t44, t45, t46, t47, t48, t49, t50, t51, t52, t53, t54, t55, t56, t57, t58, t59, t60, t61, rfl⟩ := arr62 T hT
              obtain rfl : t2 = .int .i64 (u : Int) := hs 2 (by decide)
              obtain rfl : t3 = .slice F nf cf := hs 3 (by decide)
              obtain rfl : t4 = .pointer (some ⟨w.heap.size, 0, none⟩) := hs 4 (by decide)
              obtain rfl : t8 = .pointer (some ⟨w.heap.size + 1, 0, none⟩) := hs 8 (by decide)
              obtain rfl : t11 = .int .i64 sl := hs 11 (by decide)
              obtain rfl : t12 = .pointer (some ⟨w3.heap.size, 0, none⟩) := hs 12 (by decide)
              obtain rfl : t13 = .slice (some ⟨bb, 0, none⟩) k ff := hs 13 (by decide)
              clear hF hs hT
              go_simp
              exact hK.out _ W hC (fun _ _ _ h => h) rfl
            · intro T W hT hs hC hF K hK
              obtain ⟨t0, t1, t2, t3, t4, t5, t6, t7, t8, t9, t10, t11, t12, t13, t14, t15, t16, t17, t18, t19, t20, t21, t22, t23, t24, t25, t26, t27, t28, t29, t30, t31, t32, t33, t34, t35, t36, t37, t38, t39, t40, t41, t42, t43, t44, t45, t46, t47, t48, t49, t50, t51, t52, t53, t54, t55, t56, t57, t58, t59, t60, t61, rfl⟩ := arr62 T hT
              obtain rfl : t2 = .int .i64 (u : Int) := hs 2 (by decide)
              obtain rfl : t3 = .slice F nf cf := hs 3 (by decide)
              obtain rfl : t4 = .pointer (some ⟨w.heap.size, 0, none⟩) := hs 4 (by decide)
              obtain rfl : t8 = .pointer (some ⟨w.heap.size + 1, 0, none⟩) := hs 8 (by decide)
              obtain rfl : t11 = .int .i64 sl := hs 11 (by decide)
              obtain rfl : t12 = .pointer (some ⟨w3.heap.size, 0, none⟩) := hs 12 (by decide)
              obtain rfl : t13 = .slice (some ⟨bb, 0, none⟩) k ff := hs 13 (by decide)
              have f4 := hF 4 (by decide)
              simp only [trnF, mask] at f4
              clear hF hs hT
              subst f4
              have es := HEs.out
              go_simp
              exact hK.out _ W hC (fun _ _ _ h => h) rfl
            · intro T W hT hs hC hF K hK
              obtain ⟨t0, t1, t2, t3, t4, t5, t6, t7, t8, t9, t10, t11, t12, t13, t14, t15, t16, t17, t18, t19, t20, t21, t22, t23, t24, t25, t26, t27, t28, t29, t30, t31, t32, t33, t34, t35, t36, t37, t38, t39, t40, t41, t42, t43, t44, t45, t46, t47, t48, t49, t50, t51, t52, t53, t54, t55, t56, t57, t58, t59, t60, t61, rfl⟩ := arr62 T hT
              obtain rfl : t2 = .int .i64 (u : Int) := hs 2 (by decide)
              obtain rfl : t3 = .slice F nf cf := hs 3 (by decide)
              obtain rfl : t4 = .pointer (some ⟨w.heap.size, 0, none⟩) := hs 4 (by decide)
              obtain rfl : t8 = .pointer (some ⟨w.heap.size + 1, 0, none⟩) := hs 8 (by decide)
              obtain rfl : t11 = .int .i64 sl := hs 11 (by decide)
              obtain rfl : t12 = .pointer (some ⟨w3.heap.size, 0, none⟩) := hs 12 (by decide)
              obtain rfl : t13 = .slice (some ⟨bb, 0, none⟩) k ff := hs 13 (by decide)
              clear hF hs hT
              obtain ⟨k0, k1, k2, k3⟩ := HKq.out W hC
              go_simp
              exact hK.out _ W hC (fun _ _ _ h => h) rfl
            · intro T W hT hs hC hF K hK
              obtain ⟨t0, t1, t2, t3, t4, t5, t6, t7, t8, t9, t10, t11, t12, t13, t14, t15, t16, t17, t18, t19, t20, t21, t22, t23, t24, t25, t26, t27, t28, t29, t30, t31, t32, t33, t34, t35, t36, t37, t38, t39, t40, t41, t42, t43, t44, t45, t46, t47, t48, t49, t50, t51, t52, t53, t54, t55, t56, t57, t58, t59, t60, t61, rfl⟩ := arr62 T hT
              obtain rfl : t2 = .int .i64 (u : Int) := hs 2 (by decide)
              obtain rfl : t3 = .slice F nf cf := hs 3 (by decide)
              obtain rfl : t4 = .pointer (some ⟨w.heap.size, 0, none⟩) := hs 4 (by decide)
              obtain rfl : t8 = .pointer (some ⟨w.heap.size + 1, 0, none⟩) := hs 8 (by decide)
              obtain rfl : t11 = .int .i64 sl := hs 11 (by decide)
              obtain rfl : t12 = .pointer (some ⟨w3.heap.size, 0, none⟩) := hs 12 (by decide)
              obtain rfl : t13 = .slice (some ⟨bb, 0, none⟩) k ff := hs 13 (by decide)
              have f6 := hF 6 (by decide)
              simp only [trnF, mask] at f6
              clear hF hs hT
              subst f6
              go_simp
              refine (HTx.out W hC).mono ?_
              rintro e w7 ⟨rfl, k7⟩
              exact hK.out _ w7 (bt hC k7) (fun j t _ h => trnF_below k7 j t h) rfl
            · intro T W hT hs hC hF K hK
              obtain ⟨t0, t1, t2, t3, t4, t5, t6, t7, t8, t9, t10, t11, t12, t13, t14, t15, t16, t17, t18, t19, t20, t21, t22, t23, t24, t25, t26, t27, t28, t29, t30, t31, t32, t33, t34, t35, t36, t37, t38, t39, t40, t41, t42, t43, t44, t45, t46, t47, t48, t49, t50, t51, t52, t53, t54, t55, t56, t57, t58, t59, t60, t61, rfl⟩ := arr62 T hT
              obtain rfl : t2 = .int .i64 (u : Int) := hs 2 (by decide)
              obtain rfl : t3 = .slice F nf cf := hs 3 (by decide)
              obtain rfl : t4 = .pointer (some ⟨w.heap.size, 0, none⟩) := hs 4 (by decide)
              obtain rfl : t8 = .pointer (some ⟨w.heap.size + 1, 0, none⟩) := hs 8 (by decide)
              obtain rfl : t11 = .int .i64 sl := hs 11 (by decide)
              obtain rfl : t12 = .pointer (some ⟨w3.heap.size, 0, none⟩) := hs 12 (by decide)
              obtain rfl : t13 = .slice (some ⟨bb, 0, none⟩) k ff := hs 13 (by decide)
              have f3 := hF 3 (by decide)
              simp only [trnF, mask] at f3
              have f5 := hF 5 (by decide)
              simp only [trnF, mask] at f5
              have f7 := hF 7 (by decide)
              simp only [trnF, mask] at f7
              clear hF hs hT
              obtain ⟨A6, n6, c6, C6, d6, e49, L6, S6⟩ := f3
              subst e49 f5 f7
              have HS6 := Lib.hid (And.intro L6 S6)
              clear L6 S6
              go_simp
              refine (HWt.out W A6 n6 c6 C6 d6).mono ?_
              rintro e w8 ⟨C8, d8, rfl, HW8, k8⟩
              exact hK.out _ w8 (bt hC k8) (fun j t _ h => trnF_below k8 j t h) ⟨A6, n6, c6, C8, d8, rfl, HS6.out.1, (HS6.out.2.below k8).wide (Nat.le_refl _) k8.size, HW8.out.wide hC.size (Nat.le_refl _)⟩
          · intro o ho
            simp at ho
            subst ho
            intro T W hT hs hC hF K hK
            obtain ⟨t0, t1, t2, t3, t4, t5, t6, t7, t8, t9, t10, t11, t12, t13, t14, t15, t16, t17, t18, t19, t20, t21, t22, t23, t24, t25, t26, t27, t28, t29, t30, t31, t32, t33, t34, t35, t36, t37, t38, t39, t40, t41, t42, t43, t44, t45, t46, t47, t48, t49, t50, t51, t52, t53, t54, t55, t56, t57, t58, t59, t60, t61, rfl⟩ := arr62 T hT
            obtain rfl : t2 = .int .i64 (u : Int) := hs 2 (by decide)
            obtain rfl : t3 = .slice F nf cf := hs 3 (by decide)
            obtain rfl : t4 = .pointer (some ⟨w.heap.size, 0, none⟩) := hs 4 (by decide)
            obtain rfl : t8 = .pointer (some ⟨w.heap.size + 1, 0, none⟩) := hs 8 (by decide)
            obtain rfl : t11 = .int .i64 sl := hs 11 (by decide)
            obtain rfl : t12 = .pointer (some ⟨w3.heap.size, 0, none⟩) := hs 12 (by decide)
            obtain rfl : t13 = .slice (some ⟨bb, 0, none⟩) k ff := hs 13 (by decide)
            obtain ⟨A6, n6, c6, C8, d8, e54, L6, S6, W8⟩ := hF 8 (by decide)
            obtain rfl : t54 = .agg #[.slice A6 n6 c6, .slice C8 1 d8] := e54
            have X8 := HX4.out.step hC
            have x0 := X8.cell 0 rfl
            have x1 := X8.cell 1 rfl
            have x0z := X8.frozen 0
            have x1z := X8.frozen 1
            have HX8 := Lib.hid X8
            have HS8 := Lib.hid (And.intro L6 (And.intro S6 W8))
            have Y8 := Lib.hid (Y4.out.step hC)
            have hb8 := bt hb4 hC
            have hz8 : Hid (w.heap.size + 1 < w4.heap.size) := hyl
            clear hF hs hT hC X8 L6 S6 W8
            go_simp
            refine hK.out undef _ ?_
            obtain ⟨w9, hw9⟩ : ∃ w9, w9 = (W.setCell ⟨w.heap.size, 0, none⟩ (.slice A6 n6 c6)).setCell ⟨w.heap.size, 1, none⟩ (.slice C8 1 d8) := ⟨_, rfl⟩
            have bz9 : Btw w.heap.size (w.heap.size + 1) W w9 := by rw [hw9]; exact ((Btw.refl _ _ _).setCell (p := ⟨w.heap.size, 0, none⟩) (Nat.le_refl _) (Nat.lt_succ_self _) _).setCell (p := ⟨w.heap.size, 1, none⟩) (Nat.le_refl _) (Nat.lt_succ_self _) _
            have X9 : Hid (Box w9 w.heap.size 26 #[.slice A6 n6 c6, .slice C8 1 d8]) := Lib.hid (by rw [hw9]; exact HX8.out.allW2 rfl _ _)
            have Y9 : Hid (Box w9 (w.heap.size + 1) 26 #[.slice none 0 0, .slice none 0 0]) := Lib.hid (Y8.out.btw bz9 (.inr (by omega)))
            have S9 := Lib.hid (HS8.out.2.1.btw bz9 (.inr (by have := hz8.out; omega)))
            have W9 := Lib.hid (HS8.out.2.2.btw bz9 (.inr (by have := hz8.out; omega)))
            have hb9 : Below w.heap.size w w9 := by rw [hw9]; exact (hb8.setCell (p := ⟨w.heap.size, 0, none⟩) (Nat.le_refl _) _).setCell (p := ⟨w.heap.size, 1, none⟩) (Nat.le_refl _) _
            have q0 := X9.out.cell 0 rfl
            have q1 := X9.out.cell 1 rfl
            rw [hw9] at q0 q1
            have HW9 := Lib.hid hw9
            have HYl9 : Hid (w.heap.size + 1 < w9.heap.size) := Lib.hid Y9.out.lt
            clear x0 x1 x0z x1z HX8 Y8 hw9 hK
            by_cases hu1 : u = 1
            · have hub1 : ((u : Int) == 1) = true := by simp; omega
              have HRz : Hid (r = (settleN (settleN ss list [1] k) [(1 - sl, rt)] zs 1, 0)) := Lib.hid (by rw [HAl2.out, if_neg (by omega), if_pos (by omega)])
              have HCr := Lib.hid (l01Crash A6 C8 F n6 c6 1 d8 nf cf (settleN ss list [1] k) [(1 - sl, rt)] zs w9 HS8.out.1 rfl HFt.out.1 HFt.out.2.1 S9.out.reads W9.out.reads (HFt.out.2.2.below hb9) HOr.out)
              clear hu1
              go_wp2_with fail
              rw [← HW9.out]
              refine HCr.out.mono ?_
              rintro e w10 ⟨Aa, na, ca, Ca, ma, da, rfl, La, Ma, Sa, Ra, k10⟩
              obtain rfl : ma = 0 := by have := Ma.out; simpa using this.symm
              have Ya := Y9.out.step k10
              have t0 := Ya.cell 0 rfl
              have t1 := Ya.cell 1 rfl
              have t0z := Ya.frozen 0
              have t1z := Ya.frozen 1
              clear Ya q0 q1
              go_wp2
              refine bodyPost_ret (v := .tuple #[.agg #[.slice Aa na ca, .slice Ca 0 da], .int .i64 0]) (by simp [results, Try.results44, go_sem, t0, t1]) rfl ?_
              rw [HRz.out]
              exact ⟨_, _, _, _, _, rfl, La, Lib.hid (own_stored hb9 HYl9.out Sa.out).reads, below_stored (bt hb9 k10)⟩
            · have hub1 : ((u : Int) == 1) = false := by simp; omega
              have HRz : Hid (r = (settleN (settleN ss list [1] k) [(1 - sl, rt)] [1] 1, 0)) := Lib.hid (by rw [HAl2.out, if_neg (by omega), if_neg (by omega)])
              have HCr := Lib.hid (l01Flush A6 C8 n6 c6 1 d8 (settleN ss list [1] k) [(1 - sl, rt)] w9 HS8.out.1 rfl S9.out.reads W9.out.reads HOr.out)
              clear hu1
              go_wp2_with fail
              rw [← HW9.out]
              refine HCr.out.mono ?_
              rintro e w10 ⟨Aa, na, ca, Ca, ma, da, rfl, La, Ma, Sa, Ra, k10⟩
              obtain rfl : ma = 0 := by have := Ma.out; simpa using this.symm
              have Ya := Y9.out.step k10
              have t0 := Ya.cell 0 rfl
              have t1 := Ya.cell 1 rfl
              have t0z := Ya.frozen 0
              have t1z := Ya.frozen 1
              clear Ya q0 q1
              go_wp2
              refine bodyPost_ret (v := .tuple #[.agg #[.slice Aa na ca, .slice Ca 0 da], .int .i64 0]) (by simp [results, Try.results44, go_sem, t0, t1]) rfl ?_
              rw [HRz.out]
              exact ⟨_, _, _, _, _, rfl, La, Lib.hid (own_stored hb9 HYl9.out Sa.out).reads, below_stored (bt hb9 k10)⟩
  · have HB9 : Hid (b = ⟨0, [], 0, 9⟩) := Lib.hid (by rcases HCo.out with q | q <;> first | exact absurd q.1 hc | exact q)
    have hs' : slotOf b < 0 := by rw [HB9.out]; decide
    have HRz : Hid (r = (ss, 9)) := Lib.hid (by have := HP2.out b hbe hc; rw [this] at HCd; have := HCd.out hc; rw [this, HB9.out])
    clear hc
    go_wp2
    rw [← HW2.out]
    refine bodyPost_ret (v := .tuple #[.agg #[.slice A n c, .slice C 0 d], .int .i64 9]) (by rw [HW2.out]; simp [results, Try.results44, go_sem, s0, s1]) rfl ?_
    exact HSelf.out 9 HRz.out
end Go.Proofs.Ytcchhbkbnbphhaa
