/- The model's l02Commit. -/
import Derived.Test.YtcchhbkbnbphhaaSpecPlan
import Derived.Test.YtcchhbkbnbphhaaCommitImpl
import Derived.Test.YtcchhbkbnbphhaaM3
import Derived.Deep.RegionHeld3
import Derived.IntWalk
namespace Go.Proofs.Ytcchhbkbnbphhaa
open Go.RowKit

theorem planOf_of {ss ps : List ByteArray} {b : Best} (hb : best (fun k => readS ss [] k) 2 = b) (hc : b.c = 0) (hg : b.g ≠ 999999) :
    planOf ss ps = if (planN b.z (freeL b.z) (loadL ss [] b.z) ps 17).2.length = 0 then ([], 0) else ((planN b.z (freeL b.z) (loadL ss [] b.z) ps 17).2 ++ [(1 - b.s, rootTx (b.g + 1) (planN b.z (freeL b.z) (loadL ss [] b.z) ps 17).1)], 0) := by
  unfold planOf
  rw [hb]
  simp only [hc, ne_eq, not_true_eq_false, if_false]
  rw [if_neg hg, planN_len, plan_eq]
theorem planOf_none {ss ps : List ByteArray} {b : Best} (hb : best (fun k => readS ss [] k) 2 = b) (hc : b.c ≠ 0) : planOf ss ps = ([], b.c) := by
  unfold planOf
  rw [hb]
  simp only [ne_eq, hc, not_false_eq_true, if_true]
theorem planOf_full {ss ps : List ByteArray} {b : Best} (hb : best (fun k => readS ss [] k) 2 = b) (hc : b.c = 0) (hg : b.g = 999999) : planOf ss ps = ([], 7) := by
  unfold planOf
  rw [hb]
  simp only [hc, ne_eq, not_true_eq_false, if_false]
  rw [if_pos hg]
def GivesRead (r : List ByteArray × Int) (w : World) (e : Ending) (w' : World) : Prop :=
  ∃ A n c C d, e = .returned (.tuple #[.agg #[.slice A n c, .slice C 0 d], .int .i64 r.2]) ∧ Hid (r.1.length = n) ∧ Hid (StrL w' A r.1) ∧ Below w.heap.size w w'
theorem intl_two {w : World} {A : Option Addr} {zs : List Int} {b : Nat} {t : TypeId} {p q : Value} (hp : ∀ z, p ≠ .int .i64 z) (hq : ∀ z, q ≠ .int .i64 z) (h : IntL w A zs) (X : Box w b t #[p, q]) (u v : Value) : IntL ((w.setCell ⟨b, 0, none⟩ u).setCell ⟨b, 1, none⟩ v) A zs := fun i hi => by
  obtain ⟨b', off, e, hc⟩ := h i hi
  have hne : b' ≠ b := by
    rintro rfl
    have hx : w.cell? ⟨b', off + i, none⟩ = (#[p, q] : Array Value)[off + i]? := by
      unfold Box at X; simp [World.cell?, X]
    rw [hc] at hx
    match off + i, hx with
    | 0, hx => simp at hx; exact hp _ hx.symm
    | 1, hx => simp at hx; exact hq _ hx.symm
    | _ + 2, hx => simp at hx
  refine ⟨b', off, e, ?_⟩
  rw [World.cell?_setCell_far _ ⟨b, 1, none⟩ ⟨b', off + i, none⟩ _ (fun q => hne q.symm), World.cell?_setCell_far _ ⟨b, 0, none⟩ ⟨b', off + i, none⟩ _ (fun q => hne q.symm)]
  exact hc
theorem arr62c (T : Array Value) (h : T.size = 62) : ∃ t0 t1 t2 t3 t4 t5 t6 t7 t8 t9 t10 t11 t12 t13 t14 t15 t16 t17 t18 t19 t20 t21 t22 t23 t24 t25 t26 t27 t28 t29 t30 t31 t32 t33 t34 t35 t36 t37 t38 t39 t40 t41 t42 t43 t44 t45 t46 t47 t48 t49 t50 t51 t52 t53 t54 t55 t56 t57 t58 t59 t60 t61 : Value, T = #[t0, t1, t2, t3, t4, t5, t6, t7, t8, t9, t10, t11, t12, t13, t14, t15, t16, t17, t18, t19, t20, t21, t22, t23, t24, t25, t26, t27, t28, t29, t30, t31, t32, t33, t34, t35, t36, t37, t38, t39, t40, t41, t42, t43, t44, t45, t46, t47, t48, t49, t50, t51, t52, t53, t54, t55, t56, t57, t58, t59, t60, t61] := by
  obtain ⟨l⟩ := T
  match l, h with
  | t0 :: t1 :: t2 :: t3 :: t4 :: t5 :: t6 :: t7 :: t8 :: t9 :: t10 :: t11 :: t12 :: t13 :: t14 :: t15 :: t16 :: t17 :: t18 :: t19 :: t20 :: t21 :: t22 :: t23 :: t24 :: t25 :: t26 :: t27 :: t28 :: t29 :: t30 :: t31 :: t32 :: t33 :: t34 :: t35 :: t36 :: t37 :: t38 :: t39 :: t40 :: t41 :: t42 :: t43 :: t44 :: t45 :: t46 :: t47 :: t48 :: t49 :: t50 :: t51 :: t52 :: t53 :: t54 :: t55 :: t56 :: t57 :: t58 :: t59 :: t60 :: t61 :: [], _ => exact ⟨t0, t1, t2, t3, t4, t5, t6, t7, t8, t9, t10, t11, t12, t13, t14, t15, t16, t17, t18, t19, t20, t21, t22, t23, t24, t25, t26, t27, t28, t29, t30, t31, t32, t33, t34, t35, t36, t37, t38, t39, t40, t41, t42, t43, t44, t45, t46, t47, t48, t49, t50, t51, t52, t53, t54, t55, t56, t57, t58, t59, t60, t61, rfl⟩

theorem slice_ne (a : Option Addr) (n c : Nat) : ∀ z : Int, Value.slice a n c ≠ .int .i64 z := fun _ h => nomatch h
structure TC (w : World) (N : Nat) (A C : Option Addr) (n c d bb : Nat) (ls : List (Int × ByteArray)) (W : World) : Prop where
  bel : Below w.heap.size w W
  x : Box W w.heap.size 26 #[.slice A n c, .slice C 0 d]
  y : ∃ p q : Value, (∀ z, p ≠ .int .i64 z) ∧ (∀ z, q ≠ .int .i64 z) ∧ Box W (w.heap.size + 1) 26 #[p, q]
  wr : WrL W (some ⟨bb, 0, none⟩) ls
  big : N ≤ W.heap.size
  hy : w.heap.size + 1 < N
theorem TC.step {w W W' : World} {N : Nat} {A C : Option Addr} {n c d bb : Nat} {ls : List (Int × ByteArray)} (h : TC w N A C n c d bb ls W) (k : Below W.heap.size W W') : TC w N A C n c d bb ls W' := by
  obtain ⟨p, q, hp, hq, Y⟩ := h.y
  exact ⟨bt h.bel k, h.x.step k, ⟨p, q, hp, hq, Y.step k⟩, h.wr.below k, Nat.le_trans h.big k.size, h.hy⟩
theorem TC.set {w W : World} {N : Nat} {A C : Option Addr} {n c d bb : Nat} {ls : List (Int × ByteArray)} (h : TC w N A C n c d bb ls W) {p q : Value} (hp : ∀ z, p ≠ .int .i64 z) (hq : ∀ z, q ≠ .int .i64 z) {cs : Array Value} (Y : Box W (w.heap.size + 1) 26 cs) (i : Nat) (u : Value) (hu : ∀ z, u ≠ .int .i64 z) (hcs : cs = #[p, q] := by rfl) (hi : i < 2 := by omega) : TC w N A C n c d bb ls (W.setCell ⟨w.heap.size + 1, i, none⟩ u) ∧ True := by
  subst hcs
  refine ⟨⟨h.bel.setCell (p := ⟨w.heap.size + 1, i, none⟩) (by show w.heap.size ≤ w.heap.size + 1; omega) _, h.x.far (p := ⟨w.heap.size + 1, i, none⟩) (by show w.heap.size ≠ w.heap.size + 1; omega) _, ?_, wrl_far hp hq h.wr Y i u, by simpa [World.setCell] using h.big, h.hy⟩, trivial⟩
  have Z := Y.set i u
  match i, hi, Z with
  | 0, _, Z => exact ⟨u, q, hu, hq, Z⟩
  | 1, _, Z => exact ⟨p, u, hp, hu, Z⟩
def tenF (M N u : Nat) (A : Option Addr) (n c : Nat) (v0 v1 v4 : Value) (S1 : List ByteArray) (ls : List (Int × ByteArray)) : Nat → (Nat → Value) → World → Prop
  | 0, t, _ => t 39 = v0
  | 1, t, _ => t 40 = v1
  | 2, t, _ => t 41 = .int .i64 (u : Int)
  | 3, t, _ => t 42 = .int .i64 (u : Int)
  | 4, t, _ => t 43 = v4
  | 5, t, w => ∃ C' d', t 44 = .agg #[.slice A n c, .slice C' u d'] ∧ WrL w C' ls
  | 6, t, w => ∃ A6 n6 c6 C6 d6, t 45 = .agg #[.slice A6 n6 c6, .slice C6 0 d6] ∧ S1.length = n6 ∧ OwnS w N w.heap.size A6 S1
  | 7, t, w => ∃ A6 n6 c6 C6 d6, t 45 = .agg #[.slice A6 n6 c6, .slice C6 0 d6] ∧ Box w (M + 1) 26 #[.slice A6 n6 c6, .slice C6 0 d6]
  | 8, t, _ => t 7 = .int .i64 10
  | _, _, _ => True
section
variable {M N u : Nat} {A : Option Addr} {n c : Nat} {v0 v1 v4 : Value} {S1 : List ByteArray} {ls : List (Int × ByteArray)} {w w' : World}
theorem tenF_below (k : Below w.heap.size w w') : ∀ (j : Nat) (t : Nat → Value), tenF M N u A n c v0 v1 v4 S1 ls j t w → tenF M N u A n c v0 v1 v4 S1 ls j t w'
  | 0, _, h | 1, _, h | 2, _, h | 3, _, h | 4, _, h | 8, _, h => h
  | 5, _, ⟨C', d', e, h⟩ => ⟨C', d', e, h.below k⟩
  | 6, _, ⟨A6, n6, c6, C6, d6, e, l, h⟩ => ⟨A6, n6, c6, C6, d6, e, l, (h.below k).wide (Nat.le_refl _) k.size⟩
  | 7, _, ⟨A6, n6, c6, C6, d6, e, h⟩ => ⟨A6, n6, c6, C6, d6, e, h.step k⟩
  | _ + 9, _, _ => trivial
theorem tenF_store {p q : Value} {cs : Array Value} (hN : M + 1 < N) (hp : ∀ z, p ≠ .int .i64 z) (hq : ∀ z, q ≠ .int .i64 z) (Y : Box w (M + 1) 26 cs) (i : Nat) (x : Value) : ∀ (j : Nat) (t : Nat → Value), j ≠ 7 → tenF M N u A n c v0 v1 v4 S1 ls j t w → (hcs : cs = #[p, q] := by rfl) → tenF M N u A n c v0 v1 v4 S1 ls j t (w.setCell ⟨M + 1, i, none⟩ x)
  | 0, _, _, h, _ | 1, _, _, h, _ | 2, _, _, h, _ | 3, _, _, h, _ | 4, _, _, h, _ | 8, _, _, h, _ => h
  | 5, _, _, ⟨C', d', e, h⟩, hcs => by subst hcs; exact ⟨C', d', e, wrl_far hp hq h Y i x⟩
  | 6, _, _, ⟨A6, n6, c6, C6, d6, e, l, h⟩, _ => ⟨A6, n6, c6, C6, d6, e, l, (h.btw ((Btw.refl (M + 1) (M + 1 + 1) w).setCell (p := ⟨M + 1, i, none⟩) (Nat.le_refl _) (Nat.lt_succ_self _) _) (.inr (by omega))).wide (Nat.le_refl _) (by simp [World.setCell])⟩
  | 7, _, n, _, _ => (n rfl).elim
  | _ + 9, _, _, _, _ => trivial
end

set_option maxRecDepth 100000 in
set_option maxHeartbeats 16000000 in
theorem l02Commit (A C P : Option Addr) (n c d f u : Nat) (ss ps : List ByteArray) (w : World) (hl : ss.length = n) (ha : askC ps ss [] = 0) (hu : u ≤ 1000) (h : StrL w A ss) (i : StrL w P ps) :
    Calls Try.prog 38 #[.agg #[.slice A n c, .slice C 0 d], .slice P 17 f, .int .i64 u] w (GivesRead (commitOf ss [] ps u) w) := by
  obtain ⟨hp17, hps, hok, -⟩ := askC_zero ha
  obtain ⟨W0, hW0⟩ : ∃ W0, W0 = ((w.alloc (.cells #[.slice A n c, .slice C 0 d] 26)).alloc (.cells #[.slice none 0 0, .slice none 0 0] 26)) := ⟨_, rfl⟩
  have hb0 : Below w.heap.size w W0 := by rw [hW0]; exact bt (alloc_below _ _) (alloc_below _ _)
  have X0 : Hid (Box W0 w.heap.size 26 #[.slice A n c, .slice C 0 d]) := Lib.hid (by rw [hW0]; exact (Box.new _ _ _).alloc _)
  have Y0 : Hid (Box W0 (w.heap.size + 1) 26 #[.slice none 0 0, .slice none 0 0]) := Lib.hid (by rw [hW0]; simpa using Box.new (w.alloc (.cells #[.slice A n c, .slice C 0 d] 26)) 26 #[.slice none 0 0, .slice none 0 0])
  have HN := Lib.hid (l02Newest A C n c 0 d ss [] W0 hl rfl hok (h.below hb0) (fun i hi => by simp at hi))
  have HCo := Lib.hid (best_code (fun k => readS ss [] k) (readS_small hok 0 (by omega)) (readS_small hok 1 (by omega)))
  have HGd := Lib.hid (fun hc => best_good (fun k => readS ss [] k) 2 hc)
  have HGe := Lib.hid (fun hc => best_gen (fun k => readS ss [] k) 2 hc)
  have HP1 := Lib.hid (fun b hb hc hg => planOf_of (ss := ss) (ps := ps) (b := b) hb hc hg)
  have HP2 := Lib.hid (fun b hb hc => planOf_none (ss := ss) (ps := ps) (b := b) hb hc)
  have HP3 := Lib.hid (fun b hb hc hg => planOf_full (ss := ss) (ps := ps) (b := b) hb hc hg)
  have HOk := Lib.hid (plan_ok hok hps)
  have HFew := Lib.hid (fun h3 h4 => commit_few (ss := ss) (ps := ps) (ws := []) ha hu h3 h4)
  have HAll := Lib.hid (fun h3 h4 => commit_all (ss := ss) (ps := ps) (ws := []) ha hu h3 h4)
  have HCd := Lib.hid (fun h3 => commit_code (ss := ss) (ps := ps) (ws := []) (bud := u) ha ⟨by omega, by omega⟩ h3)
  obtain ⟨r, hr⟩ : ∃ r, commitOf ss [] ps u = r := ⟨_, rfl⟩
  rw [hr]
  rw [hr] at HFew HAll HCd
  have HL := Lib.hid (And.intro hl (And.intro hp17 hok))
  have HA := Lib.hid (And.intro h i)
  have HW0 := Lib.hid hW0
  have H48 : Hid (n = 48) := Lib.hid (by have := (ok_of hok).n48; omega)
  clear hl ha h i hp17 hps hok hW0 hr
  generalize hbe : best (fun k => readS ss [] k) 2 = b at HN HCo HGd HGe
  go_enter Try.func38, Try.ntmps38
  go_wp2_with fail
  rw [← HW0.out]
  refine HN.out.mono ?_
  rintro e w1 ⟨T, nt, tc, rfl, LT, OT, hb1⟩
  obtain ⟨w2, hw2⟩ : ∃ w2, w2 = w1.alloc (.cells #[.int .i64 b.g, .slice T nt tc] 31) := ⟨_, rfl⟩
  have k2 : Below w1.heap.size w1 w2 := by rw [hw2]; exact alloc_below _ _
  have hb2 := bt (bt hb0 hb1) k2
  have X2 := Lib.hid ((X0.out.step hb1).step k2)
  have Y2 := Lib.hid ((Y0.out.step hb1).step k2)
  have D2 : Hid (Box w2 w1.heap.size 31 #[.int .i64 b.g, .slice T nt tc]) := Lib.hid (by rw [hw2]; exact Box.new _ _ _)
  have O2 := Lib.hid (OT.out.below k2)
  have f0 := X2.out.cell 0 rfl
  have f1 := X2.out.cell 1 rfl
  have s0 := Y2.out.cell 0 rfl
  have s1 := Y2.out.cell 1 rfl
  have s0z := Y2.out.frozen 0
  have s1z := Y2.out.frozen 1
  have d0 := D2.out.cell 0 rfl
  have d1 := D2.out.cell 1 rfl
  rw [hw2] at f0 f1 s0 s1 s0z s1z d0 d1
  have HW2 := Lib.hid hw2
  clear X0 Y0 HN OT hw2 HW0
  have HSelf : Hid (∀ code : Int, r = (ss, code) → GivesRead r w (.returned (.tuple #[.agg #[.slice A n c, .slice C 0 d], .int .i64 code])) ((w2.setCell ⟨w.heap.size + 1, 0, none⟩ (.slice A n c)).setCell ⟨w.heap.size + 1, 1, none⟩ (.slice C 0 d))) := Lib.hid (fun code hr => by
    rw [hr]
    exact ⟨A, n, c, C, d, rfl, Lib.hid HL.out.1, Lib.hid (HA.out.1.below (below_stored hb2)), below_stored hb2⟩)
  by_cases hc : b.c = 0
  · have hs : 0 ≤ b.s ∧ b.s < 2 := by have := HGe.out hc; omega
    have hsl : slotOf b = b.s := by unfold slotOf; rw [if_pos hc]
    have hs' : ¬ slotOf b < 0 := by rw [hsl]; omega
    by_cases hg : b.g = 999999
    · have hgb : (b.g == 999999) = true := by simp [hg]
      have HRz : Hid (r = (ss, 7)) := Lib.hid (by have := HP3.out b hbe hc hg; rw [this] at HCd; exact HCd.out (by decide))
      clear hg hsl hc
      go_wp2
      rw [← HW2.out]
      refine bodyPost_ret (v := .tuple #[.agg #[.slice A n c, .slice C 0 d], .int .i64 7]) (by rw [HW2.out]; simp [results, Try.results38, go_sem, s0, s1]) rfl ?_
      exact HSelf.out 7 HRz.out
    · have hgb : (b.g == 999999) = false := by simp [hg]
      have hgd := HGd.out hc
      have hge := HGe.out hc
      obtain rfl : nt = 17 := by have := LT.out; omega
      have HPln := Lib.hid (l02Plan A C T P n c d tc f ss ps b.g b.z w2 HL.out.1 H48.out HL.out.2.1 hgd.1 hgd.2 (by omega) (HA.out.1.below hb2) (HA.out.2.below hb2) O2.out.reads)
      have HPo := Lib.hid (HP1.out b hbe hc hg)
      have HTab : Hid ((planN b.z (freeL b.z) (loadL ss [] b.z) ps 17).1.length = 17 ∧ ∀ z ∈ (planN b.z (freeL b.z) (loadL ss [] b.z) ps 17).1, 0 ≤ z ∧ z ≤ 99) := Lib.hid ⟨by rw [planN_tab]; exact hgd.1, by
        rw [plan_eq]
        intro z hz
        have := withN_in b.z (diffN ps (loadL ss [] b.z) 17) (freeL b.z) hgd.2 (freeL_in b.z) (diffN ps (loadL ss [] b.z) 17).length (by have := freeL_len b.z hgd.1; have := diffN_len ps (loadL ss [] b.z) 17; omega) z hz
        omega⟩
      generalize planN b.z (freeL b.z) (loadL ss [] b.z) ps 17 = q at HPln HPo HTab
      obtain ⟨tab, list⟩ := q
      replace HPo : Hid (planOf ss ps = if list.length = 0 then ([], 0) else (list ++ [(1 - b.s, rootTx (b.g + 1) tab)], 0)) := HPo
      replace HTab : Hid (tab.length = 17 ∧ ∀ z ∈ tab, 0 ≤ z ∧ z ≤ 99) := HTab
      have HSl : Hid (slotOf b = b.s) := Lib.hid hsl
      have hg6 : b.g + 1 ≤ 999999 := by omega
      have hg0 : 0 ≤ b.g + 1 := by omega
      generalize slotOf b = sl at hs' HSl
      have es : IntKind.i64.wrap (1 - sl) = 1 - sl := IntWalk.i64_in _ (by have := HSl.out; omega)
      clear hg hsl hc hbe HGd HGe HP1 HP2 HP3 HCd HCo hgd
      go_wp2_with fail
      rw [← HW2.out]
      refine HPln.out.mono ?_
      rintro e w3 ⟨G, gc, B, k, ff, rfl, HK, HKf, HBs, HGt, HWr, k3⟩
      replace HK : Hid (list.length = k) := HK
      replace HGt : Hid (IntL w3 G tab) := HGt
      replace HWr : Hid (WrL w3 B list) := HWr
      obtain ⟨w4, hw4⟩ : ∃ w4, w4 = w3.alloc (.cells #[.int .i64 (b.g + 1), .slice G 17 gc] 31) := ⟨_, rfl⟩
      have k4 : Below w3.heap.size w3 w4 := by rw [hw4]; exact alloc_below _ _
      have hb4 := bt (bt hb2 k3) k4
      have X4 := Lib.hid ((X2.out.step k3).step k4)
      have Y4 := Lib.hid ((Y2.out.step k3).step k4)
      have D4 : Hid (Box w4 w3.heap.size 31 #[.int .i64 (b.g + 1), .slice G 17 gc]) := Lib.hid (by rw [hw4]; exact Box.new _ _ _)
      have HW3 := Lib.hid (HWr.out.below k4)
      have HG4 := Lib.hid (HGt.out.below k4)
      clear f0 f1 s0 s1 s0z s1z d0 d1 HPln HWr HGt HSelf X2 Y2 D2 O2
      have f0 := X4.out.cell 0 rfl
      have f1 := X4.out.cell 1 rfl
      have s0 := Y4.out.cell 0 rfl
      have s1 := Y4.out.cell 1 rfl
      have s0z := Y4.out.frozen 0
      have s1z := Y4.out.frozen 1
      rw [hw4] at f0 f1 s0 s1 s0z s1z
      have HW4 := Lib.hid hw4
      have hyl : Hid (w.heap.size + 1 < w4.heap.size) := Lib.hid Y4.out.lt
      clear hw4 HW2
      by_cases hz : k = 0
      · have hzb : ((k : Int) == 0) = true := by simp; omega
        have HRz : Hid (r = (ss, 0)) := Lib.hid (by
          have e1 : planOf ss ps = ([], 0) := by rw [HPo.out, if_pos (by rw [HK.out]; exact hz)]
          have := HAll.out (by rw [e1]) (by rw [e1]; simp)
          rw [this, e1]; rfl)
        clear hz
        go_wp2
        rw [← HW4.out]
        refine bodyPost_ret (v := .tuple #[.agg #[.slice A n c, .slice C 0 d], .int .i64 0]) (by rw [HW4.out]; simp [results, Try.results38, go_sem, s0, s1]) rfl ?_
        rw [HRz.out]
        exact ⟨A, n, c, C, d, rfl, Lib.hid HL.out.1, Lib.hid (HA.out.1.below (below_stored hb4)), below_stored hb4⟩
      · have hzb : ((k : Int) == 0) = false := by simp; omega
        have HPe : Hid (planOf ss ps = (list ++ [(1 - b.s, rootTx (b.g + 1) tab)], 0)) := Lib.hid (by rw [HPo.out, if_neg (by rw [HK.out]; exact hz)])
        have HOL : Hid (Ok ss (list ++ [(1 - b.s, rootTx (b.g + 1) tab)])) := Lib.hid (by have := HOk.out.1; rw [HPe.out] at this; exact this)
        have HK17 : Hid (k ≤ 17) := Lib.hid (by have := HOk.out.2; rw [HPe.out] at this; have q := HK.out; simp only [List.length_append, List.length_singleton] at this; omega)
        have HOk1 : Hid (Ok ss list) := Lib.hid (HOL.out.sub (by simp) (fun x hx => List.mem_append_left _ hx))
        obtain ⟨bb, rfl⟩ : ∃ bb, B = some ⟨bb, 0, none⟩ := by rcases HBs.out with q | q <;> first | omega | exact q
        rw [HPe.out] at HFew HAll
        have hsz2 : Hid (w.heap.size ≤ w4.heap.size) := Lib.hid hb4.size
        clear HPo HOk HPe
        by_cases hlt : u < k
        · have hlt' : (u : Int) < (k : Int) := by omega
          have HRz : Hid (r = (settleN ss (list.take u) [1] u, 10)) := Lib.hid (by
            have := HFew.out rfl (by have := HK.out; simp only [List.length_append, List.length_singleton]; omega)
            rw [this, take_snoc _ _ _ (by have := HK.out; omega)])
          have hmx : max (u : Int) 0 = (u : Int) := by omega
          have hm0 : (0 : Int) ≤ (u : Int) := by omega
          have hm1 : (0 : Int) ≤ max (u : Int) 0 := by omega
          have hm2 : max (u : Int) 0 ≤ (ff : Int) := by have := HKf.out; omega
          have hm3 : max (u : Int) 0 ≤ (k : Int) := by omega
          have hm4 : (max (u : Int) 0).toNat = u := by omega
          have h3 : ¬ (u : Int) < 0 := by omega
          have e1 : (u : Int) ≤ (ff : Int) := by have := HKf.out; omega
          have e2 : u ≤ ff := by have := HKf.out; omega
          have e3 : (u : Int) ≤ (k : Int) := by omega
          have HLk : Hid ((list.take u).length = u) := Lib.hid (by rw [List.length_take]; have := HK.out; omega)
          have HMx : Hid (max (u : Int) 0 = (u : Int) ∧ ¬ (u : Int) < 0 ∧ (u : Int) ≤ (ff : Int) ∧ u ≤ ff ∧ (u : Int) ≤ (k : Int)) := Lib.hid ⟨hmx, h3, e1, e2, e3⟩
          have HLay : Hid (∀ W, WrL W (some ⟨bb, 0, none⟩) list → Calls Try.prog 69 #[.agg #[.slice A n c, .slice C 0 d], .slice (some ⟨bb, 0, none⟩) u ff] W (GivesLay A n c u (list.take u) W)) := Lib.hid (fun W q => by
            have := l02Lay A C (some ⟨bb, 0, none⟩) n c 0 d u ff [] (list.take u) W rfl HLk.out (by have := HK17.out; omega) (fun i hi => by simp at hi) (q.take u)
            rwa [Nat.zero_add, List.nil_append] at this)
          have HFl := Lib.hid (fun W C' d' (q : Below w.heap.size w W) (g : WrL W C' (list.take u)) => l01Flush A C' n c u d' ss (list.take u) W HL.out.1 HLk.out (HA.out.1.below q) g (HOk1.out.take u))
          have HTc : Hid (TC w w4.heap.size A C n c d bb list w4.drew) := Lib.hid ((⟨hb4, X4.out, ⟨.slice none 0 0, .slice none 0 0, slice_ne _ _ _, slice_ne _ _ _, Y4.out⟩, HW3.out, Nat.le_refl _, hyl.out⟩ : TC w w4.heap.size A C n c d bb list w4).step (Below.refl _ _).drew)
          clear HFew HAll HK HKf HBs HOL HOk1 HK17 f0 f1 s0 s1 s0z s1z
          go_wp2
          rw [← HW4.out]
          refine wp_region_facts (by kernel_rfl) [[39], [40], [41], [42], [43], [44], [45], [45], [7]] [[], [], [], [2], [1, 2, 3], [0, 1, 2, 3, 4], [0, 1, 2, 3, 4, 5], [0, 1, 2, 3, 4, 5, 6], [0, 1, 2, 3, 4, 5, 6, 7]] [2, 3, 6, 11] (by kernel_rfl) (TC w w4.heap.size A C n c d bb list) (tenF w.heap.size w4.heap.size u A n c (.agg #[.slice A n c, .slice C 0 d]) (.slice (some ⟨bb, 0, none⟩) k ff) (.slice (some ⟨bb, 0, none⟩) u ff) (settleN ss (list.take u) [1] u) (list.take u)) HTc.out ?_ ?_
          · refine ⟨?_, ?_, ?_, ?_, ?_, ?_, ?_, ?_, ?_, trivial⟩
            · intro T W hT hs hC hF K hK
              obtain ⟨t0, t1, t2, t3, t4, t5, t6, t7, t8, t9, t10, t11, t12, t13, t14, t15, t16, t17, t18, t19, t20, t21, t22, t23, t24, t25, t26, t27, t28, t29, t30, t31, t32, t33, t34, t35, t36, t37, t38, t39, t40, t41, t42, t43, t44, t45, t46, t47, t48, t49, t50, t51, t52, t53, t54, t55, t56, t57, t58, t59, t60, t61, rfl⟩ := arr62c T hT
              obtain rfl : t2 = .int .i64 (u : Int) := hs 2 (by decide)
              obtain rfl : t3 = .pointer (some ⟨w.heap.size, 0, none⟩) := hs 3 (by decide)
              obtain rfl : t6 = .pointer (some ⟨w.heap.size + 1, 0, none⟩) := hs 6 (by decide)
              obtain rfl : t11 = .slice (some ⟨bb, 0, none⟩) k ff := hs 11 (by decide)
              clear hF hs hT
              have k0 := hC.x.cell 0 rfl
              have k1 := hC.x.cell 1 rfl
              go_simp
              exact hK.out _ W hC (fun _ _ _ h => h) rfl
            · intro T W hT hs hC hF K hK
              obtain ⟨t0, t1, t2, t3, t4, t5, t6, t7, t8, t9, t10, t11, t12, t13, t14, t15, t16, t17, t18, t19, t20, t21, t22, t23, t24, t25, t26, t27, t28, t29, t30, t31, t32, t33, t34, t35, t36, t37, t38, t39, t40, t41, t42, t43, t44, t45, t46, t47, t48, t49, t50, t51, t52, t53, t54, t55, t56, t57, t58, t59, t60, t61, rfl⟩ := arr62c T hT
              obtain rfl : t2 = .int .i64 (u : Int) := hs 2 (by decide)
              obtain rfl : t3 = .pointer (some ⟨w.heap.size, 0, none⟩) := hs 3 (by decide)
              obtain rfl : t6 = .pointer (some ⟨w.heap.size + 1, 0, none⟩) := hs 6 (by decide)
              obtain rfl : t11 = .slice (some ⟨bb, 0, none⟩) k ff := hs 11 (by decide)
              clear hF hs hT
              go_simp
              exact hK.out _ W hC (fun _ _ _ h => h) rfl
            · intro T W hT hs hC hF K hK
              obtain ⟨t0, t1, t2, t3, t4, t5, t6, t7, t8, t9, t10, t11, t12, t13, t14, t15, t16, t17, t18, t19, t20, t21, t22, t23, t24, t25, t26, t27, t28, t29, t30, t31, t32, t33, t34, t35, t36, t37, t38, t39, t40, t41, t42, t43, t44, t45, t46, t47, t48, t49, t50, t51, t52, t53, t54, t55, t56, t57, t58, t59, t60, t61, rfl⟩ := arr62c T hT
              obtain rfl : t2 = .int .i64 (u : Int) := hs 2 (by decide)
              obtain rfl : t3 = .pointer (some ⟨w.heap.size, 0, none⟩) := hs 3 (by decide)
              obtain rfl : t6 = .pointer (some ⟨w.heap.size + 1, 0, none⟩) := hs 6 (by decide)
              obtain rfl : t11 = .slice (some ⟨bb, 0, none⟩) k ff := hs 11 (by decide)
              clear hF hs hT
              go_simp
              exact hK.out _ W hC (fun _ _ _ h => h) rfl
            · intro T W hT hs hC hF K hK
              obtain ⟨t0, t1, t2, t3, t4, t5, t6, t7, t8, t9, t10, t11, t12, t13, t14, t15, t16, t17, t18, t19, t20, t21, t22, t23, t24, t25, t26, t27, t28, t29, t30, t31, t32, t33, t34, t35, t36, t37, t38, t39, t40, t41, t42, t43, t44, t45, t46, t47, t48, t49, t50, t51, t52, t53, t54, t55, t56, t57, t58, t59, t60, t61, rfl⟩ := arr62c T hT
              obtain rfl : t2 = .int .i64 (u : Int) := hs 2 (by decide)
              obtain rfl : t3 = .pointer (some ⟨w.heap.size, 0, none⟩) := hs 3 (by decide)
              obtain rfl : t6 = .pointer (some ⟨w.heap.size + 1, 0, none⟩) := hs 6 (by decide)
              obtain rfl : t11 = .slice (some ⟨bb, 0, none⟩) k ff := hs 11 (by decide)
              have f2 := hF 2 (by decide)
              simp only [tenF, mask] at f2
              clear hF hs hT
              subst f2
              have hmx := HMx.out.1
              go_simp
              exact hK.out _ W hC (fun _ _ _ h => h) rfl
            · intro T W hT hs hC hF K hK
              obtain ⟨t0, t1, t2, t3, t4, t5, t6, t7, t8, t9, t10, t11, t12, t13, t14, t15, t16, t17, t18, t19, t20, t21, t22, t23, t24, t25, t26, t27, t28, t29, t30, t31, t32, t33, t34, t35, t36, t37, t38, t39, t40, t41, t42, t43, t44, t45, t46, t47, t48, t49, t50, t51, t52, t53, t54, t55, t56, t57, t58, t59, t60, t61, rfl⟩ := arr62c T hT
              obtain rfl : t2 = .int .i64 (u : Int) := hs 2 (by decide)
              obtain rfl : t3 = .pointer (some ⟨w.heap.size, 0, none⟩) := hs 3 (by decide)
              obtain rfl : t6 = .pointer (some ⟨w.heap.size + 1, 0, none⟩) := hs 6 (by decide)
              obtain rfl : t11 = .slice (some ⟨bb, 0, none⟩) k ff := hs 11 (by decide)
              have f1 := hF 1 (by decide)
              simp only [tenF, mask] at f1
              have f3 := hF 3 (by decide)
              simp only [tenF, mask] at f3
              clear hF hs hT
              subst f1 f3
              obtain ⟨-, h3, e1, e2, e3⟩ := HMx.out
              go_simp
              exact hK.out _ W hC (fun _ _ _ h => h) rfl
            · intro T W hT hs hC hF K hK
              obtain ⟨t0, t1, t2, t3, t4, t5, t6, t7, t8, t9, t10, t11, t12, t13, t14, t15, t16, t17, t18, t19, t20, t21, t22, t23, t24, t25, t26, t27, t28, t29, t30, t31, t32, t33, t34, t35, t36, t37, t38, t39, t40, t41, t42, t43, t44, t45, t46, t47, t48, t49, t50, t51, t52, t53, t54, t55, t56, t57, t58, t59, t60, t61, rfl⟩ := arr62c T hT
              obtain rfl : t2 = .int .i64 (u : Int) := hs 2 (by decide)
              obtain rfl : t3 = .pointer (some ⟨w.heap.size, 0, none⟩) := hs 3 (by decide)
              obtain rfl : t6 = .pointer (some ⟨w.heap.size + 1, 0, none⟩) := hs 6 (by decide)
              obtain rfl : t11 = .slice (some ⟨bb, 0, none⟩) k ff := hs 11 (by decide)
              have f0 := hF 0 (by decide)
              simp only [tenF, mask] at f0
              have f4 := hF 4 (by decide)
              simp only [tenF, mask] at f4
              clear hF hs hT
              subst f0 f4
              go_simp
              refine (HLay.out W hC.wr).mono ?_
              rintro e w5 ⟨C5, d5, rfl, HW5, k5⟩
              exact hK.out _ w5 (hC.step k5) (fun j t _ h => tenF_below k5 j t h) ⟨C5, d5, rfl, HW5.out⟩
            · intro T W hT hs hC hF K hK
              obtain ⟨t0, t1, t2, t3, t4, t5, t6, t7, t8, t9, t10, t11, t12, t13, t14, t15, t16, t17, t18, t19, t20, t21, t22, t23, t24, t25, t26, t27, t28, t29, t30, t31, t32, t33, t34, t35, t36, t37, t38, t39, t40, t41, t42, t43, t44, t45, t46, t47, t48, t49, t50, t51, t52, t53, t54, t55, t56, t57, t58, t59, t60, t61, rfl⟩ := arr62c T hT
              obtain rfl : t2 = .int .i64 (u : Int) := hs 2 (by decide)
              obtain rfl : t3 = .pointer (some ⟨w.heap.size, 0, none⟩) := hs 3 (by decide)
              obtain rfl : t6 = .pointer (some ⟨w.heap.size + 1, 0, none⟩) := hs 6 (by decide)
              obtain rfl : t11 = .slice (some ⟨bb, 0, none⟩) k ff := hs 11 (by decide)
              have f5 := hF 5 (by decide)
              simp only [tenF, mask] at f5
              clear hF hs hT
              obtain ⟨C5, d5, e44, W5⟩ := f5
              subst e44
              have HW5 := Lib.hid W5
              clear W5
              go_simp
              refine (HFl.out W C5 d5 hC.bel HW5.out).mono ?_
              rintro e w6 ⟨A6, n6, c6, C6, m6, d6, rfl, L6, M6, S6, R6, k6⟩
              obtain rfl : m6 = 0 := by have := M6.out; simpa using this.symm
              exact hK.out _ w6 (hC.step k6) (fun j t _ h => tenF_below k6 j t h) ⟨A6, n6, c6, C6, d6, rfl, L6.out, S6.out.wide hC.big (Nat.le_refl _)⟩
            · intro T W hT hs hC hF K hK
              obtain ⟨t0, t1, t2, t3, t4, t5, t6, t7, t8, t9, t10, t11, t12, t13, t14, t15, t16, t17, t18, t19, t20, t21, t22, t23, t24, t25, t26, t27, t28, t29, t30, t31, t32, t33, t34, t35, t36, t37, t38, t39, t40, t41, t42, t43, t44, t45, t46, t47, t48, t49, t50, t51, t52, t53, t54, t55, t56, t57, t58, t59, t60, t61, rfl⟩ := arr62c T hT
              obtain rfl : t2 = .int .i64 (u : Int) := hs 2 (by decide)
              obtain rfl : t3 = .pointer (some ⟨w.heap.size, 0, none⟩) := hs 3 (by decide)
              obtain rfl : t6 = .pointer (some ⟨w.heap.size + 1, 0, none⟩) := hs 6 (by decide)
              obtain rfl : t11 = .slice (some ⟨bb, 0, none⟩) k ff := hs 11 (by decide)
              have f6 := hF 6 (by decide)
              simp only [tenF, mask] at f6
              clear hF hs hT
              obtain ⟨A6, n6, c6, C6, d6, e45, L6, S6⟩ := f6
              subst e45
              obtain ⟨p, q, hp, hq, Y⟩ := hC.y
              have y0 := Y.cell 0 rfl
              have y1 := Y.cell 1 rfl
              have z0 := Y.frozen 0
              have z1 := Y.frozen 1
              have HY := Lib.hid Y
              have HC := Lib.hid hC
              clear Y L6 S6 hC
              go_simp
              exact hK.out undef _ ((HC.out.set (p := p) (q := q) hp hq HY.out 0 _ (slice_ne _ _ _)).1.set (p := .slice A6 n6 c6) (q := q) (slice_ne _ _ _) hq (HY.out.set 0 _) 1 _ (slice_ne _ _ _)).1 (fun j t n h => tenF_store (p := .slice A6 n6 c6) (q := q) HC.out.hy (slice_ne _ _ _) hq (HY.out.set 0 _) 1 _ j t n (tenF_store (p := p) (q := q) HC.out.hy hp hq HY.out 0 _ j t n h)) ⟨A6, n6, c6, C6, d6, rfl, HY.out.allW2 rfl _ _⟩
            · intro T W hT hs hC hF K hK
              obtain ⟨t0, t1, t2, t3, t4, t5, t6, t7, t8, t9, t10, t11, t12, t13, t14, t15, t16, t17, t18, t19, t20, t21, t22, t23, t24, t25, t26, t27, t28, t29, t30, t31, t32, t33, t34, t35, t36, t37, t38, t39, t40, t41, t42, t43, t44, t45, t46, t47, t48, t49, t50, t51, t52, t53, t54, t55, t56, t57, t58, t59, t60, t61, rfl⟩ := arr62c T hT
              obtain rfl : t2 = .int .i64 (u : Int) := hs 2 (by decide)
              obtain rfl : t3 = .pointer (some ⟨w.heap.size, 0, none⟩) := hs 3 (by decide)
              obtain rfl : t6 = .pointer (some ⟨w.heap.size + 1, 0, none⟩) := hs 6 (by decide)
              obtain rfl : t11 = .slice (some ⟨bb, 0, none⟩) k ff := hs 11 (by decide)
              clear hF hs hT
              go_simp
              exact hK.out _ W hC (fun _ _ _ h => h) rfl
          · intro T W hT hs hC hF
            obtain ⟨t0, t1, t2, t3, t4, t5, t6, t7, t8, t9, t10, t11, t12, t13, t14, t15, t16, t17, t18, t19, t20, t21, t22, t23, t24, t25, t26, t27, t28, t29, t30, t31, t32, t33, t34, t35, t36, t37, t38, t39, t40, t41, t42, t43, t44, t45, t46, t47, t48, t49, t50, t51, t52, t53, t54, t55, t56, t57, t58, t59, t60, t61, rfl⟩ := arr62c T hT
            obtain rfl : t2 = .int .i64 (u : Int) := hs 2 (by decide)
            obtain rfl : t3 = .pointer (some ⟨w.heap.size, 0, none⟩) := hs 3 (by decide)
            obtain rfl : t6 = .pointer (some ⟨w.heap.size + 1, 0, none⟩) := hs 6 (by decide)
            obtain rfl : t11 = .slice (some ⟨bb, 0, none⟩) k ff := hs 11 (by decide)
            obtain ⟨A6, n6, c6, C6, d6, e45, L6, S6⟩ := hF 6 (by decide)
            obtain ⟨A7, n7, c7, C7, d7, f45, Y⟩ := hF 7 (by decide)
            have E1 : Value.agg #[.slice A6 n6 c6, .slice C6 0 d6] = .agg #[.slice A7 n7 c7, .slice C7 0 d7] := (show t45 = _ from e45).symm.trans f45
            simp only [Value.agg.injEq, Array.mk.injEq, List.cons.injEq, Value.slice.injEq, true_and, and_true] at E1
            obtain ⟨⟨r1, r2, r3⟩, r4, r5⟩ := E1
            subst r1 r2 r3 r4 r5
            obtain rfl : t7 = .int .i64 10 := hF 8 (by decide)
            have y0 := Y.cell 0 rfl
            have y1 := Y.cell 1 rfl
            have HS := Lib.hid (And.intro L6 S6)
            have HBw := Lib.hid hC.bel
            clear e45 f45 Y hF hs hT hC L6 S6
            go_wp2
            refine bodyPost_ret (v := .tuple #[.agg #[.slice A6 n6 c6, .slice C6 0 d6], .int .i64 10]) (by simp [results, Try.results38, go_sem, y0, y1]) rfl ?_
            rw [HRz.out]
            exact ⟨_, _, _, _, _, rfl, Lib.hid HS.out.1, Lib.hid HS.out.2.reads, HBw.out⟩
        · have hlt' : ¬ ((u : Int) < (k : Int)) := by omega
          have HLay : Hid (∀ W, Below w4.heap.size w4 W → Calls Try.prog 69 #[.agg #[.slice A n c, .slice C 0 d], .slice (some ⟨bb, 0, none⟩) k ff] W (GivesLay A n c k list W)) := Lib.hid (fun W q => by
            have := l02Lay A C (some ⟨bb, 0, none⟩) n c 0 d k ff [] list W rfl HK.out (by have := HK17.out; omega) (fun i hi => by simp at hi) (HW3.out.below q)
            rwa [Nat.zero_add, List.nil_append] at this)
          have HFl := Lib.hid (fun W C' d' (q : Below w4.heap.size w4 W) (g : WrL W C' list) => l01Flush A C' n c k d' ss list W HL.out.1 HK.out (HA.out.1.below (bt hb4 q)) g HOk1.out)
          have HLy4 := Lib.hid (HLay.out w4 (Below.refl _ _))
          clear HLay
          go_wp2_with fail
          rw [← HW4.out]
          refine HLy4.out.mono ?_
          rintro e w5 ⟨C5, d5, rfl, HW5, k5⟩
          have HFl5 := Lib.hid (HFl.out w5 C5 d5 k5 HW5.out)
          clear HFl HLy4 HW5
          go_wp2_with fail
          refine HFl5.out.mono ?_
          rintro e w6 ⟨A6, n6, c6, C6, m6, d6, rfl, L6, M6, S6, R6, k6⟩
          obtain rfl : m6 = 0 := by have := M6.out; simpa using this.symm
          have k56 := bt k5 k6
          have X6 := Lib.hid (X4.out.step k56)
          have Y6 := Lib.hid (Y4.out.step k56)
          obtain ⟨w7, hw7⟩ : ∃ w7, w7 = (w6.setCell ⟨w.heap.size, 0, none⟩ (.slice A6 n6 c6)).setCell ⟨w.heap.size, 1, none⟩ (.slice C6 0 d6) := ⟨_, rfl⟩
          have x0 := X6.out.cell 0 rfl
          have x1 := X6.out.cell 1 rfl
          have x0z := X6.out.frozen 0
          have x1z := X6.out.frozen 1
          have X7 : Hid (Box w7 w.heap.size 26 #[.slice A6 n6 c6, .slice C6 0 d6]) := Lib.hid (by rw [hw7]; exact X6.out.allW2 rfl _ _)
          have Y7 : Hid (Box w7 (w.heap.size + 1) 26 #[.slice none 0 0, .slice none 0 0]) := Lib.hid (by rw [hw7]; exact (Y6.out.far (p := ⟨w.heap.size, 0, none⟩) (by show w.heap.size + 1 ≠ w.heap.size; omega) _).far (p := ⟨w.heap.size, 1, none⟩) (by show w.heap.size + 1 ≠ w.heap.size; omega) _)
          have D7 : Hid (Box w7 w3.heap.size 31 #[.int .i64 (b.g + 1), .slice G 17 gc]) := Lib.hid (by rw [hw7]; have hd : w3.heap.size ≠ w.heap.size := (by have := bt hb2 k3; have := this.size; have := hyl.out; have q := D4.out.lt; have := k4; intro e; have z := (X4.out.symm.trans (e ▸ D4.out)); simp at z); exact ((D4.out.step k56).far (p := ⟨w.heap.size, 0, none⟩) hd _).far (p := ⟨w.heap.size, 1, none⟩) hd _)
          have bz7 : Btw w.heap.size (w.heap.size + 1) w6 w7 := by rw [hw7]; exact ((Btw.refl _ _ _).setCell (p := ⟨w.heap.size, 0, none⟩) (Nat.le_refl _) (Nat.lt_succ_self _) _).setCell (p := ⟨w.heap.size, 1, none⟩) (Nat.le_refl _) (Nat.lt_succ_self _) _
          have hq4 : w.heap.size + 1 < w5.heap.size := by have := hyl.out; have := k5.size; omega
          have S7 := Lib.hid (S6.out.btw bz7 (.inr (by omega)))
          have HG7 : Hid (IntL w7 G tab) := Lib.hid (by rw [hw7]; exact intl_two (by intro z e; cases e) (by intro z e; cases e) (HG4.out.below k56) X6.out _ _)
          have hb6 : Below w.heap.size w w6 := bt hb4 k56
          have hb7 : Below w.heap.size w w7 := by rw [hw7]; exact (hb6.setCell (p := ⟨w.heap.size, 0, none⟩) (Nat.le_refl _) _).setCell (p := ⟨w.heap.size, 1, none⟩) (Nat.le_refl _) _
          have HZ7 : Hid (w7.heap.size = w6.heap.size) := Lib.hid (by rw [hw7]; simp [World.setCell])
          have t0 := Y7.out.cell 0 rfl
          have t1 := Y7.out.cell 1 rfl
          have t0z := Y7.out.frozen 0
          have t1z := Y7.out.frozen 1
          have q0 := X7.out.cell 0 rfl
          have q1 := X7.out.cell 1 rfl
          rw [hw7] at t0 t1 t0z t1z q0 q1
          have HW7 := Lib.hid hw7
          clear f0 f1 s0 s1 s0z s1z hw7 X6 Y6 HFl5 S6 R6
          by_cases hq : u = k
          · have hqb : ((u : Int) == (k : Int)) = true := by simp; omega
            have HRz : Hid (r = (settleN ss list [1] k, 10)) := Lib.hid (by
              have := HFew.out (by first | rfl | trivial) (by have := HK.out; first | omega | (simp only [List.length_append, List.length_singleton]; omega))
              rw [this, take_snoc _ _ _ (by have := HK.out; omega), hq, List.take_of_length_le (by have := HK.out; omega)])
            clear hq HFew HAll
            go_wp2
            rw [← HW7.out]
            refine bodyPost_ret (v := .tuple #[.agg #[.slice A6 n6 c6, .slice C6 0 d6], .int .i64 10]) (by rw [HW7.out]; simp [results, Try.results38, go_sem, t0, t1]) rfl ?_
            rw [HRz.out]
            have bz8 : Btw (w.heap.size + 1) (w.heap.size + 1 + 1) w7 ((w7.setCell ⟨w.heap.size + 1, 0, none⟩ (.slice A6 n6 c6)).setCell ⟨w.heap.size + 1, 1, none⟩ (.slice C6 0 d6)) := ((Btw.refl _ _ _).setCell (p := ⟨w.heap.size + 1, 0, none⟩) (Nat.le_refl _) (Nat.lt_succ_self _) _).setCell (p := ⟨w.heap.size + 1, 1, none⟩) (Nat.le_refl _) (Nat.lt_succ_self _) _
            exact ⟨_, _, _, _, _, rfl, L6, Lib.hid (S7.out.btw bz8 (.inr (by omega))).reads, below_stored hb7⟩
          · have hqb : ((u : Int) == (k : Int)) = false := by simp; omega
            have HRz : Hid (r = (settleN (settleN ss list [1] k) [(1 - sl, rootTx (b.g + 1) tab)] [1] 1, 0)) := Lib.hid (by
              have := HAll.out (by first | rfl | trivial) (by have := HK.out; first | omega | (simp only [List.length_append, List.length_singleton]; omega))
              rw [this, HSl.out, twoN_snoc, HK.out])
            have HOr : Hid (Ok (settleN ss list [1] k) [(1 - sl, rootTx (b.g + 1) tab)]) := Lib.hid (by
              have := HOk1.out.settled [1] (HOL.out.sub (ms := [(1 - b.s, rootTx (b.g + 1) tab)]) (by simp) (fun x hx => List.mem_append_right _ hx))
              rw [HK.out] at this
              rw [HSl.out]
              exact this)
            have HTx := Lib.hid (fun W (q : Below w7.heap.size w7 W) => l02Text (b.g + 1) G 17 gc tab W HTab.out.1 (by omega) ⟨hg0, hg6⟩ HTab.out.2 (HG7.out.below q))
            generalize rootTx (b.g + 1) tab = rt at HRz HOr HTx
            have HWt : Hid (∀ W, Calls Try.prog 70 #[.agg #[.slice A6 n6 c6, .slice C6 0 d6], .int .i64 (1 - sl), .string rt] W (GivesWrite A6 n6 c6 1 [(1 - sl, rt)] W)) := Lib.hid (fun W => by
              have := l01Write A6 C6 n6 c6 0 d6 [] (1 - sl) rt W rfl (by omega) (fun i hi => by simp at hi)
              rwa [Nat.zero_add, List.nil_append] at this)
            have HFl := Lib.hid (fun W C' d' (q : Below w7.heap.size w7 W) (g : WrL W C' [(1 - sl, rt)]) => l01Flush A6 C' n6 c6 1 d' (settleN ss list [1] k) [(1 - sl, rt)] W L6.out rfl (S7.out.reads.below q) g HOr.out)
            have h6 : Below w7.heap.size w7 w7.drew := (Below.refl _ _).drew
            have HKq : Hid (∀ W', Below w7.heap.size w7 W' → W'.cell? ⟨w.heap.size, 0, none⟩ = some (.slice A6 n6 c6) ∧ W'.cell? ⟨w.heap.size, 1, none⟩ = some (.slice C6 0 d6) ∧ W'.cell? ⟨w3.heap.size, 0, none⟩ = some (.int .i64 (b.g + 1)) ∧ W'.cell? ⟨w3.heap.size, 1, none⟩ = some (.slice G 17 gc)) := Lib.hid (fun W' q => ⟨(X7.out.step q).cell 0 rfl, (X7.out.step q).cell 1 rfl, (D7.out.step q).cell 0 rfl, (D7.out.step q).cell 1 rfl⟩)
            have hD3 : w3.heap.size ≠ w.heap.size + 1 := fun e => by have z := (Y7.out.symm.trans (e ▸ D7.out)); simp at z
            have HKr : Hid (∀ W' x y, Below w7.heap.size w7 W' → ((W'.setCell ⟨w.heap.size + 1, 0, none⟩ x).setCell ⟨w.heap.size + 1, 1, none⟩ y).cell? ⟨w.heap.size, 0, none⟩ = some (.slice A6 n6 c6) ∧ ((W'.setCell ⟨w.heap.size + 1, 0, none⟩ x).setCell ⟨w.heap.size + 1, 1, none⟩ y).cell? ⟨w.heap.size, 1, none⟩ = some (.slice C6 0 d6) ∧ ((W'.setCell ⟨w.heap.size + 1, 0, none⟩ x).setCell ⟨w.heap.size + 1, 1, none⟩ y).cell? ⟨w3.heap.size, 0, none⟩ = some (.int .i64 (b.g + 1)) ∧ ((W'.setCell ⟨w.heap.size + 1, 0, none⟩ x).setCell ⟨w.heap.size + 1, 1, none⟩ y).cell? ⟨w3.heap.size, 1, none⟩ = some (.slice G 17 gc)) := Lib.hid (fun W' x y q => by
              have Z := ((X7.out.step q).far (p := ⟨w.heap.size + 1, 0, none⟩) (by show w.heap.size ≠ w.heap.size + 1; omega) x).far (p := ⟨w.heap.size + 1, 1, none⟩) (by show w.heap.size ≠ w.heap.size + 1; omega) y
              have E := ((D7.out.step q).far (p := ⟨w.heap.size + 1, 0, none⟩) hD3 x).far (p := ⟨w.heap.size + 1, 1, none⟩) hD3 y
              exact ⟨Z.cell 0 rfl, Z.cell 1 rfl, E.cell 0 rfl, E.cell 1 rfl⟩)
            have HQ7 : Hid (w.heap.size + 1 < w7.heap.size) := Lib.hid Y7.out.lt
            clear hq HFew HAll HOL HOk1 HK17 HBs HKf q0 q1 t0 t1 t0z t1z hD3
            go_wp2
            rw [← HW7.out]
            go_region_held3 (fun W' => W'.cell? ⟨w.heap.size, 0, none⟩ = some (.slice A6 n6 c6) ∧ W'.cell? ⟨w.heap.size, 1, none⟩ = some (.slice C6 0 d6) ∧ W'.cell? ⟨w3.heap.size, 0, none⟩ = some (.int .i64 (b.g + 1)) ∧ W'.cell? ⟨w3.heap.size, 1, none⟩ = some (.slice G 17 gc))
              (first | exact HKr.out _ _ _ (bt h6 (bt k8 (bt k9 k10))) | exact HKq.out _ (bt h6 (bt k8 (bt k9 k10))) | exact HKq.out _ (bt h6 (bt k8 k9)) | exact HKq.out _ (bt h6 k8) | exact HKq.out _ h6)
              (first
                | (go_at_call 68; refine (HFl.out _ _ _ (bt h6 (bt k8 k9)) HW9.out.reads).mono ?_; rintro e w10 ⟨Aa, na, ca, Ca, ma, da, rfl, La, Ma, Sa, Ra, k10⟩; have Ya := Y7.out.step (bt h6 (bt k8 (bt k9 k10))); have t0 := Ya.cell 0 rfl; have t1 := Ya.cell 1 rfl; have t0z := Ya.frozen 0; have t1z := Ya.frozen 1)
                | (go_at_call 70; refine (HWt.out _).mono ?_; rintro e w9 ⟨C9, d9, rfl, HW9, k9⟩)
                | (go_at_call 71; refine (HTx.out _ h6).mono ?_; rintro e w8 ⟨rfl, k8⟩))
            all_goals (
              obtain rfl : ma = 0 := by have := Ma.out; simpa using this.symm
              go_wp2
              refine bodyPost_ret (v := .tuple #[.agg #[.slice Aa na ca, .slice Ca 0 da], .int .i64 0]) (by simp [results, Try.results38, go_sem, t0, t1]) rfl ?_
              rw [HRz.out]
              have hbz := bt hb7 (bt h6 (bt k8 k9))
              exact ⟨_, _, _, _, _, rfl, La, Lib.hid (own_stored hbz (by have := HQ7.out; have := (bt h6 (bt k8 k9)).size; omega) Sa.out).reads, below_stored (bt hbz k10)⟩)
  · have HB9 : Hid (b = ⟨0, [], 0, 9⟩) := Lib.hid (by rcases HCo.out with q | q <;> first | exact absurd q.1 hc | exact q)
    have hs' : slotOf b < 0 := by rw [HB9.out]; decide
    have HRz : Hid (r = (ss, 9)) := Lib.hid (by have := HP2.out b hbe hc; rw [this] at HCd; have := HCd.out hc; rw [this, HB9.out])
    clear hc
    go_wp2
    rw [← HW2.out]
    refine bodyPost_ret (v := .tuple #[.agg #[.slice A n c, .slice C 0 d], .int .i64 9]) (by rw [HW2.out]; simp [results, Try.results38, go_sem, s0, s1]) rfl ?_
    exact HSelf.out 9 HRz.out
end Go.Proofs.Ytcchhbkbnbphhaa
