/- The model's l02Commit. -/
import Derived.Test.YtlfmniekbiffjaaM5
import Derived.Test.YtlfmniekbiffjaaCommitImpl
import Derived.Deep.RegionHeld3
import Derived.IntWalk
namespace Go.Proofs.Ytlfmniekbiffjaa
open Go.RowKit

/-- The program's plan, out of the model's. -/
theorem planOf_of {ss ps : List ByteArray} {b : Best} (hb : best (fun k => readS ss [] k) 2 = b) (hc : b.c = 0) (hg : b.g ≠ 999999) :
    planOf ss ps = if (planN b.z (freeL b.z) (loadL ss [] b.z) ps 17).2.length = 0 then ([], 0) else ((planN b.z (freeL b.z) (loadL ss [] b.z) ps 17).2 ++ [(1 - b.s, rootTx (b.g + 1) (planN b.z (freeL b.z) (loadL ss [] b.z) ps 17).1)], 0) := by
  unfold planOf
  rw [hb]
  simp only [hc, ne_eq, not_true_eq_false, if_false]
  rw [if_neg hg, planN_len, plan_eq]
theorem planOf_none {ss ps : List ByteArray} {b : Best} (hb : best (fun k => readS ss [] k) 2 = b) (hc : b.c ≠ 0) : planOf ss ps = ([], b.c) := by
  unfold planOf
  rw [hb]
  simp only [ne_eq, hc, not_false_eq_true, if_true]
theorem planOf_full {ss ps : List ByteArray} {b : Best} (hb : best (fun k => readS ss [] k) 2 = b) (hc : b.c = 0) (hg : b.g = 999999) : planOf ss ps = ([], 7) := by
  unfold planOf
  rw [hb]
  simp only [hc, ne_eq, not_true_eq_false, if_false]
  rw [if_pos hg]
/-- A disk with nothing in its cache that reads so, and a code. -/
def GivesRead (r : List ByteArray × Int) (w : World) (e : Ending) (w' : World) : Prop :=
  ∃ A n c C d, e = .returned (.tuple #[.agg #[.slice A n c, .slice C 0 d], .int .i64 r.2]) ∧ Hid (r.1.length = n) ∧ Hid (StrL w' A r.1) ∧ Below w.heap.size w w'
theorem intl_two {w : World} {A : Option Addr} {zs : List Int} {b : Nat} {t : TypeId} {p q : Value} (hp : ∀ z, p ≠ .int .i64 z) (hq : ∀ z, q ≠ .int .i64 z) (h : IntL w A zs) (X : Box w b t #[p, q]) (u v : Value) : IntL ((w.setCell ⟨b, 0, none⟩ u).setCell ⟨b, 1, none⟩ v) A zs := fun i hi => by
  obtain ⟨b', off, e, hc⟩ := h i hi
  have hne : b' ≠ b := by
    rintro rfl
    have hx : w.cell? ⟨b', off + i, none⟩ = (#[p, q] : Array Value)[off + i]? := by
      unfold Box at X; simp [World.cell?, X]
    rw [hc] at hx
    match off + i, hx with
    | 0, hx => simp at hx; exact hp _ hx.symm
    | 1, hx => simp at hx; exact hq _ hx.symm
    | _ + 2, hx => simp at hx
  refine ⟨b', off, e, ?_⟩
  rw [World.cell?_setCell_far _ ⟨b, 1, none⟩ ⟨b', off + i, none⟩ _ (fun q => hne q.symm), World.cell?_setCell_far _ ⟨b, 0, none⟩ ⟨b', off + i, none⟩ _ (fun q => hne q.symm)]
  exact hc
set_option maxRecDepth 100000 in
set_option maxHeartbeats 16000000 in
theorem l02Commit (A C P : Option Addr) (n c d f u : Nat) (ss ps : List ByteArray) (w : World) (hl : ss.length = n) (ha : askC ps ss [] = 0) (hu : u ≤ 1000) (h : StrL w A ss) (i : StrL w P ps) :
    Calls Try.prog 41 #[.agg #[.slice A n c, .slice C 0 d], .slice P 17 f, .int .i64 u] w (GivesRead (commitOf ss [] ps u) w) := by
  obtain ⟨hp17, hps, hok, -⟩ := askC_zero ha
  obtain ⟨W0, hW0⟩ : ∃ W0, W0 = ((w.alloc (.cells #[.slice A n c, .slice C 0 d] 30)).alloc (.cells #[.slice none 0 0, .slice none 0 0] 30)) := ⟨_, rfl⟩
  have hb0 : Below w.heap.size w W0 := by rw [hW0]; exact bt (alloc_below _ _) (alloc_below _ _)
  have X0 : Hid (Box W0 w.heap.size 30 #[.slice A n c, .slice C 0 d]) := Lib.hid (by rw [hW0]; exact (Box.new _ _ _).alloc _)
  have Y0 : Hid (Box W0 (w.heap.size + 1) 30 #[.slice none 0 0, .slice none 0 0]) := Lib.hid (by rw [hW0]; simpa using Box.new (w.alloc (.cells #[.slice A n c, .slice C 0 d] 30)) 30 #[.slice none 0 0, .slice none 0 0])
  have HN := Lib.hid (l02Newest A C n c 0 d ss [] W0 hl rfl hok (h.below hb0) (fun i hi => by simp at hi))
  have HCo := Lib.hid (best_code (fun k => readS ss [] k) (readS_small hok 0 (by omega)) (readS_small hok 1 (by omega)))
  have HGd := Lib.hid (fun hc => best_good (fun k => readS ss [] k) 2 hc)
  have HGe := Lib.hid (fun hc => best_gen (fun k => readS ss [] k) 2 hc)
  have HP1 := Lib.hid (fun b hb hc hg => planOf_of (ss := ss) (ps := ps) (b := b) hb hc hg)
  have HP2 := Lib.hid (fun b hb hc => planOf_none (ss := ss) (ps := ps) (b := b) hb hc)
  have HP3 := Lib.hid (fun b hb hc hg => planOf_full (ss := ss) (ps := ps) (b := b) hb hc hg)
  have HOk := Lib.hid (plan_ok hok hps)
  have HFew := Lib.hid (fun h3 h4 => commit_few (ss := ss) (ps := ps) (ws := []) ha hu h3 h4)
  have HAll := Lib.hid (fun h3 h4 => commit_all (ss := ss) (ps := ps) (ws := []) ha hu h3 h4)
  have HCd := Lib.hid (fun h3 => commit_code (ss := ss) (ps := ps) (ws := []) (bud := u) ha ⟨by omega, by omega⟩ h3)
  obtain ⟨r, hr⟩ : ∃ r, commitOf ss [] ps u = r := ⟨_, rfl⟩
  rw [hr]
  rw [hr] at HFew HAll HCd
  have HL := Lib.hid (And.intro hl (And.intro hp17 hok))
  have HA := Lib.hid (And.intro h i)
  have HW0 := Lib.hid hW0
  have H48 : Hid (n = 48) := Lib.hid (by have := (ok_of hok).n48; omega)
  clear hl ha h i hp17 hps hok hW0 hr
  generalize hbe : best (fun k => readS ss [] k) 2 = b at HN HCo HGd HGe
  go_enter Try.func41, Try.ntmps41
  go_wp2_with fail
  rw [← HW0.out]
  refine HN.out.mono ?_
  rintro e w1 ⟨T, nt, tc, rfl, LT, OT, hb1⟩
  obtain ⟨w2, hw2⟩ : ∃ w2, w2 = w1.alloc (.cells #[.int .i64 b.g, .slice T nt tc] 49) := ⟨_, rfl⟩
  have k2 : Below w1.heap.size w1 w2 := by rw [hw2]; exact alloc_below _ _
  have hb2 := bt (bt hb0 hb1) k2
  have X2 := Lib.hid ((X0.out.step hb1).step k2)
  have Y2 := Lib.hid ((Y0.out.step hb1).step k2)
  have D2 : Hid (Box w2 w1.heap.size 49 #[.int .i64 b.g, .slice T nt tc]) := Lib.hid (by rw [hw2]; exact Box.new _ _ _)
  have O2 := Lib.hid (OT.out.below k2)
  have f0 := X2.out.cell 0 rfl
  have f1 := X2.out.cell 1 rfl
  have s0 := Y2.out.cell 0 rfl
  have s1 := Y2.out.cell 1 rfl
  have s0z := Y2.out.frozen 0
  have s1z := Y2.out.frozen 1
  have d0 := D2.out.cell 0 rfl
  have d1 := D2.out.cell 1 rfl
  rw [hw2] at f0 f1 s0 s1 s0z s1z d0 d1
  have HW2 := Lib.hid hw2
  clear X0 Y0 HN OT hw2 HW0
  have HSelf : Hid (∀ code : Int, r = (ss, code) → GivesRead r w (.returned (.tuple #[.agg #[.slice A n c, .slice C 0 d], .int .i64 code])) ((w2.setCell ⟨w.heap.size + 1, 0, none⟩ (.slice A n c)).setCell ⟨w.heap.size + 1, 1, none⟩ (.slice C 0 d))) := Lib.hid (fun code hr => by
    rw [hr]
    exact ⟨A, n, c, C, d, rfl, Lib.hid HL.out.1, Lib.hid (HA.out.1.below (below_stored hb2)), below_stored hb2⟩)
  by_cases hc : b.c = 0
  · have hs : 0 ≤ b.s ∧ b.s < 2 := by have := HGe.out hc; omega
    have hsl : slotOf b = b.s := by unfold slotOf; rw [if_pos hc]
    have hs' : ¬ slotOf b < 0 := by rw [hsl]; omega
    by_cases hg : b.g = 999999
    · have hgb : (b.g == 999999) = true := by simp [hg]
      have HRz : Hid (r = (ss, 7)) := Lib.hid (by have := HP3.out b hbe hc hg; rw [this] at HCd; exact HCd.out (by decide))
      clear hg hsl hc
      go_wp2
      rw [← HW2.out]
      refine bodyPost_ret (v := .tuple #[.agg #[.slice A n c, .slice C 0 d], .int .i64 7]) (by rw [HW2.out]; simp [results, Try.results41, go_sem, s0, s1]) rfl ?_
      exact HSelf.out 7 HRz.out
    · have hgb : (b.g == 999999) = false := by simp [hg]
      have hgd := HGd.out hc
      have hge := HGe.out hc
      obtain rfl : nt = 17 := by have := LT.out; omega
      have HPln := Lib.hid (l02Plan A C T P n c d tc f ss ps b.g b.z w2 HL.out.1 H48.out HL.out.2.1 hgd.1 hgd.2 (by omega) (HA.out.1.below hb2) (HA.out.2.below hb2) O2.out.reads)
      have HPo := Lib.hid (HP1.out b hbe hc hg)
      have HTab : Hid ((planN b.z (freeL b.z) (loadL ss [] b.z) ps 17).1.length = 17 ∧ ∀ z ∈ (planN b.z (freeL b.z) (loadL ss [] b.z) ps 17).1, 0 ≤ z ∧ z ≤ 99) := Lib.hid ⟨by rw [planN_tab]; exact hgd.1, by
        rw [plan_eq]
        intro z hz
        have := withN_in b.z (diffN ps (loadL ss [] b.z) 17) (freeL b.z) hgd.2 (freeL_in b.z) (diffN ps (loadL ss [] b.z) 17).length (by have := freeL_len b.z hgd.1; have := diffN_len ps (loadL ss [] b.z) 17; omega) z hz
        omega⟩
      generalize planN b.z (freeL b.z) (loadL ss [] b.z) ps 17 = q at HPln HPo HTab
      obtain ⟨tab, list⟩ := q
      replace HPo : Hid (planOf ss ps = if list.length = 0 then ([], 0) else (list ++ [(1 - b.s, rootTx (b.g + 1) tab)], 0)) := HPo
      replace HTab : Hid (tab.length = 17 ∧ ∀ z ∈ tab, 0 ≤ z ∧ z ≤ 99) := HTab
      have HSl : Hid (slotOf b = b.s) := Lib.hid hsl
      have hg6 : b.g + 1 ≤ 999999 := by omega
      have hg0 : 0 ≤ b.g + 1 := by omega
      generalize slotOf b = sl at hs' HSl
      have es : IntKind.i64.wrap (1 - sl) = 1 - sl := IntWalk.i64_in _ (by have := HSl.out; omega)
      clear hg hsl hc hbe HGd HGe HP1 HP2 HP3 HCd HCo hgd
      go_wp2_with fail
      rw [← HW2.out]
      refine HPln.out.mono ?_
      rintro e w3 ⟨G, gc, B, k, ff, rfl, HK, HKf, HBs, HGt, HWr, k3⟩
      replace HK : Hid (list.length = k) := HK
      replace HGt : Hid (IntL w3 G tab) := HGt
      replace HWr : Hid (WrL w3 B list) := HWr
      obtain ⟨w4, hw4⟩ : ∃ w4, w4 = w3.alloc (.cells #[.int .i64 (b.g + 1), .slice G 17 gc] 49) := ⟨_, rfl⟩
      have k4 : Below w3.heap.size w3 w4 := by rw [hw4]; exact alloc_below _ _
      have hb4 := bt (bt hb2 k3) k4
      have X4 := Lib.hid ((X2.out.step k3).step k4)
      have Y4 := Lib.hid ((Y2.out.step k3).step k4)
      have D4 : Hid (Box w4 w3.heap.size 49 #[.int .i64 (b.g + 1), .slice G 17 gc]) := Lib.hid (by rw [hw4]; exact Box.new _ _ _)
      have HW3 := Lib.hid (HWr.out.below k4)
      have HG4 := Lib.hid (HGt.out.below k4)
      clear f0 f1 s0 s1 s0z s1z d0 d1 HPln HWr HGt HSelf X2 Y2 D2 O2
      have f0 := X4.out.cell 0 rfl
      have f1 := X4.out.cell 1 rfl
      have s0 := Y4.out.cell 0 rfl
      have s1 := Y4.out.cell 1 rfl
      have s0z := Y4.out.frozen 0
      have s1z := Y4.out.frozen 1
      rw [hw4] at f0 f1 s0 s1 s0z s1z
      have HW4 := Lib.hid hw4
      have hyl : Hid (w.heap.size + 1 < w4.heap.size) := Lib.hid Y4.out.lt
      clear hw4 HW2
      by_cases hz : k = 0
      · have hzb : ((k : Int) == 0) = true := by simp; omega
        have HRz : Hid (r = (ss, 0)) := Lib.hid (by
          have e1 : planOf ss ps = ([], 0) := by rw [HPo.out, if_pos (by rw [HK.out]; exact hz)]
          have := HAll.out (by rw [e1]) (by rw [e1]; simp)
          rw [this, e1]; rfl)
        clear hz
        go_wp2
        rw [← HW4.out]
        refine bodyPost_ret (v := .tuple #[.agg #[.slice A n c, .slice C 0 d], .int .i64 0]) (by rw [HW4.out]; simp [results, Try.results41, go_sem, s0, s1]) rfl ?_
        rw [HRz.out]
        exact ⟨A, n, c, C, d, rfl, Lib.hid HL.out.1, Lib.hid (HA.out.1.below (below_stored hb4)), below_stored hb4⟩
      · have hzb : ((k : Int) == 0) = false := by simp; omega
        have HPe : Hid (planOf ss ps = (list ++ [(1 - b.s, rootTx (b.g + 1) tab)], 0)) := Lib.hid (by rw [HPo.out, if_neg (by rw [HK.out]; exact hz)])
        have HOL : Hid (Ok ss (list ++ [(1 - b.s, rootTx (b.g + 1) tab)])) := Lib.hid (by have := HOk.out.1; rw [HPe.out] at this; exact this)
        have HK17 : Hid (k ≤ 17) := Lib.hid (by have := HOk.out.2; rw [HPe.out] at this; have q := HK.out; simp only [List.length_append, List.length_singleton] at this; omega)
        have HOk1 : Hid (Ok ss list) := Lib.hid (HOL.out.sub (by simp) (fun x hx => List.mem_append_left _ hx))
        obtain ⟨bb, rfl⟩ : ∃ bb, B = some ⟨bb, 0, none⟩ := by rcases HBs.out with q | q <;> first | omega | exact q
        rw [HPe.out] at HFew HAll
        have hsz2 : Hid (w.heap.size ≤ w4.heap.size) := Lib.hid hb4.size
        clear HPo HOk HPe
        by_cases hlt : u < k
        · have hlt' : (u : Int) < (k : Int) := by omega
          have HRz : Hid (r = (settleN ss (list.take u) [1] u, 10)) := Lib.hid (by
            have := HFew.out rfl (by have := HK.out; simp only [List.length_append, List.length_singleton]; omega)
            rw [this, take_snoc _ _ _ (by have := HK.out; omega)])
          have hmx : max (u : Int) 0 = (u : Int) := by omega
          have h3 : ¬ (u : Int) < 0 := by omega
          have e1 : (u : Int) ≤ (ff : Int) := by have := HKf.out; omega
          have e2 : u ≤ ff := by have := HKf.out; omega
          have e3 : (u : Int) ≤ (k : Int) := by omega
          have HLk : Hid ((list.take u).length = u) := Lib.hid (by rw [List.length_take]; have := HK.out; omega)
          have HLay : Hid (∀ W, Below w4.heap.size w4 W → Calls Try.prog 78 #[.agg #[.slice A n c, .slice C 0 d], .slice (some ⟨bb, 0, none⟩) u ff] W (GivesLay A n c u (list.take u) W)) := Lib.hid (fun W q => by
            have := l02Lay A C (some ⟨bb, 0, none⟩) n c 0 d u ff [] (list.take u) W rfl HLk.out (by have := HK17.out; omega) (fun i hi => by simp at hi) ((HW3.out.below q).take u)
            rwa [Nat.zero_add, List.nil_append] at this)
          have HFl := Lib.hid (fun W C' d' (q : Below w4.heap.size w4 W) (g : WrL W C' (list.take u)) => l01Flush A C' n c u d' ss (list.take u) W HL.out.1 HLk.out (HA.out.1.below (bt hb4 q)) g (HOk1.out.take u))
          have h6 : Below w4.heap.size w4 w4.drew := (Below.refl _ _).drew
          have HX := Lib.hid X4.out
          have HKq : Hid (∀ W', Below w4.heap.size w4 W' → W'.cell? ⟨w.heap.size, 0, none⟩ = some (.slice A n c) ∧ W'.cell? ⟨w.heap.size, 1, none⟩ = some (.slice C 0 d)) := Lib.hid (fun W' q => ⟨(HX.out.step q).cell 0 rfl, (HX.out.step q).cell 1 rfl⟩)
          have HKr : Hid (∀ W' x y, Below w4.heap.size w4 W' → ((W'.setCell ⟨w.heap.size + 1, 0, none⟩ x).setCell ⟨w.heap.size + 1, 1, none⟩ y).cell? ⟨w.heap.size, 0, none⟩ = some (.slice A n c) ∧ ((W'.setCell ⟨w.heap.size + 1, 0, none⟩ x).setCell ⟨w.heap.size + 1, 1, none⟩ y).cell? ⟨w.heap.size, 1, none⟩ = some (.slice C 0 d)) := Lib.hid (fun W' x y q => by
            have Z := ((HX.out.step q).far (p := ⟨w.heap.size + 1, 0, none⟩) (by show w.heap.size ≠ w.heap.size + 1; omega) x).far (p := ⟨w.heap.size + 1, 1, none⟩) (by show w.heap.size ≠ w.heap.size + 1; omega) y
            exact ⟨Z.cell 0 rfl, Z.cell 1 rfl⟩)
          clear HFew HAll HK HKf HBs HOL HOk1 HK17 f0 f1 s0 s1 s0z s1z
          go_wp2
          rw [← HW4.out]
          go_region_held3 (fun W' => W'.cell? ⟨w.heap.size, 0, none⟩ = some (.slice A n c) ∧ W'.cell? ⟨w.heap.size, 1, none⟩ = some (.slice C 0 d))
            (first | exact HKr.out _ _ _ (bt h6 (bt k5 k6)) | exact HKq.out _ (bt h6 (bt k5 k6)) | exact HKq.out _ (bt h6 k5) | exact HKq.out _ h6)
            (first
              | (go_at_call 77; refine (HFl.out _ _ _ (bt h6 k5) HW5.out).mono ?_; rintro e w6 ⟨A6, n6, c6, C6, m6, d6, rfl, L6, M6, S6, R6, k6⟩; have Y6 := Y4.out.step (bt h6 (bt k5 k6)); have t0 := Y6.cell 0 rfl; have t1 := Y6.cell 1 rfl; have t0z := Y6.frozen 0; have t1z := Y6.frozen 1)
              | (go_at_call 78; refine (HLay.out _ h6).mono ?_; rintro e w5 ⟨C5, d5, rfl, HW5, k5⟩))
          all_goals (
            obtain rfl : m6 = 0 := by have := M6.out; simpa using this.symm
            go_wp2
            refine bodyPost_ret (v := .tuple #[.agg #[.slice A6 n6 c6, .slice C6 0 d6], .int .i64 10]) (by simp [results, Try.results41, go_sem, t0, t1]) rfl ?_
            rw [HRz.out]
            have hbz := bt hb4 (bt h6 k5)
            exact ⟨_, _, _, _, _, rfl, L6, Lib.hid (own_stored hbz (by have := hyl.out; have := (bt h6 k5).size; omega) S6.out).reads, below_stored (bt hbz k6)⟩)
        · have hlt' : ¬ ((u : Int) < (k : Int)) := by omega
          have HLay : Hid (∀ W, Below w4.heap.size w4 W → Calls Try.prog 78 #[.agg #[.slice A n c, .slice C 0 d], .slice (some ⟨bb, 0, none⟩) k ff] W (GivesLay A n c k list W)) := Lib.hid (fun W q => by
            have := l02Lay A C (some ⟨bb, 0, none⟩) n c 0 d k ff [] list W rfl HK.out (by have := HK17.out; omega) (fun i hi => by simp at hi) (HW3.out.below q)
            rwa [Nat.zero_add, List.nil_append] at this)
          have HFl := Lib.hid (fun W C' d' (q : Below w4.heap.size w4 W) (g : WrL W C' list) => l01Flush A C' n c k d' ss list W HL.out.1 HK.out (HA.out.1.below (bt hb4 q)) g HOk1.out)
          have HLy4 := Lib.hid (HLay.out w4 (Below.refl _ _))
          clear HLay
          go_wp2_with fail
          rw [← HW4.out]
          refine HLy4.out.mono ?_
          rintro e w5 ⟨C5, d5, rfl, HW5, k5⟩
          have HFl5 := Lib.hid (HFl.out w5 C5 d5 k5 HW5.out)
          clear HFl HLy4 HW5
          go_wp2_with fail
          refine HFl5.out.mono ?_
          rintro e w6 ⟨A6, n6, c6, C6, m6, d6, rfl, L6, M6, S6, R6, k6⟩
          obtain rfl : m6 = 0 := by have := M6.out; simpa using this.symm
          have k56 := bt k5 k6
          have X6 := Lib.hid (X4.out.step k56)
          have Y6 := Lib.hid (Y4.out.step k56)
          obtain ⟨w7, hw7⟩ : ∃ w7, w7 = (w6.setCell ⟨w.heap.size, 0, none⟩ (.slice A6 n6 c6)).setCell ⟨w.heap.size, 1, none⟩ (.slice C6 0 d6) := ⟨_, rfl⟩
          have x0 := X6.out.cell 0 rfl
          have x1 := X6.out.cell 1 rfl
          have x0z := X6.out.frozen 0
          have x1z := X6.out.frozen 1
          have X7 : Hid (Box w7 w.heap.size 30 #[.slice A6 n6 c6, .slice C6 0 d6]) := Lib.hid (by rw [hw7]; exact X6.out.allW2 rfl _ _)
          have Y7 : Hid (Box w7 (w.heap.size + 1) 30 #[.slice none 0 0, .slice none 0 0]) := Lib.hid (by rw [hw7]; exact (Y6.out.far (p := ⟨w.heap.size, 0, none⟩) (by show w.heap.size + 1 ≠ w.heap.size; omega) _).far (p := ⟨w.heap.size, 1, none⟩) (by show w.heap.size + 1 ≠ w.heap.size; omega) _)
          have D7 : Hid (Box w7 w3.heap.size 49 #[.int .i64 (b.g + 1), .slice G 17 gc]) := Lib.hid (by rw [hw7]; have hd : w3.heap.size ≠ w.heap.size := (by have := bt hb2 k3; have := this.size; have := hyl.out; have q := D4.out.lt; have := k4; intro e; have z := (X4.out.symm.trans (e ▸ D4.out)); simp at z); exact ((D4.out.step k56).far (p := ⟨w.heap.size, 0, none⟩) hd _).far (p := ⟨w.heap.size, 1, none⟩) hd _)
          have bz7 : Btw w.heap.size (w.heap.size + 1) w6 w7 := by rw [hw7]; exact ((Btw.refl _ _ _).setCell (p := ⟨w.heap.size, 0, none⟩) (Nat.le_refl _) (Nat.lt_succ_self _) _).setCell (p := ⟨w.heap.size, 1, none⟩) (Nat.le_refl _) (Nat.lt_succ_self _) _
          have hq4 : w.heap.size + 1 < w5.heap.size := by have := hyl.out; have := k5.size; omega
          have S7 := Lib.hid (S6.out.btw bz7 (.inr (by omega)))
          have HG7 : Hid (IntL w7 G tab) := Lib.hid (by rw [hw7]; exact intl_two (by intro z e; cases e) (by intro z e; cases e) (HG4.out.below k56) X6.out _ _)
          have hb6 : Below w.heap.size w w6 := bt hb4 k56
          have hb7 : Below w.heap.size w w7 := by rw [hw7]; exact (hb6.setCell (p := ⟨w.heap.size, 0, none⟩) (Nat.le_refl _) _).setCell (p := ⟨w.heap.size, 1, none⟩) (Nat.le_refl _) _
          have HZ7 : Hid (w7.heap.size = w6.heap.size) := Lib.hid (by rw [hw7]; simp [World.setCell])
          have t0 := Y7.out.cell 0 rfl
          have t1 := Y7.out.cell 1 rfl
          have t0z := Y7.out.frozen 0
          have t1z := Y7.out.frozen 1
          have q0 := X7.out.cell 0 rfl
          have q1 := X7.out.cell 1 rfl
          rw [hw7] at t0 t1 t0z t1z q0 q1
          have HW7 := Lib.hid hw7
          clear f0 f1 s0 s1 s0z s1z hw7 X6 Y6 HFl5 S6 R6
          by_cases hq : u = k
          · have hqb : ((u : Int) == (k : Int)) = true := by simp; omega
            have HRz : Hid (r = (settleN ss list [1] k, 10)) := Lib.hid (by
              have := HFew.out (by first | rfl | trivial) (by have := HK.out; first | omega | (simp only [List.length_append, List.length_singleton]; omega))
              rw [this, take_snoc _ _ _ (by have := HK.out; omega), hq, List.take_of_length_le (by have := HK.out; omega)])
            clear hq HFew HAll
            go_wp2
            rw [← HW7.out]
            refine bodyPost_ret (v := .tuple #[.agg #[.slice A6 n6 c6, .slice C6 0 d6], .int .i64 10]) (by rw [HW7.out]; simp [results, Try.results41, go_sem, t0, t1]) rfl ?_
            rw [HRz.out]
            have bz8 : Btw (w.heap.size + 1) (w.heap.size + 1 + 1) w7 ((w7.setCell ⟨w.heap.size + 1, 0, none⟩ (.slice A6 n6 c6)).setCell ⟨w.heap.size + 1, 1, none⟩ (.slice C6 0 d6)) := ((Btw.refl _ _ _).setCell (p := ⟨w.heap.size + 1, 0, none⟩) (Nat.le_refl _) (Nat.lt_succ_self _) _).setCell (p := ⟨w.heap.size + 1, 1, none⟩) (Nat.le_refl _) (Nat.lt_succ_self _) _
            exact ⟨_, _, _, _, _, rfl, L6, Lib.hid (S7.out.btw bz8 (.inr (by omega))).reads, below_stored hb7⟩
          · have hqb : ((u : Int) == (k : Int)) = false := by simp; omega
            have HRz : Hid (r = (settleN (settleN ss list [1] k) [(1 - sl, rootTx (b.g + 1) tab)] [1] 1, 0)) := Lib.hid (by
              have := HAll.out (by first | rfl | trivial) (by have := HK.out; first | omega | (simp only [List.length_append, List.length_singleton]; omega))
              rw [this, HSl.out, twoN_snoc, HK.out])
            have HOr : Hid (Ok (settleN ss list [1] k) [(1 - sl, rootTx (b.g + 1) tab)]) := Lib.hid (by
              have := HOk1.out.settled [1] (HOL.out.sub (ms := [(1 - b.s, rootTx (b.g + 1) tab)]) (by simp) (fun x hx => List.mem_append_right _ hx))
              rw [HK.out] at this
              rw [HSl.out]
              exact this)
            have HTx := Lib.hid (fun W (q : Below w7.heap.size w7 W) => l02Text (b.g + 1) G 17 gc tab W HTab.out.1 (by omega) ⟨hg0, hg6⟩ HTab.out.2 (HG7.out.below q))
            generalize rootTx (b.g + 1) tab = rt at HRz HOr HTx
            have HWt : Hid (∀ W, Calls Try.prog 79 #[.agg #[.slice A6 n6 c6, .slice C6 0 d6], .int .i64 (1 - sl), .string rt] W (GivesWrite A6 n6 c6 1 [(1 - sl, rt)] W)) := Lib.hid (fun W => by
              have := l01Write A6 C6 n6 c6 0 d6 [] (1 - sl) rt W rfl (by omega) (fun i hi => by simp at hi)
              rwa [Nat.zero_add, List.nil_append] at this)
            have HFl := Lib.hid (fun W C' d' (q : Below w7.heap.size w7 W) (g : WrL W C' [(1 - sl, rt)]) => l01Flush A6 C' n6 c6 1 d' (settleN ss list [1] k) [(1 - sl, rt)] W L6.out rfl (S7.out.reads.below q) g HOr.out)
            have h6 : Below w7.heap.size w7 w7.drew := (Below.refl _ _).drew
            have HKq : Hid (∀ W', Below w7.heap.size w7 W' → W'.cell? ⟨w.heap.size, 0, none⟩ = some (.slice A6 n6 c6) ∧ W'.cell? ⟨w.heap.size, 1, none⟩ = some (.slice C6 0 d6) ∧ W'.cell? ⟨w3.heap.size, 0, none⟩ = some (.int .i64 (b.g + 1)) ∧ W'.cell? ⟨w3.heap.size, 1, none⟩ = some (.slice G 17 gc)) := Lib.hid (fun W' q => ⟨(X7.out.step q).cell 0 rfl, (X7.out.step q).cell 1 rfl, (D7.out.step q).cell 0 rfl, (D7.out.step q).cell 1 rfl⟩)
            have hD3 : w3.heap.size ≠ w.heap.size + 1 := fun e => by have z := (Y7.out.symm.trans (e ▸ D7.out)); simp at z
            have HKr : Hid (∀ W' x y, Below w7.heap.size w7 W' → ((W'.setCell ⟨w.heap.size + 1, 0, none⟩ x).setCell ⟨w.heap.size + 1, 1, none⟩ y).cell? ⟨w.heap.size, 0, none⟩ = some (.slice A6 n6 c6) ∧ ((W'.setCell ⟨w.heap.size + 1, 0, none⟩ x).setCell ⟨w.heap.size + 1, 1, none⟩ y).cell? ⟨w.heap.size, 1, none⟩ = some (.slice C6 0 d6) ∧ ((W'.setCell ⟨w.heap.size + 1, 0, none⟩ x).setCell ⟨w.heap.size + 1, 1, none⟩ y).cell? ⟨w3.heap.size, 0, none⟩ = some (.int .i64 (b.g + 1)) ∧ ((W'.setCell ⟨w.heap.size + 1, 0, none⟩ x).setCell ⟨w.heap.size + 1, 1, none⟩ y).cell? ⟨w3.heap.size, 1, none⟩ = some (.slice G 17 gc)) := Lib.hid (fun W' x y q => by
              have Z := ((X7.out.step q).far (p := ⟨w.heap.size + 1, 0, none⟩) (by show w.heap.size ≠ w.heap.size + 1; omega) x).far (p := ⟨w.heap.size + 1, 1, none⟩) (by show w.heap.size ≠ w.heap.size + 1; omega) y
              have E := ((D7.out.step q).far (p := ⟨w.heap.size + 1, 0, none⟩) hD3 x).far (p := ⟨w.heap.size + 1, 1, none⟩) hD3 y
              exact ⟨Z.cell 0 rfl, Z.cell 1 rfl, E.cell 0 rfl, E.cell 1 rfl⟩)
            have HQ7 : Hid (w.heap.size + 1 < w7.heap.size) := Lib.hid Y7.out.lt
            clear hq HFew HAll HOL HOk1 HK17 HBs HKf q0 q1 t0 t1 t0z t1z hD3
            go_wp2
            rw [← HW7.out]
            go_region_held3 (fun W' => W'.cell? ⟨w.heap.size, 0, none⟩ = some (.slice A6 n6 c6) ∧ W'.cell? ⟨w.heap.size, 1, none⟩ = some (.slice C6 0 d6) ∧ W'.cell? ⟨w3.heap.size, 0, none⟩ = some (.int .i64 (b.g + 1)) ∧ W'.cell? ⟨w3.heap.size, 1, none⟩ = some (.slice G 17 gc))
              (first | exact HKr.out _ _ _ (bt h6 (bt k8 (bt k9 k10))) | exact HKq.out _ (bt h6 (bt k8 (bt k9 k10))) | exact HKq.out _ (bt h6 (bt k8 k9)) | exact HKq.out _ (bt h6 k8) | exact HKq.out _ h6)
              (first
                | (go_at_call 77; refine (HFl.out _ _ _ (bt h6 (bt k8 k9)) HW9.out.reads).mono ?_; rintro e w10 ⟨Aa, na, ca, Ca, ma, da, rfl, La, Ma, Sa, Ra, k10⟩; have Ya := Y7.out.step (bt h6 (bt k8 (bt k9 k10))); have t0 := Ya.cell 0 rfl; have t1 := Ya.cell 1 rfl; have t0z := Ya.frozen 0; have t1z := Ya.frozen 1)
                | (go_at_call 79; refine (HWt.out _).mono ?_; rintro e w9 ⟨C9, d9, rfl, HW9, k9⟩)
                | (go_at_call 80; refine (HTx.out _ h6).mono ?_; rintro e w8 ⟨rfl, k8⟩))
            all_goals (
              obtain rfl : ma = 0 := by have := Ma.out; simpa using this.symm
              go_wp2
              refine bodyPost_ret (v := .tuple #[.agg #[.slice Aa na ca, .slice Ca 0 da], .int .i64 0]) (by simp [results, Try.results41, go_sem, t0, t1]) rfl ?_
              rw [HRz.out]
              have hbz := bt hb7 (bt h6 (bt k8 k9))
              exact ⟨_, _, _, _, _, rfl, La, Lib.hid (own_stored hbz (by have := HQ7.out; have := (bt h6 (bt k8 k9)).size; omega) Sa.out).reads, below_stored (bt hbz k10)⟩)
  · have HB9 : Hid (b = ⟨0, [], 0, 9⟩) := Lib.hid (by rcases HCo.out with q | q <;> first | exact absurd q.1 hc | exact q)
    have hs' : slotOf b < 0 := by rw [HB9.out]; decide
    have HRz : Hid (r = (ss, 9)) := Lib.hid (by have := HP2.out b hbe hc; rw [this] at HCd; have := HCd.out hc; rw [this, HB9.out])
    clear hc
    go_wp2
    rw [← HW2.out]
    refine bodyPost_ret (v := .tuple #[.agg #[.slice A n c, .slice C 0 d], .int .i64 9]) (by rw [HW2.out]; simp [results, Try.results41, go_sem, s0, s1]) rfl ?_
    exact HSelf.out 9 HRz.out
end Go.Proofs.Ytlfmniekbiffjaa
