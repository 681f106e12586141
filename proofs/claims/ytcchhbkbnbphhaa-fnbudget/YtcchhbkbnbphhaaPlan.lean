/- impl.Disk.plan: the writes of a commit. -/
import Derived.Test.YtcchhbkbnbphhaaM8
import Derived.Test.YtcchhbkbnbphhaaM10
import Derived.Test.YtcchhbkbnbphhaaM9
import Derived.Test.YtcchhbkbnbphhaaM5
import Derived.Deep.RegionHeld3
namespace Go.Proofs.Ytcchhbkbnbphhaa
open Go.RowKit

def GivesPlan (r : List (Int × ByteArray) × Int) (w : World) (e : Ending) (w' : World) : Prop :=
  ∃ B k f, e = .returned (.tuple #[.slice B k f, .int .i64 r.2]) ∧ Hid (r.1.length = k) ∧ Hid (k = 0 ∧ B = none ∧ f = 0 ∨ 0 < k ∧ k ≤ f ∧ ∃ b, B = some ⟨b, 0, none⟩) ∧ Hid (WrL w' B r.1) ∧ Below w.heap.size w w'

set_option maxRecDepth 100000 in
set_option maxHeartbeats 4000000 in
theorem planI (A C P : Option Addr) (n c d cp : Nat) (ss ps : List ByteArray) (w : World) (hl : ss.length = n) (hk : ps.length = 17) (hok : okDisk ss [] = true) (h : StrL w A ss) (i : StrL w P ps) :
    Calls Try.prog 32 #[.agg #[.slice A n c, .slice C 0 d], .slice P 17 cp] w (GivesPlan (planOf ss ps) w) := by
  obtain ⟨W0, hW0⟩ : ∃ W0, W0 = w.alloc (.cells #[.slice A n c, .slice C 0 d] 26) := ⟨_, rfl⟩
  have hb0 : Below w.heap.size w W0 := by rw [hW0]; exact alloc_below _ _
  have X0 : Hid (Box W0 w.heap.size 26 #[.slice A n c, .slice C 0 d]) := Lib.hid (by rw [hW0]; exact Box.new _ _ _)
  have HN := Lib.hid (newest A C n c 0 d ss [] W0 hl rfl hok (h.below hb0) (fun i hi => by simp at hi))
  have HTb := Lib.hid (fun W (hb : Below w.heap.size w W) => tableOfS P cp ps W hk (i.below hb))
  have HLd := Lib.hid (fun W (hb : Below w.heap.size w W) (g' : Int) (T : Option Addr) (tc : Nat) (zs : List Int) (ht : zs.length = 17) (hz : ∀ z ∈ zs, 0 ≤ z ∧ z ≤ 47) (hT : IntL W T zs) => diskLoad A C n c 0 d ss [] g' T tc zs W hl rfl hok (h.below hb) (fun i hi => by simp at hi) ht hz hT)
  have HGd := Lib.hid (fun hc => best_good (fun k => readS ss [] k) 2 hc)
  have HGe := Lib.hid (fun hc => best_gen (fun k => readS ss [] k) 2 hc)
  have HPl : Hid (planOf ss ps = (let b := best (fun k => readS ss [] k) 2
    if b.c ≠ 0 then ([], b.c) else if b.g = 999999 then ([], 7) else
    let pl := diffN ps (loadL ss [] b.z) 17
    if pl.length = 0 then ([], 0) else
    (writesN pl (freeL b.z) ps pl.length ++ [(1 - b.s, rootTx (b.g + 1) (withN b.z pl (freeL b.z) pl.length))], 0))) := Lib.hid rfl
  generalize best (fun k => readS ss [] k) 2 = b at HN HGd HGe HPl
  generalize planOf ss ps = r at HPl
  have HP := Lib.hid (And.intro hk i)
  have HW0 := Lib.hid hW0
  clear hl hk hok h i hW0
  go_enter Try.func32, Try.ntmps32
  go_wp2_with fail
  rw [← HW0.out]
  refine HN.out.mono ?_
  rintro e w1 ⟨A1, n1, c1, rfl, L1, O1, hb1⟩
  obtain ⟨D, hD⟩ : ∃ D, D = w1.heap.size := ⟨_, rfl⟩
  obtain ⟨W2, hW2⟩ : ∃ W2, W2 = w1.alloc (.cells #[.int .i64 b.g, .slice A1 n1 c1] 31) := ⟨_, rfl⟩
  have hba : Below w1.heap.size w1 W2 := by rw [hW2]; exact alloc_below _ _
  have hb2 : Below w.heap.size w W2 := bt (bt hb0 hb1) hba
  have X2 := Lib.hid (X0.out.step (bt hb1 hba))
  have R2 : Hid (Box W2 D 31 #[.int .i64 b.g, .slice A1 n1 c1]) := Lib.hid (by rw [hW2, hD]; exact Box.new _ _ _)
  have O2 := Lib.hid ((O1.out.below hba).wide hb0.size hba.size)
  have HW2 := Lib.hid hW2
  have hD1 : w.heap.size ≤ D := by have := hb0.size; have := hb1.size; omega
  clear hW2 HW0 hb0 hb1 hba X0 O1 HN
  by_cases hc : b.c = 0
  · have hcb : (b.c != 0) = false := by simp [hc]
    have hgd := HGd.out hc
    have hge := HGe.out hc
    have HPl2 : Hid (r = (if b.g = 999999 then ([], 7) else
      let pl := diffN ps (loadL ss [] b.z) 17
      if pl.length = 0 then ([], 0) else
      (writesN pl (freeL b.z) ps pl.length ++ [(1 - b.s, rootTx (b.g + 1) (withN b.z pl (freeL b.z) pl.length))], 0))) := Lib.hid (by rw [HPl.out]; exact if_neg (by simp [hc]))
    clear HGd HGe HPl hc
    by_cases hg : b.g = 999999
    · have hgb : (b.g == 999999) = true := by simp [hg]
      have HR : Hid (r = ([], 7)) := Lib.hid (by rw [HPl2.out, if_pos hg])
      have f0 := R2.out.cell 0 rfl
      rw [HW2.out, hD] at f0
      clear hg HPl2 hgd hge HLd HTb
      go_wp2
      rw [← HW2.out]
      refine bodyPost_ret (v := .tuple #[.slice none 0 0, .int .i64 7]) (by simp [results, Try.results32, go_sem]) rfl ?_
      rw [HR.out]
      exact ⟨_, _, _, rfl, Lib.hid rfl, Lib.hid (.inl ⟨rfl, rfl, rfl⟩), Lib.hid (fun i hi => by simp at hi), hb2⟩
    · have hgb : (b.g == 999999) = false := by simp [hg]
      have HPl3 : Hid (r = (let pl := diffN ps (loadL ss [] b.z) 17
        if pl.length = 0 then ([], 0) else
        (writesN pl (freeL b.z) ps pl.length ++ [(1 - b.s, rootTx (b.g + 1) (withN b.z pl (freeL b.z) pl.length))], 0))) := Lib.hid (by rw [HPl2.out, if_neg hg])
      obtain rfl : n1 = 17 := by have := L1.out; omega
      have HLl : Hid ((loadL ss [] b.z).length = 17) := Lib.hid (by unfold loadL; rw [List.length_map]; exact hgd.1)
      have HG := Lib.hid (And.intro hg (And.intro hgd hge))
      have HLk := Lib.hid (fun W (hb : Below w.heap.size w W) (hT : IntL W A1 b.z) => HLd.out W hb b.g A1 c1 b.z HG.out.2.1.1 (fun z hz => by have := HG.out.2.1.2 z hz; omega) hT)
      have HCh := Lib.hid (fun W => tabChanges ps (loadL ss [] b.z) W HP.out.1 HLl.out)
      generalize loadL ss [] b.z = ld at HPl3 HLl HLk HCh
      have f0 := R2.out.cell 0 rfl
      have f1 := R2.out.cell 1 rfl
      have e0 := X2.out.cell 0 rfl
      have e1 := X2.out.cell 1 rfl
      have HK : Hid (∀ W', Below W2.heap.size W2 W' → W'.cell? ⟨w.heap.size, 0, none⟩ = some (.slice A n c) ∧ W'.cell? ⟨w.heap.size, 1, none⟩ = some (.slice C 0 d) ∧ W'.cell? ⟨D, 0, none⟩ = some (.int .i64 b.g) ∧ W'.cell? ⟨D, 1, none⟩ = some (.slice A1 17 c1)) := Lib.hid (fun W' hb => ⟨(X2.out.step hb).cell 0 rfl, (X2.out.step hb).cell 1 rfl, (R2.out.step hb).cell 0 rfl, (R2.out.step hb).cell 1 rfl⟩)
      have h6 : Below W2.heap.size W2 W2.drew := (Below.refl _ _).drew
      rw [HW2.out, hD] at f0
      subst hD
      clear hg hgd hge HPl2 HLd
      go_wp2
      rw [← HW2.out]
      go_region_held3 (fun W' => W'.cell? ⟨w.heap.size, 0, none⟩ = some (.slice A n c) ∧ W'.cell? ⟨w.heap.size, 1, none⟩ = some (.slice C 0 d) ∧ W'.cell? ⟨w1.heap.size, 0, none⟩ = some (.int .i64 b.g) ∧ W'.cell? ⟨w1.heap.size, 1, none⟩ = some (.slice A1 17 c1))
        (first | exact HK.out _ h6 | exact HK.out _ k3 | exact HK.out _ k4 | exact HK.out _ k5)
        (first
          | (go_at_call 61; refine (HCh.out w4).mono ?_; rintro e w5 ⟨A5, c5, rfl, O5, hb5⟩; have k5 := bt k4 hb5)
          | (go_at_call 29; refine (HLk.out w3 (bt hb2 k3) (O2.out.reads.below k3)).mono ?_; rintro e w4 ⟨rfl, hb4⟩; have k4 := bt k3 hb4)
          | (go_at_call 60; refine (HTb.out W2.drew (bt hb2 h6)).mono ?_; rintro e w3 ⟨rfl, hb3⟩; have k3 := bt h6 hb3))
      have HDl := Lib.hid (And.intro (diffN_len ps ld 17) (diffN_lt ps ld 17))
      have hb5w := bt hb2 k5
      have R5 := Lib.hid (R2.out.step k5)
      have O25 := Lib.hid (O2.out.below k5)
      have HF := Lib.hid (rootFree b.g A1 17 c1 b.z w5 HG.out.2.1.1 (by unfold maxLen; omega) O25.out.reads)
      have HFl := Lib.hid (And.intro (freeL_len b.z HG.out.2.1.1) (freeL_in b.z))
      clear HCh HTb HLk HK f0 f1 e0 e1 h6 X2 R2 O2 HW2 hb3 hb4 k3 k4 k5 hb2 HLl L1
      generalize diffN ps ld 17 = pl at HPl3 O5 HDl ⊢
      generalize freeL b.z = fr at HPl3 HF HFl
      obtain ⟨m, hm⟩ : ∃ m, pl.length = m := ⟨_, rfl⟩
      rw [hm] at HPl3 ⊢
      have hm17 : m ≤ 17 := by have := HDl.out.1; omega
      have HM := Lib.hid hm
      clear hm hb5
      by_cases hm0 : m = 0
      · subst hm0
        have HR : Hid (r = ([], 0)) := Lib.hid (by rw [HPl3.out]; exact if_pos rfl)
        clear HPl3 HF
        go_wp2
        refine bodyPost_ret (v := .tuple #[.slice none 0 0, .int .i64 0]) (by simp [results, Try.results32, go_sem]) rfl ?_
        rw [HR.out]
        exact ⟨_, _, _, rfl, Lib.hid rfl, Lib.hid (.inl ⟨rfl, rfl, rfl⟩), Lib.hid (fun i hi => by simp at hi), hb5w⟩
      · have HR : Hid (r = (writesN pl fr ps m ++ [(1 - b.s, rootTx (b.g + 1) (withN b.z pl fr m))], 0)) := Lib.hid (by rw [HPl3.out]; exact if_neg hm0)
        have hmb : ((m : Int) == 0) = false := by simp; omega
        have g0 := R5.out.cell 0 rfl
        have g1 := R5.out.cell 1 rfl
        have HM0 := Lib.hid hm0
        clear HPl3 hm0
        go_wp2_with fail
        refine HF.out.mono ?_
        rintro e w6 ⟨A6, nf, cf, rfl, L6, O6, hb6⟩
        have hb6w := bt hb5w hb6
        have HI5 : Hid (IntL w6 A5 pl) := Lib.hid (O5.out.below hb6).reads
        have HI6 : Hid (IntL w6 A6 fr) := Lib.hid O6.out.reads
        have HIP : Hid (StrL w6 P ps) := Lib.hid (HP.out.2.below hb6w)
        have R6 := Lib.hid (R5.out.step hb6)
        have HI1 : Hid (IntL w6 A1 b.z) := Lib.hid (O25.out.below hb6).reads
        clear g0 g1 hmb HF R5 O25 O5 O6 hb6 hb5w
        go_wp2
        go_loopw [11, 40] (fun s q wr => ∃ (j : Nat) (B : Option Addr) (f : Nat), j ≤ m ∧ q = .int .i64 j ∧ s = .slice B j f ∧ Below w6.heap.size w6 wr ∧ Hid (wr.ownsRow w6.heap.size 67 2 (.slice B j f) j (cellsW (writesN pl fr ps j)))) (fun _ q _ => m - (intOf q).toNat)
        case atStart => exact ⟨0, none, 0, by omega, rfl, rfl, Below.refl _ _, Lib.hid (rowv_nil _ _ _ _)⟩
        case round =>
          obtain ⟨j, B, f, hj, rfl, rfl, hbw, HRk⟩ := hrel
          by_cases hlt : j < m
          · have hi : (j : Int) < (m : Int) := by omega
            have hi2 : (j : Int) < (nf : Int) := by have := L6.out; have := HFl.out.1; omega
            obtain ⟨pb, poff, rfl, hc⟩ := HI5.out j (by rw [HM.out]; exact hlt)
            obtain ⟨fb, foff, rfl, hd⟩ := HI6.out j (by have := HFl.out.1; omega)
            have hpr := getD_in (i := j) (by rw [HM.out]; exact hlt) HDl.out.2
            obtain ⟨p, hpe⟩ : ∃ p : Nat, pl.getD j 0 = p := ⟨(pl.getD j 0).toNat, by omega⟩
            rw [hpe] at hc hpr
            have hp17 : (p : Int) < 17 := by omega
            obtain ⟨sb, soff, rfl, hx⟩ := HIP.out p (by rw [HP.out.1]; omega)
            have HSt : Hid (writesN pl fr ps (j + 1) = writesN pl fr ps j ++ [(fr.getD j 0, ps.getD p ByteArray.empty)]) := Lib.hid (by rw [writesN, hpe, Int.toNat_natCast])
            generalize fr.getD j 0 = v at hd HSt
            generalize ps.getD p ByteArray.empty = t at hx HSt
            generalize writesN pl fr ps j = wl at HRk HSt
            have HOw : Hid ((wr.drew.alloc (.cells #[.int .i64 v, .string t] 67)).ownsRow w6.heap.size 67 2 (.slice B j f) j (cellsW wl)) := Lib.hid (rowv_below HRk.out (bt ((Below.refl _ _).drew) (alloc_below _ _)))
            have HNw : Hid (∀ i u, [Value.int .i64 v, .string t][i]? = some u → (wr.drew.alloc (.cells #[.int .i64 v, .string t] 67)).cell? ⟨wr.heap.size, i, none⟩ = some u) := Lib.hid (fun i u hj => by
              match i, hj with
              | 0, hj => simp at hj; subst hj; exact (Box.new wr.drew 67 #[.int .i64 v, .string t]).cell 0 rfl
              | 1, hj => simp at hj; subst hj; exact (Box.new wr.drew 67 #[.int .i64 v, .string t]).cell 1 rfl)
            have HK : Hid (∀ W', Below w6.heap.size w6 W' → W'.cell? ⟨fb, foff + j, none⟩ = some (.int .i64 v) ∧ W'.cell? ⟨sb, soff + p, none⟩ = some (.string t)) := Lib.hid (fun W' hb => ⟨(hb.cell (cell_lt hd)).trans hd, (hb.cell (cell_lt hx)).trans hx⟩)
            have k1 : Below w6.heap.size w6 wr.drew := hbw.drew
            have k2 : Below w6.heap.size w6 (wr.drew.alloc (.cells #[.int .i64 v, .string t] 67)) := k1.trans ((alloc_below _ _).mono k1.size)
            have hc2 := (hbw.cell (cell_lt hc)).trans hc
            clear hc hd hx hpe
            go_wp2
            go_region_held3 (fun W' => W'.cell? ⟨fb, foff + j, none⟩ = some (.int .i64 v) ∧ W'.cell? ⟨sb, soff + p, none⟩ = some (.string t))
              (first | exact HK.out _ k1 | exact HK.out _ k2 | exact HK.out _ k4)
              (first | (refine step_app_one rfl (.tmp 45) (.tmp 55) 24 67 rfl (.agg #[.int .i64 0, .string ByteArray.empty]) 2 24 elemWr Try.underlying24 w6.heap.size (.slice B j f) j (cellsW wl) ?_ HOw.out wr.heap.size 1 ?_ [.int .i64 v, .string t] rfl HNw.out ?_ ?_ ?_ ?_ ?_; simp [Act.eval]; simp [Act.eval]; (intro u hu; simp at hu; rcases hu with rfl | rfl <;> rfl); (unfold maxLen; omega); omega; (exact k2.size); intro A2 c2 w4 hR4 hc4 hg4 hb4; have k4 : Below w6.heap.size w6 w4 := k2.trans hb4))
            have HR4 : Hid (w4.ownsRow w6.heap.size 67 2 (.slice A2 (j + 1) c2) (j + 1) (cellsW (writesN pl fr ps (j + 1)))) := Lib.hid (by rw [HSt.out, ← cellsW_snoc]; exact hR4)
            clear hR4 hc4 hg4 hb4 k1 k2 hc2
            go_wp2
            go_roundw
            case rel => exact ⟨j + 1, A2, c2, by omega, by go_num, rfl, k4, HR4⟩
            case measure => simp [intOf]; omega
          · obtain rfl : j = m := by omega
            have HT2 : Hid (∀ W, Below w6.heap.size w6 W → Calls Try.prog 62 #[.slice A1 17 c1] W fun e w' => e = .returned (.agg (cellsI b.z).toArray) ∧ Below W.heap.size W w') := Lib.hid (fun W hb => tableOfI A1 c1 b.z W HG.out.2.1.1 (HI1.out.below hb))
            have HWt := Lib.hid (fun W (hb : Below w6.heap.size w6 W) => tabWith b.z pl fr A5 A6 j c5 nf cf W HG.out.2.1.1 HM.out hm17 HDl.out.2 L6.out (by have := L6.out; have := HFl.out.1; omega) (by have := L6.out; have := HFl.out.1; omega) (HI5.out.below hb) (HI6.out.below hb))
            have HWl : Hid ((withN b.z pl fr j).length = 17) := Lib.hid (by rw [withN_len]; exact HG.out.2.1.1)
            have HLi : Hid (∀ W, Calls Try.prog 64 #[.agg (cellsI (withN b.z pl fr j)).toArray] W fun e w' => ∃ A c, e = .returned (.slice A 17 c) ∧ Hid (OwnI w' W.heap.size w'.heap.size A (withN b.z pl fr j)) ∧ Below W.heap.size W w') := Lib.hid (fun W => (tabListI (withN b.z pl fr j) W HWl.out).mono (by rintro e w' ⟨A, c, rfl, q⟩; exact ⟨A, c, by rw [HWl.out], q⟩))
            have HWi := Lib.hid (withN_in b.z pl fr HG.out.2.1.2 HFl.out.2 j (by have := HFl.out.1; omega))
            generalize withN b.z pl fr j = nz at HWt HWl HLi HWi HR
            have HK : Hid (∀ W', Below w6.heap.size w6 W' → W'.cell? ⟨w1.heap.size, 0, none⟩ = some (.int .i64 b.g) ∧ W'.cell? ⟨w1.heap.size, 1, none⟩ = some (.slice A1 17 c1)) := Lib.hid (fun W' hb => ⟨(hb.cell R6.out.lt).trans (R6.out.cell 0 rfl), (hb.cell R6.out.lt).trans (R6.out.cell 1 rfl)⟩)
            have k1 : Below w6.heap.size w6 wr.drew := hbw.drew
            have hg1 := HG.out.2.2
            have eg : IntKind.i64.wrap (b.g + 1) = b.g + 1 := IntWalk.i64_in _ (by omega)
            have ka : ∀ {W : World} {x y : Value}, Below w6.heap.size w6 W → Below w6.heap.size w6 (W.alloc (.cells #[x, y] 31)) := fun k => k.trans ((alloc_below _ _).mono k.size)
            have ks : ∀ {W : World} {D : Nat} {x y : Value}, w6.heap.size ≤ D → Below w6.heap.size w6 W → Below w6.heap.size w6 ((W.setCell ⟨D, 0, none⟩ x).setCell ⟨D, 1, none⟩ y) := fun hd k => (k.setCell (p := ⟨_, 0, none⟩) hd _).setCell (p := ⟨_, 1, none⟩) hd _
            go_wp2
            go_region_held3 (fun W' => W'.cell? ⟨w1.heap.size, 0, none⟩ = some (.int .i64 b.g) ∧ W'.cell? ⟨w1.heap.size, 1, none⟩ = some (.slice A1 17 c1))
              (first | exact HK.out _ k9 | exact HK.out _ (ka k9) | exact HK.out _ (ks hd k9) | exact HK.out _ k8 | exact HK.out _ (ka k8) | exact HK.out _ k7 | exact HK.out _ (ka k7) | exact HK.out _ k1 | exact HK.out _ (ka k1))
              (first
                | (go_at_call 64; refine (HLi.out _).mono ?_; rintro e w9 ⟨A9, c9, rfl, O9, hb9⟩; have k9 : Below w6.heap.size w6 w9 := (by first | exact k8.trans (hb9.mono k8.size) | exact (ka k8).trans (hb9.mono (ka k8).size)); (first | (have bx := Lib.hid ((Box.new w8 31 #[.int .i64 0, .slice none 0 0]).step hb9); have hd := k8.size) | (have bx := Lib.hid (bx.out.step hb9)) | skip); (first | (have x0 := bx.out.cell 0 rfl; have x1 := bx.out.cell 1 rfl; have z0 := bx.out.frozen 0; have z1 := bx.out.frozen 1) | skip))
                | (go_at_call 63; refine (HWt.out _ (by first | exact k7 | exact ka k7)).mono ?_; rintro e w8 ⟨rfl, hb8⟩; have k8 : Below w6.heap.size w6 w8 := (by first | exact k7.trans (hb8.mono k7.size) | exact (ka k7).trans (hb8.mono (ka k7).size)); (first | (have bx := Lib.hid ((Box.new w7 31 #[.int .i64 0, .slice none 0 0]).step hb8); have hd := k7.size) | (have bx := Lib.hid (bx.out.step hb8)) | skip))
                | (go_at_call 62; refine (HT2.out _ (by first | exact k1 | exact ka k1)).mono ?_; rintro e w7 ⟨rfl, hb7⟩; have k7 : Below w6.heap.size w6 w7 := (by first | exact k1.trans (hb7.mono k1.size) | exact (ka k1).trans (hb7.mono (ka k1).size)); (first | (have bx : Hid (Box w7 wr.heap.size 31 #[.int .i64 0, .slice none 0 0]) := Lib.hid ((Box.new wr.drew 31 #[.int .i64 0, .slice none 0 0]).step hb7); have hd : w6.heap.size ≤ wr.heap.size := k1.size) | (have bx := Lib.hid (bx.out.step hb7)) | skip)))
            all_goals (
              have kk : Below wr.heap.size wr w9 := (by
                have d := (Below.refl wr.heap.size wr).drew
                first
                | exact bt (bt (bt d hb7) hb8) hb9
                | exact bt (bt (bt d hb7) hb8) (bt (alloc_below _ _) hb9)
                | exact bt (bt (bt d hb7) (bt (alloc_below _ _) hb8)) hb9
                | exact bt (bt (bt d (bt (alloc_below _ _) hb7)) hb8) hb9)
              have HRw : Hid (w9.ownsRow w6.heap.size 67 2 (.slice B j f) j (cellsW (writesN pl fr ps j))) := Lib.hid (rowv_below HRk.out kk)
              first
              | (obtain ⟨WF, hWF⟩ : ∃ WF, WF = w9.alloc (.cells #[.int .i64 (b.g + 1), .slice A9 17 c9] 31) := ⟨_, rfl⟩; have XF : Hid (Box WF w9.heap.size 31 #[.int .i64 (b.g + 1), .slice A9 17 c9]) := Lib.hid (by rw [hWF]; exact Box.new _ _ _); have KF : Below w6.heap.size w6 WF := (by rw [hWF]; exact ka k9); have RF : Hid (WF.ownsRow w6.heap.size 67 2 (.slice B j f) j (cellsW (writesN pl fr ps j))) := Lib.hid (by rw [hWF]; exact rowv_below HRw.out (alloc_below _ _)); have IF : Hid (IntL WF A9 nz) := Lib.hid (by rw [hWF]; exact O9.out.reads.below (alloc_below _ _)); rw [← hWF])
              | (obtain ⟨WF, hWF⟩ : ∃ WF, WF = (w9.setCell ⟨w8.heap.size, 0, none⟩ (.int .i64 (b.g + 1))).setCell ⟨w8.heap.size, 1, none⟩ (.slice A9 17 c9) := ⟨_, rfl⟩; have XF : Hid (Box WF w8.heap.size 31 #[.int .i64 (b.g + 1), .slice A9 17 c9]) := Lib.hid (by rw [hWF]; exact (bx.out.set 0 _).set 1 _); have KF : Below w6.heap.size w6 WF := (by rw [hWF]; exact ks hd k9); have RF : Hid (WF.ownsRow w6.heap.size 67 2 (.slice B j f) j (cellsW (writesN pl fr ps j))) := Lib.hid (by rw [hWF]; exact rowv_setBox (rowv_setBox HRw.out bx.out (by decide) 0 _) (bx.out.set 0 _) (by decide) 1 _); have IF : Hid (IntL WF A9 nz) := Lib.hid (by rw [hWF]; exact (O9.out.two bx.out (by decide) _ _).reads); rw [← hWF])
              | (obtain ⟨WF, hWF⟩ : ∃ WF, WF = (w9.setCell ⟨w7.heap.size, 0, none⟩ (.int .i64 (b.g + 1))).setCell ⟨w7.heap.size, 1, none⟩ (.slice A9 17 c9) := ⟨_, rfl⟩; have XF : Hid (Box WF w7.heap.size 31 #[.int .i64 (b.g + 1), .slice A9 17 c9]) := Lib.hid (by rw [hWF]; exact (bx.out.set 0 _).set 1 _); have KF : Below w6.heap.size w6 WF := (by rw [hWF]; exact ks hd k9); have RF : Hid (WF.ownsRow w6.heap.size 67 2 (.slice B j f) j (cellsW (writesN pl fr ps j))) := Lib.hid (by rw [hWF]; exact rowv_setBox (rowv_setBox HRw.out bx.out (by decide) 0 _) (bx.out.set 0 _) (by decide) 1 _); have IF : Hid (IntL WF A9 nz) := Lib.hid (by rw [hWF]; exact (O9.out.two bx.out (by decide) _ _).reads); rw [← hWF])
              | (obtain ⟨WF, hWF⟩ : ∃ WF, WF = (w9.setCell ⟨wr.heap.size, 0, none⟩ (.int .i64 (b.g + 1))).setCell ⟨wr.heap.size, 1, none⟩ (.slice A9 17 c9) := ⟨_, rfl⟩; have XF : Hid (Box WF wr.heap.size 31 #[.int .i64 (b.g + 1), .slice A9 17 c9]) := Lib.hid (by rw [hWF]; exact (bx.out.set 0 _).set 1 _); have KF : Below w6.heap.size w6 WF := (by rw [hWF]; exact ks hd k9); have RF : Hid (WF.ownsRow w6.heap.size 67 2 (.slice B j f) j (cellsW (writesN pl fr ps j))) := Lib.hid (by rw [hWF]; exact rowv_setBox (rowv_setBox HRw.out bx.out (by decide) 0 _) (bx.out.set 0 _) (by decide) 1 _); have IF : Hid (IntL WF A9 nz) := Lib.hid (by rw [hWF]; exact (O9.out.two bx.out (by decide) _ _).reads); rw [← hWF])
              have q0 := XF.out.cell 0 rfl
              have q1 := XF.out.cell 1 rfl
              have HTx := Lib.hid (rootText (b.g + 1) A9 17 c9 nz WF HWl.out (by omega) (by have := HG.out.1; omega) (fun z hz => by have := HWi.out z hz; omega) IF.out)
              have es : IntKind.i64.wrap (1 - b.s) = 1 - b.s := IntWalk.i64_in _ (by omega)
              have HWn := Lib.hid (writesN_len pl fr ps j)
              generalize rootTx (b.g + 1) nz = rt at HTx HR
              generalize writesN pl fr ps j = wl at HR RF HWn
              clear hWF HK k1 ka ks HT2 HWt HLi HRk HRw kk
              go_wp2_with fail
              refine HTx.out.mono ?_
              rintro e w10 ⟨rfl, hb10⟩
              have ka' : Below WF.heap.size WF (w10.alloc (.cells #[.int .i64 (1 - b.s), .string rt] 67)) := bt hb10 (alloc_below _ _)
              have KA := KF.trans (ka'.mono KF.size)
              have HOw : Hid ((w10.alloc (.cells #[.int .i64 (1 - b.s), .string rt] 67)).ownsRow w6.heap.size 67 2 (.slice B j f) j (cellsW wl)) := Lib.hid (rowv_below RF.out ka')
              have HNw : Hid (∀ i u, [Value.int .i64 (1 - b.s), .string rt][i]? = some u → (w10.alloc (.cells #[.int .i64 (1 - b.s), .string rt] 67)).cell? ⟨w10.heap.size, i, none⟩ = some u) := Lib.hid (fun i u hj => by
                match i, hj with
                | 0, hj => simp at hj; subst hj; exact (Box.new w10 67 #[.int .i64 (1 - b.s), .string rt]).cell 0 rfl
                | 1, hj => simp at hj; subst hj; exact (Box.new w10 67 #[.int .i64 (1 - b.s), .string rt]).cell 1 rfl)
              clear q0 q1 HTx
              go_wp2_with (at_builtin; refine wpList_app_one rfl (.tmp 69) (.tmp 75) 24 67 rfl (.agg #[.int .i64 0, .string ByteArray.empty]) 2 24 elemWr Try.underlying24 w6.heap.size (.slice B j f) j (cellsW wl) rfl ?hown w10.heap.size 1 rfl [.int .i64 (1 - b.s), .string rt] rfl ?hnews ?hone ?h63 ?hby ?hbase ?_)
              case hown => exact HOw.out
              case hnews => exact HNw.out
              case hone => intro u hu; simp at hu; rcases hu with rfl | rfl <;> rfl
              case h63 => unfold maxLen; omega
              case hby => omega
              case hbase => exact KA.size
              intro A2 c2 w11 hR11 hc11 hg11 hb11
              have HR11 : Hid (w11.ownsRow w6.heap.size 67 2 (.slice A2 (j + 1) c2) (j + 1) (cellsW (wl ++ [((1 - b.s), rt)]))) := Lib.hid (by rw [← cellsW_snoc]; exact hR11)
              have HBf : Hid (Below w.heap.size w w11) := Lib.hid (hb6w.trans ((KA.trans hb11).mono hb6w.size))
              clear hR11 hg11 hb11
              go_wp2
              refine bodyPost_ret (v := .tuple #[.slice A2 (j + 1) c2, .int .i64 0]) (by simp [results, Try.results32, go_sem]) rfl ?_
              rw [HR.out]
              obtain ⟨gg, cap, ev, y1, y2, y3, y4⟩ := ownW_of_owns HR11.out (by omega)
              injection ev with ev _ ec
              subst ev
              exact ⟨_, _, _, rfl, Lib.hid (by rw [List.length_append, HWn.out]; rfl), Lib.hid (.inr ⟨by omega, hc11, gg, rfl⟩), Lib.hid (y4 0 w11.heap.size (by omega) y2).reads, HBf.out⟩)
  · have hcb : (b.c != 0) = true := by simp [hc]
    have HR : Hid (r = ([], b.c)) := Lib.hid (by rw [HPl.out]; exact if_pos hc)
    clear HGd HGe HPl hc HLd HTb
    go_wp2
    rw [← HW2.out]
    refine bodyPost_ret (v := .tuple #[.slice none 0 0, .int .i64 b.c]) (by simp [results, Try.results32, go_sem]) rfl ?_
    rw [HR.out]
    exact ⟨_, _, _, rfl, Lib.hid rfl, Lib.hid (.inl ⟨rfl, rfl, rfl⟩), Lib.hid (fun i hi => by simp at hi), hb2⟩
end Go.Proofs.Ytcchhbkbnbphhaa
