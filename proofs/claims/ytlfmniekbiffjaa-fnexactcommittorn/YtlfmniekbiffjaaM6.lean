/- Texts of this claim, one behind the other: Plan, CommitImpl, SpecCommit, SpecCommit2, StrsTo, Open. -/
import Derived.Deep.RegionHeld3
import Derived.IntWalk
import Derived.Deep.Slices
import Derived.Lib.SmallJoins
import Derived.Test.YtlfmniekbiffjaaM5
/- impl.Disk.plan: the writes of a commit. -/
namespace Go.Proofs.Ytlfmniekbiffjaa
open Go.RowKit

/-- The call hands back a list of writes of its own and a code. -/
def GivesPlan (r : List (Int × ByteArray) × Int) (w : World) (e : Ending) (w' : World) : Prop :=
  ∃ B k f, e = .returned (.tuple #[.slice B k f, .int .i64 r.2]) ∧ Hid (r.1.length = k) ∧ Hid (k = 0 ∧ B = none ∧ f = 0 ∨ 0 < k ∧ k ≤ f ∧ ∃ b, B = some ⟨b, 0, none⟩) ∧ Hid (WrL w' B r.1) ∧ Below w.heap.size w w'

set_option maxRecDepth 100000 in
set_option maxHeartbeats 4000000 in
theorem planI (A C P : Option Addr) (n c d cp : Nat) (ss ps : List ByteArray) (w : World) (hl : ss.length = n) (hk : ps.length = 17) (hok : okDisk ss [] = true) (h : StrL w A ss) (i : StrL w P ps) :
    Calls Try.prog 45 #[.agg #[.slice A n c, .slice C 0 d], .slice P 17 cp] w (GivesPlan (planOf ss ps) w) := by
  obtain ⟨W0, hW0⟩ : ∃ W0, W0 = w.alloc (.cells #[.slice A n c, .slice C 0 d] 30) := ⟨_, rfl⟩
  have hb0 : Below w.heap.size w W0 := by rw [hW0]; exact alloc_below _ _
  have X0 : Hid (Box W0 w.heap.size 30 #[.slice A n c, .slice C 0 d]) := Lib.hid (by rw [hW0]; exact Box.new _ _ _)
  have HN := Lib.hid (newest A C n c 0 d ss [] W0 hl rfl hok (h.below hb0) (fun i hi => by simp at hi))
  have HTb := Lib.hid (fun W (hb : Below w.heap.size w W) => tableOfS P cp ps W hk (i.below hb))
  have HLd := Lib.hid (fun W (hb : Below w.heap.size w W) (g' : Int) (T : Option Addr) (tc : Nat) (zs : List Int) (ht : zs.length = 17) (hz : ∀ z ∈ zs, 0 ≤ z ∧ z ≤ 47) (hT : IntL W T zs) => diskLoad A C n c 0 d ss [] g' T tc zs W hl rfl hok (h.below hb) (fun i hi => by simp at hi) ht hz hT)
  have HGd := Lib.hid (fun hc => best_good (fun k => readS ss [] k) 2 hc)
  have HGe := Lib.hid (fun hc => best_gen (fun k => readS ss [] k) 2 hc)
  have HPl : Hid (planOf ss ps = (let b := best (fun k => readS ss [] k) 2
    if b.c ≠ 0 then ([], b.c) else if b.g = 999999 then ([], 7) else
    let pl := diffN ps (loadL ss [] b.z) 17
    if pl.length = 0 then ([], 0) else
    (writesN pl (freeL b.z) ps pl.length ++ [(1 - b.s, rootTx (b.g + 1) (withN b.z pl (freeL b.z) pl.length))], 0))) := Lib.hid rfl
  generalize best (fun k => readS ss [] k) 2 = b at HN HGd HGe HPl
  generalize planOf ss ps = r at HPl
  have HP := Lib.hid (And.intro hk i)
  have HW0 := Lib.hid hW0
  clear hl hk hok h i hW0
  go_enter Try.func45, Try.ntmps45
  go_wp2_with fail
  rw [← HW0.out]
  refine HN.out.mono ?_
  rintro e w1 ⟨A1, n1, c1, rfl, L1, O1, hb1⟩
  obtain ⟨D, hD⟩ : ∃ D, D = w1.heap.size := ⟨_, rfl⟩
  obtain ⟨W2, hW2⟩ : ∃ W2, W2 = w1.alloc (.cells #[.int .i64 b.g, .slice A1 n1 c1] 49) := ⟨_, rfl⟩
  have hba : Below w1.heap.size w1 W2 := by rw [hW2]; exact alloc_below _ _
  have hb2 : Below w.heap.size w W2 := bt (bt hb0 hb1) hba
  have X2 := Lib.hid (X0.out.step (bt hb1 hba))
  have R2 : Hid (Box W2 D 49 #[.int .i64 b.g, .slice A1 n1 c1]) := Lib.hid (by rw [hW2, hD]; exact Box.new _ _ _)
  have O2 := Lib.hid ((O1.out.below hba).wide hb0.size hba.size)
  have HW2 := Lib.hid hW2
  have hD1 : w.heap.size ≤ D := by have := hb0.size; have := hb1.size; omega
  clear hW2 HW0 hb0 hb1 hba X0 O1 HN
  by_cases hc : b.c = 0
  · have hcb : (b.c != 0) = false := by simp [hc]
    have hgd := HGd.out hc
    have hge := HGe.out hc
    have HPl2 : Hid (r = (if b.g = 999999 then ([], 7) else
      let pl := diffN ps (loadL ss [] b.z) 17
      if pl.length = 0 then ([], 0) else
      (writesN pl (freeL b.z) ps pl.length ++ [(1 - b.s, rootTx (b.g + 1) (withN b.z pl (freeL b.z) pl.length))], 0))) := Lib.hid (by rw [HPl.out]; exact if_neg (by simp [hc]))
    clear HGd HGe HPl hc
    by_cases hg : b.g = 999999
    · have hgb : (b.g == 999999) = true := by simp [hg]
      have HR : Hid (r = ([], 7)) := Lib.hid (by rw [HPl2.out, if_pos hg])
      have f0 := R2.out.cell 0 rfl
      rw [HW2.out, hD] at f0
      clear hg HPl2 hgd hge HLd HTb
      go_wp2
      rw [← HW2.out]
      refine bodyPost_ret (v := .tuple #[.slice none 0 0, .int .i64 7]) (by simp [results, Try.results45, go_sem]) rfl ?_
      rw [HR.out]
      exact ⟨_, _, _, rfl, Lib.hid rfl, Lib.hid (.inl ⟨rfl, rfl, rfl⟩), Lib.hid (fun i hi => by simp at hi), hb2⟩
    · have hgb : (b.g == 999999) = false := by simp [hg]
      have HPl3 : Hid (r = (let pl := diffN ps (loadL ss [] b.z) 17
        if pl.length = 0 then ([], 0) else
        (writesN pl (freeL b.z) ps pl.length ++ [(1 - b.s, rootTx (b.g + 1) (withN b.z pl (freeL b.z) pl.length))], 0))) := Lib.hid (by rw [HPl2.out, if_neg hg])
      obtain rfl : n1 = 17 := by have := L1.out; omega
      have HLl : Hid ((loadL ss [] b.z).length = 17) := Lib.hid (by unfold loadL; rw [List.length_map]; exact hgd.1)
      have HG := Lib.hid (And.intro hg (And.intro hgd hge))
      have HLk := Lib.hid (fun W (hb : Below w.heap.size w W) (hT : IntL W A1 b.z) => HLd.out W hb b.g A1 c1 b.z HG.out.2.1.1 (fun z hz => by have := HG.out.2.1.2 z hz; omega) hT)
      have HCh := Lib.hid (fun W => tabChanges ps (loadL ss [] b.z) W HP.out.1 HLl.out)
      generalize loadL ss [] b.z = ld at HPl3 HLl HLk HCh
      have f0 := R2.out.cell 0 rfl
      have f1 := R2.out.cell 1 rfl
      have e0 := X2.out.cell 0 rfl
      have e1 := X2.out.cell 1 rfl
      have HK : Hid (∀ W', Below W2.heap.size W2 W' → W'.cell? ⟨w.heap.size, 0, none⟩ = some (.slice A n c) ∧ W'.cell? ⟨w.heap.size, 1, none⟩ = some (.slice C 0 d) ∧ W'.cell? ⟨D, 0, none⟩ = some (.int .i64 b.g) ∧ W'.cell? ⟨D, 1, none⟩ = some (.slice A1 17 c1)) := Lib.hid (fun W' hb => ⟨(X2.out.step hb).cell 0 rfl, (X2.out.step hb).cell 1 rfl, (R2.out.step hb).cell 0 rfl, (R2.out.step hb).cell 1 rfl⟩)
      have h6 : Below W2.heap.size W2 W2.drew := (Below.refl _ _).drew
      rw [HW2.out, hD] at f0
      subst hD
      clear hg hgd hge HPl2 HLd
      go_wp2
      rw [← HW2.out]
      go_region_held3 (fun W' => W'.cell? ⟨w.heap.size, 0, none⟩ = some (.slice A n c) ∧ W'.cell? ⟨w.heap.size, 1, none⟩ = some (.slice C 0 d) ∧ W'.cell? ⟨w1.heap.size, 0, none⟩ = some (.int .i64 b.g) ∧ W'.cell? ⟨w1.heap.size, 1, none⟩ = some (.slice A1 17 c1))
        (first | exact HK.out _ h6 | exact HK.out _ k3 | exact HK.out _ k4 | exact HK.out _ k5)
        (first
          | (go_at_call 83; refine (HCh.out w4).mono ?_; rintro e w5 ⟨A5, c5, rfl, O5, hb5⟩; have k5 := bt k4 hb5)
          | (go_at_call 63; refine (HLk.out w3 (bt hb2 k3) (O2.out.reads.below k3)).mono ?_; rintro e w4 ⟨rfl, hb4⟩; have k4 := bt k3 hb4)
          | (go_at_call 82; refine (HTb.out W2.drew (bt hb2 h6)).mono ?_; rintro e w3 ⟨rfl, hb3⟩; have k3 := bt h6 hb3))
      have HDl := Lib.hid (And.intro (diffN_len ps ld 17) (diffN_lt ps ld 17))
      have hb5w := bt hb2 k5
      have R5 := Lib.hid (R2.out.step k5)
      have O25 := Lib.hid (O2.out.below k5)
      have HF := Lib.hid (rootFree b.g A1 17 c1 b.z w5 HG.out.2.1.1 (by unfold maxLen; omega) O25.out.reads)
      have HFl := Lib.hid (And.intro (freeL_len b.z HG.out.2.1.1) (freeL_in b.z))
      clear HCh HTb HLk HK f0 f1 e0 e1 h6 X2 R2 O2 HW2 hb3 hb4 k3 k4 k5 hb2 HLl L1
      generalize diffN ps ld 17 = pl at HPl3 O5 HDl ⊢
      generalize freeL b.z = fr at HPl3 HF HFl
      obtain ⟨m, hm⟩ : ∃ m, pl.length = m := ⟨_, rfl⟩
      rw [hm] at HPl3 ⊢
      have hm17 : m ≤ 17 := by have := HDl.out.1; omega
      have HM := Lib.hid hm
      clear hm hb5
      by_cases hm0 : m = 0
      · subst hm0
        have HR : Hid (r = ([], 0)) := Lib.hid (by rw [HPl3.out]; exact if_pos rfl)
        clear HPl3 HF
        go_wp2
        refine bodyPost_ret (v := .tuple #[.slice none 0 0, .int .i64 0]) (by simp [results, Try.results45, go_sem]) rfl ?_
        rw [HR.out]
        exact ⟨_, _, _, rfl, Lib.hid rfl, Lib.hid (.inl ⟨rfl, rfl, rfl⟩), Lib.hid (fun i hi => by simp at hi), hb5w⟩
      · have HR : Hid (r = (writesN pl fr ps m ++ [(1 - b.s, rootTx (b.g + 1) (withN b.z pl fr m))], 0)) := Lib.hid (by rw [HPl3.out]; exact if_neg hm0)
        have hmb : ((m : Int) == 0) = false := by simp; omega
        have g0 := R5.out.cell 0 rfl
        have g1 := R5.out.cell 1 rfl
        have HM0 := Lib.hid hm0
        clear HPl3 hm0
        go_wp2_with fail
        refine HF.out.mono ?_
        rintro e w6 ⟨A6, nf, cf, rfl, L6, O6, hb6⟩
        have hb6w := bt hb5w hb6
        have HI5 : Hid (IntL w6 A5 pl) := Lib.hid (O5.out.below hb6).reads
        have HI6 : Hid (IntL w6 A6 fr) := Lib.hid O6.out.reads
        have HIP : Hid (StrL w6 P ps) := Lib.hid (HP.out.2.below hb6w)
        have R6 := Lib.hid (R5.out.step hb6)
        have HI1 : Hid (IntL w6 A1 b.z) := Lib.hid (O25.out.below hb6).reads
        clear g0 g1 hmb HF R5 O25 O5 O6 hb6 hb5w
        go_wp2
        go_loopw [11, 40] (fun s q wr => ∃ (j : Nat) (B : Option Addr) (f : Nat), j ≤ m ∧ q = .int .i64 j ∧ s = .slice B j f ∧ Below w6.heap.size w6 wr ∧ Hid (wr.ownsRow w6.heap.size 87 2 (.slice B j f) j (cellsW (writesN pl fr ps j)))) (fun _ q _ => m - (intOf q).toNat)
        case atStart => exact ⟨0, none, 0, by omega, rfl, rfl, Below.refl _ _, Lib.hid (rowv_nil _ _ _ _)⟩
        case round =>
          obtain ⟨j, B, f, hj, rfl, rfl, hbw, HRk⟩ := hrel
          by_cases hlt : j < m
          · have hi : (j : Int) < (m : Int) := by omega
            have hi2 : (j : Int) < (nf : Int) := by have := L6.out; have := HFl.out.1; omega
            obtain ⟨pb, poff, rfl, hc⟩ := HI5.out j (by rw [HM.out]; exact hlt)
            obtain ⟨fb, foff, rfl, hd⟩ := HI6.out j (by have := HFl.out.1; omega)
            have hpr := getD_in (i := j) (by rw [HM.out]; exact hlt) HDl.out.2
            obtain ⟨p, hpe⟩ : ∃ p : Nat, pl.getD j 0 = p := ⟨(pl.getD j 0).toNat, by omega⟩
            rw [hpe] at hc hpr
            have hp17 : (p : Int) < 17 := by omega
            obtain ⟨sb, soff, rfl, hx⟩ := HIP.out p (by rw [HP.out.1]; omega)
            have HSt : Hid (writesN pl fr ps (j + 1) = writesN pl fr ps j ++ [(fr.getD j 0, ps.getD p ByteArray.empty)]) := Lib.hid (by rw [writesN, hpe, Int.toNat_natCast])
            generalize fr.getD j 0 = v at hd HSt
            generalize ps.getD p ByteArray.empty = t at hx HSt
            generalize writesN pl fr ps j = wl at HRk HSt
            have HOw : Hid ((wr.drew.alloc (.cells #[.int .i64 v, .string t] 87)).ownsRow w6.heap.size 87 2 (.slice B j f) j (cellsW wl)) := Lib.hid (rowv_below HRk.out (bt ((Below.refl _ _).drew) (alloc_below _ _)))
            have HNw : Hid (∀ i u, [Value.int .i64 v, .string t][i]? = some u → (wr.drew.alloc (.cells #[.int .i64 v, .string t] 87)).cell? ⟨wr.heap.size, i, none⟩ = some u) := Lib.hid (fun i u hj => by
              match i, hj with
              | 0, hj => simp at hj; subst hj; exact (Box.new wr.drew 87 #[.int .i64 v, .string t]).cell 0 rfl
              | 1, hj => simp at hj; subst hj; exact (Box.new wr.drew 87 #[.int .i64 v, .string t]).cell 1 rfl)
            have HK : Hid (∀ W', Below w6.heap.size w6 W' → W'.cell? ⟨fb, foff + j, none⟩ = some (.int .i64 v) ∧ W'.cell? ⟨sb, soff + p, none⟩ = some (.string t)) := Lib.hid (fun W' hb => ⟨(hb.cell (cell_lt hd)).trans hd, (hb.cell (cell_lt hx)).trans hx⟩)
            have k1 : Below w6.heap.size w6 wr.drew := hbw.drew
            have k2 : Below w6.heap.size w6 (wr.drew.alloc (.cells #[.int .i64 v, .string t] 87)) := k1.trans ((alloc_below _ _).mono k1.size)
            have hc2 := (hbw.cell (cell_lt hc)).trans hc
            clear hc hd hx hpe
            go_wp2
            go_region_held3 (fun W' => W'.cell? ⟨fb, foff + j, none⟩ = some (.int .i64 v) ∧ W'.cell? ⟨sb, soff + p, none⟩ = some (.string t))
              (first | exact HK.out _ k1 | exact HK.out _ k2 | exact HK.out _ k4)
              (first | (refine step_app_one rfl (.tmp 45) (.tmp 55) 28 87 rfl (.agg #[.int .i64 0, .string ByteArray.empty]) 2 24 elemWr Try.underlying28 w6.heap.size (.slice B j f) j (cellsW wl) ?_ HOw.out wr.heap.size 1 ?_ [.int .i64 v, .string t] rfl HNw.out ?_ ?_ ?_ ?_ ?_; simp [Act.eval]; simp [Act.eval]; (intro u hu; simp at hu; rcases hu with rfl | rfl <;> rfl); (unfold maxLen; omega); omega; (exact k2.size); intro A2 c2 w4 hR4 hc4 hg4 hb4; have k4 : Below w6.heap.size w6 w4 := k2.trans hb4))
            have HR4 : Hid (w4.ownsRow w6.heap.size 87 2 (.slice A2 (j + 1) c2) (j + 1) (cellsW (writesN pl fr ps (j + 1)))) := Lib.hid (by rw [HSt.out, ← cellsW_snoc]; exact hR4)
            clear hR4 hc4 hg4 hb4 k1 k2 hc2
            go_wp2
            go_roundw
            case rel => exact ⟨j + 1, A2, c2, by omega, by go_num, rfl, k4, HR4⟩
            case measure => simp [intOf]; omega
          · obtain rfl : j = m := by omega
            have HT2 : Hid (∀ W, Below w6.heap.size w6 W → Calls Try.prog 84 #[.slice A1 17 c1] W fun e w' => e = .returned (.agg (cellsI b.z).toArray) ∧ Below W.heap.size W w') := Lib.hid (fun W hb => tableOfI A1 c1 b.z W HG.out.2.1.1 (HI1.out.below hb))
            have HWt := Lib.hid (fun W (hb : Below w6.heap.size w6 W) => tabWith b.z pl fr A5 A6 j c5 nf cf W HG.out.2.1.1 HM.out hm17 HDl.out.2 L6.out (by have := L6.out; have := HFl.out.1; omega) (by have := L6.out; have := HFl.out.1; omega) (HI5.out.below hb) (HI6.out.below hb))
            have HWl : Hid ((withN b.z pl fr j).length = 17) := Lib.hid (by rw [withN_len]; exact HG.out.2.1.1)
            have HLi : Hid (∀ W, Calls Try.prog 86 #[.agg (cellsI (withN b.z pl fr j)).toArray] W fun e w' => ∃ A c, e = .returned (.slice A 17 c) ∧ Hid (OwnI w' W.heap.size w'.heap.size A (withN b.z pl fr j)) ∧ Below W.heap.size W w') := Lib.hid (fun W => (tabListI (withN b.z pl fr j) W HWl.out).mono (by rintro e w' ⟨A, c, rfl, q⟩; exact ⟨A, c, by rw [HWl.out], q⟩))
            have HWi := Lib.hid (withN_in b.z pl fr HG.out.2.1.2 HFl.out.2 j (by have := HFl.out.1; omega))
            generalize withN b.z pl fr j = nz at HWt HWl HLi HWi HR
            have HK : Hid (∀ W', Below w6.heap.size w6 W' → W'.cell? ⟨w1.heap.size, 0, none⟩ = some (.int .i64 b.g) ∧ W'.cell? ⟨w1.heap.size, 1, none⟩ = some (.slice A1 17 c1)) := Lib.hid (fun W' hb => ⟨(hb.cell R6.out.lt).trans (R6.out.cell 0 rfl), (hb.cell R6.out.lt).trans (R6.out.cell 1 rfl)⟩)
            have k1 : Below w6.heap.size w6 wr.drew := hbw.drew
            have hg1 := HG.out.2.2
            have eg : IntKind.i64.wrap (b.g + 1) = b.g + 1 := IntWalk.i64_in _ (by omega)
            have ka : ∀ {W : World} {x y : Value}, Below w6.heap.size w6 W → Below w6.heap.size w6 (W.alloc (.cells #[x, y] 49)) := fun k => k.trans ((alloc_below _ _).mono k.size)
            have ks : ∀ {W : World} {D : Nat} {x y : Value}, w6.heap.size ≤ D → Below w6.heap.size w6 W → Below w6.heap.size w6 ((W.setCell ⟨D, 0, none⟩ x).setCell ⟨D, 1, none⟩ y) := fun hd k => (k.setCell (p := ⟨_, 0, none⟩) hd _).setCell (p := ⟨_, 1, none⟩) hd _
            go_wp2
            go_region_held3 (fun W' => W'.cell? ⟨w1.heap.size, 0, none⟩ = some (.int .i64 b.g) ∧ W'.cell? ⟨w1.heap.size, 1, none⟩ = some (.slice A1 17 c1))
              (first | exact HK.out _ k9 | exact HK.out _ (ka k9) | exact HK.out _ (ks hd k9) | exact HK.out _ k8 | exact HK.out _ (ka k8) | exact HK.out _ k7 | exact HK.out _ (ka k7) | exact HK.out _ k1 | exact HK.out _ (ka k1))
              (first
                | (go_at_call 86; refine (HLi.out _).mono ?_; rintro e w9 ⟨A9, c9, rfl, O9, hb9⟩; have k9 : Below w6.heap.size w6 w9 := (by first | exact k8.trans (hb9.mono k8.size) | exact (ka k8).trans (hb9.mono (ka k8).size)); (first | (have bx := Lib.hid ((Box.new w8 49 #[.int .i64 0, .slice none 0 0]).step hb9); have hd := k8.size) | (have bx := Lib.hid (bx.out.step hb9)) | skip); (first | (have x0 := bx.out.cell 0 rfl; have x1 := bx.out.cell 1 rfl; have z0 := bx.out.frozen 0; have z1 := bx.out.frozen 1) | skip))
                | (go_at_call 85; refine (HWt.out _ (by first | exact k7 | exact ka k7)).mono ?_; rintro e w8 ⟨rfl, hb8⟩; have k8 : Below w6.heap.size w6 w8 := (by first | exact k7.trans (hb8.mono k7.size) | exact (ka k7).trans (hb8.mono (ka k7).size)); (first | (have bx := Lib.hid ((Box.new w7 49 #[.int .i64 0, .slice none 0 0]).step hb8); have hd := k7.size) | (have bx := Lib.hid (bx.out.step hb8)) | skip))
                | (go_at_call 84; refine (HT2.out _ (by first | exact k1 | exact ka k1)).mono ?_; rintro e w7 ⟨rfl, hb7⟩; have k7 : Below w6.heap.size w6 w7 := (by first | exact k1.trans (hb7.mono k1.size) | exact (ka k1).trans (hb7.mono (ka k1).size)); (first | (have bx : Hid (Box w7 wr.heap.size 49 #[.int .i64 0, .slice none 0 0]) := Lib.hid ((Box.new wr.drew 49 #[.int .i64 0, .slice none 0 0]).step hb7); have hd : w6.heap.size ≤ wr.heap.size := k1.size) | (have bx := Lib.hid (bx.out.step hb7)) | skip)))
            all_goals (
              have kk : Below wr.heap.size wr w9 := (by
                have d := (Below.refl wr.heap.size wr).drew
                first
                | exact bt (bt (bt d hb7) hb8) hb9
                | exact bt (bt (bt d hb7) hb8) (bt (alloc_below _ _) hb9)
                | exact bt (bt (bt d hb7) (bt (alloc_below _ _) hb8)) hb9
                | exact bt (bt (bt d (bt (alloc_below _ _) hb7)) hb8) hb9)
              have HRw : Hid (w9.ownsRow w6.heap.size 87 2 (.slice B j f) j (cellsW (writesN pl fr ps j))) := Lib.hid (rowv_below HRk.out kk)
              first
              | (obtain ⟨WF, hWF⟩ : ∃ WF, WF = w9.alloc (.cells #[.int .i64 (b.g + 1), .slice A9 17 c9] 49) := ⟨_, rfl⟩; have XF : Hid (Box WF w9.heap.size 49 #[.int .i64 (b.g + 1), .slice A9 17 c9]) := Lib.hid (by rw [hWF]; exact Box.new _ _ _); have KF : Below w6.heap.size w6 WF := (by rw [hWF]; exact ka k9); have RF : Hid (WF.ownsRow w6.heap.size 87 2 (.slice B j f) j (cellsW (writesN pl fr ps j))) := Lib.hid (by rw [hWF]; exact rowv_below HRw.out (alloc_below _ _)); have IF : Hid (IntL WF A9 nz) := Lib.hid (by rw [hWF]; exact O9.out.reads.below (alloc_below _ _)); rw [← hWF])
              | (obtain ⟨WF, hWF⟩ : ∃ WF, WF = (w9.setCell ⟨w8.heap.size, 0, none⟩ (.int .i64 (b.g + 1))).setCell ⟨w8.heap.size, 1, none⟩ (.slice A9 17 c9) := ⟨_, rfl⟩; have XF : Hid (Box WF w8.heap.size 49 #[.int .i64 (b.g + 1), .slice A9 17 c9]) := Lib.hid (by rw [hWF]; exact (bx.out.set 0 _).set 1 _); have KF : Below w6.heap.size w6 WF := (by rw [hWF]; exact ks hd k9); have RF : Hid (WF.ownsRow w6.heap.size 87 2 (.slice B j f) j (cellsW (writesN pl fr ps j))) := Lib.hid (by rw [hWF]; exact rowv_setBox (rowv_setBox HRw.out bx.out (by decide) 0 _) (bx.out.set 0 _) (by decide) 1 _); have IF : Hid (IntL WF A9 nz) := Lib.hid (by rw [hWF]; exact (O9.out.two bx.out (by decide) _ _).reads); rw [← hWF])
              | (obtain ⟨WF, hWF⟩ : ∃ WF, WF = (w9.setCell ⟨w7.heap.size, 0, none⟩ (.int .i64 (b.g + 1))).setCell ⟨w7.heap.size, 1, none⟩ (.slice A9 17 c9) := ⟨_, rfl⟩; have XF : Hid (Box WF w7.heap.size 49 #[.int .i64 (b.g + 1), .slice A9 17 c9]) := Lib.hid (by rw [hWF]; exact (bx.out.set 0 _).set 1 _); have KF : Below w6.heap.size w6 WF := (by rw [hWF]; exact ks hd k9); have RF : Hid (WF.ownsRow w6.heap.size 87 2 (.slice B j f) j (cellsW (writesN pl fr ps j))) := Lib.hid (by rw [hWF]; exact rowv_setBox (rowv_setBox HRw.out bx.out (by decide) 0 _) (bx.out.set 0 _) (by decide) 1 _); have IF : Hid (IntL WF A9 nz) := Lib.hid (by rw [hWF]; exact (O9.out.two bx.out (by decide) _ _).reads); rw [← hWF])
              | (obtain ⟨WF, hWF⟩ : ∃ WF, WF = (w9.setCell ⟨wr.heap.size, 0, none⟩ (.int .i64 (b.g + 1))).setCell ⟨wr.heap.size, 1, none⟩ (.slice A9 17 c9) := ⟨_, rfl⟩; have XF : Hid (Box WF wr.heap.size 49 #[.int .i64 (b.g + 1), .slice A9 17 c9]) := Lib.hid (by rw [hWF]; exact (bx.out.set 0 _).set 1 _); have KF : Below w6.heap.size w6 WF := (by rw [hWF]; exact ks hd k9); have RF : Hid (WF.ownsRow w6.heap.size 87 2 (.slice B j f) j (cellsW (writesN pl fr ps j))) := Lib.hid (by rw [hWF]; exact rowv_setBox (rowv_setBox HRw.out bx.out (by decide) 0 _) (bx.out.set 0 _) (by decide) 1 _); have IF : Hid (IntL WF A9 nz) := Lib.hid (by rw [hWF]; exact (O9.out.two bx.out (by decide) _ _).reads); rw [← hWF])
              have q0 := XF.out.cell 0 rfl
              have q1 := XF.out.cell 1 rfl
              have HTx := Lib.hid (rootText (b.g + 1) A9 17 c9 nz WF HWl.out (by omega) (by have := HG.out.1; omega) (fun z hz => by have := HWi.out z hz; omega) IF.out)
              have es : IntKind.i64.wrap (1 - b.s) = 1 - b.s := IntWalk.i64_in _ (by omega)
              have HWn := Lib.hid (writesN_len pl fr ps j)
              generalize rootTx (b.g + 1) nz = rt at HTx HR
              generalize writesN pl fr ps j = wl at HR RF HWn
              clear hWF HK k1 ka ks HT2 HWt HLi HRk HRw kk
              go_wp2_with fail
              refine HTx.out.mono ?_
              rintro e w10 ⟨rfl, hb10⟩
              have ka' : Below WF.heap.size WF (w10.alloc (.cells #[.int .i64 (1 - b.s), .string rt] 87)) := bt hb10 (alloc_below _ _)
              have KA := KF.trans (ka'.mono KF.size)
              have HOw : Hid ((w10.alloc (.cells #[.int .i64 (1 - b.s), .string rt] 87)).ownsRow w6.heap.size 87 2 (.slice B j f) j (cellsW wl)) := Lib.hid (rowv_below RF.out ka')
              have HNw : Hid (∀ i u, [Value.int .i64 (1 - b.s), .string rt][i]? = some u → (w10.alloc (.cells #[.int .i64 (1 - b.s), .string rt] 87)).cell? ⟨w10.heap.size, i, none⟩ = some u) := Lib.hid (fun i u hj => by
                match i, hj with
                | 0, hj => simp at hj; subst hj; exact (Box.new w10 87 #[.int .i64 (1 - b.s), .string rt]).cell 0 rfl
                | 1, hj => simp at hj; subst hj; exact (Box.new w10 87 #[.int .i64 (1 - b.s), .string rt]).cell 1 rfl)
              clear q0 q1 HTx
              go_wp2_with (at_builtin; refine wpList_app_one rfl (.tmp 69) (.tmp 75) 28 87 rfl (.agg #[.int .i64 0, .string ByteArray.empty]) 2 24 elemWr Try.underlying28 w6.heap.size (.slice B j f) j (cellsW wl) rfl ?hown w10.heap.size 1 rfl [.int .i64 (1 - b.s), .string rt] rfl ?hnews ?hone ?h63 ?hby ?hbase ?_)
              case hown => exact HOw.out
              case hnews => exact HNw.out
              case hone => intro u hu; simp at hu; rcases hu with rfl | rfl <;> rfl
              case h63 => unfold maxLen; omega
              case hby => omega
              case hbase => exact KA.size
              intro A2 c2 w11 hR11 hc11 hg11 hb11
              have HR11 : Hid (w11.ownsRow w6.heap.size 87 2 (.slice A2 (j + 1) c2) (j + 1) (cellsW (wl ++ [((1 - b.s), rt)]))) := Lib.hid (by rw [← cellsW_snoc]; exact hR11)
              have HBf : Hid (Below w.heap.size w w11) := Lib.hid (hb6w.trans ((KA.trans hb11).mono hb6w.size))
              clear hR11 hg11 hb11
              go_wp2
              refine bodyPost_ret (v := .tuple #[.slice A2 (j + 1) c2, .int .i64 0]) (by simp [results, Try.results45, go_sem]) rfl ?_
              rw [HR.out]
              obtain ⟨gg, cap, ev, y1, y2, y3, y4⟩ := ownW_of_owns HR11.out (by omega)
              injection ev with ev _ ec
              subst ev
              exact ⟨_, _, _, rfl, Lib.hid (by rw [List.length_append, HWn.out]; rfl), Lib.hid (.inr ⟨by omega, hc11, gg, rfl⟩), Lib.hid (y4 0 w11.heap.size (by omega) y2).reads, HBf.out⟩)
  · have hcb : (b.c != 0) = true := by simp [hc]
    have HR : Hid (r = ([], b.c)) := Lib.hid (by rw [HPl.out]; exact if_pos hc)
    clear HGd HGe HPl hc HLd HTb
    go_wp2
    rw [← HW2.out]
    refine bodyPost_ret (v := .tuple #[.slice none 0 0, .int .i64 b.c]) (by simp [results, Try.results45, go_sem]) rfl ?_
    rw [HR.out]
    exact ⟨_, _, _, rfl, Lib.hid rfl, Lib.hid (.inl ⟨rfl, rfl, rfl⟩), Lib.hid (fun i hi => by simp at hi), hb2⟩
end Go.Proofs.Ytlfmniekbiffjaa

/- The contract of impl.Commit. -/
namespace Go.Proofs.Ytlfmniekbiffjaa
open Go.RowKit

/-- A disk that has come back is stored into the result's cell. -/
theorem gives_stored {w w1 w2 : World} {A2 C2 : Option Addr} {n2 c2 m2 d2 : Nat} {rs : List ByteArray} {code : Int} (hb : Below w.heap.size w w1) (hy : w.heap.size + 1 < w1.heap.size) (hb2 : Below w1.heap.size w1 w2) (L : rs.length = n2) (M : ([] : List (Int × ByteArray)).length = m2) (S2 : OwnS w2 w1.heap.size w2.heap.size A2 rs) :
    GivesDiskCode rs [] code w (.returned (.tuple #[.agg #[.slice A2 n2 c2, .slice C2 m2 d2], .int .i64 code])) ((w2.setCell ⟨w.heap.size + 1, 0, none⟩ (.slice A2 n2 c2)).setCell ⟨w.heap.size + 1, 1, none⟩ (.slice C2 m2 d2)) :=
  ⟨_, _, _, _, _, _, rfl, Lib.hid L, Lib.hid M, Lib.hid (own_stored hb hy S2), Lib.hid (.inl rfl), below_stored (bt hb hb2)⟩

theorem commit_ask {ss ps : List ByteArray} {ws : List (Int × ByteArray)} {bud : Int} (h : askC ps ss ws ≠ 0) : commitOf ss ws ps bud = ([], askC ps ss ws) := by unfold commitOf; rw [if_pos h]
theorem commit_range {ss ps : List ByteArray} {ws : List (Int × ByteArray)} {bud : Int} (h : askC ps ss ws = 0) (h2 : ¬ (0 ≤ bud ∧ bud ≤ 1000)) : commitOf ss ws ps bud = ([], 4) := by unfold commitOf; rw [if_neg (by omega), if_pos h2]
theorem commit_code {ss ps : List ByteArray} {ws : List (Int × ByteArray)} {bud : Int} (h : askC ps ss ws = 0) (h2 : 0 ≤ bud ∧ bud ≤ 1000) (h3 : (planOf ss ps).2 ≠ 0) : commitOf ss ws ps bud = (ss, (planOf ss ps).2) := by unfold commitOf; rw [if_neg (by omega), if_neg (by omega), if_pos h3]
theorem commit_few {ss ps : List ByteArray} {ws : List (Int × ByteArray)} {u : Nat} (h : askC ps ss ws = 0) (h2 : u ≤ 1000) (h3 : (planOf ss ps).2 = 0) (h4 : u < (planOf ss ps).1.length) : commitOf ss ws ps u = (settleN ss ((planOf ss ps).1.take u) [1] u, 10) := by
  unfold commitOf; rw [if_neg (by omega), if_neg (by omega), if_neg (by omega), if_pos (by omega)]; rfl
theorem commit_all {ss ps : List ByteArray} {ws : List (Int × ByteArray)} {u : Nat} (h : askC ps ss ws = 0) (h2 : u ≤ 1000) (h3 : (planOf ss ps).2 = 0) (h4 : (planOf ss ps).1.length ≤ u) : commitOf ss ws ps u = (twoN ss (planOf ss ps).1 [1] [1], 0) := by
  unfold commitOf; rw [if_neg (by omega), if_neg (by omega), if_neg (by omega), if_neg (by omega)]

set_option maxRecDepth 100000 in
set_option maxHeartbeats 8000000 in
theorem implCommit (A C P : Option Addr) (n c m d k f : Nat) (ss ps : List ByteArray) (ws : List (Int × ByteArray)) (bud : Int) (w : World) (hl : ss.length = n) (hm : ws.length = m) (hk : ps.length = k) (hn : n ≤ maxLen) (hmm : m ≤ maxLen) (hkk : k ≤ maxLen) (h : StrL w A ss) (g : WrL w C ws) (i : StrL w P ps) (fs : FitS ss) (fw : FitW ws) (fp : FitS ps) :
    Calls Try.prog 14 #[.agg #[.slice A n c, .slice C m d], .slice P k f, .int .i64 bud] w (GivesDiskCode (commitOf ss ws ps bud).1 [] (commitOf ss ws ps bud).2 w) := by
  obtain ⟨W0, hW0⟩ : ∃ W0, W0 = ((w.alloc (.cells #[.slice A n c, .slice C m d] 30)).alloc (.cells #[.slice none 0 0, .slice none 0 0] 30)) := ⟨_, rfl⟩
  have hb0 : Below w.heap.size w W0 := by rw [hW0]; exact bt (alloc_below _ _) (alloc_below _ _)
  have X0 : Hid (Box W0 w.heap.size 30 #[.slice A n c, .slice C m d]) := Lib.hid (by rw [hW0]; exact (Box.new _ _ _).alloc _)
  have Y0 : Hid (Box W0 (w.heap.size + 1) 30 #[.slice none 0 0, .slice none 0 0]) := Lib.hid (by rw [hW0]; simpa using Box.new (w.alloc (.cells #[.slice A n c, .slice C m d] 30)) 30 #[.slice none 0 0, .slice none 0 0])
  have HC := Lib.hid (checkCommit A C P n c m d k f ss ps ws W0 hl hm hk hn hmm hkk (h.below hb0) (g.below hb0) (i.below hb0) fs fw fp)
  have H := Lib.hid (And.intro (And.intro hl (And.intro hm hk)) (And.intro h i))
  obtain ⟨r, hr⟩ : ∃ r, commitOf ss ws ps bud = r := ⟨_, rfl⟩
  rw [hr]
  have HR := Lib.hid hr
  have HW0 := Lib.hid hW0
  clear hl hm hk hn hmm hkk h g i fs fw fp hW0 hr
  go_enter Try.func14, Try.ntmps14
  go_wp2_with fail
  rw [← HW0.out]
  refine HC.out.mono ?_
  rintro e w1 ⟨rfl, hb1⟩
  have hb := bt hb0 hb1
  have X1 := Lib.hid (X0.out.step hb1)
  have Y1 := Lib.hid (Y0.out.step hb1)
  have s0 := Y1.out.cell 0 rfl
  have s1 := Y1.out.cell 1 rfl
  have s0z := Y1.out.frozen 0
  have s1z := Y1.out.frozen 1
  have HYl : Hid (w.heap.size + 1 < w1.heap.size) := Lib.hid Y1.out.lt
  clear X0 Y0 HC HW0
  by_cases ha : askC ps ss ws = 0
  · have hcb : (askC ps ss ws != 0) = false := by simp [ha]
    by_cases hbd : 0 ≤ bud ∧ bud ≤ 1000
    · obtain ⟨hp17, hps, hok, rfl⟩ := askC_zero ha
      obtain rfl : m = 0 := by have := H.out.1.2.1; simpa using this.symm
      obtain rfl : k = 17 := by have := H.out.1.2.2; omega
      obtain ⟨u, rfl⟩ : ∃ u : Nat, bud = u := ⟨bud.toNat, by omega⟩
      have hu : u ≤ 1000 := by omega
      have hu0 : ¬ ((u : Int) < 0) := by omega
      have hu1 : ¬ ((1000 : Int) < (u : Int)) := by omega
      have HP := Lib.hid (planI A C P n c d f ss ps w1 H.out.1.1 hp17 hok (H.out.2.1.below hb) (H.out.2.2.below hb))
      have HOk := Lib.hid (plan_ok hok hps)
      have HO := Lib.hid hok
      have HFew := Lib.hid (fun h3 h4 => commit_few (ss := ss) (ps := ps) (ws := []) ha hu h3 h4)
      have HAll := Lib.hid (fun h3 h4 => commit_all (ss := ss) (ps := ps) (ws := []) ha hu h3 h4)
      have HCd := Lib.hid (fun h3 => commit_code (ss := ss) (ps := ps) (ws := []) (bud := u) ha hbd h3)
      rw [HR.out] at HFew HAll HCd
      have f0 := X1.out.cell 0 rfl
      have f1 := X1.out.cell 1 rfl
      generalize askC ps ss [] = ac at hcb
      generalize planOf ss ps = pl at HP HOk HFew HAll HCd
      obtain ⟨ls, code⟩ := pl
      have HN := Lib.hid H.out.1.1
      have HA := Lib.hid H.out.2.1
      have n48 : Hid (n ≤ 1048576) := Lib.hid (by have := (ok_of HO.out).n48; have := H.out.1.1; omega)
      clear HR ha hbd hok hps hp17 H
      go_wp2_with fail
      refine HP.out.mono ?_
      rintro e w2 ⟨B, kk, ff, rfl, HK, HF, HWr, hb2⟩
      replace HK : Hid (ls.length = kk) := HK
      replace HWr : Hid (WrL w2 B ls) := HWr
      replace HOk : Hid (Ok ss ls ∧ ls.length ≤ 18) := HOk
      have hb12 := bt hb hb2
      have X2 := Lib.hid (X1.out.step hb2)
      have Y2 := Lib.hid (Y1.out.step hb2)
      have HYl2 : Hid (w.heap.size + 1 < w2.heap.size) := Lib.hid Y2.out.lt
      clear f0 f1 s0 s1 s0z s1z HP X1 Y1
      have f0 := X2.out.cell 0 rfl
      have f1 := X2.out.cell 1 rfl
      have hkk : kk ≤ 18 := by have := HK.out; have := HOk.out.2; omega
      by_cases hc : code = 0
      · subst hc
        have hcz : ((0 : Int) != 0) = false := rfl
        by_cases hlt : u < kk
        · have hlt' : (u : Int) < (kk : Int) := by omega
          have HRz : Hid (r = (settleN ss (ls.take u) [1] u, 10)) := Lib.hid (HFew.out rfl (by have := HK.out; omega))
          obtain ⟨b, rfl⟩ : ∃ b, B = some ⟨b, 0, none⟩ := by rcases HF.out with ⟨q, _⟩ | ⟨_, _, q⟩ <;> first | omega | exact q
          have hff : kk ≤ ff := by rcases HF.out with ⟨q, _⟩ | ⟨_, q, _⟩ <;> omega
          have e1 : (u : Int) ≤ (ff : Int) := by omega
          have e2 : u ≤ ff := by omega
          have e3 : (u : Int) ≤ (kk : Int) := by omega
          have HFl := Lib.hid (fun W (q : Below w2.heap.size w2 W) => flushWrites A C (some ⟨b, 0, none⟩) n c d u ff ss (ls.take u) W HN.out (by rw [List.length_take]; have := HK.out; omega) (HA.out.below (bt hb12 q)) ((HWr.out.below q).take u) (HOk.out.1.take u))
          have h6 : Below w2.heap.size w2 w2.drew := (Below.refl _ _).drew
          have HX2 := Lib.hid X2.out
          clear HFew HAll HCd HK HF HWr HOk
          go_wp2
          go_region_held3 (fun W' => W'.cell? ⟨w.heap.size, 0, none⟩ = some (.slice A n c) ∧ W'.cell? ⟨w.heap.size, 1, none⟩ = some (.slice C 0 d))
            (first | exact ⟨(HX2.out.step h6).cell 0 rfl, (HX2.out.step h6).cell 1 rfl⟩ | exact ⟨(HX2.out.step (bt h6 hb3)).cell 0 rfl, (HX2.out.step (bt h6 hb3)).cell 1 rfl⟩ | exact ⟨(((HX2.out.step (bt h6 hb3)).far (p := ⟨w.heap.size + 1, 0, none⟩) (by show w.heap.size ≠ w.heap.size + 1; omega) _).far (p := ⟨w.heap.size + 1, 1, none⟩) (by show w.heap.size ≠ w.heap.size + 1; omega) _).cell 0 rfl, (((HX2.out.step (bt h6 hb3)).far (p := ⟨w.heap.size + 1, 0, none⟩) (by show w.heap.size ≠ w.heap.size + 1; omega) _).far (p := ⟨w.heap.size + 1, 1, none⟩) (by show w.heap.size ≠ w.heap.size + 1; omega) _).cell 1 rfl⟩)
            (first | (go_at_call 47; refine (HFl.out _ h6).mono ?_; rintro e w3 ⟨A3, n3, c3, C3, m3, d3, rfl, L3, M3, S3, R3, hb3⟩; have Y3 := Y2.out.step (bt h6 hb3); have t0 := Y3.cell 0 rfl; have t1 := Y3.cell 1 rfl; have t0z := Y3.frozen 0; have t1z := Y3.frozen 1))
          all_goals (
            go_wp2
            refine bodyPost_ret (v := .tuple #[.agg #[.slice A3 n3 c3, .slice C3 m3 d3], .int .i64 10]) (by simp [results, Try.results14, go_sem, t0, t1]) rfl ?_
            rw [HRz.out]
            exact gives_stored (bt hb12 h6) HYl2.out hb3 L3.out M3.out S3.out)
        · have hlt' : ¬ ((u : Int) < (kk : Int)) := by omega
          have HRz : Hid (r = (twoN ss ls [1] [1], 0)) := Lib.hid (HAll.out rfl (by have := HK.out; omega))
          by_cases hz : kk = 0
          · subst hz
            obtain ⟨rfl, rfl⟩ : B = none ∧ ff = 0 := by rcases HF.out with ⟨_, q⟩ | ⟨q, _⟩ <;> first | exact q | omega
            obtain rfl : ls = [] := List.eq_nil_of_length_eq_zero HK.out
            have HSp := Lib.hid (splitNone w2)
            have HNil : Hid (Ok ss ([] : List (Int × ByteArray))) := Lib.hid HOk.out.1
            clear HFew HAll HCd HK HF HOk
            go_wp2_with fail
            refine HSp.out.mono ?_
            rintro e w3 ⟨rfl, hb3⟩
            have HFl := Lib.hid (flushWrites A C none n c d 0 0 ss [] w3 HN.out rfl (HA.out.below (bt hb12 hb3)) (HWr.out.below hb3) HNil.out)
            have X3 := Lib.hid (X2.out.step hb3)
            clear f0 f1
            have f0 := X3.out.cell 0 rfl
            have f1 := X3.out.cell 1 rfl
            go_wp2_with fail
            refine HFl.out.mono ?_
            rintro e w4 ⟨A4, n4, c4, C4, m4, d4, rfl, L4, M4, S4, R4, hb4⟩
            obtain rfl : m4 = 0 := by have := M4.out; simpa using this.symm
            have HFl2 := Lib.hid (flushWrites A4 C4 none n4 c4 d4 0 0 (settleN ss [] [1] 0) [] w4 L4.out rfl S4.out.reads (fun i hi => by simp at hi) HNil.out)
            go_wp2_with fail
            refine HFl2.out.mono ?_
            rintro e w5 ⟨A5, n5, c5, C5, m5, d5, rfl, L5, M5, S5, R5, hb5⟩
            have Y5 := Y2.out.step (bt (bt hb3 hb4) hb5)
            have t0 := Y5.cell 0 rfl
            have t1 := Y5.cell 1 rfl
            have t0z := Y5.frozen 0
            have t1z := Y5.frozen 1
            have HYl4 : Hid (w.heap.size + 1 < w4.heap.size) := Lib.hid (Y2.out.step (bt hb3 hb4)).lt
            clear Y5 f0 f1
            go_wp2
            refine bodyPost_ret (v := .tuple #[.agg #[.slice A5 n5 c5, .slice C5 m5 d5], .int .i64 0]) (by simp [results, Try.results14, go_sem, t0, t1]) rfl ?_
            rw [HRz.out]
            exact gives_stored (bt (bt hb12 hb3) hb4) HYl4.out hb5 L5.out M5.out S5.out
          · obtain ⟨b, rfl⟩ : ∃ b, B = some ⟨b, 0, none⟩ := by rcases HF.out with ⟨q, _⟩ | ⟨_, _, q⟩ <;> first | omega | exact q
            have hff : kk ≤ ff := by rcases HF.out with ⟨q, _⟩ | ⟨_, q, _⟩ <;> omega
            obtain ⟨j, rfl⟩ : ∃ j, kk = j + 1 := ⟨kk - 1, by omega⟩
            have HSp := Lib.hid (splitSome b 0 j ff w2 (by omega) hff)
            have HL1 : Hid ((ls.take j).length = j ∧ (ls.drop j).length = 1) := Lib.hid (by rw [List.length_take, List.length_drop]; have := HK.out; omega)
            have HTw : Hid (twoN ss ls [1] [1] = settleN (settleN ss (ls.take j) [1] j) (ls.drop j) [1] 1) := Lib.hid (by
              unfold twoN
              rw [List.dropLast_eq_take, show ls.length - 1 = j by have := HK.out; omega, HL1.out.1, HL1.out.2])
            clear HFew HAll HCd HF
            go_wp2_with fail
            refine HSp.out.mono ?_
            rintro e w3 ⟨rfl, hb3⟩
            have HFl := Lib.hid (flushWrites A C (some ⟨b, 0, none⟩) n c d j ff ss (ls.take j) w3 HN.out HL1.out.1 (HA.out.below (bt hb12 hb3)) ((HWr.out.below hb3).take j) (HOk.out.1.take j))
            have X3 := Lib.hid (X2.out.step hb3)
            clear f0 f1
            have f0 := X3.out.cell 0 rfl
            have f1 := X3.out.cell 1 rfl
            go_wp2_with fail
            refine HFl.out.mono ?_
            rintro e w4 ⟨A4, n4, c4, C4, m4, d4, rfl, L4, M4, S4, R4, hb4⟩
            obtain rfl : m4 = 0 := by have := M4.out; simpa using this.symm
            have HOk2 : Hid (Ok (settleN ss (ls.take j) [1] j) (ls.drop j)) := Lib.hid (by
              have := (HOk.out.1.take j).settled [1] (HOk.out.1.drop j)
              rwa [HL1.out.1] at this)
            have HFl2 := Lib.hid (flushWrites A4 C4 (some ⟨b, j * 2, none⟩) n4 c4 d4 1 (ff - j) (settleN ss (ls.take j) [1] j) (ls.drop j) w4 L4.out HL1.out.2 S4.out.reads (by have := (HWr.out.below (bt hb3 hb4)).drop j; rwa [Nat.zero_add] at this) HOk2.out)
            go_wp2_with fail
            refine HFl2.out.mono ?_
            rintro e w5 ⟨A5, n5, c5, C5, m5, d5, rfl, L5, M5, S5, R5, hb5⟩
            have Y5 := Y2.out.step (bt (bt hb3 hb4) hb5)
            have t0 := Y5.cell 0 rfl
            have t1 := Y5.cell 1 rfl
            have t0z := Y5.frozen 0
            have t1z := Y5.frozen 1
            have HYl4 : Hid (w.heap.size + 1 < w4.heap.size) := Lib.hid (Y2.out.step (bt hb3 hb4)).lt
            clear Y5 f0 f1
            go_wp2
            refine bodyPost_ret (v := .tuple #[.agg #[.slice A5 n5 c5, .slice C5 m5 d5], .int .i64 0]) (by simp [results, Try.results14, go_sem, t0, t1]) rfl ?_
            rw [HRz.out, HTw.out]
            exact gives_stored (bt (bt hb12 hb3) hb4) HYl4.out hb5 L5.out M5.out S5.out
      · have hcz : (code != 0) = true := by simp [hc]
        have HRz : Hid (r = (ss, code)) := Lib.hid (HCd.out hc)
        have HCl := Lib.hid (clone A C n c 0 d ss [] w2 HN.out rfl n48.out (by omega) (HA.out.below hb12) (fun i hi => by simp at hi))
        clear HFew HAll HCd hc HK HF HWr HOk
        go_wp2_with fail
        refine HCl.out.mono ?_
        rintro e w3 ⟨b, b', rfl, HQ, hb3⟩
        have Y3 := Y2.out.step hb3
        have t0 := Y3.cell 0 rfl
        have t1 := Y3.cell 1 rfl
        have t0z := Y3.frozen 0
        have t1z := Y3.frozen 1
        have HS3 : Hid (OwnS w3 w2.heap.size w3.heap.size (some ⟨b, 0, none⟩) ss) := Lib.hid (own_of_rowS HN.out HQ.out.2.2.1 (by have := HQ.out.1; omega) HQ.out.2.2.1.lt)
        clear Y3 f0 f1
        go_wp2
        refine bodyPost_ret (v := .tuple #[.agg #[.slice (some ⟨b, 0, none⟩) n n, .slice (some ⟨b', 0, none⟩) 0 0], .int .i64 code]) (by simp [results, Try.results14, go_sem, t0, t1]) rfl ?_
        rw [HRz.out]
        exact gives_stored hb12 HYl2.out hb3 HN.out rfl HS3.out
    · have HRz : Hid (r = ([], 4)) := Lib.hid (by rw [← HR.out]; exact commit_range ha hbd)
      generalize askC ps ss ws = ac at hcb
      clear HR ha
      by_cases h1 : bud < 0
      · go_wp2
        refine bodyPost_ret (v := .tuple #[.agg #[.slice none 0 0, .slice none 0 0], .int .i64 4]) (by simp [results, Try.results14, go_sem, s0, s1]) rfl ?_
        rw [HRz.out]
        exact gives_none (below_stored hb)
      · have h2 : 1000 < bud := by omega
        go_wp2
        refine bodyPost_ret (v := .tuple #[.agg #[.slice none 0 0, .slice none 0 0], .int .i64 4]) (by simp [results, Try.results14, go_sem, s0, s1]) rfl ?_
        rw [HRz.out]
        exact gives_none (below_stored hb)
  · have hcb : (askC ps ss ws != 0) = true := by simp [ha]
    have HRz : Hid (r = ([], askC ps ss ws)) := Lib.hid (by rw [← HR.out]; exact commit_ask ha)
    generalize askC ps ss ws = ac at hcb HRz ha
    clear HR ha
    go_wp2
    refine bodyPost_ret (v := .tuple #[.agg #[.slice none 0 0, .slice none 0 0], .int .i64 ac]) (by simp [results, Try.results14, go_sem, s0, s1]) rfl ?_
    rw [HRz.out]
    exact gives_none (below_stored hb)
end Go.Proofs.Ytlfmniekbiffjaa

/- The model's l02Commit. -/
namespace Go.Proofs.Ytlfmniekbiffjaa
open Go.RowKit

/-- The program's plan, out of the model's. -/
theorem planOf_of {ss ps : List ByteArray} {b : Best} (hb : best (fun k => readS ss [] k) 2 = b) (hc : b.c = 0) (hg : b.g ≠ 999999) :
    planOf ss ps = if (planN b.z (freeL b.z) (loadL ss [] b.z) ps 17).2.length = 0 then ([], 0) else ((planN b.z (freeL b.z) (loadL ss [] b.z) ps 17).2 ++ [(1 - b.s, rootTx (b.g + 1) (planN b.z (freeL b.z) (loadL ss [] b.z) ps 17).1)], 0) := by
  unfold planOf
  rw [hb]
  simp only [hc, ne_eq, not_true_eq_false, if_false]
  rw [if_neg hg, planN_len, plan_eq]
theorem planOf_none {ss ps : List ByteArray} {b : Best} (hb : best (fun k => readS ss [] k) 2 = b) (hc : b.c ≠ 0) : planOf ss ps = ([], b.c) := by
  unfold planOf
  rw [hb]
  simp only [ne_eq, hc, not_false_eq_true, if_true]
theorem planOf_full {ss ps : List ByteArray} {b : Best} (hb : best (fun k => readS ss [] k) 2 = b) (hc : b.c = 0) (hg : b.g = 999999) : planOf ss ps = ([], 7) := by
  unfold planOf
  rw [hb]
  simp only [hc, ne_eq, not_true_eq_false, if_false]
  rw [if_pos hg]
/-- A disk with nothing in its cache that reads so, and a code. -/
def GivesRead (r : List ByteArray × Int) (w : World) (e : Ending) (w' : World) : Prop :=
  ∃ A n c C d, e = .returned (.tuple #[.agg #[.slice A n c, .slice C 0 d], .int .i64 r.2]) ∧ Hid (r.1.length = n) ∧ Hid (StrL w' A r.1) ∧ Below w.heap.size w w'
theorem intl_two {w : World} {A : Option Addr} {zs : List Int} {b : Nat} {t : TypeId} {p q : Value} (hp : ∀ z, p ≠ .int .i64 z) (hq : ∀ z, q ≠ .int .i64 z) (h : IntL w A zs) (X : Box w b t #[p, q]) (u v : Value) : IntL ((w.setCell ⟨b, 0, none⟩ u).setCell ⟨b, 1, none⟩ v) A zs := fun i hi => by
  obtain ⟨b', off, e, hc⟩ := h i hi
  have hne : b' ≠ b := by
    rintro rfl
    have hx : w.cell? ⟨b', off + i, none⟩ = (#[p, q] : Array Value)[off + i]? := by
      unfold Box at X; simp [World.cell?, X]
    rw [hc] at hx
    match off + i, hx with
    | 0, hx => simp at hx; exact hp _ hx.symm
    | 1, hx => simp at hx; exact hq _ hx.symm
    | _ + 2, hx => simp at hx
  refine ⟨b', off, e, ?_⟩
  rw [World.cell?_setCell_far _ ⟨b, 1, none⟩ ⟨b', off + i, none⟩ _ (fun q => hne q.symm), World.cell?_setCell_far _ ⟨b, 0, none⟩ ⟨b', off + i, none⟩ _ (fun q => hne q.symm)]
  exact hc
set_option maxRecDepth 100000 in
set_option maxHeartbeats 16000000 in
theorem l02Commit (A C P : Option Addr) (n c d f u : Nat) (ss ps : List ByteArray) (w : World) (hl : ss.length = n) (ha : askC ps ss [] = 0) (hu : u ≤ 1000) (h : StrL w A ss) (i : StrL w P ps) :
    Calls Try.prog 41 #[.agg #[.slice A n c, .slice C 0 d], .slice P 17 f, .int .i64 u] w (GivesRead (commitOf ss [] ps u) w) := by
  obtain ⟨hp17, hps, hok, -⟩ := askC_zero ha
  obtain ⟨W0, hW0⟩ : ∃ W0, W0 = ((w.alloc (.cells #[.slice A n c, .slice C 0 d] 30)).alloc (.cells #[.slice none 0 0, .slice none 0 0] 30)) := ⟨_, rfl⟩
  have hb0 : Below w.heap.size w W0 := by rw [hW0]; exact bt (alloc_below _ _) (alloc_below _ _)
  have X0 : Hid (Box W0 w.heap.size 30 #[.slice A n c, .slice C 0 d]) := Lib.hid (by rw [hW0]; exact (Box.new _ _ _).alloc _)
  have Y0 : Hid (Box W0 (w.heap.size + 1) 30 #[.slice none 0 0, .slice none 0 0]) := Lib.hid (by rw [hW0]; simpa using Box.new (w.alloc (.cells #[.slice A n c, .slice C 0 d] 30)) 30 #[.slice none 0 0, .slice none 0 0])
  have HN := Lib.hid (l02Newest A C n c 0 d ss [] W0 hl rfl hok (h.below hb0) (fun i hi => by simp at hi))
  have HCo := Lib.hid (best_code (fun k => readS ss [] k) (readS_small hok 0 (by omega)) (readS_small hok 1 (by omega)))
  have HGd := Lib.hid (fun hc => best_good (fun k => readS ss [] k) 2 hc)
  have HGe := Lib.hid (fun hc => best_gen (fun k => readS ss [] k) 2 hc)
  have HP1 := Lib.hid (fun b hb hc hg => planOf_of (ss := ss) (ps := ps) (b := b) hb hc hg)
  have HP2 := Lib.hid (fun b hb hc => planOf_none (ss := ss) (ps := ps) (b := b) hb hc)
  have HP3 := Lib.hid (fun b hb hc hg => planOf_full (ss := ss) (ps := ps) (b := b) hb hc hg)
  have HOk := Lib.hid (plan_ok hok hps)
  have HFew := Lib.hid (fun h3 h4 => commit_few (ss := ss) (ps := ps) (ws := []) ha hu h3 h4)
  have HAll := Lib.hid (fun h3 h4 => commit_all (ss := ss) (ps := ps) (ws := []) ha hu h3 h4)
  have HCd := Lib.hid (fun h3 => commit_code (ss := ss) (ps := ps) (ws := []) (bud := u) ha ⟨by omega, by omega⟩ h3)
  obtain ⟨r, hr⟩ : ∃ r, commitOf ss [] ps u = r := ⟨_, rfl⟩
  rw [hr]
  rw [hr] at HFew HAll HCd
  have HL := Lib.hid (And.intro hl (And.intro hp17 hok))
  have HA := Lib.hid (And.intro h i)
  have HW0 := Lib.hid hW0
  have H48 : Hid (n = 48) := Lib.hid (by have := (ok_of hok).n48; omega)
  clear hl ha h i hp17 hps hok hW0 hr
  generalize hbe : best (fun k => readS ss [] k) 2 = b at HN HCo HGd HGe
  go_enter Try.func41, Try.ntmps41
  go_wp2_with fail
  rw [← HW0.out]
  refine HN.out.mono ?_
  rintro e w1 ⟨T, nt, tc, rfl, LT, OT, hb1⟩
  obtain ⟨w2, hw2⟩ : ∃ w2, w2 = w1.alloc (.cells #[.int .i64 b.g, .slice T nt tc] 49) := ⟨_, rfl⟩
  have k2 : Below w1.heap.size w1 w2 := by rw [hw2]; exact alloc_below _ _
  have hb2 := bt (bt hb0 hb1) k2
  have X2 := Lib.hid ((X0.out.step hb1).step k2)
  have Y2 := Lib.hid ((Y0.out.step hb1).step k2)
  have D2 : Hid (Box w2 w1.heap.size 49 #[.int .i64 b.g, .slice T nt tc]) := Lib.hid (by rw [hw2]; exact Box.new _ _ _)
  have O2 := Lib.hid (OT.out.below k2)
  have f0 := X2.out.cell 0 rfl
  have f1 := X2.out.cell 1 rfl
  have s0 := Y2.out.cell 0 rfl
  have s1 := Y2.out.cell 1 rfl
  have s0z := Y2.out.frozen 0
  have s1z := Y2.out.frozen 1
  have d0 := D2.out.cell 0 rfl
  have d1 := D2.out.cell 1 rfl
  rw [hw2] at f0 f1 s0 s1 s0z s1z d0 d1
  have HW2 := Lib.hid hw2
  clear X0 Y0 HN OT hw2 HW0
  have HSelf : Hid (∀ code : Int, r = (ss, code) → GivesRead r w (.returned (.tuple #[.agg #[.slice A n c, .slice C 0 d], .int .i64 code])) ((w2.setCell ⟨w.heap.size + 1, 0, none⟩ (.slice A n c)).setCell ⟨w.heap.size + 1, 1, none⟩ (.slice C 0 d))) := Lib.hid (fun code hr => by
    rw [hr]
    exact ⟨A, n, c, C, d, rfl, Lib.hid HL.out.1, Lib.hid (HA.out.1.below (below_stored hb2)), below_stored hb2⟩)
  by_cases hc : b.c = 0
  · have hs : 0 ≤ b.s ∧ b.s < 2 := by have := HGe.out hc; omega
    have hsl : slotOf b = b.s := by unfold slotOf; rw [if_pos hc]
    have hs' : ¬ slotOf b < 0 := by rw [hsl]; omega
    by_cases hg : b.g = 999999
    · have hgb : (b.g == 999999) = true := by simp [hg]
      have HRz : Hid (r = (ss, 7)) := Lib.hid (by have := HP3.out b hbe hc hg; rw [this] at HCd; exact HCd.out (by decide))
      clear hg hsl hc
      go_wp2
      rw [← HW2.out]
      refine bodyPost_ret (v := .tuple #[.agg #[.slice A n c, .slice C 0 d], .int .i64 7]) (by rw [HW2.out]; simp [results, Try.results41, go_sem, s0, s1]) rfl ?_
      exact HSelf.out 7 HRz.out
    · have hgb : (b.g == 999999) = false := by simp [hg]
      have hgd := HGd.out hc
      have hge := HGe.out hc
      obtain rfl : nt = 17 := by have := LT.out; omega
      have HPln := Lib.hid (l02Plan A C T P n c d tc f ss ps b.g b.z w2 HL.out.1 H48.out HL.out.2.1 hgd.1 hgd.2 (by omega) (HA.out.1.below hb2) (HA.out.2.below hb2) O2.out.reads)
      have HPo := Lib.hid (HP1.out b hbe hc hg)
      have HTab : Hid ((planN b.z (freeL b.z) (loadL ss [] b.z) ps 17).1.length = 17 ∧ ∀ z ∈ (planN b.z (freeL b.z) (loadL ss [] b.z) ps 17).1, 0 ≤ z ∧ z ≤ 99) := Lib.hid ⟨by rw [planN_tab]; exact hgd.1, by
        rw [plan_eq]
        intro z hz
        have := withN_in b.z (diffN ps (loadL ss [] b.z) 17) (freeL b.z) hgd.2 (freeL_in b.z) (diffN ps (loadL ss [] b.z) 17).length (by have := freeL_len b.z hgd.1; have := diffN_len ps (loadL ss [] b.z) 17; omega) z hz
        omega⟩
      generalize planN b.z (freeL b.z) (loadL ss [] b.z) ps 17 = q at HPln HPo HTab
      obtain ⟨tab, list⟩ := q
      replace HPo : Hid (planOf ss ps = if list.length = 0 then ([], 0) else (list ++ [(1 - b.s, rootTx (b.g + 1) tab)], 0)) := HPo
      replace HTab : Hid (tab.length = 17 ∧ ∀ z ∈ tab, 0 ≤ z ∧ z ≤ 99) := HTab
      have HSl : Hid (slotOf b = b.s) := Lib.hid hsl
      have hg6 : b.g + 1 ≤ 999999 := by omega
      have hg0 : 0 ≤ b.g + 1 := by omega
      generalize slotOf b = sl at hs' HSl
      have es : IntKind.i64.wrap (1 - sl) = 1 - sl := IntWalk.i64_in _ (by have := HSl.out; omega)
      clear hg hsl hc hbe HGd HGe HP1 HP2 HP3 HCd HCo hgd
      go_wp2_with fail
      rw [← HW2.out]
      refine HPln.out.mono ?_
      rintro e w3 ⟨G, gc, B, k, ff, rfl, HK, HKf, HBs, HGt, HWr, k3⟩
      replace HK : Hid (list.length = k) := HK
      replace HGt : Hid (IntL w3 G tab) := HGt
      replace HWr : Hid (WrL w3 B list) := HWr
      obtain ⟨w4, hw4⟩ : ∃ w4, w4 = w3.alloc (.cells #[.int .i64 (b.g + 1), .slice G 17 gc] 49) := ⟨_, rfl⟩
      have k4 : Below w3.heap.size w3 w4 := by rw [hw4]; exact alloc_below _ _
      have hb4 := bt (bt hb2 k3) k4
      have X4 := Lib.hid ((X2.out.step k3).step k4)
      have Y4 := Lib.hid ((Y2.out.step k3).step k4)
      have D4 : Hid (Box w4 w3.heap.size 49 #[.int .i64 (b.g + 1), .slice G 17 gc]) := Lib.hid (by rw [hw4]; exact Box.new _ _ _)
      have HW3 := Lib.hid (HWr.out.below k4)
      have HG4 := Lib.hid (HGt.out.below k4)
      clear f0 f1 s0 s1 s0z s1z d0 d1 HPln HWr HGt HSelf X2 Y2 D2 O2
      have f0 := X4.out.cell 0 rfl
      have f1 := X4.out.cell 1 rfl
      have s0 := Y4.out.cell 0 rfl
      have s1 := Y4.out.cell 1 rfl
      have s0z := Y4.out.frozen 0
      have s1z := Y4.out.frozen 1
      rw [hw4] at f0 f1 s0 s1 s0z s1z
      have HW4 := Lib.hid hw4
      have hyl : Hid (w.heap.size + 1 < w4.heap.size) := Lib.hid Y4.out.lt
      clear hw4 HW2
      by_cases hz : k = 0
      · have hzb : ((k : Int) == 0) = true := by simp; omega
        have HRz : Hid (r = (ss, 0)) := Lib.hid (by
          have e1 : planOf ss ps = ([], 0) := by rw [HPo.out, if_pos (by rw [HK.out]; exact hz)]
          have := HAll.out (by rw [e1]) (by rw [e1]; simp)
          rw [this, e1]; rfl)
        clear hz
        go_wp2
        rw [← HW4.out]
        refine bodyPost_ret (v := .tuple #[.agg #[.slice A n c, .slice C 0 d], .int .i64 0]) (by rw [HW4.out]; simp [results, Try.results41, go_sem, s0, s1]) rfl ?_
        rw [HRz.out]
        exact ⟨A, n, c, C, d, rfl, Lib.hid HL.out.1, Lib.hid (HA.out.1.below (below_stored hb4)), below_stored hb4⟩
      · have hzb : ((k : Int) == 0) = false := by simp; omega
        have HPe : Hid (planOf ss ps = (list ++ [(1 - b.s, rootTx (b.g + 1) tab)], 0)) := Lib.hid (by rw [HPo.out, if_neg (by rw [HK.out]; exact hz)])
        have HOL : Hid (Ok ss (list ++ [(1 - b.s, rootTx (b.g + 1) tab)])) := Lib.hid (by have := HOk.out.1; rw [HPe.out] at this; exact this)
        have HK17 : Hid (k ≤ 17) := Lib.hid (by have := HOk.out.2; rw [HPe.out] at this; have q := HK.out; simp only [List.length_append, List.length_singleton] at this; omega)
        have HOk1 : Hid (Ok ss list) := Lib.hid (HOL.out.sub (by simp) (fun x hx => List.mem_append_left _ hx))
        obtain ⟨bb, rfl⟩ : ∃ bb, B = some ⟨bb, 0, none⟩ := by rcases HBs.out with q | q <;> first | omega | exact q
        rw [HPe.out] at HFew HAll
        have hsz2 : Hid (w.heap.size ≤ w4.heap.size) := Lib.hid hb4.size
        clear HPo HOk HPe
        by_cases hlt : u < k
        · have hlt' : (u : Int) < (k : Int) := by omega
          have HRz : Hid (r = (settleN ss (list.take u) [1] u, 10)) := Lib.hid (by
            have := HFew.out rfl (by have := HK.out; simp only [List.length_append, List.length_singleton]; omega)
            rw [this, take_snoc _ _ _ (by have := HK.out; omega)])
          have hmx : max (u : Int) 0 = (u : Int) := by omega
          have h3 : ¬ (u : Int) < 0 := by omega
          have e1 : (u : Int) ≤ (ff : Int) := by have := HKf.out; omega
          have e2 : u ≤ ff := by have := HKf.out; omega
          have e3 : (u : Int) ≤ (k : Int) := by omega
          have HLk : Hid ((list.take u).length = u) := Lib.hid (by rw [List.length_take]; have := HK.out; omega)
          have HLay : Hid (∀ W, Below w4.heap.size w4 W → Calls Try.prog 78 #[.agg #[.slice A n c, .slice C 0 d], .slice (some ⟨bb, 0, none⟩) u ff] W (GivesLay A n c u (list.take u) W)) := Lib.hid (fun W q => by
            have := l02Lay A C (some ⟨bb, 0, none⟩) n c 0 d u ff [] (list.take u) W rfl HLk.out (by have := HK17.out; omega) (fun i hi => by simp at hi) ((HW3.out.below q).take u)
            rwa [Nat.zero_add, List.nil_append] at this)
          have HFl := Lib.hid (fun W C' d' (q : Below w4.heap.size w4 W) (g : WrL W C' (list.take u)) => l01Flush A C' n c u d' ss (list.take u) W HL.out.1 HLk.out (HA.out.1.below (bt hb4 q)) g (HOk1.out.take u))
          have h6 : Below w4.heap.size w4 w4.drew := (Below.refl _ _).drew
          have HX := Lib.hid X4.out
          have HKq : Hid (∀ W', Below w4.heap.size w4 W' → W'.cell? ⟨w.heap.size, 0, none⟩ = some (.slice A n c) ∧ W'.cell? ⟨w.heap.size, 1, none⟩ = some (.slice C 0 d)) := Lib.hid (fun W' q => ⟨(HX.out.step q).cell 0 rfl, (HX.out.step q).cell 1 rfl⟩)
          have HKr : Hid (∀ W' x y, Below w4.heap.size w4 W' → ((W'.setCell ⟨w.heap.size + 1, 0, none⟩ x).setCell ⟨w.heap.size + 1, 1, none⟩ y).cell? ⟨w.heap.size, 0, none⟩ = some (.slice A n c) ∧ ((W'.setCell ⟨w.heap.size + 1, 0, none⟩ x).setCell ⟨w.heap.size + 1, 1, none⟩ y).cell? ⟨w.heap.size, 1, none⟩ = some (.slice C 0 d)) := Lib.hid (fun W' x y q => by
            have Z := ((HX.out.step q).far (p := ⟨w.heap.size + 1, 0, none⟩) (by show w.heap.size ≠ w.heap.size + 1; omega) x).far (p := ⟨w.heap.size + 1, 1, none⟩) (by show w.heap.size ≠ w.heap.size + 1; omega) y
            exact ⟨Z.cell 0 rfl, Z.cell 1 rfl⟩)
          clear HFew HAll HK HKf HBs HOL HOk1 HK17 f0 f1 s0 s1 s0z s1z
          go_wp2
          rw [← HW4.out]
          go_region_held3 (fun W' => W'.cell? ⟨w.heap.size, 0, none⟩ = some (.slice A n c) ∧ W'.cell? ⟨w.heap.size, 1, none⟩ = some (.slice C 0 d))
            (first | exact HKr.out _ _ _ (bt h6 (bt k5 k6)) | exact HKq.out _ (bt h6 (bt k5 k6)) | exact HKq.out _ (bt h6 k5) | exact HKq.out _ h6)
            (first
              | (go_at_call 77; refine (HFl.out _ _ _ (bt h6 k5) HW5.out).mono ?_; rintro e w6 ⟨A6, n6, c6, C6, m6, d6, rfl, L6, M6, S6, R6, k6⟩; have Y6 := Y4.out.step (bt h6 (bt k5 k6)); have t0 := Y6.cell 0 rfl; have t1 := Y6.cell 1 rfl; have t0z := Y6.frozen 0; have t1z := Y6.frozen 1)
              | (go_at_call 78; refine (HLay.out _ h6).mono ?_; rintro e w5 ⟨C5, d5, rfl, HW5, k5⟩))
          all_goals (
            obtain rfl : m6 = 0 := by have := M6.out; simpa using this.symm
            go_wp2
            refine bodyPost_ret (v := .tuple #[.agg #[.slice A6 n6 c6, .slice C6 0 d6], .int .i64 10]) (by simp [results, Try.results41, go_sem, t0, t1]) rfl ?_
            rw [HRz.out]
            have hbz := bt hb4 (bt h6 k5)
            exact ⟨_, _, _, _, _, rfl, L6, Lib.hid (own_stored hbz (by have := hyl.out; have := (bt h6 k5).size; omega) S6.out).reads, below_stored (bt hbz k6)⟩)
        · have hlt' : ¬ ((u : Int) < (k : Int)) := by omega
          have HLay : Hid (∀ W, Below w4.heap.size w4 W → Calls Try.prog 78 #[.agg #[.slice A n c, .slice C 0 d], .slice (some ⟨bb, 0, none⟩) k ff] W (GivesLay A n c k list W)) := Lib.hid (fun W q => by
            have := l02Lay A C (some ⟨bb, 0, none⟩) n c 0 d k ff [] list W rfl HK.out (by have := HK17.out; omega) (fun i hi => by simp at hi) (HW3.out.below q)
            rwa [Nat.zero_add, List.nil_append] at this)
          have HFl := Lib.hid (fun W C' d' (q : Below w4.heap.size w4 W) (g : WrL W C' list) => l01Flush A C' n c k d' ss list W HL.out.1 HK.out (HA.out.1.below (bt hb4 q)) g HOk1.out)
          have HLy4 := Lib.hid (HLay.out w4 (Below.refl _ _))
          clear HLay
          go_wp2_with fail
          rw [← HW4.out]
          refine HLy4.out.mono ?_
          rintro e w5 ⟨C5, d5, rfl, HW5, k5⟩
          have HFl5 := Lib.hid (HFl.out w5 C5 d5 k5 HW5.out)
          clear HFl HLy4 HW5
          go_wp2_with fail
          refine HFl5.out.mono ?_
          rintro e w6 ⟨A6, n6, c6, C6, m6, d6, rfl, L6, M6, S6, R6, k6⟩
          obtain rfl : m6 = 0 := by have := M6.out; simpa using this.symm
          have k56 := bt k5 k6
          have X6 := Lib.hid (X4.out.step k56)
          have Y6 := Lib.hid (Y4.out.step k56)
          obtain ⟨w7, hw7⟩ : ∃ w7, w7 = (w6.setCell ⟨w.heap.size, 0, none⟩ (.slice A6 n6 c6)).setCell ⟨w.heap.size, 1, none⟩ (.slice C6 0 d6) := ⟨_, rfl⟩
          have x0 := X6.out.cell 0 rfl
          have x1 := X6.out.cell 1 rfl
          have x0z := X6.out.frozen 0
          have x1z := X6.out.frozen 1
          have X7 : Hid (Box w7 w.heap.size 30 #[.slice A6 n6 c6, .slice C6 0 d6]) := Lib.hid (by rw [hw7]; exact X6.out.allW2 rfl _ _)
          have Y7 : Hid (Box w7 (w.heap.size + 1) 30 #[.slice none 0 0, .slice none 0 0]) := Lib.hid (by rw [hw7]; exact (Y6.out.far (p := ⟨w.heap.size, 0, none⟩) (by show w.heap.size + 1 ≠ w.heap.size; omega) _).far (p := ⟨w.heap.size, 1, none⟩) (by show w.heap.size + 1 ≠ w.heap.size; omega) _)
          have D7 : Hid (Box w7 w3.heap.size 49 #[.int .i64 (b.g + 1), .slice G 17 gc]) := Lib.hid (by rw [hw7]; have hd : w3.heap.size ≠ w.heap.size := (by have := bt hb2 k3; have := this.size; have := hyl.out; have q := D4.out.lt; have := k4; intro e; have z := (X4.out.symm.trans (e ▸ D4.out)); simp at z); exact ((D4.out.step k56).far (p := ⟨w.heap.size, 0, none⟩) hd _).far (p := ⟨w.heap.size, 1, none⟩) hd _)
          have bz7 : Btw w.heap.size (w.heap.size + 1) w6 w7 := by rw [hw7]; exact ((Btw.refl _ _ _).setCell (p := ⟨w.heap.size, 0, none⟩) (Nat.le_refl _) (Nat.lt_succ_self _) _).setCell (p := ⟨w.heap.size, 1, none⟩) (Nat.le_refl _) (Nat.lt_succ_self _) _
          have hq4 : w.heap.size + 1 < w5.heap.size := by have := hyl.out; have := k5.size; omega
          have S7 := Lib.hid (S6.out.btw bz7 (.inr (by omega)))
          have HG7 : Hid (IntL w7 G tab) := Lib.hid (by rw [hw7]; exact intl_two (by intro z e; cases e) (by intro z e; cases e) (HG4.out.below k56) X6.out _ _)
          have hb6 : Below w.heap.size w w6 := bt hb4 k56
          have hb7 : Below w.heap.size w w7 := by rw [hw7]; exact (hb6.setCell (p := ⟨w.heap.size, 0, none⟩) (Nat.le_refl _) _).setCell (p := ⟨w.heap.size, 1, none⟩) (Nat.le_refl _) _
          have HZ7 : Hid (w7.heap.size = w6.heap.size) := Lib.hid (by rw [hw7]; simp [World.setCell])
          have t0 := Y7.out.cell 0 rfl
          have t1 := Y7.out.cell 1 rfl
          have t0z := Y7.out.frozen 0
          have t1z := Y7.out.frozen 1
          have q0 := X7.out.cell 0 rfl
          have q1 := X7.out.cell 1 rfl
          rw [hw7] at t0 t1 t0z t1z q0 q1
          have HW7 := Lib.hid hw7
          clear f0 f1 s0 s1 s0z s1z hw7 X6 Y6 HFl5 S6 R6
          by_cases hq : u = k
          · have hqb : ((u : Int) == (k : Int)) = true := by simp; omega
            have HRz : Hid (r = (settleN ss list [1] k, 10)) := Lib.hid (by
              have := HFew.out (by first | rfl | trivial) (by have := HK.out; first | omega | (simp only [List.length_append, List.length_singleton]; omega))
              rw [this, take_snoc _ _ _ (by have := HK.out; omega), hq, List.take_of_length_le (by have := HK.out; omega)])
            clear hq HFew HAll
            go_wp2
            rw [← HW7.out]
            refine bodyPost_ret (v := .tuple #[.agg #[.slice A6 n6 c6, .slice C6 0 d6], .int .i64 10]) (by rw [HW7.out]; simp [results, Try.results41, go_sem, t0, t1]) rfl ?_
            rw [HRz.out]
            have bz8 : Btw (w.heap.size + 1) (w.heap.size + 1 + 1) w7 ((w7.setCell ⟨w.heap.size + 1, 0, none⟩ (.slice A6 n6 c6)).setCell ⟨w.heap.size + 1, 1, none⟩ (.slice C6 0 d6)) := ((Btw.refl _ _ _).setCell (p := ⟨w.heap.size + 1, 0, none⟩) (Nat.le_refl _) (Nat.lt_succ_self _) _).setCell (p := ⟨w.heap.size + 1, 1, none⟩) (Nat.le_refl _) (Nat.lt_succ_self _) _
            exact ⟨_, _, _, _, _, rfl, L6, Lib.hid (S7.out.btw bz8 (.inr (by omega))).reads, below_stored hb7⟩
          · have hqb : ((u : Int) == (k : Int)) = false := by simp; omega
            have HRz : Hid (r = (settleN (settleN ss list [1] k) [(1 - sl, rootTx (b.g + 1) tab)] [1] 1, 0)) := Lib.hid (by
              have := HAll.out (by first | rfl | trivial) (by have := HK.out; first | omega | (simp only [List.length_append, List.length_singleton]; omega))
              rw [this, HSl.out, twoN_snoc, HK.out])
            have HOr : Hid (Ok (settleN ss list [1] k) [(1 - sl, rootTx (b.g + 1) tab)]) := Lib.hid (by
              have := HOk1.out.settled [1] (HOL.out.sub (ms := [(1 - b.s, rootTx (b.g + 1) tab)]) (by simp) (fun x hx => List.mem_append_right _ hx))
              rw [HK.out] at this
              rw [HSl.out]
              exact this)
            have HTx := Lib.hid (fun W (q : Below w7.heap.size w7 W) => l02Text (b.g + 1) G 17 gc tab W HTab.out.1 (by omega) ⟨hg0, hg6⟩ HTab.out.2 (HG7.out.below q))
            generalize rootTx (b.g + 1) tab = rt at HRz HOr HTx
            have HWt : Hid (∀ W, Calls Try.prog 79 #[.agg #[.slice A6 n6 c6, .slice C6 0 d6], .int .i64 (1 - sl), .string rt] W (GivesWrite A6 n6 c6 1 [(1 - sl, rt)] W)) := Lib.hid (fun W => by
              have := l01Write A6 C6 n6 c6 0 d6 [] (1 - sl) rt W rfl (by omega) (fun i hi => by simp at hi)
              rwa [Nat.zero_add, List.nil_append] at this)
            have HFl := Lib.hid (fun W C' d' (q : Below w7.heap.size w7 W) (g : WrL W C' [(1 - sl, rt)]) => l01Flush A6 C' n6 c6 1 d' (settleN ss list [1] k) [(1 - sl, rt)] W L6.out rfl (S7.out.reads.below q) g HOr.out)
            have h6 : Below w7.heap.size w7 w7.drew := (Below.refl _ _).drew
            have HKq : Hid (∀ W', Below w7.heap.size w7 W' → W'.cell? ⟨w.heap.size, 0, none⟩ = some (.slice A6 n6 c6) ∧ W'.cell? ⟨w.heap.size, 1, none⟩ = some (.slice C6 0 d6) ∧ W'.cell? ⟨w3.heap.size, 0, none⟩ = some (.int .i64 (b.g + 1)) ∧ W'.cell? ⟨w3.heap.size, 1, none⟩ = some (.slice G 17 gc)) := Lib.hid (fun W' q => ⟨(X7.out.step q).cell 0 rfl, (X7.out.step q).cell 1 rfl, (D7.out.step q).cell 0 rfl, (D7.out.step q).cell 1 rfl⟩)
            have hD3 : w3.heap.size ≠ w.heap.size + 1 := fun e => by have z := (Y7.out.symm.trans (e ▸ D7.out)); simp at z
            have HKr : Hid (∀ W' x y, Below w7.heap.size w7 W' → ((W'.setCell ⟨w.heap.size + 1, 0, none⟩ x).setCell ⟨w.heap.size + 1, 1, none⟩ y).cell? ⟨w.heap.size, 0, none⟩ = some (.slice A6 n6 c6) ∧ ((W'.setCell ⟨w.heap.size + 1, 0, none⟩ x).setCell ⟨w.heap.size + 1, 1, none⟩ y).cell? ⟨w.heap.size, 1, none⟩ = some (.slice C6 0 d6) ∧ ((W'.setCell ⟨w.heap.size + 1, 0, none⟩ x).setCell ⟨w.heap.size + 1, 1, none⟩ y).cell? ⟨w3.heap.size, 0, none⟩ = some (.int .i64 (b.g + 1)) ∧ ((W'.setCell ⟨w.heap.size + 1, 0, none⟩ x).setCell ⟨w.heap.size + 1, 1, none⟩ y).cell? ⟨w3.heap.size, 1, none⟩ = some (.slice G 17 gc)) := Lib.hid (fun W' x y q => by
              have Z := ((X7.out.step q).far (p := ⟨w.heap.size + 1, 0, none⟩) (by show w.heap.size ≠ w.heap.size + 1; omega) x).far (p := ⟨w.heap.size + 1, 1, none⟩) (by show w.heap.size ≠ w.heap.size + 1; omega) y
              have E := ((D7.out.step q).far (p := ⟨w.heap.size + 1, 0, none⟩) hD3 x).far (p := ⟨w.heap.size + 1, 1, none⟩) hD3 y
              exact ⟨Z.cell 0 rfl, Z.cell 1 rfl, E.cell 0 rfl, E.cell 1 rfl⟩)
            have HQ7 : Hid (w.heap.size + 1 < w7.heap.size) := Lib.hid Y7.out.lt
            clear hq HFew HAll HOL HOk1 HK17 HBs HKf q0 q1 t0 t1 t0z t1z hD3
            go_wp2
            rw [← HW7.out]
            go_region_held3 (fun W' => W'.cell? ⟨w.heap.size, 0, none⟩ = some (.slice A6 n6 c6) ∧ W'.cell? ⟨w.heap.size, 1, none⟩ = some (.slice C6 0 d6) ∧ W'.cell? ⟨w3.heap.size, 0, none⟩ = some (.int .i64 (b.g + 1)) ∧ W'.cell? ⟨w3.heap.size, 1, none⟩ = some (.slice G 17 gc))
              (first | exact HKr.out _ _ _ (bt h6 (bt k8 (bt k9 k10))) | exact HKq.out _ (bt h6 (bt k8 (bt k9 k10))) | exact HKq.out _ (bt h6 (bt k8 k9)) | exact HKq.out _ (bt h6 k8) | exact HKq.out _ h6)
              (first
                | (go_at_call 77; refine (HFl.out _ _ _ (bt h6 (bt k8 k9)) HW9.out.reads).mono ?_; rintro e w10 ⟨Aa, na, ca, Ca, ma, da, rfl, La, Ma, Sa, Ra, k10⟩; have Ya := Y7.out.step (bt h6 (bt k8 (bt k9 k10))); have t0 := Ya.cell 0 rfl; have t1 := Ya.cell 1 rfl; have t0z := Ya.frozen 0; have t1z := Ya.frozen 1)
                | (go_at_call 79; refine (HWt.out _).mono ?_; rintro e w9 ⟨C9, d9, rfl, HW9, k9⟩)
                | (go_at_call 80; refine (HTx.out _ h6).mono ?_; rintro e w8 ⟨rfl, k8⟩))
            all_goals (
              obtain rfl : ma = 0 := by have := Ma.out; simpa using this.symm
              go_wp2
              refine bodyPost_ret (v := .tuple #[.agg #[.slice Aa na ca, .slice Ca 0 da], .int .i64 0]) (by simp [results, Try.results41, go_sem, t0, t1]) rfl ?_
              rw [HRz.out]
              have hbz := bt hb7 (bt h6 (bt k8 k9))
              exact ⟨_, _, _, _, _, rfl, La, Lib.hid (own_stored hbz (by have := HQ7.out; have := (bt h6 (bt k8 k9)).size; omega) Sa.out).reads, below_stored (bt hbz k10)⟩)
  · have HB9 : Hid (b = ⟨0, [], 0, 9⟩) := Lib.hid (by rcases HCo.out with q | q <;> first | exact absurd q.1 hc | exact q)
    have hs' : slotOf b < 0 := by rw [HB9.out]; decide
    have HRz : Hid (r = (ss, 9)) := Lib.hid (by have := HP2.out b hbe hc; rw [this] at HCd; have := HCd.out hc; rw [this, HB9.out])
    clear hc
    go_wp2
    rw [← HW2.out]
    refine bodyPost_ret (v := .tuple #[.agg #[.slice A n c, .slice C 0 d], .int .i64 9]) (by rw [HW2.out]; simp [results, Try.results41, go_sem, s0, s1]) rfl ?_
    exact HSelf.out 9 HRz.out
end Go.Proofs.Ytlfmniekbiffjaa

/- The contract of spec.Commit. -/
namespace Go.Proofs.Ytlfmniekbiffjaa
open Go.RowKit

set_option maxRecDepth 100000 in
theorem l01In1000 (z : Int) (w : World) : Calls Try.prog 40 #[.int .i64 z, .int .i64 0, .int .i64 1000] w fun e w' => e = .returned (.bool (decide (0 ≤ z ∧ z ≤ 1000))) ∧ w = w' := by
  go_enter Try.func40, Try.ntmps40
  go_wp2
  all_goals go_ret
  all_goals (refine ⟨ret_bool ?_, rfl⟩)
  all_goals (rw [Bool.eq_iff_iff]; simp; try omega)
theorem askC_long {ps ss : List ByteArray} {ws : List (Int × ByteArray)} (h : 4096 < ps.length) : askC ps ss ws = 2 := by
  have : pagesC ps = 2 := by unfold pagesC; rw [if_pos h]
  unfold askC
  rw [this]
  rfl
theorem commit_small {ss ps : List ByteArray} {u : Nat} (ha : askC ps ss [] = 0) (hu : u ≤ 1000) : (commitOf ss [] ps u).1.length ≤ 48 := by
  obtain ⟨hp17, hps, hok, -⟩ := askC_zero ha
  have n48 := (ok_of hok).n48
  by_cases h3 : (planOf ss ps).2 = 0
  · by_cases h4 : u < (planOf ss ps).1.length
    · rw [commit_few ha hu h3 h4]; show (settleN _ _ _ _).length ≤ 48; rw [settleN_len]; omega
    · rw [commit_all ha hu h3 (by omega)]; show (twoN _ _ _ _).length ≤ 48; unfold twoN; rw [settleN_len, settleN_len]; omega
  · rw [commit_code ha ⟨by omega, by omega⟩ h3]; show ss.length ≤ 48; omega

set_option maxRecDepth 100000 in
set_option maxHeartbeats 8000000 in
theorem specCommit (A C P : Option Addr) (n c m d k f : Nat) (ss ps : List ByteArray) (ws : List (Int × ByteArray)) (bud : Int) (w : World) (hl : ss.length = n) (hm : ws.length = m) (hk : ps.length = k) (hn : n ≤ maxLen) (hmm : m ≤ maxLen) (hkk : k ≤ maxLen) (h : StrL w A ss) (g : WrL w C ws) (i : StrL w P ps) (fs : FitS ss) (fw : FitW ws) (fp : FitS ps) :
    Calls Try.prog 11 #[.agg #[.slice A n c, .slice C m d], .slice P k f, .int .i64 bud] w (GivesDiskCode (commitOf ss ws ps bud).1 [] (commitOf ss ws ps bud).2 w) := by
  obtain ⟨W0, hW0⟩ : ∃ W0, W0 = ((w.alloc (.cells #[.slice A n c, .slice C m d] 30)).alloc (.cells #[.slice none 0 0, .slice none 0 0] 30)) := ⟨_, rfl⟩
  have hb0 : Below w.heap.size w W0 := by rw [hW0]; exact bt (alloc_below _ _) (alloc_below _ _)
  have X0 : Hid (Box W0 w.heap.size 30 #[.slice A n c, .slice C m d]) := Lib.hid (by rw [hW0]; exact (Box.new _ _ _).alloc _)
  have Y0 : Hid (Box W0 (w.heap.size + 1) 30 #[.slice none 0 0, .slice none 0 0]) := Lib.hid (by rw [hW0]; simpa using Box.new (w.alloc (.cells #[.slice A n c, .slice C m d] 30)) 30 #[.slice none 0 0, .slice none 0 0])
  have HC := Lib.hid (specAsk A C P n c m d k f ss ps ws W0 hl hm hk hn hmm hkk (h.below hb0) (g.below hb0) (i.below hb0) fs fw fp)
  have H := Lib.hid (And.intro (And.intro hl (And.intro hm hk)) (And.intro h i))
  obtain ⟨r, hr⟩ : ∃ r, commitOf ss ws ps bud = r := ⟨_, rfl⟩
  rw [hr]
  have HR := Lib.hid hr
  have HW0 := Lib.hid hW0
  unfold maxLen at hkk
  clear hl hm hk hn hmm h g i fs fw fp hW0 hr
  by_cases hlong : 4096 < k
  · have HRz : Hid (r = ([], 2)) := Lib.hid (by
      have e := askC_long (ps := ps) (ss := ss) (ws := ws) (by rw [H.out.1.2.2]; exact hlong)
      rw [← HR.out, commit_ask (by rw [e]; decide), e])
    have hlong' : (4096 : Int) < (k : Int) := by omega
    clear HR HC H X0
    go_enter Try.func11, Try.ntmps11
    go_wp2
    refine bodyPost_ret (v := .tuple #[.agg #[.slice none 0 0, .slice none 0 0], .int .i64 2]) (by simp [results, Try.results11, go_sem]) rfl ?_
    rw [HRz.out]
    exact gives_none (bt (alloc_below _ _) (alloc_below _ _))
  have hlong' : ¬ (4096 : Int) < (k : Int) := by omega
  clear hlong
  go_enter Try.func11, Try.ntmps11
  go_wp2_with fail
  rw [← HW0.out]
  refine HC.out.mono ?_
  rintro e w1 ⟨rfl, hb1⟩
  have hb := bt hb0 hb1
  have X1 := Lib.hid (X0.out.step hb1)
  have Y1 := Lib.hid (Y0.out.step hb1)
  have s0 := Y1.out.cell 0 rfl
  have s1 := Y1.out.cell 1 rfl
  have s0z := Y1.out.frozen 0
  have s1z := Y1.out.frozen 1
  clear X0 Y0 HC HW0
  by_cases ha : askC ps ss ws = 0
  · have hcb : (askC ps ss ws != 0) = false := by simp [ha]
    by_cases hbd : 0 ≤ bud ∧ bud ≤ 1000
    · obtain ⟨hp17, hps, hok, rfl⟩ := askC_zero ha
      obtain rfl : m = 0 := by have := H.out.1.2.1; simpa using this.symm
      obtain rfl : k = 17 := by have := H.out.1.2.2; omega
      obtain ⟨u, rfl⟩ : ∃ u : Nat, bud = u := ⟨bud.toNat, by omega⟩
      have hu : u ≤ 1000 := by omega
      have HIn : Hid (decide (0 ≤ (u : Int) ∧ (u : Int) ≤ 1000) = true) := Lib.hid (decide_eq_true hbd)
      have HCm := Lib.hid (l02Commit A C P n c d f u ss ps w1 H.out.1.1 ha hu (H.out.2.1.below hb) (H.out.2.2.below hb))
      have HSm := Lib.hid (commit_small ha hu)
      rw [HR.out] at HCm HSm
      have f0 := X1.out.cell 0 rfl
      have f1 := X1.out.cell 1 rfl
      generalize askC ps ss [] = ac at hcb
      clear HR ha hbd hok hps hp17 H
      go_wp2_with (first | (go_at_call 40; refine (l01In1000 _ _).mono ?_; rintro e w' ⟨rfl, rfl⟩; rw [HIn.out]))
      refine HCm.out.mono ?_
      rintro e w2 ⟨A2, n2, c2, C2, d2, rfl, L2, S2, hb2⟩
      obtain ⟨w3, hw3⟩ : ∃ w3, w3 = w2.alloc (.cells #[.slice A2 n2 c2, .slice C2 0 d2] 30) := ⟨_, rfl⟩
      have k3 : Below w2.heap.size w2 w3 := by rw [hw3]; exact alloc_below _ _
      have HOw := Lib.hid (l01Own A2 C2 n2 c2 0 d2 r.1 [] w3 L2.out rfl (by have := HSm.out; have := L2.out; omega) (by omega) (S2.out.below k3) (fun i hi => by simp at hi))
      have hb3 := bt (bt hb hb2) k3
      have Y3 := Lib.hid ((Y1.out.step hb2).step k3)
      have HYl : Hid (w.heap.size + 1 < w3.heap.size) := Lib.hid Y3.out.lt
      have HW3 := Lib.hid hw3
      clear f0 f1 s0 s1 s0z s1z HCm hw3
      go_wp2_with fail
      rw [← HW3.out]
      refine HOw.out.mono ?_
      rintro e w4 ⟨A4, n4, c4, C4, m4, d4, rfl, L4, M4, S4, R4, k4⟩
      have Y4 := Y3.out.step k4
      have t0 := Y4.cell 0 rfl
      have t1 := Y4.cell 1 rfl
      have t0z := Y4.frozen 0
      have t1z := Y4.frozen 1
      clear Y4 HOw
      go_wp2
      refine bodyPost_ret (v := .tuple #[.agg #[.slice A4 n4 c4, .slice C4 m4 d4], .int .i64 r.2]) (by simp [results, Try.results11, go_sem, t0, t1]) rfl ?_
      exact gives_stored hb3 HYl.out k4 L4.out M4.out S4.out
    · have HRz : Hid (r = ([], 4)) := Lib.hid (by rw [← HR.out]; exact commit_range ha hbd)
      have HIn : Hid (decide (0 ≤ bud ∧ bud ≤ 1000) = false) := Lib.hid (decide_eq_false hbd)
      generalize askC ps ss ws = ac at hcb
      clear HR ha hbd
      go_wp2_with (first | (go_at_call 40; refine (l01In1000 _ _).mono ?_; rintro e w' ⟨rfl, rfl⟩; rw [HIn.out]))
      refine bodyPost_ret (v := .tuple #[.agg #[.slice none 0 0, .slice none 0 0], .int .i64 4]) (by simp [results, Try.results11, go_sem, s0, s1]) rfl ?_
      rw [HRz.out]
      exact gives_none (below_stored hb)
  · have hcb : (askC ps ss ws != 0) = true := by simp [ha]
    have HRz : Hid (r = ([], askC ps ss ws)) := Lib.hid (by rw [← HR.out]; exact commit_ask ha)
    generalize askC ps ss ws = ac at hcb HRz ha
    clear HR ha
    go_wp2
    refine bodyPost_ret (v := .tuple #[.agg #[.slice none 0 0, .slice none 0 0], .int .i64 ac]) (by simp [results, Try.results11, go_sem, s0, s1]) rfl ?_
    rw [HRz.out]
    exact gives_none (below_stored hb)
end Go.Proofs.Ytlfmniekbiffjaa

/- toStringS and eqStringS in the form that the laws' walks take. -/
namespace Go.Proofs.Ytlfmniekbiffjaa
open Go.RowKit
set_option maxRecDepth 100000 in
theorem eqStrSameC (A A' : Option Addr) (n n' c c' : Nat) (ss : List ByteArray) (w : World) (hl : ss.length = n) (hl' : ss.length = n') (hn : n ≤ maxLen) (h : StrL w A ss) (h' : StrL w A' ss) :
    Calls Try.prog 16 #[.slice A n c, .slice A' n' c'] w fun e w' => e = .returned (.bool true) ∧ Below w.heap.size w w' :=
  (eqStringS A A' n n' c c' ss ss w hl hl' hn (by omega) h h').mono fun e w' ⟨he, hb⟩ => ⟨by rw [he]; simp, hb⟩
set_option maxRecDepth 100000 in
theorem toStrsC (A : Option Addr) (n c : Nat) (ss : List ByteArray) (w : World) (hl : ss.length = n) (hn : n ≤ 1048576) (h : StrL w A ss) :
    Calls Try.prog 13 #[.slice A n c] w fun e w' => ∃ B k, e = .returned (.slice B n k) ∧ Hid (OwnS w' w.heap.size w'.heap.size B ss) ∧ Below w.heap.size w w' :=
  (toStringS A n c ss w hl hn h).mono fun e w' ⟨he, hb, hr⟩ => ⟨_, _, he, Lib.hid (own_of_rowS hl hr (Nat.le_refl _) hr.lt), hb⟩
end Go.Proofs.Ytlfmniekbiffjaa

/- A disk that came in, opened: its two slices as lists. Nothing here walks. -/
namespace Go.Proofs.Ytlfmniekbiffjaa
open Go.RowKit Go.ChangeShapes Go.WideShapes

section
variable {H : Type} {enc : TypeId × Value → H} {P : Program} {w : World} {spare : Nat → Bool} {held : Bool}

theorem getD_range {α : Type} (n : Nat) (f : Nat → α) (d : α) (i : Nat) (h : i < n) : ((List.range n).map f).getD i d = f i := by
  simp [List.getD_eq_getElem?_getD, h]

theorem add_plain {a : Addr} {b off i : Nat} {v : Value} (h : w.cell? (a.add i) = some v) (ha : a = ⟨b, off, none⟩) : w.cell? ⟨b, off + i, none⟩ = some v := by
  subst ha
  unfold Addr.add at h
  by_cases hi : i = 0
  · subst hi; simpa using h
  · rw [if_neg hi] at h; exact h

theorem open_strs {t e : TypeId} {fuel : Nat} {v : Value} {x : DataW H × List MemPlace} (ht : P.underlying t = some (.slice e)) (he : P.underlying e = some .string) (hce : P.cellsOf e = 1)
    (h : DataW.trod enc P w 0 spare held fuel t [v] = some x) :
    ∃ A n c, ∃ ss : List ByteArray, v = .slice A n c ∧ ss.length = n ∧ n ≤ maxLen ∧ StrL w A ss ∧ FitS ss := by
  rcases Deep.open_slice1 ht hce h with ⟨hcs, _⟩ | ⟨a, len, cap, m, k, V, D, Pl, hcs, _, hl, hm, hmm, _, hx⟩
  · injection hcs with hv _
    exact ⟨none, 0, 0, [], hv, rfl, by unfold maxLen; omega, fun i hi => by simp at hi, fun s hs => by simp at hs⟩
  · injection hcs with hv _
    have hlm : len ≤ m := by rw [hmm]; split <;> omega
    obtain ⟨S, hS⟩ := Deep.choose_lt (n := len) (p := fun i (s : ByteArray) => w.cell? (a.add i) = some (.string s) ∧ s.size ≤ maxLen) (fun i hi => by
      obtain ⟨h1, h2⟩ := hx i (by omega)
      obtain ⟨s, hc, _, hs⟩ := DataW.trod_string he h2
      injection hc with hc _
      exact ⟨s, by rw [← hc]; exact h1, hs⟩)
    refine ⟨some a, len, cap, (List.range len).map S, hv, by simp, by omega, fun i hi => ?_, fun s hs => ?_⟩
    · have hi' : i < len := by simpa using hi
      have h0 := (hS 0 (by omega)).1
      have hsp := World.cell?_spot h0
      obtain ⟨b, off, spot⟩ := a
      have hsp' : spot = none := by simpa [Addr.add] using hsp
      subst hsp'
      exact ⟨b, off, rfl, by rw [getD_range len S _ i hi']; exact add_plain (hS i hi').1 rfl⟩
    · obtain ⟨i, hi, rfl⟩ := List.mem_map.1 hs
      exact (hS i (by simpa using hi)).2

theorem open_writes {t e : TypeId} {f0 f1 : Field} {fuel : Nat} {v : Value} {x : DataW H × List MemPlace} (ht : P.underlying t = some (.slice e)) (he : P.underlying e = some (.struct #[f0, f1])) (hce : P.cellsOf e = 2)
    (h0 : P.underlying f0.type = some (.int .i64)) (h1 : P.underlying f1.type = some .string) (c0 : P.cellsOf f0.type = 1) (c1 : P.cellsOf f1.type = 1) (o0 : f0.offset = 0) (o1 : f1.offset = 1)
    (h : DataW.trod enc P w 0 spare held fuel t [v] = some x) :
    ∃ A n c, ∃ ws : List (Int × ByteArray), v = .slice A n c ∧ ws.length = n ∧ n ≤ maxLen ∧ WrL w A ws ∧ FitW ws := by
  rcases Deep.open_slice ht h with ⟨hcs, _⟩ | ⟨a, len, cap, m, k, D, Pl, hcs, _, hl, hm, hmm, _, hx⟩
  · injection hcs with hv _
    exact ⟨none, 0, 0, [], hv, rfl, by unfold maxLen; omega, fun i hi => by simp at hi, fun s hs => by simp at hs⟩
  · injection hcs with hv _
    have hlm : len ≤ m := by rw [hmm]; split <;> omega
    rw [hce] at hx
    obtain ⟨S, hS⟩ := Deep.choose_lt (n := len) (p := fun i (s : Int × ByteArray) => w.cell? ((a.add (i * 2)).add 0) = some (.int .i64 s.1) ∧ w.cell? ((a.add (i * 2)).add 1) = some (.string s.2) ∧ s.2.size ≤ maxLen) (fun i hi => by
      obtain ⟨cs, g1, g2⟩ := hx i (by omega)
      obtain ⟨_, hlen, hcell⟩ := World.cells?_some g1
      obtain ⟨y0, y1, q, _, _, g3, g4⟩ := trod_struct2 he g2
      rw [o0, c0] at g3
      rw [o1, c1] at g4
      obtain ⟨u0, u1, rfl⟩ : ∃ u0 u1, cs = [u0, u1] := by
        match cs, hlen with
        | [u0, u1], _ => exact ⟨u0, u1, rfl⟩
      obtain ⟨z, hz, _, _⟩ := DataW.trod_int h0 g3
      obtain ⟨s, hs, _, hsz⟩ := DataW.trod_string h1 g4
      simp at hz hs
      have k0 := hcell 0 (by omega)
      have k1 := hcell 1 (by omega)
      simp at k0 k1
      exact ⟨(z, s), by rw [k0, hz], by rw [k1, hs], hsz⟩)
    refine ⟨some a, len, cap, (List.range len).map S, hv, by simp, by omega, fun i hi => ?_, fun s hs => ?_⟩
    · have hi' : i < len := by simpa using hi
      have h0 := (hS 0 (by omega)).1
      have hsp := World.cell?_spot h0
      obtain ⟨b, off, spot⟩ := a
      have hsp' : spot = none := by simpa [Addr.add] using hsp
      subst hsp'
      refine ⟨b, off, rfl, ?_, ?_⟩
      · rw [getD_range len S _ i hi']
        have := (hS i hi').1
        rw [Deep.add_add] at this
        exact add_plain this rfl
      · rw [getD_range len S _ i hi']
        have := (hS i hi').2.1
        rw [Deep.add_add] at this
        have := add_plain (b := b) (off := off) this rfl
        rwa [← Nat.add_assoc] at this
    · obtain ⟨i, hi, rfl⟩ := List.mem_map.1 hs
      exact (hS i (by simpa using hi)).2.2

theorem open_ints64 {t e : TypeId} {fuel : Nat} {v : Value} {x : DataW H × List MemPlace} (ht : P.underlying t = some (.slice e)) (he : P.underlying e = some (.int .i64)) (hce : P.cellsOf e = 1)
    (h : DataW.trod enc P w 0 spare held fuel t [v] = some x) :
    ∃ A n c, ∃ zs : List Int, v = .slice A n c ∧ zs.length = n ∧ n ≤ maxLen ∧ IntL w A zs ∧ ∀ z ∈ zs, (Lit.int .i64 z).wf = true := by
  rcases Deep.open_slice1 ht hce h with ⟨hcs, _⟩ | ⟨a, len, cap, m, k, V, D, Pl, hcs, _, hl, hm, hmm, _, hx⟩
  · injection hcs with hv _
    exact ⟨none, 0, 0, [], hv, rfl, by unfold maxLen; omega, fun i hi => by simp at hi, fun s hs => by simp at hs⟩
  · injection hcs with hv _
    have hlm : len ≤ m := by rw [hmm]; split <;> omega
    obtain ⟨S, hS⟩ := Deep.choose_lt (n := len) (p := fun i (s : Int) => w.cell? (a.add i) = some (.int .i64 s) ∧ (Lit.int .i64 s).wf = true) (fun i hi => by
      obtain ⟨h1, h2⟩ := hx i (by omega)
      obtain ⟨s, hc, _, hs⟩ := DataW.trod_int he h2
      injection hc with hc _
      exact ⟨s, by rw [← hc]; exact h1, hs⟩)
    refine ⟨some a, len, cap, (List.range len).map S, hv, by simp, by omega, fun i hi => ?_, fun s hs => ?_⟩
    · have hi' : i < len := by simpa using hi
      have h0 := (hS 0 (by omega)).1
      have hsp := World.cell?_spot h0
      obtain ⟨b, off, spot⟩ := a
      have hsp' : spot = none := by simpa [Addr.add] using hsp
      subst hsp'
      exact ⟨b, off, rfl, by rw [getD_range len S _ i hi']; exact add_plain (hS i hi').1 rfl⟩
    · obtain ⟨i, hi, rfl⟩ := List.mem_map.1 hs
      exact (hS i (by simpa using hi)).2
end

set_option maxRecDepth 100000 in
theorem cellsStr : Try.prog.cellsOf 9 = 1 := by kernel_rfl
set_option maxRecDepth 100000 in
theorem cellsInt : Try.prog.cellsOf 3 = 1 := by kernel_rfl
set_option maxRecDepth 100000 in
theorem cellsLW : Try.prog.cellsOf 96 = 2 := by kernel_rfl
set_option maxRecDepth 100000 in
theorem cellsLD : Try.prog.cellsOf 25 = 2 := by kernel_rfl

set_option maxRecDepth 100000 in
/-- A disk that came in. -/
theorem open_disk {H : Type} {enc : TypeId × Value → H} {W : World} {r : Reach} {b0 : Nat} {v : Value} {d : DataW H} {p : List MemPlace}
    (hv : Value.okWide Try.prog W r b0 25 v) (h : DataW.Trod enc Try.prog W 0 (fun _ => true) true 25 v d p) :
    ∃ A n c C m e, ∃ (ss : List ByteArray) (ws : List (Int × ByteArray)), v = .agg #[.slice A n c, .slice C m e] ∧ ss.length = n ∧ ws.length = m ∧ n ≤ maxLen ∧ m ≤ maxLen ∧ StrL W A ss ∧ WrL W C ws ∧ FitS ss ∧ FitW ws := by
  obtain ⟨v0, v1, y0, y1, k, rfl, _, _, h0, h1⟩ := Joins.open_agg2 Try.underlying25 (by kernel_rfl) cellsLD hv h
  obtain ⟨A, n, c, ss, rfl, hl, hn, hs, fs⟩ := open_strs Try.underlying22 Try.underlying9 cellsStr h0
  obtain ⟨C, m, e, ws, rfl, hm, hmm, hw, fw⟩ := open_writes Try.underlying23 Try.underlying96 cellsLW Try.underlying3 Try.underlying9 cellsInt cellsStr rfl rfl h1
  exact ⟨A, n, c, C, m, e, ss, ws, rfl, hl, hm, hn, hmm, hs, hw, fs, fw⟩
end Go.Proofs.Ytlfmniekbiffjaa
