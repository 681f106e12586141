/- Contracts of firstRoot and of impl.Format. -/
import Derived.Test.YtcchhbkbnbphhaaM2
import Derived.Test.YtcchhbkbnbphhaaM7
import Derived.Test.YtcchhbkbnbphhaaReadSpec
import Derived.Test.YtcchhbkbnbphhaaM5
import Derived.Deep.RegionHeld3
namespace Go.Proofs.Ytcchhbkbnbphhaa
open Go.RowKit

def tab0 (k : Nat) : List Int := (List.range k).map fun i => ((2 + i : Nat) : Int)
theorem tab0_len (k : Nat) : (tab0 k).length = k := by simp [tab0]
theorem tab0_step (k : Nat) : tab0 (k + 1) = tab0 k ++ [((2 + k : Nat) : Int)] := by simp [tab0, List.range_succ]
theorem tab0_at (i : Nat) (h : i < 17) : (tab0 17).getD i 0 = ((2 + i : Nat) : Int) := by simp [tab0, List.getD_eq_getElem?_getD, h]
theorem tab0_in : ∀ z ∈ tab0 17, 0 ≤ z ∧ z ≤ 99 := fun z hz => by
  obtain ⟨i, hi, rfl⟩ := List.mem_map.1 hz
  have := List.mem_range.1 hi
  omega

set_option maxRecDepth 100000 in
set_option maxHeartbeats 2000000 in
theorem firstRoot (w : World) : Calls Try.prog 51 #[] w (GivesRoot 1 (tab0 17) w) := by
  obtain ⟨W0, hW0⟩ : ∃ W0, W0 = (w.alloc (.cells #[.int .i64 0, .slice none 0 0] 31)).alloc (.cells #[.int .i64 1, .slice none 0 0] 31) := ⟨_, rfl⟩
  have hb0 : Below w.heap.size w W0 := by rw [hW0]; exact bt (alloc_below _ _) (alloc_below _ _)
  have X0 : Hid (Box W0 w.heap.size 31 #[.int .i64 0, .slice none 0 0]) := Lib.hid (by rw [hW0]; exact (Box.new _ _ _).alloc _)
  have X1 : Hid (Box W0 (w.heap.size + 1) 31 #[.int .i64 1, .slice none 0 0]) := Lib.hid (by
    rw [hW0]; simpa using Box.new (w.alloc (.cells #[.int .i64 0, .slice none 0 0] 31)) 31 #[.int .i64 1, .slice none 0 0])
  have hs0 : w.heap.size + 2 ≤ W0.heap.size := by have := X1.out.lt; omega
  have HW0 := Lib.hid hW0
  clear hW0
  go_enter Try.func51, Try.ntmps51
  go_wp2
  rw [← HW0.out]
  clear HW0
  go_loopw [4] (fun i wr => ∃ (k : Nat) (A : Option Addr) (c : Nat), k ≤ 17 ∧ i = .int .i64 k ∧ Below w.heap.size w wr ∧ Hid (Box wr w.heap.size 31 #[.int .i64 0, .slice none 0 0]) ∧ Hid (Box wr (w.heap.size + 1) 31 #[.int .i64 1, .slice A k c]) ∧ Hid (GroI wr (w.heap.size + 2) (.slice A k c) (tab0 k)) ∧ k ≤ c ∧ w.heap.size + 2 ≤ wr.heap.size) (fun i _ => 17 - (intOf i).toNat)
  case atStart => exact ⟨0, none, 0, by omega, rfl, hb0, X0, X1, Lib.hid (rowv_nil _ _ _ _), Nat.le_refl _, hs0⟩
  case round =>
    clear hb0 X0 X1 hs0
    obtain ⟨k, A, c, hk, rfl, hbw, X0, X1, HG, hcap, hsz⟩ := hrel
    have f1 := X1.out.cell 1 rfl
    by_cases hlt : k < 17
    · have hi : (k : Int) < 17 := by omega
      have HRk : Hid (wr.ownsRow (w.heap.size + 2) 3 1 (.slice A k c) k ((tab0 k).map (Value.int .i64))) := Lib.hid (by have := HG.out; unfold GroI at this; rwa [tab0_len] at this)
      have HSt := Lib.hid (tab0_step k)
      have HLz := Lib.hid (tab0_len k)
      generalize tab0 k = zs at HRk HSt HLz
      rw [show ((2 + k : Nat) : Int) = 2 + (k : Int) by omega] at HSt
      have HBa : Hid (Below wr.heap.size wr (wr.alloc (.cells #[.int .i64 (2 + (k : Int))] 3))) := Lib.hid (alloc_below _ _)
      have HOw := Lib.hid (rowv_below HRk.out HBa.out)
      have HNw : Hid (∀ i u, [Value.int .i64 (2 + (k : Int))][i]? = some u → (wr.alloc (.cells #[.int .i64 (2 + (k : Int))] 3)).cell? ⟨wr.heap.size, i, none⟩ = some u) := Lib.hid (fun i u hi => by
        match i, hi with
        | 0, hi => simp at hi; subst hi; exact (Box.new wr 3 #[.int .i64 (2 + (k : Int))]).cell 0 rfl)
      clear HG
      go_wp2_with (at_builtin; refine wpList_app_one rfl (.tmp 8) (.tmp 11) 29 3 rfl (.int .i64 0) 1 8 elemInt Try.underlying29 (w.heap.size + 2) (.slice A k c) k (zs.map (Value.int .i64)) rfl ?hown wr.heap.size 1 rfl [.int .i64 (2 + (k : Int))] rfl ?hnews ?hone ?h63 ?hby ?hbase ?_)
      case hown => exact HOw.out
      case hnews => exact HNw.out
      case hone => intro u hu; simp at hu; subst hu; rfl
      case h63 => unfold maxLen; omega
      case hby => omega
      case hbase => simp; omega
      intro A2 c2 w2 hR2 hc2 hg2 hb2
      have HR2 := Lib.hid hR2
      have Y0 := Lib.hid ((X0.out.step HBa.out).below hb2 (by omega))
      have Y1 := Lib.hid ((X1.out.step HBa.out).below hb2 (by omega))
      have hbz : Below w.heap.size w w2 := (bt hbw HBa.out).trans (hb2.mono (by omega))
      have hs2 : w.heap.size + 2 ≤ w2.heap.size := Nat.le_trans (Nat.le_trans hsz HBa.out.size) hb2.size
      have y0 := Y1.out.cell 1 rfl
      have y1 := Y1.out.frozen 1
      have HRs := Lib.hid (rowv_setBox HR2.out Y1.out (by decide) 1 (.slice A2 (k + 1) c2))
      clear hR2 hb2 hg2 f1
      go_wp2
      go_roundw
      case rel => exact ⟨k + 1, A2, c2, by omega, by go_num, hbz.setCell (by show w.heap.size ≤ w.heap.size + 1; omega) _, Lib.hid (Y0.out.far (by show w.heap.size ≠ w.heap.size + 1; omega) _), Lib.hid (Y1.out.set 1 _), Lib.hid (by unfold GroI; rw [HSt.out, List.length_append, HLz.out, List.map_append]; exact HRs.out), hc2, by simpa [World.setCell] using hs2⟩
      case measure => simp [intOf]; omega
    · obtain rfl : k = 17 := by omega
      have y0 := X1.out.cell 0 rfl
      have y2 := X0.out.cell 0 rfl
      have y3 := X0.out.cell 1 rfl
      have y4 := X0.out.frozen 0
      have y5 := X0.out.frozen 1
      go_wp2
      refine bodyPost_ret (v := .agg #[.int .i64 1, .slice A 17 c]) (by simp [results, Try.results51, go_sem, y2, y3]) rfl ?_
      refine ⟨_, _, _, rfl, Lib.hid (tab0_len _), Lib.hid ?_, hcap, below_st2 hbw (Nat.le_refl _) _ _⟩
      exact ((HG.out.own (lo := w.heap.size) (by omega)).two X0.out (by decide) _ _).wide (Nat.le_refl _) (by simp [World.setCell])

def fmtN (ps : List ByteArray) : Nat → List ByteArray
  | 0 => newSs
  | k + 1 => (fmtN ps k).set (2 + k) (ps.getD k ByteArray.empty)
theorem fmtN_len (ps : List ByteArray) : ∀ k, (fmtN ps k).length = 48
  | 0 => newSs_len
  | k + 1 => by rw [fmtN, List.length_set, fmtN_len ps k]
def fmtL (ps : List ByteArray) : List ByteArray := (fmtN ps 17).set 0 (rootTx 1 (tab0 17))
theorem fmtL_len (ps : List ByteArray) : (fmtL ps).length = 48 := by unfold fmtL; rw [List.length_set, fmtN_len]
def fmtS (ps : List ByteArray) : List ByteArray := if pagesC ps = 0 then fmtL ps else []

theorem ownS_row {w : World} {lo hi : Nat} {A : Option Addr} {ss : List ByteArray} (h : OwnS w lo hi A ss) (hn : 0 < ss.length) : ∃ b m, A = some ⟨b, 0, none⟩ ∧ lo ≤ b ∧ b < hi ∧ RowS w b ss.length m ss := by
  rcases h with e | ⟨b, m, f, e, h1, h2, hm, hr, hf⟩
  · subst e; simp at hn
  · exact ⟨b, m, e, h1, h2, rfl, hm, f, hr, hf⟩
theorem RowS.boxFar {w : World} {b n m B : Nat} {l : List ByteArray} {cs : Array Value} {t : TypeId} (h : RowS w b n m l) (X : Box w B t cs) (ht : t ≠ 9) : b ≠ B := by
  obtain ⟨_, _, f, hr, _⟩ := h
  exact (X.ne hr ht).symm

set_option maxRecDepth 100000 in
set_option maxHeartbeats 4000000 in
theorem implFormat (A : Option Addr) (n c : Nat) (ps : List ByteArray) (w : World) (hl : ps.length = n) (hn : n ≤ maxLen) (h : StrL w A ps) (fs : FitS ps) :
    Calls Try.prog 22 #[.slice A n c] w (GivesDiskCode (fmtS ps) [] (pagesC ps) w) := by
  have hb0 := alloc_below w (.cells #[.slice none 0 0, .slice none 0 0] 26)
  have X0 := Lib.hid (Box.new w 26 #[.slice none 0 0, .slice none 0 0])
  have HP := Lib.hid (checkPages A n c ps _ hl hn (h.below hb0) fs)
  by_cases hc : pagesC ps = 0
  · have h17 : n = 17 := by
      unfold pagesC at hc
      split at hc
      · omega
      · split at hc
        · omega
        · rename_i q; omega
    subst h17
    have HS : Hid (fmtS ps = fmtL ps) := Lib.hid (by unfold fmtS; rw [if_pos hc])
    have HFl := Lib.hid (show fmtL ps = (fmtN ps 17).set 0 (rootTx 1 (tab0 17)) from rfl)
    have HFn := Lib.hid (show ∀ k, fmtN ps (k + 1) = (fmtN ps k).set (2 + k) (ps.getD k ByteArray.empty) from fun k => rfl)
    have HF0 := Lib.hid (show fmtN ps 0 = newSs from rfl)
    have HFk := Lib.hid (fmtN_len ps)
    generalize fmtN ps = FN at HFl HFn HF0 HFk
    generalize fmtL ps = FL at HS HFl
    have H := Lib.hid h
    have HL := Lib.hid hl
    have HC := Lib.hid hc
    rw [hc] at HP
    clear hl hn h fs hc
    go_enter Try.func22, Try.ntmps22
    go_wp2_with fail
    refine HP.out.mono ?_
    rintro e w' ⟨rfl, rfl⟩
    go_wp2_with fail
    generalize w.alloc (.cells #[.slice none 0 0, .slice none 0 0] 26) = W0 at hb0 X0 ⊢
    refine (implNew W0).mono ?_
    rintro e w1 ⟨A1, n1, c1, C1, m1, d1, rfl, L1, M1, S1, R1, hb1⟩
    go_wp2_with fail
    refine (firstRoot w1).mono ?_
    rintro e w2 ⟨T, tn, tc, rfl, LT, OT, hcap, hb2⟩
    obtain rfl : 17 = tn := by have := LT.out; rw [tab0_len] at this; exact this
    obtain rfl : 48 = n1 := by have := L1.out; rw [newSs_len] at this; exact this
    obtain ⟨gb, mm, rfl, hg1, hg2, HRS⟩ := ownS_row S1.out (by rw [newSs_len]; omega)
    rw [newSs_len] at HRS
    have k3 := bt (alloc_below w2 (.cells #[.slice (some ⟨gb, 0, none⟩) 48 c1, .slice C1 m1 d1] 26)) (alloc_below _ (.cells #[.int .i64 1, .slice T 17 tc] 31))
    obtain ⟨W3, hW3⟩ : ∃ W3, W3 = (w2.alloc (.cells #[.slice (some ⟨gb, 0, none⟩) 48 c1, .slice C1 m1 d1] 26)).alloc (.cells #[.int .i64 1, .slice T 17 tc] 31) := ⟨_, rfl⟩
    rw [← hW3] at k3
    have Y0 := Lib.hid (X0.out.step (bt (bt hb1 hb2) k3))
    have XD : Hid (Box W3 w2.heap.size 26 #[.slice (some ⟨gb, 0, none⟩) 48 c1, .slice C1 m1 d1]) := Lib.hid (by rw [hW3]; exact (Box.new _ _ _).alloc _)
    have XR : Hid (Box W3 (w2.heap.size + 1) 31 #[.int .i64 1, .slice T 17 tc]) := Lib.hid (by rw [hW3]; simpa using Box.new (w2.alloc (.cells #[.slice (some ⟨gb, 0, none⟩) 48 c1, .slice C1 m1 d1] 26)) 31 #[.int .i64 1, .slice T 17 tc])
    have HR3 := Lib.hid (HRS.below (bt hb2 k3))
    have OT3 := Lib.hid (OT.out.below k3)
    have hb3 : Below w.heap.size w W3 := bt (bt (bt hb0 hb1) hb2) k3
    have HZ : Hid (w.heap.size < W0.heap.size ∧ W0.heap.size ≤ gb ∧ gb < w1.heap.size ∧ w1.heap.size ≤ w2.heap.size) := Lib.hid ⟨X0.out.lt, hg1, hg2, hb2.size⟩
    have HW3 := Lib.hid hW3
    clear hW3 k3 hb0 hb1 hb2 HRS OT X0 hg1 hg2 S1 L1 HP
    go_wp2
    rw [← HW3.out]
    clear HW3
    go_loopw [20] (fun i wr => ∃ k : Nat, k ≤ 17 ∧ i = .int .i64 k ∧ Below w.heap.size w wr ∧ Hid (Box wr w.heap.size 26 #[.slice none 0 0, .slice none 0 0]) ∧ Hid (Box wr w2.heap.size 26 #[.slice (some ⟨gb, 0, none⟩) 48 c1, .slice C1 m1 d1]) ∧ Hid (Box wr (w2.heap.size + 1) 31 #[.int .i64 1, .slice T 17 tc]) ∧ Hid (RowS wr gb 48 mm (FN k)) ∧ Hid (OwnI wr w1.heap.size w2.heap.size T (tab0 17))) (fun i _ => 17 - (intOf i).toNat)
    case atStart => exact ⟨0, by omega, rfl, hb3, Y0, XD, XR, by rw [HF0.out]; exact HR3, OT3⟩
    case round =>
      clear hb3 Y0 XD XR HR3 OT3
      obtain ⟨k, hk, rfl, hbw, Y0, XD, XR, HR, OT⟩ := hrel
      by_cases hlt : k < 17
      · obtain ⟨pb, poff, rfl, hc⟩ := (H.out.below hbw) k (by rw [HL.out]; exact hlt)
        obtain ⟨tb, toff, rfl, ht⟩ := OT.out.reads k (by rw [tab0_len]; exact hlt)
        rw [tab0_at k hlt] at ht
        have HFk1 := Lib.hid (HFn.out k)
        generalize ps.getD k ByteArray.empty = s at hc HFk1
        have hp48 : 2 + k < 48 := by omega
        have hcd := HR.out.cell hp48
        have hfr := HR.out.frozen (2 + k)
        have hne := HR.out.boxFar XD.out (by decide)
        have hne2 := HR.out.boxFar XR.out (by decide)
        have hne3 := HR.out.boxFar Y0.out (by decide)
        have f0 := XD.out.cell 0 rfl
        have HRs := Lib.hid ((HR.out.below (Below.refl _ _).drew).set hp48 s)
        have HXs := Lib.hid ((Y0.out.drew).far (p := ⟨gb, 2 + k, none⟩) (Ne.symm hne3) (.string s))
        have HDs := Lib.hid ((XD.out.drew).far (p := ⟨gb, 2 + k, none⟩) (Ne.symm hne) (.string s))
        have HTs := Lib.hid ((XR.out.drew).far (p := ⟨gb, 2 + k, none⟩) (Ne.symm hne2) (.string s))
        have HBs := Lib.hid (hbw.drew.setCell (p := ⟨gb, 2 + k, none⟩) (by show w.heap.size ≤ gb; have := HZ.out; omega) (.string s))
        have HOs : Hid (OwnI (wr.drew.setCell ⟨gb, 2 + k, none⟩ (.string s)) w1.heap.size w2.heap.size (some ⟨tb, toff, none⟩) (tab0 17)) := Lib.hid (by
          refine (show OwnI wr.drew w1.heap.size w2.heap.size (some ⟨tb, toff, none⟩) (tab0 17) from OT.out).btw ((Btw.refl gb (gb + 1) wr.drew).setCell (p := ⟨gb, 2 + k, none⟩) (Nat.le_refl _) (Nat.lt_succ_self _) (.string s)) (.inr ?_)
          have := HZ.out; omega)
        generalize hq : 2 + k = q at hcd hfr HRs HXs HDs HTs HBs HOs ht hp48
        have HQ := Lib.hid hq
        generalize (FN k).getD q ByteArray.empty = y at hcd
        have hi : (k : Int) < 17 := by omega
        have hi0 : (0 : Int) ≤ (k : Int) := by omega
        have hq1 : (q : Int) < 48 := by omega
        have hq0 : (0 : Int) ≤ (q : Int) := by omega
        clear hq hne hne2 hne3 XD XR Y0 HR OT
        go_wp2
        go_still_tail 8, (by kernel_rfl)
        change wpList _ _ _ _ _ wr.drew
        go_wp2
        go_roundw
        case rel => exact ⟨k + 1, by omega, by go_num, HBs.out, HXs, HDs, HTs, by rw [HFk1.out, HQ.out]; exact HRs, HOs⟩
        case measure => simp [intOf]; omega
      · obtain rfl : k = 17 := by omega
        have HTx := Lib.hid (fun W hW => rootText 1 T 17 tc (tab0 17) W (tab0_len _) (by omega) (by omega) tab0_in hW)
        have HFL := Lib.hid HFl.out
        generalize rootTx 1 (tab0 17) = rt at HTx HFL
        have hne := HR.out.boxFar XD.out (by decide)
        have hne2 := HR.out.boxFar XR.out (by decide)
        have hne3 := HR.out.boxFar Y0.out (by decide)
        have f0 := XD.out.cell 0 rfl
        have f1 := XR.out.cell 0 rfl
        have f2 := XR.out.cell 1 rfl
        have h6 : Below wr.heap.size wr wr.drew := (Below.refl _ _).drew
        have HIr := Lib.hid OT.out.reads
        have HK : Hid (∀ W', Below wr.heap.size wr W' → W'.cell? ⟨w2.heap.size, 0, none⟩ = some (.slice (some ⟨gb, 0, none⟩) 48 c1) ∧ W'.cell? ⟨w2.heap.size + 1, 0, none⟩ = some (.int .i64 1) ∧ W'.cell? ⟨w2.heap.size + 1, 1, none⟩ = some (.slice T 17 tc)) := Lib.hid (fun W' hb => ⟨(XD.out.step hb).cell 0 rfl, (XR.out.step hb).cell 0 rfl, (XR.out.step hb).cell 1 rfl⟩)
        have HK2 : Hid (∀ W', Below wr.heap.size wr W' → (W'.setCell ⟨gb, 0, none⟩ (.string rt)).cell? ⟨w2.heap.size, 0, none⟩ = some (.slice (some ⟨gb, 0, none⟩) 48 c1) ∧ (W'.setCell ⟨gb, 0, none⟩ (.string rt)).cell? ⟨w2.heap.size + 1, 0, none⟩ = some (.int .i64 1) ∧ (W'.setCell ⟨gb, 0, none⟩ (.string rt)).cell? ⟨w2.heap.size + 1, 1, none⟩ = some (.slice T 17 tc)) := Lib.hid (fun W' hb => ⟨((XD.out.step hb).far (p := ⟨gb, 0, none⟩) (Ne.symm hne) _).cell 0 rfl, ((XR.out.step hb).far (p := ⟨gb, 0, none⟩) (Ne.symm hne2) _).cell 0 rfl, ((XR.out.step hb).far (p := ⟨gb, 0, none⟩) (Ne.symm hne2) _).cell 1 rfl⟩)
        go_wp2
        go_region_held3 (fun W' => W'.cell? ⟨w2.heap.size, 0, none⟩ = some (.slice (some ⟨gb, 0, none⟩) 48 c1) ∧ W'.cell? ⟨w2.heap.size + 1, 0, none⟩ = some (.int .i64 1) ∧ W'.cell? ⟨w2.heap.size + 1, 1, none⟩ = some (.slice T 17 tc))
          (first | exact HK.out _ h6 | exact HK.out _ k5 | exact HK2.out _ k5)
          (first | (go_at_call 52; refine (HTx.out wr.drew ?_).mono ?_; exact HIr.out; rintro e w5 ⟨rfl, hb5⟩; have k5 := bt h6 hb5; have R5 := Lib.hid (HR.out.below k5); have z0 := R5.out.cell (p := 0) (by omega); have z1 := R5.out.frozen 0))
        have RS := Lib.hid (R5.out.set (p := 0) (by omega) rt)
        have V0 := Lib.hid ((Y0.out.step k5).far (p := ⟨gb, 0, none⟩) (Ne.symm hne3) (.string rt))
        have VD := Lib.hid ((XD.out.step k5).far (p := ⟨gb, 0, none⟩) (Ne.symm hne) (.string rt))
        have hbz : Below w.heap.size w (w5.setCell ⟨gb, 0, none⟩ (.string rt)) := (bt hbw k5).setCell (p := ⟨gb, 0, none⟩) (by show w.heap.size ≤ gb; have := HZ.out; omega) _
        have HGL : Hid (gb < (w5.setCell ⟨gb, 0, none⟩ (.string rt)).heap.size) := Lib.hid RS.out.lt
        generalize w5.setCell ⟨gb, 0, none⟩ (.string rt) = w6 at RS V0 VD hbz HGL ⊢
        have y0 := VD.out.cell 0 rfl
        have y1 := VD.out.cell 1 rfl
        have y2 := V0.out.cell 0 rfl
        have y3 := V0.out.cell 1 rfl
        have y4 := V0.out.frozen 0
        have y5 := V0.out.frozen 1
        clear f0 f1 f2 z0 z1 h6 HK HK2 hb5 k5
        go_wp2
        refine bodyPost_ret (v := .tuple #[.agg #[.slice (some ⟨gb, 0, none⟩) 48 c1, .slice C1 m1 d1], .int .i64 0]) (by simp [results, Try.results22, go_sem, y2, y3]) rfl ?_
        rw [HS.out, HC.out]
        refine ⟨_, _, _, _, _, _, rfl, Lib.hid (by rw [HFL.out, List.length_set, HFk.out]), M1, Lib.hid ?_, Lib.hid (.inl rfl), below_st2 hbz (Nat.le_refl _) _ _⟩
        rw [HFL.out]
        refine ((RS.out.far (a := ⟨w.heap.size, 0, none⟩) hne3 _).far (a := ⟨w.heap.size, 1, none⟩) hne3 _).own (by have := HZ.out; omega) ?_
        have := HGL.out
        simpa [World.setCell] using this
  · have hcb : (pagesC ps != 0) = true := by simp [hc]
    have HS : Hid (fmtS ps = []) := Lib.hid (by unfold fmtS; rw [if_neg hc])
    rw [HS.out]
    generalize pagesC ps = code at HP hcb
    clear hl hn h fs hc
    go_enter Try.func22, Try.ntmps22
    go_wp2_with fail
    refine HP.out.mono ?_
    rintro e w' ⟨rfl, rfl⟩
    go_wp2
    refine bodyPost_ret (v := .tuple #[.agg #[.slice none 0 0, .slice none 0 0], .int .i64 code]) (by simp [results, Try.results22, go_sem]) rfl ?_
    exact gives_none hb0
end Go.Proofs.Ytcchhbkbnbphhaa
