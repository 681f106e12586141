/- Contracts of l02Format and of spec.Format. -/
import Derived.Test.YtoogaaoknpfkoaaFormatImpl
namespace Go.Proofs.Ytoogaaoknpfkoaa
open Go.RowKit

theorem RowS.since {w w' : World} {b n m B : Nat} {l : List ByteArray} (h : RowS w b n m l) (hb : Below B w w') (hB : b < B) : RowS w' b n m l := by
  obtain ⟨h1, h2, f, hr, hf⟩ := h
  exact ⟨h1, h2, f, row_below hb hr hB, hf⟩

set_option maxRecDepth 100000 in
set_option maxHeartbeats 4000000 in
theorem l02Format (A : Option Addr) (c : Nat) (ps : List ByteArray) (w : World) (hl : ps.length = 17) (h : StrL w A ps) :
    Calls Try.prog 107 #[.slice A 17 c] w (GivesDisk (fmtL ps) [] w) := by
  have hb0 := alloc_below w (.cells #[.slice none 0 0, .slice none 0 0] 26)
  have X0 := Lib.hid (Box.new w 26 #[.slice none 0 0, .slice none 0 0])
  have HFl := Lib.hid (show fmtL ps = (fmtN ps 17).set 0 (rootTx 1 (tab0 17)) from rfl)
  have HFn := Lib.hid (show ∀ k, fmtN ps (k + 1) = (fmtN ps k).set (2 + k) (ps.getD k ByteArray.empty) from fun k => rfl)
  have HF0 := Lib.hid (show fmtN ps 0 = newSs from rfl)
  have HFk := Lib.hid (fmtN_len ps)
  generalize fmtN ps = FN at HFl HFn HF0 HFk
  generalize fmtL ps = FL at HFl
  have H := Lib.hid h
  have HL := Lib.hid hl
  clear hl h
  go_enter Try.func107, Try.ntmps107
  go_wp2_with fail
  generalize w.alloc (.cells #[.slice none 0 0, .slice none 0 0] 26) = W0 at hb0 X0 ⊢
  refine (specNew W0).mono ?_
  rintro e w1 ⟨A1, n1, c1, C1, m1, d1, rfl, L1, M1, S1, R1, hb1⟩
  obtain rfl : 48 = n1 := by have := L1.out; rw [newSs_len] at this; exact this
  obtain ⟨gb, mm, rfl, hg1, hg2, HRS⟩ := ownS_row S1.out (by rw [newSs_len]; omega)
  rw [newSs_len] at HRS
  obtain ⟨W3, hW3⟩ : ∃ W3, W3 = ((w1.alloc (.cells #[.slice (some ⟨gb, 0, none⟩) 48 c1, .slice C1 m1 d1] 26)).alloc (.cells #[] 3)).alloc (.cells #[.int .i64 1, .slice (some ⟨w1.heap.size + 1, 0, none⟩) 0 0] 57) := ⟨_, rfl⟩
  have k3 : Below w1.heap.size w1 W3 := by rw [hW3]; exact bt (bt (alloc_below _ _) (alloc_below _ _)) (alloc_below _ _)
  have Y0 := Lib.hid (X0.out.step (bt hb1 k3))
  have XD : Hid (Box W3 w1.heap.size 26 #[.slice (some ⟨gb, 0, none⟩) 48 c1, .slice C1 m1 d1]) := Lib.hid (by rw [hW3]; exact ((Box.new _ _ _).alloc _).alloc _)
  have XE : Hid (Box W3 (w1.heap.size + 1) 3 #[]) := Lib.hid (by
    rw [hW3]; exact (by simpa using Box.new (w1.alloc (.cells #[.slice (some ⟨gb, 0, none⟩) 48 c1, .slice C1 m1 d1] 26)) 3 #[] : Box ((w1.alloc (.cells #[.slice (some ⟨gb, 0, none⟩) 48 c1, .slice C1 m1 d1] 26)).alloc (.cells #[] 3)) (w1.heap.size + 1) 3 #[]).alloc _)
  have XR : Hid (Box W3 (w1.heap.size + 1 + 1) 57 #[.int .i64 1, .slice (some ⟨w1.heap.size + 1, 0, none⟩) 0 0]) := Lib.hid (by rw [hW3]; simpa using Box.new ((w1.alloc (.cells #[.slice (some ⟨gb, 0, none⟩) 48 c1, .slice C1 m1 d1] 26)).alloc (.cells #[] 3)) 57 #[.int .i64 1, .slice (some ⟨w1.heap.size + 1, 0, none⟩) 0 0])
  have HR3 := Lib.hid (HRS.below k3)
  have hb3 : Below w.heap.size w W3 := bt (bt hb0 hb1) k3
  have HZ : Hid (w.heap.size < W0.heap.size ∧ W0.heap.size ≤ gb ∧ gb < w1.heap.size) := Lib.hid ⟨X0.out.lt, hg1, hg2⟩
  have hs3 : w1.heap.size + 3 ≤ W3.heap.size := by have := XR.out.lt; omega
  have HW3 := Lib.hid hW3
  clear hW3 k3 hb0 hb1 HRS X0 hg1 hg2 S1 L1
  go_wp2
  rw [← HW3.out]
  clear HW3
  go_loopw [5] (fun i wr => ∃ (k : Nat) (T : Option Addr) (tc : Nat), k ≤ 17 ∧ i = .int .i64 k ∧ Below w.heap.size w wr ∧ Hid (Box wr w.heap.size 26 #[.slice none 0 0, .slice none 0 0]) ∧ Hid (Box wr w1.heap.size 26 #[.slice (some ⟨gb, 0, none⟩) 48 c1, .slice C1 m1 d1]) ∧ Hid (Box wr (w1.heap.size + 1 + 1) 57 #[.int .i64 1, .slice T k tc]) ∧ Hid (RowS wr gb 48 mm (FN k)) ∧ Hid (GroI wr (w1.heap.size + 1) (.slice T k tc) (tab0 k)) ∧ w1.heap.size + 3 ≤ wr.heap.size) (fun i _ => 17 - (intOf i).toNat)
  case atStart => exact ⟨0, _, 0, by omega, rfl, hb3, Y0, XD, XR, by rw [HF0.out]; exact HR3, Lib.hid (rowv_empty (Nat.le_refl _) XE.out), hs3⟩
  case round =>
    clear hb3 Y0 XD XR XE HR3 hs3
    obtain ⟨k, T, tc, hk, rfl, hbw, Y0, XD, XR, HR, HG, hsz⟩ := hrel
    by_cases hlt : k < 17
    · obtain ⟨pb, poff, rfl, hc⟩ := (H.out.below hbw) k (by rw [HL.out]; exact hlt)
      have HFk1 := Lib.hid (HFn.out k)
      generalize ps.getD k ByteArray.empty = s at hc HFk1
      have hp48 : 2 + k < 48 := by omega
      have hcd := HR.out.cell hp48
      have hfr := HR.out.frozen (2 + k)
      have hne := HR.out.boxFar XD.out (by decide)
      have hne2 := HR.out.boxFar XR.out (by decide)
      have hne3 := HR.out.boxFar Y0.out (by decide)
      have f0 := XD.out.cell 0 rfl
      have HRs := Lib.hid ((HR.out.below (Below.refl _ _).drew).set hp48 s)
      have HXs := Lib.hid ((Y0.out.drew).far (p := ⟨gb, 2 + k, none⟩) (Ne.symm hne3) (.string s))
      have HDs := Lib.hid ((XD.out.drew).far (p := ⟨gb, 2 + k, none⟩) (Ne.symm hne) (.string s))
      have HTs := Lib.hid ((XR.out.drew).far (p := ⟨gb, 2 + k, none⟩) (Ne.symm hne2) (.string s))
      have HBs := Lib.hid (hbw.drew.setCell (p := ⟨gb, 2 + k, none⟩) (by show w.heap.size ≤ gb; have := HZ.out; omega) (.string s))
      have HRk : Hid ((wr.drew.setCell ⟨gb, 2 + k, none⟩ (.string s)).ownsRow (w1.heap.size + 1) 3 1 (.slice T k tc) k ((tab0 k).map (Value.int .i64))) := Lib.hid (by
        have := HG.out; unfold GroI at this; rw [tab0_len] at this
        exact rowv_set (show wr.drew.ownsRow _ _ _ _ _ _ from this) (p := ⟨gb, 2 + k, none⟩) (by show gb < w1.heap.size + 1; have := HZ.out; omega) _)
      have hs4 : w1.heap.size + 3 ≤ (wr.drew.setCell ⟨gb, 2 + k, none⟩ (.string s)).heap.size := by simpa [World.setCell] using hsz
      have HSw : Hid (w1.heap.size + 3 ≤ wr.heap.size) := Lib.hid hsz
      have HSt := Lib.hid (tab0_step k)
      have HLz := Lib.hid (tab0_len k)
      generalize tab0 k = zs at HRk HSt HLz
      rw [show ((2 + k : Nat) : Int) = 2 + (k : Int) by omega] at HSt
      have p4 : (2 + (k : Int)).toNat = 2 + k := by omega
      have p1 : (0 : Int) ≤ 2 + (k : Int) := by omega
      have p2 : 2 + (k : Int) < 48 := by omega
      have e1 : IntKind.i64.wrap (2 + (k : Int)) = 2 + (k : Int) := IntWalk.i64_in _ (by omega)
      generalize (FN k).getD (2 + k) ByteArray.empty = y at hcd
      have hi : (k : Int) < 17 := by omega
      have hi0 : (0 : Int) ≤ (k : Int) := by omega
      have f1 : (wr.setCell ⟨gb, 2 + k, none⟩ (.string s)).drew.cell? ⟨w1.heap.size + 1 + 1, 1, none⟩ = some (.slice T k tc) := HTs.out.cell 1 rfl
      have HBa : Hid (Below wr.heap.size (wr.drew.setCell ⟨gb, 2 + k, none⟩ (.string s)) ((wr.drew.setCell ⟨gb, 2 + k, none⟩ (.string s)).alloc (.cells #[.int .i64 (2 + (k : Int))] 3))) := Lib.hid (by have := alloc_below (wr.drew.setCell ⟨gb, 2 + k, none⟩ (.string s)) (.cells #[.int .i64 (2 + (k : Int))] 3); simpa [World.setCell] using this)
      have HSz : Hid ((wr.drew.setCell ⟨gb, 2 + k, none⟩ (.string s)).heap.size = wr.heap.size) := Lib.hid (by simp [World.setCell])
      have HOw := Lib.hid (rowv_below HRk.out (by have := HBa.out; rwa [← HSz.out] at this))
      have HNw : Hid (∀ i u, [Value.int .i64 (2 + (k : Int))][i]? = some u → ((wr.drew.setCell ⟨gb, 2 + k, none⟩ (.string s)).alloc (.cells #[.int .i64 (2 + (k : Int))] 3)).cell? ⟨wr.heap.size, i, none⟩ = some u) := Lib.hid (fun i u hi => by
        match i, hi with
        | 0, hi => simp at hi; subst hi; have := (Box.new (wr.drew.setCell ⟨gb, 2 + k, none⟩ (.string s)) 3 #[.int .i64 (2 + (k : Int))]).cell 0 rfl; rwa [HSz.out] at this)
      clear hne hne2 hne3 XD XR Y0 HR HG
      go_wp2
      go_still_tail 9, (by kernel_rfl)
      change wpList _ _ _ _ _ wr.drew
      go_wp2_with (at_builtin; refine wpList_app_one rfl (.tmp 23) (.tmp 26) 36 3 rfl (.int .i64 0) 1 8 elemInt Try.underlying36 (w1.heap.size + 1) (.slice T k tc) k (zs.map (Value.int .i64)) rfl ?hown wr.heap.size 1 rfl [.int .i64 (2 + (k : Int))] rfl ?hnews ?hone ?h63 ?hby ?hbase ?_)
      case hown => exact HOw.out
      case hnews => exact HNw.out
      case hone => intro u hu; simp at hu; subst hu; rfl
      case h63 => unfold maxLen; omega
      case hby => omega
      case hbase => clear e1; simp [World.setCell]; have := HSw.out; omega
      intro A2 c2 w2 hR2 hc2 hg2 hb2
      have hb2' : Below (w1.heap.size + 1) ((wr.drew.setCell ⟨gb, 2 + k, none⟩ (.string s)).alloc (.cells #[.int .i64 (2 + (k : Int))] 3)) w2 := hb2
      have hba' : Below (w1.heap.size + 1) (wr.drew.setCell ⟨gb, 2 + k, none⟩ (.string s)) ((wr.drew.setCell ⟨gb, 2 + k, none⟩ (.string s)).alloc (.cells #[.int .i64 (2 + (k : Int))] 3)) := HBa.out.mono (by have := HSw.out; clear e1; omega)
      have hbx := hba'.trans hb2'
      have HR2 := Lib.hid hR2
      have V0 := Lib.hid (HXs.out.below hbx (by have := HZ.out; omega))
      have VD := Lib.hid (HDs.out.below hbx (by omega))
      have VR := Lib.hid ((HTs.out.below HBa.out (by have := HSw.out; clear e1; omega)).grown HOw.out (by decide) hg2)
      have VS := Lib.hid (HRs.out.since hbx (by have := HZ.out; omega))
      have hbz : Below w.heap.size w w2 := HBs.out.trans (hbx.mono (by have := HZ.out; omega))
      have hs2 : w1.heap.size + 3 ≤ w2.heap.size := Nat.le_trans hs4 hbx.size
      have y0 := VR.out.cell 1 rfl
      have y1 := VR.out.frozen 1
      have HRs2 := Lib.hid (rowv_setBox HR2.out VR.out (by decide) 1 (.slice A2 (k + 1) c2))
      clear hR2 hb2 hb2' hba' hbx hg2 f1 f0 hc hcd hfr p1 p2 p4 e1
      go_wp2
      go_roundw
      case rel =>
        refine ⟨k + 1, A2, c2, by omega, by go_num, hbz.setCell (by show w.heap.size ≤ w1.heap.size + 1 + 1; have := HZ.out; omega) _, Lib.hid (V0.out.far (by show w.heap.size ≠ w1.heap.size + 1 + 1; have := HZ.out; omega) _), Lib.hid (VD.out.far (by show w1.heap.size ≠ w1.heap.size + 1 + 1; omega) _), Lib.hid (VR.out.set 1 _), Lib.hid ?_, Lib.hid ?_, by simpa [World.setCell] using hs2⟩
        · rw [HFk1.out]; exact VS.out.far (a := ⟨w1.heap.size + 1 + 1, 1, none⟩) (by show gb ≠ w1.heap.size + 1 + 1; have := HZ.out; omega) _
        · unfold GroI; rw [HSt.out, List.length_append, HLz.out, List.map_append]; exact HRs2.out
      case measure => simp [intOf]; omega
    · obtain rfl : k = 17 := by omega
      have HTx := Lib.hid (fun W hW => l02Text 1 T 17 tc (tab0 17) W (tab0_len _) (by omega) (by omega) tab0_in hW)
      have HFL := Lib.hid HFl.out
      generalize rootTx 1 (tab0 17) = rt at HTx HFL
      have hne := HR.out.boxFar XD.out (by decide)
      have hne2 := HR.out.boxFar XR.out (by decide)
      have hne3 := HR.out.boxFar Y0.out (by decide)
      have f0 := XD.out.cell 0 rfl
      have f1 := XR.out.cell 0 rfl
      have f2 := XR.out.cell 1 rfl
      have h6 : Below wr.heap.size wr wr.drew := (Below.refl _ _).drew
      have HIr := Lib.hid ((HG.out.own (lo := w1.heap.size) (by omega)).reads)
      have HK : Hid (∀ W', Below wr.heap.size wr W' → W'.cell? ⟨w1.heap.size, 0, none⟩ = some (.slice (some ⟨gb, 0, none⟩) 48 c1) ∧ W'.cell? ⟨w1.heap.size + 1 + 1, 0, none⟩ = some (.int .i64 1) ∧ W'.cell? ⟨w1.heap.size + 1 + 1, 1, none⟩ = some (.slice T 17 tc)) := Lib.hid (fun W' hb => ⟨(XD.out.step hb).cell 0 rfl, (XR.out.step hb).cell 0 rfl, (XR.out.step hb).cell 1 rfl⟩)
      have HK2 : Hid (∀ W', Below wr.heap.size wr W' → (W'.setCell ⟨gb, 0, none⟩ (.string rt)).cell? ⟨w1.heap.size, 0, none⟩ = some (.slice (some ⟨gb, 0, none⟩) 48 c1) ∧ (W'.setCell ⟨gb, 0, none⟩ (.string rt)).cell? ⟨w1.heap.size + 1 + 1, 0, none⟩ = some (.int .i64 1) ∧ (W'.setCell ⟨gb, 0, none⟩ (.string rt)).cell? ⟨w1.heap.size + 1 + 1, 1, none⟩ = some (.slice T 17 tc)) := Lib.hid (fun W' hb => ⟨((XD.out.step hb).far (p := ⟨gb, 0, none⟩) (Ne.symm hne) _).cell 0 rfl, ((XR.out.step hb).far (p := ⟨gb, 0, none⟩) (Ne.symm hne2) _).cell 0 rfl, ((XR.out.step hb).far (p := ⟨gb, 0, none⟩) (Ne.symm hne2) _).cell 1 rfl⟩)
      go_wp2
      go_region_held3 (fun W' => W'.cell? ⟨w1.heap.size, 0, none⟩ = some (.slice (some ⟨gb, 0, none⟩) 48 c1) ∧ W'.cell? ⟨w1.heap.size + 1 + 1, 0, none⟩ = some (.int .i64 1) ∧ W'.cell? ⟨w1.heap.size + 1 + 1, 1, none⟩ = some (.slice T 17 tc))
        (first | exact HK.out _ h6 | exact HK.out _ k5 | exact HK2.out _ k5)
        (first | (go_at_call 101; refine (HTx.out wr.drew ?_).mono ?_; exact HIr.out; rintro e w5 ⟨rfl, hb5⟩; have k5 := bt h6 hb5; have R5 := Lib.hid (HR.out.below k5); have z0 := R5.out.cell (p := 0) (by omega); have z1 := R5.out.frozen 0))
      have RS := Lib.hid (R5.out.set (p := 0) (by omega) rt)
      have V0 := Lib.hid ((Y0.out.step k5).far (p := ⟨gb, 0, none⟩) (Ne.symm hne3) (.string rt))
      have VD := Lib.hid ((XD.out.step k5).far (p := ⟨gb, 0, none⟩) (Ne.symm hne) (.string rt))
      have hbz : Below w.heap.size w (w5.setCell ⟨gb, 0, none⟩ (.string rt)) := (bt hbw k5).setCell (p := ⟨gb, 0, none⟩) (by show w.heap.size ≤ gb; have := HZ.out; omega) _
      have HGL : Hid (gb < (w5.setCell ⟨gb, 0, none⟩ (.string rt)).heap.size) := Lib.hid RS.out.lt
      generalize w5.setCell ⟨gb, 0, none⟩ (.string rt) = w6 at RS V0 VD hbz HGL ⊢
      have y0 := VD.out.cell 0 rfl
      have y1 := VD.out.cell 1 rfl
      have y2 := V0.out.cell 0 rfl
      have y3 := V0.out.cell 1 rfl
      have y4 := V0.out.frozen 0
      have y5 := V0.out.frozen 1
      clear f0 f1 f2 z0 z1 h6 HK HK2 hb5 k5
      go_wp2
      refine bodyPost_ret (v := .agg #[.slice (some ⟨gb, 0, none⟩) 48 c1, .slice C1 m1 d1]) (by simp [results, Try.results107, go_sem, y2, y3]) rfl ?_
      refine ⟨_, _, _, _, _, _, rfl, Lib.hid (by rw [HFL.out, List.length_set, HFk.out]), M1, Lib.hid ?_, Lib.hid (.inl rfl), below_st2 hbz (Nat.le_refl _) _ _⟩
      rw [HFL.out]
      refine ((RS.out.far (a := ⟨w.heap.size, 0, none⟩) hne3 _).far (a := ⟨w.heap.size, 1, none⟩) hne3 _).own (by have := HZ.out; omega) ?_
      have := HGL.out
      simpa [World.setCell] using this
end Go.Proofs.Ytoogaaoknpfkoaa
