/- Contracts of the model's crash: l01Crash; of the tests of fates. -/
import Derived.Test.YtoogaaoknpfkoaaFlush
import Derived.WalkLawsBesides
namespace Go.Proofs.Ytoogaaoknpfkoaa
open Go.RowKit

theorem tear_min (old x : ByteArray) : x.extract 0 (x.size / 2) ++ old.extract (min (x.size / 2) old.size) old.size = tearOf old x := by
  unfold tearOf
  split
  · rename_i h
    rw [Nat.min_eq_right h]
    apply WideShapes.bytes_inj
    simp [ByteArray.data_extract]
  · rename_i h
    rw [Nat.min_eq_left (by omega)]

set_option maxRecDepth 100000 in
set_option maxHeartbeats 4000000 in
theorem l01Crash (A C F : Option Addr) (n c m d nf cf : Nat) (ss : List ByteArray) (ws : List (Int × ByteArray)) (fs : List Int) (w : World) (hl : ss.length = n) (hm : ws.length = m) (hf : fs.length = nf) (hnf : nf ≤ maxLen) (h : StrL w A ss) (g : WrL w C ws) (i : IntL w F fs) (ok : Ok ss ws) :
    Calls Try.prog 87 #[.agg #[.slice A n c, .slice C m d], .slice F nf cf] w (GivesDisk (settleN ss ws fs m) [] w) := by
  have HL := Lib.hid hl
  have HM := Lib.hid hm
  have HNF := Lib.hid hf
  have HSt := Lib.hid h
  have G := Lib.hid g
  have I := Lib.hid i
  have OK := Lib.hid ok
  have hm60 : m ≤ 60 := by have := ok.m60; omega
  have hn48 : n ≤ 48 := by have := ok.n48; omega
  have hn48' : 48 ≤ n := by have := ok.n48; omega
  unfold maxLen at hnf
  clear hl hm hf h g i ok
  obtain ⟨i0, hi0, hz0, hz1, hz2⟩ := infoSx
  have HI := Lib.hid (And.intro hi0 (And.intro hz0 (And.intro hz1 hz2)))
  clear hi0 hz0 hz1 hz2
  obtain ⟨W0, hW0⟩ : ∃ W0, W0 = (((w.alloc (.cells #[.slice A n c, .slice C m d] 26)).alloc (.cells #[.slice none 0 0, .slice none 0 0] 26)).alloc (.cells #[] 9)) := ⟨_, rfl⟩
  have hb0 : Below w.heap.size w W0 := by rw [hW0]; exact (((Below.refl _ _).alloc (Nat.le_refl _) _).alloc (by simp) _).alloc (by simp; omega) _
  have hs0 : W0.heap.size = w.heap.size + 1 + 1 + 1 := by rw [hW0]; simp
  have X0 : Box W0 w.heap.size 26 #[.slice A n c, .slice C m d] := by rw [hW0]; exact ((Box.new _ _ _).alloc _).alloc _
  have Y0 : Box W0 (w.heap.size + 1) 26 #[.slice none 0 0, .slice none 0 0] := by rw [hW0]; simpa using (Box.new (w.alloc (.cells #[.slice A n c, .slice C m d] 26)) 26 #[.slice none 0 0, .slice none 0 0]).alloc (.cells #[] 9)
  have Z0 : Box W0 (w.heap.size + 1 + 1) 9 #[] := by rw [hW0]; simpa using Box.new ((w.alloc (.cells #[.slice A n c, .slice C m d] 26)).alloc (.cells #[.slice none 0 0, .slice none 0 0] 26)) 9 #[]
  have HO := Lib.hid (own_empty (base := w.heap.size + 1 + 1) (Nat.le_refl _) Z0)
  have HX := Lib.hid (And.intro X0 Y0)
  have HS0 := Lib.hid hs0
  obtain ⟨ad, hA, hsrc⟩ := (HSt.out.below hb0).src (by rw [cellsS_len, HL.out]; omega)
  have HSrc := Lib.hid hsrc
  have HCl : Hid ((cellsS ss).length = n * 1) := Lib.hid (by rw [cellsS_len, HL.out]; omega)
  subst hA
  clear X0 Y0 Z0 hs0 hsrc
  have HW0 := Lib.hid hW0
  clear hW0
  go_enter Try.func87, Try.ntmps87
  go_wp2_with (at_builtin; refine wpList_append_own _ rfl (.tmp 11) (.tmp 13) 23 rfl (w.heap.size + 1 + 1) 9 i0 (.string ByteArray.empty) 1 16 Try.underlying23 HI.out.1 HI.out.2.1 HI.out.2.2.1 HI.out.2.2.2 rfl (by decide) _ 0 (cellsS []) rfl ?hown ad n c (cellsS ss) rfl HCl.out ?hnews (cellsS_one ss) ?h63 ?hby ?hbase ?_)
  case hown => rw [← HW0.out]; exact HO.out
  case hnews => rw [← HW0.out]; exact HSrc.out
  case h63 => unfold maxLen; omega
  case hby => omega
  case hbase => simp
  rw [← HW0.out]
  intro v1 w1 hown hgr hniff
  have hb1 := Lib.hid (below_of_grown (B := w.heap.size + 1 + 1) hgr (fun k hk => by simp [Value.ownBlock] at hk; omega) (by rw [HS0.out]; omega))
  rw [cellsS_app] at hown
  try rw [Nat.zero_add] at hown
  obtain ⟨gb, cap, mm, f, hv, q1, q2, q3, q4, q5⟩ := row_of_own hown (by omega)
  rw [hv]
  have HR1 : Hid (RowS w1 gb n mm ss) := Lib.hid ⟨q3, q2, f, q4, q5⟩
  have HX1 := Lib.hid (And.intro (HX.out.1.below hb1.out (by omega)) (HX.out.2.below hb1.out (by omega)))
  have hb1' : Below w.heap.size w w1 := hb0.trans (hb1.out.mono (by omega))
  have HG : Hid (w.heap.size + 1 < gb) := Lib.hid (by omega)
  clear hniff hown hgr hv q1 q2 q3 q4 q5 v1 HO HSrc HW0 HX hb0 hb1 HS0 HCl HI i0 HSt
  go_wp2
  obtain ⟨W2, hW2⟩ : ∃ W2, W2 = ((w1.alloc (.cells #[] 90)).alloc (.cells #[.slice (some ⟨gb, 0, none⟩) n cap, .slice (some ⟨w1.heap.size, 0, none⟩) 0 0] 26)) := ⟨_, rfl⟩
  have k2 : Below w1.heap.size w1 W2 := by rw [hW2]; exact ((Below.refl _ _).alloc (Nat.le_refl _) _).alloc (by simp) _
  have Z2 : Hid (Box W2 (w1.heap.size + 1) 26 #[.slice (some ⟨gb, 0, none⟩) n cap, .slice (some ⟨w1.heap.size, 0, none⟩) 0 0]) := Lib.hid (by rw [hW2]; simpa using Box.new (w1.alloc (.cells #[] 90)) 26 #[.slice (some ⟨gb, 0, none⟩) n cap, .slice (some ⟨w1.heap.size, 0, none⟩) 0 0])
  rw [← hW2]
  clear hW2
  have X2 := Lib.hid (HX1.out.1.step k2)
  have Y2 := Lib.hid (HX1.out.2.step k2)
  have R2 := Lib.hid (HR1.out.below k2)
  have hb2 := bt hb1' k2
  have HG2 : Hid (gb < w1.heap.size) := Lib.hid HR1.out.lt
  have HG3 : Hid (w.heap.size + 1 < w1.heap.size) := Lib.hid HX1.out.2.lt
  clear HX1 HR1 hb1' k2
  go_loopw [6] (fun q wr => ∃ k : Nat, k ≤ m ∧ q = .int .i64 k ∧ Below w.heap.size w wr ∧ Hid (Box wr w.heap.size 26 #[.slice (some ad) n c, .slice C m d]) ∧ Hid (Box wr (w.heap.size + 1) 26 #[.slice none 0 0, .slice none 0 0]) ∧ Hid (Box wr (w1.heap.size + 1) 26 #[.slice (some ⟨gb, 0, none⟩) n cap, .slice (some ⟨w1.heap.size, 0, none⟩) 0 0]) ∧ Hid (RowS wr gb n mm (settleN ss ws fs k))) (fun q _ => m - (intOf q).toNat)
  case atStart => exact ⟨0, Nat.zero_le _, rfl, hb2, X2, Y2, Z2, R2⟩
  case round =>
    obtain ⟨k, hk, rfl, hbw, X, Y, Z, R⟩ := hrel
    by_cases hlt : k < m
    · obtain ⟨b2, off, rfl, hc, hd⟩ := (G.out.below hbw) k (by rw [HM.out]; exact hlt)
      have hmem : ws.getD k (0, ByteArray.empty) ∈ ws := by rw [List.getD_eq_getElem?_getD, List.getElem?_eq_getElem (by rw [HM.out]; exact hlt)]; exact List.getElem_mem _
      have hat := OK.out.at_ _ hmem
      have hsz := OK.out.smallW _ hmem
      have HK : Hid (settleN ss ws fs (k + 1) = stepF fs k (settleN ss ws fs k) (ws.getD k (0, ByteArray.empty))) := Lib.hid rfl
      have hsm := settleN_small ss ws fs OK.out.small OK.out.smallW k (by rw [HM.out]; omega)
      generalize ws.getD k (0, ByteArray.empty) = x at hc hd hat hsz HK hmem
      obtain ⟨x1, x2⟩ := x
      simp only at hc hd hat hsz
      obtain ⟨p, rfl⟩ : ∃ p : Nat, x1 = p := ⟨x1.toNat, by omega⟩
      have hpn : p < n := by omega
      have hpi : (p : Int) < (n : Int) := by omega
      have hp0 : (0 : Int) ≤ (p : Int) := by omega
      have hi : (k : Int) < (m : Int) := by omega
      have hi0 : (0 : Int) ≤ (k : Int) := by omega
      have hold := getD_small hsm p
      generalize settleN ss ws fs k = cur at R HK hsm hold
      have k3 := (Below.refl wr.heap.size wr).alloc (Nat.le_refl _) (.cells #[.int .i64 (p : Int), .string x2] 90)
      have hcd := (R.out.below k3).cell hpn
      have hfr := (R.out.below k3).frozen p
      have f1 : wr.cell? ⟨w.heap.size, 1, none⟩ = some (.slice (some ⟨b2, off, none⟩) m d) := X.out.cell 1 rfl
      have f2 : (wr.alloc (.cells #[.int .i64 (p : Int), .string x2] 90)).cell? ⟨w1.heap.size + 1, 0, none⟩ = some (.slice (some ⟨gb, 0, none⟩) n cap) := (Z.out.step k3).cell 0 rfl
      have HR3 := Lib.hid (R.out.below k3)
      have HX3 := Lib.hid (X.out.step k3)
      have HY3 := Lib.hid (Y.out.step k3)
      have HZ3 := Lib.hid (Z.out.step k3)
      have HB3 := Lib.hid (bt hbw k3)
      have HT := Lib.hid (tear_min (cur.getD p ByteArray.empty) x2)
      have e64 : w1.heap.size + 1 ≠ gb := by have := HG2.out; omega
      clear hmem hat X Y Z R
      by_cases hz : nf = 0
      · have hz' : ¬ (0 : Int) < (nf : Int) := by omega
        have HN : Hid (settleN ss ws fs (k + 1) = cur) := Lib.hid (by
          rw [HK.out]; unfold stepF
          have : fateAt fs k = 0 := by unfold fateAt; rw [if_pos (by rw [HNF.out]; exact hz)]
          rw [this]; rfl)
        clear hz
        generalize cur.getD p ByteArray.empty = y at hcd hold HT
        go_wp2
        go_roundw
        case rel => exact ⟨k + 1, by omega, by go_num, HB3.out, HX3, HY3, HZ3, by rw [HN.out]; exact HR3⟩
        case measure => simp [intOf]; omega
      · have hz' : (0 : Int) < (nf : Int) := by omega
        have hzn : ¬ (nf : Int) = 0 := by omega
        have hml : k % nf < nf := Nat.mod_lt _ (by omega)
        obtain ⟨bF, offF, rfl, hcF⟩ := (I.out.below hbw) (k % nf) (by rw [HNF.out]; exact hml)
        have HFT : Hid (fateAt fs k = fs.getD (k % nf) 0) := Lib.hid (by unfold fateAt; rw [if_neg (by rw [HNF.out]; exact hz), HNF.out])
        generalize fs.getD (k % nf) 0 = ft at hcF HFT
        clear hz
        by_cases e1 : ft = 1
        · have hq : (ft == 1) = true := by simp [e1]
          have HN : Hid (settleN ss ws fs (k + 1) = cur.set p x2) := Lib.hid (by rw [HK.out]; unfold stepF; rw [HFT.out, if_pos e1]; rfl)
          clear e1
          have HRs := Lib.hid (HR3.out.set hpn x2)
          have HXs := Lib.hid (HX3.out.far (p := ⟨gb, p, none⟩) (by show w.heap.size ≠ gb; have := HG.out; omega) (.string x2))
          have HYs := Lib.hid (HY3.out.far (p := ⟨gb, p, none⟩) (by show w.heap.size + 1 ≠ gb; have := HG.out; omega) (.string x2))
          have HZs := Lib.hid (HZ3.out.far (p := ⟨gb, p, none⟩) e64 (.string x2))
          have HBs := Lib.hid (HB3.out.setCell (p := ⟨gb, p, none⟩) (by show w.heap.size ≤ gb; have := HG.out; omega) (.string x2))
          generalize cur.getD p ByteArray.empty = y at hcd hold HT
          go_wp2
          go_roundw
          case rel => exact ⟨k + 1, by omega, by go_num, HBs.out, HXs, HYs, HZs, by rw [HN.out]; exact HRs⟩
          case measure => simp [intOf]; omega
        · have hq : (ft == 1) = false := by simp [e1]
          by_cases e2 : ft = 2
          · have hq2 : (ft == 2) = true := by simp [e2]
            have HN : Hid (settleN ss ws fs (k + 1) = cur.set p (tearOf (cur.getD p ByteArray.empty) x2)) := Lib.hid (by rw [HK.out]; unfold stepF; rw [HFT.out, if_neg e1, if_pos e2]; rfl)
            clear e1 e2
            have hsl : (cur.getD p ByteArray.empty).size ≤ 100 := hold
            generalize cur.getD p ByteArray.empty = y at hcd hold HT HN hsl
            have HXa := Lib.hid (Box.new wr 90 #[.int .i64 (p : Int), .string x2])
            go_wp2
            generalize wr.alloc (.cells #[.int .i64 (p : Int), .string x2] 90) = wa at hcd hfr f2 HR3 HX3 HY3 HZ3 HB3 HXa ⊢
            have g0 : wa.cell? ⟨wr.heap.size, 0, none⟩ = some (.int .i64 (p : Int)) := HXa.out.cell 0 rfl
            have g1 : wa.cell? ⟨wr.heap.size, 1, none⟩ = some (.string x2) := HXa.out.cell 1 rfl
            have k4 : Below wa.heap.size wa wa.drew := (Below.refl _ _).drew
            have HRs := Lib.hid ((HR3.out.below k4).set hpn (tearOf y x2))
            have HXs := Lib.hid ((HX3.out.step k4).far (p := ⟨gb, p, none⟩) (by show w.heap.size ≠ gb; have := HG.out; omega) (.string (tearOf y x2)))
            have HYs := Lib.hid ((HY3.out.step k4).far (p := ⟨gb, p, none⟩) (by show w.heap.size + 1 ≠ gb; have := HG.out; omega) (.string (tearOf y x2)))
            have HZs := Lib.hid ((HZ3.out.step k4).far (p := ⟨gb, p, none⟩) e64 (.string (tearOf y x2)))
            have HBs := Lib.hid ((bt HB3.out k4).setCell (p := ⟨gb, p, none⟩) (by show w.heap.size ≤ gb; have := HG.out; omega) (.string (tearOf y x2)))
            clear HR3 HX3 HY3 HZ3 HXa
            obtain ⟨uu, HU⟩ : ∃ u, Hid (u = x2.extract 0 (x2.size / 2)) := ⟨_, Lib.hid rfl⟩
            have su : uu.size ≤ 100 := by rw [HU.out, extract_size]; omega
            have hsl1 : ∀ W, (Instr.slice 9 (.string x2) none (some (.int .i64 ((x2.size : Int) / 2))) none).run Try.prog W = .ok (.string uu) W := fun W => by
              rw [run_slice_string_h W 9 x2 Try.underlying9 .i64 ((x2.size : Int) / 2) (by omega) (by omega), HU.out, show ((x2.size : Int) / 2).toNat = x2.size / 2 by omega]
            by_cases hmn : (y.size : Int) < (x2.size : Int) / 2
            · obtain ⟨vv, HVv⟩ : ∃ v, Hid (v = y.extract y.size y.size) := ⟨_, Lib.hid rfl⟩
              have sv : vv.size ≤ 100 := by rw [HVv.out, extract_size]; omega
              have hsl2 : ∀ W, (Instr.slice 9 (.string y) (some (.int .i64 (y.size : Int))) none none).run Try.prog W = .ok (.string vv) W := fun W => by
                rw [run_slice_string_l W 9 y Try.underlying9 .i64 (y.size : Int) (by omega) (by omega), HVv.out]; rfl
              have HE : Hid (uu ++ vv = tearOf y x2) := Lib.hid (by rw [HU.out, HVv.out, ← HT.out, Nat.min_eq_right (by omega)])
              have s3 : ¬ 9223372036854775807 < uu.size + vv.size := by omega
              clear su sv
              go_still_tail 15, (by kernel_rfl)
              change wpList _ _ _ _ _ wa.drew
              rw [HE.out]
              go_wp2
              go_roundw
              case rel => exact ⟨k + 1, by omega, by go_num, HBs.out, HXs, HYs, HZs, by rw [HN.out]; exact HRs⟩
              case measure => simp [intOf]; omega
            · obtain ⟨vv, HVv⟩ : ∃ v, Hid (v = y.extract (x2.size / 2) y.size) := ⟨_, Lib.hid rfl⟩
              have sv : vv.size ≤ 100 := by rw [HVv.out, extract_size]; omega
              have hsl2 : ∀ W, (Instr.slice 9 (.string y) (some (.int .i64 ((x2.size : Int) / 2))) none none).run Try.prog W = .ok (.string vv) W := fun W => by
                rw [run_slice_string_l W 9 y Try.underlying9 .i64 ((x2.size : Int) / 2) (by omega) (by omega), HVv.out, show ((x2.size : Int) / 2).toNat = x2.size / 2 by omega]
              have HE : Hid (uu ++ vv = tearOf y x2) := Lib.hid (by rw [HU.out, HVv.out, ← HT.out, Nat.min_eq_left (by omega)])
              have s3 : ¬ 9223372036854775807 < uu.size + vv.size := by omega
              clear su sv
              go_still_tail 15, (by kernel_rfl)
              change wpList _ _ _ _ _ wa.drew
              rw [HE.out]
              go_wp2
              go_roundw
              case rel => exact ⟨k + 1, by omega, by go_num, HBs.out, HXs, HYs, HZs, by rw [HN.out]; exact HRs⟩
              case measure => simp [intOf]; omega
          · have hq2 : (ft == 2) = false := by simp [e2]
            have HN : Hid (settleN ss ws fs (k + 1) = cur) := Lib.hid (by rw [HK.out]; unfold stepF; rw [HFT.out, if_neg e1, if_neg e2])
            clear e1 e2
            generalize cur.getD p ByteArray.empty = y at hcd hold HT
            go_wp2
            go_roundw
            case rel => exact ⟨k + 1, by omega, by go_num, HB3.out, HX3, HY3, HZ3, by rw [HN.out]; exact HR3⟩
            case measure => simp [intOf]; omega
    · have f1 : wr.cell? ⟨w.heap.size, 1, none⟩ = some (.slice C m d) := X.out.cell 1 rfl
      have f2 : wr.cell? ⟨w1.heap.size + 1, 0, none⟩ = some (.slice (some ⟨gb, 0, none⟩) n cap) := Z.out.cell 0 rfl
      have f3 : wr.cell? ⟨w1.heap.size + 1, 1, none⟩ = some (.slice (some ⟨w1.heap.size, 0, none⟩) 0 0) := Z.out.cell 1 rfl
      have g0 := Y.out.cell 0 rfl
      have g1 := Y.out.cell 1 rfl
      have g2 := Y.out.frozen 0
      have g3 := Y.out.frozen 1
      go_wp2
      have ek : k = m := by omega
      subst ek
      refine bodyPost_ret (v := .agg #[.slice (some ⟨gb, 0, none⟩) n cap, .slice (some ⟨w1.heap.size, 0, none⟩) 0 0]) (by simp [results, Try.results87, go_sem, g0, g1]) rfl ?_
      have hne : gb ≠ w.heap.size + 1 := by have := HG.out; omega
      refine ⟨_, _, _, _, _, _, rfl, Lib.hid (by rw [settleN_len, HL.out]), Lib.hid rfl, Lib.hid ?_, Lib.hid (.inl rfl), (hbw.setCell (by show w.heap.size ≤ w.heap.size + 1; omega) _).setCell (by show w.heap.size ≤ w.heap.size + 1; omega) _⟩
      refine ((R.out.far (a := ⟨w.heap.size + 1, 0, none⟩) hne _).far (a := ⟨w.heap.size + 1, 1, none⟩) hne _).own (by have := HG.out; omega) ?_
      have := R.out.lt
      simpa [World.setCell] using this
end Go.Proofs.Ytoogaaoknpfkoaa
