/- The model's source of draws: a disk. -/
import Derived.Test.YtoogaaoknpfkoaaFates
import Derived.Test.YtoogaaoknpfkoaaNewDisk
import Derived.Test.YtoogaaoknpfkoaaWriteSpec
import Derived.Deep.RegionWith
namespace Go.Proofs.Ytoogaaoknpfkoaa
open Go.RowKit

theorem btw_below {lo hi B : Nat} {w w1 w2 : World} (h : Btw lo hi w w1) (hb : Below B w1 w2) (hB : w.heap.size ≤ B) : Btw lo hi w w2 :=
  ⟨hb.os.trans h.os, hb.tape.trans h.tape, hb.output.trans h.output, Nat.le_trans h.size hb.size, fun k hk ho => (hb.block k (Nat.lt_of_lt_of_le hk hB)).trans (h.block k hk ho)⟩
theorem OwnS.far {w : World} {lo hi D : Nat} {A : Option Addr} {ss : List ByteArray} {cs : Array Value} (h : OwnS w lo hi A ss) (X : Box w D 26 cs) (j : Nat) (u : Value) : OwnS (w.setCell ⟨D, j, none⟩ u) lo hi A ss := by
  rcases h with e | ⟨b, m, f, e, q1, q2, q3, q4, q5⟩
  · exact .inl e
  · exact .inr ⟨b, m, f, e, q1, q2, q3, q4.setOther (X.ne q4 (by decide)).symm u, q5⟩
theorem OwnW.far {w : World} {lo hi D : Nat} {A : Option Addr} {ws : List (Int × ByteArray)} {cs : Array Value} (h : OwnW w lo hi A ws) (X : Box w D 26 cs) (j : Nat) (u : Value) : OwnW (w.setCell ⟨D, j, none⟩ u) lo hi A ws := by
  rcases h with e | ⟨b, m, f, e, q1, q2, q3, q4, q5⟩
  · exact .inl e
  · exact .inr ⟨b, m, f, e, q1, q2, q3, q4.setOther (X.ne q4 (by decide)).symm u, q5⟩

/-- A variable that holds a disk at D, an empty one at R, rows at lo or above. -/
structure DK (lo R D : Nat) (A : Option Addr) (n c : Nat) (C : Option Addr) (m d : Nat) (ss : List ByteArray) (ws : List (Int × ByteArray)) (w : World) : Prop where
  x : Box w D 26 #[.slice A n c, .slice C m d]
  y : Box w R 26 #[.slice none 0 0, .slice none 0 0]
  s : OwnS w lo w.heap.size A ss
  r : OwnW w lo w.heap.size C ws
theorem DK.btw {lo b R D : Nat} {A : Option Addr} {n c : Nat} {C : Option Addr} {m d : Nat} {ss : List ByteArray} {ws : List (Int × ByteArray)} {w w' : World} (h : DK lo R D A n c C m d ss ws w) (hb : Btw b (b + 1) w w') (h1 : b < lo) (h2 : lo ≤ R) (h3 : lo ≤ D) : DK lo R D A n c C m d ss ws w' :=
  ⟨h.x.btw hb (.inr (by omega)), h.y.btw hb (.inr (by omega)), (h.s.btw hb (.inr (by omega))).wide (Nat.le_refl _) hb.size, (h.r.btw hb (.inr (by omega))).wide (Nat.le_refl _) hb.size⟩
theorem DK.step {lo R D : Nat} {A : Option Addr} {n c : Nat} {C : Option Addr} {m d : Nat} {ss : List ByteArray} {ws : List (Int × ByteArray)} {w w' : World} (h : DK lo R D A n c C m d ss ws w) (hb : Below w.heap.size w w') : DK lo R D A n c C m d ss ws w' :=
  ⟨h.x.step hb, h.y.step hb, (h.s.btw (Btw.of_below hb 0 0) (.inr (Nat.zero_le _))).wide (Nat.le_refl _) hb.size, (h.r.btw (Btw.of_below hb 0 0) (.inr (Nat.zero_le _))).wide (Nat.le_refl _) hb.size⟩
theorem DK.store {lo R D : Nat} {A : Option Addr} {n c : Nat} {C : Option Addr} {m d : Nat} {ss : List ByteArray} {ws : List (Int × ByteArray)} {w : World} (h : DK lo R D A n c C m d ss ws w) (hne : R ≠ D) {A2 : Option Addr} {n2 c2 : Nat} {C2 : Option Addr} {m2 d2 : Nat} {ss2 : List ByteArray} {ws2 : List (Int × ByteArray)} (S2 : OwnS w lo w.heap.size A2 ss2) (R2 : OwnW w lo w.heap.size C2 ws2) :
    DK lo R D A2 n2 c2 C2 m2 d2 ss2 ws2 ((w.setCell ⟨D, 0, none⟩ (.slice A2 n2 c2)).setCell ⟨D, 1, none⟩ (.slice C2 m2 d2)) := by
  have es : ((w.setCell ⟨D, 0, none⟩ (.slice A2 n2 c2)).setCell ⟨D, 1, none⟩ (.slice C2 m2 d2)).heap.size = w.heap.size := by simp [World.setCell]
  have x1 := h.x.set 0 (.slice A2 n2 c2)
  exact ⟨x1.set 1 (.slice C2 m2 d2), (h.y.far (p := ⟨D, 0, none⟩) hne _).far (p := ⟨D, 1, none⟩) hne _, by rw [es]; exact (S2.far h.x 0 _).far x1 1 _, by rw [es]; exact (R2.far h.x 0 _).far x1 1 _⟩

theorem ok_new : Ok newSs [] := by
  refine ⟨by simp [newSs], by simp, fun s hs => ?_, (fun x hx => by cases hx), (fun x hx => by cases hx)⟩
  simp [newSs] at hs
  subst hs
  simp
theorem ok_write {ss : List ByteArray} {ws : List (Int × ByteArray)} (h : Ok ss ws) (hm : ws.length < 60) (a : Int) (t : ByteArray) (h0 : 0 ≤ a) (h1 : a ≤ 47) (ht : t.size ≤ 100) : Ok ss (ws ++ [(a, t)]) :=
  ⟨h.n48, by simp; omega, h.small, fun x hx => by
    rcases List.mem_append.1 hx with hx | hx
    · exact h.smallW x hx
    · simp at hx; subst hx; exact ht, fun x hx => by
    rcases List.mem_append.1 hx with hx | hx
    · exact h.at_ x hx
    · simp at hx; subst hx; exact ⟨h0, h1⟩⟩
theorem ok_settle {ss : List ByteArray} {ws : List (Int × ByteArray)} (h : Ok ss ws) (fates : List Int) (k : Nat) (hk : k ≤ ws.length) : Ok (settleN ss ws fates k) [] :=
  ⟨by rw [settleN_len]; exact h.n48, by simp, settleN_small ss ws fates h.small h.smallW k hk, (fun x hx => by cases hx), (fun x hx => by cases hx)⟩

/-- What the loop keeps. -/
def DiskInv (w : World) (b R D : Nat) (A : Option Addr) (n c : Nat) (zs : List Nat) (K i : Nat) (wr : World) : Prop :=
  ∃ A' n' c' C' m' d' ss ws, Hid (DK w.heap.size R D A' n' c' C' m' d' ss ws wr) ∧ Hid (ss.length = n') ∧ Hid (ws.length = m') ∧ m' + i ≤ 8 ∧ Hid (Ok ss ws) ∧ Hid (Src wr b A n c zs (K + 1 + 9 * (8 - i))) ∧ Btw b (b + 1) w wr

/-- A drawn disk: valid, with at most eight writes. -/
def GivesDrawn (w : World) (R : World → Prop) (e : Ending) (w' : World) : Prop :=
  ∃ ss ws A n c C m d, Hid (Ok ss ws) ∧ m ≤ 8 ∧ e = .returned (.agg #[.slice A n c, .slice C m d]) ∧ Hid (ss.length = n) ∧ Hid (ws.length = m) ∧ Hid (OwnS w' w.heap.size w'.heap.size A ss) ∧ Hid (OwnW w' w.heap.size w'.heap.size C ws) ∧ Hid (R w')

set_option maxRecDepth 100000 in
set_option maxHeartbeats 4000000 in
theorem srcDisk (b : Nat) (A : Option Addr) (n c : Nat) (zs : List Nat) (K : Nat) (w : World) (hK : K ≤ 1000) (h : Src w b A n c zs K) :
    Calls Try.prog 76 #[.pointer (some ⟨b, 0, none⟩)] w (GivesDrawn w (fun w' => Btw b (b + 1) w w')) := by
  have hlt : b < w.heap.size := h.lt
  obtain ⟨W0, hW0⟩ : ∃ W0, W0 = w.alloc (.cells #[.slice none 0 0, .slice none 0 0] 26) := ⟨_, rfl⟩
  have hb0 : Below w.heap.size w W0 := by rw [hW0]; exact alloc_below _ _
  have HY0 : Hid (Box W0 w.heap.size 26 #[.slice none 0 0, .slice none 0 0]) := Lib.hid (by rw [hW0]; exact Box.new _ _ _)
  have HS0 := Lib.hid (h.below hb0 hlt)
  have HW0 := Lib.hid hW0
  clear h hW0
  go_enter Try.func76, Try.ntmps76
  go_wp2_with fail
  rw [← HW0.out]
  refine (specNew W0).mono ?_
  rintro e w1 ⟨A1, n1, c1, C1, m1, d1, rfl, L1, M1, S1, R1, hb1⟩
  have hsz : w.heap.size + 1 ≤ w1.heap.size := by have := HY0.out.lt; have := hb1.size; omega
  have HB1 := Lib.hid (bt hb0 hb1)
  have HY1 := Lib.hid (HY0.out.step hb1)
  have HS1 := Lib.hid (HS0.out.below hb1 (by have := HY0.out.lt; omega))
  have hba := alloc_below w1 (.cells #[.slice A1 n1 c1, .slice C1 m1 d1] 26)
  have HDK : Hid (DK w.heap.size w.heap.size w1.heap.size A1 n1 c1 C1 m1 d1 newSs [] (w1.alloc (.cells #[.slice A1 n1 c1, .slice C1 m1 d1] 26))) := Lib.hid ⟨Box.new _ _ _, HY1.out.step hba, ((S1.out.btw (Btw.of_below hba 0 0) (.inr (Nat.zero_le _))).wide hb0.size hba.size), ((R1.out.btw (Btw.of_below hba 0 0) (.inr (Nat.zero_le _))).wide hb0.size hba.size)⟩
  have HS2 := Lib.hid (HS1.out.below hba (by omega))
  have HB2 : Hid (Btw b (b + 1) w (w1.alloc (.cells #[.slice A1 n1 c1, .slice C1 m1 d1] 26))) := Lib.hid (Btw.of_below (bt HB1.out hba) b (b + 1))
  clear HY0 HS0 HW0 HY1 HS1 HB1 S1 R1 hba hb0 hb1 W0
  go_wp2_with fail
  generalize w1.alloc (.cells #[.slice A1 n1 c1, .slice C1 m1 d1] 26) = w2 at HDK HS2 HB2 ⊢
  refine (srcNext 9 b A n c zs K w2 (by omega) (by omega) (by omega) HS2.out).mono ?_
  rintro e w3 ⟨v, rfl, hv, S3, hb3⟩
  have HDK3 := Lib.hid (HDK.out.btw hb3 hlt (Nat.le_refl _) (by omega))
  have HB3 := Lib.hid (HB2.out.trans hb3)
  obtain ⟨D, hD⟩ : ∃ D, D = w1.heap.size := ⟨_, rfl⟩
  rw [← hD] at HDK3 ⊢
  have hDl : w.heap.size + 1 ≤ D := by omega
  have HM0 : Hid (m1 = 0) := Lib.hid M1.out.symm
  clear HDK HS2 HB2 hb3 hD hsz w1 w2
  go_wp2
  go_loopw [4] (fun q wr => ∃ i : Nat, i ≤ 8 ∧ q = .int .i64 i ∧ DiskInv w b w.heap.size D A n c zs K i wr) (fun q _ => (intOf q).toNat)
  case atStart => exact ⟨v, by omega, rfl, A1, n1, c1, C1, m1, d1, newSs, [], HDK3, L1, M1, by have := HM0.out; omega, Lib.hid ok_new, Lib.hid (S3.out.mono (by omega)), HB3.out⟩
  case round =>
    obtain ⟨i, hi8, rfl, A', n', c', C', m', d', ss, ws, HD, HL, HM, hm8, HO, HS, hbw⟩ := hrel
    by_cases hi : 0 < i
    · have hi' : (0 : Int) < (i : Int) := by omega
      have f0 := HD.out.x.cell 0 rfl
      have f1 := HD.out.x.cell 1 rfl
      have hm' : m' ≤ 60 := by omega
      go_wp2
      go_region_with (first
        | (go_at_call 134; refine (l01Write A' C' n' c' m' d' ws va t wc HM.out hm' Dc.out.r.reads).mono ?_; rintro e wd ⟨C2, d2, rfl, RW, hbd⟩; have Dd := Lib.hid (Dc.out.step hbd); have fd0 := Dd.out.x.cell 0 rfl; have fd1 := Dd.out.x.cell 1 rfl; have gd0 := Dd.out.x.frozen 0; have gd1 := Dd.out.x.frozen 1)
        | (go_at_call 77; refine (srcSome vb b A n c zs (K + 1 + 9 * (8 - i) + 1 + 1) wb (by omega) (by omega) Sb.out).mono ?_; rintro e wc ⟨t, rfl, ht, Sc, hbc⟩; have Dc := Lib.hid (Db.out.btw hbc hlt (Nat.le_refl _) (by omega)); have fc0 := Dc.out.x.cell 0 rfl; have fc1 := Dc.out.x.cell 1 rfl)
        | (go_at_call 133; refine (srcNext 7 b A n c zs (K + 1 + 9 * (8 - i) + 1) wa (by omega) (by omega) (by omega) Sa.out).mono ?_; rintro e wb ⟨vb, rfl, hvb, Sb, hbb⟩; have Db := Lib.hid (Da.out.btw hbb hlt (Nat.le_refl _) (by omega)); have fb0 := Db.out.x.cell 0 rfl; have fb1 := Db.out.x.cell 1 rfl)
        | (go_at_call 133; refine (srcNext 6 b A n c zs (K + 1 + 9 * (8 - i)) wr.drew (by omega) (by omega) (by omega) (HS.out.btw ((Btw.refl (b + 1) (b + 1) wr).drew) (by omega))).mono ?_; rintro e wa ⟨va, rfl, hva, Sa, hba⟩; have Da := Lib.hid (HD.out.btw (b := b) (((Btw.refl b (b + 1) wr).drew).trans hba) hlt (Nat.le_refl _) (by omega)); have fa0 := Da.out.x.cell 0 rfl; have fa1 := Da.out.x.cell 1 rfl))
      all_goals (
        have hszc : w.heap.size ≤ wc.heap.size := Nat.le_trans hbw.size (Nat.le_trans hba.size (Nat.le_trans hbb.size hbc.size))
        have q1 : Below w.heap.size wd ((wd.setCell ⟨D, 0, none⟩ (.slice A' n' c')).setCell ⟨D, 1, none⟩ (.slice C2 (m' + 1) d2)) := ((Below.refl _ _).setCell (p := ⟨D, 0, none⟩) (by show w.heap.size ≤ D; omega) _).setCell (p := ⟨D, 1, none⟩) (by show w.heap.size ≤ D; omega) _
        have D5 := Lib.hid (Dd.out.store (by omega) (n2 := n') (c2 := c') (m2 := m' + 1) (d2 := d2) Dd.out.s (RW.out.wide hszc (Nat.le_refl _)))
        have S5 := Lib.hid ((Sc.out.below hbd (by omega)).below q1 hlt)
        have B5 := Lib.hid (btw_below (btw_below (((hbw.drew.trans hba).trans hbb).trans hbc) hbd hszc) q1 (Nat.le_refl _))
        have O5 := Lib.hid (ok_write HO.out (by rw [HM.out]; omega) (va : Int) t (by omega) (by omega) (by omega))
        have L5 : Hid ((ws ++ [((va : Int), t)]).length = m' + 1) := Lib.hid (by rw [List.length_append, HM.out]; rfl)
        clear q1 f0 f1 fa0 fa1 fb0 fb1 fc0 fc1 fd0 fd1 gd0 gd1 Da Db Dc Dd Sa Sb Sc RW hba hbb hbc hbd HD HS HO HM hbw hszc
        generalize (wd.setCell ⟨D, 0, none⟩ (.slice A' n' c')).setCell ⟨D, 1, none⟩ (.slice C2 (m' + 1) d2) = w5 at D5 S5 B5 ⊢
        generalize ws ++ [((va : Int), t)] = ws5 at D5 O5 L5
        go_wp2_with fail
        refine (srcChance 4 b A n c zs (K + 1 + 9 * (8 - i) + 1 + 1 + vb) w5 (by omega) (by omega) (by omega) S5.out).mono ?_
        rintro e w6 ⟨vv, rfl, S6, hb6⟩
        have D6 := Lib.hid (D5.out.btw hb6 hlt (Nat.le_refl _) (by omega))
        have B6 := Lib.hid (B5.out.trans hb6)
        clear D5 S5 B5 hb6
        have f0 := D6.out.x.cell 0 rfl
        have f1 := D6.out.x.cell 1 rfl
        cases vv
        · go_wp2
          go_roundw
          case rel => exact ⟨i - 1, by omega, by go_num, A', n', c', C2, m' + 1, d2, ss, ws5, D6, HL, L5, by omega, O5, Lib.hid (S6.out.mono (by omega)), B6.out⟩
          case measure => simp [intOf]; omega
        · have HF := Lib.hid (l01Flush A' C2 n' c' (m' + 1) d2 ss ws5 w6 HL.out L5.out D6.out.s.reads D6.out.r.reads O5.out)
          go_wp2_with fail
          refine HF.out.mono ?_
          rintro e w7 ⟨A7, n7, c7, C7, m7, d7, rfl, L7, M7, S7, R7, hb7⟩
          have D7 := Lib.hid (D6.out.step hb7)
          have hsz6 : w.heap.size ≤ w6.heap.size := B6.out.size
          have q1 : Below w.heap.size w7 ((w7.setCell ⟨D, 0, none⟩ (.slice A7 n7 c7)).setCell ⟨D, 1, none⟩ (.slice C7 m7 d7)) := ((Below.refl _ _).setCell (p := ⟨D, 0, none⟩) (by show w.heap.size ≤ D; omega) _).setCell (p := ⟨D, 1, none⟩) (by show w.heap.size ≤ D; omega) _
          have D8 := Lib.hid (D7.out.store (by omega) (n2 := n7) (c2 := c7) (m2 := m7) (d2 := d7) (S7.out.wide hsz6 (Nat.le_refl _)) (R7.out.wide hsz6 (Nat.le_refl _)))
          have S8 := Lib.hid ((S6.out.below hb7 (by omega)).below q1 hlt)
          have B8 := Lib.hid (btw_below (btw_below B6.out hb7 hsz6) q1 (Nat.le_refl _))
          have O8 := Lib.hid (ok_settle O5.out [1] (m' + 1) (by rw [L5.out]; exact Nat.le_refl _))
          have hm7 : Hid (m7 = 0) := Lib.hid M7.out.symm
          have g0 := D7.out.x.cell 0 rfl
          have g1 := D7.out.x.cell 1 rfl
          have g2 := D7.out.x.frozen 0
          have g3 := D7.out.x.frozen 1
          clear f0 f1 D6 D7 S6 B6 S7 R7 hb7 q1 HF O5 hsz6
          go_wp2
          go_roundw
          case rel => exact ⟨i - 1, by omega, by go_num, A7, n7, c7, C7, m7, d7, _, [], D8, L7, M7, by have := hm7.out; omega, O8, Lib.hid (S8.out.mono (by omega)), B8.out⟩
          case measure => simp [intOf]; omega)
    · have hi' : ¬ (0 : Int) < (i : Int) := by omega
      have f0 := HD.out.x.cell 0 rfl
      have f1 := HD.out.x.cell 1 rfl
      have n48 : n' ≤ 48 := by have := HO.out.n48; have := HL.out; omega
      have HC := Lib.hid (l01Own A' C' n' c' m' d' ss ws wr HL.out HM.out (by omega) (by omega) HD.out.s.reads HD.out.r.reads)
      go_wp2_with fail
      refine HC.out.mono ?_
      rintro e w2 ⟨A2, n2, c2, C2, m2, d2, rfl, L2, M2, S2, R2, hb2⟩
      have Y2 := Lib.hid (HD.out.y.step hb2)
      have g0 := Y2.out.cell 0 rfl
      have g1 := Y2.out.cell 1 rfl
      have g2 := Y2.out.frozen 0
      have g3 := Y2.out.frozen 1
      clear f0 f1 HC
      go_wp2
      refine bodyPost_ret (v := .agg #[.slice A2 n2 c2, .slice C2 m2 d2]) (by simp [results, Try.results76, go_sem, g0, g1]) rfl ?_
      have hszr : w.heap.size ≤ wr.heap.size := hbw.size
      have es : ((w2.setCell ⟨w.heap.size, 0, none⟩ (.slice A2 n2 c2)).setCell ⟨w.heap.size, 1, none⟩ (.slice C2 m2 d2)).heap.size = w2.heap.size := by simp [World.setCell]
      have q1 : Below w.heap.size w2 ((w2.setCell ⟨w.heap.size, 0, none⟩ (.slice A2 n2 c2)).setCell ⟨w.heap.size, 1, none⟩ (.slice C2 m2 d2)) := ((Below.refl _ _).setCell (p := ⟨w.heap.size, 0, none⟩) (Nat.le_refl _) _).setCell (p := ⟨w.heap.size, 1, none⟩) (Nat.le_refl _) _
      have Y3 := Y2.out.set 0 (.slice A2 n2 c2)
      exact ⟨ss, ws, A2, n2, c2, C2, m2, d2, HO, by have := M2.out; have := HM.out; omega, rfl, L2, M2, Lib.hid (by rw [es]; exact ((S2.out.far Y2.out 0 _).far Y3 1 _).wide hszr (Nat.le_refl _)), Lib.hid (by rw [es]; exact ((R2.out.far Y2.out 0 _).far Y3 1 _).wide hszr (Nat.le_refl _)), Lib.hid (btw_below (btw_below hbw hb2 hszr) q1 (Nat.le_refl _))⟩
end Go.Proofs.Ytoogaaoknpfkoaa
