/- The source's irq: a drawn valid controller; spec.IrqDrawn. -/
import Derived.Test.YtamfapmkdojhcaaIrqApi
import Derived.Test.YtamfapmkdojhcaaDraw
import Derived.Test.YtamfapmkdojhcaaSrcMore
import Derived.Deep.RegionHeld3
namespace Go.Proofs.Ytamfapmkdojhcaa
open Go.RowKit

theorem btw_below6 {lo hi B : Nat} {w w1 w2 : World} (h : Btw lo hi w w1) (hb : Below B w1 w2) (hB : w.heap.size ≤ B) : Btw lo hi w w2 :=
  ⟨hb.os.trans h.os, hb.tape.trans h.tape, hb.output.trans h.output, Nat.le_trans h.size hb.size, fun k hk ho => (hb.block k (Nat.lt_of_lt_of_le hk hB)).trans (h.block k hk ho)⟩
theorem all_set6 {l : List Int} {p : Int → Bool} (h : l.all p = true) (k : Nat) (x : Int) (hx : p x = true) : (l.set k x).all p = true := by
  rw [List.all_eq_true] at h ⊢
  intro y hy
  rcases List.mem_or_eq_of_mem_set hy with q | rfl
  · exact h y q
  · exact hx
/-- A controller in the making: rows of its own, the source, the result's block. -/
structure QS (w : World) (b : Nat) (A : Option Addr) (n c : Nat) (zs : List Nat) (K D b0 b1 c0 c1 : Nat) (W : World) : Prop where
  btw : Btw b (b + 1) w W
  s : Src W b A n c zs K
  r : Box W w.heap.size 26 #[.slice none 0 0, .slice none 0 0]
  x : Box W D 26 #[.slice (some ⟨b0, 0, none⟩) 8 c0, .slice (some ⟨b1, 0, none⟩) 8 c1]
  L : ∃ ls : List Int, ls.length = 8 ∧ ls.all lvB = true ∧ OwnI W w.heap.size W.heap.size (some ⟨b0, 0, none⟩) ls
  P : ∃ ps : List Bool, ps.length = 8 ∧ OwnB W w.heap.size W.heap.size (some ⟨b1, 0, none⟩) ps
  lt : b < w.heap.size
  dl : w.heap.size + 1 ≤ D
section
variable {w : World} {b : Nat} {A : Option Addr} {n c : Nat} {zs : List Nat} {K D b0 b1 c0 c1 : Nat} {W W2 : World}
theorem QS.mono {K2 : Nat} (h : QS w b A n c zs K D b0 b1 c0 c1 W) (hk : K ≤ K2) : QS w b A n c zs K2 D b0 b1 c0 c1 W := ⟨h.btw, h.s.mono hk, h.r, h.x, h.L, h.P, h.lt, h.dl⟩
theorem QS.next {K2 : Nat} (h : QS w b A n c zs K D b0 b1 c0 c1 W) (S : Src W2 b A n c zs K2) (hb : Btw b (b + 1) W W2) : QS w b A n c zs K2 D b0 b1 c0 c1 W2 := by
  have hl := h.lt
  have hd := h.dl
  refine ⟨h.btw.trans hb, S, h.r.btw hb (.inr (by omega)), h.x.btw hb (.inr (by omega)), ?_, ?_, h.lt, h.dl⟩
  · obtain ⟨ls, h1, h2, h3⟩ := h.L; exact ⟨ls, h1, h2, (h3.btw hb (.inr (by omega))).wideB (Nat.le_refl _) hb.size⟩
  · obtain ⟨ps, h1, h3⟩ := h.P; exact ⟨ps, h1, (h3.btw hb (.inr (by omega))).wide (Nat.le_refl _) hb.size⟩
theorem QS.drew (h : QS w b A n c zs K D b0 b1 c0 c1 W) : QS w b A n c zs K D b0 b1 c0 c1 W.drew := ⟨h.btw.drew, h.s.drew, h.r, h.x, h.L, h.P, h.lt, h.dl⟩
theorem lvB_nat {u : Nat} (h : u < 8) : lvB (u : Int) = true := by unfold lvB; simp; omega
theorem QS.setL (h : QS w b A n c zs K D b0 b1 c0 c1 W) (v u : Nat) (hv : v < 8) (hu : u < 8) : QS w b A n c zs K D b0 b1 c0 c1 (W.setCell ⟨b0, v, none⟩ (.int .i64 (u : Int))) := by
  obtain ⟨ls, l0, a0, O⟩ := h.L
  obtain ⟨ps, l1, O1⟩ := h.P
  obtain ⟨b', m, f, e, hc, hf, h1, h2, hr, hput⟩ := O.put v (by omega)
  have eb : b0 = b' := by injection e with e; injection e
  subst eb
  have q : Below w.heap.size W (W.setCell ⟨b0, v, none⟩ (.int .i64 (u : Int))) := (Below.refl _ _).setCell (p := ⟨b0, v, none⟩) h1 _
  exact ⟨btw_below6 h.btw q (Nat.le_refl _), h.s.below q h.lt, h.r.otherRow hr (by decide) _ _, h.x.otherRow hr (by decide) _ _, ⟨_, by rw [List.length_set]; exact l0, all_set6 a0 v _ (lvB_nat hu), (hput u).wideB (Nat.le_refl _) (by simp [World.setCell])⟩, ⟨ps, l1, (O1.setRowI hr v _).wide (Nat.le_refl _) (by simp [World.setCell])⟩, h.lt, h.dl⟩
theorem QS.setP (h : QS w b A n c zs K D b0 b1 c0 c1 W) (v : Nat) (u : Bool) (hv : v < 8) : QS w b A n c zs K D b0 b1 c0 c1 (W.setCell ⟨b1, v, none⟩ (.bool u)) := by
  obtain ⟨ls, l0, a0, O⟩ := h.L
  obtain ⟨ps, l1, O1⟩ := h.P
  obtain ⟨b', m, f, e, hc, hf, h1, h2, hr, hput⟩ := O1.put v (by omega)
  have eb : b1 = b' := by injection e with e; injection e
  subst eb
  have q : Below w.heap.size W (W.setCell ⟨b1, v, none⟩ (.bool u)) := (Below.refl _ _).setCell (p := ⟨b1, v, none⟩) h1 _
  exact ⟨btw_below6 h.btw q (Nat.le_refl _), h.s.below q h.lt, h.r.otherRow hr (by decide) _ _, h.x.otherRow hr (by decide) _ _, ⟨ls, l0, a0, (O.setRowB hr v _).wideB (Nat.le_refl _) (by simp [World.setCell])⟩, ⟨_, by rw [List.length_set]; exact l1, (hput u).wide (Nat.le_refl _) (by simp [World.setCell])⟩, h.lt, h.dl⟩
theorem QS.cL (h : QS w b A n c zs K D b0 b1 c0 c1 W) (v : Nat) (hv : v < 8) : (∃ y, W.cell? ⟨b0, v, none⟩ = some y) ∧ W.frozen? ⟨b0, v, none⟩ = false := by
  obtain ⟨ls, l0, a0, O⟩ := h.L
  obtain ⟨b', m, f, e, hc, hf, _⟩ := O.put v (by omega)
  have eb : b0 = b' := by injection e with e; injection e
  subst eb
  exact ⟨⟨_, hc⟩, hf⟩
theorem QS.cP (h : QS w b A n c zs K D b0 b1 c0 c1 W) (v : Nat) (hv : v < 8) : (∃ y, W.cell? ⟨b1, v, none⟩ = some y) ∧ W.frozen? ⟨b1, v, none⟩ = false := by
  obtain ⟨ls, l0, O⟩ := h.P
  obtain ⟨b', m, f, e, hc, hf, _⟩ := O.put v (by omega)
  have eb : b1 = b' := by injection e with e; injection e
  subst eb
  exact ⟨⟨_, hc⟩, hf⟩
end
/-- A drawn controller: valid, of its own. -/
def GivesIrqX (w : World) (R : World → Prop) (e : Ending) (w' : World) : Prop :=
  ∃ ls ps A0 A1 c0 c1, Hid (okIrq ls ps = true) ∧ e = .returned (.agg #[.slice A0 8 c0, .slice A1 8 c1]) ∧ Hid (OwnI w' w.heap.size w'.heap.size A0 ls ∧ OwnB w' w.heap.size w'.heap.size A1 ps) ∧ Hid (R w')
theorem okIrq_mk {ls : List Int} {ps : List Bool} (h : ls.length = 8) (h2 : ps.length = 8) (h3 : ls.all lvB = true) : okIrq ls ps = true := by rw [okIrq_yes _ _ h h2]; exact h3
theorem ownI_blk6 {w : World} {L R : Nat} {A : Option Addr} {zs : List Int} (h : OwnI w L R A zs) (hn : 0 < zs.length) : ∃ ba, A = some ⟨ba, 0, none⟩ := by
  obtain ⟨b, m, f, e, _⟩ := h.put 0 hn
  exact ⟨b, e⟩
theorem ownB_blk6 {w : World} {L R : Nat} {A : Option Addr} {zs : List Bool} (h : OwnB w L R A zs) (hn : 0 < zs.length) : ∃ ba, A = some ⟨ba, 0, none⟩ := by
  obtain ⟨b, m, f, e, _⟩ := h.put 0 hn
  exact ⟨b, e⟩

set_option maxRecDepth 100000 in
set_option maxHeartbeats 16000000 in
theorem srcIrq (b : Nat) (A : Option Addr) (n c : Nat) (zs : List Nat) (K : Nat) (w : World) (hK : K ≤ 100) (h : Src w b A n c zs K) :
    Calls Try.prog 30 #[.pointer (some ⟨b, 0, none⟩)] w (GivesIrqX w (fun w' => Btw b (b + 1) w w')) := by
  have hlt : b < w.heap.size := h.lt
  obtain ⟨W0, hW0⟩ : ∃ W0, W0 = w.alloc (.cells #[.slice none 0 0, .slice none 0 0] 26) := ⟨_, rfl⟩
  have hb0 : Below w.heap.size w W0 := by rw [hW0]; exact alloc_below _ _
  have Y0 : Hid (Box W0 w.heap.size 26 #[.slice none 0 0, .slice none 0 0]) := Lib.hid (by rw [hW0]; exact Box.new _ _ _)
  have S0 := Lib.hid (h.below hb0 hlt)
  have HN := Lib.hid (specNewIrq W0)
  have HW0 := Lib.hid hW0
  have hs0 : W0.heap.size = w.heap.size + 1 := by rw [hW0]; simp
  clear h hW0
  go_enter Try.func30, Try.ntmps30
  go_wp2_with fail
  rw [← HW0.out]
  refine HN.out.mono ?_
  rintro e w2 ⟨B0, B1, c0, c1, rfl, O, hb2⟩
  obtain ⟨D, hD⟩ : ∃ D, D = w2.heap.size := ⟨_, rfl⟩
  obtain ⟨W3, hW3⟩ : ∃ W3, W3 = w2.alloc (.cells #[.slice B0 8 c0, .slice B1 8 c1] 26) := ⟨_, rfl⟩
  have hb3 : Below w2.heap.size w2 W3 := by rw [hW3]; exact alloc_below _ _
  obtain ⟨b0, rfl⟩ := ownI_blk6 O.out.1 (by decide)
  obtain ⟨b1, rfl⟩ := ownB_blk6 O.out.2 (by decide)
  have HM : Hid (QS w b A n c zs K D b0 b1 c0 c1 W3) := Lib.hid ⟨Btw.of_below (bt (bt hb0 hb2) hb3) b (b + 1), (S0.out.below hb2 (by omega)).below hb3 (by have := hb2.size; omega), (Y0.out.step hb2).step hb3, by rw [hW3, hD]; exact Box.new _ _ _,
    ⟨zL, rfl, by decide, (O.out.1.below hb3).wideB (by omega) hb3.size⟩, ⟨zP, rfl, (O.out.2.below hb3).wide (by omega) hb3.size⟩, hlt, by have := hb2.size; omega⟩
  have HW3 := Lib.hid hW3
  clear HN O hW3 hb2 hb3 Y0 S0 HW0 hb0
  go_wp2
  rw [← HW3.out, ← hD]
  clear HW3 hD
  go_loopw [4] (fun q wr => ∃ j : Nat, j ≤ 8 ∧ q = .int .i64 j ∧ Hid (QS w b A n c zs (K + 2 * j) D b0 b1 c0 c1 wr)) (fun q _ => 8 - (intOf q).toNat)
  case atStart => exact ⟨0, by omega, rfl, HM⟩
  case round =>
    clear HM
    obtain ⟨j, hj, rfl, M⟩ := hrel
    have HN8 : Hid (∀ K W, K ≤ 10000 → Hid (QS w b A n c zs K D b0 b1 c0 c1 W) → Calls Try.prog 53 #[.pointer (some ⟨b, 0, none⟩), .int .i64 8] W fun e w' => ∃ v : Nat, e = .returned (.int .i64 v) ∧ v < 8 ∧ Hid (QS w b A n c zs (K + 1) D b0 b1 c0 c1 w')) := Lib.hid (fun K W h3 hM => by
      refine (srcNext 8 b A n c zs K W (by omega) (by omega) (by omega) hM.out.s).mono ?_
      rintro e w' ⟨v, rfl, hv, S, hb⟩
      exact ⟨v, rfl, hv, Lib.hid (hM.out.next S.out hb)⟩)
    have HC3 : Hid (∀ K W, K ≤ 10000 → Hid (QS w b A n c zs K D b0 b1 c0 c1 W) → Calls Try.prog 54 #[.pointer (some ⟨b, 0, none⟩), .int .i64 3] W fun e w' => ∃ v : Bool, e = .returned (.bool v) ∧ Hid (QS w b A n c zs (K + 1) D b0 b1 c0 c1 w')) := Lib.hid (fun K W h3 hM => by
      refine (srcChance 3 b A n c zs K W (by omega) (by omega) (by omega) hM.out.s).mono ?_
      rintro e w' ⟨v, rfl, S, hb⟩
      exact ⟨v, rfl, Lib.hid (hM.out.next S.out hb)⟩)
    by_cases hlt' : j < 8
    · have hi : (j : Int) < 8 := by omega
      have M0 := Lib.hid M.out.drew
      clear M
      go_wp2
      go_region_held3 (fun W' => W'.cell? ⟨D, 0, none⟩ = some (.slice (some ⟨b0, 0, none⟩) 8 c0))
        (first | exact (M1.out.setL j v hlt' hv).x.cell 0 rfl | exact M1.out.x.cell 0 rfl | exact M0.out.x.cell 0 rfl)
        (first
          | (go_at_call 53; refine (HN8.out _ _ (by omega) M0).mono ?_; rintro e w6 ⟨v, rfl, hv, M1⟩; obtain ⟨⟨y, hy⟩, hyz⟩ := M1.out.cL j hlt'))
      all_goals (
        have M3 := Lib.hid ((M1.out.setL j v hlt' hv).drew)
        clear hy hyz M0 M1
        go_wp2
        go_region_held3 (fun W' => W'.cell? ⟨D, 1, none⟩ = some (.slice (some ⟨b1, 0, none⟩) 8 c1))
          (first | exact (M4.out.setP j u hlt').x.cell 1 rfl | exact M4.out.x.cell 1 rfl | exact M3.out.x.cell 1 rfl)
          (first
            | (go_at_call 54; refine (HC3.out _ _ (by omega) M3).mono ?_; rintro e w8 ⟨u, rfl, M4⟩; obtain ⟨⟨y, hy⟩, hyz⟩ := M4.out.cP j hlt'))
        all_goals (
          have M5 := Lib.hid (M4.out.setP j u hlt')
          clear hy hyz M3 M4
          go_wp2
          go_roundw
          case rel => exact ⟨j + 1, by omega, by go_num, Lib.hid (M5.out.mono (by omega))⟩
          case measure => simp [intOf]; omega))
    · obtain rfl : j = 8 := by omega
      have x0 := M.out.x.cell 0 rfl
      have x1 := M.out.x.cell 1 rfl
      have t0 := M.out.r.cell 0 rfl
      have t1 := M.out.r.cell 1 rfl
      have t0z := M.out.r.frozen 0
      have t1z := M.out.r.frozen 1
      have HM := Lib.hid M.out
      clear M HN8 HC3
      go_wp2
      refine bodyPost_ret (v := .agg #[.slice (some ⟨b0, 0, none⟩) 8 c0, .slice (some ⟨b1, 0, none⟩) 8 c1]) (by simp [results, Try.results30, go_sem, t0, t1]) rfl ?_
      obtain ⟨ls, l0, a0, O⟩ := HM.out.L
      obtain ⟨ps, l1, O1⟩ := HM.out.P
      have q : Below w.heap.size wr ((wr.setCell ⟨w.heap.size, 0, none⟩ (.slice (some ⟨b0, 0, none⟩) 8 c0)).setCell ⟨w.heap.size, 1, none⟩ (.slice (some ⟨b1, 0, none⟩) 8 c1)) := ((Below.refl _ _).setCell (p := ⟨w.heap.size, 0, none⟩) (Nat.le_refl _) _).setCell (p := ⟨w.heap.size, 1, none⟩) (Nat.le_refl _) _
      exact ⟨ls, ps, _, _, _, _, Lib.hid (okIrq_mk l0 l1 a0), rfl, Lib.hid ⟨(O.two HM.out.r _ _).wideB (Nat.le_refl _) (by rw [size2]; exact Nat.le_refl _), (O1.two HM.out.r _ _).wide (Nat.le_refl _) (by rw [size2]; exact Nat.le_refl _)⟩, Lib.hid (btw_below6 HM.out.btw q (Nat.le_refl _))⟩

set_option maxRecDepth 100000 in
set_option maxHeartbeats 4000000 in
theorem irqDrawn (A : Option Addr) (n c : Nat) (zs : List Nat) (w : World) (hn : n ≤ maxLen) (hl : zs.length = n) (h : ByB w w.heap.size A zs) :
    Calls Try.prog 10 #[.slice A n c] w (GivesIrqX w (fun w' => Below w.heap.size w w')) := by
  obtain ⟨W0, hW0⟩ : ∃ W0, W0 = w.alloc (.cells #[.slice none 0 0, .slice none 0 0] 26) := ⟨_, rfl⟩
  have hb0 : Below w.heap.size w W0 := by rw [hW0]; exact alloc_below _ _
  have HY0 : Hid (Box W0 w.heap.size 26 #[.slice none 0 0, .slice none 0 0]) := Lib.hid (by rw [hW0]; exact Box.new _ _ _)
  have HC := Lib.hid (srcNew A n c zs W0 hn hl (h.step hb0))
  have HF := Lib.hid (fun W (h : Src W W0.heap.size A n c zs 0) => srcIrq W0.heap.size A n c zs 0 W (by omega) h)
  have HW0 := Lib.hid hW0
  clear hn hl h hW0
  go_enter Try.func10, Try.ntmps10
  go_wp2_with fail
  rw [← HW0.out]
  refine HC.out.mono ?_
  rintro e w1 ⟨rfl, S1, hb1⟩
  have HY1 := Lib.hid (HY0.out.step hb1)
  have hsz : w.heap.size + 1 ≤ W0.heap.size := HY0.out.lt
  go_wp2_with fail
  refine (HF.out w1 S1.out).mono ?_
  rintro e w2 ⟨ls, ps, D0, D1, g0, g1, HO, rfl, HA, B2⟩
  have Y2 := Lib.hid (HY1.out.btw B2.out (.inl (by omega)))
  have HB2 := Lib.hid ((hb0.trans (hb1.mono (by omega))).trans ((B2.out.below (hb1.size)).mono (by omega)))
  have hsz1 : W0.heap.size ≤ w1.heap.size := hb1.size
  have t0 := Y2.out.cell 0 rfl
  have t1 := Y2.out.cell 1 rfl
  have t0z := Y2.out.frozen 0
  have t1z := Y2.out.frozen 1
  clear HC HY0 HY1 S1 B2
  go_wp2
  refine bodyPost_ret (v := .agg #[.slice D0 8 g0, .slice D1 8 g1]) (by simp [results, Try.results10, go_sem, t0, t1]) rfl ?_
  exact ⟨ls, ps, D0, D1, g0, g1, HO, rfl, Lib.hid ⟨(HA.out.1.two Y2.out _ _).wideB (by omega) (by rw [size2]; exact Nat.le_refl _), (HA.out.2.two Y2.out _ _).wide (by omega) (by rw [size2]; exact Nat.le_refl _)⟩, Lib.hid (below2 HB2.out (Nat.le_refl _) _ _)⟩
end Go.Proofs.Ytamfapmkdojhcaa
