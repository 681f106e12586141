/- What the model draws out of a code: DiskOf, TextOf, FatesOf. -/
import Derived.Test.YtoogaaoknpfkoaaSrcDisk
namespace Go.Proofs.Ytoogaaoknpfkoaa
open Go.RowKit

theorem ByB.step {w w' : World} {A : Option Addr} {zs : List Nat} (h : ByB w w.heap.size A zs) (hb : Below w.heap.size w w') : ByB w' w'.heap.size A zs := fun i hi => by
  obtain ⟨b, off, e, q1, q2, q3⟩ := h i hi
  exact ⟨b, off, e, Nat.lt_of_lt_of_le q1 hb.size, (hb.cell q1).trans q2, q3⟩

set_option maxRecDepth 100000 in
set_option maxHeartbeats 4000000 in
theorem fatesOf (A : Option Addr) (n c : Nat) (zs : List Nat) (w : World) (hn : n ≤ maxLen) (hl : zs.length = n) (h : ByB w w.heap.size A zs) :
    Calls Try.prog 27 #[.slice A n c] w (GivesFates (fatesX zs 0 (n % 1000)) (fun w' => Below w.heap.size w w')) := by
  have HC := Lib.hid (srcNewX A n c zs w hn hl h)
  clear hn hl h
  go_enter Try.func27, Try.ntmps27
  go_wp2_with fail
  refine HC.out.mono ?_
  rintro e w1 ⟨rfl, S1, hb1⟩
  go_wp2_with fail
  refine (srcFates w.heap.size A n c zs 0 (n % 1000) w1 (by omega) S1.out).mono ?_
  rintro e w2 ⟨F, nf, cf, rfl, L2, I2, R2⟩
  go_wp2
  refine bodyPost_ret (v := .slice F nf cf) (by simp [results, Try.results27, go_sem]) rfl ?_
  exact ⟨F, nf, cf, rfl, L2, I2, Lib.hid (hb1.trans (R2.out.below hb1.size))⟩

set_option maxRecDepth 100000 in
set_option maxHeartbeats 4000000 in
theorem textOf (N : Nat) (A : Option Addr) (n c : Nat) (zs : List Nat) (w : World) (hN : N ≤ 1000) (hn : n ≤ maxLen) (hl : zs.length = n) (h : ByB w w.heap.size A zs) :
    Calls Try.prog 22 #[.slice A n c, .int .i64 (N : Nat)] w fun e w' => ∃ t : ByteArray, e = .returned (.string t) ∧ t.size = N ∧ Below w.heap.size w w' := by
  have HC := Lib.hid (srcNew A n c zs w hn hl h)
  clear hn hl h
  go_enter Try.func22, Try.ntmps22
  go_wp2_with fail
  refine HC.out.mono ?_
  rintro e w1 ⟨rfl, S1, hb1⟩
  go_wp2_with fail
  refine (srcSome N w.heap.size A n c zs 0 w1 hN (by omega) S1.out).mono ?_
  rintro e w2 ⟨t, rfl, ht, S2, hb2⟩
  go_wp2
  refine bodyPost_ret (v := .string t) (by simp [results, Try.results22, go_sem]) rfl ?_
  exact ⟨t, rfl, ht, hb1.trans (hb2.below hb1.size)⟩

set_option maxRecDepth 100000 in
set_option maxHeartbeats 4000000 in
theorem diskOf (A : Option Addr) (n c : Nat) (zs : List Nat) (w : World) (hn : n ≤ maxLen) (hl : zs.length = n) (h : ByB w w.heap.size A zs) :
    Calls Try.prog 20 #[.slice A n c] w (GivesDrawn w (fun w' => Below w.heap.size w w')) := by
  obtain ⟨W0, hW0⟩ : ∃ W0, W0 = w.alloc (.cells #[.slice none 0 0, .slice none 0 0] 26) := ⟨_, rfl⟩
  have hb0 : Below w.heap.size w W0 := by rw [hW0]; exact alloc_below _ _
  have HY0 : Hid (Box W0 w.heap.size 26 #[.slice none 0 0, .slice none 0 0]) := Lib.hid (by rw [hW0]; exact Box.new _ _ _)
  have HC := Lib.hid (srcNew A n c zs W0 hn hl (h.step hb0))
  have HW0 := Lib.hid hW0
  clear hn hl h hW0
  go_enter Try.func20, Try.ntmps20
  go_wp2_with fail
  rw [← HW0.out]
  refine HC.out.mono ?_
  rintro e w1 ⟨rfl, S1, hb1⟩
  have HY1 := Lib.hid (HY0.out.step hb1)
  have hsz : w.heap.size + 1 ≤ W0.heap.size := HY0.out.lt
  go_wp2_with fail
  refine (srcDisk W0.heap.size A n c zs 0 w1 (by omega) S1.out).mono ?_
  rintro e w2 ⟨ss, ws, A2, n2, c2, C2, m2, d2, HO, hm8, rfl, L2, M2, S2, R2, B2⟩
  have Y2 := Lib.hid (HY1.out.btw B2.out (.inl (by omega)))
  have HB2 := Lib.hid ((hb0.trans (hb1.mono (by omega))).trans ((B2.out.below (hb1.size)).mono (by omega)))
  have hsz1 : W0.heap.size ≤ w1.heap.size := hb1.size
  have g0 := Y2.out.cell 0 rfl
  have g1 := Y2.out.cell 1 rfl
  have g2 := Y2.out.frozen 0
  have g3 := Y2.out.frozen 1
  clear HC HY0 HY1 S1 B2
  go_wp2
  refine bodyPost_ret (v := .agg #[.slice A2 n2 c2, .slice C2 m2 d2]) (by simp [results, Try.results20, go_sem, g0, g1]) rfl ?_
  have es : ((w2.setCell ⟨w.heap.size, 0, none⟩ (.slice A2 n2 c2)).setCell ⟨w.heap.size, 1, none⟩ (.slice C2 m2 d2)).heap.size = w2.heap.size := by simp [World.setCell]
  have q1 : Below w.heap.size w2 ((w2.setCell ⟨w.heap.size, 0, none⟩ (.slice A2 n2 c2)).setCell ⟨w.heap.size, 1, none⟩ (.slice C2 m2 d2)) := ((Below.refl _ _).setCell (p := ⟨w.heap.size, 0, none⟩) (Nat.le_refl _) _).setCell (p := ⟨w.heap.size, 1, none⟩) (Nat.le_refl _) _
  have Y3 := Y2.out.set 0 (.slice A2 n2 c2)
  exact ⟨ss, ws, A2, n2, c2, C2, m2, d2, HO, hm8, rfl, L2, M2, Lib.hid (by rw [es]; exact ((S2.out.far Y2.out 0 _).far Y3 1 _).wide (by omega) (Nat.le_refl _)), Lib.hid (by rw [es]; exact ((R2.out.far Y2.out 0 _).far Y3 1 _).wide (by omega) (Nat.le_refl _)), Lib.hid (HB2.out.trans q1)⟩
end Go.Proofs.Ytoogaaoknpfkoaa
