/- The model's changes of a controller: l06Own, l06Set, SetLevel, Raise, Ack; NewIrq. Written by gen_irqspec.py. -/
import Derived.Test.YtamfapmkdojhcaaIrqImpl
namespace Go.Proofs.Ytamfapmkdojhcaa
open Go.RowKit

theorem wp_app_fresh6 {P : Program} {o : Oper} {a : Act} {w : World} {K : Act → World → Prop} {Q : Exit → Act → World → Prop}
    (s x : Operand) (t : TypeId) (hop : o.op = Op.call { callee := Callee.builtin Builtin.append, args := #[s, x], argTypes := #[t, t] })
    (e : TypeId) (z : Value) (size bytes : Nat) (ht : P.underlying t = some (.slice e)) (hi : ∃ i : TypeInfo, P.info? e = some i ∧ i.zero = some z ∧ i.size = size ∧ i.bytes = bytes) (hzs : z.cells.size = size) (hsz : 0 < size) (b : Addr) (hs : a.eval s = .slice (some b) 0 0)
    (A : Option Addr) (m c : Nat) (hm : 0 < m) (news : List Value) (hx : a.eval x = .slice A m c) (hl : news.length = m * size) (hsrc : ∃ ad, A = some ad ∧ ∀ j u, news[j]? = some u → w.cell? (ad.add j) = some u)
    (h63 : m ≤ maxLen) (hbytes : m * bytes ≤ 140737488355328)
    (h : ∀ A' cap w', Below w.heap.size w w' → Hid (w'.ownsRow w.heap.size e size (.slice A' m cap) m news) → K (a.put o.dst (.slice A' m cap)) w') : Oper.wp P o a w K Q := by
  obtain ⟨i, hi, hz, hsize, hby⟩ := hi
  obtain ⟨A', cap, w', hr, h2, h3⟩ := run_app_fresh (P := P) w t o.type e i z size bytes ht hi hz hsize hby hzs hsz b A m c hm news hl hsrc h63 hbytes
  unfold Oper.wp execOp
  simp only [hop, resolve, invoke, builtin, Sem.run_bind, Sem.run_pure, Result.andThen_ok, List.map_toArray, List.map_cons, List.map_nil, hs, hx, hr]
  exact h A' cap w' h2 (Lib.hid h3)
theorem OwnI.setRowB {w : World} {lo hi : Nat} {A : Option Addr} {zs : List Int} (h : OwnI w lo hi A zs) {b m : Nat} {f : Nat → Value} (hr : w.rowIs b 4 m f) (k : Nat) (u : Value) : OwnI (w.setCell ⟨b, k, none⟩ u) lo hi A zs := by
  rcases h with e | ⟨b', m', f', e, p1, p2, hm, hr', hf⟩
  · exact .inl e
  · exact .inr ⟨b', m', f', e, p1, p2, hm, hr'.setOther (a := ⟨b, k, none⟩) (by exact row_ne hr' hr (by decide)) u, hf⟩
theorem OwnB.setRowI {w : World} {lo hi : Nat} {A : Option Addr} {zs : List Bool} (h : OwnB w lo hi A zs) {b m : Nat} {f : Nat → Value} (hr : w.rowIs b 3 m f) (k : Nat) (u : Value) : OwnB (w.setCell ⟨b, k, none⟩ u) lo hi A zs := by
  rcases h with e | ⟨b', m', f', e, p1, p2, hm, hr', hf⟩
  · exact .inl e
  · exact .inr ⟨b', m', f', e, p1, p2, hm, hr'.setOther (a := ⟨b, k, none⟩) (by exact row_ne hr' hr (by decide)) u, hf⟩
theorem OwnI.two {w : World} {lo hi : Nat} {A : Option Addr} {zs : List Int} (h : OwnI w lo hi A zs) {b : Nat} {cs : Array Value} (X : Box w b 26 cs) (u0 u1 : Value) : OwnI ((w.setCell ⟨b, 0, none⟩ u0).setCell ⟨b, 1, none⟩ u1) lo hi A zs := (h.farB X (by decide) 0 u0).farB (X.set 0 u0) (by decide) 1 u1
theorem OwnB.two {w : World} {lo hi : Nat} {A : Option Addr} {zs : List Bool} (h : OwnB w lo hi A zs) {b : Nat} {cs : Array Value} (X : Box w b 26 cs) (u0 u1 : Value) : OwnB ((w.setCell ⟨b, 0, none⟩ u0).setCell ⟨b, 1, none⟩ u1) lo hi A zs := (h.far X (by decide) 0 u0).far (X.set 0 u0) (by decide) 1 u1
theorem Box.far2 {w : World} {b b' : Nat} {t : TypeId} {cs : Array Value} (X : Box w b t cs) (hb : b ≠ b') (u0 u1 : Value) : Box ((w.setCell ⟨b', 0, none⟩ u0).setCell ⟨b', 1, none⟩ u1) b t cs := (X.far (p := ⟨b', 0, none⟩) hb u0).far (p := ⟨b', 1, none⟩) hb u1
theorem Box.otherRow {w : World} {b b' : Nat} {t t' : TypeId} {cs : Array Value} (X : Box w b t cs) {m : Nat} {f : Nat → Value} (hr : w.rowIs b' t' m f) (ht : t ≠ t') (k : Nat) (u : Value) : Box (w.setCell ⟨b', k, none⟩ u) b t cs := X.far (p := ⟨b', k, none⟩) (by exact X.ne hr ht) u

/-- A controller of the call's own, by its two rows. -/
def GivesQ (ls : List Int) (ps : List Bool) (w : World) (e : Ending) (w' : World) : Prop :=
  ∃ A0 A1 c0 c1, e = .returned (.agg #[.slice A0 8 c0, .slice A1 8 c1]) ∧ Hid (OwnI w' w.heap.size w'.heap.size A0 ls ∧ OwnB w' w.heap.size w'.heap.size A1 ps) ∧ Below w.heap.size w w'
theorem GivesQ.irq {ls : List Int} {ps : List Bool} {w w' : World} {e : Ending} (h : GivesQ ls ps w e w') (h1 : ls.length = 8) (h2 : ps.length = 8) : GivesIrq ls ps w e w' := by
  obtain ⟨A0, A1, c0, c1, rfl, O, hb⟩ := h
  refine ⟨A0, A1, c0, c1, rfl, Lib.hid ?_, hb⟩
  have := ownIB (c := c0) (d := c1) O.out.1 O.out.2
  rwa [h1, h2] at this
def ownQ (M : Nat) (s0 s1 : Value) (d0 : List Int) (d1 : List Bool) : Nat → (Nat → Value) → World → Prop
  | 0, t, _ => ∃ b, t 3 = .slice (some b) 0 0
  | 1, t, _ => t 4 = .pointer (some ⟨M, 0, none⟩)
  | 2, t, _ => t 5 = s0
  | 3, t, w => ∃ A c, t 6 = .slice A 8 c ∧ OwnI w M w.heap.size A d0
  | 4, t, _ => ∃ b, t 7 = .slice (some b) 0 0
  | 5, t, _ => t 8 = .pointer (some ⟨M, 1, none⟩)
  | 6, t, _ => t 9 = s1
  | 7, t, w => ∃ A c A' c', t 6 = .slice A 8 c ∧ t 10 = .slice A' 8 c' ∧ OwnI w M w.heap.size A d0 ∧ OwnB w M w.heap.size A' d1
  | 8, t, _ => ∃ A c A' c', t 6 = .slice A 8 c ∧ t 10 = .slice A' 8 c' ∧ t 11 = .agg #[.slice A 8 c, .slice A' 8 c']
  | 9, t, w => ∃ A c A' c', t 6 = .slice A 8 c ∧ t 10 = .slice A' 8 c' ∧ Box w (M + 1) 26 #[.slice A 8 c, .slice A' 8 c']
  | _, _, _ => True
section
variable {M : Nat} {s0 s1 : Value} {d0 : List Int} {d1 : List Bool} {w w' : World}
theorem ownQ_below (k : Below w.heap.size w w') : ∀ (j : Nat) (t : Nat → Value), ownQ M s0 s1 d0 d1 j t w → ownQ M s0 s1 d0 d1 j t w'
  | 0, _, h | 1, _, h | 2, _, h | 4, _, h | 5, _, h | 6, _, h | 8, _, h => h
  | 3, _, ⟨A, c, e, h⟩ => ⟨A, c, e, (h.below k).wideB (Nat.le_refl _) k.size⟩
  | 7, _, ⟨A, c, A', c', e, e2, h, h2⟩ => ⟨A, c, A', c', e, e2, (h.below k).wideB (Nat.le_refl _) k.size, (h2.below k).wide (Nat.le_refl _) k.size⟩
  | 9, _, ⟨A, c, A', c', e, e2, h⟩ => ⟨A, c, A', c', e, e2, h.step k⟩
  | _ + 10, _, _ => trivial
theorem ownQ_store {ys : Array Value} (Y : Box w (M + 1) 26 ys) (i : Nat) (u : Value) : ∀ (j : Nat) (t : Nat → Value), j ≠ 9 → ownQ M s0 s1 d0 d1 j t w → ownQ M s0 s1 d0 d1 j t (w.setCell ⟨M + 1, i, none⟩ u)
  | 0, _, _, h | 1, _, _, h | 2, _, _, h | 4, _, _, h | 5, _, _, h | 6, _, _, h | 8, _, _, h => h
  | 3, _, _, ⟨A, c, e, h⟩ => ⟨A, c, e, (h.farB Y (by decide) i u).wideB (Nat.le_refl _) (by simp [World.setCell])⟩
  | 7, _, _, ⟨A, c, A', c', e, e2, h, h2⟩ => ⟨A, c, A', c', e, e2, (h.farB Y (by decide) i u).wideB (Nat.le_refl _) (by simp [World.setCell]), (h2.far Y (by decide) i u).wide (Nat.le_refl _) (by simp [World.setCell])⟩
  | 9, _, n, _ => (n rfl).elim
  | _ + 10, _, _, _ => trivial
end

set_option maxRecDepth 100000 in
set_option maxHeartbeats 4000000 in
theorem l06Own (A0 A1 : Option Addr) (c0 c1 : Nat) (d0 : List Int) (d1 : List Bool) (w : World) (l0 : d0.length = 8) (l1 : d1.length = 8) (h0 : IntL w A0 d0) (h1 : BoolL w A1 d1) :
    Calls Try.prog 51 #[.agg #[.slice A0 8 c0, .slice A1 8 c1]] w (GivesQ d0 d1 w) := by
  obtain ⟨W0, hW0⟩ : ∃ W0, W0 = ((w.alloc (.cells #[.slice A0 8 c0, .slice A1 8 c1] 26)).alloc (.cells #[.slice none 0 0, .slice none 0 0] 26)) := ⟨_, rfl⟩
  have hb0 : Below w.heap.size w W0 := by rw [hW0]; exact bt (alloc_below _ _) (alloc_below _ _)
  have X0 : Box W0 w.heap.size 26 #[.slice A0 8 c0, .slice A1 8 c1] := by rw [hW0]; exact (Box.new _ _ _).alloc _
  have Y0 : Box W0 (w.heap.size + 1) 26 #[.slice none 0 0, .slice none 0 0] := by rw [hW0]; simpa using Box.new (w.alloc (.cells #[.slice A0 8 c0, .slice A1 8 c1] 26)) 26 #[.slice none 0 0, .slice none 0 0]
  have HB : Hid (∀ W, RQ W0 w.heap.size W → Below w.heap.size w W) := Lib.hid (fun W r => hb0.trans (r.1.mono (by omega)))
  have HS0 := Lib.hid (fun W (r : RQ W0 w.heap.size W) => (h0.below (HB.out _ r)).src (by omega))
  have HS1 := Lib.hid (fun W (r : RQ W0 w.heap.size W) => (h1.below (HB.out _ r)).src (by omega))
  have HN : Hid ((cellsI d0).length = 8 * 1 ∧ (cellsB d1).length = 8 * 1) := Lib.hid ⟨by rw [cellsI_len]; omega, by rw [cellsB_len]; omega⟩
  have HK : Hid (∀ W', RQ W0 w.heap.size W' → W'.cell? ⟨w.heap.size, 0, none⟩ = some (.slice A0 8 c0) ∧ W'.cell? ⟨w.heap.size, 1, none⟩ = some (.slice A1 8 c1)) := Lib.hid (fun W' r => by
    have X := X0.below r.1 (by omega)
    exact ⟨X.cell 0 rfl, X.cell 1 rfl⟩)
  have hs0 : W0.heap.size = w.heap.size + 2 := by rw [hW0]; simp
  have HW0 := Lib.hid hW0
  have R0 : RQ W0 w.heap.size W0.drew := ⟨(Below.refl _ _).drew, by show w.heap.size + 1 ≤ W0.heap.size; omega, _, rfl, Y0⟩
  clear l0 l1 h0 h1 X0 Y0 hW0 hs0 hb0
  go_enter Try.func51, Try.ntmps51
  go_wp2
  rw [← HW0.out]
  refine wp_region_facts (by kernel_rfl) [[3], [4], [5], [6], [7], [8], [9], [6, 10], [6, 10, 11], [6, 10]] [[], [], [1], [0, 1, 2], [], [], [5], [4, 5, 6, 3, 0, 1, 2], [7, 4, 5, 6, 3, 0, 1, 2], [0, 1, 2, 3, 4, 5, 6, 7, 8]] [0, 1, 2] (by kernel_rfl) (RQ W0 w.heap.size) (ownQ w.heap.size (.slice A0 8 c0) (.slice A1 8 c1) d0 d1) R0 ?_ ?_
  · refine ⟨?_, ?_, ?_, ?_, ?_, ?_, ?_, ?_, ?_, ?_, trivial⟩
    · intro T W hT hs hC hF K hK
      obtain ⟨t0, t1, t2, t3, t4, t5, t6, t7, t8, t9, t10, t11, rfl⟩ := arr12 T hT
      obtain rfl : t1 = .pointer (some ⟨w.heap.size, 0, none⟩) := hs 1 (by decide)
      obtain rfl : t2 = .pointer (some ⟨w.heap.size + 1, 0, none⟩) := hs 2 (by decide)
      clear hF hs hT
      have k := alloc_below W (.cells #[] 3)
      go_simp
      exact hK.out _ _ (hC.alloc _) (fun j t _ h => ownQ_below k j t h) ⟨_, rfl⟩
    · intro T W hT hs hC hF K hK
      obtain ⟨t0, t1, t2, t3, t4, t5, t6, t7, t8, t9, t10, t11, rfl⟩ := arr12 T hT
      obtain rfl : t1 = .pointer (some ⟨w.heap.size, 0, none⟩) := hs 1 (by decide)
      obtain rfl : t2 = .pointer (some ⟨w.heap.size + 1, 0, none⟩) := hs 2 (by decide)
      clear hF hs hT
      go_simp
      exact hK.out _ W hC (fun _ _ _ h => h) rfl
    · intro T W hT hs hC hF K hK
      obtain ⟨t0, t1, t2, t3, t4, t5, t6, t7, t8, t9, t10, t11, rfl⟩ := arr12 T hT
      obtain rfl : t1 = .pointer (some ⟨w.heap.size, 0, none⟩) := hs 1 (by decide)
      obtain rfl : t2 = .pointer (some ⟨w.heap.size + 1, 0, none⟩) := hs 2 (by decide)
      have f1 := hF 1 (by decide)
      simp only [ownQ, mask] at f1
      clear hF hs hT
      subst f1
      have k := (HK.out W hC).1
      go_simp
      exact hK.out _ W hC (fun _ _ _ h => h) rfl
    · intro T W hT hs hC hF K hK
      obtain ⟨t0, t1, t2, t3, t4, t5, t6, t7, t8, t9, t10, t11, rfl⟩ := arr12 T hT
      obtain rfl : t1 = .pointer (some ⟨w.heap.size, 0, none⟩) := hs 1 (by decide)
      obtain rfl : t2 = .pointer (some ⟨w.heap.size + 1, 0, none⟩) := hs 2 (by decide)
      have f0 := hF 0 (by decide)
      simp only [ownQ, mask] at f0
      have f2 := hF 2 (by decide)
      simp only [ownQ, mask] at f2
      clear hF hs hT
      obtain ⟨b, e3⟩ := f0
      subst e3 f2
      refine wp_app_fresh6 (.tmp 3) (.tmp 5) 23 rfl 3 (.int .i64 0) 1 8 Try.underlying23 infoIx rfl (by decide) b rfl A0 8 c0 (by omega) (cellsI d0) rfl HN.out.1 (HS0.out _ hC) (by unfold maxLen; omega) (by omega) ?_
      intro A c w1 k O
      exact hK.out _ w1 (hC.step k) (fun j t _ h => ownQ_below k j t h) ⟨A, c, rfl, ownI_fresh O.out (by omega) (HB.out _ hC).size⟩
    · intro T W hT hs hC hF K hK
      obtain ⟨t0, t1, t2, t3, t4, t5, t6, t7, t8, t9, t10, t11, rfl⟩ := arr12 T hT
      obtain rfl : t1 = .pointer (some ⟨w.heap.size, 0, none⟩) := hs 1 (by decide)
      obtain rfl : t2 = .pointer (some ⟨w.heap.size + 1, 0, none⟩) := hs 2 (by decide)
      clear hF hs hT
      have k := alloc_below W (.cells #[] 4)
      go_simp
      exact hK.out _ _ (hC.alloc _) (fun j t _ h => ownQ_below k j t h) ⟨_, rfl⟩
    · intro T W hT hs hC hF K hK
      obtain ⟨t0, t1, t2, t3, t4, t5, t6, t7, t8, t9, t10, t11, rfl⟩ := arr12 T hT
      obtain rfl : t1 = .pointer (some ⟨w.heap.size, 0, none⟩) := hs 1 (by decide)
      obtain rfl : t2 = .pointer (some ⟨w.heap.size + 1, 0, none⟩) := hs 2 (by decide)
      clear hF hs hT
      go_simp
      exact hK.out _ W hC (fun _ _ _ h => h) rfl
    · intro T W hT hs hC hF K hK
      obtain ⟨t0, t1, t2, t3, t4, t5, t6, t7, t8, t9, t10, t11, rfl⟩ := arr12 T hT
      obtain rfl : t1 = .pointer (some ⟨w.heap.size, 0, none⟩) := hs 1 (by decide)
      obtain rfl : t2 = .pointer (some ⟨w.heap.size + 1, 0, none⟩) := hs 2 (by decide)
      have f5 := hF 5 (by decide)
      simp only [ownQ, mask] at f5
      clear hF hs hT
      subst f5
      have k := (HK.out W hC).2
      go_simp
      exact hK.out _ W hC (fun _ _ _ h => h) rfl
    · intro T W hT hs hC hF K hK
      obtain ⟨t0, t1, t2, t3, t4, t5, t6, t7, t8, t9, t10, t11, rfl⟩ := arr12 T hT
      obtain rfl : t1 = .pointer (some ⟨w.heap.size, 0, none⟩) := hs 1 (by decide)
      obtain rfl : t2 = .pointer (some ⟨w.heap.size + 1, 0, none⟩) := hs 2 (by decide)
      have f4 := hF 4 (by decide)
      simp only [ownQ, mask] at f4
      have f6 := hF 6 (by decide)
      simp only [ownQ, mask] at f6
      have f3 := hF 3 (by decide)
      simp only [ownQ, mask] at f3
      clear hF hs hT
      obtain ⟨b, e3⟩ := f4
      obtain ⟨A, c, e6, O6⟩ := f3
      subst e3 f6 e6
      have H6 := Lib.hid O6
      clear O6
      refine wp_app_fresh6 (.tmp 7) (.tmp 9) 24 rfl 4 (.bool false) 1 1 Try.underlying24 infoBx rfl (by decide) b rfl A1 8 c1 (by omega) (cellsB d1) rfl HN.out.2 (HS1.out _ hC) (by unfold maxLen; omega) (by omega) ?_
      intro A' c' w1 k O
      exact hK.out _ w1 (hC.step k) (fun j t _ h => ownQ_below k j t h) ⟨A, c, A', c', rfl, rfl, (H6.out.below k).wideB (Nat.le_refl _) k.size, ownB_fresh O.out (by omega) (HB.out _ hC).size⟩
    · intro T W hT hs hC hF K hK
      obtain ⟨t0, t1, t2, t3, t4, t5, t6, t7, t8, t9, t10, t11, rfl⟩ := arr12 T hT
      obtain rfl : t1 = .pointer (some ⟨w.heap.size, 0, none⟩) := hs 1 (by decide)
      obtain rfl : t2 = .pointer (some ⟨w.heap.size + 1, 0, none⟩) := hs 2 (by decide)
      have f7 := hF 7 (by decide)
      simp only [ownQ, mask] at f7
      clear hF hs hT
      obtain ⟨A, c, A', c', e6, e10, O6, O10⟩ := f7
      subst e6 e10
      clear O6 O10
      go_simp
      exact hK.out _ W hC (fun _ _ _ h => h) ⟨A, c, A', c', rfl, rfl, rfl⟩
    · intro T W hT hs hC hF K hK
      obtain ⟨t0, t1, t2, t3, t4, t5, t6, t7, t8, t9, t10, t11, rfl⟩ := arr12 T hT
      obtain rfl : t1 = .pointer (some ⟨w.heap.size, 0, none⟩) := hs 1 (by decide)
      obtain rfl : t2 = .pointer (some ⟨w.heap.size + 1, 0, none⟩) := hs 2 (by decide)
      have f8 := hF 8 (by decide)
      simp only [ownQ, mask] at f8
      clear hF hs hT
      obtain ⟨A, c, A', c', e6, e10, e11⟩ := f8
      subst e6 e10 e11
      obtain ⟨hCa, hCb, ys, hys, Y⟩ := hC
      have y0 := YV2.of Y hys 0 (by omega)
      have y1 := YV2.of Y hys 1 (by omega)
      have z0 := Y.frozen 0
      have z1 := Y.frozen 1
      have HYs := Lib.hid (And.intro hys Y)
      have hC : RQ W0 w.heap.size W := ⟨hCa, hCb, ys, hys, Y⟩
      clear hys Y hCa hCb
      go_simp
      exact hK.out undef _ ((hC.set 0 _).set 1 _) (fun j t n h => ownQ_store (HYs.out.2.set 0 _) 1 _ j t n (ownQ_store HYs.out.2 0 _ j t n h)) ⟨A, c, A', c', rfl, rfl, HYs.out.2.all2 HYs.out.1 _ _⟩
  · intro T W hT hs hC hF
    obtain ⟨t0, t1, t2, t3, t4, t5, t6, t7, t8, t9, t10, t11, rfl⟩ := arr12 T hT
    obtain rfl : t1 = .pointer (some ⟨w.heap.size, 0, none⟩) := hs 1 (by decide)
    obtain rfl : t2 = .pointer (some ⟨w.heap.size + 1, 0, none⟩) := hs 2 (by decide)
    obtain ⟨A, c, A', c', e6, e10, O6, O10⟩ := hF 7 (by decide)
    obtain ⟨x1, x2, x3, x4, f6, f10, Y⟩ := hF 9 (by decide)
    have E1 : Value.slice A 8 c = .slice x1 8 x2 := (show t6 = _ from e6).symm.trans f6
    have E2 : Value.slice A' 8 c' = .slice x3 8 x4 := (show t10 = _ from e10).symm.trans f10
    simp only [Value.slice.injEq, true_and] at E1 E2
    obtain ⟨r1, r2⟩ := E1
    obtain ⟨r3, r4⟩ := E2
    subst r1 r2 r3 r4
    have y0 := Y.cell 0 rfl
    have y1 := Y.cell 1 rfl
    have HR : Hid (OwnI W w.heap.size W.heap.size A d0 ∧ OwnB W w.heap.size W.heap.size A' d1) := Lib.hid ⟨O6, O10⟩
    have HBw := Lib.hid (HB.out _ hC)
    clear e6 e10 f6 f10 O6 O10 Y hF hs hT hC R0
    go_wp2
    refine bodyPost_ret (v := .agg #[.slice A 8 c, .slice A' 8 c']) (by simp [results, Try.results51, go_sem, y0, y1]) rfl ?_
    exact ⟨A, A', c, c', rfl, HR, HBw.out⟩

set_option maxRecDepth 100000 in
set_option maxHeartbeats 2000000 in
theorem l06Set (A0 A1 : Option Addr) (c0 c1 : Nat) (d0 : List Int) (d1 : List Bool) (w : World) (k : Nat) (x : Bool) (hk : k < 8) (l0 : d0.length = 8) (l1 : d1.length = 8) (h0 : IntL w A0 d0) (h1 : BoolL w A1 d1) :
    Calls Try.prog 52 #[.agg #[.slice A0 8 c0, .slice A1 8 c1], .int .i64 k, .bool x] w (GivesQ d0 (d1.set k x) w) := by
  obtain ⟨W0, hW0⟩ : ∃ W0, W0 = ((w.alloc (.cells #[.slice A0 8 c0, .slice A1 8 c1] 26)).alloc (.cells #[.slice none 0 0, .slice none 0 0] 26)) := ⟨_, rfl⟩
  have hbq : Below w.heap.size w W0 := by rw [hW0]; exact bt (alloc_below _ _) (alloc_below _ _)
  have X : Hid (Box W0 w.heap.size 26 #[.slice A0 8 c0, .slice A1 8 c1]) := Lib.hid (by rw [hW0]; exact (Box.new _ _ _).alloc _)
  have Y : Hid (Box W0 (w.heap.size + 1) 26 #[.slice none 0 0, .slice none 0 0]) := Lib.hid (by rw [hW0]; simpa using Box.new (w.alloc (.cells #[.slice A0 8 c0, .slice A1 8 c1] 26)) 26 #[.slice none 0 0, .slice none 0 0])
  have HO := Lib.hid (l06Own A0 A1 c0 c1 d0 d1 W0 l0 l1 (h0.below hbq) (h1.below hbq))
  have HLn := Lib.hid (And.intro l0 l1)
  have HW0 := Lib.hid hW0
  clear l0 l1 h0 h1 hW0
  go_enter Try.func52, Try.ntmps52
  go_wp2_with fail
  rw [← HW0.out]
  refine HO.out.mono ?_
  rintro e w2 ⟨B0, B1, g0, g1, rfl, O, hb2⟩
  have X1 := X.out.step hb2
  have Y1 := Y.out.step hb2
  have a0 := X1.cell 0 rfl
  have a1 := X1.cell 1 rfl
  have a0z := X1.frozen 0
  have a1z := X1.frozen 1
  obtain ⟨w3, hw3⟩ : ∃ w3, w3 = (w2.setCell ⟨w.heap.size, 0, none⟩ (.slice B0 8 g0)).setCell ⟨w.heap.size, 1, none⟩ (.slice B1 8 g1) := ⟨_, rfl⟩
  have X2 : Box w3 w.heap.size 26 #[.slice B0 8 g0, .slice B1 8 g1] := by rw [hw3]; exact X1.all2 rfl _ _
  have Y2 : Box w3 (w.heap.size + 1) 26 #[.slice none 0 0, .slice none 0 0] := by rw [hw3]; exact Y1.far2 (by omega) _ _
  have OI : OwnI w3 w.heap.size w3.heap.size B0 d0 := by rw [hw3]; exact (O.out.1.two X1 _ _).wideB hbq.size (by rw [size2]; exact Nat.le_refl _)
  have OB : OwnB w3 w.heap.size w3.heap.size B1 d1 := by rw [hw3]; exact (O.out.2.two X1 _ _).wide hbq.size (by rw [size2]; exact Nat.le_refl _)
  have hb3 : Below w.heap.size w w3 := by rw [hw3]; exact below2 (bt hbq hb2) (Nat.le_refl _) _ _
  obtain ⟨bx, mx, fx, rfl, hcx, hfx, hlo, hhi, hrx, hput⟩ := OB.put k (by rw [HLn.out.2]; exact hk)
  have X3 := X2.otherRow hrx (by decide) k (.bool x)
  have Y3 := Y2.otherRow hrx (by decide) k (.bool x)
  have u0 := X3.cell 0 rfl
  have u1 := X3.cell 1 rfl
  have t0 := Y3.cell 0 rfl
  have t1 := Y3.cell 1 rfl
  have t0z := Y3.frozen 0
  have t1z := Y3.frozen 1
  have HFin : Hid (OwnI (w3.setCell ⟨bx, k, none⟩ (.bool x)) w.heap.size w3.heap.size B0 d0 ∧ OwnB (w3.setCell ⟨bx, k, none⟩ (.bool x)) w.heap.size w3.heap.size (some ⟨bx, 0, none⟩) (d1.set k x)) := Lib.hid ⟨OI.setRowB hrx k _, hput x⟩
  have HY3 := Lib.hid Y3
  have HB3 := Lib.hid (And.intro (hb3.setCell (p := ⟨bx, k, none⟩) hlo (.bool x)) hw3)
  rw [hw3] at hcx hfx u0 u1 t0 t1 t0z t1z
  generalize d1.getD k false = old at hcx
  have hki : (k : Int) < 8 := by omega
  clear X1 Y1 O hb2 hw3 X2 Y2 OI OB hb3 hlo hhi hrx hput X3 Y3 X Y HO fx
  go_wp2
  refine bodyPost_ret (v := .agg #[.slice B0 8 g0, .slice (some ⟨bx, 0, none⟩) 8 g1]) (by simp [results, Try.results52, go_sem, t0, t1]) rfl ?_
  rw [← HB3.out.2]
  exact ⟨_, _, _, _, rfl, Lib.hid ⟨(HFin.out.1.two HY3.out _ _).wideB (Nat.le_refl _) (by rw [size2]; simp [World.setCell]), (HFin.out.2.two HY3.out _ _).wide (Nat.le_refl _) (by rw [size2]; simp [World.setCell])⟩, below2 HB3.out.1 (by omega) _ _⟩

set_option maxRecDepth 100000 in
set_option maxHeartbeats 4000000 in
theorem specRaise (A0 A1 : Option Addr) (n0 n1 c0 c1 : Nat) (d0 : List Int) (d1 : List Bool) (w : World) (n : Int) (l0 : d0.length = n0) (l1 : d1.length = n1) (m0 : n0 ≤ maxLen) (m1 : n1 ≤ maxLen) (h0 : IntL w A0 d0) (h1 : BoolL w A1 d1) :
    Calls Try.prog 27 #[.agg #[.slice A0 n0 c0, .slice A1 n1 c1], .int .i64 n] w (GivesIrqCode (pendF d0 d1 n true) w) := by
  obtain ⟨W0, hW0⟩ : ∃ W0, W0 = ((w.alloc (.cells #[.slice A0 n0 c0, .slice A1 n1 c1] 26)).alloc (.cells #[.slice none 0 0, .slice none 0 0] 26)) := ⟨_, rfl⟩
  have hb0 : Below w.heap.size w W0 := by rw [hW0]; exact bt (alloc_below _ _) (alloc_below _ _)
  have X0 : Hid (Box W0 w.heap.size 26 #[.slice A0 n0 c0, .slice A1 n1 c1]) := Lib.hid (by rw [hW0]; exact (Box.new _ _ _).alloc _)
  have Y0 : Hid (Box W0 (w.heap.size + 1) 26 #[.slice none 0 0, .slice none 0 0]) := Lib.hid (by rw [hW0]; simpa using Box.new (w.alloc (.cells #[.slice A0 n0 c0, .slice A1 n1 c1] 26)) 26 #[.slice none 0 0, .slice none 0 0])
  have HC := Lib.hid (l06Ask A0 A1 n0 n1 c0 c1 d0 d1 W0 n l0 l1 m0 m1 (h0.below hb0))
  have H := Lib.hid (And.intro (And.intro l0 l1) (And.intro h0 h1))
  obtain ⟨r, hr⟩ : ∃ r, pendF d0 d1 n true = r := ⟨_, rfl⟩
  rw [hr]
  have HR := Lib.hid hr
  have HW0 := Lib.hid hW0
  clear l0 l1 m0 m1 h0 h1 hW0 hr
  go_enter Try.func27, Try.ntmps27
  go_wp2_with fail
  rw [← HW0.out]
  refine HC.out.mono ?_
  rintro e w1 ⟨rfl, hb1⟩
  have hbq := bt hb0 hb1
  have Y := Lib.hid (Y0.out.step hb1)
  have X := Lib.hid (X0.out.step hb1)
  have s0 := Y.out.cell 0 rfl
  have s1 := Y.out.cell 1 rfl
  have s0z := Y.out.frozen 0
  have s1z := Y.out.frozen 1
  by_cases hc : lineC d0 d1 n = 0
  · have hcb : (lineC d0 d1 n != 0) = false := by simp [hc]
    obtain ⟨hok, hln⟩ := lineC_zero hc
    obtain ⟨q0, q1, -⟩ := okIrq_len hok
    obtain rfl : n0 = 8 := by have := H.out.1.1; omega
    obtain rfl : n1 = 8 := by have := H.out.1.2; omega
    obtain ⟨k, rfl⟩ : ∃ k : Nat, n = k := ⟨n.toNat, by have := lvB_range hln; omega⟩
    have hk : k < 8 := by have := lvB_range hln; omega
    have HLn := Lib.hid (And.intro q0 q1)
    have f0 := X.out.cell 0 rfl
    have f1 := X.out.cell 1 rfl
    have HO := Lib.hid (l06Set A0 A1 c0 c1 d0 d1 w1 k true hk q0 q1 (H.out.2.1.below hbq) (H.out.2.2.below hbq))
    have HRz : Hid (r = (d0, d1.set k true, 0)) := Lib.hid (by rw [← HR.out]; unfold pendF; rw [if_pos hc]; rfl)
    have HL2 : Hid ((d1.set k true).length = 8) := Lib.hid (by rw [List.length_set]; exact q1)
    generalize d1.set k true = new at HO HRz HL2
    clear HC hok hln X0 Y0 H HW0 q0 q1 hc HR
    go_wp2_with fail
    refine HO.out.mono ?_
    rintro e w2 ⟨B0, B1, g0, g1, rfl, O, hb2⟩
    have Y2 := Y.out.step hb2
    have t0 := Y2.cell 0 rfl
    have t1 := Y2.cell 1 rfl
    have t0z := Y2.frozen 0
    have t1z := Y2.frozen 1
    have HY2 := Lib.hid Y2
    clear Y2 HO s0 s1 s0z s1z f0 f1
    go_wp2
    refine bodyPost_ret (v := .tuple #[.agg #[.slice B0 8 g0, .slice B1 8 g1], .int .i64 0]) (by simp [results, Try.results27, go_sem, t0, t1]) rfl ?_
    rw [HRz.out]
    refine ⟨B0, B1, g0, g1, ?_, Lib.hid ?_, below2 (bt hbq hb2) (by omega) _ _⟩
    · show _ = Ending.returned (.tuple #[.agg #[.slice B0 d0.length g0, .slice B1 new.length g1], .int .i64 0])
      rw [HLn.out.1, HL2.out]
    · exact ownIB ((O.out.1.two HY2.out _ _).wideB hbq.size (by rw [size2]; exact Nat.le_refl _)) ((O.out.2.two HY2.out _ _).wide hbq.size (by rw [size2]; exact Nat.le_refl _))
  · have hcb : (lineC d0 d1 n != 0) = true := by simp [hc]
    have HRz : Hid (r = ([], [], lineC d0 d1 n)) := Lib.hid (by rw [← HR.out]; unfold pendF; rw [if_neg hc])
    generalize lineC d0 d1 n = cd at hcb hc HRz
    clear HR HC X0 Y0 X H HW0 hc
    go_wp2
    refine bodyPost_ret (v := .tuple #[.agg #[.slice none 0 0, .slice none 0 0], .int .i64 cd]) (by simp [results, Try.results27, go_sem, s0, s1]) rfl ?_
    rw [HRz.out]
    exact gives_none cd (below2 hbq (by omega) _ _)

set_option maxRecDepth 100000 in
set_option maxHeartbeats 4000000 in
theorem specAck (A0 A1 : Option Addr) (n0 n1 c0 c1 : Nat) (d0 : List Int) (d1 : List Bool) (w : World) (n : Int) (l0 : d0.length = n0) (l1 : d1.length = n1) (m0 : n0 ≤ maxLen) (m1 : n1 ≤ maxLen) (h0 : IntL w A0 d0) (h1 : BoolL w A1 d1) :
    Calls Try.prog 28 #[.agg #[.slice A0 n0 c0, .slice A1 n1 c1], .int .i64 n] w (GivesIrqCode (pendF d0 d1 n false) w) := by
  obtain ⟨W0, hW0⟩ : ∃ W0, W0 = ((w.alloc (.cells #[.slice A0 n0 c0, .slice A1 n1 c1] 26)).alloc (.cells #[.slice none 0 0, .slice none 0 0] 26)) := ⟨_, rfl⟩
  have hb0 : Below w.heap.size w W0 := by rw [hW0]; exact bt (alloc_below _ _) (alloc_below _ _)
  have X0 : Hid (Box W0 w.heap.size 26 #[.slice A0 n0 c0, .slice A1 n1 c1]) := Lib.hid (by rw [hW0]; exact (Box.new _ _ _).alloc _)
  have Y0 : Hid (Box W0 (w.heap.size + 1) 26 #[.slice none 0 0, .slice none 0 0]) := Lib.hid (by rw [hW0]; simpa using Box.new (w.alloc (.cells #[.slice A0 n0 c0, .slice A1 n1 c1] 26)) 26 #[.slice none 0 0, .slice none 0 0])
  have HC := Lib.hid (l06Ask A0 A1 n0 n1 c0 c1 d0 d1 W0 n l0 l1 m0 m1 (h0.below hb0))
  have H := Lib.hid (And.intro (And.intro l0 l1) (And.intro h0 h1))
  obtain ⟨r, hr⟩ : ∃ r, pendF d0 d1 n false = r := ⟨_, rfl⟩
  rw [hr]
  have HR := Lib.hid hr
  have HW0 := Lib.hid hW0
  clear l0 l1 m0 m1 h0 h1 hW0 hr
  go_enter Try.func28, Try.ntmps28
  go_wp2_with fail
  rw [← HW0.out]
  refine HC.out.mono ?_
  rintro e w1 ⟨rfl, hb1⟩
  have hbq := bt hb0 hb1
  have Y := Lib.hid (Y0.out.step hb1)
  have X := Lib.hid (X0.out.step hb1)
  have s0 := Y.out.cell 0 rfl
  have s1 := Y.out.cell 1 rfl
  have s0z := Y.out.frozen 0
  have s1z := Y.out.frozen 1
  by_cases hc : lineC d0 d1 n = 0
  · have hcb : (lineC d0 d1 n != 0) = false := by simp [hc]
    obtain ⟨hok, hln⟩ := lineC_zero hc
    obtain ⟨q0, q1, -⟩ := okIrq_len hok
    obtain rfl : n0 = 8 := by have := H.out.1.1; omega
    obtain rfl : n1 = 8 := by have := H.out.1.2; omega
    obtain ⟨k, rfl⟩ : ∃ k : Nat, n = k := ⟨n.toNat, by have := lvB_range hln; omega⟩
    have hk : k < 8 := by have := lvB_range hln; omega
    have HLn := Lib.hid (And.intro q0 q1)
    have f0 := X.out.cell 0 rfl
    have f1 := X.out.cell 1 rfl
    have HO := Lib.hid (l06Set A0 A1 c0 c1 d0 d1 w1 k false hk q0 q1 (H.out.2.1.below hbq) (H.out.2.2.below hbq))
    have HRz : Hid (r = (d0, d1.set k false, 0)) := Lib.hid (by rw [← HR.out]; unfold pendF; rw [if_pos hc]; rfl)
    have HL2 : Hid ((d1.set k false).length = 8) := Lib.hid (by rw [List.length_set]; exact q1)
    generalize d1.set k false = new at HO HRz HL2
    clear HC hok hln X0 Y0 H HW0 q0 q1 hc HR
    go_wp2_with fail
    refine HO.out.mono ?_
    rintro e w2 ⟨B0, B1, g0, g1, rfl, O, hb2⟩
    have Y2 := Y.out.step hb2
    have t0 := Y2.cell 0 rfl
    have t1 := Y2.cell 1 rfl
    have t0z := Y2.frozen 0
    have t1z := Y2.frozen 1
    have HY2 := Lib.hid Y2
    clear Y2 HO s0 s1 s0z s1z f0 f1
    go_wp2
    refine bodyPost_ret (v := .tuple #[.agg #[.slice B0 8 g0, .slice B1 8 g1], .int .i64 0]) (by simp [results, Try.results28, go_sem, t0, t1]) rfl ?_
    rw [HRz.out]
    refine ⟨B0, B1, g0, g1, ?_, Lib.hid ?_, below2 (bt hbq hb2) (by omega) _ _⟩
    · show _ = Ending.returned (.tuple #[.agg #[.slice B0 d0.length g0, .slice B1 new.length g1], .int .i64 0])
      rw [HLn.out.1, HL2.out]
    · exact ownIB ((O.out.1.two HY2.out _ _).wideB hbq.size (by rw [size2]; exact Nat.le_refl _)) ((O.out.2.two HY2.out _ _).wide hbq.size (by rw [size2]; exact Nat.le_refl _))
  · have hcb : (lineC d0 d1 n != 0) = true := by simp [hc]
    have HRz : Hid (r = ([], [], lineC d0 d1 n)) := Lib.hid (by rw [← HR.out]; unfold pendF; rw [if_neg hc])
    generalize lineC d0 d1 n = cd at hcb hc HRz
    clear HR HC X0 Y0 X H HW0 hc
    go_wp2
    refine bodyPost_ret (v := .tuple #[.agg #[.slice none 0 0, .slice none 0 0], .int .i64 cd]) (by simp [results, Try.results28, go_sem, s0, s1]) rfl ?_
    rw [HRz.out]
    exact gives_none cd (below2 hbq (by omega) _ _)

set_option maxRecDepth 100000 in
set_option maxHeartbeats 4000000 in
theorem specSetLevel (A0 A1 : Option Addr) (n0 n1 c0 c1 : Nat) (d0 : List Int) (d1 : List Bool) (w : World) (n v : Int) (l0 : d0.length = n0) (l1 : d1.length = n1) (m0 : n0 ≤ maxLen) (m1 : n1 ≤ maxLen) (h0 : IntL w A0 d0) (h1 : BoolL w A1 d1) :
    Calls Try.prog 26 #[.agg #[.slice A0 n0 c0, .slice A1 n1 c1], .int .i64 n, .int .i64 v] w (GivesIrqCode (levF d0 d1 n v) w) := by
  obtain ⟨W0, hW0⟩ : ∃ W0, W0 = ((w.alloc (.cells #[.slice A0 n0 c0, .slice A1 n1 c1] 26)).alloc (.cells #[.slice none 0 0, .slice none 0 0] 26)) := ⟨_, rfl⟩
  have hb0 : Below w.heap.size w W0 := by rw [hW0]; exact bt (alloc_below _ _) (alloc_below _ _)
  have X0 : Hid (Box W0 w.heap.size 26 #[.slice A0 n0 c0, .slice A1 n1 c1]) := Lib.hid (by rw [hW0]; exact (Box.new _ _ _).alloc _)
  have Y0 : Hid (Box W0 (w.heap.size + 1) 26 #[.slice none 0 0, .slice none 0 0]) := Lib.hid (by rw [hW0]; simpa using Box.new (w.alloc (.cells #[.slice A0 n0 c0, .slice A1 n1 c1] 26)) 26 #[.slice none 0 0, .slice none 0 0])
  have HC := Lib.hid (l06Ask A0 A1 n0 n1 c0 c1 d0 d1 W0 n l0 l1 m0 m1 (h0.below hb0))
  have H := Lib.hid (And.intro (And.intro l0 l1) (And.intro h0 h1))
  obtain ⟨r, hr⟩ : ∃ r, levF d0 d1 n v = r := ⟨_, rfl⟩
  rw [hr]
  have HR := Lib.hid hr
  have HW0 := Lib.hid hW0
  clear l0 l1 m0 m1 h0 h1 hW0 hr
  go_enter Try.func26, Try.ntmps26
  go_wp2_with fail
  rw [← HW0.out]
  refine HC.out.mono ?_
  rintro e w1 ⟨rfl, hb1⟩
  have hbq := bt hb0 hb1
  have Y := Lib.hid (Y0.out.step hb1)
  have X := Lib.hid (X0.out.step hb1)
  have s0 := Y.out.cell 0 rfl
  have s1 := Y.out.cell 1 rfl
  have s0z := Y.out.frozen 0
  have s1z := Y.out.frozen 1
  by_cases hc : lineC d0 d1 n = 0
  · have hcb : (lineC d0 d1 n != 0) = false := by simp [hc]
    obtain ⟨hok, hln⟩ := lineC_zero hc
    obtain ⟨q0, q1, -⟩ := okIrq_len hok
    obtain rfl : n0 = 8 := by have := H.out.1.1; omega
    obtain rfl : n1 = 8 := by have := H.out.1.2; omega
    obtain ⟨k, rfl⟩ : ∃ k : Nat, n = k := ⟨n.toNat, by have := lvB_range hln; omega⟩
    have hk : k < 8 := by have := lvB_range hln; omega
    have HLn := Lib.hid (And.intro q0 q1)
    have f0 := X.out.cell 0 rfl
    have f1 := X.out.cell 1 rfl
    by_cases hv : lvB v = true
    · have HO := Lib.hid (l06Own A0 A1 c0 c1 d0 d1 w1 q0 q1 (H.out.2.1.below hbq) (H.out.2.2.below hbq))
      have HRz : Hid (r = (d0.set k v, d1, 0)) := Lib.hid (by rw [← HR.out]; unfold levF; rw [if_pos hc, if_pos hv]; rfl)
      clear HC hok hln X0 Y0 H HW0 q0 q1 hc HR
      go_wp2_with (first | (go_at_call 35; refine (l01In7 _ _).mono ?_; rintro e w' ⟨rfl, rfl⟩; rw [hv]))
      clear s0 s1 s0z s1z f0 f1
      refine HO.out.mono ?_
      rintro e w2 ⟨B0, B1, g0, g1, rfl, O, hb2⟩
      have X1 := X.out.step hb2
      have Y1 := Y.out.step hb2
      have a0 := X1.cell 0 rfl
      have a1 := X1.cell 1 rfl
      have a0z := X1.frozen 0
      have a1z := X1.frozen 1
      obtain ⟨w3, hw3⟩ : ∃ w3, w3 = (w2.setCell ⟨w.heap.size, 0, none⟩ (.slice B0 8 g0)).setCell ⟨w.heap.size, 1, none⟩ (.slice B1 8 g1) := ⟨_, rfl⟩
      have X2 : Box w3 w.heap.size 26 #[.slice B0 8 g0, .slice B1 8 g1] := by rw [hw3]; exact X1.all2 rfl _ _
      have Y2 : Box w3 (w.heap.size + 1) 26 #[.slice none 0 0, .slice none 0 0] := by rw [hw3]; exact Y1.far2 (by omega) _ _
      have OI : OwnI w3 w.heap.size w3.heap.size B0 d0 := by rw [hw3]; exact (O.out.1.two X1 _ _).wideB hbq.size (by rw [size2]; exact Nat.le_refl _)
      have OB : OwnB w3 w.heap.size w3.heap.size B1 d1 := by rw [hw3]; exact (O.out.2.two X1 _ _).wide hbq.size (by rw [size2]; exact Nat.le_refl _)
      have hb3 : Below w.heap.size w w3 := by rw [hw3]; exact below2 (bt hbq hb2) (Nat.le_refl _) _ _
      obtain ⟨bx, mx, fx, rfl, hcx, hfx, hlo, hhi, hrx, hput⟩ := OI.put k (by rw [HLn.out.1]; exact hk)
      have X3 := X2.otherRow hrx (by decide) k (.int .i64 v)
      have Y3 := Y2.otherRow hrx (by decide) k (.int .i64 v)
      have u0 := X3.cell 0 rfl
      have u1 := X3.cell 1 rfl
      have t0 := Y3.cell 0 rfl
      have t1 := Y3.cell 1 rfl
      have t0z := Y3.frozen 0
      have t1z := Y3.frozen 1
      have HFin : Hid (OwnI (w3.setCell ⟨bx, k, none⟩ (.int .i64 v)) w.heap.size w3.heap.size (some ⟨bx, 0, none⟩) (d0.set k v) ∧ OwnB (w3.setCell ⟨bx, k, none⟩ (.int .i64 v)) w.heap.size w3.heap.size B1 d1) := Lib.hid ⟨hput v, OB.setRowI hrx k _⟩
      have HY3 := Lib.hid Y3
      have HB3 := Lib.hid (And.intro (hb3.setCell (p := ⟨bx, k, none⟩) hlo (.int .i64 v)) hw3)
      rw [hw3] at hcx hfx u0 u1 t0 t1 t0z t1z
      generalize d0.getD k 0 = old at hcx
      have hki : (k : Int) < 8 := by omega
      clear X1 Y1 O hb2 hw3 X2 Y2 OI OB hb3 hlo hhi hrx hput X3 Y3 X Y HO fx
      go_wp2
      refine bodyPost_ret (v := .tuple #[.agg #[.slice (some ⟨bx, 0, none⟩) 8 g0, .slice B1 8 g1], .int .i64 0]) (by simp [results, Try.results26, go_sem, t0, t1]) rfl ?_
      rw [← HB3.out.2]
      rw [HRz.out]
      refine ⟨some ⟨bx, 0, none⟩, B1, g0, g1, ?_, Lib.hid ?_, below2 HB3.out.1 (by omega) _ _⟩
      · show _ = Ending.returned (.tuple #[.agg #[.slice (some ⟨bx, 0, none⟩) (d0.set k v).length g0, .slice B1 d1.length g1], .int .i64 0])
        rw [List.length_set, HLn.out.1, HLn.out.2]
      · exact ownIB ((HFin.out.1.two HY3.out _ _).wideB (Nat.le_refl _) (by rw [size2]; simp [World.setCell])) ((HFin.out.2.two HY3.out _ _).wide (Nat.le_refl _) (by rw [size2]; simp [World.setCell]))
    · have hv' : lvB v = false := by simpa using hv
      have HRz : Hid (r = ([], [], 19)) := Lib.hid (by rw [← HR.out]; unfold levF; rw [if_pos hc, if_neg hv])
      clear HR hv hc HC X0 Y0 X H HW0 f0 f1
      go_wp2_with (first | (go_at_call 35; refine (l01In7 _ _).mono ?_; rintro e w' ⟨rfl, rfl⟩; rw [hv']))
      refine bodyPost_ret (v := .tuple #[.agg #[.slice none 0 0, .slice none 0 0], .int .i64 19]) (by simp [results, Try.results26, go_sem, s0, s1]) rfl ?_
      rw [HRz.out]
      exact gives_none 19 (below2 hbq (by omega) _ _)
  · have hcb : (lineC d0 d1 n != 0) = true := by simp [hc]
    have HRz : Hid (r = ([], [], lineC d0 d1 n)) := Lib.hid (by rw [← HR.out]; unfold levF; rw [if_neg hc])
    generalize lineC d0 d1 n = cd at hcb hc HRz
    clear HR HC X0 Y0 X H HW0 hc
    go_wp2
    refine bodyPost_ret (v := .tuple #[.agg #[.slice none 0 0, .slice none 0 0], .int .i64 cd]) (by simp [results, Try.results26, go_sem, s0, s1]) rfl ?_
    rw [HRz.out]
    exact gives_none cd (below2 hbq (by omega) _ _)
theorem arr4 (T : Array Value) (h : T.size = 4) : ∃ t0 t1 t2 t3 : Value, T = #[t0, t1, t2, t3] := by
  obtain ⟨l⟩ := T
  match l, h with
  | [t0, t1, t2, t3], _ => exact ⟨t0, t1, t2, t3, rfl⟩

theorem madeRow6 {w : World} {b n : Nat} {v : Value} {t : TypeId} (h : w.heap[b]? = some (.cells (madeCells #[v] n) t (0, 0))) : w.rowIs b t n (fun _ => v) := by
  obtain ⟨cs, hc, hs, hi⟩ := World.rowIs_made w v n t
  have e : (w.alloc (.cells (madeCells #[v] n) t)).heap[w.heap.size]? = some (.cells (madeCells #[v] n) t (0, 0)) := Box.new w t (madeCells #[v] n)
  rw [e] at hc
  injection hc with hc
  injection hc with hc _
  exact ⟨cs, by rw [h, hc], hs, hi⟩
theorem madeI_own {w : World} {b n L R : Nat} (h : Box w b 3 (madeCells #[.int .i64 0] n)) (hl : L ≤ b) (hr : b < R) : OwnI w L R (some ⟨b, 0, none⟩) (List.replicate n 0) :=
  .inr ⟨b, n, fun _ => .int .i64 0, rfl, hl, hr, by simp, madeRow6 h, fun i hi => by
    rw [List.getD_eq_getElem?_getD, List.getElem?_replicate, if_pos (by simpa using hi)]; rfl⟩
theorem madeB_own {w : World} {b n L R : Nat} (h : Box w b 4 (madeCells #[.bool false] n)) (hl : L ≤ b) (hr : b < R) : OwnB w L R (some ⟨b, 0, none⟩) (List.replicate n false) :=
  .inr ⟨b, n, fun _ => .bool false, rfl, hl, hr, by simp, madeRow6 h, fun i hi => by
    rw [List.getD_eq_getElem?_getD, List.getElem?_replicate, if_pos (by simpa using hi)]; rfl⟩
def RW (w W : World) : Prop := Below w.heap.size w W ∧ ∃ cs : Array Value, cs.size = 2 ∧ Box W w.heap.size 26 cs
theorem RW.step {w W W' : World} (h : RW w W) (k : Below W.heap.size W W') : RW w W' := by
  obtain ⟨a, cs, hs, b⟩ := h
  exact ⟨a.trans (k.mono a.size), cs, hs, b.step k⟩
theorem RW.set {w W : World} (h : RW w W) (j : Nat) (v : Value) : RW w (W.setCell ⟨w.heap.size, j, none⟩ v) := by
  obtain ⟨a, cs, hs, b⟩ := h
  exact ⟨a.setCell (p := ⟨w.heap.size, j, none⟩) (Nat.le_refl _) v, _, by simpa using hs, b.set j v⟩
def nwF (M : Nat) : Nat → (Nat → Value) → World → Prop
  | 0, t, w => ∃ b, t 1 = .slice (some ⟨b, 0, none⟩) 8 8 ∧ Box w b 3 (madeCells #[.int .i64 0] 8) ∧ M ≤ b
  | 1, t, w => ∃ b, t 2 = .slice (some ⟨b, 0, none⟩) 8 8 ∧ Box w b 4 (madeCells #[.bool false] 8) ∧ M ≤ b
  | 2, t, _ => ∃ b b1, t 1 = .slice (some ⟨b, 0, none⟩) 8 8 ∧ t 2 = .slice (some ⟨b1, 0, none⟩) 8 8 ∧ t 3 = .agg #[.slice (some ⟨b, 0, none⟩) 8 8, .slice (some ⟨b1, 0, none⟩) 8 8]
  | 3, t, w => ∃ b b1, t 1 = .slice (some ⟨b, 0, none⟩) 8 8 ∧ t 2 = .slice (some ⟨b1, 0, none⟩) 8 8 ∧ Box w M 26 #[.slice (some ⟨b, 0, none⟩) 8 8, .slice (some ⟨b1, 0, none⟩) 8 8]
  | _, _, _ => True
theorem boxNe {w : World} {b b' : Nat} {t t' : TypeId} {cs cs' : Array Value} (X : Box w b t cs) (Y : Box w b' t' cs') (ht : t ≠ t') : b ≠ b' := by
  rintro rfl
  have : some (Obj.cells cs t (0, 0)) = some (Obj.cells cs' t' (0, 0)) := X.symm.trans Y
  injection this with this
  injection this with _ this
  exact ht this
section
variable {M : Nat} {w w' : World}
theorem nwF_below (k : Below w.heap.size w w') : ∀ (j : Nat) (t : Nat → Value), nwF M j t w → nwF M j t w'
  | 0, _, ⟨b, e, h, q⟩ => ⟨b, e, h.step k, q⟩
  | 1, _, ⟨b, e, h, q⟩ => ⟨b, e, h.step k, q⟩
  | 2, _, h => h
  | 3, _, ⟨b, b1, e, e2, h⟩ => ⟨b, b1, e, e2, h.step k⟩
  | _ + 4, _, _ => trivial
theorem nwF_store {ys : Array Value} (Y : Box w M 26 ys) (i : Nat) (u : Value) : ∀ (j : Nat) (t : Nat → Value), j ≠ 3 → nwF M j t w → nwF M j t (w.setCell ⟨M, i, none⟩ u)
  | 0, _, _, ⟨b, e, h, q⟩ => ⟨b, e, h.far (p := ⟨M, i, none⟩) (boxNe h Y (by decide)) u, q⟩
  | 1, _, _, ⟨b, e, h, q⟩ => ⟨b, e, h.far (p := ⟨M, i, none⟩) (boxNe h Y (by decide)) u, q⟩
  | 2, _, _, h => h
  | 3, _, n, _ => (n rfl).elim
  | _ + 4, _, _, _ => trivial
end
set_option maxRecDepth 100000 in
set_option maxHeartbeats 2000000 in
theorem specNewIrq (w : World) : Calls Try.prog 19 #[] w (GivesQ zL zP w) := by
  obtain ⟨W0, hW0⟩ : ∃ W0, W0 = (w.alloc (.cells #[.slice none 0 0, .slice none 0 0] 26)) := ⟨_, rfl⟩
  have R0 : RW w W0.drew := ⟨by rw [hW0]; exact (alloc_below _ _).drew, _, rfl, show Box W0 _ _ _ by rw [hW0]; exact Box.new _ _ _⟩
  have hmk0 : ∀ W : World, (Instr.makeSlice 23 (.int .i64 8) (.int .i64 8)).run Try.prog W = .ok (.slice (some ⟨W.heap.size, 0, none⟩) 8 8) (W.alloc (.cells (madeCells #[.int .i64 0] 8) 3)) := fun W => run_make_row' (P := Try.prog) 23 3 (.int .i64 0) 8 Try.underlying23 infoI rfl .i64 .i64 8 (by omega) (by omega) W
  have hmk1 : ∀ W : World, (Instr.makeSlice 24 (.int .i64 8) (.int .i64 8)).run Try.prog W = .ok (.slice (some ⟨W.heap.size, 0, none⟩) 8 8) (W.alloc (.cells (madeCells #[.bool false] 8) 4)) := fun W => run_make_row' (P := Try.prog) 24 4 (.bool false) 1 Try.underlying24 infoB rfl .i64 .i64 8 (by omega) (by omega) W
  have HW0 := Lib.hid hW0
  clear hW0
  go_enter Try.func19, Try.ntmps19
  go_wp2
  rw [← HW0.out]
  refine wp_region_facts (by kernel_rfl) [[1], [2], [1, 2, 3], [1, 2]] [[], [], [0, 1], [0, 1, 2]] [0] (by kernel_rfl) (RW w) (nwF w.heap.size) R0 ?_ ?_
  · refine ⟨?_, ?_, ?_, ?_, trivial⟩
    · intro T W hT hs hC hF K hK
      obtain ⟨t0, t1, t2, t3, rfl⟩ := arr4 T hT
      obtain rfl : t0 = .pointer (some ⟨w.heap.size, 0, none⟩) := hs 0 (by decide)
      clear hF hs hT
      have k := alloc_below W (.cells (madeCells #[.int .i64 0] 8) 3)
      have hm := hmk0 W
      go_simp
      exact hK.out _ _ (hC.step k) (fun j t _ h => nwF_below k j t h) ⟨W.heap.size, rfl, Box.new _ _ _, hC.1.size⟩
    · intro T W hT hs hC hF K hK
      obtain ⟨t0, t1, t2, t3, rfl⟩ := arr4 T hT
      obtain rfl : t0 = .pointer (some ⟨w.heap.size, 0, none⟩) := hs 0 (by decide)
      clear hF hs hT
      have k := alloc_below W (.cells (madeCells #[.bool false] 8) 4)
      have hm := hmk1 W
      go_simp
      exact hK.out _ _ (hC.step k) (fun j t _ h => nwF_below k j t h) ⟨W.heap.size, rfl, Box.new _ _ _, hC.1.size⟩
    · intro T W hT hs hC hF K hK
      obtain ⟨t0, t1, t2, t3, rfl⟩ := arr4 T hT
      obtain rfl : t0 = .pointer (some ⟨w.heap.size, 0, none⟩) := hs 0 (by decide)
      have f0 := hF 0 (by decide)
      simp only [nwF, mask] at f0
      have f1 := hF 1 (by decide)
      simp only [nwF, mask] at f1
      clear hF hs hT
      obtain ⟨b, e1, B0, q0⟩ := f0
      obtain ⟨b1, e2, B1, q1⟩ := f1
      subst e1 e2
      clear B0 B1
      go_simp
      exact hK.out _ W hC (fun _ _ _ h => h) ⟨b, b1, rfl, rfl, rfl⟩
    · intro T W hT hs hC hF K hK
      obtain ⟨t0, t1, t2, t3, rfl⟩ := arr4 T hT
      obtain rfl : t0 = .pointer (some ⟨w.heap.size, 0, none⟩) := hs 0 (by decide)
      have f2 := hF 2 (by decide)
      simp only [nwF, mask] at f2
      clear hF hs hT
      obtain ⟨b, b1, e1, e2, e3⟩ := f2
      subst e1 e2 e3
      obtain ⟨hCa, ys, hys, Y⟩ := hC
      have y0 := YV2.of Y hys 0 (by omega)
      have y1 := YV2.of Y hys 1 (by omega)
      have z0 := Y.frozen 0
      have z1 := Y.frozen 1
      have HYs := Lib.hid (And.intro hys Y)
      have hC : RW w W := ⟨hCa, ys, hys, Y⟩
      clear hys Y hCa
      go_simp
      exact hK.out undef _ ((hC.set 0 _).set 1 _) (fun j t n h => nwF_store (HYs.out.2.set 0 _) 1 _ j t n (nwF_store HYs.out.2 0 _ j t n h)) ⟨b, b1, rfl, rfl, HYs.out.2.all2 HYs.out.1 _ _⟩
  · intro T W hT hs hC hF
    obtain ⟨t0, t1, t2, t3, rfl⟩ := arr4 T hT
    obtain rfl : t0 = .pointer (some ⟨w.heap.size, 0, none⟩) := hs 0 (by decide)
    obtain ⟨b, e1, B0, q0⟩ := hF 0 (by decide)
    obtain ⟨b1, e2, B1, q1⟩ := hF 1 (by decide)
    obtain ⟨b', b1', f1, f2, Y⟩ := hF 3 (by decide)
    have E1 : Value.slice (some ⟨b, 0, none⟩) 8 8 = .slice (some ⟨b', 0, none⟩) 8 8 := (show t1 = _ from e1).symm.trans f1
    have E2 : Value.slice (some ⟨b1, 0, none⟩) 8 8 = .slice (some ⟨b1', 0, none⟩) 8 8 := (show t2 = _ from e2).symm.trans f2
    obtain rfl : b = b' := by injection E1 with E1; injection E1 with E1; injection E1
    obtain rfl : b1 = b1' := by injection E2 with E2; injection E2 with E2; injection E2
    have y0 := Y.cell 0 rfl
    have y1 := Y.cell 1 rfl
    have HR : Hid (OwnI W w.heap.size W.heap.size (some ⟨b, 0, none⟩) zL ∧ OwnB W w.heap.size W.heap.size (some ⟨b1, 0, none⟩) zP) := Lib.hid ⟨madeI_own B0 q0 B0.lt, madeB_own B1 q1 B1.lt⟩
    have HBw := Lib.hid hC.1
    clear e1 e2 f1 f2 E1 E2 B0 B1 Y hF hs hT hC R0
    go_wp2
    refine bodyPost_ret (v := .agg #[.slice (some ⟨b, 0, none⟩) 8 8, .slice (some ⟨b1, 0, none⟩) 8 8]) (by simp [results, Try.results19, go_sem, y0, y1]) rfl ?_
    exact ⟨_, _, _, _, rfl, HR, HBw.out⟩
end Go.Proofs.Ytamfapmkdojhcaa
