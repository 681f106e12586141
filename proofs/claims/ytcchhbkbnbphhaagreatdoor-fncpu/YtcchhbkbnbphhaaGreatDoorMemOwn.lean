/- The model's l05Own; BusGet and BusPut of the model. Written by gen_memown.py. -/
import Derived.Test.YtcchhbkbnbphhaaGreatDoorBusSpec
namespace Go.Proofs.YtcchhbkbnbphhaaGreatDoor
open Go.RowKit

theorem wp_app_fresh {P : Program} {o : Oper} {a : Act} {w : World} {K : Act → World → Prop} {Q : Exit → Act → World → Prop}
    (s x : Operand) (t : TypeId) (hop : o.op = Op.call { callee := Callee.builtin Builtin.append, args := #[s, x], argTypes := #[t, t] })
    (e : TypeId) (z : Value) (size bytes : Nat) (ht : P.underlying t = some (.slice e)) (hi : ∃ i : TypeInfo, P.info? e = some i ∧ i.zero = some z ∧ i.size = size ∧ i.bytes = bytes) (hzs : z.cells.size = size) (hsz : 0 < size) (b : Addr) (hs : a.eval s = .slice (some b) 0 0)
    (A : Option Addr) (m c : Nat) (hm : 0 < m) (news : List Value) (hx : a.eval x = .slice A m c) (hl : news.length = m * size) (hsrc : ∃ ad, A = some ad ∧ ∀ j u, news[j]? = some u → w.cell? (ad.add j) = some u)
    (h63 : m ≤ maxLen) (hbytes : m * bytes ≤ 140737488355328)
    (h : ∀ A' cap w', Below w.heap.size w w' → Hid (w'.ownsRow w.heap.size e size (.slice A' m cap) m news) → K (a.put o.dst (.slice A' m cap)) w') : Oper.wp P o a w K Q := by
  obtain ⟨i, hi, hz, hsize, hby⟩ := hi
  obtain ⟨A', cap, w', hr, h2, h3⟩ := run_app_fresh (P := P) w t o.type e i z size bytes ht hi hz hsize hby hzs hsz b A m c hm news hl hsrc h63 hbytes
  unfold Oper.wp execOp
  simp only [hop, resolve, invoke, builtin, Sem.run_bind, Sem.run_pure, Result.andThen_ok, List.map_toArray, List.map_cons, List.map_nil, hs, hx, hr]
  exact h A' cap w' h2 (Lib.hid h3)

theorem arr15 (T : Array Value) (h : T.size = 15) : ∃ t0 t1 t2 t3 t4 t5 t6 t7 t8 t9 t10 t11 t12 t13 t14 : Value, T = #[t0, t1, t2, t3, t4, t5, t6, t7, t8, t9, t10, t11, t12, t13, t14] := by
  obtain ⟨l⟩ := T
  match l, h with
  | [t0, t1, t2, t3, t4, t5, t6, t7, t8, t9, t10, t11, t12, t13, t14], _ => exact ⟨t0, t1, t2, t3, t4, t5, t6, t7, t8, t9, t10, t11, t12, t13, t14, rfl⟩

def GivesMem (r i zs : List Int) (gs : List Bool) (st : Int) (w : World) (e : Ending) (w' : World) : Prop :=
  ∃ A0 A1 A2 A3 c0 c1 c2 c3, e = .returned (.agg #[.slice A0 256 c0, .slice A1 32 c1, .slice A2 256 c2, .slice A3 16 c3, .int .i64 st]) ∧ Hid (OwnA w' w.heap.size w'.heap.size [.slice A0 256 c0, .slice A1 32 c1, .slice A2 256 c2, .slice A3 16 c3] [.I r, .I i, .I zs, .B gs]) ∧ Below w.heap.size w w'
def ownF (M : Nat) (s0 s1 fl : Value) (d0 d1 d2 : List Int) (d3 : List Bool) (st : Int) : Nat → (Nat → Value) → World → Prop
  | 0, t, _ => ∃ b, t 3 = .slice (some b) 0 0
  | 1, t, _ => t 4 = .pointer (some ⟨M, 0, none⟩)
  | 2, t, _ => t 5 = s0
  | 3, t, w => ∃ A c, t 6 = .slice A 256 c ∧ OwnI w M w.heap.size A d0
  | 4, t, _ => ∃ b, t 7 = .slice (some b) 0 0
  | 5, t, _ => t 8 = .pointer (some ⟨M, 1, none⟩)
  | 6, t, _ => t 9 = s1
  | 7, t, w => ∃ g A c A' c', t 6 = .slice A 256 c ∧ t 10 = .slice A' 32 c' ∧ OwnI w M g A d0 ∧ OwnI w g w.heap.size A' d1 ∧ M ≤ g ∧ g ≤ w.heap.size
  | 8, t, _ => t 11 = .pointer (some ⟨M, 2, none⟩)
  | 9, t, _ => t 12 = fl
  | 10, t, w => ∃ g h A c A' c' B e C f, t 6 = .slice A 256 c ∧ t 10 = .slice A' 32 c' ∧ t 13 = .agg #[.slice B 256 e, .slice C 16 f, .int .i64 st] ∧ OwnI w M g A d0 ∧ OwnI w g h A' d1 ∧ OwnI w h w.heap.size B d2 ∧ OwnB w h w.heap.size C d3 ∧ M ≤ g ∧ g ≤ h ∧ h ≤ w.heap.size
  | 11, t, _ => ∃ A c A' c' B e C f, t 6 = .slice A 256 c ∧ t 10 = .slice A' 32 c' ∧ t 13 = .agg #[.slice B 256 e, .slice C 16 f, .int .i64 st] ∧ t 14 = .agg #[.slice A 256 c, .slice A' 32 c', .slice B 256 e, .slice C 16 f, .int .i64 st]
  | 12, t, w => ∃ A c A' c' B e C f, t 6 = .slice A 256 c ∧ t 10 = .slice A' 32 c' ∧ t 13 = .agg #[.slice B 256 e, .slice C 16 f, .int .i64 st] ∧ Box w (M + 1) 31 #[.slice A 256 c, .slice A' 32 c', .slice B 256 e, .slice C 16 f, .int .i64 st]
  | _, _, _ => True
section
variable {M : Nat} {s0 s1 fl : Value} {d0 d1 d2 : List Int} {d3 : List Bool} {st : Int} {w w' : World}
theorem ownF_below (k : Below w.heap.size w w') : ∀ (j : Nat) (t : Nat → Value), ownF M s0 s1 fl d0 d1 d2 d3 st j t w → ownF M s0 s1 fl d0 d1 d2 d3 st j t w'
  | 0, _, h | 1, _, h | 2, _, h | 4, _, h | 5, _, h | 6, _, h | 8, _, h | 9, _, h | 11, _, h => h
  | 3, _, ⟨A, c, e, h⟩ => ⟨A, c, e, (h.below k).wideB (Nat.le_refl _) k.size⟩
  | 7, _, ⟨g, A, c, A', c', e, e2, h, h2, q, q2⟩ => ⟨g, A, c, A', c', e, e2, h.below k, (h2.below k).wideB (Nat.le_refl _) k.size, q, Nat.le_trans q2 k.size⟩
  | 10, _, ⟨g, h, A, c, A', c', B, e, C, f, e1, e2, e3, h1, h2, h3, h4, q, q2, q3⟩ => ⟨g, h, A, c, A', c', B, e, C, f, e1, e2, e3, h1.below k, h2.below k, (h3.below k).wideB (Nat.le_refl _) k.size, (h4.below k).wide (Nat.le_refl _) k.size, q, q2, Nat.le_trans q3 k.size⟩
  | 12, _, ⟨A, c, A', c', B, e, C, f, e1, e2, e3, h⟩ => ⟨A, c, A', c', B, e, C, f, e1, e2, e3, h.step k⟩
  | _ + 13, _, _ => trivial
theorem ownF_store {ys : Array Value} (Y : Box w (M + 1) 31 ys) (i : Nat) (u : Value) : ∀ (j : Nat) (t : Nat → Value), j ≠ 12 → ownF M s0 s1 fl d0 d1 d2 d3 st j t w → ownF M s0 s1 fl d0 d1 d2 d3 st j t (w.setCell ⟨M + 1, i, none⟩ u)
  | 0, _, _, h | 1, _, _, h | 2, _, _, h | 4, _, _, h | 5, _, _, h | 6, _, _, h | 8, _, _, h | 9, _, _, h | 11, _, _, h => h
  | 3, _, _, ⟨A, c, e, h⟩ => ⟨A, c, e, (h.farB Y (by decide) i u).wideB (Nat.le_refl _) (by simp [World.setCell])⟩
  | 7, _, _, ⟨g, A, c, A', c', e, e2, h, h2, q, q2⟩ => ⟨g, A, c, A', c', e, e2, h.farB Y (by decide) i u, (h2.farB Y (by decide) i u).wideB (Nat.le_refl _) (by simp [World.setCell]), q, by simpa [World.setCell] using q2⟩
  | 10, _, _, ⟨g, h, A, c, A', c', B, e, C, f, e1, e2, e3, h1, h2, h3, h4, q, q2, q3⟩ => ⟨g, h, A, c, A', c', B, e, C, f, e1, e2, e3, h1.farB Y (by decide) i u, h2.farB Y (by decide) i u, (h3.farB Y (by decide) i u).wideB (Nat.le_refl _) (by simp [World.setCell]), (h4.far Y (by decide) i u).wide (Nat.le_refl _) (by simp [World.setCell]), q, q2, by simpa [World.setCell] using q3⟩
  | 12, _, n, _ => (n rfl).elim
  | _ + 13, _, _, _ => trivial
end

section
variable (A0 A1 A2 A3 : Option Addr) (c0 c1 c2 c3 : Nat) (d0 d1 d2 : List Int) (d3 : List Bool) (d4 : Int) (w : World)
set_option maxRecDepth 100000 in
set_option maxHeartbeats 8000000 in
theorem l05Own (l0 : d0.length = 256) (l1 : d1.length = 32) (l2 : d2.length = 256) (l3 : d3.length = 16) (h0 : IntL w A0 d0) (h1 : IntL w A1 d1) (h2 : IntL w A2 d2) (h3 : BoolL w A3 d3) :
    Calls Tryz.prog 29 #[.agg #[.slice A0 256 c0, .slice A1 32 c1, .slice A2 256 c2, .slice A3 16 c3, .int .i64 d4]] w (GivesMem d0 d1 d2 d3 d4 w) := by
  obtain ⟨W0, hW0⟩ : ∃ W0, W0 = ((w.alloc (.cells #[.slice A0 256 c0, .slice A1 32 c1, .slice A2 256 c2, .slice A3 16 c3, .int .i64 d4] 31)).alloc (.cells #[.slice none 0 0, .slice none 0 0, .slice none 0 0, .slice none 0 0, .int .i64 0] 31)) := ⟨_, rfl⟩
  have hb0 : Below w.heap.size w W0 := by rw [hW0]; exact bt (alloc_below _ _) (alloc_below _ _)
  have X0 : Box W0 w.heap.size 31 #[.slice A0 256 c0, .slice A1 32 c1, .slice A2 256 c2, .slice A3 16 c3, .int .i64 d4] := by rw [hW0]; exact (Box.new _ _ _).alloc _
  have Y0 : Box W0 (w.heap.size + 1) 31 #[.slice none 0 0, .slice none 0 0, .slice none 0 0, .slice none 0 0, .int .i64 0] := by rw [hW0]; simpa using Box.new (w.alloc (.cells #[.slice A0 256 c0, .slice A1 32 c1, .slice A2 256 c2, .slice A3 16 c3, .int .i64 d4] 31)) 31 #[.slice none 0 0, .slice none 0 0, .slice none 0 0, .slice none 0 0, .int .i64 0]
  have HB : Hid (∀ W, RM W0 w.heap.size W → Below w.heap.size w W) := Lib.hid (fun W r => hb0.trans (r.1.mono (by omega)))
  have HO := Lib.hid (fun W (r : RM W0 w.heap.size W) => l03Own A2 A3 256 c2 16 c3 d4 d2 d3 W l2 l3 rfl rfl (h2.below (HB.out _ r)) (h3.below (HB.out _ r)))
  have HS0 := Lib.hid (fun W (r : RM W0 w.heap.size W) => (h0.below (HB.out _ r)).src (by omega))
  have HS1 := Lib.hid (fun W (r : RM W0 w.heap.size W) => (h1.below (HB.out _ r)).src (by omega))
  have HN0 : Hid ((cellsI d0).length = 256 * 1) := Lib.hid (by rw [cellsI_len]; omega)
  have HN1 : Hid ((cellsI d1).length = 32 * 1) := Lib.hid (by rw [cellsI_len]; omega)
  have HL := Lib.hid (And.intro l2 l3)
  have HL0 := Lib.hid (And.intro l0 l1)
  have HK : Hid (∀ W', RM W0 w.heap.size W' → W'.cell? ⟨w.heap.size, 0, none⟩ = some (.slice A0 256 c0) ∧ W'.cell? ⟨w.heap.size, 1, none⟩ = some (.slice A1 32 c1) ∧ W'.cell? ⟨w.heap.size, 2, none⟩ = some (.slice A2 256 c2) ∧ W'.cell? ⟨w.heap.size, 3, none⟩ = some (.slice A3 16 c3) ∧ W'.cell? ⟨w.heap.size, 4, none⟩ = some (.int .i64 d4)) := Lib.hid (fun W' r => by
    have X := X0.below r.1 (by omega)
    exact ⟨X.cell 0 rfl, X.cell 1 rfl, X.cell 2 rfl, X.cell 3 rfl, X.cell 4 rfl⟩)
  have HW0 := Lib.hid hW0
  have R0 : RM W0 w.heap.size W0.drew := ⟨(Below.refl _ _).drew, Nat.le_refl _, _, rfl, Y0⟩
  clear l0 l1 l2 l3 h0 h1 h2 h3 X0 Y0 hW0 hb0
  go_enter Tryz.func29, Tryz.ntmps29
  go_wp2
  rw [← HW0.out]
  refine wp_region_facts (by kernel_rfl) [[3], [4], [5], [6], [7], [8], [9], [6, 10], [11], [12], [6, 10, 13], [6, 10, 13, 14], [6, 10, 13]] [[], [], [1], [0, 1, 2], [], [], [5], [4, 5, 6, 3, 0, 1, 2], [], [8], [8, 9, 7, 4, 5, 6, 3, 0, 1, 2], [10, 8, 9, 7, 4, 5, 6, 3, 0, 1, 2], [0, 1, 2, 3, 4, 5, 6, 7, 8, 9, 10, 11]] [0, 1, 2] (by kernel_rfl) (RM W0 w.heap.size) (ownF w.heap.size (.slice A0 256 c0) (.slice A1 32 c1) (.agg #[.slice A2 256 c2, .slice A3 16 c3, .int .i64 d4]) d0 d1 d2 d3 d4) R0 ?_ ?_
  · refine ⟨?_, ?_, ?_, ?_, ?_, ?_, ?_, ?_, ?_, ?_, ?_, ?_, ?_, trivial⟩
    · intro T W hT hs hC hF K hK
      obtain ⟨t0, t1, t2, t3, t4, t5, t6, t7, t8, t9, t10, t11, t12, t13, t14, rfl⟩ := arr15 T hT
      obtain rfl : t1 = .pointer (some ⟨w.heap.size, 0, none⟩) := hs 1 (by decide)
      obtain rfl : t2 = .pointer (some ⟨w.heap.size + 1, 0, none⟩) := hs 2 (by decide)
      clear hF hs hT
      have k := alloc_below W (.cells #[] 3)
      go_simp
      exact hK.out _ _ (hC.alloc _) (fun j t _ h => ownF_below k j t h) ⟨_, rfl⟩
    · intro T W hT hs hC hF K hK
      obtain ⟨t0, t1, t2, t3, t4, t5, t6, t7, t8, t9, t10, t11, t12, t13, t14, rfl⟩ := arr15 T hT
      obtain rfl : t1 = .pointer (some ⟨w.heap.size, 0, none⟩) := hs 1 (by decide)
      obtain rfl : t2 = .pointer (some ⟨w.heap.size + 1, 0, none⟩) := hs 2 (by decide)
      clear hF hs hT
      go_simp
      exact hK.out _ W hC (fun _ _ _ h => h) rfl
    · intro T W hT hs hC hF K hK
      obtain ⟨t0, t1, t2, t3, t4, t5, t6, t7, t8, t9, t10, t11, t12, t13, t14, rfl⟩ := arr15 T hT
      obtain rfl : t1 = .pointer (some ⟨w.heap.size, 0, none⟩) := hs 1 (by decide)
      obtain rfl : t2 = .pointer (some ⟨w.heap.size + 1, 0, none⟩) := hs 2 (by decide)
      have f1 := hF 1 (by decide)
      simp only [ownF, mask] at f1
      clear hF hs hT
      subst f1
      have k := (HK.out W hC).1
      go_simp
      exact hK.out _ W hC (fun _ _ _ h => h) rfl
    · intro T W hT hs hC hF K hK
      obtain ⟨t0, t1, t2, t3, t4, t5, t6, t7, t8, t9, t10, t11, t12, t13, t14, rfl⟩ := arr15 T hT
      obtain rfl : t1 = .pointer (some ⟨w.heap.size, 0, none⟩) := hs 1 (by decide)
      obtain rfl : t2 = .pointer (some ⟨w.heap.size + 1, 0, none⟩) := hs 2 (by decide)
      have f0 := hF 0 (by decide)
      simp only [ownF, mask] at f0
      have f2 := hF 2 (by decide)
      simp only [ownF, mask] at f2
      clear hF hs hT
      obtain ⟨b, e3⟩ := f0
      subst e3 f2
      refine wp_app_fresh (.tmp 3) (.tmp 5) 23 rfl 3 (.int .i64 0) 1 8 Tryz.underlying23 infoIx rfl (by decide) b rfl A0 256 c0 (by omega) (cellsI d0) rfl HN0.out (HS0.out _ hC) (by unfold maxLen; omega) (by omega) ?_
      intro A c w1 k O
      exact hK.out _ w1 (hC.step k) (fun j t _ h => ownF_below k j t h) ⟨A, c, rfl, ownI_fresh O.out (by omega) (HB.out _ hC).size⟩
    · intro T W hT hs hC hF K hK
      obtain ⟨t0, t1, t2, t3, t4, t5, t6, t7, t8, t9, t10, t11, t12, t13, t14, rfl⟩ := arr15 T hT
      obtain rfl : t1 = .pointer (some ⟨w.heap.size, 0, none⟩) := hs 1 (by decide)
      obtain rfl : t2 = .pointer (some ⟨w.heap.size + 1, 0, none⟩) := hs 2 (by decide)
      clear hF hs hT
      have k := alloc_below W (.cells #[] 3)
      go_simp
      exact hK.out _ _ (hC.alloc _) (fun j t _ h => ownF_below k j t h) ⟨_, rfl⟩
    · intro T W hT hs hC hF K hK
      obtain ⟨t0, t1, t2, t3, t4, t5, t6, t7, t8, t9, t10, t11, t12, t13, t14, rfl⟩ := arr15 T hT
      obtain rfl : t1 = .pointer (some ⟨w.heap.size, 0, none⟩) := hs 1 (by decide)
      obtain rfl : t2 = .pointer (some ⟨w.heap.size + 1, 0, none⟩) := hs 2 (by decide)
      clear hF hs hT
      go_simp
      exact hK.out _ W hC (fun _ _ _ h => h) rfl
    · intro T W hT hs hC hF K hK
      obtain ⟨t0, t1, t2, t3, t4, t5, t6, t7, t8, t9, t10, t11, t12, t13, t14, rfl⟩ := arr15 T hT
      obtain rfl : t1 = .pointer (some ⟨w.heap.size, 0, none⟩) := hs 1 (by decide)
      obtain rfl : t2 = .pointer (some ⟨w.heap.size + 1, 0, none⟩) := hs 2 (by decide)
      have f5 := hF 5 (by decide)
      simp only [ownF, mask] at f5
      clear hF hs hT
      subst f5
      have k := (HK.out W hC).2.1
      go_simp
      exact hK.out _ W hC (fun _ _ _ h => h) rfl
    · intro T W hT hs hC hF K hK
      obtain ⟨t0, t1, t2, t3, t4, t5, t6, t7, t8, t9, t10, t11, t12, t13, t14, rfl⟩ := arr15 T hT
      obtain rfl : t1 = .pointer (some ⟨w.heap.size, 0, none⟩) := hs 1 (by decide)
      obtain rfl : t2 = .pointer (some ⟨w.heap.size + 1, 0, none⟩) := hs 2 (by decide)
      have f4 := hF 4 (by decide)
      simp only [ownF, mask] at f4
      have f6 := hF 6 (by decide)
      simp only [ownF, mask] at f6
      have f3 := hF 3 (by decide)
      simp only [ownF, mask] at f3
      clear hF hs hT
      obtain ⟨b, e3⟩ := f4
      obtain ⟨A, c, e6, O6⟩ := f3
      subst e3 f6 e6
      have H6 := Lib.hid O6
      clear O6
      refine wp_app_fresh (.tmp 7) (.tmp 9) 23 rfl 3 (.int .i64 0) 1 8 Tryz.underlying23 infoIx rfl (by decide) b rfl A1 32 c1 (by omega) (cellsI d1) rfl HN1.out (HS1.out _ hC) (by unfold maxLen; omega) (by omega) ?_
      intro A' c' w1 k O
      exact hK.out _ w1 (hC.step k) (fun j t _ h => ownF_below k j t h) ⟨W.heap.size, A, c, A', c', rfl, rfl, H6.out.below k, ownI_fresh O.out (by omega) (Nat.le_refl _), (HB.out _ hC).size, k.size⟩
    · intro T W hT hs hC hF K hK
      obtain ⟨t0, t1, t2, t3, t4, t5, t6, t7, t8, t9, t10, t11, t12, t13, t14, rfl⟩ := arr15 T hT
      obtain rfl : t1 = .pointer (some ⟨w.heap.size, 0, none⟩) := hs 1 (by decide)
      obtain rfl : t2 = .pointer (some ⟨w.heap.size + 1, 0, none⟩) := hs 2 (by decide)
      clear hF hs hT
      go_simp
      exact hK.out _ W hC (fun _ _ _ h => h) rfl
    · intro T W hT hs hC hF K hK
      obtain ⟨t0, t1, t2, t3, t4, t5, t6, t7, t8, t9, t10, t11, t12, t13, t14, rfl⟩ := arr15 T hT
      obtain rfl : t1 = .pointer (some ⟨w.heap.size, 0, none⟩) := hs 1 (by decide)
      obtain rfl : t2 = .pointer (some ⟨w.heap.size + 1, 0, none⟩) := hs 2 (by decide)
      have f8 := hF 8 (by decide)
      simp only [ownF, mask] at f8
      clear hF hs hT
      subst f8
      have k2 := (HK.out W hC).2.2.1
      have k3 := (HK.out W hC).2.2.2.1
      have k4 := (HK.out W hC).2.2.2.2
      go_simp
      exact hK.out _ W hC (fun _ _ _ h => h) rfl
    · intro T W hT hs hC hF K hK
      obtain ⟨t0, t1, t2, t3, t4, t5, t6, t7, t8, t9, t10, t11, t12, t13, t14, rfl⟩ := arr15 T hT
      obtain rfl : t1 = .pointer (some ⟨w.heap.size, 0, none⟩) := hs 1 (by decide)
      obtain rfl : t2 = .pointer (some ⟨w.heap.size + 1, 0, none⟩) := hs 2 (by decide)
      have f9 := hF 9 (by decide)
      simp only [ownF, mask] at f9
      have f7 := hF 7 (by decide)
      simp only [ownF, mask] at f7
      clear hF hs hT
      obtain ⟨g, A, c, A', c', e6, e10, O6, O10, q, q2⟩ := f7
      subst f9 e6 e10
      have H6 := Lib.hid (And.intro O6 O10)
      clear O6 O10
      go_simp
      refine (HO.out W hC).mono ?_
      rintro e w1 ⟨B, n, c', C, m, d, rfl, L, M, S, Q, k⟩
      obtain rfl : n = 256 := by have := L.out; have := HL.out.1; omega
      obtain rfl : m = 16 := by have := M.out; have := HL.out.2; omega
      exact hK.out _ w1 (hC.step k) (fun j t _ h => ownF_below k j t h) ⟨g, W.heap.size, A, _, A', _, B, _, C, _, rfl, rfl, rfl, H6.out.1.below k, H6.out.2.below k, S.out, Q.out, q, q2, k.size⟩
    · intro T W hT hs hC hF K hK
      obtain ⟨t0, t1, t2, t3, t4, t5, t6, t7, t8, t9, t10, t11, t12, t13, t14, rfl⟩ := arr15 T hT
      obtain rfl : t1 = .pointer (some ⟨w.heap.size, 0, none⟩) := hs 1 (by decide)
      obtain rfl : t2 = .pointer (some ⟨w.heap.size + 1, 0, none⟩) := hs 2 (by decide)
      have f10 := hF 10 (by decide)
      simp only [ownF, mask] at f10
      clear hF hs hT
      obtain ⟨g, h, A, c, A', c', B, e, C, f, e6, e10, e13, O6, O10, S, Q, q, q2, q3⟩ := f10
      subst e6 e10 e13
      clear O6 O10 S Q
      go_simp
      exact hK.out _ W hC (fun _ _ _ h => h) ⟨_, _, _, _, _, _, _, _, rfl, rfl, rfl, rfl⟩
    · intro T W hT hs hC hF K hK
      obtain ⟨t0, t1, t2, t3, t4, t5, t6, t7, t8, t9, t10, t11, t12, t13, t14, rfl⟩ := arr15 T hT
      obtain rfl : t1 = .pointer (some ⟨w.heap.size, 0, none⟩) := hs 1 (by decide)
      obtain rfl : t2 = .pointer (some ⟨w.heap.size + 1, 0, none⟩) := hs 2 (by decide)
      have f11 := hF 11 (by decide)
      simp only [ownF, mask] at f11
      clear hF hs hT
      obtain ⟨A, c, A', c', B, e, C, f, e6, e10, e13, e14⟩ := f11
      subst e6 e10 e13 e14
      obtain ⟨hCa, hCb, ys, hys, Y⟩ := hC
      have y0 := YV5.of Y hys 0 (by omega)
      have y1 := YV5.of Y hys 1 (by omega)
      have y2 := YV5.of Y hys 2 (by omega)
      have y3 := YV5.of Y hys 3 (by omega)
      have y4 := YV5.of Y hys 4 (by omega)
      have z0 := Y.frozen 0
      have z1 := Y.frozen 1
      have z2 := Y.frozen 2
      have z3 := Y.frozen 3
      have z4 := Y.frozen 4
      have HYs := Lib.hid (And.intro hys Y)
      have hC : RM W0 w.heap.size W := ⟨hCa, hCb, ys, hys, Y⟩
      clear hys Y hCa hCb
      go_simp
      exact hK.out undef _ (((((hC.set 0 _).set 1 _).set 2 _).set 3 _).set 4 _) (fun j t n h => ownF_store ((((HYs.out.2.set 0 _).set 1 _).set 2 _).set 3 _) 4 _ j t n (ownF_store (((HYs.out.2.set 0 _).set 1 _).set 2 _) 3 _ j t n (ownF_store ((HYs.out.2.set 0 _).set 1 _) 2 _ j t n (ownF_store (HYs.out.2.set 0 _) 1 _ j t n (ownF_store HYs.out.2 0 _ j t n h))))) ⟨_, _, _, _, _, _, _, _, rfl, rfl, rfl, HYs.out.2.all5 HYs.out.1 _ _ _ _ _⟩
  · intro T W hT hs hC hF
    obtain ⟨t0, t1, t2, t3, t4, t5, t6, t7, t8, t9, t10, t11, t12, t13, t14, rfl⟩ := arr15 T hT
    obtain rfl : t1 = .pointer (some ⟨w.heap.size, 0, none⟩) := hs 1 (by decide)
    obtain rfl : t2 = .pointer (some ⟨w.heap.size + 1, 0, none⟩) := hs 2 (by decide)
    obtain ⟨g, h, A, c, A', c', B, e, C, f, e6, e10, e13, O6, O10, S, Q, q, q2, q3⟩ := hF 10 (by decide)
    obtain ⟨x1, x2, x3, x4, x5, x6, x7, x8, f6, f10, f13, Y⟩ := hF 12 (by decide)
    have E1 : Value.slice A 256 c = .slice x1 256 x2 := (show t6 = _ from e6).symm.trans f6
    have E2 : Value.slice A' 32 c' = .slice x3 32 x4 := (show t10 = _ from e10).symm.trans f10
    have E3 : Value.agg #[.slice B 256 e, .slice C 16 f, .int .i64 d4] = .agg #[.slice x5 256 x6, .slice x7 16 x8, .int .i64 d4] := (show t13 = _ from e13).symm.trans f13
    simp only [Value.agg.injEq, Array.mk.injEq, List.cons.injEq, Value.slice.injEq, true_and, and_true] at E1 E2 E3
    obtain ⟨r1, r2⟩ := E1
    obtain ⟨r3, r4⟩ := E2
    obtain ⟨⟨r5, r6⟩, r7, r8⟩ := E3
    subst r1 r2 r3 r4 r5 r6 r7 r8
    have y0 := Y.cell 0 rfl
    have y1 := Y.cell 1 rfl
    have y2 := Y.cell 2 rfl
    have y3 := Y.cell 3 rfl
    have y4 := Y.cell 4 rfl
    have HR : Hid (OwnA W w.heap.size W.heap.size [.slice A 256 c, .slice A' 32 c', .slice B 256 e, .slice C 16 f] [.I d0, .I d1, .I d2, .B d3]) := Lib.hid (by
      have := ownA4 (c0 := c) (c1 := c') (c2 := e) (c3 := f) (L := w.heap.size) (R := W.heap.size) O6 O10 S Q (Nat.le_refl _) q q2 q3 (Nat.le_refl _)
      rwa [HL0.out.1, HL0.out.2, HL.out.1, HL.out.2] at this)
    have HBw := Lib.hid (HB.out _ hC)
    clear e6 e10 e13 f6 f10 f13 O6 O10 S Q Y hF hs hT hC R0
    go_wp2
    refine bodyPost_ret (v := .agg #[.slice A 256 c, .slice A' 32 c', .slice B 256 e, .slice C 16 f, .int .i64 d4]) (by simp [results, Tryz.results29, go_sem, y0, y1, y2, y3, y4]) rfl ?_
    exact ⟨A, A', B, C, c, c', e, f, rfl, HR, HBw.out⟩
end

section
variable (A0 A1 A2 A3 : Option Addr) (n0 n1 n2 n3 c0 c1 c2 c3 : Nat) (d0 d1 d2 : List Int) (d3 : List Bool) (d4 : Int) (w : World)
theorem OwnA.far5 {w : World} {lo hi : Nat} {B0 B1 B2 B3 : Option Addr} {m0 m1 m2 m3 e0 e1 e2 e3 : Nat} {r0 r1 r2 : List Int} {r3 : List Bool} (h : OwnA w lo hi [.slice B0 m0 e0, .slice B1 m1 e1, .slice B2 m2 e2, .slice B3 m3 e3] [.I r0, .I r1, .I r2, .B r3]) {b : Nat} {cs : Array Value} (X : Box w b 31 cs) (u0 u1 u2 u3 u4 : Value) : OwnA (((((w.setCell ⟨b, 0, none⟩ u0).setCell ⟨b, 1, none⟩ u1).setCell ⟨b, 2, none⟩ u2).setCell ⟨b, 3, none⟩ u3).setCell ⟨b, 4, none⟩ u4) lo hi [.slice B0 m0 e0, .slice B1 m1 e1, .slice B2 m2 e2, .slice B3 m3 e3] [.I r0, .I r1, .I r2, .B r3] := by
  obtain ⟨⟨⟨a0, b0, q0, o0⟩, ⟨a1, b1, q1, o1⟩, ⟨a2, b2, q2, o2⟩, ⟨a3, b3, q3, o3⟩, -⟩, hn⟩ := h
  exact ⟨⟨⟨a0, b0, q0, o0.far5 X _ _ _ _ _⟩, ⟨a1, b1, q1, o1.far5 X _ _ _ _ _⟩, ⟨a2, b2, q2, o2.far5 X _ _ _ _ _⟩, ⟨a3, b3, q3, o3.far5 X _ _ _ _ _⟩, trivial⟩, hn⟩

end
end Go.Proofs.YtcchhbkbnbphhaaGreatDoor
