/- Texts of this claim, one behind the other: BusOf, BusDev, RegTwo, FlashDraw, FlashCyc, CpuSame. -/
import Derived.Test.YtcchhbkbnbphhaaGreatDoorChipFlash
import Derived.Deep.RegionHeld3
import Derived.Test.YtcchhbkbnbphhaaGreatDoorCycleOf
import Derived.Handy
import Derived.Test.YtcchhbkbnbphhaaGreatDoorBusWrite
import Derived.Deep.RegionWith
import Derived.Test.YtcchhbkbnbphhaaGreatDoorM7
/- busOf: the four devices of a memory. -/
namespace Go.Proofs.YtcchhbkbnbphhaaGreatDoor
open Go.RowKit

theorem fold_set (cs : List Value) : ∀ (k : Nat) (z : Array Value), z.size = k + cs.length → (cs.zipIdx k).foldl (fun a (x : Value × Nat) => a.setIfInBounds x.2 x.1) z = (z.toList.take k ++ cs).toArray := by
  induction cs with
  | nil =>
    intro k z h
    simp only [List.zipIdx_nil, List.foldl_nil, List.append_nil]
    simp at h
    rw [List.take_of_length_le (by simp [h])]
  | cons c cs ih =>
    intro k z h
    simp only [List.zipIdx_cons, List.foldl_cons]
    rw [ih (k + 1) _ (by simp at h ⊢; omega)]
    congr 1
    simp only [Array.toList_setIfInBounds]
    simp at h
    rw [List.take_set, List.take_add_one]
    simp only [List.set_append, List.length_take]
    rw [show z.toList[k]? = some (z.toList[k]'(by simp; omega)) from List.getElem?_eq_getElem (by simp; omega)]
    simp
    rw [if_neg (by omega)]
    rw [show k - min k z.size = 0 by omega]
    simp
structure BusAt (w : World) (lo g b0 b1 b2 b3 : Nat) (A0 A1 : Option Addr) (c0 c1 : Nat) (ram io zs : List Int) (gs : List Bool) (st : Int) : Prop where
  r : Box w b0 89 #[.slice A0 256 c0]
  i : Box w b1 90 #[.slice A1 32 c1]
  f : Box w b2 96 (chipC zs gs st).toArray
  o : Box w b3 114 #[]
  R : OwnI w lo g A0 ram
  I : OwnI w g w.heap.size A1 io
  l : lo ≤ b0 ∧ lo ≤ b1 ∧ lo ≤ b2 ∧ lo ≤ b3 ∧ lo ≤ g ∧ g ≤ w.heap.size
def GivesBus (ram io zs : List Int) (gs : List Bool) (st : Int) (w : World) (e : Ending) (w' : World) : Prop :=
  ∃ g b0 b1 b2 b3 A0 A1 c0 c1, e = .returned (.agg #[.pointer (some ⟨b0, 0, none⟩), .pointer (some ⟨b1, 0, none⟩), .pointer (some ⟨b2, 0, none⟩), .pointer (some ⟨b3, 0, none⟩)]) ∧ Hid (BusAt w' w.heap.size g b0 b1 b2 b3 A0 A1 c0 c1 ram io zs gs st) ∧ Below w.heap.size w w'
set_option maxRecDepth 100000 in
theorem zeroK_size : Tryz.zeroCells96.size = 273 := by kernel_rfl

def YV (b : Nat) (W : World) (j : Nat) : Value := (W.cell? ⟨b, j, none⟩).getD undef
theorem YV.of {b : Nat} {W : World} {t : TypeId} {cs : Array Value} (h : Box W b t cs) (hs : cs.size = 4) (j : Nat) (hj : j < 4) : W.cell? ⟨b, j, none⟩ = some (YV b W j) := by
  have := h.cell j (Array.getElem?_eq_getElem (by omega : j < cs.size))
  unfold YV; rw [this]; rfl
def RB (W0 : World) (m : Nat) (W : World) : Prop := Below (m + 1) W0 W ∧ m + 1 ≤ W.heap.size ∧ ∃ cs : Array Value, cs.size = 4 ∧ Box W (m + 1) 57 cs
theorem RB.alloc {W0 W : World} {m : Nat} (h : RB W0 m W) (o : Obj) : RB W0 m (W.alloc o) := by
  obtain ⟨a, q, cs, hs, b⟩ := h
  exact ⟨a.trans ((alloc_below W o).mono q), by simp; omega, cs, hs, b.alloc o⟩
theorem RB.step {W0 W W' : World} {m : Nat} (h : RB W0 m W) (k : Below W.heap.size W W') : RB W0 m W' := by
  obtain ⟨a, q, cs, hs, b⟩ := h
  exact ⟨a.trans (k.mono q), Nat.le_trans q k.size, cs, hs, b.step k⟩
theorem RB.set {W0 W : World} {m : Nat} (h : RB W0 m W) (j : Nat) (v : Value) : RB W0 m (W.setCell ⟨m + 1, j, none⟩ v) := by
  obtain ⟨a, q, cs, hs, b⟩ := h
  exact ⟨a.setCell (p := ⟨m + 1, j, none⟩) (Nat.le_refl _) v, by simpa [World.setCell] using q, _, by simpa using hs, b.set j v⟩

theorem Box.box_ne {w : World} {b b' : Nat} {t t' : TypeId} {cs cs' : Array Value} (X : Box w b t cs) (Y : Box w b' t' cs') (ht : t ≠ t') : b ≠ b' := by
  rintro rfl
  have : some (Obj.cells cs t (0, 0)) = some (Obj.cells cs' t' (0, 0)) := X.symm.trans Y
  injection this with this
  injection this with _ this
  exact ht this
theorem arr21 (T : Array Value) (h : T.size = 21) : ∃ t0 t1 t2 t3 t4 t5 t6 t7 t8 t9 t10 t11 t12 t13 t14 t15 t16 t17 t18 t19 t20 : Value, T = #[t0, t1, t2, t3, t4, t5, t6, t7, t8, t9, t10, t11, t12, t13, t14, t15, t16, t17, t18, t19, t20] := by
  obtain ⟨l⟩ := T
  match l, h with
  | [t0, t1, t2, t3, t4, t5, t6, t7, t8, t9, t10, t11, t12, t13, t14, t15, t16, t17, t18, t19, t20], _ => exact ⟨t0, t1, t2, t3, t4, t5, t6, t7, t8, t9, t10, t11, t12, t13, t14, t15, t16, t17, t18, t19, t20, rfl⟩
theorem Box.all4 {w : World} {b : Nat} {t : TypeId} {cs : Array Value} (X : Box w b t cs) (hs : cs.size = 4) (u0 u1 u2 u3 : Value) :
    Box ((((w.setCell ⟨b, 0, none⟩ u0).setCell ⟨b, 1, none⟩ u1).setCell ⟨b, 2, none⟩ u2).setCell ⟨b, 3, none⟩ u3) b t #[u0, u1, u2, u3] := by
  have := (((X.set 0 u0).set 1 u1).set 2 u2).set 3 u3
  rw [show (((cs.setIfInBounds 0 u0).setIfInBounds 1 u1).setIfInBounds 2 u2).setIfInBounds 3 u3 = #[u0, u1, u2, u3] from by
    match cs, hs with
    | ⟨[a, b, c, d]⟩, _ => rfl] at this
  exact this

def busF (M : Nat) (s0 s1 : Value) (fl : Value) (cs : List Value) (ram io : List Int) : Nat → (Nat → Value) → World → Prop
  | 0, t, _ => t 3 = .pointer (some ⟨M, 0, none⟩)
  | 1, t, _ => t 4 = s0
  | 2, t, w => ∃ A c, t 5 = .slice A 256 c ∧ OwnI w M w.heap.size A ram
  | 3, t, _ => ∃ A c, t 5 = .slice A 256 c ∧ t 6 = .agg #[.slice A 256 c]
  | 4, t, w => ∃ b A c, t 5 = .slice A 256 c ∧ t 7 = .pointer (some ⟨b, 0, none⟩) ∧ Box w b 89 #[.slice A 256 c] ∧ M ≤ b
  | 5, t, _ => t 8 = .pointer (some ⟨M, 1, none⟩)
  | 6, t, _ => t 9 = s1
  | 7, t, w => ∃ g A c A' c', t 5 = .slice A 256 c ∧ t 10 = .slice A' 32 c' ∧ OwnI w M g A ram ∧ OwnI w g w.heap.size A' io ∧ M ≤ g ∧ g ≤ w.heap.size
  | 8, t, _ => ∃ A c, t 10 = .slice A 32 c ∧ t 11 = .agg #[.slice A 32 c]
  | 9, t, w => ∃ b A c, t 10 = .slice A 32 c ∧ t 12 = .pointer (some ⟨b, 0, none⟩) ∧ Box w b 90 #[.slice A 32 c] ∧ M ≤ b
  | 10, t, _ => t 13 = .pointer (some ⟨M, 2, none⟩)
  | 11, t, _ => t 14 = fl
  | 12, t, _ => t 15 = .agg cs.toArray
  | 13, t, _ => t 16 = .agg cs.toArray
  | 14, t, w => ∃ b, t 17 = .pointer (some ⟨b, 0, none⟩) ∧ Box w b 96 cs.toArray ∧ M ≤ b
  | 15, t, _ => t 18 = .agg #[]
  | 16, t, w => ∃ b, t 19 = .pointer (some ⟨b, 0, none⟩) ∧ Box w b 114 #[] ∧ M ≤ b
  | 17, t, _ => t 20 = .agg #[t 7, t 12, t 17, t 19]
  | 18, t, w => Box w (M + 1) 57 #[t 7, t 12, t 17, t 19]
  | _, _, _ => True
theorem busF_below {M : Nat} {s0 s1 fl : Value} {cs : List Value} {ram io : List Int} {w w' : World} (k : Below w.heap.size w w') : ∀ (j : Nat) (t : Nat → Value), busF M s0 s1 fl cs ram io j t w → busF M s0 s1 fl cs ram io j t w'
  | 0, _, h | 1, _, h | 3, _, h | 5, _, h | 6, _, h | 8, _, h | 10, _, h | 11, _, h | 12, _, h | 13, _, h | 15, _, h | 17, _, h => h
  | 2, _, ⟨A, c, e, h⟩ => ⟨A, c, e, (h.below k).wideB (Nat.le_refl _) k.size⟩
  | 4, _, ⟨b, A, c, e, e2, h, q⟩ => ⟨b, A, c, e, e2, h.step k, q⟩
  | 7, _, ⟨g, A, c, A', c', e, e2, h, h2, q, q2⟩ => ⟨g, A, c, A', c', e, e2, h.below k, (h2.below k).wideB (Nat.le_refl _) k.size, q, Nat.le_trans q2 k.size⟩
  | 9, _, ⟨b, A, c, e, e2, h, q⟩ => ⟨b, A, c, e, e2, h.step k, q⟩
  | 14, _, ⟨b, e, h, q⟩ => ⟨b, e, h.step k, q⟩
  | 16, _, ⟨b, e, h, q⟩ => ⟨b, e, h.step k, q⟩
  | 18, _, h => Box.step h k
  | n + 19, _, _ => trivial
theorem busF_store {M : Nat} {s0 s1 fl : Value} {cs : List Value} {ram io : List Int} {w : World} {ys : Array Value} (Y : Box w (M + 1) 57 ys) (i : Nat) (u : Value) : ∀ (j : Nat) (t : Nat → Value), j ≠ 18 → busF M s0 s1 fl cs ram io j t w → busF M s0 s1 fl cs ram io j t (w.setCell ⟨M + 1, i, none⟩ u)
  | 0, _, _, h | 1, _, _, h | 3, _, _, h | 5, _, _, h | 6, _, _, h | 8, _, _, h | 10, _, _, h | 11, _, _, h | 12, _, _, h | 13, _, _, h | 15, _, _, h | 17, _, _, h => h
  | 2, _, _, ⟨A, c, e, h⟩ => ⟨A, c, e, (h.farB Y (by decide) i u).wideB (Nat.le_refl _) (by simp [World.setCell])⟩
  | 4, _, _, ⟨b, A, c, e, e2, h, q⟩ => ⟨b, A, c, e, e2, h.far (p := ⟨M + 1, i, none⟩) (h.box_ne Y (by decide)) u, q⟩
  | 7, _, _, ⟨g, A, c, A', c', e, e2, h, h2, q, q2⟩ => ⟨g, A, c, A', c', e, e2, h.farB Y (by decide) i u, (h2.farB Y (by decide) i u).wideB (Nat.le_refl _) (by simp [World.setCell]), q, by simpa [World.setCell] using q2⟩
  | 9, _, _, ⟨b, A, c, e, e2, h, q⟩ => ⟨b, A, c, e, e2, h.far (p := ⟨M + 1, i, none⟩) (h.box_ne Y (by decide)) u, q⟩
  | 14, _, _, ⟨b, e, h, q⟩ => ⟨b, e, h.far (p := ⟨M + 1, i, none⟩) (h.box_ne Y (by decide)) u, q⟩
  | 16, _, _, ⟨b, e, h, q⟩ => ⟨b, e, h.far (p := ⟨M + 1, i, none⟩) (h.box_ne Y (by decide)) u, q⟩
  | 18, _, n, _ => (n rfl).elim
  | n + 19, _, _, _ => trivial

set_option maxRecDepth 100000 in
set_option maxHeartbeats 8000000 in
theorem busOf (A0 A1 A2 A3 : Option Addr) (c0 c1 c2 c3 : Nat) (d0 d1 d2 : List Int) (d3 : List Bool) (d4 : Int) (w : World) (l0 : d0.length = 256) (l1 : d1.length = 32) (l2 : d2.length = 256) (l3 : d3.length = 16) (hz : ∀ z ∈ d2, 0 ≤ z ∧ z ≤ 255) (h0 : IntL w A0 d0) (h1 : IntL w A1 d1) (h2 : IntL w A2 d2) (h3 : BoolL w A3 d3) :
    Calls Tryz.prog 50 #[.agg #[.slice A0 256 c0, .slice A1 32 c1, .slice A2 256 c2, .slice A3 16 c3, .int .i64 d4]] w (GivesBus d0 d1 d2 d3 d4 w) := by
  obtain ⟨W0, hW0⟩ : ∃ W0, W0 = ((w.alloc (.cells #[.slice A0 256 c0, .slice A1 32 c1, .slice A2 256 c2, .slice A3 16 c3, .int .i64 d4] 31)).alloc (.cells #[.pointer none, .pointer none, .pointer none, .pointer none] 57)) := ⟨_, rfl⟩
  have hb0 : Below w.heap.size w W0 := by rw [hW0]; exact bt (alloc_below _ _) (alloc_below _ _)
  have X0 : Box W0 w.heap.size 31 #[.slice A0 256 c0, .slice A1 32 c1, .slice A2 256 c2, .slice A3 16 c3, .int .i64 d4] := by rw [hW0]; exact (Box.new _ _ _).alloc _
  have Y0 : Box W0 (w.heap.size + 1) 57 #[.pointer none, .pointer none, .pointer none, .pointer none] := by rw [hW0]; simpa using Box.new (w.alloc (.cells #[.slice A0 256 c0, .slice A1 32 c1, .slice A2 256 c2, .slice A3 16 c3, .int .i64 d4] 31)) 57 #[.pointer none, .pointer none, .pointer none, .pointer none]
  have hs0 : W0.heap.size = w.heap.size + 2 := by rw [hW0]; simp
  have HB : Hid (∀ W, RB W0 w.heap.size W → Below w.heap.size w W) := Lib.hid (fun W r => hb0.trans (r.1.mono (by omega)))
  have HC0 := Lib.hid (fun W (r : RB W0 w.heap.size W) => cloneI A0 256 c0 d0 W l0 (by omega) (by omega) (h0.below (HB.out _ r)))
  have HC1 := Lib.hid (fun W (r : RB W0 w.heap.size W) => cloneI A1 32 c1 d1 W l1 (by omega) (by omega) (h1.below (HB.out _ r)))
  have HCh := Lib.hid (fun W (r : RB W0 w.heap.size W) => chipOf A2 A3 256 c2 16 c3 d4 d2 d3 W l2 l3 rfl rfl hz (h2.below (HB.out _ r)) (h3.below (HB.out _ r)))
  unfold GivesChip at HCh
  have hcl : (chipC d2 d3 d4).length = 273 := chipC_273 l2 l3 d4
  have hfo : List.foldl (fun (cs : Array Value) (x : Value × Nat) => cs.setIfInBounds x.snd x.fst) Tryz.zeroCells96 (chipC d2 d3 d4).zipIdx = (chipC d2 d3 d4).toArray := by
    have := fold_set (chipC d2 d3 d4) 0 Tryz.zeroCells96 (by rw [zeroK_size, hcl])
    simpa using this
  have HK : Hid (∀ W', RB W0 w.heap.size W' → W'.cell? ⟨w.heap.size, 0, none⟩ = some (.slice A0 256 c0) ∧ W'.cell? ⟨w.heap.size, 1, none⟩ = some (.slice A1 32 c1) ∧ W'.cell? ⟨w.heap.size, 2, none⟩ = some (.slice A2 256 c2) ∧ W'.cell? ⟨w.heap.size, 3, none⟩ = some (.slice A3 16 c3) ∧ W'.cell? ⟨w.heap.size, 4, none⟩ = some (.int .i64 d4) ∧ (W'.cell? ⟨w.heap.size + 1, 0, none⟩ = some (YV (w.heap.size + 1) W' 0) ∧ W'.cell? ⟨w.heap.size + 1, 1, none⟩ = some (YV (w.heap.size + 1) W' 1) ∧ W'.cell? ⟨w.heap.size + 1, 2, none⟩ = some (YV (w.heap.size + 1) W' 2) ∧ W'.cell? ⟨w.heap.size + 1, 3, none⟩ = some (YV (w.heap.size + 1) W' 3)) ∧ W'.frozen? ⟨w.heap.size + 1, 0, none⟩ = false ∧ W'.frozen? ⟨w.heap.size + 1, 1, none⟩ = false ∧ W'.frozen? ⟨w.heap.size + 1, 2, none⟩ = false ∧ W'.frozen? ⟨w.heap.size + 1, 3, none⟩ = false) := Lib.hid (fun W' r => by
    have X := X0.below r.1 (by omega)
    obtain ⟨a, q, cs, hs, b⟩ := r
    exact ⟨X.cell 0 rfl, X.cell 1 rfl, X.cell 2 rfl, X.cell 3 rfl, X.cell 4 rfl, ⟨YV.of b hs 0 (by omega), YV.of b hs 1 (by omega), YV.of b hs 2 (by omega), YV.of b hs 3 (by omega)⟩, b.frozen 0, b.frozen 1, b.frozen 2, b.frozen 3⟩)
  generalize hcs : chipC d2 d3 d4 = cs at HCh hcl hfo
  have HCs := Lib.hid hcs
  have HW0 := Lib.hid hW0
  have R0 : RB W0 w.heap.size W0.drew := ⟨(Below.refl _ _).drew, by show w.heap.size + 1 ≤ W0.heap.size; omega, _, rfl, Y0⟩
  clear l0 l1 l2 l3 hz h0 h1 h2 h3 hcs X0 Y0 hW0 hs0 hb0
  go_enter Tryz.func50, Tryz.ntmps50
  go_wp2
  rw [← HW0.out]
  refine wp_region_facts (by kernel_rfl) [[3], [4], [5], [5, 6], [5, 7], [8], [9], [5, 10], [10, 11], [10, 12], [13], [14], [15], [16], [17], [18], [19], [20, 7, 12, 17, 19], [7, 12, 17, 19]] [[], [0], [0, 1], [0, 1, 2], [0, 1, 2, 3], [], [5], [0, 1, 2, 5, 6], [0, 1, 2, 5, 6, 7], [0, 1, 2, 5, 6, 7, 8], [], [10], [0, 1, 2, 5, 6, 7, 10, 11], [0, 1, 2, 5, 6, 7, 10, 11, 12], [0, 1, 2, 5, 6, 7, 10, 11, 12, 13], [], [15], [4, 9, 14, 16, 3, 8, 13, 15, 0, 1, 2, 5, 6, 7, 10, 11, 12], [0, 1, 2, 3, 4, 5, 6, 7, 8, 9, 10, 11, 12, 13, 14, 15, 16, 17]] [0, 1, 2] (by kernel_rfl) (RB W0 w.heap.size) (busF w.heap.size (.slice A0 256 c0) (.slice A1 32 c1) (.agg #[.slice A2 256 c2, .slice A3 16 c3, .int .i64 d4]) cs d0 d1) R0 ?_ ?_
  · refine ⟨?_, ?_, ?_, ?_, ?_, ?_, ?_, ?_, ?_, ?_, ?_, ?_, ?_, ?_, ?_, ?_, ?_, ?_, ?_, trivial⟩
    · intro T W hT hs hC hF K hK
      obtain ⟨t0, t1, t2, t3, t4, t5, t6, t7, t8, t9, t10, t11, t12, t13, t14, t15, t16, t17, t18, t19, t20, rfl⟩ := arr21 T hT
      obtain rfl : t1 = .pointer (some ⟨w.heap.size, 0, none⟩) := hs 1 (by decide)
      obtain rfl : t2 = .pointer (some ⟨w.heap.size + 1, 0, none⟩) := hs 2 (by decide)
      clear hF hs hT
      go_simp
      exact hK.out _ W hC (fun _ _ _ h => h) rfl
    · intro T W hT hs hC hF K hK
      obtain ⟨t0, t1, t2, t3, t4, t5, t6, t7, t8, t9, t10, t11, t12, t13, t14, t15, t16, t17, t18, t19, t20, rfl⟩ := arr21 T hT
      obtain rfl : t1 = .pointer (some ⟨w.heap.size, 0, none⟩) := hs 1 (by decide)
      obtain rfl : t2 = .pointer (some ⟨w.heap.size + 1, 0, none⟩) := hs 2 (by decide)
      have f0 := hF 0 (by decide)
      simp only [busF, mask] at f0
      clear hF hs hT
      subst f0
      have k := (HK.out W hC).1
      go_simp
      exact hK.out _ W hC (fun _ _ _ h => h) rfl
    · intro T W hT hs hC hF K hK
      obtain ⟨t0, t1, t2, t3, t4, t5, t6, t7, t8, t9, t10, t11, t12, t13, t14, t15, t16, t17, t18, t19, t20, rfl⟩ := arr21 T hT
      obtain rfl : t1 = .pointer (some ⟨w.heap.size, 0, none⟩) := hs 1 (by decide)
      obtain rfl : t2 = .pointer (some ⟨w.heap.size + 1, 0, none⟩) := hs 2 (by decide)
      have f1 := hF 1 (by decide)
      simp only [busF, mask] at f1
      clear hF hs hT
      subst f1
      go_simp
      refine (HC0.out W hC).mono ?_
      rintro e w1 ⟨A, c, rfl, O, k⟩
      exact hK.out _ w1 (hC.step k) (fun j t _ h => busF_below k j t h) ⟨A, c, rfl, O.out.wideB (HB.out _ hC).size (Nat.le_refl _)⟩
    · intro T W hT hs hC hF K hK
      obtain ⟨t0, t1, t2, t3, t4, t5, t6, t7, t8, t9, t10, t11, t12, t13, t14, t15, t16, t17, t18, t19, t20, rfl⟩ := arr21 T hT
      obtain rfl : t1 = .pointer (some ⟨w.heap.size, 0, none⟩) := hs 1 (by decide)
      obtain rfl : t2 = .pointer (some ⟨w.heap.size + 1, 0, none⟩) := hs 2 (by decide)
      have f2 := hF 2 (by decide)
      simp only [busF, mask] at f2
      clear hF hs hT
      obtain ⟨A, c, e5, O⟩ := f2
      subst e5
      clear O
      go_simp
      exact hK.out _ W hC (fun _ _ _ h => h) ⟨A, c, rfl, rfl⟩
    · intro T W hT hs hC hF K hK
      obtain ⟨t0, t1, t2, t3, t4, t5, t6, t7, t8, t9, t10, t11, t12, t13, t14, t15, t16, t17, t18, t19, t20, rfl⟩ := arr21 T hT
      obtain rfl : t1 = .pointer (some ⟨w.heap.size, 0, none⟩) := hs 1 (by decide)
      obtain rfl : t2 = .pointer (some ⟨w.heap.size + 1, 0, none⟩) := hs 2 (by decide)
      have f3 := hF 3 (by decide)
      simp only [busF, mask] at f3
      clear hF hs hT
      obtain ⟨A, c, e5, e6⟩ := f3
      subst e5 e6
      have k := alloc_below W (.cells #[.slice A 256 c] 89)
      go_simp
      exact hK.out _ _ (hC.alloc _) (fun j t _ h => busF_below k j t h) ⟨W.heap.size, A, c, rfl, rfl, Box.new _ _ _, (HB.out _ hC).size⟩
    · intro T W hT hs hC hF K hK
      obtain ⟨t0, t1, t2, t3, t4, t5, t6, t7, t8, t9, t10, t11, t12, t13, t14, t15, t16, t17, t18, t19, t20, rfl⟩ := arr21 T hT
      obtain rfl : t1 = .pointer (some ⟨w.heap.size, 0, none⟩) := hs 1 (by decide)
      obtain rfl : t2 = .pointer (some ⟨w.heap.size + 1, 0, none⟩) := hs 2 (by decide)
      clear hF hs hT
      go_simp
      exact hK.out _ W hC (fun _ _ _ h => h) rfl
    · intro T W hT hs hC hF K hK
      obtain ⟨t0, t1, t2, t3, t4, t5, t6, t7, t8, t9, t10, t11, t12, t13, t14, t15, t16, t17, t18, t19, t20, rfl⟩ := arr21 T hT
      obtain rfl : t1 = .pointer (some ⟨w.heap.size, 0, none⟩) := hs 1 (by decide)
      obtain rfl : t2 = .pointer (some ⟨w.heap.size + 1, 0, none⟩) := hs 2 (by decide)
      have f5 := hF 5 (by decide)
      simp only [busF, mask] at f5
      clear hF hs hT
      subst f5
      have k := (HK.out W hC).2.1
      go_simp
      exact hK.out _ W hC (fun _ _ _ h => h) rfl
    · intro T W hT hs hC hF K hK
      obtain ⟨t0, t1, t2, t3, t4, t5, t6, t7, t8, t9, t10, t11, t12, t13, t14, t15, t16, t17, t18, t19, t20, rfl⟩ := arr21 T hT
      obtain rfl : t1 = .pointer (some ⟨w.heap.size, 0, none⟩) := hs 1 (by decide)
      obtain rfl : t2 = .pointer (some ⟨w.heap.size + 1, 0, none⟩) := hs 2 (by decide)
      have f6 := hF 6 (by decide)
      simp only [busF, mask] at f6
      have f2 := hF 2 (by decide)
      simp only [busF, mask] at f2
      clear hF hs hT
      subst f6
      obtain ⟨A, c, e5, O5⟩ := f2
      subst e5
      have H5 := Lib.hid O5
      clear O5
      go_simp
      refine (HC1.out W hC).mono ?_
      rintro e w1 ⟨A', c', rfl, O, k⟩
      exact hK.out _ w1 (hC.step k) (fun j t _ h => busF_below k j t h) ⟨W.heap.size, A, c, A', c', rfl, rfl, H5.out.below k, O.out, (HB.out _ hC).size, k.size⟩
    · intro T W hT hs hC hF K hK
      obtain ⟨t0, t1, t2, t3, t4, t5, t6, t7, t8, t9, t10, t11, t12, t13, t14, t15, t16, t17, t18, t19, t20, rfl⟩ := arr21 T hT
      obtain rfl : t1 = .pointer (some ⟨w.heap.size, 0, none⟩) := hs 1 (by decide)
      obtain rfl : t2 = .pointer (some ⟨w.heap.size + 1, 0, none⟩) := hs 2 (by decide)
      have f7 := hF 7 (by decide)
      simp only [busF, mask] at f7
      clear hF hs hT
      obtain ⟨g, A, c, A', c', e5, e10, O5, O10, q, q2⟩ := f7
      subst e5 e10
      clear O5 O10
      go_simp
      exact hK.out _ W hC (fun _ _ _ h => h) ⟨A', c', rfl, rfl⟩
    · intro T W hT hs hC hF K hK
      obtain ⟨t0, t1, t2, t3, t4, t5, t6, t7, t8, t9, t10, t11, t12, t13, t14, t15, t16, t17, t18, t19, t20, rfl⟩ := arr21 T hT
      obtain rfl : t1 = .pointer (some ⟨w.heap.size, 0, none⟩) := hs 1 (by decide)
      obtain rfl : t2 = .pointer (some ⟨w.heap.size + 1, 0, none⟩) := hs 2 (by decide)
      have f8 := hF 8 (by decide)
      simp only [busF, mask] at f8
      clear hF hs hT
      obtain ⟨A, c, e5, e6⟩ := f8
      subst e5 e6
      have k := alloc_below W (.cells #[.slice A 32 c] 90)
      go_simp
      exact hK.out _ _ (hC.alloc _) (fun j t _ h => busF_below k j t h) ⟨W.heap.size, A, c, rfl, rfl, Box.new _ _ _, (HB.out _ hC).size⟩
    · intro T W hT hs hC hF K hK
      obtain ⟨t0, t1, t2, t3, t4, t5, t6, t7, t8, t9, t10, t11, t12, t13, t14, t15, t16, t17, t18, t19, t20, rfl⟩ := arr21 T hT
      obtain rfl : t1 = .pointer (some ⟨w.heap.size, 0, none⟩) := hs 1 (by decide)
      obtain rfl : t2 = .pointer (some ⟨w.heap.size + 1, 0, none⟩) := hs 2 (by decide)
      clear hF hs hT
      go_simp
      exact hK.out _ W hC (fun _ _ _ h => h) rfl
    · intro T W hT hs hC hF K hK
      obtain ⟨t0, t1, t2, t3, t4, t5, t6, t7, t8, t9, t10, t11, t12, t13, t14, t15, t16, t17, t18, t19, t20, rfl⟩ := arr21 T hT
      obtain rfl : t1 = .pointer (some ⟨w.heap.size, 0, none⟩) := hs 1 (by decide)
      obtain rfl : t2 = .pointer (some ⟨w.heap.size + 1, 0, none⟩) := hs 2 (by decide)
      have f10 := hF 10 (by decide)
      simp only [busF, mask] at f10
      clear hF hs hT
      subst f10
      have k2 := (HK.out W hC).2.2.1
      have k3 := (HK.out W hC).2.2.2.1
      have k4 := (HK.out W hC).2.2.2.2.1
      go_simp
      exact hK.out _ W hC (fun _ _ _ h => h) rfl
    · intro T W hT hs hC hF K hK
      obtain ⟨t0, t1, t2, t3, t4, t5, t6, t7, t8, t9, t10, t11, t12, t13, t14, t15, t16, t17, t18, t19, t20, rfl⟩ := arr21 T hT
      obtain rfl : t1 = .pointer (some ⟨w.heap.size, 0, none⟩) := hs 1 (by decide)
      obtain rfl : t2 = .pointer (some ⟨w.heap.size + 1, 0, none⟩) := hs 2 (by decide)
      have f11 := hF 11 (by decide)
      simp only [busF, mask] at f11
      clear hF hs hT
      subst f11
      go_simp
      refine (HCh.out W hC).mono ?_
      rintro e w1 ⟨rfl, k⟩
      exact hK.out _ w1 (hC.step k) (fun j t _ h => busF_below k j t h) rfl
    · intro T W hT hs hC hF K hK
      obtain ⟨t0, t1, t2, t3, t4, t5, t6, t7, t8, t9, t10, t11, t12, t13, t14, t15, t16, t17, t18, t19, t20, rfl⟩ := arr21 T hT
      obtain rfl : t1 = .pointer (some ⟨w.heap.size, 0, none⟩) := hs 1 (by decide)
      obtain rfl : t2 = .pointer (some ⟨w.heap.size + 1, 0, none⟩) := hs 2 (by decide)
      have f12 := hF 12 (by decide)
      simp only [busF, mask] at f12
      clear hF hs hT
      subst f12
      go_simp
      exact hK.out _ W hC (fun _ _ _ h => h) rfl
    · intro T W hT hs hC hF K hK
      obtain ⟨t0, t1, t2, t3, t4, t5, t6, t7, t8, t9, t10, t11, t12, t13, t14, t15, t16, t17, t18, t19, t20, rfl⟩ := arr21 T hT
      obtain rfl : t1 = .pointer (some ⟨w.heap.size, 0, none⟩) := hs 1 (by decide)
      obtain rfl : t2 = .pointer (some ⟨w.heap.size + 1, 0, none⟩) := hs 2 (by decide)
      have f13 := hF 13 (by decide)
      simp only [busF, mask] at f13
      clear hF hs hT
      subst f13
      have k := alloc_below W (.cells cs.toArray 96)
      go_simp
      exact hK.out _ _ (hC.alloc _) (fun j t _ h => busF_below k j t h) ⟨W.heap.size, rfl, Box.new _ _ _, (HB.out _ hC).size⟩
    · intro T W hT hs hC hF K hK
      obtain ⟨t0, t1, t2, t3, t4, t5, t6, t7, t8, t9, t10, t11, t12, t13, t14, t15, t16, t17, t18, t19, t20, rfl⟩ := arr21 T hT
      obtain rfl : t1 = .pointer (some ⟨w.heap.size, 0, none⟩) := hs 1 (by decide)
      obtain rfl : t2 = .pointer (some ⟨w.heap.size + 1, 0, none⟩) := hs 2 (by decide)
      clear hF hs hT
      go_simp
      exact hK.out _ W hC (fun _ _ _ h => h) rfl
    · intro T W hT hs hC hF K hK
      obtain ⟨t0, t1, t2, t3, t4, t5, t6, t7, t8, t9, t10, t11, t12, t13, t14, t15, t16, t17, t18, t19, t20, rfl⟩ := arr21 T hT
      obtain rfl : t1 = .pointer (some ⟨w.heap.size, 0, none⟩) := hs 1 (by decide)
      obtain rfl : t2 = .pointer (some ⟨w.heap.size + 1, 0, none⟩) := hs 2 (by decide)
      have f15 := hF 15 (by decide)
      simp only [busF, mask] at f15
      clear hF hs hT
      subst f15
      have k := alloc_below W (.cells #[] 114)
      go_simp
      exact hK.out _ _ (hC.alloc _) (fun j t _ h => busF_below k j t h) ⟨W.heap.size, rfl, Box.new _ _ _, (HB.out _ hC).size⟩
    · intro T W hT hs hC hF K hK
      obtain ⟨t0, t1, t2, t3, t4, t5, t6, t7, t8, t9, t10, t11, t12, t13, t14, t15, t16, t17, t18, t19, t20, rfl⟩ := arr21 T hT
      obtain rfl : t1 = .pointer (some ⟨w.heap.size, 0, none⟩) := hs 1 (by decide)
      obtain rfl : t2 = .pointer (some ⟨w.heap.size + 1, 0, none⟩) := hs 2 (by decide)
      have f4 := hF 4 (by decide)
      simp only [busF, mask] at f4
      have f9 := hF 9 (by decide)
      simp only [busF, mask] at f9
      have f14 := hF 14 (by decide)
      simp only [busF, mask] at f14
      have f16 := hF 16 (by decide)
      simp only [busF, mask] at f16
      clear hF hs hT
      obtain ⟨b0, A, c, e5, e7, B0, q0⟩ := f4
      obtain ⟨b1, A', c', e10, e12, B1, q1⟩ := f9
      obtain ⟨b2, e17, B2, q2⟩ := f14
      obtain ⟨b3, e19, B3, q3⟩ := f16
      subst e5 e7 e10 e12 e17 e19
      clear B0 B1 B2 B3 q0 q1 q2 q3
      go_simp
      exact hK.out _ W hC (fun _ _ _ h => h) rfl
    · intro T W hT hs hC hF K hK
      obtain ⟨t0, t1, t2, t3, t4, t5, t6, t7, t8, t9, t10, t11, t12, t13, t14, t15, t16, t17, t18, t19, t20, rfl⟩ := arr21 T hT
      obtain rfl : t1 = .pointer (some ⟨w.heap.size, 0, none⟩) := hs 1 (by decide)
      obtain rfl : t2 = .pointer (some ⟨w.heap.size + 1, 0, none⟩) := hs 2 (by decide)
      have f17 : t20 = .agg #[t7, t12, t17, t19] := hF 17 (by decide)
      have f4 := hF 4 (by decide)
      simp only [busF, mask] at f4
      have f9 := hF 9 (by decide)
      simp only [busF, mask] at f9
      have f14 := hF 14 (by decide)
      simp only [busF, mask] at f14
      have f16 := hF 16 (by decide)
      simp only [busF, mask] at f16
      clear hF hs hT
      obtain ⟨b0, A, c, e5, e7, B0, q0⟩ := f4
      obtain ⟨b1, A', c', e10, e12, B1, q1⟩ := f9
      obtain ⟨b2, e17, B2, q2⟩ := f14
      obtain ⟨b3, e19, B3, q3⟩ := f16
      subst e5 e7 e10 e12 e17 e19 f17
      clear B0 B1 B2 B3 q0 q1 q2 q3
      obtain ⟨hCa, hCb, ys, hys, Y⟩ := hC
      have y0 := YV.of Y hys 0 (by omega)
      have y1 := YV.of Y hys 1 (by omega)
      have y2 := YV.of Y hys 2 (by omega)
      have y3 := YV.of Y hys 3 (by omega)
      have z0 := Y.frozen 0
      have z1 := Y.frozen 1
      have z2 := Y.frozen 2
      have z3 := Y.frozen 3
      have HYs := Lib.hid (And.intro hys Y)
      have hC : RB W0 w.heap.size W := ⟨hCa, hCb, ys, hys, Y⟩
      clear hys Y hCa hCb
      go_simp
      exact hK.out undef _ ((((hC.set 0 _).set 1 _).set 2 _).set 3 _) (fun j t n h => busF_store (((HYs.out.2.set 0 _).set 1 _).set 2 _) 3 _ j t n (busF_store ((HYs.out.2.set 0 _).set 1 _) 2 _ j t n (busF_store (HYs.out.2.set 0 _) 1 _ j t n (busF_store HYs.out.2 0 _ j t n h)))) (HYs.out.2.all4 HYs.out.1 _ _ _ _)
  · intro T W hT hs hC hF
    obtain ⟨t0, t1, t2, t3, t4, t5, t6, t7, t8, t9, t10, t11, t12, t13, t14, t15, t16, t17, t18, t19, t20, rfl⟩ := arr21 T hT
    obtain rfl : t2 = .pointer (some ⟨w.heap.size + 1, 0, none⟩) := hs 2 (by decide)
    obtain ⟨b0, A, c, e5, e7, B0, q0⟩ := hF 4 (by decide)
    obtain ⟨g, A', c', A1', c1', e5', e10', O5, O10, qg, qg2⟩ := hF 7 (by decide)
    obtain ⟨b1, A1, c1, e10, e12, B1, q1⟩ := hF 9 (by decide)
    obtain ⟨b2, e17, B2, q2⟩ := hF 14 (by decide)
    obtain ⟨b3, e19, B3, q3⟩ := hF 16 (by decide)
    have Y : Box W (w.heap.size + 1) 57 #[t7, t12, t17, t19] := hF 18 (by decide)
    subst e5 e7 e10 e12 e17 e19
    injection (show Value.slice A 256 c = .slice A' 256 c' from e5') with x1 _ x2
    injection (show Value.slice A1 32 c1 = .slice A1' 32 c1' from e10') with x3 _ x4
    subst x1 x2 x3 x4
    have y0 := Y.cell 0 rfl
    have y1 := Y.cell 1 rfl
    have y2 := Y.cell 2 rfl
    have y3 := Y.cell 3 rfl
    have HR : Hid (BusAt W w.heap.size g b0 b1 b2 b3 A A1 c c1 d0 d1 d2 d3 d4) := Lib.hid ⟨B0, B1, by rw [HCs.out]; exact B2, B3, O5, O10, q0, q1, q2, q3, qg, qg2⟩
    have HBw := Lib.hid (HB.out _ hC)
    clear e5' e10' O5 O10 B0 B1 B2 B3 Y hF hs hT hC R0
    go_wp2
    refine bodyPost_ret (v := .agg #[.pointer (some ⟨b0, 0, none⟩), .pointer (some ⟨b1, 0, none⟩), .pointer (some ⟨b2, 0, none⟩), .pointer (some ⟨b3, 0, none⟩)]) (by simp [results, Tryz.results50, go_sem, y0, y1, y2, y3]) rfl ?_
    exact ⟨_, _, _, _, _, _, _, _, _, rfl, HR, HBw.out⟩
end Go.Proofs.YtcchhbkbnbphhaaGreatDoor

/- The devices' methods. -/
namespace Go.Proofs.YtcchhbkbnbphhaaGreatDoor
open Go.RowKit

section
variable (p0 p1 p2 p3 : Addr) (w : World)
set_option maxRecDepth 100000 in
theorem busDevice1 : Calls Tryz.prog 115 #[.agg #[.pointer (some p0), .pointer (some p1), .pointer (some p2), .pointer (some p3)], .int .i64 1] w fun e w' => e = .returned (.iface 52 (.pointer (some p0))) ∧ Below w.heap.size w w' := by
  have hb0 := alloc_below w (.cells #[.pointer (some p0), .pointer (some p1), .pointer (some p2), .pointer (some p3)] 57)
  go_enter Tryz.func115, Tryz.ntmps115
  go_wp2
  go_ret
  exact ⟨rfl, hb0⟩
set_option maxRecDepth 100000 in
theorem busDevice2 : Calls Tryz.prog 115 #[.agg #[.pointer (some p0), .pointer (some p1), .pointer (some p2), .pointer (some p3)], .int .i64 2] w fun e w' => e = .returned (.iface 53 (.pointer (some p1))) ∧ Below w.heap.size w w' := by
  have hb0 := alloc_below w (.cells #[.pointer (some p0), .pointer (some p1), .pointer (some p2), .pointer (some p3)] 57)
  go_enter Tryz.func115, Tryz.ntmps115
  go_wp2
  go_ret
  exact ⟨rfl, hb0⟩
set_option maxRecDepth 100000 in
theorem busDevice3 : Calls Tryz.prog 115 #[.agg #[.pointer (some p0), .pointer (some p1), .pointer (some p2), .pointer (some p3)], .int .i64 3] w fun e w' => e = .returned (.iface 54 (.pointer (some p2))) ∧ Below w.heap.size w w' := by
  have hb0 := alloc_below w (.cells #[.pointer (some p0), .pointer (some p1), .pointer (some p2), .pointer (some p3)] 57)
  go_enter Tryz.func115, Tryz.ntmps115
  go_wp2
  go_ret
  exact ⟨rfl, hb0⟩
set_option maxRecDepth 100000 in
theorem busDevice0 : Calls Tryz.prog 115 #[.agg #[.pointer (some p0), .pointer (some p1), .pointer (some p2), .pointer (some p3)], .int .i64 0] w fun e w' => e = .returned (.iface 55 (.pointer (some p3))) ∧ Below w.heap.size w w' := by
  have hb0 := alloc_below w (.cells #[.pointer (some p0), .pointer (some p1), .pointer (some p2), .pointer (some p3)] 57)
  go_enter Tryz.func115, Tryz.ntmps115
  go_wp2
  go_ret
  exact ⟨rfl, hb0⟩
end

set_option maxRecDepth 100000 in
theorem workRead (b k c n : Nat) (A : Option Addr) (zs : List Int) (w : World) (hl : zs.length = n) (hn : n = 256) (hk : k < n) (X : Box w b 89 #[.slice A n c]) (h : IntL w A zs) :
    Calls Tryz.prog 145 #[.pointer (some ⟨b, 0, none⟩), .int .i64 k] w fun e w' => e = .returned (.int .i64 (zs.getD k 0)) ∧ w = w' := by
  obtain ⟨bb, off, rfl, hc⟩ := h k (by omega)
  generalize zs.getD k 0 = x at hc
  have x0 := X.cell 0 rfl
  have hi : (k : Int) < (n : Int) := by omega
  clear h hl X
  go_enter Tryz.func145, Tryz.ntmps145
  go_wp2
  go_ret
  exact ⟨rfl, rfl⟩
set_option maxRecDepth 100000 in
theorem regsRead (b k c n : Nat) (A : Option Addr) (zs : List Int) (w : World) (hl : zs.length = n) (hn : n = 32) (hk : k < n) (X : Box w b 90 #[.slice A n c]) (h : IntL w A zs) :
    Calls Tryz.prog 147 #[.pointer (some ⟨b, 0, none⟩), .int .i64 k] w fun e w' => e = .returned (.int .i64 (zs.getD k 0)) ∧ w = w' := by
  obtain ⟨bb, off, rfl, hc⟩ := h k (by omega)
  generalize zs.getD k 0 = x at hc
  have x0 := X.cell 0 rfl
  have hi : (k : Int) < (n : Int) := by omega
  clear h hl X
  go_enter Tryz.func147, Tryz.ntmps147
  go_wp2
  go_ret
  exact ⟨rfl, rfl⟩
set_option maxRecDepth 100000 in
theorem openRead (p : Addr) (k : Int) (w : World) : Calls Tryz.prog 161 #[.pointer (some p), .int .i64 k] w fun e w' => e = .returned (.int .i64 255) ∧ w = w' := by
  go_enter Tryz.func161, Tryz.ntmps161
  go_wp2
  go_ret
  exact ⟨rfl, rfl⟩
set_option maxRecDepth 100000 in
theorem openWrite (p : Addr) (k v : Int) (w : World) : Calls Tryz.prog 162 #[.pointer (some p), .int .i64 k, .int .i64 v] w fun e w' => e = .returned (.tuple #[]) ∧ w = w' := by
  go_enter Tryz.func162, Tryz.ntmps162
  go_wp2
  go_end0
  exact ⟨rfl, rfl⟩

theorem Box.rangeL {w : World} {b : Nat} {t : TypeId} {cs : List Value} (h : Box w b t cs.toArray) : w.rangeAt b 0 cs := fun j v hv => by
  rw [Nat.zero_add]; exact h.cell j (by simpa using hv)
theorem Box.thereL {w : World} {b : Nat} {t : TypeId} {cs : List Value} (h : Box w b t cs.toArray) : w.there b 0 cs.length := fun j hj => by
  rw [Nat.zero_add]
  exact ⟨by rw [h.cell j (by rw [List.getElem?_toArray, List.getElem?_eq_getElem hj])]; rfl, h.frozen j⟩
theorem Box.putL {w : World} {b : Nat} {t : TypeId} {cs cs' : List Value} (h : Box w b t cs.toArray) (hl : cs'.length = cs.length) : Box (w.setCells b 0 cs') b t cs'.toArray := by
  have := setCells_list cs' [] cs h (by rw [hl])
  exact this
theorem btw_setCells {a : World} {b : Nat} : ∀ (cs : List Value) (o : Nat) (w : World), Btw b (b + 1) a w → Btw b (b + 1) a (w.setCells b o cs)
  | [], _, _, h => h
  | v :: vs, o, w, h => btw_setCells vs (o + 1) _ (h.setCell (p := ⟨b, o, none⟩) (Nat.le_refl _) (Nat.lt_succ_self _) v)
theorem OwnI.awayB {w w' : World} {lo hi b : Nat} {A : Option Addr} {zs : List Int} {t : TypeId} {cs : Array Value} (h : OwnI w lo hi A zs) (X : Box w b t cs) (ht : t ≠ 3) (hb : Btw b (b + 1) w w') : OwnI w' lo hi A zs := by
  rcases h with e | ⟨g, m, f, e, h1, h2, hm, hr, hf⟩
  · exact .inl e
  · exact .inr ⟨g, m, f, e, h1, h2, hm, hb.row hr (by have := X.ne hr ht; omega), hf⟩
theorem Box.awayB {w w' : World} {b b' : Nat} {t t' : TypeId} {cs cs' : Array Value} (h : Box w b t cs) (X : Box w b' t' cs') (ht : t ≠ t') (hb : Btw b' (b' + 1) w w') : Box w' b t cs := h.btw hb (by have := h.box_ne X ht; omega)

theorem size_setCells (b : Nat) : ∀ (cs : List Value) (o : Nat) (w : World), (w.setCells b o cs).heap.size = w.heap.size
  | [], _, _ => rfl
  | v :: vs, o, w => (size_setCells b vs (o + 1) _).trans (by simp [World.setCell])
theorem below_setCellsN {n : Nat} {w0 w : World} {b : Nat} (h : Below n w0 w) (hb : n ≤ b) : ∀ (o : Nat) (cs : List Value), Below n w0 (w.setCells b o cs) := by
  intro o cs
  induction cs generalizing w o with
  | nil => exact h
  | cons v vs ih => exact ih (h.setCell (p := ⟨b, o, none⟩) hb v) (o + 1)

section
variable {w w' : World} {lo g b0 b1 b2 b3 : Nat} {A0 A1 : Option Addr} {c0 c1 : Nat} {ram io zs : List Int} {gs : List Bool} {st : Int}
theorem BusAt.step (B : BusAt w lo g b0 b1 b2 b3 A0 A1 c0 c1 ram io zs gs st) (k : Below w.heap.size w w') : BusAt w' lo g b0 b1 b2 b3 A0 A1 c0 c1 ram io zs gs st :=
  ⟨B.r.step k, B.i.step k, B.f.step k, B.o.step k, B.R.below k, (B.I.below k).wideB (Nat.le_refl _) k.size, B.l.1, B.l.2.1, B.l.2.2.1, B.l.2.2.2.1, B.l.2.2.2.2.1, Nat.le_trans B.l.2.2.2.2.2 k.size⟩
def Writes (lo g b0 b1 b2 b3 : Nat) (A0 A1 : Option Addr) (c0 c1 : Nat) (ram io zs : List Int) (gs : List Bool) (st : Int) (w : World) (e : Ending) (w' : World) : Prop :=
  e = .returned (.tuple #[]) ∧ Hid (BusAt w' lo g b0 b1 b2 b3 A0 A1 c0 c1 ram io zs gs st) ∧ Hid (∀ b t cs, t ≠ 3 → t ≠ 96 → Box w b t cs → Box w' b t cs) ∧ Below lo w w'
end

section
variable (lo g b0 b1 b2 b3 : Nat) (A0 A1 : Option Addr) (c0 c1 : Nat) (ram io zs : List Int) (gs : List Bool) (st : Int) (w : World)
set_option maxRecDepth 100000 in
theorem workWrite (k : Nat) (v : Int) (hk : k < 256) (hl : ram.length = 256) (B : BusAt w lo g b0 b1 b2 b3 A0 A1 c0 c1 ram io zs gs st) :
    Calls Tryz.prog 146 #[.pointer (some ⟨b0, 0, none⟩), .int .i64 k, .int .i64 v] w (Writes lo g b0 b1 b2 b3 A0 A1 c0 c1 (ram.set k v) io zs gs st w) := by
  obtain ⟨ba, ma, fa, rfl, hca, hfa, hlo, hhi, hra, hput⟩ := B.R.put k (by omega)
  have hbw : Btw ba (ba + 1) w (w.setCell ⟨ba, k, none⟩ (.int .i64 v)) := (Btw.refl _ _ _).setCell (p := ⟨ba, k, none⟩) (Nat.le_refl _) (Nat.lt_succ_self _) _
  have HB : Hid (BusAt (w.setCell ⟨ba, k, none⟩ (.int .i64 v)) lo g b0 b1 b2 b3 (some ⟨ba, 0, none⟩) A1 c0 c1 (ram.set k v) io zs gs st) := Lib.hid ⟨B.r.other hra (by decide) _ _, B.i.other hra (by decide) _ _, B.f.other hra (by decide) _ _, B.o.other hra (by decide) _ _, hput v, (B.I.btw hbw (.inr (by omega))).wideB (Nat.le_refl _) (by simp [World.setCell]), by simpa [World.setCell] using B.l⟩
  have HW : Hid (Below lo w (w.setCell ⟨ba, k, none⟩ (.int .i64 v))) := Lib.hid ((Below.refl _ _).setCell (p := ⟨ba, k, none⟩) hlo _)
  have HO : Hid (∀ b t cs, t ≠ 3 → t ≠ 96 → Box w b t cs → Box (w.setCell ⟨ba, k, none⟩ (.int .i64 v)) b t cs) := Lib.hid (fun b t cs h _ X => X.other hra h _ _)
  have x0 := B.r.cell 0 rfl
  generalize ram.getD k 0 = x at hca
  have hi : (k : Int) < 256 := by omega
  clear B hput hra hbw hlo hhi hl
  go_enter Tryz.func146, Tryz.ntmps146
  go_wp2
  go_end0
  exact ⟨rfl, HB, HO, HW.out⟩
set_option maxRecDepth 100000 in
theorem regsWrite (k : Nat) (v : Int) (hk : k < 32) (h0 : 0 < k) (hl : io.length = 32) (B : BusAt w lo g b0 b1 b2 b3 A0 A1 c0 c1 ram io zs gs st) :
    Calls Tryz.prog 148 #[.pointer (some ⟨b1, 0, none⟩), .int .i64 k, .int .i64 v] w (Writes lo g b0 b1 b2 b3 A0 A1 c0 c1 ram (io.set k v) zs gs st w) := by
  obtain ⟨ba, ma, fa, rfl, hca, hfa, hlo, hhi, hra, hput⟩ := B.I.put k (by omega)
  have hbw : Btw ba (ba + 1) w (w.setCell ⟨ba, k, none⟩ (.int .i64 v)) := (Btw.refl _ _ _).setCell (p := ⟨ba, k, none⟩) (Nat.le_refl _) (Nat.lt_succ_self _) _
  have HB : Hid (BusAt (w.setCell ⟨ba, k, none⟩ (.int .i64 v)) lo g b0 b1 b2 b3 A0 (some ⟨ba, 0, none⟩) c0 c1 ram (io.set k v) zs gs st) := Lib.hid ⟨B.r.other hra (by decide) _ _, B.i.other hra (by decide) _ _, B.f.other hra (by decide) _ _, B.o.other hra (by decide) _ _, B.R.btw hbw (.inl hlo), (hput v).wideB (Nat.le_refl _) (by simp [World.setCell]), by simpa [World.setCell] using B.l⟩
  have HW : Hid (Below lo w (w.setCell ⟨ba, k, none⟩ (.int .i64 v))) := Lib.hid ((Below.refl _ _).setCell (p := ⟨ba, k, none⟩) (Nat.le_trans B.l.2.2.2.2.1 hlo) _)
  have HO : Hid (∀ b t cs, t ≠ 3 → t ≠ 96 → Box w b t cs → Box (w.setCell ⟨ba, k, none⟩ (.int .i64 v)) b t cs) := Lib.hid (fun b t cs h _ X => X.other hra h _ _)
  have x0 := B.i.cell 0 rfl
  generalize io.getD k 0 = x at hca
  have hi : (k : Int) < 32 := by omega
  have hq : ((k : Int) != 0) = true := by simp; omega
  clear B hput hra hbw hlo hhi hl
  go_enter Tryz.func148, Tryz.ntmps148
  go_wp2
  go_end0
  exact ⟨rfl, HB, HO, HW.out⟩
set_option maxRecDepth 100000 in
theorem regsWrite0 (v : Int) (B : BusAt w lo g b0 b1 b2 b3 A0 A1 c0 c1 ram io zs gs st) :
    Calls Tryz.prog 148 #[.pointer (some ⟨b1, 0, none⟩), .int .i64 0, .int .i64 v] w (Writes lo g b0 b1 b2 b3 A0 A1 c0 c1 ram io zs gs st w) := by
  have HB := Lib.hid B
  clear B
  go_enter Tryz.func148, Tryz.ntmps148
  go_wp2
  go_end0
  exact ⟨rfl, HB, Lib.hid (fun _ _ _ _ _ X => X), Below.refl _ _⟩
set_option maxRecDepth 100000 in
theorem cartRead (k : Nat) (hz : zs.length = 256) (hg : gs.length = 16) (hk : k ≤ 255) (hzs : ∀ z ∈ zs, 0 ≤ z ∧ z ≤ 255) (X : Box w b2 96 (chipC zs gs st).toArray) :
    Calls Tryz.prog 149 #[.pointer (some ⟨b2, 0, none⟩), .int .i64 k] w fun e w' => e = .returned (.int .i64 (readV zs gs st k)) ∧ Below w.heap.size w w' := by
  have HR := Lib.hid (chipRead k zs gs st w hz hg hk hzs)
  have HL := Lib.hid (And.intro X.rangeL (sizeC zs gs st hz hg))
  generalize readV zs gs st k = r at HR
  generalize chipC zs gs st = cs at HR HL
  clear X hz hg hzs
  go_enter Tryz.func149, Tryz.ntmps149
  go_wp2_with (first
    | (with_reducible refine wpList_load_mid rfl 94 (.tmp 7) rfl b2 0 rfl cs _ HL.out.1 Tryz.underlying94 rfl HL.out.2 ?_))
  refine HR.out.mono ?_
  rintro e w2 ⟨rfl, hb2⟩
  go_wp2
  go_ret
  exact ⟨rfl, hb2⟩
set_option maxRecDepth 100000 in
set_option maxHeartbeats 1000000 in
theorem cartWrite (k v : Nat) (hz : zs.length = 256) (hg : gs.length = 16) (hs : 0 ≤ st ∧ st ≤ 8) (hk : k < 256) (hv : v < 256) (hzs : ∀ z ∈ zs, 0 ≤ z ∧ z ≤ 255) (B : BusAt w lo g b0 b1 b2 b3 A0 A1 c0 c1 ram io zs gs st) :
    Calls Tryz.prog 150 #[.pointer (some ⟨b2, 0, none⟩), .int .i64 k, .int .i64 v] w (Writes lo g b0 b1 b2 b3 A0 A1 c0 c1 ram io (cycZ zs gs st k v) (cycG gs st k) (nextS st k v) w) := by
  have HR := Lib.hid (chipCycle k v zs gs st w hz hg hs hk hv hzs)
  unfold GivesChip at HR
  have HL := Lib.hid (And.intro B.f.rangeL (sizeC zs gs st hz hg))
  have HN : Hid (∀ w2, Below w.heap.size w w2 → w2.there b2 0 (chipC (cycZ zs gs st k v) (cycG gs st k) (nextS st k v)).toArray.size ∧ BusAt (w2.setCells b2 0 (chipC (cycZ zs gs st k v) (cycG gs st k) (nextS st k v))) lo g b0 b1 b2 b3 A0 A1 c0 c1 ram io (cycZ zs gs st k v) (cycG gs st k) (nextS st k v) ∧ ∀ b t cs, t ≠ 3 → t ≠ 96 → Box w b t cs → Box (w2.setCells b2 0 (chipC (cycZ zs gs st k v) (cycG gs st k) (nextS st k v))) b t cs) := Lib.hid (fun w2 hb => by
    have X := B.step hb
    have hl : (chipC (cycZ zs gs st k v) (cycG gs st k) (nextS st k v)).length = (chipC zs gs st).length := by rw [chipC_len, chipC_len, cycZ_len, cycG_len]
    have hbw := btw_setCells (chipC (cycZ zs gs st k v) (cycG gs st k) (nextS st k v)) 0 w2 (Btw.refl b2 (b2 + 1) w2)
    have hsz : (w2.setCells b2 0 (chipC (cycZ zs gs st k v) (cycG gs st k) (nextS st k v))).heap.size = w2.heap.size := size_setCells _ _ _ _
    refine ⟨by rw [List.size_toArray, hl]; exact X.f.thereL, ⟨X.r.awayB X.f (by decide) hbw, X.i.awayB X.f (by decide) hbw, X.f.putL hl, X.o.awayB X.f (by decide) hbw, X.R.awayB X.f (by decide) hbw, (X.I.awayB X.f (by decide) hbw).wideB (Nat.le_refl _) (by rw [hsz]; exact Nat.le_refl _), by rw [hsz]; exact X.l⟩, fun b t cs _ h Y => (Y.step hb).awayB X.f h hbw⟩)
  have HS : Hid ((Tryz.prog.info? 94).map (·.size) = some (chipC (cycZ zs gs st k v) (cycG gs st k) (nextS st k v)).toArray.size ∧ (chipC (cycZ zs gs st k v) (cycG gs st k) (nextS st k v)).toArray.all (·.oneCell') = true) := Lib.hid ⟨(sizeC _ _ _ (by rw [cycZ_len]; exact hz) (by rw [cycG_len]; exact hg)).trans (congrArg some List.size_toArray.symm), all_oneCell_toArray (chipC_one _ _ _)⟩
  have hlo := B.l.2.2.1
  have hbl : Below lo w w := Below.refl _ _
  have HQ : Hid (lo ≤ w.heap.size) := Lib.hid (Nat.le_of_lt (Nat.lt_of_le_of_lt hlo B.f.lt))
  generalize chipC zs gs st = ca at HR HL
  generalize hcb : chipC (cycZ zs gs st k v) (cycG gs st k) (nextS st k v) = cb at HR HN HS
  have hwr := wrap8 (v : Int) (by omega) (by omega)
  have hmd : (v : Int) % 256 = v := by omega
  clear hz hg hs hzs B hcb
  go_enter Tryz.func150, Tryz.ntmps150
  go_wp2_with (first
    | (with_reducible refine wpList_load_mid rfl 94 (.tmp 9) rfl b2 0 rfl ca _ HL.out.1 Tryz.underlying94 rfl HL.out.2 ?_))
  refine HR.out.mono ?_
  rintro e w2 ⟨rfl, hb2⟩
  obtain ⟨hr, hB, hO⟩ := HN.out w2 hb2
  have HRoom := Lib.hid hr
  have HBus := Lib.hid hB
  have HO := Lib.hid hO
  clear hr hB hO HN
  go_wp2_with (first
    | (with_reducible refine wpList_store_mid rfl 94 (.tmp 16) (.tmp 14) rfl b2 0 cb.toArray rfl rfl HRoom.out HS.out.1 HS.out.2 ?_))
  go_end0
  exact ⟨rfl, HBus, HO, (hb2.mono HQ.out).trans (below_setCellsN (Below.refl _ _) hlo 0 cb)⟩
end
end Go.Proofs.YtcchhbkbnbphhaaGreatDoor

/- What the drawn regions of the exact laws want: values out of a tuple, owned rows kept over a store into a struct's box. -/
namespace Go.Proofs.YtcchhbkbnbphhaaGreatDoor
open Go.RowKit

theorem litArr (T : Array Value) (n : Nat) (h : T.size = n) : T = ((List.range n).map fun i => T.getD i undef).toArray := by
  apply Array.ext
  · simp [h]
  · intro i h1 h2
    simp [h1]
section
variable {P : Program} {o : Oper} {a : Act} {w : World} {K : Act → World → Prop} {Q : Exit → Act → World → Prop}
theorem wp_callfn {f : FuncId} {fn : Func} (hf : P.funcs[f]? = some fn) (hname : (fn.name == "runtime.NumGoroutine") = false) (hb : fn.body.isNone = false) {xs : List Operand} {ats : Array TypeId} (vs : List Value) (ho : o.op = .call { callee := .value (.func f), args := xs.toArray, argTypes := ats }) (hv : xs.map a.eval = vs) {Post : Ending → World → Prop} (hc : Calls P f vs.toArray w Post) (h : ∀ e w', Post e w' → ∃ v, e = .returned v ∧ K (a.put o.dst v) w') : Oper.wp P o a w K Q := by
  unfold Oper.wp execOp
  have h1 : ¬ fn.name = "runtime.NumGoroutine" := by simpa using hname
  have h2 : ¬ fn.body = none := by intro e; rw [e] at hb; cases hb
  have hrun : Sem.run P (callFunc f vs.toArray) w = .ok (.enter f vs.toArray) w := by simp [callFunc, go_sem, hf, h1, h2]
  simp [ho, go_sem, resolve, invoke, hv]
  rw [hrun, Oper.upon_enter]
  refine hc.mono fun e w' hp => ?_
  obtain ⟨v, rfl, hk⟩ := h e w' hp
  exact hk
end
end Go.Proofs.YtcchhbkbnbphhaaGreatDoor

/- What the model draws of a flash: size, a bus cycle. -/
namespace Go.Proofs.YtcchhbkbnbphhaaGreatDoor
open Go.RowKit


structure FK (lo R D : Nat) (A : Option Addr) (c : Nat) (C : Option Addr) (d : Nat) (st : Int) (zs : List Int) (gs : List Bool) (w : World) : Prop where
  x : Box w D 29 #[.slice A 256 c, .slice C 16 d, .int .i64 st]
  y : Box w R 29 #[.slice none 0 0, .slice none 0 0, .int .i64 0]
  s : OwnI w lo w.heap.size A zs
  r : OwnB w lo w.heap.size C gs
theorem FK.btw {lo b R D : Nat} {A : Option Addr} {c : Nat} {C : Option Addr} {d : Nat} {st : Int} {zs : List Int} {gs : List Bool} {w w' : World} (h : FK lo R D A c C d st zs gs w) (hb : Btw b (b + 1) w w') (h1 : b < lo) (h2 : lo ≤ R) (h3 : lo ≤ D) : FK lo R D A c C d st zs gs w' :=
  ⟨h.x.btw hb (.inr (by omega)), h.y.btw hb (.inr (by omega)), (h.s.btw hb (.inr (by omega))).wideB (Nat.le_refl _) hb.size, (h.r.btw hb (.inr (by omega))).wide (Nat.le_refl _) hb.size⟩
theorem FK.step {lo R D : Nat} {A : Option Addr} {c : Nat} {C : Option Addr} {d : Nat} {st : Int} {zs : List Int} {gs : List Bool} {w w' : World} (h : FK lo R D A c C d st zs gs w) (hb : Below w.heap.size w w') : FK lo R D A c C d st zs gs w' :=
  ⟨h.x.step hb, h.y.step hb, (h.s.btw (Btw.of_below hb 0 0) (.inr (Nat.zero_le _))).wideB (Nat.le_refl _) hb.size, (h.r.btw (Btw.of_below hb 0 0) (.inr (Nat.zero_le _))).wide (Nat.le_refl _) hb.size⟩
theorem FK.store {lo R D : Nat} {A : Option Addr} {c : Nat} {C : Option Addr} {d : Nat} {st : Int} {zs : List Int} {gs : List Bool} {w : World} (h : FK lo R D A c C d st zs gs w) (hne : R ≠ D) {A2 : Option Addr} {c2 : Nat} {C2 : Option Addr} {d2 : Nat} {st2 : Int} {zs2 : List Int} {gs2 : List Bool} (S2 : OwnI w lo w.heap.size A2 zs2) (R2 : OwnB w lo w.heap.size C2 gs2) :
    FK lo R D A2 c2 C2 d2 st2 zs2 gs2 (((w.setCell ⟨D, 0, none⟩ (.slice A2 256 c2)).setCell ⟨D, 1, none⟩ (.slice C2 16 d2)).setCell ⟨D, 2, none⟩ (.int .i64 st2)) :=
  ⟨h.x.flash3 rfl _ _ _, h.y.far3 hne _ _ _, by rw [size3]; exact S2.far3 h.x _ _ _, by rw [size3]; exact R2.far3 h.x _ _ _⟩
theorem btw_below {lo hi B : Nat} {w w1 w2 : World} (h : Btw lo hi w w1) (hb : Below B w1 w2) (hB : w.heap.size ≤ B) : Btw lo hi w w2 :=
  ⟨hb.os.trans h.os, hb.tape.trans h.tape, hb.output.trans h.output, Nat.le_trans h.size hb.size, fun k hk ho => (hb.block k (Nat.lt_of_lt_of_le hk hB)).trans (h.block k hk ho)⟩
end Go.Proofs.YtcchhbkbnbphhaaGreatDoor

/- What the law on write cycles uses: FlashDrawn, CycleOf, sameFlash; what a cycle does to a block. -/
namespace Go.Proofs.YtcchhbkbnbphhaaGreatDoor
open Go.RowKit

set_option maxRecDepth 100000 in
theorem lawSameInts (A A' : Option Addr) (n n' c c' : Nat) (zs : List Int) (w : World) (hl : zs.length = n) (hl' : zs.length = n') (hn : n ≤ maxLen) (h : IntL w A zs) (h' : IntL w A' zs) :
    Calls Tryz.prog 30 #[.slice A n c, .slice A' n' c'] w fun e w' => e = .returned (.bool true) ∧ Below w.heap.size w w' := by
  unfold maxLen at hn
  have HL := Lib.hid hl
  obtain rfl : n = n' := by omega
  have H := Lib.hid h
  have H' := Lib.hid h'
  clear hl hl' h h'
  have hb : ((n : Int) != (n : Int)) = false := by simp
  go_enter Tryz.func30, Tryz.ntmps30
  go_wp2
  go_loopw [5] (fun i wr => ∃ k : Nat, k ≤ n ∧ i = .int .i64 k ∧ Below w.heap.size w wr) (fun i _ => n - (intOf i).toNat)
  case atStart => exact ⟨0, Nat.zero_le _, rfl, Below.refl _ _⟩
  case round =>
    obtain ⟨k, hk, rfl, hbw⟩ := hrel
    by_cases hlt : k < n
    · obtain ⟨b, off, rfl, hc⟩ := (H.out.below hbw) k (by rw [HL.out]; exact hlt)
      obtain ⟨b', off', rfl, hc'⟩ := (H'.out.below hbw) k (by rw [HL.out]; exact hlt)
      generalize zs.getD k 0 = x at hc hc'
      have hi : (k : Int) < (n : Int) := by omega
      have hq1 : (x != x) = false := by simp
      have hq2 : (x == x) = true := by simp
      go_wp2
      go_quiet (fail)
      go_wp2
      go_roundw
      case rel => exact ⟨k + 1, by omega, by go_num, below_drewN hbw _⟩
      case measure => simp [intOf]; omega
    · go_wp2
      go_ret
      exact ⟨rfl, hbw⟩

set_option maxRecDepth 100000 in
set_option maxHeartbeats 2000000 in
theorem lawSameFlash (A A' C C' : Option Addr) (n n' m m' c c' d d' : Nat) (st : Int) (zs : List Int) (gs : List Bool) (w : World) (hl : zs.length = n) (hl' : zs.length = n') (hm : gs.length = m) (hm' : gs.length = m') (hn : n ≤ maxLen) (hmm : m ≤ maxLen) (h : IntL w A zs) (h' : IntL w A' zs) (g : BoolL w C gs) (g' : BoolL w C' gs) :
    Calls Tryz.prog 31 #[.agg #[.slice A n c, .slice C m d, .int .i64 st], .agg #[.slice A' n' c', .slice C' m' d', .int .i64 st]] w fun e w' => e = .returned (.bool true) ∧ Below w.heap.size w w' := by
  obtain ⟨W0, hW0⟩ : ∃ W0, W0 = ((w.alloc (.cells #[.slice A n c, .slice C m d, .int .i64 st] 29)).alloc (.cells #[.slice A' n' c', .slice C' m' d', .int .i64 st] 29)) := ⟨_, rfl⟩
  have hb0 : Below w.heap.size w W0 := by rw [hW0]; exact bt (alloc_below _ _) (alloc_below _ _)
  have X0 : Box W0 w.heap.size 29 #[.slice A n c, .slice C m d, .int .i64 st] := by rw [hW0]; exact (Box.new _ _ _).alloc _
  have Y0 : Box W0 (w.heap.size + 1) 29 #[.slice A' n' c', .slice C' m' d', .int .i64 st] := by rw [hW0]; simpa using Box.new (w.alloc (.cells #[.slice A n c, .slice C m d, .int .i64 st] 29)) 29 #[.slice A' n' c', .slice C' m' d', .int .i64 st]
  have HS := Lib.hid (lawSameInts A A' n n' c c' zs W0 hl hl' hn (h.below hb0) (h'.below hb0))
  have H := Lib.hid g
  have H' := Lib.hid g'
  have HX := Lib.hid (And.intro X0 Y0)
  have HW0 := Lib.hid hW0
  have HM := Lib.hid hm
  obtain rfl : m = m' := by omega
  unfold maxLen at hmm
  have q1 : (st != st) = false := by simp
  have q2 : ((m : Int) != (m : Int)) = false := by simp
  clear hl hl' hm hm' hn h h' g g' X0 Y0 hW0
  go_enter Tryz.func31, Tryz.ntmps31
  go_wp2_with fail
  rw [← HW0.out]
  refine HS.out.mono ?_
  rintro e w1 ⟨rfl, hb1⟩
  have X1 := HX.out.1.step hb1
  have Y1 := HX.out.2.step hb1
  have x1 := X1.cell 1 rfl
  have y1 := Y1.cell 1 rfl
  have HX1 := Lib.hid (And.intro X1 Y1)
  have hb := bt hb0 hb1
  clear X1 Y1 HX HW0 hb0 hb1 HS
  go_wp2
  clear x1 y1
  go_loopw [5] (fun i wr => ∃ k : Nat, k ≤ m ∧ i = .int .i64 k ∧ Below w1.heap.size w1 wr) (fun i _ => m - (intOf i).toNat)
  case atStart => exact ⟨0, Nat.zero_le _, rfl, Below.refl _ _⟩
  case round =>
    obtain ⟨k, hk, rfl, hbw⟩ := hrel
    have x1 := (HX1.out.1.step hbw).cell 1 rfl
    have y1 := (HX1.out.2.step hbw).cell 1 rfl
    by_cases hlt : k < m
    · obtain ⟨b, off, rfl, hc⟩ := (H.out.below (bt hb hbw)) k (by rw [HM.out]; exact hlt)
      obtain ⟨b', off', rfl, hc'⟩ := (H'.out.below (bt hb hbw)) k (by rw [HM.out]; exact hlt)
      generalize gs.getD k false = x at hc hc'
      have hi : (k : Int) < (m : Int) := by omega
      have hq1 : (x != x) = false := by simp
      have hq2 : (x == x) = true := by simp
      go_wp2
      go_quiet (fail)
      go_wp2
      go_roundw
      case rel => exact ⟨k + 1, by omega, by go_num, below_drewN hbw _⟩
      case measure => simp [intOf]; omega
    · go_wp2
      go_ret
      exact ⟨rfl, bt hb hbw⟩

def pre (p : Nat → Bool) (a : Nat) : Nat → Bool
  | 0 => true
  | n + 1 => pre p a n && p (a + n)
end Go.Proofs.YtcchhbkbnbphhaaGreatDoor

/- SameCpu on both sides, on leaves. Written by gen_cpusame.py. -/
namespace Go.Proofs.YtcchhbkbnbphhaaGreatDoor
open Go.RowKit

def sameCp (d0 d1 d2 d3 : Int) (d4 d5 d6 d7 : Bool) (d8 : List Int) (g0 g1 g2 g3 : Int) (g4 g5 g6 g7 : Bool) (g8 : List Int) : Bool := (d0 == g0) && ((d1 == g1) && ((d2 == g2) && ((d3 == g3) && ((d4 == g4) && ((d5 == g5) && ((d6 == g6) && ((d7 == g7) && decide (d8 = g8))))))))

set_option maxRecDepth 100000 in
set_option maxHeartbeats 4000000 in
theorem implSameCpu (A B : Option Addr) (n k c e : Nat) (d0 d1 d2 d3 : Int) (d4 d5 d6 d7 : Bool) (d8 : List Int) (g0 g1 g2 g3 : Int) (g4 g5 g6 g7 : Bool) (g8 : List Int) (w : World) (l0 : d8.length = n) (p0 : g8.length = k) (m0 : n ≤ maxLen) (k0 : k ≤ maxLen) (h0 : IntL w A d8) (j0 : IntL w B g8) :
    Calls Tryz.prog 14 #[.agg #[.int .i64 d0, .int .i64 d1, .int .i64 d2, .int .i64 d3, .bool d4, .bool d5, .bool d6, .bool d7, .slice A n c], .agg #[.int .i64 g0, .int .i64 g1, .int .i64 g2, .int .i64 g3, .bool g4, .bool g5, .bool g6, .bool g7, .slice B k e]] w fun e w' => e = .returned (.bool (sameCp d0 d1 d2 d3 d4 d5 d6 d7 d8 g0 g1 g2 g3 g4 g5 g6 g7 g8)) ∧ Below w.heap.size w w' := by
  obtain ⟨W0, hW0⟩ : ∃ W0, W0 = ((w.alloc (.cells #[.int .i64 d0, .int .i64 d1, .int .i64 d2, .int .i64 d3, .bool d4, .bool d5, .bool d6, .bool d7, .slice A n c] 25)).alloc (.cells #[.int .i64 g0, .int .i64 g1, .int .i64 g2, .int .i64 g3, .bool g4, .bool g5, .bool g6, .bool g7, .slice B k e] 25)) := ⟨_, rfl⟩
  have hb0 : Below w.heap.size w W0 := by rw [hW0]; exact bt (alloc_below _ _) (alloc_below _ _)
  have HE := Lib.hid (equalI A B n k c e d8 g8 _ l0 p0 m0 k0 (h0.below hb0) (j0.below hb0))
  have HY : Hid (sameCp d0 d1 d2 d3 d4 d5 d6 d7 d8 g0 g1 g2 g3 g4 g5 g6 g7 g8 = ((d0 == g0) && ((d1 == g1) && ((d2 == g2) && ((d3 == g3) && ((d4 == g4) && ((d5 == g5) && ((d6 == g6) && ((d7 == g7) && decide (d8 = g8)))))))))) := Lib.hid rfl
  generalize sameCp d0 d1 d2 d3 d4 d5 d6 d7 d8 g0 g1 g2 g3 g4 g5 g6 g7 g8 = r at HY ⊢
  generalize decide (d8 = g8) = q at HE HY
  have HW0 := Lib.hid hW0
  have HB0 := Lib.hid hb0
  clear l0 p0 m0 k0 h0 j0 hW0 hb0
  by_cases h0 : (d0 == g0) = true
  · skip
    by_cases h1 : (d1 == g1) = true
    · skip
      by_cases h2 : (d2 == g2) = true
      · skip
        by_cases h3 : (d3 == g3) = true
        · skip
          by_cases h4 : (d4 == g4) = true
          · skip
            by_cases h5 : (d5 == g5) = true
            · skip
              by_cases h6 : (d6 == g6) = true
              · skip
                by_cases h7 : (d7 == g7) = true
                · skip
                  have HR : Hid (r = q) := Lib.hid (by rw [HY.out]; simp [h0, h1, h2, h3, h4, h5, h6, h7])
                  clear HY
                  go_enter Tryz.func14, Tryz.ntmps14
                  go_wp2_with fail
                  rw [← HW0.out]
                  refine HE.out.mono ?_
                  rintro e' w1 ⟨rfl, hb1⟩
                  go_wp2
                  all_goals go_ret
                  all_goals exact ⟨ret_bool HR.out.symm, bt HB0.out hb1⟩
                · have h7 : (d7 == g7) = false := by simpa using h7
                  have HR : Hid (r = false) := Lib.hid (by rw [HY.out]; simp [h0, h1, h2, h3, h4, h5, h6, h7])
                  clear HY
                  go_enter Tryz.func14, Tryz.ntmps14
                  go_wp2
                  rw [← HW0.out]
                  all_goals go_ret
                  all_goals exact ⟨ret_bool HR.out.symm, HB0.out⟩
              · have h6 : (d6 == g6) = false := by simpa using h6
                have HR : Hid (r = false) := Lib.hid (by rw [HY.out]; simp [h0, h1, h2, h3, h4, h5, h6])
                clear HY
                go_enter Tryz.func14, Tryz.ntmps14
                go_wp2
                rw [← HW0.out]
                all_goals go_ret
                all_goals exact ⟨ret_bool HR.out.symm, HB0.out⟩
            · have h5 : (d5 == g5) = false := by simpa using h5
              have HR : Hid (r = false) := Lib.hid (by rw [HY.out]; simp [h0, h1, h2, h3, h4, h5])
              clear HY
              go_enter Tryz.func14, Tryz.ntmps14
              go_wp2
              rw [← HW0.out]
              all_goals go_ret
              all_goals exact ⟨ret_bool HR.out.symm, HB0.out⟩
          · have h4 : (d4 == g4) = false := by simpa using h4
            have HR : Hid (r = false) := Lib.hid (by rw [HY.out]; simp [h0, h1, h2, h3, h4])
            clear HY
            go_enter Tryz.func14, Tryz.ntmps14
            go_wp2
            rw [← HW0.out]
            all_goals go_ret
            all_goals exact ⟨ret_bool HR.out.symm, HB0.out⟩
        · have h3 : (d3 == g3) = false := by simpa using h3
          have HR : Hid (r = false) := Lib.hid (by rw [HY.out]; simp [h0, h1, h2, h3])
          clear HY
          go_enter Tryz.func14, Tryz.ntmps14
          go_wp2
          rw [← HW0.out]
          all_goals go_ret
          all_goals exact ⟨ret_bool HR.out.symm, HB0.out⟩
      · have h2 : (d2 == g2) = false := by simpa using h2
        have HR : Hid (r = false) := Lib.hid (by rw [HY.out]; simp [h0, h1, h2])
        clear HY
        go_enter Tryz.func14, Tryz.ntmps14
        go_wp2
        rw [← HW0.out]
        all_goals go_ret
        all_goals exact ⟨ret_bool HR.out.symm, HB0.out⟩
    · have h1 : (d1 == g1) = false := by simpa using h1
      have HR : Hid (r = false) := Lib.hid (by rw [HY.out]; simp [h0, h1])
      clear HY
      go_enter Tryz.func14, Tryz.ntmps14
      go_wp2
      rw [← HW0.out]
      all_goals go_ret
      all_goals exact ⟨ret_bool HR.out.symm, HB0.out⟩
  · have h0 : (d0 == g0) = false := by simpa using h0
    have HR : Hid (r = false) := Lib.hid (by rw [HY.out]; simp [h0])
    clear HY
    go_enter Tryz.func14, Tryz.ntmps14
    go_wp2
    rw [← HW0.out]
    all_goals go_ret
    all_goals exact ⟨ret_bool HR.out.symm, HB0.out⟩
end Go.Proofs.YtcchhbkbnbphhaaGreatDoor
