/- impl.bus.mem: the memory that the devices hold. Written by gen_busmem.py. -/
import Derived.Test.YtcchhbkbnbphhaaGreatDoorM8
import Derived.Test.YtcchhbkbnbphhaaGreatDoorChipFlash
namespace Go.Proofs.YtcchhbkbnbphhaaGreatDoor
open Go.RowKit

def YV5 (b : Nat) (W : World) (j : Nat) : Value := (W.cell? ⟨b, j, none⟩).getD undef
theorem YV5.of {b : Nat} {W : World} {t : TypeId} {cs : Array Value} (h : Box W b t cs) (hs : cs.size = 5) (j : Nat) (hj : j < 5) : W.cell? ⟨b, j, none⟩ = some (YV5 b W j) := by
  have := h.cell j (Array.getElem?_eq_getElem (by omega : j < cs.size))
  unfold YV5; rw [this]; rfl
theorem arr5 (T : Array Value) (h : T.size = 5) : ∃ t0 t1 t2 t3 t4 : Value, T = #[t0, t1, t2, t3, t4] := by
  obtain ⟨l⟩ := T
  match l, h with
  | [t0, t1, t2, t3, t4], _ => exact ⟨t0, t1, t2, t3, t4, rfl⟩
theorem Box.all5 {w : World} {b : Nat} {t : TypeId} {cs : Array Value} (X : Box w b t cs) (hs : cs.size = 5) (u0 u1 u2 u3 u4 : Value) :
    Box (((((w.setCell ⟨b, 0, none⟩ u0).setCell ⟨b, 1, none⟩ u1).setCell ⟨b, 2, none⟩ u2).setCell ⟨b, 3, none⟩ u3).setCell ⟨b, 4, none⟩ u4) b t #[u0, u1, u2, u3, u4] := by
  have := ((((X.set 0 u0).set 1 u1).set 2 u2).set 3 u3).set 4 u4
  obtain ⟨t0, t1, t2, t3, t4, rfl⟩ := arr5 cs hs
  exact this
def RM (W0 : World) (m : Nat) (W : World) : Prop := Below (m + 1) W0 W ∧ W0.heap.size ≤ W.heap.size ∧ ∃ cs : Array Value, cs.size = 5 ∧ Box W (m + 1) 31 cs
theorem RM.le {W0 W : World} {m : Nat} (h : RM W0 m W) : m + 1 ≤ W.heap.size := by
  obtain ⟨a, q, cs, hs, b⟩ := h
  exact Nat.le_of_lt b.lt
theorem RM.alloc {W0 W : World} {m : Nat} (h : RM W0 m W) (o : Obj) : RM W0 m (W.alloc o) := by
  have hl := h.le
  obtain ⟨a, q, cs, hs, b⟩ := h
  exact ⟨a.trans ((alloc_below W o).mono hl), by simp; omega, cs, hs, b.alloc o⟩
theorem RM.step {W0 W W' : World} {m : Nat} (h : RM W0 m W) (k : Below W.heap.size W W') : RM W0 m W' := by
  have hl := h.le
  obtain ⟨a, q, cs, hs, b⟩ := h
  exact ⟨a.trans (k.mono hl), Nat.le_trans q k.size, cs, hs, b.step k⟩
theorem RM.set {W0 W : World} {m : Nat} (h : RM W0 m W) (j : Nat) (v : Value) : RM W0 m (W.setCell ⟨m + 1, j, none⟩ v) := by
  obtain ⟨a, q, cs, hs, b⟩ := h
  exact ⟨a.setCell (p := ⟨m + 1, j, none⟩) (Nat.le_refl _) v, by simpa [World.setCell] using q, _, by simpa using hs, b.set j v⟩
theorem Btw.of_low {n : Nat} {w w' : World} (h : Below n w w') : Btw n w.heap.size w w' := ⟨h.os, h.tape, h.output, h.size, fun k hk q => h.block k (by omega)⟩

theorem arr20 (T : Array Value) (h : T.size = 20) : ∃ t0 t1 t2 t3 t4 t5 t6 t7 t8 t9 t10 t11 t12 t13 t14 t15 t16 t17 t18 t19 : Value, T = #[t0, t1, t2, t3, t4, t5, t6, t7, t8, t9, t10, t11, t12, t13, t14, t15, t16, t17, t18, t19] := by
  obtain ⟨l⟩ := T
  match l, h with
  | [t0, t1, t2, t3, t4, t5, t6, t7, t8, t9, t10, t11, t12, t13, t14, t15, t16, t17, t18, t19], _ => exact ⟨t0, t1, t2, t3, t4, t5, t6, t7, t8, t9, t10, t11, t12, t13, t14, t15, t16, t17, t18, t19, rfl⟩

def GivesMemOf (A0 A1 : Option Addr) (c0 c1 : Nat) (zs : List Int) (gs : List Bool) (st : Int) (w : World) (e : Ending) (w' : World) : Prop :=
  ∃ A c C d, e = .returned (.agg #[.slice A0 256 c0, .slice A1 32 c1, .slice A 256 c, .slice C 16 d, .int .i64 st]) ∧ Hid (OwnI w' w.heap.size w'.heap.size A zs) ∧ Hid (OwnB w' w.heap.size w'.heap.size C gs) ∧ Below w.heap.size w w'
def memF (M hs : Nat) (b0 b1 b2 : Nat) (s0 s1 : Value) (cs : List Value) (zs : List Int) (gs : List Bool) (st : Int) : Nat → (Nat → Value) → World → Prop
  | 0, t, _ => t 3 = .pointer (some ⟨M, 0, none⟩)
  | 1, t, _ => t 4 = .pointer (some ⟨b0, 0, none⟩)
  | 2, t, _ => t 5 = .pointer (some ⟨b0, 0, none⟩)
  | 3, t, _ => t 6 = .pointer (some ⟨b0, 0, none⟩)
  | 4, t, _ => t 7 = s0
  | 5, t, _ => t 8 = .pointer (some ⟨M, 1, none⟩)
  | 6, t, _ => t 9 = .pointer (some ⟨b1, 0, none⟩)
  | 7, t, _ => t 10 = .pointer (some ⟨b1, 0, none⟩)
  | 8, t, _ => t 11 = .pointer (some ⟨b1, 0, none⟩)
  | 9, t, _ => t 12 = s1
  | 10, t, _ => t 13 = .pointer (some ⟨M, 2, none⟩)
  | 11, t, _ => t 14 = .pointer (some ⟨b2, 0, none⟩)
  | 12, t, _ => t 15 = .pointer (some ⟨b2, 0, none⟩)
  | 13, t, _ => t 16 = .pointer (some ⟨b2, 0, none⟩)
  | 14, t, _ => t 17 = .agg cs.toArray
  | 15, t, w => ∃ A c C d, t 18 = .agg #[.slice A 256 c, .slice C 16 d, .int .i64 st] ∧ OwnI w hs w.heap.size A zs ∧ OwnB w hs w.heap.size C gs
  | 16, t, _ => ∃ A c C d, t 18 = .agg #[.slice A 256 c, .slice C 16 d, .int .i64 st] ∧ t 19 = .agg #[s0, s1, .slice A 256 c, .slice C 16 d, .int .i64 st]
  | 17, t, w => ∃ A c C d, t 18 = .agg #[.slice A 256 c, .slice C 16 d, .int .i64 st] ∧ Box w (M + 1) 31 #[s0, s1, .slice A 256 c, .slice C 16 d, .int .i64 st]
  | _, _, _ => True
section
variable {M hs b0 b1 b2 : Nat} {s0 s1 : Value} {cs : List Value} {zs : List Int} {gs : List Bool} {st : Int} {w w' : World}
theorem memF_below (k : Below w.heap.size w w') : ∀ (j : Nat) (t : Nat → Value), memF M hs b0 b1 b2 s0 s1 cs zs gs st j t w → memF M hs b0 b1 b2 s0 s1 cs zs gs st j t w'
  | 0, _, h | 1, _, h | 2, _, h | 3, _, h | 4, _, h | 5, _, h | 6, _, h | 7, _, h | 8, _, h | 9, _, h | 10, _, h | 11, _, h | 12, _, h | 13, _, h | 14, _, h | 16, _, h => h
  | 15, _, ⟨A, c, C, d, e, S, Q⟩ => ⟨A, c, C, d, e, (S.below k).wideB (Nat.le_refl _) k.size, (Q.below k).wide (Nat.le_refl _) k.size⟩
  | 17, _, ⟨A, c, C, d, e, h⟩ => ⟨A, c, C, d, e, h.step k⟩
  | _ + 18, _, _ => trivial
theorem memF_store {ys : Array Value} (Y : Box w (M + 1) 31 ys) (i : Nat) (u : Value) : ∀ (j : Nat) (t : Nat → Value), j ≠ 17 → memF M hs b0 b1 b2 s0 s1 cs zs gs st j t w → memF M hs b0 b1 b2 s0 s1 cs zs gs st j t (w.setCell ⟨M + 1, i, none⟩ u)
  | 0, _, _, h | 1, _, _, h | 2, _, _, h | 3, _, _, h | 4, _, _, h | 5, _, _, h | 6, _, _, h | 7, _, _, h | 8, _, _, h | 9, _, _, h | 10, _, _, h | 11, _, _, h | 12, _, _, h | 13, _, _, h | 14, _, _, h | 16, _, _, h => h
  | 15, _, _, ⟨A, c, C, d, e, S, Q⟩ => ⟨A, c, C, d, e, (S.farB Y (by decide) i u).wideB (Nat.le_refl _) (by simp [World.setCell]), (Q.far Y (by decide) i u).wide (Nat.le_refl _) (by simp [World.setCell])⟩
  | 17, _, n, _ => (n rfl).elim
  | _ + 18, _, _, _ => trivial
end

set_option maxRecDepth 100000 in
set_option maxHeartbeats 8000000 in
theorem busMem (lo g b0 b1 b2 b3 : Nat) (A0 A1 : Option Addr) (c0 c1 : Nat) (ram io zs : List Int) (gs : List Bool) (st : Int) (w : World) (hz : zs.length = 256) (hg : gs.length = 16) (hzs : ∀ z ∈ zs, 0 ≤ z ∧ z ≤ 255) (B : BusAt w lo g b0 b1 b2 b3 A0 A1 c0 c1 ram io zs gs st) :
    Calls Tryz.prog 24 #[.agg #[.pointer (some ⟨b0, 0, none⟩), .pointer (some ⟨b1, 0, none⟩), .pointer (some ⟨b2, 0, none⟩), .pointer (some ⟨b3, 0, none⟩)]] w (GivesMemOf A0 A1 c0 c1 zs gs st w) := by
  obtain ⟨W0, hW0⟩ : ∃ W0, W0 = ((w.alloc (.cells #[.pointer (some ⟨b0, 0, none⟩), .pointer (some ⟨b1, 0, none⟩), .pointer (some ⟨b2, 0, none⟩), .pointer (some ⟨b3, 0, none⟩)] 57)).alloc (.cells #[.slice none 0 0, .slice none 0 0, .slice none 0 0, .slice none 0 0, .int .i64 0] 31)) := ⟨_, rfl⟩
  have hb0 : Below w.heap.size w W0 := by rw [hW0]; exact bt (alloc_below _ _) (alloc_below _ _)
  have X0 : Box W0 w.heap.size 57 #[.pointer (some ⟨b0, 0, none⟩), .pointer (some ⟨b1, 0, none⟩), .pointer (some ⟨b2, 0, none⟩), .pointer (some ⟨b3, 0, none⟩)] := by rw [hW0]; exact (Box.new _ _ _).alloc _
  have Y0 : Box W0 (w.heap.size + 1) 31 #[.slice none 0 0, .slice none 0 0, .slice none 0 0, .slice none 0 0, .int .i64 0] := by rw [hW0]; simpa using Box.new (w.alloc (.cells #[.pointer (some ⟨b0, 0, none⟩), .pointer (some ⟨b1, 0, none⟩), .pointer (some ⟨b2, 0, none⟩), .pointer (some ⟨b3, 0, none⟩)] 57)) 31 #[.slice none 0 0, .slice none 0 0, .slice none 0 0, .slice none 0 0, .int .i64 0]
  have hs0 : W0.heap.size = w.heap.size + 2 := by rw [hW0]; simp
  have HB : Hid (∀ W, RM W0 w.heap.size W → Below w.heap.size w W) := Lib.hid (fun W r => hb0.trans (r.1.mono (by omega)))
  have HFl := Lib.hid (fun W => chipFlash zs gs st W hz hg hzs)
  have HSz := Lib.hid (sizeC zs gs st hz hg)
  have HL := Lib.hid (And.intro hz hg)
  have HK : Hid (∀ W', RM W0 w.heap.size W' → W'.cell? ⟨w.heap.size, 0, none⟩ = some (.pointer (some ⟨b0, 0, none⟩)) ∧ W'.cell? ⟨w.heap.size, 1, none⟩ = some (.pointer (some ⟨b1, 0, none⟩)) ∧ W'.cell? ⟨w.heap.size, 2, none⟩ = some (.pointer (some ⟨b2, 0, none⟩)) ∧ W'.cell? ⟨b0, 0, none⟩ = some (.slice A0 256 c0) ∧ W'.cell? ⟨b1, 0, none⟩ = some (.slice A1 32 c1) ∧ True ∧ W'.rangeAt b2 0 (chipC zs gs st) ∧ True) := Lib.hid (fun W' r => by
    have X := X0.below r.1 (by omega)
    have q := HB.out _ r
    exact ⟨X.cell 0 rfl, X.cell 1 rfl, X.cell 2 rfl, (B.r.step q).cell 0 rfl, (B.i.step q).cell 0 rfl, trivial, (B.f.step q).rangeL, trivial⟩)
  generalize hcs : chipC zs gs st = cs at HFl HSz HK
  have HW0 := Lib.hid hW0
  have R0 : RM W0 w.heap.size W0.drew := ⟨(Below.refl _ _).drew, Nat.le_refl _, _, rfl, Y0⟩
  have hq0 : w.heap.size ≤ W0.heap.size := by omega
  clear hz hg hzs B X0 Y0 hW0 hs0 hb0 hcs
  go_enter Tryz.func24, Tryz.ntmps24
  go_wp2
  rw [← HW0.out]
  refine wp_region_facts (by kernel_rfl) [[3], [4], [5], [6], [7], [8], [9], [10], [11], [12], [13], [14], [15], [16], [17], [18], [18, 19], [18]] [[], [0], [0, 1], [0, 1, 2], [0, 1, 2, 3], [], [5], [5, 6], [5, 6, 7], [5, 6, 7, 8], [], [10], [10, 11], [10, 11, 12], [10, 11, 12, 13], [10, 11, 12, 13, 14], [4, 9, 15, 0, 1, 2, 3, 5, 6, 7, 8, 10, 11, 12, 13, 14], [0, 1, 2, 3, 4, 5, 6, 7, 8, 9, 10, 11, 12, 13, 14, 15, 16]] [0, 1, 2] (by kernel_rfl) (RM W0 w.heap.size) (memF w.heap.size W0.heap.size b0 b1 b2 (.slice A0 256 c0) (.slice A1 32 c1) cs zs gs st) R0 ?_ ?_
  · refine ⟨?_, ?_, ?_, ?_, ?_, ?_, ?_, ?_, ?_, ?_, ?_, ?_, ?_, ?_, ?_, ?_, ?_, ?_, trivial⟩
    · intro T W hT hs hC hF K hK
      obtain ⟨t0, t1, t2, t3, t4, t5, t6, t7, t8, t9, t10, t11, t12, t13, t14, t15, t16, t17, t18, t19, rfl⟩ := arr20 T hT
      obtain rfl : t1 = .pointer (some ⟨w.heap.size, 0, none⟩) := hs 1 (by decide)
      obtain rfl : t2 = .pointer (some ⟨w.heap.size + 1, 0, none⟩) := hs 2 (by decide)
      clear hF hs hT
      go_simp
      exact hK.out _ W hC (fun _ _ _ h => h) rfl
    · intro T W hT hs hC hF K hK
      obtain ⟨t0, t1, t2, t3, t4, t5, t6, t7, t8, t9, t10, t11, t12, t13, t14, t15, t16, t17, t18, t19, rfl⟩ := arr20 T hT
      obtain rfl : t1 = .pointer (some ⟨w.heap.size, 0, none⟩) := hs 1 (by decide)
      obtain rfl : t2 = .pointer (some ⟨w.heap.size + 1, 0, none⟩) := hs 2 (by decide)
      have f0 := hF 0 (by decide)
      simp only [memF, mask] at f0
      clear hF hs hT
      subst f0
      obtain ⟨k0, k1, k2, m0, m1, -, -, -⟩ := HK.out W hC
      go_simp
      exact hK.out _ W hC (fun _ _ _ h => h) rfl
    · intro T W hT hs hC hF K hK
      obtain ⟨t0, t1, t2, t3, t4, t5, t6, t7, t8, t9, t10, t11, t12, t13, t14, t15, t16, t17, t18, t19, rfl⟩ := arr20 T hT
      obtain rfl : t1 = .pointer (some ⟨w.heap.size, 0, none⟩) := hs 1 (by decide)
      obtain rfl : t2 = .pointer (some ⟨w.heap.size + 1, 0, none⟩) := hs 2 (by decide)
      have f1 := hF 1 (by decide)
      simp only [memF, mask] at f1
      clear hF hs hT
      subst f1
      go_simp
      exact hK.out _ W hC (fun _ _ _ h => h) rfl
    · intro T W hT hs hC hF K hK
      obtain ⟨t0, t1, t2, t3, t4, t5, t6, t7, t8, t9, t10, t11, t12, t13, t14, t15, t16, t17, t18, t19, rfl⟩ := arr20 T hT
      obtain rfl : t1 = .pointer (some ⟨w.heap.size, 0, none⟩) := hs 1 (by decide)
      obtain rfl : t2 = .pointer (some ⟨w.heap.size + 1, 0, none⟩) := hs 2 (by decide)
      have f2 := hF 2 (by decide)
      simp only [memF, mask] at f2
      clear hF hs hT
      subst f2
      go_simp
      exact hK.out _ W hC (fun _ _ _ h => h) rfl
    · intro T W hT hs hC hF K hK
      obtain ⟨t0, t1, t2, t3, t4, t5, t6, t7, t8, t9, t10, t11, t12, t13, t14, t15, t16, t17, t18, t19, rfl⟩ := arr20 T hT
      obtain rfl : t1 = .pointer (some ⟨w.heap.size, 0, none⟩) := hs 1 (by decide)
      obtain rfl : t2 = .pointer (some ⟨w.heap.size + 1, 0, none⟩) := hs 2 (by decide)
      have f3 := hF 3 (by decide)
      simp only [memF, mask] at f3
      clear hF hs hT
      subst f3
      obtain ⟨k0, k1, k2, m0, m1, -, -, -⟩ := HK.out W hC
      go_simp
      exact hK.out _ W hC (fun _ _ _ h => h) rfl
    · intro T W hT hs hC hF K hK
      obtain ⟨t0, t1, t2, t3, t4, t5, t6, t7, t8, t9, t10, t11, t12, t13, t14, t15, t16, t17, t18, t19, rfl⟩ := arr20 T hT
      obtain rfl : t1 = .pointer (some ⟨w.heap.size, 0, none⟩) := hs 1 (by decide)
      obtain rfl : t2 = .pointer (some ⟨w.heap.size + 1, 0, none⟩) := hs 2 (by decide)
      clear hF hs hT
      go_simp
      exact hK.out _ W hC (fun _ _ _ h => h) rfl
    · intro T W hT hs hC hF K hK
      obtain ⟨t0, t1, t2, t3, t4, t5, t6, t7, t8, t9, t10, t11, t12, t13, t14, t15, t16, t17, t18, t19, rfl⟩ := arr20 T hT
      obtain rfl : t1 = .pointer (some ⟨w.heap.size, 0, none⟩) := hs 1 (by decide)
      obtain rfl : t2 = .pointer (some ⟨w.heap.size + 1, 0, none⟩) := hs 2 (by decide)
      have f5 := hF 5 (by decide)
      simp only [memF, mask] at f5
      clear hF hs hT
      subst f5
      obtain ⟨k0, k1, k2, m0, m1, -, -, -⟩ := HK.out W hC
      go_simp
      exact hK.out _ W hC (fun _ _ _ h => h) rfl
    · intro T W hT hs hC hF K hK
      obtain ⟨t0, t1, t2, t3, t4, t5, t6, t7, t8, t9, t10, t11, t12, t13, t14, t15, t16, t17, t18, t19, rfl⟩ := arr20 T hT
      obtain rfl : t1 = .pointer (some ⟨w.heap.size, 0, none⟩) := hs 1 (by decide)
      obtain rfl : t2 = .pointer (some ⟨w.heap.size + 1, 0, none⟩) := hs 2 (by decide)
      have f6 := hF 6 (by decide)
      simp only [memF, mask] at f6
      clear hF hs hT
      subst f6
      go_simp
      exact hK.out _ W hC (fun _ _ _ h => h) rfl
    · intro T W hT hs hC hF K hK
      obtain ⟨t0, t1, t2, t3, t4, t5, t6, t7, t8, t9, t10, t11, t12, t13, t14, t15, t16, t17, t18, t19, rfl⟩ := arr20 T hT
      obtain rfl : t1 = .pointer (some ⟨w.heap.size, 0, none⟩) := hs 1 (by decide)
      obtain rfl : t2 = .pointer (some ⟨w.heap.size + 1, 0, none⟩) := hs 2 (by decide)
      have f7 := hF 7 (by decide)
      simp only [memF, mask] at f7
      clear hF hs hT
      subst f7
      go_simp
      exact hK.out _ W hC (fun _ _ _ h => h) rfl
    · intro T W hT hs hC hF K hK
      obtain ⟨t0, t1, t2, t3, t4, t5, t6, t7, t8, t9, t10, t11, t12, t13, t14, t15, t16, t17, t18, t19, rfl⟩ := arr20 T hT
      obtain rfl : t1 = .pointer (some ⟨w.heap.size, 0, none⟩) := hs 1 (by decide)
      obtain rfl : t2 = .pointer (some ⟨w.heap.size + 1, 0, none⟩) := hs 2 (by decide)
      have f8 := hF 8 (by decide)
      simp only [memF, mask] at f8
      clear hF hs hT
      subst f8
      obtain ⟨k0, k1, k2, m0, m1, -, -, -⟩ := HK.out W hC
      go_simp
      exact hK.out _ W hC (fun _ _ _ h => h) rfl
    · intro T W hT hs hC hF K hK
      obtain ⟨t0, t1, t2, t3, t4, t5, t6, t7, t8, t9, t10, t11, t12, t13, t14, t15, t16, t17, t18, t19, rfl⟩ := arr20 T hT
      obtain rfl : t1 = .pointer (some ⟨w.heap.size, 0, none⟩) := hs 1 (by decide)
      obtain rfl : t2 = .pointer (some ⟨w.heap.size + 1, 0, none⟩) := hs 2 (by decide)
      clear hF hs hT
      go_simp
      exact hK.out _ W hC (fun _ _ _ h => h) rfl
    · intro T W hT hs hC hF K hK
      obtain ⟨t0, t1, t2, t3, t4, t5, t6, t7, t8, t9, t10, t11, t12, t13, t14, t15, t16, t17, t18, t19, rfl⟩ := arr20 T hT
      obtain rfl : t1 = .pointer (some ⟨w.heap.size, 0, none⟩) := hs 1 (by decide)
      obtain rfl : t2 = .pointer (some ⟨w.heap.size + 1, 0, none⟩) := hs 2 (by decide)
      have f10 := hF 10 (by decide)
      simp only [memF, mask] at f10
      clear hF hs hT
      subst f10
      obtain ⟨k0, k1, k2, m0, m1, -, -, -⟩ := HK.out W hC
      go_simp
      exact hK.out _ W hC (fun _ _ _ h => h) rfl
    · intro T W hT hs hC hF K hK
      obtain ⟨t0, t1, t2, t3, t4, t5, t6, t7, t8, t9, t10, t11, t12, t13, t14, t15, t16, t17, t18, t19, rfl⟩ := arr20 T hT
      obtain rfl : t1 = .pointer (some ⟨w.heap.size, 0, none⟩) := hs 1 (by decide)
      obtain rfl : t2 = .pointer (some ⟨w.heap.size + 1, 0, none⟩) := hs 2 (by decide)
      have f11 := hF 11 (by decide)
      simp only [memF, mask] at f11
      clear hF hs hT
      subst f11
      go_simp
      exact hK.out _ W hC (fun _ _ _ h => h) rfl
    · intro T W hT hs hC hF K hK
      obtain ⟨t0, t1, t2, t3, t4, t5, t6, t7, t8, t9, t10, t11, t12, t13, t14, t15, t16, t17, t18, t19, rfl⟩ := arr20 T hT
      obtain rfl : t1 = .pointer (some ⟨w.heap.size, 0, none⟩) := hs 1 (by decide)
      obtain rfl : t2 = .pointer (some ⟨w.heap.size + 1, 0, none⟩) := hs 2 (by decide)
      have f12 := hF 12 (by decide)
      simp only [memF, mask] at f12
      clear hF hs hT
      subst f12
      go_simp
      exact hK.out _ W hC (fun _ _ _ h => h) rfl
    · intro T W hT hs hC hF K hK
      obtain ⟨t0, t1, t2, t3, t4, t5, t6, t7, t8, t9, t10, t11, t12, t13, t14, t15, t16, t17, t18, t19, rfl⟩ := arr20 T hT
      obtain rfl : t1 = .pointer (some ⟨w.heap.size, 0, none⟩) := hs 1 (by decide)
      obtain rfl : t2 = .pointer (some ⟨w.heap.size + 1, 0, none⟩) := hs 2 (by decide)
      have f13 := hF 13 (by decide)
      simp only [memF, mask] at f13
      clear hF hs hT
      subst f13
      have hr := (HK.out W hC).2.2.2.2.2.2.1
      refine wp_load_mid _ _ rfl b2 0 rfl cs _ hr Tryz.underlying94 rfl HSz.out ?_
      exact hK.out _ W hC (fun _ _ _ h => h) rfl
    · intro T W hT hs hC hF K hK
      obtain ⟨t0, t1, t2, t3, t4, t5, t6, t7, t8, t9, t10, t11, t12, t13, t14, t15, t16, t17, t18, t19, rfl⟩ := arr20 T hT
      obtain rfl : t1 = .pointer (some ⟨w.heap.size, 0, none⟩) := hs 1 (by decide)
      obtain rfl : t2 = .pointer (some ⟨w.heap.size + 1, 0, none⟩) := hs 2 (by decide)
      have f14 := hF 14 (by decide)
      simp only [memF, mask] at f14
      clear hF hs hT
      subst f14
      go_simp
      refine (HFl.out W).mono ?_
      rintro e w1 ⟨A, n, c, C, m, d, rfl, L, M, S, Q, k⟩
      obtain rfl : n = 256 := by have := L.out; have := HL.out.1; omega
      obtain rfl : m = 16 := by have := M.out; have := HL.out.2; omega
      exact hK.out _ w1 (hC.step k) (fun j t _ h => memF_below k j t h) ⟨A, c, C, d, rfl, S.out.wideB hC.2.1 (Nat.le_refl _), Q.out.wide hC.2.1 (Nat.le_refl _)⟩
    · intro T W hT hs hC hF K hK
      obtain ⟨t0, t1, t2, t3, t4, t5, t6, t7, t8, t9, t10, t11, t12, t13, t14, t15, t16, t17, t18, t19, rfl⟩ := arr20 T hT
      obtain rfl : t1 = .pointer (some ⟨w.heap.size, 0, none⟩) := hs 1 (by decide)
      obtain rfl : t2 = .pointer (some ⟨w.heap.size + 1, 0, none⟩) := hs 2 (by decide)
      have f4 := hF 4 (by decide)
      simp only [memF, mask] at f4
      have f9 := hF 9 (by decide)
      simp only [memF, mask] at f9
      have f15 := hF 15 (by decide)
      simp only [memF, mask] at f15
      clear hF hs hT
      obtain ⟨A, c, C, d, e18, S, Q⟩ := f15
      subst f4 f9 e18
      clear S Q
      go_simp
      exact hK.out _ W hC (fun _ _ _ h => h) ⟨A, c, C, d, rfl, rfl⟩
    · intro T W hT hs hC hF K hK
      obtain ⟨t0, t1, t2, t3, t4, t5, t6, t7, t8, t9, t10, t11, t12, t13, t14, t15, t16, t17, t18, t19, rfl⟩ := arr20 T hT
      obtain rfl : t1 = .pointer (some ⟨w.heap.size, 0, none⟩) := hs 1 (by decide)
      obtain rfl : t2 = .pointer (some ⟨w.heap.size + 1, 0, none⟩) := hs 2 (by decide)
      have f16 := hF 16 (by decide)
      simp only [memF, mask] at f16
      clear hF hs hT
      obtain ⟨A, c, C, d, e18, e19⟩ := f16
      subst e18 e19
      obtain ⟨hCa, hCb, ys, hys, Y⟩ := hC
      have y0 := YV5.of Y hys 0 (by omega)
      have y1 := YV5.of Y hys 1 (by omega)
      have y2 := YV5.of Y hys 2 (by omega)
      have y3 := YV5.of Y hys 3 (by omega)
      have y4 := YV5.of Y hys 4 (by omega)
      have z0 := Y.frozen 0
      have z1 := Y.frozen 1
      have z2 := Y.frozen 2
      have z3 := Y.frozen 3
      have z4 := Y.frozen 4
      have HYs := Lib.hid (And.intro hys Y)
      have hC : RM W0 w.heap.size W := ⟨hCa, hCb, ys, hys, Y⟩
      clear hys Y hCa hCb
      go_simp
      exact hK.out undef _ (((((hC.set 0 _).set 1 _).set 2 _).set 3 _).set 4 _) (fun j t n h => memF_store ((((HYs.out.2.set 0 _).set 1 _).set 2 _).set 3 _) 4 _ j t n (memF_store (((HYs.out.2.set 0 _).set 1 _).set 2 _) 3 _ j t n (memF_store ((HYs.out.2.set 0 _).set 1 _) 2 _ j t n (memF_store (HYs.out.2.set 0 _) 1 _ j t n (memF_store HYs.out.2 0 _ j t n h))))) ⟨A, c, C, d, rfl, HYs.out.2.all5 HYs.out.1 _ _ _ _ _⟩
  · intro T W hT hs hC hF
    obtain ⟨t0, t1, t2, t3, t4, t5, t6, t7, t8, t9, t10, t11, t12, t13, t14, t15, t16, t17, t18, t19, rfl⟩ := arr20 T hT
    obtain rfl : t1 = .pointer (some ⟨w.heap.size, 0, none⟩) := hs 1 (by decide)
    obtain rfl : t2 = .pointer (some ⟨w.heap.size + 1, 0, none⟩) := hs 2 (by decide)
    obtain ⟨A, c, C, d, e18, S, Q⟩ := hF 15 (by decide)
    obtain ⟨A', c', C', d', e18', Y⟩ := hF 17 (by decide)
    have e2 : Value.agg #[.slice A 256 c, .slice C 16 d, .int .i64 st] = .agg #[.slice A' 256 c', .slice C' 16 d', .int .i64 st] := (show t18 = _ from e18).symm.trans e18'
    simp only [Value.agg.injEq, Array.mk.injEq, List.cons.injEq, Value.slice.injEq, true_and, and_true] at e2
    obtain ⟨⟨x1, x2⟩, x3, x4⟩ := e2
    subst x1 x2 x3 x4
    have y0 := Y.cell 0 rfl
    have y1 := Y.cell 1 rfl
    have y2 := Y.cell 2 rfl
    have y3 := Y.cell 3 rfl
    have y4 := Y.cell 4 rfl
    have HR : Hid (OwnI W w.heap.size W.heap.size A zs ∧ OwnB W w.heap.size W.heap.size C gs) := Lib.hid ⟨S.wideB (by omega) (Nat.le_refl _), Q.wide (by omega) (Nat.le_refl _)⟩
    have HBw := Lib.hid (HB.out _ hC)
    clear e18 e18' S Q Y hF hs hT hC R0
    go_wp2
    refine bodyPost_ret (v := .agg #[.slice A0 256 c0, .slice A1 32 c1, .slice A 256 c, .slice C 16 d, .int .i64 st]) (by simp [results, Tryz.results24, go_sem, y0, y1, y2, y3, y4]) rfl ?_
    exact ⟨A, c, C, d, rfl, Lib.hid HR.out.1, Lib.hid HR.out.2, HBw.out⟩
end Go.Proofs.YtcchhbkbnbphhaaGreatDoor
