/- Texts of this claim, one behind the other: BusMem, BusTop, BusApi, FlashWrite, FlashWrite2, FlashWrite3, BusWrite, BusSpec, MemOwn. -/
import Derived.Test.YtngoijchebfolaaM4
/- impl.bus.mem: the memory that the devices hold. Written by gen_busmem.py. -/
namespace Go.Proofs.Ytngoijchebfolaa
open Go.RowKit

def YV5 (b : Nat) (W : World) (j : Nat) : Value := (W.cell? ⟨b, j, none⟩).getD undef
theorem YV5.of {b : Nat} {W : World} {t : TypeId} {cs : Array Value} (h : Box W b t cs) (hs : cs.size = 5) (j : Nat) (hj : j < 5) : W.cell? ⟨b, j, none⟩ = some (YV5 b W j) := by
  have := h.cell j (Array.getElem?_eq_getElem (by omega : j < cs.size))
  unfold YV5; rw [this]; rfl
theorem arr5 (T : Array Value) (h : T.size = 5) : ∃ t0 t1 t2 t3 t4 : Value, T = #[t0, t1, t2, t3, t4] := by
  obtain ⟨l⟩ := T
  match l, h with
  | [t0, t1, t2, t3, t4], _ => exact ⟨t0, t1, t2, t3, t4, rfl⟩
theorem Box.all5 {w : World} {b : Nat} {t : TypeId} {cs : Array Value} (X : Box w b t cs) (hs : cs.size = 5) (u0 u1 u2 u3 u4 : Value) :
    Box (((((w.setCell ⟨b, 0, none⟩ u0).setCell ⟨b, 1, none⟩ u1).setCell ⟨b, 2, none⟩ u2).setCell ⟨b, 3, none⟩ u3).setCell ⟨b, 4, none⟩ u4) b t #[u0, u1, u2, u3, u4] := by
  have := ((((X.set 0 u0).set 1 u1).set 2 u2).set 3 u3).set 4 u4
  obtain ⟨t0, t1, t2, t3, t4, rfl⟩ := arr5 cs hs
  exact this
/-- A world of such a region: the blocks up to the argument's are as they were, the result's block is there. -/
def RM (W0 : World) (m : Nat) (W : World) : Prop := Below (m + 1) W0 W ∧ W0.heap.size ≤ W.heap.size ∧ ∃ cs : Array Value, cs.size = 5 ∧ Box W (m + 1) 28 cs
theorem RM.le {W0 W : World} {m : Nat} (h : RM W0 m W) : m + 1 ≤ W.heap.size := by
  obtain ⟨a, q, cs, hs, b⟩ := h
  exact Nat.le_of_lt b.lt
theorem RM.alloc {W0 W : World} {m : Nat} (h : RM W0 m W) (o : Obj) : RM W0 m (W.alloc o) := by
  have hl := h.le
  obtain ⟨a, q, cs, hs, b⟩ := h
  exact ⟨a.trans ((alloc_below W o).mono hl), by simp; omega, cs, hs, b.alloc o⟩
theorem RM.step {W0 W W' : World} {m : Nat} (h : RM W0 m W) (k : Below W.heap.size W W') : RM W0 m W' := by
  have hl := h.le
  obtain ⟨a, q, cs, hs, b⟩ := h
  exact ⟨a.trans (k.mono hl), Nat.le_trans q k.size, cs, hs, b.step k⟩
theorem RM.set {W0 W : World} {m : Nat} (h : RM W0 m W) (j : Nat) (v : Value) : RM W0 m (W.setCell ⟨m + 1, j, none⟩ v) := by
  obtain ⟨a, q, cs, hs, b⟩ := h
  exact ⟨a.setCell (p := ⟨m + 1, j, none⟩) (Nat.le_refl _) v, by simpa [World.setCell] using q, _, by simpa using hs, b.set j v⟩
theorem Btw.of_low {n : Nat} {w w' : World} (h : Below n w w') : Btw n w.heap.size w w' := ⟨h.os, h.tape, h.output, h.size, fun k hk q => h.block k (by omega)⟩

theorem arr20 (T : Array Value) (h : T.size = 20) : ∃ t0 t1 t2 t3 t4 t5 t6 t7 t8 t9 t10 t11 t12 t13 t14 t15 t16 t17 t18 t19 : Value, T = #[t0, t1, t2, t3, t4, t5, t6, t7, t8, t9, t10, t11, t12, t13, t14, t15, t16, t17, t18, t19] := by
  obtain ⟨l⟩ := T
  match l, h with
  | [t0, t1, t2, t3, t4, t5, t6, t7, t8, t9, t10, t11, t12, t13, t14, t15, t16, t17, t18, t19], _ => exact ⟨t0, t1, t2, t3, t4, t5, t6, t7, t8, t9, t10, t11, t12, t13, t14, t15, t16, t17, t18, t19, rfl⟩

/-- The memory that a bus hands over. -/
def GivesMemOf (A0 A1 : Option Addr) (c0 c1 : Nat) (zs : List Int) (gs : List Bool) (st : Int) (w : World) (e : Ending) (w' : World) : Prop :=
  ∃ A c C d, e = .returned (.agg #[.slice A0 256 c0, .slice A1 32 c1, .slice A 256 c, .slice C 16 d, .int .i64 st]) ∧ Hid (OwnI w' w.heap.size w'.heap.size A zs) ∧ Hid (OwnB w' w.heap.size w'.heap.size C gs) ∧ Below w.heap.size w w'
def memF (M hs : Nat) (b0 b1 b2 : Nat) (s0 s1 : Value) (cs : List Value) (zs : List Int) (gs : List Bool) (st : Int) : Nat → (Nat → Value) → World → Prop
  | 0, t, _ => t 3 = .pointer (some ⟨M, 0, none⟩)
  | 1, t, _ => t 4 = .pointer (some ⟨b0, 0, none⟩)
  | 2, t, _ => t 5 = .pointer (some ⟨b0, 0, none⟩)
  | 3, t, _ => t 6 = .pointer (some ⟨b0, 0, none⟩)
  | 4, t, _ => t 7 = s0
  | 5, t, _ => t 8 = .pointer (some ⟨M, 1, none⟩)
  | 6, t, _ => t 9 = .pointer (some ⟨b1, 0, none⟩)
  | 7, t, _ => t 10 = .pointer (some ⟨b1, 0, none⟩)
  | 8, t, _ => t 11 = .pointer (some ⟨b1, 0, none⟩)
  | 9, t, _ => t 12 = s1
  | 10, t, _ => t 13 = .pointer (some ⟨M, 2, none⟩)
  | 11, t, _ => t 14 = .pointer (some ⟨b2, 0, none⟩)
  | 12, t, _ => t 15 = .pointer (some ⟨b2, 0, none⟩)
  | 13, t, _ => t 16 = .pointer (some ⟨b2, 0, none⟩)
  | 14, t, _ => t 17 = .agg cs.toArray
  | 15, t, w => ∃ A c C d, t 18 = .agg #[.slice A 256 c, .slice C 16 d, .int .i64 st] ∧ OwnI w hs w.heap.size A zs ∧ OwnB w hs w.heap.size C gs
  | 16, t, _ => ∃ A c C d, t 18 = .agg #[.slice A 256 c, .slice C 16 d, .int .i64 st] ∧ t 19 = .agg #[s0, s1, .slice A 256 c, .slice C 16 d, .int .i64 st]
  | 17, t, w => ∃ A c C d, t 18 = .agg #[.slice A 256 c, .slice C 16 d, .int .i64 st] ∧ Box w (M + 1) 28 #[s0, s1, .slice A 256 c, .slice C 16 d, .int .i64 st]
  | _, _, _ => True
section
variable {M hs b0 b1 b2 : Nat} {s0 s1 : Value} {cs : List Value} {zs : List Int} {gs : List Bool} {st : Int} {w w' : World}
theorem memF_below (k : Below w.heap.size w w') : ∀ (j : Nat) (t : Nat → Value), memF M hs b0 b1 b2 s0 s1 cs zs gs st j t w → memF M hs b0 b1 b2 s0 s1 cs zs gs st j t w'
  | 0, _, h | 1, _, h | 2, _, h | 3, _, h | 4, _, h | 5, _, h | 6, _, h | 7, _, h | 8, _, h | 9, _, h | 10, _, h | 11, _, h | 12, _, h | 13, _, h | 14, _, h | 16, _, h => h
  | 15, _, ⟨A, c, C, d, e, S, Q⟩ => ⟨A, c, C, d, e, (S.below k).wideB (Nat.le_refl _) k.size, (Q.below k).wide (Nat.le_refl _) k.size⟩
  | 17, _, ⟨A, c, C, d, e, h⟩ => ⟨A, c, C, d, e, h.step k⟩
  | _ + 18, _, _ => trivial
theorem memF_store {ys : Array Value} (Y : Box w (M + 1) 28 ys) (i : Nat) (u : Value) : ∀ (j : Nat) (t : Nat → Value), j ≠ 17 → memF M hs b0 b1 b2 s0 s1 cs zs gs st j t w → memF M hs b0 b1 b2 s0 s1 cs zs gs st j t (w.setCell ⟨M + 1, i, none⟩ u)
  | 0, _, _, h | 1, _, _, h | 2, _, _, h | 3, _, _, h | 4, _, _, h | 5, _, _, h | 6, _, _, h | 7, _, _, h | 8, _, _, h | 9, _, _, h | 10, _, _, h | 11, _, _, h | 12, _, _, h | 13, _, _, h | 14, _, _, h | 16, _, _, h => h
  | 15, _, _, ⟨A, c, C, d, e, S, Q⟩ => ⟨A, c, C, d, e, (S.farB Y (by decide) i u).wideB (Nat.le_refl _) (by simp [World.setCell]), (Q.far Y (by decide) i u).wide (Nat.le_refl _) (by simp [World.setCell])⟩
  | 17, _, n, _ => (n rfl).elim
  | _ + 18, _, _, _ => trivial
end

set_option maxRecDepth 100000 in
set_option maxHeartbeats 8000000 in
theorem busMem (lo g b0 b1 b2 b3 : Nat) (A0 A1 : Option Addr) (c0 c1 : Nat) (ram io zs : List Int) (gs : List Bool) (st : Int) (w : World) (hz : zs.length = 256) (hg : gs.length = 16) (hzs : ∀ z ∈ zs, 0 ≤ z ∧ z ≤ 255) (B : BusAt w lo g b0 b1 b2 b3 A0 A1 c0 c1 ram io zs gs st) :
    Calls Try.prog 47 #[.agg #[.pointer (some ⟨b0, 0, none⟩), .pointer (some ⟨b1, 0, none⟩), .pointer (some ⟨b2, 0, none⟩), .pointer (some ⟨b3, 0, none⟩)]] w (GivesMemOf A0 A1 c0 c1 zs gs st w) := by
  obtain ⟨W0, hW0⟩ : ∃ W0, W0 = ((w.alloc (.cells #[.pointer (some ⟨b0, 0, none⟩), .pointer (some ⟨b1, 0, none⟩), .pointer (some ⟨b2, 0, none⟩), .pointer (some ⟨b3, 0, none⟩)] 80)).alloc (.cells #[.slice none 0 0, .slice none 0 0, .slice none 0 0, .slice none 0 0, .int .i64 0] 28)) := ⟨_, rfl⟩
  have hb0 : Below w.heap.size w W0 := by rw [hW0]; exact bt (alloc_below _ _) (alloc_below _ _)
  have X0 : Box W0 w.heap.size 80 #[.pointer (some ⟨b0, 0, none⟩), .pointer (some ⟨b1, 0, none⟩), .pointer (some ⟨b2, 0, none⟩), .pointer (some ⟨b3, 0, none⟩)] := by rw [hW0]; exact (Box.new _ _ _).alloc _
  have Y0 : Box W0 (w.heap.size + 1) 28 #[.slice none 0 0, .slice none 0 0, .slice none 0 0, .slice none 0 0, .int .i64 0] := by rw [hW0]; simpa using Box.new (w.alloc (.cells #[.pointer (some ⟨b0, 0, none⟩), .pointer (some ⟨b1, 0, none⟩), .pointer (some ⟨b2, 0, none⟩), .pointer (some ⟨b3, 0, none⟩)] 80)) 28 #[.slice none 0 0, .slice none 0 0, .slice none 0 0, .slice none 0 0, .int .i64 0]
  have hs0 : W0.heap.size = w.heap.size + 2 := by rw [hW0]; simp
  have HB : Hid (∀ W, RM W0 w.heap.size W → Below w.heap.size w W) := Lib.hid (fun W r => hb0.trans (r.1.mono (by omega)))
  have HFl := Lib.hid (fun W => chipFlash zs gs st W hz hg hzs)
  have HSz := Lib.hid (sizeC zs gs st hz hg)
  have HL := Lib.hid (And.intro hz hg)
  have HK : Hid (∀ W', RM W0 w.heap.size W' → W'.cell? ⟨w.heap.size, 0, none⟩ = some (.pointer (some ⟨b0, 0, none⟩)) ∧ W'.cell? ⟨w.heap.size, 1, none⟩ = some (.pointer (some ⟨b1, 0, none⟩)) ∧ W'.cell? ⟨w.heap.size, 2, none⟩ = some (.pointer (some ⟨b2, 0, none⟩)) ∧ W'.cell? ⟨b0, 0, none⟩ = some (.slice A0 256 c0) ∧ W'.cell? ⟨b1, 0, none⟩ = some (.slice A1 32 c1) ∧ True ∧ W'.rangeAt b2 0 (chipC zs gs st) ∧ True) := Lib.hid (fun W' r => by
    have X := X0.below r.1 (by omega)
    have q := HB.out _ r
    exact ⟨X.cell 0 rfl, X.cell 1 rfl, X.cell 2 rfl, (B.r.step q).cell 0 rfl, (B.i.step q).cell 0 rfl, trivial, (B.f.step q).rangeL, trivial⟩)
  generalize hcs : chipC zs gs st = cs at HFl HSz HK
  have HW0 := Lib.hid hW0
  have R0 : RM W0 w.heap.size W0.drew := ⟨(Below.refl _ _).drew, Nat.le_refl _, _, rfl, Y0⟩
  have hq0 : w.heap.size ≤ W0.heap.size := by omega
  clear hz hg hzs B X0 Y0 hW0 hs0 hb0 hcs
  go_enter Try.func47, Try.ntmps47
  go_wp2
  rw [← HW0.out]
  refine wp_region_facts (by kernel_rfl) [[3], [4], [5], [6], [7], [8], [9], [10], [11], [12], [13], [14], [15], [16], [17], [18], [18, 19], [18]] [[], [0], [0, 1], [0, 1, 2], [0, 1, 2, 3], [], [5], [5, 6], [5, 6, 7], [5, 6, 7, 8], [], [10], [10, 11], [10, 11, 12], [10, 11, 12, 13], [10, 11, 12, 13, 14], [4, 9, 15, 0, 1, 2, 3, 5, 6, 7, 8, 10, 11, 12, 13, 14], [0, 1, 2, 3, 4, 5, 6, 7, 8, 9, 10, 11, 12, 13, 14, 15, 16]] [0, 1, 2] (by kernel_rfl) (RM W0 w.heap.size) (memF w.heap.size W0.heap.size b0 b1 b2 (.slice A0 256 c0) (.slice A1 32 c1) cs zs gs st) R0 ?_ ?_
  · refine ⟨?_, ?_, ?_, ?_, ?_, ?_, ?_, ?_, ?_, ?_, ?_, ?_, ?_, ?_, ?_, ?_, ?_, ?_, trivial⟩
    · intro T W hT hs hC hF K hK
      obtain ⟨t0, t1, t2, t3, t4, t5, t6, t7, t8, t9, t10, t11, t12, t13, t14, t15, t16, t17, t18, t19, rfl⟩ := arr20 T hT
      obtain rfl : t1 = .pointer (some ⟨w.heap.size, 0, none⟩) := hs 1 (by decide)
      obtain rfl : t2 = .pointer (some ⟨w.heap.size + 1, 0, none⟩) := hs 2 (by decide)
      clear hF hs hT
      go_simp
      exact hK.out _ W hC (fun _ _ _ h => h) rfl
    · intro T W hT hs hC hF K hK
      obtain ⟨t0, t1, t2, t3, t4, t5, t6, t7, t8, t9, t10, t11, t12, t13, t14, t15, t16, t17, t18, t19, rfl⟩ := arr20 T hT
      obtain rfl : t1 = .pointer (some ⟨w.heap.size, 0, none⟩) := hs 1 (by decide)
      obtain rfl : t2 = .pointer (some ⟨w.heap.size + 1, 0, none⟩) := hs 2 (by decide)
      have f0 := hF 0 (by decide)
      simp only [memF, mask] at f0
      clear hF hs hT
      subst f0
      obtain ⟨k0, k1, k2, m0, m1, -, -, -⟩ := HK.out W hC
      go_simp
      exact hK.out _ W hC (fun _ _ _ h => h) rfl
    · intro T W hT hs hC hF K hK
      obtain ⟨t0, t1, t2, t3, t4, t5, t6, t7, t8, t9, t10, t11, t12, t13, t14, t15, t16, t17, t18, t19, rfl⟩ := arr20 T hT
      obtain rfl : t1 = .pointer (some ⟨w.heap.size, 0, none⟩) := hs 1 (by decide)
      obtain rfl : t2 = .pointer (some ⟨w.heap.size + 1, 0, none⟩) := hs 2 (by decide)
      have f1 := hF 1 (by decide)
      simp only [memF, mask] at f1
      clear hF hs hT
      subst f1
      go_simp
      exact hK.out _ W hC (fun _ _ _ h => h) rfl
    · intro T W hT hs hC hF K hK
      obtain ⟨t0, t1, t2, t3, t4, t5, t6, t7, t8, t9, t10, t11, t12, t13, t14, t15, t16, t17, t18, t19, rfl⟩ := arr20 T hT
      obtain rfl : t1 = .pointer (some ⟨w.heap.size, 0, none⟩) := hs 1 (by decide)
      obtain rfl : t2 = .pointer (some ⟨w.heap.size + 1, 0, none⟩) := hs 2 (by decide)
      have f2 := hF 2 (by decide)
      simp only [memF, mask] at f2
      clear hF hs hT
      subst f2
      go_simp
      exact hK.out _ W hC (fun _ _ _ h => h) rfl
    · intro T W hT hs hC hF K hK
      obtain ⟨t0, t1, t2, t3, t4, t5, t6, t7, t8, t9, t10, t11, t12, t13, t14, t15, t16, t17, t18, t19, rfl⟩ := arr20 T hT
      obtain rfl : t1 = .pointer (some ⟨w.heap.size, 0, none⟩) := hs 1 (by decide)
      obtain rfl : t2 = .pointer (some ⟨w.heap.size + 1, 0, none⟩) := hs 2 (by decide)
      have f3 := hF 3 (by decide)
      simp only [memF, mask] at f3
      clear hF hs hT
      subst f3
      obtain ⟨k0, k1, k2, m0, m1, -, -, -⟩ := HK.out W hC
      go_simp
      exact hK.out _ W hC (fun _ _ _ h => h) rfl
    · intro T W hT hs hC hF K hK
      obtain ⟨t0, t1, t2, t3, t4, t5, t6, t7, t8, t9, t10, t11, t12, t13, t14, t15, t16, t17, t18, t19, rfl⟩ := arr20 T hT
      obtain rfl : t1 = .pointer (some ⟨w.heap.size, 0, none⟩) := hs 1 (by decide)
      obtain rfl : t2 = .pointer (some ⟨w.heap.size + 1, 0, none⟩) := hs 2 (by decide)
      clear hF hs hT
      go_simp
      exact hK.out _ W hC (fun _ _ _ h => h) rfl
    · intro T W hT hs hC hF K hK
      obtain ⟨t0, t1, t2, t3, t4, t5, t6, t7, t8, t9, t10, t11, t12, t13, t14, t15, t16, t17, t18, t19, rfl⟩ := arr20 T hT
      obtain rfl : t1 = .pointer (some ⟨w.heap.size, 0, none⟩) := hs 1 (by decide)
      obtain rfl : t2 = .pointer (some ⟨w.heap.size + 1, 0, none⟩) := hs 2 (by decide)
      have f5 := hF 5 (by decide)
      simp only [memF, mask] at f5
      clear hF hs hT
      subst f5
      obtain ⟨k0, k1, k2, m0, m1, -, -, -⟩ := HK.out W hC
      go_simp
      exact hK.out _ W hC (fun _ _ _ h => h) rfl
    · intro T W hT hs hC hF K hK
      obtain ⟨t0, t1, t2, t3, t4, t5, t6, t7, t8, t9, t10, t11, t12, t13, t14, t15, t16, t17, t18, t19, rfl⟩ := arr20 T hT
      obtain rfl : t1 = .pointer (some ⟨w.heap.size, 0, none⟩) := hs 1 (by decide)
      obtain rfl : t2 = .pointer (some ⟨w.heap.size + 1, 0, none⟩) := hs 2 (by decide)
      have f6 := hF 6 (by decide)
      simp only [memF, mask] at f6
      clear hF hs hT
      subst f6
      go_simp
      exact hK.out _ W hC (fun _ _ _ h => h) rfl
    · intro T W hT hs hC hF K hK
      obtain ⟨t0, t1, t2, t3, t4, t5, t6, t7, t8, t9, t10, t11, t12, t13, t14, t15, t16, t17, t18, t19, rfl⟩ := arr20 T hT
      obtain rfl : t1 = .pointer (some ⟨w.heap.size, 0, none⟩) := hs 1 (by decide)
      obtain rfl : t2 = .pointer (some ⟨w.heap.size + 1, 0, none⟩) := hs 2 (by decide)
      have f7 := hF 7 (by decide)
      simp only [memF, mask] at f7
      clear hF hs hT
      subst f7
      go_simp
      exact hK.out _ W hC (fun _ _ _ h => h) rfl
    · intro T W hT hs hC hF K hK
      obtain ⟨t0, t1, t2, t3, t4, t5, t6, t7, t8, t9, t10, t11, t12, t13, t14, t15, t16, t17, t18, t19, rfl⟩ := arr20 T hT
      obtain rfl : t1 = .pointer (some ⟨w.heap.size, 0, none⟩) := hs 1 (by decide)
      obtain rfl : t2 = .pointer (some ⟨w.heap.size + 1, 0, none⟩) := hs 2 (by decide)
      have f8 := hF 8 (by decide)
      simp only [memF, mask] at f8
      clear hF hs hT
      subst f8
      obtain ⟨k0, k1, k2, m0, m1, -, -, -⟩ := HK.out W hC
      go_simp
      exact hK.out _ W hC (fun _ _ _ h => h) rfl
    · intro T W hT hs hC hF K hK
      obtain ⟨t0, t1, t2, t3, t4, t5, t6, t7, t8, t9, t10, t11, t12, t13, t14, t15, t16, t17, t18, t19, rfl⟩ := arr20 T hT
      obtain rfl : t1 = .pointer (some ⟨w.heap.size, 0, none⟩) := hs 1 (by decide)
      obtain rfl : t2 = .pointer (some ⟨w.heap.size + 1, 0, none⟩) := hs 2 (by decide)
      clear hF hs hT
      go_simp
      exact hK.out _ W hC (fun _ _ _ h => h) rfl
    · intro T W hT hs hC hF K hK
      obtain ⟨t0, t1, t2, t3, t4, t5, t6, t7, t8, t9, t10, t11, t12, t13, t14, t15, t16, t17, t18, t19, rfl⟩ := arr20 T hT
      obtain rfl : t1 = .pointer (some ⟨w.heap.size, 0, none⟩) := hs 1 (by decide)
      obtain rfl : t2 = .pointer (some ⟨w.heap.size + 1, 0, none⟩) := hs 2 (by decide)
      have f10 := hF 10 (by decide)
      simp only [memF, mask] at f10
      clear hF hs hT
      subst f10
      obtain ⟨k0, k1, k2, m0, m1, -, -, -⟩ := HK.out W hC
      go_simp
      exact hK.out _ W hC (fun _ _ _ h => h) rfl
    · intro T W hT hs hC hF K hK
      obtain ⟨t0, t1, t2, t3, t4, t5, t6, t7, t8, t9, t10, t11, t12, t13, t14, t15, t16, t17, t18, t19, rfl⟩ := arr20 T hT
      obtain rfl : t1 = .pointer (some ⟨w.heap.size, 0, none⟩) := hs 1 (by decide)
      obtain rfl : t2 = .pointer (some ⟨w.heap.size + 1, 0, none⟩) := hs 2 (by decide)
      have f11 := hF 11 (by decide)
      simp only [memF, mask] at f11
      clear hF hs hT
      subst f11
      go_simp
      exact hK.out _ W hC (fun _ _ _ h => h) rfl
    · intro T W hT hs hC hF K hK
      obtain ⟨t0, t1, t2, t3, t4, t5, t6, t7, t8, t9, t10, t11, t12, t13, t14, t15, t16, t17, t18, t19, rfl⟩ := arr20 T hT
      obtain rfl : t1 = .pointer (some ⟨w.heap.size, 0, none⟩) := hs 1 (by decide)
      obtain rfl : t2 = .pointer (some ⟨w.heap.size + 1, 0, none⟩) := hs 2 (by decide)
      have f12 := hF 12 (by decide)
      simp only [memF, mask] at f12
      clear hF hs hT
      subst f12
      go_simp
      exact hK.out _ W hC (fun _ _ _ h => h) rfl
    · intro T W hT hs hC hF K hK
      obtain ⟨t0, t1, t2, t3, t4, t5, t6, t7, t8, t9, t10, t11, t12, t13, t14, t15, t16, t17, t18, t19, rfl⟩ := arr20 T hT
      obtain rfl : t1 = .pointer (some ⟨w.heap.size, 0, none⟩) := hs 1 (by decide)
      obtain rfl : t2 = .pointer (some ⟨w.heap.size + 1, 0, none⟩) := hs 2 (by decide)
      have f13 := hF 13 (by decide)
      simp only [memF, mask] at f13
      clear hF hs hT
      subst f13
      have hr := (HK.out W hC).2.2.2.2.2.2.1
      refine wp_load_mid _ _ rfl b2 0 rfl cs _ hr Try.underlying119 rfl HSz.out ?_
      exact hK.out _ W hC (fun _ _ _ h => h) rfl
    · intro T W hT hs hC hF K hK
      obtain ⟨t0, t1, t2, t3, t4, t5, t6, t7, t8, t9, t10, t11, t12, t13, t14, t15, t16, t17, t18, t19, rfl⟩ := arr20 T hT
      obtain rfl : t1 = .pointer (some ⟨w.heap.size, 0, none⟩) := hs 1 (by decide)
      obtain rfl : t2 = .pointer (some ⟨w.heap.size + 1, 0, none⟩) := hs 2 (by decide)
      have f14 := hF 14 (by decide)
      simp only [memF, mask] at f14
      clear hF hs hT
      subst f14
      go_simp
      refine (HFl.out W).mono ?_
      rintro e w1 ⟨A, n, c, C, m, d, rfl, L, M, S, Q, k⟩
      obtain rfl : n = 256 := by have := L.out; have := HL.out.1; omega
      obtain rfl : m = 16 := by have := M.out; have := HL.out.2; omega
      exact hK.out _ w1 (hC.step k) (fun j t _ h => memF_below k j t h) ⟨A, c, C, d, rfl, S.out.wideB hC.2.1 (Nat.le_refl _), Q.out.wide hC.2.1 (Nat.le_refl _)⟩
    · intro T W hT hs hC hF K hK
      obtain ⟨t0, t1, t2, t3, t4, t5, t6, t7, t8, t9, t10, t11, t12, t13, t14, t15, t16, t17, t18, t19, rfl⟩ := arr20 T hT
      obtain rfl : t1 = .pointer (some ⟨w.heap.size, 0, none⟩) := hs 1 (by decide)
      obtain rfl : t2 = .pointer (some ⟨w.heap.size + 1, 0, none⟩) := hs 2 (by decide)
      have f4 := hF 4 (by decide)
      simp only [memF, mask] at f4
      have f9 := hF 9 (by decide)
      simp only [memF, mask] at f9
      have f15 := hF 15 (by decide)
      simp only [memF, mask] at f15
      clear hF hs hT
      obtain ⟨A, c, C, d, e18, S, Q⟩ := f15
      subst f4 f9 e18
      clear S Q
      go_simp
      exact hK.out _ W hC (fun _ _ _ h => h) ⟨A, c, C, d, rfl, rfl⟩
    · intro T W hT hs hC hF K hK
      obtain ⟨t0, t1, t2, t3, t4, t5, t6, t7, t8, t9, t10, t11, t12, t13, t14, t15, t16, t17, t18, t19, rfl⟩ := arr20 T hT
      obtain rfl : t1 = .pointer (some ⟨w.heap.size, 0, none⟩) := hs 1 (by decide)
      obtain rfl : t2 = .pointer (some ⟨w.heap.size + 1, 0, none⟩) := hs 2 (by decide)
      have f16 := hF 16 (by decide)
      simp only [memF, mask] at f16
      clear hF hs hT
      obtain ⟨A, c, C, d, e18, e19⟩ := f16
      subst e18 e19
      obtain ⟨hCa, hCb, ys, hys, Y⟩ := hC
      have y0 := YV5.of Y hys 0 (by omega)
      have y1 := YV5.of Y hys 1 (by omega)
      have y2 := YV5.of Y hys 2 (by omega)
      have y3 := YV5.of Y hys 3 (by omega)
      have y4 := YV5.of Y hys 4 (by omega)
      have z0 := Y.frozen 0
      have z1 := Y.frozen 1
      have z2 := Y.frozen 2
      have z3 := Y.frozen 3
      have z4 := Y.frozen 4
      have HYs := Lib.hid (And.intro hys Y)
      have hC : RM W0 w.heap.size W := ⟨hCa, hCb, ys, hys, Y⟩
      clear hys Y hCa hCb
      go_simp
      exact hK.out undef _ (((((hC.set 0 _).set 1 _).set 2 _).set 3 _).set 4 _) (fun j t n h => memF_store ((((HYs.out.2.set 0 _).set 1 _).set 2 _).set 3 _) 4 _ j t n (memF_store (((HYs.out.2.set 0 _).set 1 _).set 2 _) 3 _ j t n (memF_store ((HYs.out.2.set 0 _).set 1 _) 2 _ j t n (memF_store (HYs.out.2.set 0 _) 1 _ j t n (memF_store HYs.out.2 0 _ j t n h))))) ⟨A, c, C, d, rfl, HYs.out.2.all5 HYs.out.1 _ _ _ _ _⟩
  · intro T W hT hs hC hF
    obtain ⟨t0, t1, t2, t3, t4, t5, t6, t7, t8, t9, t10, t11, t12, t13, t14, t15, t16, t17, t18, t19, rfl⟩ := arr20 T hT
    obtain rfl : t1 = .pointer (some ⟨w.heap.size, 0, none⟩) := hs 1 (by decide)
    obtain rfl : t2 = .pointer (some ⟨w.heap.size + 1, 0, none⟩) := hs 2 (by decide)
    obtain ⟨A, c, C, d, e18, S, Q⟩ := hF 15 (by decide)
    obtain ⟨A', c', C', d', e18', Y⟩ := hF 17 (by decide)
    have e2 : Value.agg #[.slice A 256 c, .slice C 16 d, .int .i64 st] = .agg #[.slice A' 256 c', .slice C' 16 d', .int .i64 st] := (show t18 = _ from e18).symm.trans e18'
    simp only [Value.agg.injEq, Array.mk.injEq, List.cons.injEq, Value.slice.injEq, true_and, and_true] at e2
    obtain ⟨⟨x1, x2⟩, x3, x4⟩ := e2
    subst x1 x2 x3 x4
    have y0 := Y.cell 0 rfl
    have y1 := Y.cell 1 rfl
    have y2 := Y.cell 2 rfl
    have y3 := Y.cell 3 rfl
    have y4 := Y.cell 4 rfl
    have HR : Hid (OwnI W w.heap.size W.heap.size A zs ∧ OwnB W w.heap.size W.heap.size C gs) := Lib.hid ⟨S.wideB (by omega) (Nat.le_refl _), Q.wide (by omega) (Nat.le_refl _)⟩
    have HBw := Lib.hid (HB.out _ hC)
    clear e18 e18' S Q Y hF hs hT hC R0
    go_wp2
    refine bodyPost_ret (v := .agg #[.slice A0 256 c0, .slice A1 32 c1, .slice A 256 c, .slice C 16 d, .int .i64 st]) (by simp [results, Try.results47, go_sem, y0, y1, y2, y3, y4]) rfl ?_
    exact ⟨A, c, C, d, rfl, Lib.hid HR.out.1, Lib.hid HR.out.2, HBw.out⟩
end Go.Proofs.Ytngoijchebfolaa

/- impl.bus.read, impl.bus.write, impl.Mem.check, impl.BusGet, impl.BusPut, impl.MemOK. -/
namespace Go.Proofs.Ytngoijchebfolaa
open Go.RowKit

section
variable (lo g b0 b1 b2 b3 : Nat) (A0 A1 : Option Addr) (c0 c1 : Nat) (ram io zs : List Int) (gs : List Bool) (st : Int) (w : World)
set_option maxRecDepth 100000 in
theorem busRead (k : Nat) (hk : k < 4096) (hr : ram.length = 256) (hi : io.length = 32) (hz : zs.length = 256) (hg : gs.length = 16) (hzs : ∀ z ∈ zs, 0 ≤ z ∧ z ≤ 255) (B : BusAt w lo g b0 b1 b2 b3 A0 A1 c0 c1 ram io zs gs st) :
    Calls Try.prog 87 #[.agg #[.pointer (some ⟨b0, 0, none⟩), .pointer (some ⟨b1, 0, none⟩), .pointer (some ⟨b2, 0, none⟩), .pointer (some ⟨b3, 0, none⟩)], .int .i64 k] w fun e w' => e = .returned (.int .i64 (getV ram io zs gs readV st k)) ∧ Below w.heap.size w w' := by
  have hb0 := alloc_below w (.cells #[.pointer (some ⟨b0, 0, none⟩), .pointer (some ⟨b1, 0, none⟩), .pointer (some ⟨b2, 0, none⟩), .pointer (some ⟨b3, 0, none⟩)] 80)
  have HRe := Lib.hid (fun W => regionOf (k : Int) W (by omega) (by omega))
  have HB := Lib.hid B
  have HLs := Lib.hid (And.intro hr (And.intro hi (And.intro hz (And.intro hg hzs))))
  obtain ⟨r, hv⟩ : ∃ r, getV ram io zs gs readV st k = r := ⟨_, rfl⟩
  rw [hv]
  have HV := Lib.hid hv
  clear hr hi hz hg hzs B hv
  rcases reg_ways k hk with ⟨h1, e1, e2⟩ | ⟨h1, h2, e1, e2⟩ | ⟨h1, h2, e1, e2⟩ | ⟨h1, h2, e1, e2⟩
  · rw [e1, e2] at HRe
    have HE : Hid (r = ram.getD k 0) := Lib.hid (by rw [← HV.out]; unfold getV; rw [e1, e2, if_pos rfl]; rfl)
    clear e1 e2 HV
    go_enter Try.func87, Try.ntmps87
    go_wp2_with fail
    refine (HRe.out _).mono ?_
    rintro e w1 ⟨rfl, rfl⟩
    go_wp2_with fail
    refine (busDevice1 _ _ _ _ _).mono ?_
    rintro e w2 ⟨rfl, hb2⟩
    have hb := bt hb0 hb2
    have HM := Lib.hid (workRead b0 k c0 256 A0 ram w2 HLs.out.1 rfl h1 (HB.out.step hb).r (HB.out.step hb).R.reads)
    go_wp2_with fail
    refine HM.out.mono ?_
    rintro e w3 ⟨rfl, rfl⟩
    go_wp2
    go_ret
    exact ⟨ret_int HE.out.symm, hb⟩
  · rw [e1, e2] at HRe
    have HE : Hid (r = io.getD (k - 256) 0) := Lib.hid (by rw [← HV.out]; unfold getV; rw [e1, e2, if_neg (by omega), if_pos rfl]; rfl)
    clear e1 e2 HV
    obtain ⟨j, hj⟩ : ∃ j, k - 256 = j := ⟨_, rfl⟩
    rw [hj] at HRe HE
    have hj32 : j < 32 := by omega
    clear hj
    go_enter Try.func87, Try.ntmps87
    go_wp2_with fail
    refine (HRe.out _).mono ?_
    rintro e w1 ⟨rfl, rfl⟩
    go_wp2_with fail
    refine (busDevice2 _ _ _ _ _).mono ?_
    rintro e w2 ⟨rfl, hb2⟩
    have hb := bt hb0 hb2
    have HM := Lib.hid (regsRead b1 j c1 32 A1 io w2 HLs.out.2.1 rfl hj32 (HB.out.step hb).i (HB.out.step hb).I.reads)
    go_wp2_with fail
    refine HM.out.mono ?_
    rintro e w3 ⟨rfl, rfl⟩
    go_wp2
    go_ret
    exact ⟨ret_int HE.out.symm, hb⟩
  · rw [e1, e2] at HRe
    have HE : Hid (r = readV zs gs st (k - 512)) := Lib.hid (by rw [← HV.out]; unfold getV; rw [e1, e2, if_neg (by omega), if_neg (by omega), if_pos rfl]; rfl)
    clear e1 e2 HV
    obtain ⟨j, hj⟩ : ∃ j, k - 512 = j := ⟨_, rfl⟩
    rw [hj] at HRe HE
    have hj32 : j ≤ 255 := by omega
    clear hj
    go_enter Try.func87, Try.ntmps87
    go_wp2_with fail
    refine (HRe.out _).mono ?_
    rintro e w1 ⟨rfl, rfl⟩
    go_wp2_with fail
    refine (busDevice3 _ _ _ _ _).mono ?_
    rintro e w2 ⟨rfl, hb2⟩
    have hb := bt hb0 hb2
    have HM := Lib.hid (cartRead b2 zs gs st w2 j HLs.out.2.2.1 HLs.out.2.2.2.1 hj32 HLs.out.2.2.2.2 (HB.out.step hb).f)
    go_wp2_with fail
    refine HM.out.mono ?_
    rintro e w3 ⟨rfl, hb3⟩
    go_wp2
    go_ret
    exact ⟨ret_int HE.out.symm, bt hb hb3⟩
  · rw [e1, e2] at HRe
    have HE : Hid (r = 255) := Lib.hid (by rw [← HV.out]; unfold getV; rw [e1, if_neg (by omega), if_neg (by omega), if_neg (by omega)])
    clear e1 e2 HV
    go_enter Try.func87, Try.ntmps87
    go_wp2_with fail
    refine (HRe.out _).mono ?_
    rintro e w1 ⟨rfl, rfl⟩
    go_wp2_with fail
    refine (busDevice0 _ _ _ _ _).mono ?_
    rintro e w2 ⟨rfl, hb2⟩
    have hb := bt hb0 hb2
    go_wp2_with fail
    refine (openRead _ _ _).mono ?_
    rintro e w3 ⟨rfl, rfl⟩
    go_wp2
    go_ret
    exact ⟨ret_int HE.out.symm, hb⟩

theorem Writes.after {lo g b0 b1 b2 b3 : Nat} {A0 A1 : Option Addr} {c0 c1 : Nat} {ram io zs : List Int} {gs : List Bool} {st : Int} {w w1 : World} {e : Ending} {w' : World} (hb : Below w.heap.size w w1) (hl : lo ≤ w.heap.size) (h : Writes lo g b0 b1 b2 b3 A0 A1 c0 c1 ram io zs gs st w1 e w') : Writes lo g b0 b1 b2 b3 A0 A1 c0 c1 ram io zs gs st w e w' :=
  ⟨h.1, h.2.1, Lib.hid (fun b t cs h1 h2 X => h.2.2.1.out b t cs h1 h2 (X.step hb)), (hb.mono hl).trans h.2.2.2⟩
set_option maxRecDepth 100000 in
set_option maxHeartbeats 1000000 in
theorem busWrite (k v : Nat) (hk : k < 4096) (hv : v < 256) (hr : ram.length = 256) (hi : io.length = 32) (hz : zs.length = 256) (hg : gs.length = 16) (hs : 0 ≤ st ∧ st ≤ 8) (hzs : ∀ z ∈ zs, 0 ≤ z ∧ z ≤ 255) (B : BusAt w lo g b0 b1 b2 b3 A0 A1 c0 c1 ram io zs gs st) :
    Calls Try.prog 86 #[.agg #[.pointer (some ⟨b0, 0, none⟩), .pointer (some ⟨b1, 0, none⟩), .pointer (some ⟨b2, 0, none⟩), .pointer (some ⟨b3, 0, none⟩)], .int .i64 k, .int .i64 v] w (Writes lo g b0 b1 b2 b3 A0 A1 c0 c1 (putR ram k v) (putI io k v) (putZ zs gs st k v) (putG gs st k) (putS st k v) w) := by
  have hb0 := alloc_below w (.cells #[.pointer (some ⟨b0, 0, none⟩), .pointer (some ⟨b1, 0, none⟩), .pointer (some ⟨b2, 0, none⟩), .pointer (some ⟨b3, 0, none⟩)] 80)
  have HRe := Lib.hid (fun W => regionOf (k : Int) W (by omega) (by omega))
  have HB := Lib.hid B
  have HQ : Hid (lo ≤ w.heap.size) := Lib.hid (Nat.le_of_lt (Nat.lt_of_le_of_lt B.l.1 B.r.lt))
  have HLs := Lib.hid (And.intro hr (And.intro hi (And.intro hz (And.intro hg (And.intro hs hzs)))))
  clear hr hi hz hg hs hzs B
  rcases reg_ways k hk with ⟨h1, e1, e2⟩ | ⟨h1, h2, e1, e2⟩ | ⟨h1, h2, e1, e2⟩ | ⟨h1, h2, e1, e2⟩
  · rw [show putR ram k v = ram.set k v from by unfold putR; rw [if_pos e1, e2]; rfl, show putI io k v = io from by unfold putI; rw [if_neg (by rw [e1]; omega)], show putZ zs gs st k v = zs from by unfold putZ; rw [if_neg (by rw [e1]; omega)], show putG gs st k = gs from by unfold putG; rw [if_neg (by rw [e1]; omega)], show putS st k v = st from by unfold putS; rw [if_neg (by rw [e1]; omega)]]
    rw [e1, e2] at HRe
    clear e1 e2
    go_enter Try.func86, Try.ntmps86
    go_wp2_with fail
    refine (HRe.out _).mono ?_
    rintro e w1 ⟨rfl, rfl⟩
    go_wp2_with fail
    refine (busDevice1 _ _ _ _ _).mono ?_
    rintro e w2 ⟨rfl, hb2⟩
    have hb := bt hb0 hb2
    have HM := Lib.hid (workWrite lo g b0 b1 b2 b3 A0 A1 c0 c1 ram io zs gs st w2 k v h1 HLs.out.1 (HB.out.step hb))
    go_wp2_with fail
    refine HM.out.mono ?_
    rintro e w3 ⟨rfl, N1, N2, N3⟩
    have HF := Lib.hid (Writes.after hb HQ.out ⟨rfl, N1, N2, N3⟩)
    clear N1 N2 N3
    go_wp2
    go_end0
    exact HF.out
  · obtain ⟨j, hj⟩ : ∃ j, k - 256 = j := ⟨_, rfl⟩
    rw [hj] at e2
    have hj32 : j < 32 := by omega
    by_cases hj0 : 0 < j
    · rw [show putR ram k v = ram from by unfold putR; rw [if_neg (by rw [e1]; omega)], show putI io k v = io.set j v from by unfold putI; rw [if_pos ⟨e1, by rw [e2]; omega⟩, e2]; rfl, show putZ zs gs st k v = zs from by unfold putZ; rw [if_neg (by rw [e1]; omega)], show putG gs st k = gs from by unfold putG; rw [if_neg (by rw [e1]; omega)], show putS st k v = st from by unfold putS; rw [if_neg (by rw [e1]; omega)]]
      rw [e1, e2] at HRe
      clear e1 e2 hj
      go_enter Try.func86, Try.ntmps86
      go_wp2_with fail
      refine (HRe.out _).mono ?_
      rintro e w1 ⟨rfl, rfl⟩
      go_wp2_with fail
      refine (busDevice2 _ _ _ _ _).mono ?_
      rintro e w2 ⟨rfl, hb2⟩
      have hb := bt hb0 hb2
      have HM := Lib.hid (regsWrite lo g b0 b1 b2 b3 A0 A1 c0 c1 ram io zs gs st w2 j v hj32 hj0 HLs.out.2.1 (HB.out.step hb))
      go_wp2_with fail
      refine HM.out.mono ?_
      rintro e w3 ⟨rfl, N1, N2, N3⟩
      have HF := Lib.hid (Writes.after hb HQ.out ⟨rfl, N1, N2, N3⟩)
      clear N1 N2 N3
      go_wp2
      go_end0
      exact HF.out
    · obtain rfl : j = 0 := by omega
      rw [show putR ram k v = ram from by unfold putR; rw [if_neg (by rw [e1]; omega)], show putI io k v = io from by unfold putI; rw [if_neg (by rw [e2]; omega)], show putZ zs gs st k v = zs from by unfold putZ; rw [if_neg (by rw [e1]; omega)], show putG gs st k = gs from by unfold putG; rw [if_neg (by rw [e1]; omega)], show putS st k v = st from by unfold putS; rw [if_neg (by rw [e1]; omega)]]
      rw [e1, e2] at HRe
      clear e1 e2 hj hj0
      go_enter Try.func86, Try.ntmps86
      go_wp2_with fail
      refine (HRe.out _).mono ?_
      rintro e w1 ⟨rfl, rfl⟩
      go_wp2_with fail
      refine (busDevice2 _ _ _ _ _).mono ?_
      rintro e w2 ⟨rfl, hb2⟩
      have hb := bt hb0 hb2
      have HM := Lib.hid (regsWrite0 lo g b0 b1 b2 b3 A0 A1 c0 c1 ram io zs gs st w2 v (HB.out.step hb))
      go_wp2_with fail
      refine HM.out.mono ?_
      rintro e w3 ⟨rfl, N1, N2, N3⟩
      have HF := Lib.hid (Writes.after hb HQ.out ⟨rfl, N1, N2, N3⟩)
      clear N1 N2 N3
      go_wp2
      go_end0
      exact HF.out
  · obtain ⟨j, hj⟩ : ∃ j, k - 512 = j := ⟨_, rfl⟩
    rw [hj] at e2
    have hj32 : j < 256 := by omega
    rw [show putR ram k v = ram from by unfold putR; rw [if_neg (by rw [e1]; omega)], show putI io k v = io from by unfold putI; rw [if_neg (by rw [e1]; omega)], show putZ zs gs st k v = cycZ zs gs st j v from by unfold putZ; rw [if_pos e1, e2]; rfl, show putG gs st k = cycG gs st j from by unfold putG; rw [if_pos e1, e2]; rfl, show putS st k v = nextS st j v from by unfold putS; rw [if_pos e1, e2]]
    rw [e1, e2] at HRe
    clear e1 e2 hj
    go_enter Try.func86, Try.ntmps86
    go_wp2_with fail
    refine (HRe.out _).mono ?_
    rintro e w1 ⟨rfl, rfl⟩
    go_wp2_with fail
    refine (busDevice3 _ _ _ _ _).mono ?_
    rintro e w2 ⟨rfl, hb2⟩
    have hb := bt hb0 hb2
    have HM := Lib.hid (cartWrite lo g b0 b1 b2 b3 A0 A1 c0 c1 ram io zs gs st w2 j v HLs.out.2.2.1 HLs.out.2.2.2.1 HLs.out.2.2.2.2.1 hj32 hv HLs.out.2.2.2.2.2 (HB.out.step hb))
    go_wp2_with fail
    refine HM.out.mono ?_
    rintro e w3 ⟨rfl, N1, N2, N3⟩
    have HF := Lib.hid (Writes.after hb HQ.out ⟨rfl, N1, N2, N3⟩)
    clear N1 N2 N3
    go_wp2
    go_end0
    exact HF.out
  · rw [show putR ram k v = ram from by unfold putR; rw [if_neg (by rw [e1]; omega)], show putI io k v = io from by unfold putI; rw [if_neg (by rw [e1]; omega)], show putZ zs gs st k v = zs from by unfold putZ; rw [if_neg (by rw [e1]; omega)], show putG gs st k = gs from by unfold putG; rw [if_neg (by rw [e1]; omega)], show putS st k v = st from by unfold putS; rw [if_neg (by rw [e1]; omega)]]
    rw [e1, e2] at HRe
    clear e1 e2
    go_enter Try.func86, Try.ntmps86
    go_wp2_with fail
    refine (HRe.out _).mono ?_
    rintro e w1 ⟨rfl, rfl⟩
    go_wp2_with fail
    refine (busDevice0 _ _ _ _ _).mono ?_
    rintro e w2 ⟨rfl, hb2⟩
    have hb := bt hb0 hb2
    go_wp2_with fail
    refine (openWrite _ _ _ _).mono ?_
    rintro e w3 ⟨rfl, rfl⟩
    have HF : Hid (Writes lo g b0 b1 b2 b3 A0 A1 c0 c1 ram io zs gs st w (.returned (.tuple #[])) w2) := Lib.hid ⟨rfl, Lib.hid (HB.out.step hb), Lib.hid (fun _ _ _ _ _ X => X.step hb), hb.mono HQ.out⟩
    go_wp2
    go_end0
    exact HF.out
end
end Go.Proofs.Ytngoijchebfolaa

/- impl.MemOK, impl.BusGet, impl.BusPut on leaves. -/
namespace Go.Proofs.Ytngoijchebfolaa
open Go.RowKit

/-- BusGet's answer. -/
def getF (r i zs : List Int) (gs : List Bool) (st a : Int) : Int × Int := if codeIf (okMem r i zs gs st) (adB a) = 0 then (getV r i zs gs readV st a, 0) else (0, codeIf (okMem r i zs gs st) (adB a))
/-- BusPut's answer. -/
def putF (r i zs : List Int) (gs : List Bool) (st a v : Int) : List Int × List Int × List Int × List Bool × Int × Int :=
  if codeIf (okMem r i zs gs st) (adB a && byB v) = 0 then (putR r a v, putI i a v, putZ zs gs st a v, putG gs st a, putS st a v, 0) else ([], [], [], [], 0, codeIf (okMem r i zs gs st) (adB a && byB v))
theorem codeIf0 {a b : Bool} (h : codeIf a b = 0) : a = true ∧ b = true := by unfold codeIf at h; cases a <;> cases b <;> simp_all
theorem ownA4 {w : World} {lo g h hi L R : Nat} {A0 A1 A2 A3 : Option Addr} {c0 c1 c2 c3 : Nat} {d0 d1 d2 : List Int} {d3 : List Bool} (a : OwnI w lo g A0 d0) (b : OwnI w g h A1 d1) (c : OwnI w h hi A2 d2) (d : OwnB w h hi A3 d3) (q0 : L ≤ lo) (q1 : lo ≤ g) (q2 : g ≤ h) (q3 : h ≤ hi) (q4 : hi ≤ R) :
    OwnA w L R [.slice A0 d0.length c0, .slice A1 d1.length c1, .slice A2 d2.length c2, .slice A3 d3.length c3] [.I d0, .I d1, .I d2, .B d3] :=
  OwnA.append (lo := L) (hi := h) (L := L) (R := R) (OwnA.append (lo := lo) (hi := g) (lo' := g) (hi' := h) (L := L) (R := h) (OwnA.one (d := .I d0) ⟨A0, c0, rfl, a⟩) (OwnA.one (d := .I d1) ⟨A1, c1, rfl, b⟩) (.inl (Nat.le_refl _)) q0 (by omega) q2 (Nat.le_refl _)) (ownIB c d) (.inl (Nat.le_refl _)) (Nat.le_refl _) (by omega) (by omega) q4
theorem ownA4_nil (w : World) (L R : Nat) (hq : L ≤ R) : OwnA w L R [.slice none 0 0, .slice none 0 0, .slice none 0 0, .slice none 0 0] [.I [], .I [], .I [], .B []] :=
  ownA4 (lo := L) (g := L) (h := L) (hi := L) (d0 := []) (d1 := []) (d2 := []) (d3 := []) (.inl rfl) (.inl rfl) (.inl rfl) (.inl rfl) (Nat.le_refl _) (Nat.le_refl _) (Nat.le_refl _) (Nat.le_refl _) hq

section
variable (A0 A1 A2 A3 : Option Addr) (n0 n1 n2 n3 c0 c1 c2 c3 : Nat) (d0 d1 d2 : List Int) (d3 : List Bool) (d4 : Int) (w : World)
/-- A memory of the call's own, and a code. -/
def GivesMemCode (r i zs : List Int) (gs : List Bool) (st code : Int) (w : World) (e : Ending) (w' : World) : Prop :=
  ∃ A0 A1 A2 A3 c0 c1 c2 c3, e = .returned (.tuple #[.agg #[.slice A0 r.length c0, .slice A1 i.length c1, .slice A2 zs.length c2, .slice A3 gs.length c3, .int .i64 st], .int .i64 code]) ∧ Hid (OwnA w' w.heap.size w'.heap.size [.slice A0 r.length c0, .slice A1 i.length c1, .slice A2 zs.length c2, .slice A3 gs.length c3] [.I r, .I i, .I zs, .B gs]) ∧ Below w.heap.size w w'
theorem OwnI.far5 {w : World} {lo hi : Nat} {A : Option Addr} {zs : List Int} (h : OwnI w lo hi A zs) {b : Nat} {cs : Array Value} (X : Box w b 28 cs) (u0 u1 u2 u3 u4 : Value) : OwnI (((((w.setCell ⟨b, 0, none⟩ u0).setCell ⟨b, 1, none⟩ u1).setCell ⟨b, 2, none⟩ u2).setCell ⟨b, 3, none⟩ u3).setCell ⟨b, 4, none⟩ u4) lo hi A zs :=
  ((((h.farB X (by decide) 0 u0).farB (X.set 0 u0) (by decide) 1 u1).farB ((X.set 0 u0).set 1 u1) (by decide) 2 u2).farB (((X.set 0 u0).set 1 u1).set 2 u2) (by decide) 3 u3).farB ((((X.set 0 u0).set 1 u1).set 2 u2).set 3 u3) (by decide) 4 u4
theorem OwnB.far5 {w : World} {lo hi : Nat} {A : Option Addr} {gs : List Bool} (h : OwnB w lo hi A gs) {b : Nat} {cs : Array Value} (X : Box w b 28 cs) (u0 u1 u2 u3 u4 : Value) : OwnB (((((w.setCell ⟨b, 0, none⟩ u0).setCell ⟨b, 1, none⟩ u1).setCell ⟨b, 2, none⟩ u2).setCell ⟨b, 3, none⟩ u3).setCell ⟨b, 4, none⟩ u4) lo hi A gs :=
  ((((h.far X (by decide) 0 u0).far (X.set 0 u0) (by decide) 1 u1).far ((X.set 0 u0).set 1 u1) (by decide) 2 u2).far (((X.set 0 u0).set 1 u1).set 2 u2) (by decide) 3 u3).far ((((X.set 0 u0).set 1 u1).set 2 u2).set 3 u3) (by decide) 4 u4
theorem below5 {w0 w : World} {b : Nat} (h : Below w0.heap.size w0 w) (hb : w0.heap.size ≤ b) (u0 u1 u2 u3 u4 : Value) : Below w0.heap.size w0 (((((w.setCell ⟨b, 0, none⟩ u0).setCell ⟨b, 1, none⟩ u1).setCell ⟨b, 2, none⟩ u2).setCell ⟨b, 3, none⟩ u3).setCell ⟨b, 4, none⟩ u4) :=
  ((((h.setCell (p := ⟨b, 0, none⟩) hb u0).setCell (p := ⟨b, 1, none⟩) hb u1).setCell (p := ⟨b, 2, none⟩) hb u2).setCell (p := ⟨b, 3, none⟩) hb u3).setCell (p := ⟨b, 4, none⟩) hb u4
theorem size5 (w : World) (b : Nat) (u0 u1 u2 u3 u4 : Value) : (((((w.setCell ⟨b, 0, none⟩ u0).setCell ⟨b, 1, none⟩ u1).setCell ⟨b, 2, none⟩ u2).setCell ⟨b, 3, none⟩ u3).setCell ⟨b, 4, none⟩ u4).heap.size = w.heap.size := by simp [World.setCell]

end
end Go.Proofs.Ytngoijchebfolaa

/- The model's bus cycle: l03Third, l03Write, BusWrite. -/
namespace Go.Proofs.Ytngoijchebfolaa
open Go.RowKit

def writeF (zs : List Int) (gs : List Bool) (st a v : Int) := gate (codeIf (okFlash zs gs st) (byB a && byB v)) (cycZ zs gs st a.toNat v.toNat) (cycG gs st a.toNat) (nextS st a v)
theorem writeF_bound (zs : List Int) (gs : List Bool) (st a v : Int) : (writeF zs gs st a v).1.length ≤ 1048576 ∧ (writeF zs gs st a v).2.1.length ≤ 1048576 := gate_bound (fun h => by have := okFlash_len h; rw [cycZ_len, cycG_len]; omega)

/-- The call hands back a flash that reads so (its memory may be an argument's). -/
def ReadsFlash (zs : List Int) (gs : List Bool) (st : Int) (w : World) (e : Ending) (w' : World) : Prop :=
  ∃ A n c C m d, e = .returned (.agg #[.slice A n c, .slice C m d, .int .i64 st]) ∧ Hid (zs.length = n) ∧ Hid (gs.length = m) ∧ Hid (IntL w' A zs) ∧ Hid (BoolL w' C gs) ∧ Below w.heap.size w w'

set_option maxRecDepth 100000 in
theorem l03Third (k v : Nat) (w : World) : Calls Try.prog 123 #[.int .i64 k, .int .i64 v] w fun e w' => e = .returned (.int .i64 (if (k : Int) = 85 then cmdS v else 0)) ∧ w = w' := by
  go_enter Try.func123, Try.ntmps123
  go_wp2
  all_goals go_ret
  all_goals (refine ⟨ret_int ?_, rfl⟩)
  all_goals (first | (unfold cmdS; simp_all; done) | simp_all)

theorem nextS_0 (k v : Nat) : nextS 0 k v = if ((k : Int) == 85) && ((v : Int) == 170) then 1 else 0 := by unfold nextS; simp
theorem nextS_4 (k v : Nat) : nextS 4 k v = if ((k : Int) == 85) && ((v : Int) == 170) then 5 else 0 := by unfold nextS; simp
theorem nextS_1 (k v : Nat) : nextS 1 k v = if ((k : Int) == 42) && ((v : Int) == 85) then 2 else 0 := by unfold nextS; simp
theorem nextS_5 (k v : Nat) : nextS 5 k v = if ((k : Int) == 42) && ((v : Int) == 85) then 6 else 0 := by unfold nextS; simp
theorem nextS_2 (k v : Nat) : nextS 2 k v = if (k : Int) = 85 then cmdS v else 0 := by unfold nextS; simp
theorem nextS_7 (k v : Nat) : nextS 7 k v = if ((v : Int) != 240) then 7 else 0 := by
  unfold nextS
  by_cases h : (v : Int) = 240 <;> simp [h]
theorem nextS_3 (k v : Nat) : nextS 3 k v = 0 := by unfold nextS; simp
theorem nextS_6 (k v : Nat) : nextS 6 k v = 0 := by unfold nextS; simp
theorem nextS_8 (k v : Nat) : nextS 8 k v = 0 := by unfold nextS; simp
theorem cyc_plain (zs : List Int) (gs : List Bool) (st : Int) (k v : Nat) (h3 : st ≠ 3) (h6 : st ≠ 6) (h8 : st ≠ 8) : cycZ zs gs st k v = zs ∧ cycG gs st k = gs :=
  ⟨by unfold cycZ; rw [if_neg h3, if_neg h6], by unfold cycG; rw [if_neg h8]⟩

/-- The four tests that every cycle makes. -/
structure Tests (k v : Nat) (b1 b2 b3 b4 : Bool) : Prop where
  t1 : ((k : Int) == 85) = b1
  t2 : ((v : Int) == 170) = b2
  t3 : ((k : Int) == 42) = b3
  t4 : ((v : Int) == 85) = b4

set_option maxRecDepth 100000 in
set_option maxHeartbeats 8000000 in
theorem writePlain (A C : Option Addr) (c d k v : Nat) (st s : Int) (w : World) (b1 b2 b3 b4 : Bool) (T : Tests k v b1 b2 b3 b4)
    (hst : (st = 0 ∧ s = if b1 && b2 then 1 else 0) ∨ (st = 4 ∧ s = if b1 && b2 then 5 else 0) ∨ (st = 1 ∧ s = if b3 && b4 then 2 else 0) ∨ (st = 5 ∧ s = if b3 && b4 then 6 else 0)) :
    Calls Try.prog 117 #[.agg #[.slice A 256 c, .slice C 16 d, .int .i64 st], .int .i64 k, .int .i64 v] w fun e w' => e = .returned (.agg #[.slice A 256 c, .slice C 16 d, .int .i64 s]) ∧ Below w.heap.size w w' := by
  obtain ⟨t1, t2, t3, t4⟩ := T
  rcases hst with ⟨rfl, rfl⟩ | ⟨rfl, rfl⟩ | ⟨rfl, rfl⟩ | ⟨rfl, rfl⟩
  all_goals (
    cases b1 <;> cases b2 <;> cases b3 <;> cases b4 <;> (
      go_enter Try.func117, Try.ntmps117
      go_wp2_with (first | (go_at_call 119; refine (l01Bit _ _).mono ?_; rintro e w' ⟨rfl, rfl⟩))
      refine bodyPost_ret (by simp [results, Try.results117, go_sem]; rfl) rfl ?_
      exact ⟨rfl, bt (alloc_below _ _) (alloc_below _ _)⟩))
end Go.Proofs.Ytngoijchebfolaa

/- The model's bus cycle in the states that do more: a command, autoselect, programming, protecting, erasing. -/
namespace Go.Proofs.Ytngoijchebfolaa
open Go.RowKit

set_option maxRecDepth 100000 in
set_option maxHeartbeats 8000000 in
theorem writeCmd (A C : Option Addr) (c d k v : Nat) (s : Int) (w : World) (b1 b2 b3 b4 : Bool) (T : Tests k v b1 b2 b3 b4) (hs : (if (k : Int) = 85 then cmdS v else 0) = s) :
    Calls Try.prog 117 #[.agg #[.slice A 256 c, .slice C 16 d, .int .i64 2], .int .i64 k, .int .i64 v] w fun e w' => e = .returned (.agg #[.slice A 256 c, .slice C 16 d, .int .i64 s]) ∧ Below w.heap.size w w' := by
  obtain ⟨t1, t2, t3, t4⟩ := T
  have h3 : ∀ W, Calls Try.prog 123 #[.int .i64 k, .int .i64 v] W fun e w' => e = .returned (.int .i64 s) ∧ W = w' := fun W => by have := l03Third k v W; rw [hs] at this; exact this
  have H3 := Lib.hid h3
  clear h3 hs
  cases b1 <;> cases b3 <;> (
    go_enter Try.func117, Try.ntmps117
    go_wp2_with (first | (go_at_call 123; refine (H3.out _).mono ?_; rintro e w' ⟨rfl, rfl⟩))
    refine bodyPost_ret (by simp [results, Try.results117, go_sem]; rfl) rfl ?_
    exact ⟨rfl, bt (alloc_below _ _) (alloc_below _ _)⟩)

set_option maxRecDepth 100000 in
set_option maxHeartbeats 8000000 in
theorem writeAuto (A C : Option Addr) (c d k v : Nat) (w : World) (b1 b2 b3 b4 b5 : Bool) (T : Tests k v b1 b2 b3 b4) (t5 : ((v : Int) != 240) = b5) :
    Calls Try.prog 117 #[.agg #[.slice A 256 c, .slice C 16 d, .int .i64 7], .int .i64 k, .int .i64 v] w fun e w' => e = .returned (.agg #[.slice A 256 c, .slice C 16 d, .int .i64 (if b5 then 7 else 0)]) ∧ Below w.heap.size w w' := by
  obtain ⟨t1, t2, t3, t4⟩ := T
  cases b1 <;> cases b3 <;> cases b5 <;> (
    go_enter Try.func117, Try.ntmps117
    go_wp2_with (first | (go_at_call 119; refine (l01Bit _ _).mono ?_; rintro e w' ⟨rfl, rfl⟩))
    refine bodyPost_ret (by simp [results, Try.results117, go_sem]; rfl) rfl ?_
    exact ⟨rfl, bt (alloc_below _ _) (alloc_below _ _)⟩)

/-- The two boxes that a bus cycle opens, the state being put to reading. -/
theorem opened (A C : Option Addr) (c d : Nat) (w : World) :
    ∃ W, W = ((w.alloc (.cells #[.slice A 256 c, .slice C 16 d, .int .i64 0] 26)).alloc (.cells #[.slice none 0 0, .slice none 0 0, .int .i64 0] 26)) ∧ Below w.heap.size w W ∧ Box W w.heap.size 26 #[.slice A 256 c, .slice C 16 d, .int .i64 0] ∧ Box W (w.heap.size + 1) 26 #[.slice none 0 0, .slice none 0 0, .int .i64 0] := by
  have X0 := (Box.new w 26 #[.slice A 256 c, .slice C 16 d, .int .i64 0]).alloc (.cells #[.slice none 0 0, .slice none 0 0, .int .i64 0] 26)
  have Y0 := Box.new (w.alloc (.cells #[.slice A 256 c, .slice C 16 d, .int .i64 0] 26)) 26 #[.slice none 0 0, .slice none 0 0, .int .i64 0]
  have hs : (w.alloc (.cells #[.slice A 256 c, .slice C 16 d, .int .i64 0] 26)).heap.size = w.heap.size + 1 := by simp
  rw [hs] at Y0
  exact ⟨_, rfl, bt (alloc_below _ _) (alloc_below _ _), X0, Y0⟩

def FlashAt (w : World) (A C : Option Addr) (zs : List Int) (gs : List Bool) : Prop := (zs.length = 256 ∧ gs.length = 16) ∧ IntL w A zs ∧ BoolL w C gs

set_option maxRecDepth 100000 in
set_option maxHeartbeats 8000000 in
theorem writeProgram (A C : Option Addr) (c d k v : Nat) (zs : List Int) (gs : List Bool) (w : World) (b1 b2 b3 b4 : Bool) (T : Tests k v b1 b2 b3 b4) (hk : k < 256) (hv : v < 256) (hz : ∀ z ∈ zs, 0 ≤ z ∧ z ≤ 255) (h : FlashAt w A C zs gs) :
    Calls Try.prog 117 #[.agg #[.slice A 256 c, .slice C 16 d, .int .i64 3], .int .i64 k, .int .i64 v] w (GivesFlash (progL zs gs k v) gs 0 w) := by
  obtain ⟨W, hW, hb, X, Y⟩ := opened A C c d w
  obtain ⟨t1, t2, t3, t4⟩ := T
  have HP := Lib.hid (l03Program A C 256 c 16 d k v 0 zs gs W h.1.1 h.1.2 rfl rfl hk hv hz (h.2.1.below hb) (h.2.2.below hb))
  have HY := Lib.hid (And.intro hb Y)
  have HW := Lib.hid hW
  generalize progL zs gs k v = zr at HP ⊢
  clear h hz hk hv hb X Y hW
  cases b1 <;> cases b3 <;> (
    go_enter Try.func117, Try.ntmps117
    go_wp2_with fail
    rw [← HW.out]
    refine HP.out.mono ?_
    rintro e w3 ⟨A3, n3, c3, C3, m3, d3, rfl, L3, M3, S3, R3, hb3⟩
    have Y3 := HY.out.2.step hb3
    have s0 := Y3.cell 0 rfl
    have s1 := Y3.cell 1 rfl
    have s2 := Y3.cell 2 rfl
    have s0z := Y3.frozen 0
    have s1z := Y3.frozen 1
    have s2z := Y3.frozen 2
    have HY3 := Lib.hid Y3
    clear Y3
    go_wp2
    refine bodyPost_ret (v := .agg #[.slice A3 n3 c3, .slice C3 m3 d3, .int .i64 0]) (by simp [results, Try.results117, go_sem, s0, s1, s2]) rfl ?_
    exact ⟨_, _, _, _, _, _, rfl, L3, M3, Lib.hid ((S3.out.far3 HY3.out _ _ _).wideB HY.out.1.size (by rw [size3]; exact Nat.le_refl _)), Lib.hid ((R3.out.far3 HY3.out _ _ _).wide HY.out.1.size (by rw [size3]; exact Nat.le_refl _)), below3 (bt HY.out.1 hb3) (by omega) _ _ _⟩)

set_option maxRecDepth 100000 in
set_option maxHeartbeats 8000000 in
theorem writeGuard (A C : Option Addr) (c d k v : Nat) (zs : List Int) (gs : List Bool) (w : World) (b1 b2 b3 b4 : Bool) (T : Tests k v b1 b2 b3 b4) (hk : k < 256) (h : FlashAt w A C zs gs) :
    Calls Try.prog 117 #[.agg #[.slice A 256 c, .slice C 16 d, .int .i64 8], .int .i64 k, .int .i64 v] w (GivesFlash zs (gs.set (k / 16) true) 0 w) := by
  obtain ⟨W, hW, hb, X, Y⟩ := opened A C c d w
  obtain ⟨t1, t2, t3, t4⟩ := T
  have hP := l03Guard A C 256 c 16 d (k / 16) 0 zs gs W h.1.1 h.1.2 rfl rfl (by omega) (h.2.1.below hb) (h.2.2.below hb)
  rw [show ((k / 16 : Nat) : Int) = (k : Int) / 16 from by omega] at hP
  have HP := Lib.hid hP
  clear hP
  have HY := Lib.hid (And.intro hb Y)
  have HW := Lib.hid hW
  generalize gs.set (k / 16) true = gr at HP ⊢
  have hki : (k : Int) < 256 := by omega
  clear h hb X Y hW
  cases b1 <;> cases b3 <;> (
    go_enter Try.func117, Try.ntmps117
    go_wp2_with fail
    rw [← HW.out]
    refine HP.out.mono ?_
    rintro e w3 ⟨A3, n3, c3, C3, m3, d3, rfl, L3, M3, S3, R3, hb3⟩
    have Y3 := HY.out.2.step hb3
    have s0 := Y3.cell 0 rfl
    have s1 := Y3.cell 1 rfl
    have s2 := Y3.cell 2 rfl
    have s0z := Y3.frozen 0
    have s1z := Y3.frozen 1
    have s2z := Y3.frozen 2
    have HY3 := Lib.hid Y3
    clear Y3
    go_wp2
    refine bodyPost_ret (v := .agg #[.slice A3 n3 c3, .slice C3 m3 d3, .int .i64 0]) (by simp [results, Try.results117, go_sem, s0, s1, s2]) rfl ?_
    exact ⟨_, _, _, _, _, _, rfl, L3, M3, Lib.hid ((S3.out.far3 HY3.out _ _ _).wideB HY.out.1.size (by rw [size3]; exact Nat.le_refl _)), Lib.hid ((R3.out.far3 HY3.out _ _ _).wide HY.out.1.size (by rw [size3]; exact Nat.le_refl _)), below3 (bt HY.out.1 hb3) (by omega) _ _ _⟩)
end Go.Proofs.Ytngoijchebfolaa

/- The model's bus cycle in the state of erasing. -/
namespace Go.Proofs.Ytngoijchebfolaa
open Go.RowKit

set_option maxRecDepth 100000 in
set_option maxHeartbeats 8000000 in
theorem writeErase (A C : Option Addr) (c d k : Nat) (zs : List Int) (gs : List Bool) (w : World) (b1 b2 b3 b4 : Bool) (T : Tests k 48 b1 b2 b3 b4) (hk : k < 256) (h : FlashAt w A C zs gs) :
    Calls Try.prog 117 #[.agg #[.slice A 256 c, .slice C 16 d, .int .i64 6], .int .i64 k, .int .i64 48] w (GivesFlash (eraseL zs gs (k / 16)) gs 0 w) := by
  obtain ⟨W, hW, hb, X, Y⟩ := opened A C c d w
  obtain ⟨t1, t2, t3, t4⟩ := T
  have hP := l03Erase A C 256 c 16 d (k / 16) 0 zs gs W h.1.1 h.1.2 rfl rfl (by omega) (h.2.1.below hb) (h.2.2.below hb)
  rw [show ((k / 16 : Nat) : Int) = (k : Int) / 16 from by omega] at hP
  have HP := Lib.hid hP
  clear hP
  have HY := Lib.hid (And.intro hb Y)
  have HW := Lib.hid hW
  generalize eraseL zs gs (k / 16) = zr at HP ⊢
  have hki : (k : Int) < 256 := by omega
  clear h hb X Y hW t2 t4
  cases b1 <;> cases b3 <;> (
    go_enter Try.func117, Try.ntmps117
    go_wp2_with fail
    rw [← HW.out]
    refine HP.out.mono ?_
    rintro e w3 ⟨A3, n3, c3, C3, m3, d3, rfl, L3, M3, S3, R3, hb3⟩
    have Y3 := HY.out.2.step hb3
    have s0 := Y3.cell 0 rfl
    have s1 := Y3.cell 1 rfl
    have s2 := Y3.cell 2 rfl
    have s0z := Y3.frozen 0
    have s1z := Y3.frozen 1
    have s2z := Y3.frozen 2
    have HY3 := Lib.hid Y3
    clear Y3
    go_wp2
    refine bodyPost_ret (v := .agg #[.slice A3 n3 c3, .slice C3 m3 d3, .int .i64 0]) (by simp [results, Try.results117, go_sem, s0, s1, s2]) rfl ?_
    exact ⟨_, _, _, _, _, _, rfl, L3, M3, Lib.hid ((S3.out.far3 HY3.out _ _ _).wideB HY.out.1.size (by rw [size3]; exact Nat.le_refl _)), Lib.hid ((R3.out.far3 HY3.out _ _ _).wide HY.out.1.size (by rw [size3]; exact Nat.le_refl _)), below3 (bt HY.out.1 hb3) (by omega) _ _ _⟩)

set_option maxRecDepth 100000 in
set_option maxHeartbeats 8000000 in
theorem writeNone (A C : Option Addr) (c d k v : Nat) (w : World) (b1 b2 b3 b4 : Bool) (T : Tests k v b1 b2 b3 b4) (t5 : ((v : Int) == 48) = false) (h6 : ((v : Int) == 16) = false ∨ (((v : Int) == 16) = true ∧ b1 = false)) :
    Calls Try.prog 117 #[.agg #[.slice A 256 c, .slice C 16 d, .int .i64 6], .int .i64 k, .int .i64 v] w fun e w' => e = .returned (.agg #[.slice A 256 c, .slice C 16 d, .int .i64 0]) ∧ Below w.heap.size w w' := by
  obtain ⟨t1, t2, t3, t4⟩ := T
  rcases h6 with t6 | ⟨t6, rfl⟩
  · cases b1 <;> cases b3 <;> (
      go_enter Try.func117, Try.ntmps117
      go_wp2
      refine bodyPost_ret (by simp [results, Try.results117, go_sem]; rfl) rfl ?_
      exact ⟨rfl, bt (alloc_below _ _) (alloc_below _ _)⟩)
  · cases b3 <;> (
      go_enter Try.func117, Try.ntmps117
      go_wp2
      refine bodyPost_ret (by simp [results, Try.results117, go_sem]; rfl) rfl ?_
      exact ⟨rfl, bt (alloc_below _ _) (alloc_below _ _)⟩)

set_option maxRecDepth 100000 in
set_option maxHeartbeats 8000000 in
theorem writeAll (A C : Option Addr) (c d : Nat) (zs : List Int) (gs : List Bool) (w : World) (h : FlashAt w A C zs gs) :
    Calls Try.prog 117 #[.agg #[.slice A 256 c, .slice C 16 d, .int .i64 6], .int .i64 85, .int .i64 16] w (GivesFlash (eraseN zs gs 16) gs 0 w) := by
  obtain ⟨W, hW, hb, X, Y⟩ := opened A C c d w
  have HEr := Lib.hid (fun j (hj : j < 16) A n c C m d zs' gs' W (h1 : zs'.length = 256) (h2 : gs'.length = 16) (e1 : n = 256) (e2 : m = 16) => l03Erase A C n c m d j 0 zs' gs' W (h1.trans e1.symm) (h2.trans e2.symm) e1 e2 hj)
  have HL := Lib.hid h.1
  have HI : Hid (IntL W A zs ∧ BoolL W C gs) := Lib.hid ⟨h.2.1.below hb, h.2.2.below hb⟩
  have HX := Lib.hid (And.intro X Y)
  have HW := Lib.hid hW
  clear h X Y hW
  go_enter Try.func117, Try.ntmps117
  go_wp2
  rw [← HW.out]
  go_loopw [10] (fun i wr => ∃ j : Nat, j ≤ 16 ∧ i = .int .i64 j ∧ Below w.heap.size w wr ∧ ∃ A1 c1 C1 d1, Hid (Box wr w.heap.size 26 #[.slice A1 256 c1, .slice C1 16 d1, .int .i64 0]) ∧ Hid (Box wr (w.heap.size + 1) 26 #[.slice none 0 0, .slice none 0 0, .int .i64 0]) ∧ Hid (IntL wr A1 (eraseN zs gs j)) ∧ Hid (BoolL wr C1 gs) ∧ Hid (0 < j → OwnI wr w.heap.size wr.heap.size A1 (eraseN zs gs j) ∧ OwnB wr w.heap.size wr.heap.size C1 gs)) (fun i _ => 16 - (intOf i).toNat)
  case atStart => exact ⟨0, by omega, rfl, hb, A, c, C, d, Lib.hid HX.out.1, Lib.hid HX.out.2, Lib.hid HI.out.1, Lib.hid HI.out.2, Lib.hid (fun h => absurd h (by omega))⟩
  case round =>
    clear HX HW hb HI
    obtain ⟨j, hj, rfl, hbw, A1, c1, C1, d1, X, Y, I, B, O⟩ := hrel
    have x0 := X.out.cell 0 rfl
    have x1 := X.out.cell 1 rfl
    have x2 := X.out.cell 2 rfl
    by_cases hlt : j < 16
    · have HE := Lib.hid (HEr.out j hlt A1 256 c1 C1 16 d1 (eraseN zs gs j) gs wr (by rw [eraseN_len]; exact HL.out.1) HL.out.2 rfl rfl I.out B.out)
      have hi : (j : Int) < 16 := by omega
      clear O I B HEr
      go_wp2_with fail
      refine HE.out.mono ?_
      rintro e w3 ⟨A3, n3, c3, C3, m3, d3, rfl, L3, M3, S3, R3, hb3⟩
      obtain rfl : n3 = 256 := by have := L3.out; rw [eraseL_len, eraseN_len] at this; have := HL.out; omega
      obtain rfl : m3 = 16 := by have := M3.out; have := HL.out; omega
      have X3 := X.out.step hb3
      have s0 := X3.cell 0 rfl
      have s1 := X3.cell 1 rfl
      have s2 := X3.cell 2 rfl
      have s0z := X3.frozen 0
      have s1z := X3.frozen 1
      have s2z := X3.frozen 2
      have HX3 := Lib.hid X3
      have hbs := hbw.size
      have HS : Hid (OwnI (((w3.setCell ⟨w.heap.size, 0, none⟩ (.slice A3 256 c3)).setCell ⟨w.heap.size, 1, none⟩ (.slice C3 16 d3)).setCell ⟨w.heap.size, 2, none⟩ (.int .i64 0)) w.heap.size (((w3.setCell ⟨w.heap.size, 0, none⟩ (.slice A3 256 c3)).setCell ⟨w.heap.size, 1, none⟩ (.slice C3 16 d3)).setCell ⟨w.heap.size, 2, none⟩ (.int .i64 0)).heap.size A3 (eraseN zs gs (j + 1))) := Lib.hid ((S3.out.far3 X3 _ _ _).wideB hbs (by rw [size3]; exact Nat.le_refl _))
      have HR : Hid (OwnB (((w3.setCell ⟨w.heap.size, 0, none⟩ (.slice A3 256 c3)).setCell ⟨w.heap.size, 1, none⟩ (.slice C3 16 d3)).setCell ⟨w.heap.size, 2, none⟩ (.int .i64 0)) w.heap.size (((w3.setCell ⟨w.heap.size, 0, none⟩ (.slice A3 256 c3)).setCell ⟨w.heap.size, 1, none⟩ (.slice C3 16 d3)).setCell ⟨w.heap.size, 2, none⟩ (.int .i64 0)).heap.size C3 gs) := Lib.hid ((R3.out.far3 X3 _ _ _).wide hbs (by rw [size3]; exact Nat.le_refl _))
      have HXn := Lib.hid (X3.flash3 rfl (.slice A3 256 c3) (.slice C3 16 d3) (.int .i64 0))
      have HYn := Lib.hid ((Y.out.step hb3).far3 (show w.heap.size + 1 ≠ w.heap.size by omega) (.slice A3 256 c3) (.slice C3 16 d3) (.int .i64 0))
      have hbn := below3 (bt hbw hb3) (Nat.le_refl _) (.slice A3 256 c3) (.slice C3 16 d3) (.int .i64 0)
      clear X3 X Y x0 x1 x2 S3 R3 L3 M3 hb3 hbw HE
      go_wp2
      go_roundw
      case rel => exact ⟨j + 1, by omega, by go_num, hbn, A3, c3, C3, d3, HXn, HYn, Lib.hid HS.out.reads, Lib.hid HR.out.reads, Lib.hid (fun _ => ⟨HS.out, HR.out⟩)⟩
      case measure => simp [intOf]; omega
    · obtain rfl : j = 16 := by omega
      have s0 := Y.out.cell 0 rfl
      have s1 := Y.out.cell 1 rfl
      have s2 := Y.out.cell 2 rfl
      have s0z := Y.out.frozen 0
      have s1z := Y.out.frozen 1
      have s2z := Y.out.frozen 2
      clear HEr I B
      go_wp2
      refine bodyPost_ret (v := .agg #[.slice A1 256 c1, .slice C1 16 d1, .int .i64 0]) (by simp [results, Try.results117, go_sem, s0, s1, s2]) rfl ?_
      have HO := O.out (by omega)
      exact ⟨_, _, _, _, _, _, rfl, Lib.hid (by rw [eraseN_len]; exact HL.out.1), Lib.hid HL.out.2, Lib.hid ((HO.1.far3 Y.out _ _ _).wideB (Nat.le_refl _) (by rw [size3]; exact Nat.le_refl _)), Lib.hid ((HO.2.far3 Y.out _ _ _).wide (Nat.le_refl _) (by rw [size3]; exact Nat.le_refl _)), below3 hbw (by omega) _ _ _⟩
end Go.Proofs.Ytngoijchebfolaa

/- The model's l03Write, and BusWrite on both sides. -/
namespace Go.Proofs.Ytngoijchebfolaa
open Go.RowKit

theorem ReadsFlash.of_gives {zs : List Int} {gs : List Bool} {st : Int} {w : World} {e : Ending} {w' : World} (h : GivesFlash zs gs st w e w') : ReadsFlash zs gs st w e w' := by
  obtain ⟨A, n, c, C, m, d, e1, L, M, S, R, b⟩ := h
  exact ⟨A, n, c, C, m, d, e1, L, M, Lib.hid S.out.reads, Lib.hid R.out.reads, b⟩
theorem ReadsFlash.of_same {A C : Option Addr} {c d : Nat} {zs : List Int} {gs : List Bool} {st : Int} {w : World} {e : Ending} {w' : World} (h : FlashAt w A C zs gs) (q : e = .returned (.agg #[.slice A 256 c, .slice C 16 d, .int .i64 st]) ∧ Below w.heap.size w w') : ReadsFlash zs gs st w e w' :=
  ⟨A, 256, c, C, 16, d, q.1, Lib.hid h.1.1, Lib.hid h.1.2, Lib.hid (h.2.1.below q.2), Lib.hid (h.2.2.below q.2), q.2⟩
theorem tests (k v : Nat) : Tests k v ((k : Int) == 85) ((v : Int) == 170) ((k : Int) == 42) ((v : Int) == 85) := ⟨rfl, rfl, rfl, rfl⟩

/-- A bus cycle hands back a flash of its own, or the bytes and the protection that it was given, with another state. -/
def WritesFlash (A C : Option Addr) (c d : Nat) (zs : List Int) (gs : List Bool) (zs' : List Int) (gs' : List Bool) (st' : Int) (w : World) (e : Ending) (w' : World) : Prop :=
  GivesFlash zs' gs' st' w e w' ∨ (zs' = zs ∧ gs' = gs ∧ e = .returned (.agg #[.slice A 256 c, .slice C 16 d, .int .i64 st']) ∧ Below w.heap.size w w')

set_option maxRecDepth 100000 in
theorem l03Write0 (A C : Option Addr) (c d k v : Nat) (st : Int) (zs : List Int) (gs : List Bool) (w : World) (hk : k < 256) (hv : v < 256) (hs : 0 ≤ st ∧ st ≤ 8) (hz : ∀ z ∈ zs, 0 ≤ z ∧ z ≤ 255) (h : FlashAt w A C zs gs) :
    Calls Try.prog 117 #[.agg #[.slice A 256 c, .slice C 16 d, .int .i64 st], .int .i64 k, .int .i64 v] w (WritesFlash A C c d zs gs (cycZ zs gs st k v) (cycG gs st k) (nextS st k v) w) := by
  have h9 : st = 0 ∨ st = 1 ∨ st = 2 ∨ st = 3 ∨ st = 4 ∨ st = 5 ∨ st = 6 ∨ st = 7 ∨ st = 8 := by omega
  have plain := fun (st : Int) (s : Int) (hq : (st = 0 ∧ s = if ((k : Int) == 85) && ((v : Int) == 170) then 1 else 0) ∨ (st = 4 ∧ s = if ((k : Int) == 85) && ((v : Int) == 170) then 5 else 0) ∨ (st = 1 ∧ s = if ((k : Int) == 42) && ((v : Int) == 85) then 2 else 0) ∨ (st = 5 ∧ s = if ((k : Int) == 42) && ((v : Int) == 85) then 6 else 0)) => writePlain A C c d k v st s w _ _ _ _ (tests k v) hq
  rcases h9 with rfl | rfl | rfl | rfl | rfl | rfl | rfl | rfl | rfl
  · obtain ⟨e1, e2⟩ := cyc_plain zs gs 0 k v (by omega) (by omega) (by omega)
    rw [e1, e2, nextS_0]
    exact (plain 0 _ (.inl ⟨rfl, rfl⟩)).mono fun _ _ q => .inr ⟨rfl, rfl, q⟩
  · obtain ⟨e1, e2⟩ := cyc_plain zs gs 1 k v (by omega) (by omega) (by omega)
    rw [e1, e2, nextS_1]
    exact (plain 1 _ (.inr (.inr (.inl ⟨rfl, rfl⟩)))).mono fun _ _ q => .inr ⟨rfl, rfl, q⟩
  · obtain ⟨e1, e2⟩ := cyc_plain zs gs 2 k v (by omega) (by omega) (by omega)
    rw [e1, e2, nextS_2]
    exact (writeCmd A C c d k v _ w _ _ _ _ (tests k v) rfl).mono fun _ _ q => .inr ⟨rfl, rfl, q⟩
  · rw [nextS_3, show cycZ zs gs 3 k v = progL zs gs k v from by unfold cycZ; rw [if_pos rfl], show cycG gs 3 k = gs from by unfold cycG; rw [if_neg (by omega)]]
    exact (writeProgram A C c d k v zs gs w _ _ _ _ (tests k v) hk hv hz h).mono fun _ _ q => .inl q
  · obtain ⟨e1, e2⟩ := cyc_plain zs gs 4 k v (by omega) (by omega) (by omega)
    rw [e1, e2, nextS_4]
    exact (plain 4 _ (.inr (.inl ⟨rfl, rfl⟩))).mono fun _ _ q => .inr ⟨rfl, rfl, q⟩
  · obtain ⟨e1, e2⟩ := cyc_plain zs gs 5 k v (by omega) (by omega) (by omega)
    rw [e1, e2, nextS_5]
    exact (plain 5 _ (.inr (.inr (.inr ⟨rfl, rfl⟩)))).mono fun _ _ q => .inr ⟨rfl, rfl, q⟩
  · rw [nextS_6, show cycZ zs gs 6 k v = wipeZ zs gs k v from by unfold cycZ; rw [if_neg (by omega), if_pos rfl], show cycG gs 6 k = gs from by unfold cycG; rw [if_neg (by omega)]]
    by_cases h48 : v = 48
    · subst h48
      rw [show wipeZ zs gs k 48 = eraseL zs gs (k / 16) from by unfold wipeZ; rw [if_neg (by omega), if_pos rfl]]
      exact (writeErase A C c d k zs gs w _ _ _ _ (tests k 48) hk h).mono fun _ _ q => .inl q
    · by_cases h16 : v = 16
      · subst h16
        by_cases h85 : k = 85
        · subst h85
          rw [show wipeZ zs gs 85 16 = eraseN zs gs 16 from by unfold wipeZ; rw [if_pos rfl, if_pos rfl]]
          exact (writeAll A C c d zs gs w h).mono fun _ _ q => .inl q
        · rw [show wipeZ zs gs k 16 = zs from by unfold wipeZ; rw [if_pos rfl, if_neg h85]]
          exact (writeNone A C c d k 16 w _ _ _ _ (tests k 16) (by simp) (.inr ⟨by simp, by simp; omega⟩)).mono fun _ _ q => .inr ⟨rfl, rfl, q⟩
      · rw [show wipeZ zs gs k v = zs from by unfold wipeZ; rw [if_neg h16, if_neg h48]]
        exact (writeNone A C c d k v w _ _ _ _ (tests k v) (by simp; omega) (.inl (by simp; omega))).mono fun _ _ q => .inr ⟨rfl, rfl, q⟩
  · obtain ⟨e1, e2⟩ := cyc_plain zs gs 7 k v (by omega) (by omega) (by omega)
    rw [e1, e2, nextS_7]
    exact (writeAuto A C c d k v w _ _ _ _ _ (tests k v) rfl).mono fun _ _ q => .inr ⟨rfl, rfl, q⟩
  · rw [nextS_8, show cycZ zs gs 8 k v = zs from by unfold cycZ; rw [if_neg (by omega), if_neg (by omega)], show cycG gs 8 k = gs.set (k / 16) true from by unfold cycG; rw [if_pos rfl]]
    exact (writeGuard A C c d k v zs gs w _ _ _ _ (tests k v) hk h).mono fun _ _ q => .inl q

set_option maxRecDepth 100000 in
theorem l03Write (A C : Option Addr) (c d k v : Nat) (st : Int) (zs : List Int) (gs : List Bool) (w : World) (hk : k < 256) (hv : v < 256) (hs : 0 ≤ st ∧ st ≤ 8) (hz : ∀ z ∈ zs, 0 ≤ z ∧ z ≤ 255) (h : FlashAt w A C zs gs) :
    Calls Try.prog 117 #[.agg #[.slice A 256 c, .slice C 16 d, .int .i64 st], .int .i64 k, .int .i64 v] w (ReadsFlash (cycZ zs gs st k v) (cycG gs st k) (nextS st k v) w) := by
  refine (l03Write0 A C c d k v st zs gs w hk hv hs hz h).mono ?_
  rintro e w' (q | ⟨q1, q2, q3⟩)
  · exact .of_gives q
  · rw [q1, q2]; exact .of_same h q3

end Go.Proofs.Ytngoijchebfolaa

/- The model's l05Get, l05Put, l05Own, BusGet and BusPut. Written by gen_busspec.py. -/
namespace Go.Proofs.Ytngoijchebfolaa
open Go.RowKit

section
variable (A0 A1 A2 A3 : Option Addr) (c0 c1 c2 c3 : Nat) (d0 d1 d2 : List Int) (d3 : List Bool) (d4 : Int) (w : World)
set_option maxRecDepth 100000 in
theorem l05Get (k : Nat) (hk : k < 4096) (l0 : d0.length = 256) (l1 : d1.length = 32) (l2 : d2.length = 256) (l3 : d3.length = 16) (h0 : IntL w A0 d0) (h1 : IntL w A1 d1) (h2 : IntL w A2 d2) (h3 : BoolL w A3 d3) :
    Calls Try.prog 94 #[.agg #[.slice A0 256 c0, .slice A1 32 c1, .slice A2 256 c2, .slice A3 16 c3, .int .i64 d4], .int .i64 k] w fun e w' => e = .returned (.int .i64 (getV d0 d1 d2 d3 readV d4 k)) ∧ Below w.heap.size w w' := by
  have hb0 := alloc_below w (.cells #[.slice A0 256 c0, .slice A1 32 c1, .slice A2 256 c2, .slice A3 16 c3, .int .i64 d4] 28)
  have HRe := Lib.hid (fun W => l05Region (k : Int) W (by omega) (by omega))
  have H := Lib.hid (And.intro (And.intro l0 (And.intro l1 (And.intro l2 l3))) (And.intro (h0.below hb0) (And.intro (h1.below hb0) (And.intro (h2.below hb0) (h3.below hb0)))))
  obtain ⟨r, hv⟩ : ∃ r, getV d0 d1 d2 d3 readV d4 k = r := ⟨_, rfl⟩
  rw [hv]
  have HV := Lib.hid hv
  clear l0 l1 l2 l3 h0 h1 h2 h3 hv
  rcases reg_ways k hk with ⟨q1, e1, e2⟩ | ⟨q1, q2, e1, e2⟩ | ⟨q1, q2, e1, e2⟩ | ⟨q1, q2, e1, e2⟩
  · rw [e1, e2] at HRe
    have HE : Hid (r = d0.getD k 0) := Lib.hid (by rw [← HV.out]; unfold getV; rw [e1, e2, if_pos rfl]; rfl)
    clear e1 e2 HV
    obtain ⟨bb, off, rfl, hc⟩ := H.out.2.1 k (by have := H.out.1.1; omega)
    generalize d0.getD k 0 = x at hc HE
    have hi : (k : Int) < 256 := by omega
    go_enter Try.func94, Try.ntmps94
    go_wp2_with fail
    refine (HRe.out _).mono ?_
    rintro e w1 ⟨rfl, rfl⟩
    go_wp2
    go_ret
    exact ⟨ret_int HE.out.symm, hb0⟩
  · rw [e1, e2] at HRe
    have HE : Hid (r = d1.getD (k - 256) 0) := Lib.hid (by rw [← HV.out]; unfold getV; rw [e1, e2, if_neg (by omega), if_pos rfl]; rfl)
    clear e1 e2 HV
    obtain ⟨j, hj⟩ : ∃ j, k - 256 = j := ⟨_, rfl⟩
    rw [hj] at HRe HE
    have hj32 : j < 32 := by omega
    clear hj
    obtain ⟨bb, off, rfl, hc⟩ := H.out.2.2.1 j (by have := H.out.1.2.1; omega)
    generalize d1.getD j 0 = x at hc HE
    have hi : (j : Int) < 32 := by omega
    go_enter Try.func94, Try.ntmps94
    go_wp2_with fail
    refine (HRe.out _).mono ?_
    rintro e w1 ⟨rfl, rfl⟩
    go_wp2
    go_ret
    exact ⟨ret_int HE.out.symm, hb0⟩
  · rw [e1, e2] at HRe
    have HE : Hid (r = readV d2 d3 d4 (k - 512)) := Lib.hid (by rw [← HV.out]; unfold getV; rw [e1, e2, if_neg (by omega), if_neg (by omega), if_pos rfl]; rfl)
    clear e1 e2 HV
    obtain ⟨j, hj⟩ : ∃ j, k - 512 = j := ⟨_, rfl⟩
    rw [hj] at HRe HE
    have hj32 : j ≤ 255 := by omega
    clear hj
    have HM := Lib.hid (l03Read A2 A3 256 c2 c3 j d4 d2 d3 _ H.out.1.2.2.1 rfl H.out.1.2.2.2 hj32 H.out.2.2.2.1 H.out.2.2.2.2)
    go_enter Try.func94, Try.ntmps94
    go_wp2_with fail
    refine (HRe.out _).mono ?_
    rintro e w1 ⟨rfl, rfl⟩
    go_wp2_with fail
    refine HM.out.mono ?_
    rintro e w3 ⟨rfl, hb3⟩
    go_wp2
    go_ret
    exact ⟨ret_int HE.out.symm, bt hb0 hb3⟩
  · rw [e1, e2] at HRe
    have HE : Hid (r = 255) := Lib.hid (by rw [← HV.out]; unfold getV; rw [e1, if_neg (by omega), if_neg (by omega), if_neg (by omega)])
    clear e1 e2 HV H
    go_enter Try.func94, Try.ntmps94
    go_wp2_with fail
    refine (HRe.out _).mono ?_
    rintro e w1 ⟨rfl, rfl⟩
    go_wp2
    go_ret
    exact ⟨ret_int HE.out.symm, hb0⟩

/-- A memory that reads so; its rows may be the argument's. -/
def ReadsMem (r i zs : List Int) (gs : List Bool) (st : Int) (w : World) (e : Ending) (w' : World) : Prop :=
  ∃ A0 A1 A2 A3 c0 c1 c2 c3, e = .returned (.agg #[.slice A0 256 c0, .slice A1 32 c1, .slice A2 256 c2, .slice A3 16 c3, .int .i64 st]) ∧ Hid (IntL w' A0 r ∧ IntL w' A1 i ∧ IntL w' A2 zs ∧ BoolL w' A3 gs) ∧ Below w.heap.size w w'

/-- l03Write's flash, as it reads in a later world. -/
def LaterFlash (zs : List Int) (gs : List Bool) (st : Int) (w W : World) (e : Ending) (w1 : World) : Prop :=
  ∃ A n c C m d, e = .returned (.agg #[.slice A n c, .slice C m d, .int .i64 st]) ∧ Hid (zs.length = n) ∧ Hid (gs.length = m) ∧ Hid (∀ W', Below w.heap.size w W' → (∀ (lo hi : Nat), (∀ D ds, OwnI w1 lo hi D ds → OwnI W' lo hi D ds) ∧ (∀ D ds, OwnB w1 lo hi D ds → OwnB W' lo hi D ds)) → IntL W' A zs ∧ BoolL W' C gs) ∧ Below W.heap.size W w1
set_option maxRecDepth 100000 in
theorem l03WriteM (A C : Option Addr) (c d k v : Nat) (st : Int) (zs : List Int) (gs : List Bool) (w0 W : World) (hk : k < 256) (hv : v < 256) (hs : 0 ≤ st ∧ st ≤ 8) (hz : ∀ z ∈ zs, 0 ≤ z ∧ z ≤ 255) (h : FlashAt W A C zs gs) (h2 : IntL w0 A zs) (h3 : BoolL w0 C gs) (_hb : Below w0.heap.size w0 W) :
    Calls Try.prog 117 #[.agg #[.slice A 256 c, .slice C 16 d, .int .i64 st], .int .i64 k, .int .i64 v] W (LaterFlash (cycZ zs gs st k v) (cycG gs st k) (nextS st k v) w0 W) := by
  refine (l03Write0 A C c d k v st zs gs W hk hv hs hz h).mono ?_
  rintro e w' (⟨A', n, c', C', m, d', rfl, L, M, S, Q, k⟩ | ⟨q1, q2, rfl, q4⟩)
  · exact ⟨A', n, c', C', m, d', rfl, L, M, Lib.hid (fun W' _ q => ⟨((q _ _).1 _ _ S.out).reads, ((q _ _).2 _ _ Q.out).reads⟩), k⟩
  · rw [q1, q2]
    exact ⟨A, 256, c, C, 16, d, rfl, Lib.hid h.1.1, Lib.hid h.1.2, Lib.hid (fun W' f _ => ⟨h2.below f, h3.below f⟩), q4⟩

set_option maxRecDepth 100000 in
set_option maxHeartbeats 4000000 in
theorem l05Put (k v : Nat) (hk : k < 4096) (hv : v < 256) (l0 : d0.length = 256) (l1 : d1.length = 32) (l2 : d2.length = 256) (l3 : d3.length = 16) (hs : 0 ≤ d4 ∧ d4 ≤ 8) (hz : ∀ z ∈ d2, 0 ≤ z ∧ z ≤ 255) (h0 : IntL w A0 d0) (h1 : IntL w A1 d1) (h2 : IntL w A2 d2) (h3 : BoolL w A3 d3) :
    Calls Try.prog 93 #[.agg #[.slice A0 256 c0, .slice A1 32 c1, .slice A2 256 c2, .slice A3 16 c3, .int .i64 d4], .int .i64 k, .int .i64 v] w (ReadsMem (putR d0 k v) (putI d1 k v) (putZ d2 d3 d4 k v) (putG d3 d4 k) (putS d4 k v) w) := by
  obtain ⟨W0, hW0⟩ : ∃ W0, W0 = ((w.alloc (.cells #[.slice A0 256 c0, .slice A1 32 c1, .slice A2 256 c2, .slice A3 16 c3, .int .i64 d4] 28)).alloc (.cells #[.slice none 0 0, .slice none 0 0, .slice none 0 0, .slice none 0 0, .int .i64 0] 28)) := ⟨_, rfl⟩
  have hb0 : Below w.heap.size w W0 := by rw [hW0]; exact bt (alloc_below _ _) (alloc_below _ _)
  have X0 : Hid (Box W0 w.heap.size 28 #[.slice A0 256 c0, .slice A1 32 c1, .slice A2 256 c2, .slice A3 16 c3, .int .i64 d4]) := Lib.hid (by rw [hW0]; exact (Box.new _ _ _).alloc _)
  have Y0 : Hid (Box W0 (w.heap.size + 1) 28 #[.slice none 0 0, .slice none 0 0, .slice none 0 0, .slice none 0 0, .int .i64 0]) := Lib.hid (by rw [hW0]; simpa using Box.new (w.alloc (.cells #[.slice A0 256 c0, .slice A1 32 c1, .slice A2 256 c2, .slice A3 16 c3, .int .i64 d4] 28)) 28 #[.slice none 0 0, .slice none 0 0, .slice none 0 0, .slice none 0 0, .int .i64 0])
  have HRe := Lib.hid (fun W => l05Region (k : Int) W (by omega) (by omega))
  have H := Lib.hid (And.intro (And.intro l0 (And.intro l1 (And.intro l2 l3))) (And.intro h0 (And.intro h1 (And.intro h2 h3))))
  have HSt := Lib.hid (And.intro hs hz)
  have HW0 := Lib.hid hW0
  clear l0 l1 l2 l3 h0 h1 h2 h3 hs hz hW0
  rcases reg_ways k hk with ⟨q1, e1, e2⟩ | ⟨q1, q2, e1, e2⟩ | ⟨q1, q2, e1, e2⟩ | ⟨q1, q2, e1, e2⟩
  · rw [show putR d0 k v = d0.set k v from by unfold putR; rw [if_pos e1, e2]; rfl, show putI d1 k v = d1 from by unfold putI; rw [if_neg (by rw [e1]; omega)], show putZ d2 d3 d4 k v = d2 from by unfold putZ; rw [if_neg (by rw [e1]; omega)], show putG d3 d4 k = d3 from by unfold putG; rw [if_neg (by rw [e1]; omega)], show putS d4 k v = d4 from by unfold putS; rw [if_neg (by rw [e1]; omega)]]
    rw [e1, e2] at HRe
    clear e1 e2
    have hi : (k : Int) < 256 := by omega
    have HS := Lib.hid (fun W (hb : Below w.heap.size w W) => (H.out.2.1.below hb).src (by have := H.out.1.1; omega))
    have HC : Hid ((cellsI d0).length = 256 * 1) := Lib.hid (by rw [cellsI_len]; have := H.out.1.1; omega)
    have hba := bt hb0 (alloc_below W0 (.cells #[] 3))
    have x0 : (W0.alloc (.cells #[] 3)).cell? ⟨w.heap.size, 0, none⟩ = some (.slice A0 256 c0) := (X0.out.alloc _).cell 0 rfl
    go_enter Try.func93, Try.ntmps93
    go_wp2_with fail
    rw [← HW0.out]
    refine (HRe.out _).mono ?_
    rintro e w1 ⟨rfl, rfl⟩
    go_wp2_with (first | (with_reducible refine wpList_app_fresh rfl (.tmp 17) (.tmp 19) 23 rfl 3 (.int .i64 0) 1 8 Try.underlying23 infoIx rfl (by decide) _ rfl A0 256 c0 (by omega) (cellsI d0) rfl HC.out (HS.out _ hba) (by unfold maxLen; omega) (by omega) ?_))
    intro B e w1 hb1 O1
    have hk1 := (alloc_below W0 (.cells #[] 3)).trans (hb1.mono (by omega))
    have X1 := X0.out.step hk1
    have Y1 := Y0.out.step hk1
    have S1 := ownI_fresh (lo := w.heap.size) O1.out (by omega) (by have := hb0.size; omega)
    obtain ⟨w2, hw2⟩ : ∃ w2, w2 = w1.setCell ⟨w.heap.size, 0, none⟩ (.slice B 256 e) := ⟨_, rfl⟩
    have X2 : Box w2 w.heap.size 28 #[.slice B 256 e, .slice A1 32 c1, .slice A2 256 c2, .slice A3 16 c3, .int .i64 d4] := by rw [hw2]; exact X1.set 0 _
    have Y2 : Box w2 (w.heap.size + 1) 28 #[.slice none 0 0, .slice none 0 0, .slice none 0 0, .slice none 0 0, .int .i64 0] := by rw [hw2]; exact Y1.far (p := ⟨w.heap.size, 0, none⟩) (by show w.heap.size + 1 ≠ w.heap.size; omega) _
    have S2 : OwnI w2 w.heap.size w1.heap.size B d0 := by rw [hw2]; exact S1.farB X1 (by decide) 0 _
    have hb2 : Below w.heap.size w w2 := by rw [hw2]; exact (bt hb0 hk1).setCell (Nat.le_refl _) _
    obtain ⟨ba, ma, fa, rfl, hca, hfa, hlo, hhi, hra, hput⟩ := S2.put k (by have := H.out.1.1; omega)
    have k0 := X1.cell 0 rfl
    have k0z := X1.frozen 0
    have m0 := X2.cell 0 rfl
    generalize (d0).getD k 0 = y at hca
    have X3 := X2.other hra (by decide) k (.int .i64 v)
    have Y3 := Y2.other hra (by decide) k (.int .i64 v)
    have hb3 : Below w.heap.size w (w2.setCell ⟨ba, k, none⟩ (.int .i64 v)) := hb2.setCell (p := ⟨ba, k, none⟩) hlo _
    have HR3 := Lib.hid (hput v)
    have HY3 := Lib.hid (And.intro Y3 hb3)
    have x0 := X3.cell 0 rfl
    have x1 := X3.cell 1 rfl
    have x2 := X3.cell 2 rfl
    have x3 := X3.cell 3 rfl
    have x4 := X3.cell 4 rfl
    have s0 := Y3.cell 0 rfl
    have s1 := Y3.cell 1 rfl
    have s2 := Y3.cell 2 rfl
    have s3 := Y3.cell 3 rfl
    have s4 := Y3.cell 4 rfl
    have s0z := Y3.frozen 0
    have s1z := Y3.frozen 1
    have s2z := Y3.frozen 2
    have s3z := Y3.frozen 3
    have s4z := Y3.frozen 4
    have HW2 := Lib.hid hw2
    rw [hw2] at hca hfa m0 x0 x1 x2 x3 x4 s0 s1 s2 s3 s4 s0z s1z s2z s3z s4z
    clear hw2 hk1 X1 Y1 S1 X2 Y2 S2 X3 Y3 hput hra hb3 hb2 hlo hhi O1 hba HS HC hb1
    go_wp2
    refine bodyPost_ret (v := .agg #[.slice (some ⟨ba, 0, none⟩) 256 e, .slice A1 32 c1, .slice A2 256 c2, .slice A3 16 c3, .int .i64 d4]) (by simp [results, Try.results93, go_sem, s0, s1, s2, s3, s4]) rfl ?_
    rw [← HW2.out]
    exact have f := below5 HY3.out.2 (by omega) _ _ _ _ _; ⟨_, A1, A2, A3, e, c1, c2, c3, rfl, Lib.hid ⟨(HR3.out.far5 HY3.out.1 _ _ _ _ _).reads, H.out.2.2.1.below f, H.out.2.2.2.1.below f, H.out.2.2.2.2.below f⟩, f⟩
  · obtain ⟨j, hj⟩ : ∃ j, k - 256 = j := ⟨_, rfl⟩
    rw [hj] at e2
    have hj32 : j < 32 := by omega
    by_cases hj0 : 0 < j
    · rw [show putI d1 k v = d1.set j v from by unfold putI; rw [if_pos ⟨e1, by rw [e2]; omega⟩, e2]; rfl, show putR d0 k v = d0 from by unfold putR; rw [if_neg (by rw [e1]; omega)], show putZ d2 d3 d4 k v = d2 from by unfold putZ; rw [if_neg (by rw [e1]; omega)], show putG d3 d4 k = d3 from by unfold putG; rw [if_neg (by rw [e1]; omega)], show putS d4 k v = d4 from by unfold putS; rw [if_neg (by rw [e1]; omega)]]
      rw [e1, e2] at HRe
      clear e1 e2 hj
      have hi : (j : Int) < 32 := by omega
      have hjp : (0 : Int) < (j : Int) := by omega
      have HS := Lib.hid (fun W (hb : Below w.heap.size w W) => (H.out.2.2.1.below hb).src (by have := H.out.1.2.1; omega))
      have HC : Hid ((cellsI d1).length = 32 * 1) := Lib.hid (by rw [cellsI_len]; have := H.out.1.2.1; omega)
      have hba := bt hb0 (alloc_below W0 (.cells #[] 3))
      have x1 : (W0.alloc (.cells #[] 3)).cell? ⟨w.heap.size, 1, none⟩ = some (.slice A1 32 c1) := (X0.out.alloc _).cell 1 rfl
      go_enter Try.func93, Try.ntmps93
      go_wp2_with fail
      rw [← HW0.out]
      refine (HRe.out _).mono ?_
      rintro e w1 ⟨rfl, rfl⟩
      go_wp2_with (first | (with_reducible refine wpList_app_fresh rfl (.tmp 34) (.tmp 36) 23 rfl 3 (.int .i64 0) 1 8 Try.underlying23 infoIx rfl (by decide) _ rfl A1 32 c1 (by omega) (cellsI d1) rfl HC.out (HS.out _ hba) (by unfold maxLen; omega) (by omega) ?_))
      intro B e w1 hb1 O1
      have hk1 := (alloc_below W0 (.cells #[] 3)).trans (hb1.mono (by omega))
      have X1 := X0.out.step hk1
      have Y1 := Y0.out.step hk1
      have S1 := ownI_fresh (lo := w.heap.size) O1.out (by omega) (by have := hb0.size; omega)
      obtain ⟨w2, hw2⟩ : ∃ w2, w2 = w1.setCell ⟨w.heap.size, 1, none⟩ (.slice B 32 e) := ⟨_, rfl⟩
      have X2 : Box w2 w.heap.size 28 #[.slice A0 256 c0, .slice B 32 e, .slice A2 256 c2, .slice A3 16 c3, .int .i64 d4] := by rw [hw2]; exact X1.set 1 _
      have Y2 : Box w2 (w.heap.size + 1) 28 #[.slice none 0 0, .slice none 0 0, .slice none 0 0, .slice none 0 0, .int .i64 0] := by rw [hw2]; exact Y1.far (p := ⟨w.heap.size, 1, none⟩) (by show w.heap.size + 1 ≠ w.heap.size; omega) _
      have S2 : OwnI w2 w.heap.size w1.heap.size B d1 := by rw [hw2]; exact S1.farB X1 (by decide) 1 _
      have hb2 : Below w.heap.size w w2 := by rw [hw2]; exact (bt hb0 hk1).setCell (Nat.le_refl _) _
      obtain ⟨ba, ma, fa, rfl, hca, hfa, hlo, hhi, hra, hput⟩ := S2.put j (by have := H.out.1.2.1; omega)
      have k0 := X1.cell 1 rfl
      have k0z := X1.frozen 1
      have m0 := X2.cell 1 rfl
      generalize (d1).getD j 0 = y at hca
      have X3 := X2.other hra (by decide) j (.int .i64 v)
      have Y3 := Y2.other hra (by decide) j (.int .i64 v)
      have hb3 : Below w.heap.size w (w2.setCell ⟨ba, j, none⟩ (.int .i64 v)) := hb2.setCell (p := ⟨ba, j, none⟩) hlo _
      have HR3 := Lib.hid (hput v)
      have HY3 := Lib.hid (And.intro Y3 hb3)
      have x0 := X3.cell 0 rfl
      have x1 := X3.cell 1 rfl
      have x2 := X3.cell 2 rfl
      have x3 := X3.cell 3 rfl
      have x4 := X3.cell 4 rfl
      have s0 := Y3.cell 0 rfl
      have s1 := Y3.cell 1 rfl
      have s2 := Y3.cell 2 rfl
      have s3 := Y3.cell 3 rfl
      have s4 := Y3.cell 4 rfl
      have s0z := Y3.frozen 0
      have s1z := Y3.frozen 1
      have s2z := Y3.frozen 2
      have s3z := Y3.frozen 3
      have s4z := Y3.frozen 4
      have HW2 := Lib.hid hw2
      rw [hw2] at hca hfa m0 x0 x1 x2 x3 x4 s0 s1 s2 s3 s4 s0z s1z s2z s3z s4z
      clear hw2 hk1 X1 Y1 S1 X2 Y2 S2 X3 Y3 hput hra hb3 hb2 hlo hhi O1 hba HS HC hb1
      go_wp2
      refine bodyPost_ret (v := .agg #[.slice A0 256 c0, .slice (some ⟨ba, 0, none⟩) 32 e, .slice A2 256 c2, .slice A3 16 c3, .int .i64 d4]) (by simp [results, Try.results93, go_sem, s0, s1, s2, s3, s4]) rfl ?_
      rw [← HW2.out]
      exact have f := below5 HY3.out.2 (by omega) _ _ _ _ _; ⟨A0, _, A2, A3, c0, e, c2, c3, rfl, Lib.hid ⟨H.out.2.1.below f, (HR3.out.far5 HY3.out.1 _ _ _ _ _).reads, H.out.2.2.2.1.below f, H.out.2.2.2.2.below f⟩, f⟩
    · obtain rfl : j = 0 := by omega
      rw [show putI d1 k v = d1 from by unfold putI; rw [if_neg (by rw [e2]; omega)], show putR d0 k v = d0 from by unfold putR; rw [if_neg (by rw [e1]; omega)], show putZ d2 d3 d4 k v = d2 from by unfold putZ; rw [if_neg (by rw [e1]; omega)], show putG d3 d4 k = d3 from by unfold putG; rw [if_neg (by rw [e1]; omega)], show putS d4 k v = d4 from by unfold putS; rw [if_neg (by rw [e1]; omega)]]
      rw [e1, e2] at HRe
      clear e1 e2 hj hj0
      have x0 := X0.out.cell 0 rfl
      have x1 := X0.out.cell 1 rfl
      have x2 := X0.out.cell 2 rfl
      have x3 := X0.out.cell 3 rfl
      have x4 := X0.out.cell 4 rfl
      have s0 := Y0.out.cell 0 rfl
      have s1 := Y0.out.cell 1 rfl
      have s2 := Y0.out.cell 2 rfl
      have s3 := Y0.out.cell 3 rfl
      have s4 := Y0.out.cell 4 rfl
      have s0z := Y0.out.frozen 0
      have s1z := Y0.out.frozen 1
      have s2z := Y0.out.frozen 2
      have s3z := Y0.out.frozen 3
      have s4z := Y0.out.frozen 4
      go_enter Try.func93, Try.ntmps93
      go_wp2_with fail
      rw [← HW0.out]
      refine (HRe.out _).mono ?_
      rintro e w1 ⟨rfl, rfl⟩
      go_wp2
      refine bodyPost_ret (v := .agg #[.slice A0 256 c0, .slice A1 32 c1, .slice A2 256 c2, .slice A3 16 c3, .int .i64 d4]) (by simp [results, Try.results93, go_sem, s0, s1, s2, s3, s4]) rfl ?_
      exact have f := below5 hb0 (by omega) _ _ _ _ _; ⟨A0, A1, A2, A3, c0, c1, c2, c3, rfl, Lib.hid ⟨H.out.2.1.below f, H.out.2.2.1.below f, H.out.2.2.2.1.below f, H.out.2.2.2.2.below f⟩, f⟩
  · obtain ⟨j, hj⟩ : ∃ j, k - 512 = j := ⟨_, rfl⟩
    rw [hj] at e2
    have hj32 : j < 256 := by omega
    rw [show putZ d2 d3 d4 k v = cycZ d2 d3 d4 j v from by unfold putZ; rw [if_pos e1, e2]; rfl, show putG d3 d4 k = cycG d3 d4 j from by unfold putG; rw [if_pos e1, e2]; rfl, show putS d4 k v = nextS d4 j v from by unfold putS; rw [if_pos e1, e2], show putR d0 k v = d0 from by unfold putR; rw [if_neg (by rw [e1]; omega)], show putI d1 k v = d1 from by unfold putI; rw [if_neg (by rw [e1]; omega)]]
    rw [e1, e2] at HRe
    clear e1 e2 hj
    have HM := Lib.hid (l03WriteM A2 A3 c2 c3 j v d4 d2 d3 w W0 hj32 hv HSt.out.1 HSt.out.2 ⟨⟨H.out.1.2.2.1, H.out.1.2.2.2⟩, H.out.2.2.2.1.below hb0, H.out.2.2.2.2.below hb0⟩ H.out.2.2.2.1 H.out.2.2.2.2 hb0)
    have HLn : Hid ((cycZ d2 d3 d4 j v).length = 256 ∧ (cycG d3 d4 j).length = 16) := Lib.hid ⟨by rw [cycZ_len]; exact H.out.1.2.2.1, by rw [cycG_len]; exact H.out.1.2.2.2⟩
    generalize cycZ d2 d3 d4 j v = r2 at HM HLn ⊢
    generalize cycG d3 d4 j = r3 at HM HLn ⊢
    generalize nextS d4 j v = r4 at HM ⊢
    have x2 := X0.out.cell 2 rfl
    have x3 := X0.out.cell 3 rfl
    have x4 := X0.out.cell 4 rfl
    go_enter Try.func93, Try.ntmps93
    go_wp2_with fail
    rw [← HW0.out]
    refine (HRe.out _).mono ?_
    rintro e w1 ⟨rfl, rfl⟩
    go_wp2_with fail
    refine HM.out.mono ?_
    rintro e w1 ⟨A, n, c, C, m, d, rfl, L, M, S, hb1⟩
    obtain rfl : n = 256 := by have := L.out; have := HLn.out.1; omega
    obtain rfl : m = 16 := by have := M.out; have := HLn.out.2; omega
    have X1 := X0.out.step hb1
    have Y1 := Y0.out.step hb1
    have k2 := X1.cell 2 rfl
    have k3 := X1.cell 3 rfl
    have k4 := X1.cell 4 rfl
    have k2z := X1.frozen 2
    have k3z := X1.frozen 3
    have k4z := X1.frozen 4
    have X2 := ((X1.set 2 (.slice A 256 c)).set 3 (.slice C 16 d)).set 4 (.int .i64 r4)
    have Y2 := ((Y1.far (p := ⟨w.heap.size, 2, none⟩) (by show w.heap.size + 1 ≠ w.heap.size; omega) (.slice A 256 c)).far (p := ⟨w.heap.size, 3, none⟩) (by show w.heap.size + 1 ≠ w.heap.size; omega) (.slice C 16 d)).far (p := ⟨w.heap.size, 4, none⟩) (by show w.heap.size + 1 ≠ w.heap.size; omega) (.int .i64 r4)
    have hb2 : Below w.heap.size w (((w1.setCell ⟨w.heap.size, 2, none⟩ (.slice A 256 c)).setCell ⟨w.heap.size, 3, none⟩ (.slice C 16 d)).setCell ⟨w.heap.size, 4, none⟩ (.int .i64 r4)) := (((bt hb0 hb1).setCell (p := ⟨w.heap.size, 2, none⟩) (Nat.le_refl _) _).setCell (p := ⟨w.heap.size, 3, none⟩) (Nat.le_refl _) _).setCell (p := ⟨w.heap.size, 4, none⟩) (Nat.le_refl _) _
    have HRd := Lib.hid (fun W' (f : Below w.heap.size w W') (q : ∀ (lo hi : Nat), (∀ D ds, OwnI w1 lo hi D ds → OwnI W' lo hi D ds) ∧ (∀ D ds, OwnB w1 lo hi D ds → OwnB W' lo hi D ds)) => S.out W' f q)
    have HX1 := Lib.hid X1
    have x0 := X2.cell 0 rfl
    have x1 := X2.cell 1 rfl
    have x2' := X2.cell 2 rfl
    have x3' := X2.cell 3 rfl
    have x4' := X2.cell 4 rfl
    have s0 := Y2.cell 0 rfl
    have s1 := Y2.cell 1 rfl
    have s2 := Y2.cell 2 rfl
    have s3 := Y2.cell 3 rfl
    have s4 := Y2.cell 4 rfl
    have s0z := Y2.frozen 0
    have s1z := Y2.frozen 1
    have s2z := Y2.frozen 2
    have s3z := Y2.frozen 3
    have s4z := Y2.frozen 4
    have HY2 := Lib.hid (And.intro Y2 hb2)
    clear X1 Y1 X2 Y2 hb2 hb1 S L M HM x2 x3 x4 X0 Y0
    go_wp2
    refine bodyPost_ret (v := .agg #[.slice A0 256 c0, .slice A1 32 c1, .slice A 256 c, .slice C 16 d, .int .i64 r4]) (by simp [results, Try.results93, go_sem, s0, s1, s2, s3, s4]) rfl ?_
    exact have f := below5 HY2.out.2 (by omega) _ _ _ _ _; have q := HRd.out _ f (fun lo hi => ⟨fun D ds O => (((O.farB HX1.out (by decide) 2 _).farB (HX1.out.set 2 _) (by decide) 3 _).farB ((HX1.out.set 2 _).set 3 _) (by decide) 4 _).far5 HY2.out.1 _ _ _ _ _, fun D ds O => (((O.far HX1.out (by decide) 2 _).far (HX1.out.set 2 _) (by decide) 3 _).far ((HX1.out.set 2 _).set 3 _) (by decide) 4 _).far5 HY2.out.1 _ _ _ _ _⟩); ⟨A0, A1, A, C, c0, c1, c, d, rfl, Lib.hid ⟨H.out.2.1.below f, H.out.2.2.1.below f, q.1, q.2⟩, f⟩
  · rw [show putR d0 k v = d0 from by unfold putR; rw [if_neg (by rw [e1]; omega)], show putI d1 k v = d1 from by unfold putI; rw [if_neg (by rw [e1]; omega)], show putZ d2 d3 d4 k v = d2 from by unfold putZ; rw [if_neg (by rw [e1]; omega)], show putG d3 d4 k = d3 from by unfold putG; rw [if_neg (by rw [e1]; omega)], show putS d4 k v = d4 from by unfold putS; rw [if_neg (by rw [e1]; omega)]]
    rw [e1, e2] at HRe
    clear e1 e2
    have x0 := X0.out.cell 0 rfl
    have x1 := X0.out.cell 1 rfl
    have x2 := X0.out.cell 2 rfl
    have x3 := X0.out.cell 3 rfl
    have x4 := X0.out.cell 4 rfl
    have s0 := Y0.out.cell 0 rfl
    have s1 := Y0.out.cell 1 rfl
    have s2 := Y0.out.cell 2 rfl
    have s3 := Y0.out.cell 3 rfl
    have s4 := Y0.out.cell 4 rfl
    have s0z := Y0.out.frozen 0
    have s1z := Y0.out.frozen 1
    have s2z := Y0.out.frozen 2
    have s3z := Y0.out.frozen 3
    have s4z := Y0.out.frozen 4
    go_enter Try.func93, Try.ntmps93
    go_wp2_with fail
    rw [← HW0.out]
    refine (HRe.out _).mono ?_
    rintro e w1 ⟨rfl, rfl⟩
    go_wp2
    refine bodyPost_ret (v := .agg #[.slice A0 256 c0, .slice A1 32 c1, .slice A2 256 c2, .slice A3 16 c3, .int .i64 d4]) (by simp [results, Try.results93, go_sem, s0, s1, s2, s3, s4]) rfl ?_
    exact have f := below5 hb0 (by omega) _ _ _ _ _; ⟨A0, A1, A2, A3, c0, c1, c2, c3, rfl, Lib.hid ⟨H.out.2.1.below f, H.out.2.2.1.below f, H.out.2.2.2.1.below f, H.out.2.2.2.2.below f⟩, f⟩
end
end Go.Proofs.Ytngoijchebfolaa

/- The model's l05Own; BusGet and BusPut of the model. Written by gen_memown.py. -/
namespace Go.Proofs.Ytngoijchebfolaa
open Go.RowKit

theorem wp_app_fresh {P : Program} {o : Oper} {a : Act} {w : World} {K : Act → World → Prop} {Q : Exit → Act → World → Prop}
    (s x : Operand) (t : TypeId) (hop : o.op = Op.call { callee := Callee.builtin Builtin.append, args := #[s, x], argTypes := #[t, t] })
    (e : TypeId) (z : Value) (size bytes : Nat) (ht : P.underlying t = some (.slice e)) (hi : ∃ i : TypeInfo, P.info? e = some i ∧ i.zero = some z ∧ i.size = size ∧ i.bytes = bytes) (hzs : z.cells.size = size) (hsz : 0 < size) (b : Addr) (hs : a.eval s = .slice (some b) 0 0)
    (A : Option Addr) (m c : Nat) (hm : 0 < m) (news : List Value) (hx : a.eval x = .slice A m c) (hl : news.length = m * size) (hsrc : ∃ ad, A = some ad ∧ ∀ j u, news[j]? = some u → w.cell? (ad.add j) = some u)
    (h63 : m ≤ maxLen) (hbytes : m * bytes ≤ 140737488355328)
    (h : ∀ A' cap w', Below w.heap.size w w' → Hid (w'.ownsRow w.heap.size e size (.slice A' m cap) m news) → K (a.put o.dst (.slice A' m cap)) w') : Oper.wp P o a w K Q := by
  obtain ⟨i, hi, hz, hsize, hby⟩ := hi
  obtain ⟨A', cap, w', hr, h2, h3⟩ := run_app_fresh (P := P) w t o.type e i z size bytes ht hi hz hsize hby hzs hsz b A m c hm news hl hsrc h63 hbytes
  unfold Oper.wp execOp
  simp only [hop, resolve, invoke, builtin, Sem.run_bind, Sem.run_pure, Result.andThen_ok, List.map_toArray, List.map_cons, List.map_nil, hs, hx, hr]
  exact h A' cap w' h2 (Lib.hid h3)

theorem arr15 (T : Array Value) (h : T.size = 15) : ∃ t0 t1 t2 t3 t4 t5 t6 t7 t8 t9 t10 t11 t12 t13 t14 : Value, T = #[t0, t1, t2, t3, t4, t5, t6, t7, t8, t9, t10, t11, t12, t13, t14] := by
  obtain ⟨l⟩ := T
  match l, h with
  | [t0, t1, t2, t3, t4, t5, t6, t7, t8, t9, t10, t11, t12, t13, t14], _ => exact ⟨t0, t1, t2, t3, t4, t5, t6, t7, t8, t9, t10, t11, t12, t13, t14, rfl⟩

/-- A memory of the call's own, of a valid memory's lengths. -/
def GivesMem (r i zs : List Int) (gs : List Bool) (st : Int) (w : World) (e : Ending) (w' : World) : Prop :=
  ∃ A0 A1 A2 A3 c0 c1 c2 c3, e = .returned (.agg #[.slice A0 256 c0, .slice A1 32 c1, .slice A2 256 c2, .slice A3 16 c3, .int .i64 st]) ∧ Hid (OwnA w' w.heap.size w'.heap.size [.slice A0 256 c0, .slice A1 32 c1, .slice A2 256 c2, .slice A3 16 c3] [.I r, .I i, .I zs, .B gs]) ∧ Below w.heap.size w w'
def ownF (M : Nat) (s0 s1 fl : Value) (d0 d1 d2 : List Int) (d3 : List Bool) (st : Int) : Nat → (Nat → Value) → World → Prop
  | 0, t, _ => ∃ b, t 3 = .slice (some b) 0 0
  | 1, t, _ => t 4 = .pointer (some ⟨M, 0, none⟩)
  | 2, t, _ => t 5 = s0
  | 3, t, w => ∃ A c, t 6 = .slice A 256 c ∧ OwnI w M w.heap.size A d0
  | 4, t, _ => ∃ b, t 7 = .slice (some b) 0 0
  | 5, t, _ => t 8 = .pointer (some ⟨M, 1, none⟩)
  | 6, t, _ => t 9 = s1
  | 7, t, w => ∃ g A c A' c', t 6 = .slice A 256 c ∧ t 10 = .slice A' 32 c' ∧ OwnI w M g A d0 ∧ OwnI w g w.heap.size A' d1 ∧ M ≤ g ∧ g ≤ w.heap.size
  | 8, t, _ => t 11 = .pointer (some ⟨M, 2, none⟩)
  | 9, t, _ => t 12 = fl
  | 10, t, w => ∃ g h A c A' c' B e C f, t 6 = .slice A 256 c ∧ t 10 = .slice A' 32 c' ∧ t 13 = .agg #[.slice B 256 e, .slice C 16 f, .int .i64 st] ∧ OwnI w M g A d0 ∧ OwnI w g h A' d1 ∧ OwnI w h w.heap.size B d2 ∧ OwnB w h w.heap.size C d3 ∧ M ≤ g ∧ g ≤ h ∧ h ≤ w.heap.size
  | 11, t, _ => ∃ A c A' c' B e C f, t 6 = .slice A 256 c ∧ t 10 = .slice A' 32 c' ∧ t 13 = .agg #[.slice B 256 e, .slice C 16 f, .int .i64 st] ∧ t 14 = .agg #[.slice A 256 c, .slice A' 32 c', .slice B 256 e, .slice C 16 f, .int .i64 st]
  | 12, t, w => ∃ A c A' c' B e C f, t 6 = .slice A 256 c ∧ t 10 = .slice A' 32 c' ∧ t 13 = .agg #[.slice B 256 e, .slice C 16 f, .int .i64 st] ∧ Box w (M + 1) 28 #[.slice A 256 c, .slice A' 32 c', .slice B 256 e, .slice C 16 f, .int .i64 st]
  | _, _, _ => True
section
variable {M : Nat} {s0 s1 fl : Value} {d0 d1 d2 : List Int} {d3 : List Bool} {st : Int} {w w' : World}
theorem ownF_below (k : Below w.heap.size w w') : ∀ (j : Nat) (t : Nat → Value), ownF M s0 s1 fl d0 d1 d2 d3 st j t w → ownF M s0 s1 fl d0 d1 d2 d3 st j t w'
  | 0, _, h | 1, _, h | 2, _, h | 4, _, h | 5, _, h | 6, _, h | 8, _, h | 9, _, h | 11, _, h => h
  | 3, _, ⟨A, c, e, h⟩ => ⟨A, c, e, (h.below k).wideB (Nat.le_refl _) k.size⟩
  | 7, _, ⟨g, A, c, A', c', e, e2, h, h2, q, q2⟩ => ⟨g, A, c, A', c', e, e2, h.below k, (h2.below k).wideB (Nat.le_refl _) k.size, q, Nat.le_trans q2 k.size⟩
  | 10, _, ⟨g, h, A, c, A', c', B, e, C, f, e1, e2, e3, h1, h2, h3, h4, q, q2, q3⟩ => ⟨g, h, A, c, A', c', B, e, C, f, e1, e2, e3, h1.below k, h2.below k, (h3.below k).wideB (Nat.le_refl _) k.size, (h4.below k).wide (Nat.le_refl _) k.size, q, q2, Nat.le_trans q3 k.size⟩
  | 12, _, ⟨A, c, A', c', B, e, C, f, e1, e2, e3, h⟩ => ⟨A, c, A', c', B, e, C, f, e1, e2, e3, h.step k⟩
  | _ + 13, _, _ => trivial
theorem ownF_store {ys : Array Value} (Y : Box w (M + 1) 28 ys) (i : Nat) (u : Value) : ∀ (j : Nat) (t : Nat → Value), j ≠ 12 → ownF M s0 s1 fl d0 d1 d2 d3 st j t w → ownF M s0 s1 fl d0 d1 d2 d3 st j t (w.setCell ⟨M + 1, i, none⟩ u)
  | 0, _, _, h | 1, _, _, h | 2, _, _, h | 4, _, _, h | 5, _, _, h | 6, _, _, h | 8, _, _, h | 9, _, _, h | 11, _, _, h => h
  | 3, _, _, ⟨A, c, e, h⟩ => ⟨A, c, e, (h.farB Y (by decide) i u).wideB (Nat.le_refl _) (by simp [World.setCell])⟩
  | 7, _, _, ⟨g, A, c, A', c', e, e2, h, h2, q, q2⟩ => ⟨g, A, c, A', c', e, e2, h.farB Y (by decide) i u, (h2.farB Y (by decide) i u).wideB (Nat.le_refl _) (by simp [World.setCell]), q, by simpa [World.setCell] using q2⟩
  | 10, _, _, ⟨g, h, A, c, A', c', B, e, C, f, e1, e2, e3, h1, h2, h3, h4, q, q2, q3⟩ => ⟨g, h, A, c, A', c', B, e, C, f, e1, e2, e3, h1.farB Y (by decide) i u, h2.farB Y (by decide) i u, (h3.farB Y (by decide) i u).wideB (Nat.le_refl _) (by simp [World.setCell]), (h4.far Y (by decide) i u).wide (Nat.le_refl _) (by simp [World.setCell]), q, q2, by simpa [World.setCell] using q3⟩
  | 12, _, n, _ => (n rfl).elim
  | _ + 13, _, _, _ => trivial
end

section
variable (A0 A1 A2 A3 : Option Addr) (c0 c1 c2 c3 : Nat) (d0 d1 d2 : List Int) (d3 : List Bool) (d4 : Int) (w : World)
set_option maxRecDepth 100000 in
set_option maxHeartbeats 8000000 in
theorem l05Own (l0 : d0.length = 256) (l1 : d1.length = 32) (l2 : d2.length = 256) (l3 : d3.length = 16) (h0 : IntL w A0 d0) (h1 : IntL w A1 d1) (h2 : IntL w A2 d2) (h3 : BoolL w A3 d3) :
    Calls Try.prog 53 #[.agg #[.slice A0 256 c0, .slice A1 32 c1, .slice A2 256 c2, .slice A3 16 c3, .int .i64 d4]] w (GivesMem d0 d1 d2 d3 d4 w) := by
  obtain ⟨W0, hW0⟩ : ∃ W0, W0 = ((w.alloc (.cells #[.slice A0 256 c0, .slice A1 32 c1, .slice A2 256 c2, .slice A3 16 c3, .int .i64 d4] 28)).alloc (.cells #[.slice none 0 0, .slice none 0 0, .slice none 0 0, .slice none 0 0, .int .i64 0] 28)) := ⟨_, rfl⟩
  have hb0 : Below w.heap.size w W0 := by rw [hW0]; exact bt (alloc_below _ _) (alloc_below _ _)
  have X0 : Box W0 w.heap.size 28 #[.slice A0 256 c0, .slice A1 32 c1, .slice A2 256 c2, .slice A3 16 c3, .int .i64 d4] := by rw [hW0]; exact (Box.new _ _ _).alloc _
  have Y0 : Box W0 (w.heap.size + 1) 28 #[.slice none 0 0, .slice none 0 0, .slice none 0 0, .slice none 0 0, .int .i64 0] := by rw [hW0]; simpa using Box.new (w.alloc (.cells #[.slice A0 256 c0, .slice A1 32 c1, .slice A2 256 c2, .slice A3 16 c3, .int .i64 d4] 28)) 28 #[.slice none 0 0, .slice none 0 0, .slice none 0 0, .slice none 0 0, .int .i64 0]
  have HB : Hid (∀ W, RM W0 w.heap.size W → Below w.heap.size w W) := Lib.hid (fun W r => hb0.trans (r.1.mono (by omega)))
  have HO := Lib.hid (fun W (r : RM W0 w.heap.size W) => l03Own A2 A3 256 c2 16 c3 d4 d2 d3 W l2 l3 rfl rfl (h2.below (HB.out _ r)) (h3.below (HB.out _ r)))
  have HS0 := Lib.hid (fun W (r : RM W0 w.heap.size W) => (h0.below (HB.out _ r)).src (by omega))
  have HS1 := Lib.hid (fun W (r : RM W0 w.heap.size W) => (h1.below (HB.out _ r)).src (by omega))
  have HN0 : Hid ((cellsI d0).length = 256 * 1) := Lib.hid (by rw [cellsI_len]; omega)
  have HN1 : Hid ((cellsI d1).length = 32 * 1) := Lib.hid (by rw [cellsI_len]; omega)
  have HL := Lib.hid (And.intro l2 l3)
  have HL0 := Lib.hid (And.intro l0 l1)
  have HK : Hid (∀ W', RM W0 w.heap.size W' → W'.cell? ⟨w.heap.size, 0, none⟩ = some (.slice A0 256 c0) ∧ W'.cell? ⟨w.heap.size, 1, none⟩ = some (.slice A1 32 c1) ∧ W'.cell? ⟨w.heap.size, 2, none⟩ = some (.slice A2 256 c2) ∧ W'.cell? ⟨w.heap.size, 3, none⟩ = some (.slice A3 16 c3) ∧ W'.cell? ⟨w.heap.size, 4, none⟩ = some (.int .i64 d4)) := Lib.hid (fun W' r => by
    have X := X0.below r.1 (by omega)
    exact ⟨X.cell 0 rfl, X.cell 1 rfl, X.cell 2 rfl, X.cell 3 rfl, X.cell 4 rfl⟩)
  have HW0 := Lib.hid hW0
  have R0 : RM W0 w.heap.size W0.drew := ⟨(Below.refl _ _).drew, Nat.le_refl _, _, rfl, Y0⟩
  clear l0 l1 l2 l3 h0 h1 h2 h3 X0 Y0 hW0 hb0
  go_enter Try.func53, Try.ntmps53
  go_wp2
  rw [← HW0.out]
  refine wp_region_facts (by kernel_rfl) [[3], [4], [5], [6], [7], [8], [9], [6, 10], [11], [12], [6, 10, 13], [6, 10, 13, 14], [6, 10, 13]] [[], [], [1], [0, 1, 2], [], [], [5], [4, 5, 6, 3, 0, 1, 2], [], [8], [8, 9, 7, 4, 5, 6, 3, 0, 1, 2], [10, 8, 9, 7, 4, 5, 6, 3, 0, 1, 2], [0, 1, 2, 3, 4, 5, 6, 7, 8, 9, 10, 11]] [0, 1, 2] (by kernel_rfl) (RM W0 w.heap.size) (ownF w.heap.size (.slice A0 256 c0) (.slice A1 32 c1) (.agg #[.slice A2 256 c2, .slice A3 16 c3, .int .i64 d4]) d0 d1 d2 d3 d4) R0 ?_ ?_
  · refine ⟨?_, ?_, ?_, ?_, ?_, ?_, ?_, ?_, ?_, ?_, ?_, ?_, ?_, trivial⟩
    · intro T W hT hs hC hF K hK
      obtain ⟨t0, t1, t2, t3, t4, t5, t6, t7, t8, t9, t10, t11, t12, t13, t14, rfl⟩ := arr15 T hT
      obtain rfl : t1 = .pointer (some ⟨w.heap.size, 0, none⟩) := hs 1 (by decide)
      obtain rfl : t2 = .pointer (some ⟨w.heap.size + 1, 0, none⟩) := hs 2 (by decide)
      clear hF hs hT
      have k := alloc_below W (.cells #[] 3)
      go_simp
      exact hK.out _ _ (hC.alloc _) (fun j t _ h => ownF_below k j t h) ⟨_, rfl⟩
    · intro T W hT hs hC hF K hK
      obtain ⟨t0, t1, t2, t3, t4, t5, t6, t7, t8, t9, t10, t11, t12, t13, t14, rfl⟩ := arr15 T hT
      obtain rfl : t1 = .pointer (some ⟨w.heap.size, 0, none⟩) := hs 1 (by decide)
      obtain rfl : t2 = .pointer (some ⟨w.heap.size + 1, 0, none⟩) := hs 2 (by decide)
      clear hF hs hT
      go_simp
      exact hK.out _ W hC (fun _ _ _ h => h) rfl
    · intro T W hT hs hC hF K hK
      obtain ⟨t0, t1, t2, t3, t4, t5, t6, t7, t8, t9, t10, t11, t12, t13, t14, rfl⟩ := arr15 T hT
      obtain rfl : t1 = .pointer (some ⟨w.heap.size, 0, none⟩) := hs 1 (by decide)
      obtain rfl : t2 = .pointer (some ⟨w.heap.size + 1, 0, none⟩) := hs 2 (by decide)
      have f1 := hF 1 (by decide)
      simp only [ownF, mask] at f1
      clear hF hs hT
      subst f1
      have k := (HK.out W hC).1
      go_simp
      exact hK.out _ W hC (fun _ _ _ h => h) rfl
    · intro T W hT hs hC hF K hK
      obtain ⟨t0, t1, t2, t3, t4, t5, t6, t7, t8, t9, t10, t11, t12, t13, t14, rfl⟩ := arr15 T hT
      obtain rfl : t1 = .pointer (some ⟨w.heap.size, 0, none⟩) := hs 1 (by decide)
      obtain rfl : t2 = .pointer (some ⟨w.heap.size + 1, 0, none⟩) := hs 2 (by decide)
      have f0 := hF 0 (by decide)
      simp only [ownF, mask] at f0
      have f2 := hF 2 (by decide)
      simp only [ownF, mask] at f2
      clear hF hs hT
      obtain ⟨b, e3⟩ := f0
      subst e3 f2
      refine wp_app_fresh (.tmp 3) (.tmp 5) 23 rfl 3 (.int .i64 0) 1 8 Try.underlying23 infoIx rfl (by decide) b rfl A0 256 c0 (by omega) (cellsI d0) rfl HN0.out (HS0.out _ hC) (by unfold maxLen; omega) (by omega) ?_
      intro A c w1 k O
      exact hK.out _ w1 (hC.step k) (fun j t _ h => ownF_below k j t h) ⟨A, c, rfl, ownI_fresh O.out (by omega) (HB.out _ hC).size⟩
    · intro T W hT hs hC hF K hK
      obtain ⟨t0, t1, t2, t3, t4, t5, t6, t7, t8, t9, t10, t11, t12, t13, t14, rfl⟩ := arr15 T hT
      obtain rfl : t1 = .pointer (some ⟨w.heap.size, 0, none⟩) := hs 1 (by decide)
      obtain rfl : t2 = .pointer (some ⟨w.heap.size + 1, 0, none⟩) := hs 2 (by decide)
      clear hF hs hT
      have k := alloc_below W (.cells #[] 3)
      go_simp
      exact hK.out _ _ (hC.alloc _) (fun j t _ h => ownF_below k j t h) ⟨_, rfl⟩
    · intro T W hT hs hC hF K hK
      obtain ⟨t0, t1, t2, t3, t4, t5, t6, t7, t8, t9, t10, t11, t12, t13, t14, rfl⟩ := arr15 T hT
      obtain rfl : t1 = .pointer (some ⟨w.heap.size, 0, none⟩) := hs 1 (by decide)
      obtain rfl : t2 = .pointer (some ⟨w.heap.size + 1, 0, none⟩) := hs 2 (by decide)
      clear hF hs hT
      go_simp
      exact hK.out _ W hC (fun _ _ _ h => h) rfl
    · intro T W hT hs hC hF K hK
      obtain ⟨t0, t1, t2, t3, t4, t5, t6, t7, t8, t9, t10, t11, t12, t13, t14, rfl⟩ := arr15 T hT
      obtain rfl : t1 = .pointer (some ⟨w.heap.size, 0, none⟩) := hs 1 (by decide)
      obtain rfl : t2 = .pointer (some ⟨w.heap.size + 1, 0, none⟩) := hs 2 (by decide)
      have f5 := hF 5 (by decide)
      simp only [ownF, mask] at f5
      clear hF hs hT
      subst f5
      have k := (HK.out W hC).2.1
      go_simp
      exact hK.out _ W hC (fun _ _ _ h => h) rfl
    · intro T W hT hs hC hF K hK
      obtain ⟨t0, t1, t2, t3, t4, t5, t6, t7, t8, t9, t10, t11, t12, t13, t14, rfl⟩ := arr15 T hT
      obtain rfl : t1 = .pointer (some ⟨w.heap.size, 0, none⟩) := hs 1 (by decide)
      obtain rfl : t2 = .pointer (some ⟨w.heap.size + 1, 0, none⟩) := hs 2 (by decide)
      have f4 := hF 4 (by decide)
      simp only [ownF, mask] at f4
      have f6 := hF 6 (by decide)
      simp only [ownF, mask] at f6
      have f3 := hF 3 (by decide)
      simp only [ownF, mask] at f3
      clear hF hs hT
      obtain ⟨b, e3⟩ := f4
      obtain ⟨A, c, e6, O6⟩ := f3
      subst e3 f6 e6
      have H6 := Lib.hid O6
      clear O6
      refine wp_app_fresh (.tmp 7) (.tmp 9) 23 rfl 3 (.int .i64 0) 1 8 Try.underlying23 infoIx rfl (by decide) b rfl A1 32 c1 (by omega) (cellsI d1) rfl HN1.out (HS1.out _ hC) (by unfold maxLen; omega) (by omega) ?_
      intro A' c' w1 k O
      exact hK.out _ w1 (hC.step k) (fun j t _ h => ownF_below k j t h) ⟨W.heap.size, A, c, A', c', rfl, rfl, H6.out.below k, ownI_fresh O.out (by omega) (Nat.le_refl _), (HB.out _ hC).size, k.size⟩
    · intro T W hT hs hC hF K hK
      obtain ⟨t0, t1, t2, t3, t4, t5, t6, t7, t8, t9, t10, t11, t12, t13, t14, rfl⟩ := arr15 T hT
      obtain rfl : t1 = .pointer (some ⟨w.heap.size, 0, none⟩) := hs 1 (by decide)
      obtain rfl : t2 = .pointer (some ⟨w.heap.size + 1, 0, none⟩) := hs 2 (by decide)
      clear hF hs hT
      go_simp
      exact hK.out _ W hC (fun _ _ _ h => h) rfl
    · intro T W hT hs hC hF K hK
      obtain ⟨t0, t1, t2, t3, t4, t5, t6, t7, t8, t9, t10, t11, t12, t13, t14, rfl⟩ := arr15 T hT
      obtain rfl : t1 = .pointer (some ⟨w.heap.size, 0, none⟩) := hs 1 (by decide)
      obtain rfl : t2 = .pointer (some ⟨w.heap.size + 1, 0, none⟩) := hs 2 (by decide)
      have f8 := hF 8 (by decide)
      simp only [ownF, mask] at f8
      clear hF hs hT
      subst f8
      have k2 := (HK.out W hC).2.2.1
      have k3 := (HK.out W hC).2.2.2.1
      have k4 := (HK.out W hC).2.2.2.2
      go_simp
      exact hK.out _ W hC (fun _ _ _ h => h) rfl
    · intro T W hT hs hC hF K hK
      obtain ⟨t0, t1, t2, t3, t4, t5, t6, t7, t8, t9, t10, t11, t12, t13, t14, rfl⟩ := arr15 T hT
      obtain rfl : t1 = .pointer (some ⟨w.heap.size, 0, none⟩) := hs 1 (by decide)
      obtain rfl : t2 = .pointer (some ⟨w.heap.size + 1, 0, none⟩) := hs 2 (by decide)
      have f9 := hF 9 (by decide)
      simp only [ownF, mask] at f9
      have f7 := hF 7 (by decide)
      simp only [ownF, mask] at f7
      clear hF hs hT
      obtain ⟨g, A, c, A', c', e6, e10, O6, O10, q, q2⟩ := f7
      subst f9 e6 e10
      have H6 := Lib.hid (And.intro O6 O10)
      clear O6 O10
      go_simp
      refine (HO.out W hC).mono ?_
      rintro e w1 ⟨B, n, c', C, m, d, rfl, L, M, S, Q, k⟩
      obtain rfl : n = 256 := by have := L.out; have := HL.out.1; omega
      obtain rfl : m = 16 := by have := M.out; have := HL.out.2; omega
      exact hK.out _ w1 (hC.step k) (fun j t _ h => ownF_below k j t h) ⟨g, W.heap.size, A, _, A', _, B, _, C, _, rfl, rfl, rfl, H6.out.1.below k, H6.out.2.below k, S.out, Q.out, q, q2, k.size⟩
    · intro T W hT hs hC hF K hK
      obtain ⟨t0, t1, t2, t3, t4, t5, t6, t7, t8, t9, t10, t11, t12, t13, t14, rfl⟩ := arr15 T hT
      obtain rfl : t1 = .pointer (some ⟨w.heap.size, 0, none⟩) := hs 1 (by decide)
      obtain rfl : t2 = .pointer (some ⟨w.heap.size + 1, 0, none⟩) := hs 2 (by decide)
      have f10 := hF 10 (by decide)
      simp only [ownF, mask] at f10
      clear hF hs hT
      obtain ⟨g, h, A, c, A', c', B, e, C, f, e6, e10, e13, O6, O10, S, Q, q, q2, q3⟩ := f10
      subst e6 e10 e13
      clear O6 O10 S Q
      go_simp
      exact hK.out _ W hC (fun _ _ _ h => h) ⟨_, _, _, _, _, _, _, _, rfl, rfl, rfl, rfl⟩
    · intro T W hT hs hC hF K hK
      obtain ⟨t0, t1, t2, t3, t4, t5, t6, t7, t8, t9, t10, t11, t12, t13, t14, rfl⟩ := arr15 T hT
      obtain rfl : t1 = .pointer (some ⟨w.heap.size, 0, none⟩) := hs 1 (by decide)
      obtain rfl : t2 = .pointer (some ⟨w.heap.size + 1, 0, none⟩) := hs 2 (by decide)
      have f11 := hF 11 (by decide)
      simp only [ownF, mask] at f11
      clear hF hs hT
      obtain ⟨A, c, A', c', B, e, C, f, e6, e10, e13, e14⟩ := f11
      subst e6 e10 e13 e14
      obtain ⟨hCa, hCb, ys, hys, Y⟩ := hC
      have y0 := YV5.of Y hys 0 (by omega)
      have y1 := YV5.of Y hys 1 (by omega)
      have y2 := YV5.of Y hys 2 (by omega)
      have y3 := YV5.of Y hys 3 (by omega)
      have y4 := YV5.of Y hys 4 (by omega)
      have z0 := Y.frozen 0
      have z1 := Y.frozen 1
      have z2 := Y.frozen 2
      have z3 := Y.frozen 3
      have z4 := Y.frozen 4
      have HYs := Lib.hid (And.intro hys Y)
      have hC : RM W0 w.heap.size W := ⟨hCa, hCb, ys, hys, Y⟩
      clear hys Y hCa hCb
      go_simp
      exact hK.out undef _ (((((hC.set 0 _).set 1 _).set 2 _).set 3 _).set 4 _) (fun j t n h => ownF_store ((((HYs.out.2.set 0 _).set 1 _).set 2 _).set 3 _) 4 _ j t n (ownF_store (((HYs.out.2.set 0 _).set 1 _).set 2 _) 3 _ j t n (ownF_store ((HYs.out.2.set 0 _).set 1 _) 2 _ j t n (ownF_store (HYs.out.2.set 0 _) 1 _ j t n (ownF_store HYs.out.2 0 _ j t n h))))) ⟨_, _, _, _, _, _, _, _, rfl, rfl, rfl, HYs.out.2.all5 HYs.out.1 _ _ _ _ _⟩
  · intro T W hT hs hC hF
    obtain ⟨t0, t1, t2, t3, t4, t5, t6, t7, t8, t9, t10, t11, t12, t13, t14, rfl⟩ := arr15 T hT
    obtain rfl : t1 = .pointer (some ⟨w.heap.size, 0, none⟩) := hs 1 (by decide)
    obtain rfl : t2 = .pointer (some ⟨w.heap.size + 1, 0, none⟩) := hs 2 (by decide)
    obtain ⟨g, h, A, c, A', c', B, e, C, f, e6, e10, e13, O6, O10, S, Q, q, q2, q3⟩ := hF 10 (by decide)
    obtain ⟨x1, x2, x3, x4, x5, x6, x7, x8, f6, f10, f13, Y⟩ := hF 12 (by decide)
    have E1 : Value.slice A 256 c = .slice x1 256 x2 := (show t6 = _ from e6).symm.trans f6
    have E2 : Value.slice A' 32 c' = .slice x3 32 x4 := (show t10 = _ from e10).symm.trans f10
    have E3 : Value.agg #[.slice B 256 e, .slice C 16 f, .int .i64 d4] = .agg #[.slice x5 256 x6, .slice x7 16 x8, .int .i64 d4] := (show t13 = _ from e13).symm.trans f13
    simp only [Value.agg.injEq, Array.mk.injEq, List.cons.injEq, Value.slice.injEq, true_and, and_true] at E1 E2 E3
    obtain ⟨r1, r2⟩ := E1
    obtain ⟨r3, r4⟩ := E2
    obtain ⟨⟨r5, r6⟩, r7, r8⟩ := E3
    subst r1 r2 r3 r4 r5 r6 r7 r8
    have y0 := Y.cell 0 rfl
    have y1 := Y.cell 1 rfl
    have y2 := Y.cell 2 rfl
    have y3 := Y.cell 3 rfl
    have y4 := Y.cell 4 rfl
    have HR : Hid (OwnA W w.heap.size W.heap.size [.slice A 256 c, .slice A' 32 c', .slice B 256 e, .slice C 16 f] [.I d0, .I d1, .I d2, .B d3]) := Lib.hid (by
      have := ownA4 (c0 := c) (c1 := c') (c2 := e) (c3 := f) (L := w.heap.size) (R := W.heap.size) O6 O10 S Q (Nat.le_refl _) q q2 q3 (Nat.le_refl _)
      rwa [HL0.out.1, HL0.out.2, HL.out.1, HL.out.2] at this)
    have HBw := Lib.hid (HB.out _ hC)
    clear e6 e10 e13 f6 f10 f13 O6 O10 S Q Y hF hs hT hC R0
    go_wp2
    refine bodyPost_ret (v := .agg #[.slice A 256 c, .slice A' 32 c', .slice B 256 e, .slice C 16 f, .int .i64 d4]) (by simp [results, Try.results53, go_sem, y0, y1, y2, y3, y4]) rfl ?_
    exact ⟨A, A', B, C, c, c', e, f, rfl, HR, HBw.out⟩
end

section
variable (A0 A1 A2 A3 : Option Addr) (n0 n1 n2 n3 c0 c1 c2 c3 : Nat) (d0 d1 d2 : List Int) (d3 : List Bool) (d4 : Int) (w : World)
theorem putF_bad (r i zs : List Int) (gs : List Bool) (st a v : Int) (h : okMem r i zs gs st = false) : putF r i zs gs st a v = ([], [], [], [], 0, 1) := by unfold putF codeIf; rw [h]; rfl
theorem putF_range (r i zs : List Int) (gs : List Bool) (st a v : Int) (h : okMem r i zs gs st = true) (h2 : (adB a && byB v) = false) : putF r i zs gs st a v = ([], [], [], [], 0, 4) := by unfold putF codeIf; rw [h, h2]; rfl
theorem putF_ok (r i zs : List Int) (gs : List Bool) (st a v : Int) (h : okMem r i zs gs st = true) (h2 : adB a = true) (h3 : byB v = true) : putF r i zs gs st a v = (putR r a v, putI i a v, putZ zs gs st a v, putG gs st a, putS st a v, 0) := by unfold putF codeIf; rw [h, h2, h3]; rfl
theorem OwnA.far5 {w : World} {lo hi : Nat} {B0 B1 B2 B3 : Option Addr} {m0 m1 m2 m3 e0 e1 e2 e3 : Nat} {r0 r1 r2 : List Int} {r3 : List Bool} (h : OwnA w lo hi [.slice B0 m0 e0, .slice B1 m1 e1, .slice B2 m2 e2, .slice B3 m3 e3] [.I r0, .I r1, .I r2, .B r3]) {b : Nat} {cs : Array Value} (X : Box w b 28 cs) (u0 u1 u2 u3 u4 : Value) : OwnA (((((w.setCell ⟨b, 0, none⟩ u0).setCell ⟨b, 1, none⟩ u1).setCell ⟨b, 2, none⟩ u2).setCell ⟨b, 3, none⟩ u3).setCell ⟨b, 4, none⟩ u4) lo hi [.slice B0 m0 e0, .slice B1 m1 e1, .slice B2 m2 e2, .slice B3 m3 e3] [.I r0, .I r1, .I r2, .B r3] := by
  obtain ⟨⟨⟨a0, b0, q0, o0⟩, ⟨a1, b1, q1, o1⟩, ⟨a2, b2, q2, o2⟩, ⟨a3, b3, q3, o3⟩, -⟩, hn⟩ := h
  exact ⟨⟨⟨a0, b0, q0, o0.far5 X _ _ _ _ _⟩, ⟨a1, b1, q1, o1.far5 X _ _ _ _ _⟩, ⟨a2, b2, q2, o2.far5 X _ _ _ _ _⟩, ⟨a3, b3, q3, o3.far5 X _ _ _ _ _⟩, trivial⟩, hn⟩

end
end Go.Proofs.Ytngoijchebfolaa
