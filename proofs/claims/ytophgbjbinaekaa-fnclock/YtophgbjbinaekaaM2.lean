/- Texts of this claim, one behind the other: DrawRtc, RtcTick2, RtcTick3, Digs, Root, Sets, RootOk, ReadDisk, DigWalk. -/
import Derived.Laws.Tables
import Derived.Maps.Own
import Derived.Deep.RegionHeld3
import Derived.Laws.IdiomStrings
import Derived.Deep.DrawnRows
import Derived.IntWalk
import Derived.Test.YtophgbjbinaekaaM1
/- The source's clock: a drawn valid one; spec.RtcDrawn. Written by gen_drawrtc.py. -/
namespace Go.Proofs.Ytophgbjbinaekaa
open Go.RowKit
theorem arr44r (T : Array Value) (h : T.size = 44) : ∃ t0 t1 t2 t3 t4 t5 t6 t7 t8 t9 t10 t11 t12 t13 t14 t15 t16 t17 t18 t19 t20 t21 t22 t23 t24 t25 t26 t27 t28 t29 t30 t31 t32 t33 t34 t35 t36 t37 t38 t39 t40 t41 t42 t43 : Value, T = #[t0, t1, t2, t3, t4, t5, t6, t7, t8, t9, t10, t11, t12, t13, t14, t15, t16, t17, t18, t19, t20, t21, t22, t23, t24, t25, t26, t27, t28, t29, t30, t31, t32, t33, t34, t35, t36, t37, t38, t39, t40, t41, t42, t43] := by
  obtain ⟨l⟩ := T
  match l, h with
  | t0 :: t1 :: t2 :: t3 :: t4 :: t5 :: t6 :: t7 :: t8 :: t9 :: t10 :: t11 :: t12 :: t13 :: t14 :: t15 :: t16 :: t17 :: t18 :: t19 :: t20 :: t21 :: t22 :: t23 :: t24 :: t25 :: t26 :: t27 :: t28 :: t29 :: t30 :: t31 :: t32 :: t33 :: t34 :: t35 :: t36 :: t37 :: t38 :: t39 :: t40 :: t41 :: t42 :: t43 :: [], _ => exact ⟨t0, t1, t2, t3, t4, t5, t6, t7, t8, t9, t10, t11, t12, t13, t14, t15, t16, t17, t18, t19, t20, t21, t22, t23, t24, t25, t26, t27, t28, t29, t30, t31, t32, t33, t34, t35, t36, t37, t38, t39, t40, t41, t42, t43, rfl⟩

def rtF (b h : Nat) : Nat → (Nat → Value) → World → Prop
  | 0, t, _ => t 4 = .pointer (some ⟨b, 0, none⟩)
  | 1, t, _ => ∃ v : Nat, t 5 = .int .i64 v ∧ v < 60
  | 2, t, W => ∃ g, ∃ y : Nat, t 6 = .slice (some ⟨g, 0, none⟩) 2 2 ∧ Box W g 3 #[.int .i64 59, .int .i64 y] ∧ y < 60 ∧ h ≤ g
  | 3, t, _ => t 7 = .pointer (some ⟨b, 0, none⟩)
  | 4, t, _ => ∃ v : Nat, t 8 = .int .i64 v ∧ v < 2
  | 5, t, W => ∃ g, ∃ v x : Nat, ∃ cs : Array Value, t 9 = .pointer (some ⟨g, v, none⟩) ∧ Box W g 3 cs ∧ cs[v]? = some (.int .i64 x) ∧ x < 60 ∧ h ≤ g
  | 6, t, _ => ∃ x : Nat, t 10 = .int .i64 x ∧ x < 60
  | 7, t, _ => t 11 = .pointer (some ⟨b, 0, none⟩)
  | 8, t, _ => ∃ v : Nat, t 12 = .int .i64 v ∧ v < 60
  | 9, t, W => ∃ g, ∃ y : Nat, t 13 = .slice (some ⟨g, 0, none⟩) 2 2 ∧ Box W g 3 #[.int .i64 59, .int .i64 y] ∧ y < 60 ∧ h ≤ g
  | 10, t, _ => t 14 = .pointer (some ⟨b, 0, none⟩)
  | 11, t, _ => ∃ v : Nat, t 15 = .int .i64 v ∧ v < 2
  | 12, t, W => ∃ g, ∃ v x : Nat, ∃ cs : Array Value, t 16 = .pointer (some ⟨g, v, none⟩) ∧ Box W g 3 cs ∧ cs[v]? = some (.int .i64 x) ∧ x < 60 ∧ h ≤ g
  | 13, t, _ => ∃ x : Nat, t 17 = .int .i64 x ∧ x < 60
  | 14, t, _ => t 18 = .pointer (some ⟨b, 0, none⟩)
  | 15, t, _ => ∃ v : Nat, t 19 = .int .i64 v ∧ v < 24
  | 16, t, W => ∃ g, ∃ y : Nat, t 20 = .slice (some ⟨g, 0, none⟩) 2 2 ∧ Box W g 3 #[.int .i64 23, .int .i64 y] ∧ y < 24 ∧ h ≤ g
  | 17, t, _ => t 21 = .pointer (some ⟨b, 0, none⟩)
  | 18, t, _ => ∃ v : Nat, t 22 = .int .i64 v ∧ v < 2
  | 19, t, W => ∃ g, ∃ v x : Nat, ∃ cs : Array Value, t 23 = .pointer (some ⟨g, v, none⟩) ∧ Box W g 3 cs ∧ cs[v]? = some (.int .i64 x) ∧ x < 24 ∧ h ≤ g
  | 20, t, _ => ∃ x : Nat, t 24 = .int .i64 x ∧ x < 24
  | 21, t, _ => ∃ x1 x2 x3 : Nat, t 25 = .agg #[.int .i64 x1, .int .i64 x2, .int .i64 x3, .bool false, .int .i64 0, .int .i64 0] ∧ x1 < 60 ∧ x2 < 60 ∧ x3 < 24
  | 22, t, W => ∃ g, ∃ cs : Array Value, t 3 = .pointer (some ⟨g, 0, none⟩) ∧ Box W g 24 cs ∧ cs.size = 6 ∧ h ≤ g
  | 23, t, W => ∃ g, ∃ x1 x2 x3 : Nat, t 3 = .pointer (some ⟨g, 0, none⟩) ∧ Box W g 24 #[.int .i64 x1, .int .i64 x2, .int .i64 x3, .bool false, .int .i64 0, .int .i64 0] ∧ x1 < 60 ∧ x2 < 60 ∧ x3 < 24 ∧ h ≤ g
  | _, _, _ => True
theorem setRowR {w : World} {b : Nat} {t : TypeId} {cs : Array Value} (X : Box w b t cs) (cs' : Array Value) : Box (w.setRow b cs') b t cs' := by
  unfold Box at X ⊢
  simp [World.setRow, Array.getElem?_modify, X]
theorem farRowR {w : World} {b b' : Nat} {t : TypeId} {cs : Array Value} (X : Box w b t cs) (hb : b ≠ b') (cs' : Array Value) : Box (w.setRow b' cs') b t cs := (setRow_other w b' b cs' hb).trans X
theorem boxNeR {w : World} {b b' : Nat} {t t' : TypeId} {cs cs' : Array Value} (X : Box w b t cs) (Y : Box w b' t' cs') (ht : t ≠ t') : b ≠ b' := by
  rintro rfl
  unfold Box at X Y
  rw [X] at Y
  injection Y with e
  injection e with _ e2
  exact ht e2
theorem btw_belowR {lo hi B : Nat} {w w1 w2 : World} (h : Btw lo hi w w1) (hb : Below B w1 w2) (hB : w.heap.size ≤ B) : Btw lo hi w w2 :=
  ⟨hb.os.trans h.os, hb.tape.trans h.tape, hb.output.trans h.output, Nat.le_trans h.size hb.size, fun k hk ho => (hb.block k (Nat.lt_of_lt_of_le hk hB)).trans (h.block k hk ho)⟩
theorem btw_rowR (w : World) (b : Nat) (cs : Array Value) : Btw b (b + 1) w (w.setRow b cs) :=
  ⟨rfl, rfl, rfl, by simp [World.setRow], fun k _ ho => setRow_other w b k cs (by omega)⟩
theorem rtF_btw {b h : Nat} {W W' : World} (k : Btw b (b + 1) W W') (hb : b < h) : ∀ (j : Nat) (t : Nat → Value), rtF b h j t W → rtF b h j t W'
  | 0, _, e | 1, _, e | 3, _, e | 4, _, e | 6, _, e | 7, _, e | 8, _, e | 10, _, e | 11, _, e | 13, _, e | 14, _, e | 15, _, e | 17, _, e | 18, _, e | 20, _, e | 21, _, e => e
  | 2, _, ⟨g, y, e, X, q2, q3⟩ => ⟨g, y, e, X.btw k (.inr (by omega)), q2, q3⟩
  | 9, _, ⟨g, y, e, X, q2, q3⟩ => ⟨g, y, e, X.btw k (.inr (by omega)), q2, q3⟩
  | 16, _, ⟨g, y, e, X, q2, q3⟩ => ⟨g, y, e, X.btw k (.inr (by omega)), q2, q3⟩
  | 5, _, ⟨g, v, x, cs, e, X, q0, q1, q2⟩ => ⟨g, v, x, cs, e, X.btw k (.inr (by omega)), q0, q1, q2⟩
  | 12, _, ⟨g, v, x, cs, e, X, q0, q1, q2⟩ => ⟨g, v, x, cs, e, X.btw k (.inr (by omega)), q0, q1, q2⟩
  | 19, _, ⟨g, v, x, cs, e, X, q0, q1, q2⟩ => ⟨g, v, x, cs, e, X.btw k (.inr (by omega)), q0, q1, q2⟩
  | 22, _, ⟨g, cs, e, X, q1, q2⟩ => ⟨g, cs, e, X.btw k (.inr (by omega)), q1, q2⟩
  | 23, _, ⟨g, x1, x2, x3, e, X, q1, q2, q3, q4⟩ => ⟨g, x1, x2, x3, e, X.btw k (.inr (by omega)), q1, q2, q3, q4⟩
  | _ + 24, _, _ => trivial
theorem rtF_store {b h d : Nat} {W : World} (cs : Array Value) (hcs : cs.size = 6) {old : Array Value} (D : Box W d 24 old) : ∀ (j : Nat) (t : Nat → Value), j ≠ 23 → rtF b h j t W → rtF b h j t (W.setRow d cs)
  | 0, _, _, e | 1, _, _, e | 3, _, _, e | 4, _, _, e | 6, _, _, e | 7, _, _, e | 8, _, _, e | 10, _, _, e | 11, _, _, e | 13, _, _, e | 14, _, _, e | 15, _, _, e | 17, _, _, e | 18, _, _, e | 20, _, _, e | 21, _, _, e => e
  | 2, _, _, ⟨g, y, e, X, q2, q3⟩ => ⟨g, y, e, farRowR X (boxNeR X D (by decide)) cs, q2, q3⟩
  | 9, _, _, ⟨g, y, e, X, q2, q3⟩ => ⟨g, y, e, farRowR X (boxNeR X D (by decide)) cs, q2, q3⟩
  | 16, _, _, ⟨g, y, e, X, q2, q3⟩ => ⟨g, y, e, farRowR X (boxNeR X D (by decide)) cs, q2, q3⟩
  | 5, _, _, ⟨g, v, x, c, e, X, q0, q1, q2⟩ => ⟨g, v, x, c, e, farRowR X (boxNeR X D (by decide)) cs, q0, q1, q2⟩
  | 12, _, _, ⟨g, v, x, c, e, X, q0, q1, q2⟩ => ⟨g, v, x, c, e, farRowR X (boxNeR X D (by decide)) cs, q0, q1, q2⟩
  | 19, _, _, ⟨g, v, x, c, e, X, q0, q1, q2⟩ => ⟨g, v, x, c, e, farRowR X (boxNeR X D (by decide)) cs, q0, q1, q2⟩
  | 22, _, _, ⟨g, c, e, X, q1, q2⟩ => by
    by_cases hg : g = d
    · subst hg; exact ⟨g, cs, e, setRowR X cs, hcs, q2⟩
    · exact ⟨g, c, e, farRowR X hg cs, q1, q2⟩
  | 23, _, m, _ => (m rfl).elim
  | _ + 24, _, _, _ => trivial
def cnt6r (L : Nat → Bool) : Nat := (if L 1 then 1 else 0) + (if L 4 then 1 else 0) + (if L 8 then 1 else 0) + (if L 11 then 1 else 0) + (if L 15 then 1 else 0) + (if L 18 then 1 else 0)
def RtC (w : World) (b : Nat) (A : Option Addr) (n c : Nat) (zs : List Nat) (K : Nat) (L : Nat → Bool) (W : World) : Prop :=
  Src W b A n c zs (K + cnt6r L) ∧ Btw b (b + 1) w W
theorem cnt6r_le (L : Nat → Bool) : cnt6r L ≤ 6 := by unfold cnt6r; (repeat' split) <;> omega
set_option maxRecDepth 100000 in
theorem infoRtc6 : (Try.prog.info? 24).map (·.size) = some 6 := by kernel_rfl
theorem one6 {x1 x2 x3 x4 x5 : Int} {q : Bool} : (#[.int .i64 x1, .int .i64 x2, .int .i64 x3, .bool q, .int .i64 x4, .int .i64 x5] : Array Value).all (·.oneCell') = true := by simp [Value.oneCell']
def GivesRtc (b : Nat) (A : Option Addr) (n c : Nat) (zs : List Nat) (K : Nat) (w : World) (e : Ending) (w' : World) : Prop :=
  ∃ (d0 d1 d2 : Int) (d3 : Bool) (d4 d5 : Int), e = .returned (.agg #[.int .i64 d0, .int .i64 d1, .int .i64 d2, .bool d3, .int .i64 d4, .int .i64 d5]) ∧ Hid (rtcB d0 d1 d2 d4 d5 = true) ∧ Hid (Src w' b A n c zs (K + 7)) ∧ Btw b (b + 1) w w'
set_option maxRecDepth 100000 in
theorem bitR (q : Bool) (w : World) : Calls Try.prog 44 #[.bool q] w fun e w' => e = .returned (.int .i64 (if q then 1 else 0)) ∧ w = w' := by
  cases q
  all_goals (go_enter Try.func44, Try.ntmps44; go_wp2; go_ret; exact ⟨rfl, rfl⟩)
set_option maxRecDepth 100000 in
set_option maxHeartbeats 8000000 in
theorem srcRtc (b : Nat) (A : Option Addr) (n c : Nat) (zs : List Nat) (K' : Nat) (w : World) (hK : K' ≤ 1000) (h : Src w b A n c zs K') :
    Calls Try.prog 28 #[.pointer (some ⟨b, 0, none⟩)] w (GivesRtc b A n c zs K' w) := by
  have HLw := Lib.hid h.lt
  have HNx := Lib.hid (fun N K W (h1 : 2 ≤ N) (h2 : N ≤ 256) (h3 : K ≤ 10000) (h : Src W b A n c zs K) => srcNext N b A n c zs K W h1 h2 (by omega) h)
  have HCh := Lib.hid (fun K W (h3 : K ≤ 10000) (h : Src W b A n c zs K) => srcChance 2 b A n c zs K W (by omega) (by omega) (by omega) h)
  have hb0 := alloc_below w (.cells #[.int .i64 0, .int .i64 0, .int .i64 0, .bool false, .int .i64 0, .int .i64 0] 24)
  obtain ⟨w0, hw0⟩ : ∃ w0, w0 = w.alloc (.cells #[.int .i64 0, .int .i64 0, .int .i64 0, .bool false, .int .i64 0, .int .i64 0] 24) := ⟨_, rfl⟩
  have HLt : Hid (b < w0.heap.size) := Lib.hid (by rw [hw0]; simp; exact Nat.lt_succ_of_lt HLw.out)
  have Y0 : Hid (Box w0 w.heap.size 24 #[.int .i64 0, .int .i64 0, .int .i64 0, .bool false, .int .i64 0, .int .i64 0]) := Lib.hid (by rw [hw0]; exact Box.new _ _ _)
  rw [← hw0] at hb0
  have hC0 : RtC w0 b A n c zs K' (fun _ => false) w0.drew := ⟨by simpa [cnt6r] using (h.below hb0 HLw.out).drew, (Btw.refl _ _ _).drew⟩
  have HW0 := Lib.hid hw0
  clear h hb0 hw0
  go_enter Try.func28, Try.ntmps28
  go_wp2
  rw [← HW0.out]
  refine wp_region_sets (by kernel_rfl) [[4], [5], [6], [7], [8], [9], [10], [11], [12], [13], [14], [15], [16], [17], [18], [19], [20], [21], [22], [23], [24], [25], [3], [3]] [[], [0], [0, 1], [], [0, 1, 3], [0, 1, 2, 3, 4], [0, 1, 2, 3, 4, 5], [], [0, 1, 3, 4, 7], [0, 1, 3, 4, 7, 8], [], [0, 1, 3, 4, 7, 8, 10], [0, 1, 3, 4, 7, 8, 9, 10, 11], [0, 1, 3, 4, 7, 8, 9, 10, 11, 12], [], [0, 1, 3, 4, 7, 8, 10, 11, 14], [0, 1, 3, 4, 7, 8, 10, 11, 14, 15], [], [0, 1, 3, 4, 7, 8, 10, 11, 14, 15, 17], [0, 1, 3, 4, 7, 8, 10, 11, 14, 15, 16, 17, 18], [0, 1, 3, 4, 7, 8, 10, 11, 14, 15, 16, 17, 18, 19], [0, 1, 2, 3, 4, 5, 6, 7, 8, 9, 10, 11, 12, 13, 14, 15, 16, 17, 18, 19, 20], [], [0, 1, 2, 3, 4, 5, 6, 7, 8, 9, 10, 11, 12, 13, 14, 15, 16, 17, 18, 19, 20, 21, 22]] [0, 2] (by kernel_rfl) (RtC w0 b A n c zs K') (rtF b w0.heap.size) hC0 ?_ ?_
  · refine ⟨?_, ?_, ?_, ?_, ?_, ?_, ?_, ?_, ?_, ?_, ?_, ?_, ?_, ?_, ?_, ?_, ?_, ?_, ?_, ?_, ?_, ?_, ?_, ?_, trivial⟩
    · intro L T W hT hs hLi hLb hLc hC hF K hK
      obtain ⟨t0, t1, t2, t3, t4, t5, t6, t7, t8, t9, t10, t11, t12, t13, t14, t15, t16, t17, t18, t19, t20, t21, t22, t23, t24, t25, t26, t27, t28, t29, t30, t31, t32, t33, t34, t35, t36, t37, t38, t39, t40, t41, t42, t43, rfl⟩ := arr44r T hT
      obtain rfl : t0 = .pointer (some ⟨b, 0, none⟩) := hs 0 (by decide)
      obtain rfl : t2 = .pointer (some ⟨w.heap.size, 0, none⟩) := hs 2 (by decide)
      clear hF hs hT hLb hLc
      go_simp
      exact hK.out _ W (by unfold RtC at hC ⊢; simpa [cnt6r] using hC) (fun _ _ _ h => h) rfl
    · intro L T W hT hs hLi hLb hLc hC hF K hK
      obtain ⟨t0, t1, t2, t3, t4, t5, t6, t7, t8, t9, t10, t11, t12, t13, t14, t15, t16, t17, t18, t19, t20, t21, t22, t23, t24, t25, t26, t27, t28, t29, t30, t31, t32, t33, t34, t35, t36, t37, t38, t39, t40, t41, t42, t43, rfl⟩ := arr44r T hT
      obtain rfl : t0 = .pointer (some ⟨b, 0, none⟩) := hs 0 (by decide)
      obtain rfl : t2 = .pointer (some ⟨w.heap.size, 0, none⟩) := hs 2 (by decide)
      have f0 := hF 0 (by decide)
      simp only [rtF, mask] at f0
      have l4 : L 4 = false := by
        cases e : L 4 with
        | false => rfl
        | true => have := hLc 4 e 1 (by decide); rw [hLi] at this; cases this
      have l8 : L 8 = false := by
        cases e : L 8 with
        | false => rfl
        | true => have := hLc 8 e 1 (by decide); rw [hLi] at this; cases this
      have l11 : L 11 = false := by
        cases e : L 11 with
        | false => rfl
        | true => have := hLc 11 e 1 (by decide); rw [hLi] at this; cases this
      have l15 : L 15 = false := by
        cases e : L 15 with
        | false => rfl
        | true => have := hLc 15 e 1 (by decide); rw [hLi] at this; cases this
      have l18 : L 18 = false := by
        cases e : L 18 with
        | false => rfl
        | true => have := hLc 18 e 1 (by decide); rw [hLi] at this; cases this
      have ec : cnt6r L = 0 := by unfold cnt6r; simp [hLi, l4, l8, l11, l15, l18]
      have ed : cnt6r (fun j => if j = 1 then true else L j) = 1 := by unfold cnt6r; simp [l4, l8, l11, l15, l18]
      subst f0
      obtain ⟨hS, hB⟩ := hC
      rw [ec] at hS
      have HN := Lib.hid (HNx.out 60 (K' + 0) W (by omega) (by omega) (by omega) hS)
      have hlt := HLt.out
      clear hF hs hT hLb hLc ec hS hLi l4 l8 l11 l15 l18
      go_simp
      refine HN.out.mono ?_
      rintro e w1 ⟨v, rfl, hv, S1, k1⟩
      exact hK.out _ w1 ⟨by rw [ed]; exact S1.out, hB.trans k1⟩ (fun j t _ h => rtF_btw k1 hlt j t h) ⟨v, rfl, hv⟩
    · intro L T W hT hs hLi hLb hLc hC hF K hK
      obtain ⟨t0, t1, t2, t3, t4, t5, t6, t7, t8, t9, t10, t11, t12, t13, t14, t15, t16, t17, t18, t19, t20, t21, t22, t23, t24, t25, t26, t27, t28, t29, t30, t31, t32, t33, t34, t35, t36, t37, t38, t39, t40, t41, t42, t43, rfl⟩ := arr44r T hT
      obtain rfl : t0 = .pointer (some ⟨b, 0, none⟩) := hs 0 (by decide)
      obtain rfl : t2 = .pointer (some ⟨w.heap.size, 0, none⟩) := hs 2 (by decide)
      have f1 := hF 1 (by decide)
      simp only [rtF, mask] at f1
      obtain ⟨y, e, hy⟩ := f1
      subst e
      have k0 := alloc_below W (.cells #[.int .i64 59, .int .i64 y] 3)
      have X0 := Lib.hid (Box.new W 3 #[.int .i64 59, .int .i64 y])
      have hlt := HLt.out
      have hz : w0.heap.size ≤ W.heap.size := hC.2.size
      clear hF hs hT hLb hLc
      go_simp
      exact hK.out _ _ (by
        obtain ⟨hS, hB⟩ := hC
        exact ⟨by simpa [cnt6r] using hS.below k0 (by omega), btw_belowR hB k0 (by omega)⟩) (fun j t _ h => rtF_btw (Btw.of_below k0 b (b + 1)) hlt j t h) ⟨W.heap.size, y, rfl, X0.out, hy, hz⟩
    · intro L T W hT hs hLi hLb hLc hC hF K hK
      obtain ⟨t0, t1, t2, t3, t4, t5, t6, t7, t8, t9, t10, t11, t12, t13, t14, t15, t16, t17, t18, t19, t20, t21, t22, t23, t24, t25, t26, t27, t28, t29, t30, t31, t32, t33, t34, t35, t36, t37, t38, t39, t40, t41, t42, t43, rfl⟩ := arr44r T hT
      obtain rfl : t0 = .pointer (some ⟨b, 0, none⟩) := hs 0 (by decide)
      obtain rfl : t2 = .pointer (some ⟨w.heap.size, 0, none⟩) := hs 2 (by decide)
      clear hF hs hT hLb hLc
      go_simp
      exact hK.out _ W (by unfold RtC at hC ⊢; simpa [cnt6r] using hC) (fun _ _ _ h => h) rfl
    · intro L T W hT hs hLi hLb hLc hC hF K hK
      obtain ⟨t0, t1, t2, t3, t4, t5, t6, t7, t8, t9, t10, t11, t12, t13, t14, t15, t16, t17, t18, t19, t20, t21, t22, t23, t24, t25, t26, t27, t28, t29, t30, t31, t32, t33, t34, t35, t36, t37, t38, t39, t40, t41, t42, t43, rfl⟩ := arr44r T hT
      obtain rfl : t0 = .pointer (some ⟨b, 0, none⟩) := hs 0 (by decide)
      obtain rfl : t2 = .pointer (some ⟨w.heap.size, 0, none⟩) := hs 2 (by decide)
      have f3 := hF 3 (by decide)
      simp only [rtF, mask] at f3
      have l1 : L 1 = true := hLb 1 (by decide)
      have l8 : L 8 = false := by
        cases e : L 8 with
        | false => rfl
        | true => have := hLc 8 e 4 (by decide); rw [hLi] at this; cases this
      have l11 : L 11 = false := by
        cases e : L 11 with
        | false => rfl
        | true => have := hLc 11 e 4 (by decide); rw [hLi] at this; cases this
      have l15 : L 15 = false := by
        cases e : L 15 with
        | false => rfl
        | true => have := hLc 15 e 4 (by decide); rw [hLi] at this; cases this
      have l18 : L 18 = false := by
        cases e : L 18 with
        | false => rfl
        | true => have := hLc 18 e 4 (by decide); rw [hLi] at this; cases this
      have ec : cnt6r L = 1 := by unfold cnt6r; simp [hLi, l1, l8, l11, l15, l18]
      have ed : cnt6r (fun j => if j = 4 then true else L j) = 2 := by unfold cnt6r; simp [l1, l8, l11, l15, l18]
      subst f3
      obtain ⟨hS, hB⟩ := hC
      rw [ec] at hS
      have HN := Lib.hid (HNx.out 2 (K' + 1) W (by omega) (by omega) (by omega) hS)
      have hlt := HLt.out
      clear hF hs hT hLb hLc ec hS hLi l1 l8 l11 l15 l18
      go_simp
      refine HN.out.mono ?_
      rintro e w1 ⟨v, rfl, hv, S1, k1⟩
      exact hK.out _ w1 ⟨by rw [ed]; exact S1.out, hB.trans k1⟩ (fun j t _ h => rtF_btw k1 hlt j t h) ⟨v, rfl, hv⟩
    · intro L T W hT hs hLi hLb hLc hC hF K hK
      obtain ⟨t0, t1, t2, t3, t4, t5, t6, t7, t8, t9, t10, t11, t12, t13, t14, t15, t16, t17, t18, t19, t20, t21, t22, t23, t24, t25, t26, t27, t28, t29, t30, t31, t32, t33, t34, t35, t36, t37, t38, t39, t40, t41, t42, t43, rfl⟩ := arr44r T hT
      obtain rfl : t0 = .pointer (some ⟨b, 0, none⟩) := hs 0 (by decide)
      obtain rfl : t2 = .pointer (some ⟨w.heap.size, 0, none⟩) := hs 2 (by decide)
      have f2 := hF 2 (by decide)
      simp only [rtF, mask] at f2
      have f4 := hF 4 (by decide)
      simp only [rtF, mask] at f4
      obtain ⟨g, y, e, X, hy, hg⟩ := f2
      subst e
      obtain ⟨v, e, hv⟩ := f4
      subst e
      have hvi : (v : Int) < 2 := by omega
      have hCs : ∃ z : Nat, (#[.int .i64 59, .int .i64 y] : Array Value)[v]? = some (.int .i64 z) ∧ z < 60 := by
        have : v = 0 ∨ v = 1 := by omega
        rcases this with rfl | rfl
        · exact ⟨59, rfl, by omega⟩
        · exact ⟨y, rfl, hy⟩
      have HX := Lib.hid X
      have HCs := Lib.hid hCs
      clear hF hs hT hLb hLc X hy hCs
      go_simp
      obtain ⟨z, q1, q2⟩ := HCs.out
      exact hK.out _ W (by unfold RtC at hC ⊢; simpa [cnt6r] using hC) (fun _ _ _ h => h) ⟨g, v, z, _, rfl, HX.out, q1, q2, hg⟩
    · intro L T W hT hs hLi hLb hLc hC hF K hK
      obtain ⟨t0, t1, t2, t3, t4, t5, t6, t7, t8, t9, t10, t11, t12, t13, t14, t15, t16, t17, t18, t19, t20, t21, t22, t23, t24, t25, t26, t27, t28, t29, t30, t31, t32, t33, t34, t35, t36, t37, t38, t39, t40, t41, t42, t43, rfl⟩ := arr44r T hT
      obtain rfl : t0 = .pointer (some ⟨b, 0, none⟩) := hs 0 (by decide)
      obtain rfl : t2 = .pointer (some ⟨w.heap.size, 0, none⟩) := hs 2 (by decide)
      have f5 := hF 5 (by decide)
      simp only [rtF, mask] at f5
      obtain ⟨g, v, x, cs, e, X, q0, hx, hg⟩ := f5
      subst e
      have c0 := X.cell v q0
      clear hF hs hT hLb hLc X q0
      go_simp
      exact hK.out _ W (by unfold RtC at hC ⊢; simpa [cnt6r] using hC) (fun _ _ _ h => h) ⟨x, rfl, hx⟩
    · intro L T W hT hs hLi hLb hLc hC hF K hK
      obtain ⟨t0, t1, t2, t3, t4, t5, t6, t7, t8, t9, t10, t11, t12, t13, t14, t15, t16, t17, t18, t19, t20, t21, t22, t23, t24, t25, t26, t27, t28, t29, t30, t31, t32, t33, t34, t35, t36, t37, t38, t39, t40, t41, t42, t43, rfl⟩ := arr44r T hT
      obtain rfl : t0 = .pointer (some ⟨b, 0, none⟩) := hs 0 (by decide)
      obtain rfl : t2 = .pointer (some ⟨w.heap.size, 0, none⟩) := hs 2 (by decide)
      clear hF hs hT hLb hLc
      go_simp
      exact hK.out _ W (by unfold RtC at hC ⊢; simpa [cnt6r] using hC) (fun _ _ _ h => h) rfl
    · intro L T W hT hs hLi hLb hLc hC hF K hK
      obtain ⟨t0, t1, t2, t3, t4, t5, t6, t7, t8, t9, t10, t11, t12, t13, t14, t15, t16, t17, t18, t19, t20, t21, t22, t23, t24, t25, t26, t27, t28, t29, t30, t31, t32, t33, t34, t35, t36, t37, t38, t39, t40, t41, t42, t43, rfl⟩ := arr44r T hT
      obtain rfl : t0 = .pointer (some ⟨b, 0, none⟩) := hs 0 (by decide)
      obtain rfl : t2 = .pointer (some ⟨w.heap.size, 0, none⟩) := hs 2 (by decide)
      have f7 := hF 7 (by decide)
      simp only [rtF, mask] at f7
      have l1 : L 1 = true := hLb 1 (by decide)
      have l4 : L 4 = true := hLb 4 (by decide)
      have l11 : L 11 = false := by
        cases e : L 11 with
        | false => rfl
        | true => have := hLc 11 e 8 (by decide); rw [hLi] at this; cases this
      have l15 : L 15 = false := by
        cases e : L 15 with
        | false => rfl
        | true => have := hLc 15 e 8 (by decide); rw [hLi] at this; cases this
      have l18 : L 18 = false := by
        cases e : L 18 with
        | false => rfl
        | true => have := hLc 18 e 8 (by decide); rw [hLi] at this; cases this
      have ec : cnt6r L = 2 := by unfold cnt6r; simp [hLi, l1, l4, l11, l15, l18]
      have ed : cnt6r (fun j => if j = 8 then true else L j) = 3 := by unfold cnt6r; simp [l1, l4, l11, l15, l18]
      subst f7
      obtain ⟨hS, hB⟩ := hC
      rw [ec] at hS
      have HN := Lib.hid (HNx.out 60 (K' + 2) W (by omega) (by omega) (by omega) hS)
      have hlt := HLt.out
      clear hF hs hT hLb hLc ec hS hLi l1 l4 l11 l15 l18
      go_simp
      refine HN.out.mono ?_
      rintro e w1 ⟨v, rfl, hv, S1, k1⟩
      exact hK.out _ w1 ⟨by rw [ed]; exact S1.out, hB.trans k1⟩ (fun j t _ h => rtF_btw k1 hlt j t h) ⟨v, rfl, hv⟩
    · intro L T W hT hs hLi hLb hLc hC hF K hK
      obtain ⟨t0, t1, t2, t3, t4, t5, t6, t7, t8, t9, t10, t11, t12, t13, t14, t15, t16, t17, t18, t19, t20, t21, t22, t23, t24, t25, t26, t27, t28, t29, t30, t31, t32, t33, t34, t35, t36, t37, t38, t39, t40, t41, t42, t43, rfl⟩ := arr44r T hT
      obtain rfl : t0 = .pointer (some ⟨b, 0, none⟩) := hs 0 (by decide)
      obtain rfl : t2 = .pointer (some ⟨w.heap.size, 0, none⟩) := hs 2 (by decide)
      have f8 := hF 8 (by decide)
      simp only [rtF, mask] at f8
      obtain ⟨y, e, hy⟩ := f8
      subst e
      have k0 := alloc_below W (.cells #[.int .i64 59, .int .i64 y] 3)
      have X0 := Lib.hid (Box.new W 3 #[.int .i64 59, .int .i64 y])
      have hlt := HLt.out
      have hz : w0.heap.size ≤ W.heap.size := hC.2.size
      clear hF hs hT hLb hLc
      go_simp
      exact hK.out _ _ (by
        obtain ⟨hS, hB⟩ := hC
        exact ⟨by simpa [cnt6r] using hS.below k0 (by omega), btw_belowR hB k0 (by omega)⟩) (fun j t _ h => rtF_btw (Btw.of_below k0 b (b + 1)) hlt j t h) ⟨W.heap.size, y, rfl, X0.out, hy, hz⟩
    · intro L T W hT hs hLi hLb hLc hC hF K hK
      obtain ⟨t0, t1, t2, t3, t4, t5, t6, t7, t8, t9, t10, t11, t12, t13, t14, t15, t16, t17, t18, t19, t20, t21, t22, t23, t24, t25, t26, t27, t28, t29, t30, t31, t32, t33, t34, t35, t36, t37, t38, t39, t40, t41, t42, t43, rfl⟩ := arr44r T hT
      obtain rfl : t0 = .pointer (some ⟨b, 0, none⟩) := hs 0 (by decide)
      obtain rfl : t2 = .pointer (some ⟨w.heap.size, 0, none⟩) := hs 2 (by decide)
      clear hF hs hT hLb hLc
      go_simp
      exact hK.out _ W (by unfold RtC at hC ⊢; simpa [cnt6r] using hC) (fun _ _ _ h => h) rfl
    · intro L T W hT hs hLi hLb hLc hC hF K hK
      obtain ⟨t0, t1, t2, t3, t4, t5, t6, t7, t8, t9, t10, t11, t12, t13, t14, t15, t16, t17, t18, t19, t20, t21, t22, t23, t24, t25, t26, t27, t28, t29, t30, t31, t32, t33, t34, t35, t36, t37, t38, t39, t40, t41, t42, t43, rfl⟩ := arr44r T hT
      obtain rfl : t0 = .pointer (some ⟨b, 0, none⟩) := hs 0 (by decide)
      obtain rfl : t2 = .pointer (some ⟨w.heap.size, 0, none⟩) := hs 2 (by decide)
      have f10 := hF 10 (by decide)
      simp only [rtF, mask] at f10
      have l1 : L 1 = true := hLb 1 (by decide)
      have l4 : L 4 = true := hLb 4 (by decide)
      have l8 : L 8 = true := hLb 8 (by decide)
      have l15 : L 15 = false := by
        cases e : L 15 with
        | false => rfl
        | true => have := hLc 15 e 11 (by decide); rw [hLi] at this; cases this
      have l18 : L 18 = false := by
        cases e : L 18 with
        | false => rfl
        | true => have := hLc 18 e 11 (by decide); rw [hLi] at this; cases this
      have ec : cnt6r L = 3 := by unfold cnt6r; simp [hLi, l1, l4, l8, l15, l18]
      have ed : cnt6r (fun j => if j = 11 then true else L j) = 4 := by unfold cnt6r; simp [l1, l4, l8, l15, l18]
      subst f10
      obtain ⟨hS, hB⟩ := hC
      rw [ec] at hS
      have HN := Lib.hid (HNx.out 2 (K' + 3) W (by omega) (by omega) (by omega) hS)
      have hlt := HLt.out
      clear hF hs hT hLb hLc ec hS hLi l1 l4 l8 l15 l18
      go_simp
      refine HN.out.mono ?_
      rintro e w1 ⟨v, rfl, hv, S1, k1⟩
      exact hK.out _ w1 ⟨by rw [ed]; exact S1.out, hB.trans k1⟩ (fun j t _ h => rtF_btw k1 hlt j t h) ⟨v, rfl, hv⟩
    · intro L T W hT hs hLi hLb hLc hC hF K hK
      obtain ⟨t0, t1, t2, t3, t4, t5, t6, t7, t8, t9, t10, t11, t12, t13, t14, t15, t16, t17, t18, t19, t20, t21, t22, t23, t24, t25, t26, t27, t28, t29, t30, t31, t32, t33, t34, t35, t36, t37, t38, t39, t40, t41, t42, t43, rfl⟩ := arr44r T hT
      obtain rfl : t0 = .pointer (some ⟨b, 0, none⟩) := hs 0 (by decide)
      obtain rfl : t2 = .pointer (some ⟨w.heap.size, 0, none⟩) := hs 2 (by decide)
      have f9 := hF 9 (by decide)
      simp only [rtF, mask] at f9
      have f11 := hF 11 (by decide)
      simp only [rtF, mask] at f11
      obtain ⟨g, y, e, X, hy, hg⟩ := f9
      subst e
      obtain ⟨v, e, hv⟩ := f11
      subst e
      have hvi : (v : Int) < 2 := by omega
      have hCs : ∃ z : Nat, (#[.int .i64 59, .int .i64 y] : Array Value)[v]? = some (.int .i64 z) ∧ z < 60 := by
        have : v = 0 ∨ v = 1 := by omega
        rcases this with rfl | rfl
        · exact ⟨59, rfl, by omega⟩
        · exact ⟨y, rfl, hy⟩
      have HX := Lib.hid X
      have HCs := Lib.hid hCs
      clear hF hs hT hLb hLc X hy hCs
      go_simp
      obtain ⟨z, q1, q2⟩ := HCs.out
      exact hK.out _ W (by unfold RtC at hC ⊢; simpa [cnt6r] using hC) (fun _ _ _ h => h) ⟨g, v, z, _, rfl, HX.out, q1, q2, hg⟩
    · intro L T W hT hs hLi hLb hLc hC hF K hK
      obtain ⟨t0, t1, t2, t3, t4, t5, t6, t7, t8, t9, t10, t11, t12, t13, t14, t15, t16, t17, t18, t19, t20, t21, t22, t23, t24, t25, t26, t27, t28, t29, t30, t31, t32, t33, t34, t35, t36, t37, t38, t39, t40, t41, t42, t43, rfl⟩ := arr44r T hT
      obtain rfl : t0 = .pointer (some ⟨b, 0, none⟩) := hs 0 (by decide)
      obtain rfl : t2 = .pointer (some ⟨w.heap.size, 0, none⟩) := hs 2 (by decide)
      have f12 := hF 12 (by decide)
      simp only [rtF, mask] at f12
      obtain ⟨g, v, x, cs, e, X, q0, hx, hg⟩ := f12
      subst e
      have c0 := X.cell v q0
      clear hF hs hT hLb hLc X q0
      go_simp
      exact hK.out _ W (by unfold RtC at hC ⊢; simpa [cnt6r] using hC) (fun _ _ _ h => h) ⟨x, rfl, hx⟩
    · intro L T W hT hs hLi hLb hLc hC hF K hK
      obtain ⟨t0, t1, t2, t3, t4, t5, t6, t7, t8, t9, t10, t11, t12, t13, t14, t15, t16, t17, t18, t19, t20, t21, t22, t23, t24, t25, t26, t27, t28, t29, t30, t31, t32, t33, t34, t35, t36, t37, t38, t39, t40, t41, t42, t43, rfl⟩ := arr44r T hT
      obtain rfl : t0 = .pointer (some ⟨b, 0, none⟩) := hs 0 (by decide)
      obtain rfl : t2 = .pointer (some ⟨w.heap.size, 0, none⟩) := hs 2 (by decide)
      clear hF hs hT hLb hLc
      go_simp
      exact hK.out _ W (by unfold RtC at hC ⊢; simpa [cnt6r] using hC) (fun _ _ _ h => h) rfl
    · intro L T W hT hs hLi hLb hLc hC hF K hK
      obtain ⟨t0, t1, t2, t3, t4, t5, t6, t7, t8, t9, t10, t11, t12, t13, t14, t15, t16, t17, t18, t19, t20, t21, t22, t23, t24, t25, t26, t27, t28, t29, t30, t31, t32, t33, t34, t35, t36, t37, t38, t39, t40, t41, t42, t43, rfl⟩ := arr44r T hT
      obtain rfl : t0 = .pointer (some ⟨b, 0, none⟩) := hs 0 (by decide)
      obtain rfl : t2 = .pointer (some ⟨w.heap.size, 0, none⟩) := hs 2 (by decide)
      have f14 := hF 14 (by decide)
      simp only [rtF, mask] at f14
      have l1 : L 1 = true := hLb 1 (by decide)
      have l4 : L 4 = true := hLb 4 (by decide)
      have l8 : L 8 = true := hLb 8 (by decide)
      have l11 : L 11 = true := hLb 11 (by decide)
      have l18 : L 18 = false := by
        cases e : L 18 with
        | false => rfl
        | true => have := hLc 18 e 15 (by decide); rw [hLi] at this; cases this
      have ec : cnt6r L = 4 := by unfold cnt6r; simp [hLi, l1, l4, l8, l11, l18]
      have ed : cnt6r (fun j => if j = 15 then true else L j) = 5 := by unfold cnt6r; simp [l1, l4, l8, l11, l18]
      subst f14
      obtain ⟨hS, hB⟩ := hC
      rw [ec] at hS
      have HN := Lib.hid (HNx.out 24 (K' + 4) W (by omega) (by omega) (by omega) hS)
      have hlt := HLt.out
      clear hF hs hT hLb hLc ec hS hLi l1 l4 l8 l11 l18
      go_simp
      refine HN.out.mono ?_
      rintro e w1 ⟨v, rfl, hv, S1, k1⟩
      exact hK.out _ w1 ⟨by rw [ed]; exact S1.out, hB.trans k1⟩ (fun j t _ h => rtF_btw k1 hlt j t h) ⟨v, rfl, hv⟩
    · intro L T W hT hs hLi hLb hLc hC hF K hK
      obtain ⟨t0, t1, t2, t3, t4, t5, t6, t7, t8, t9, t10, t11, t12, t13, t14, t15, t16, t17, t18, t19, t20, t21, t22, t23, t24, t25, t26, t27, t28, t29, t30, t31, t32, t33, t34, t35, t36, t37, t38, t39, t40, t41, t42, t43, rfl⟩ := arr44r T hT
      obtain rfl : t0 = .pointer (some ⟨b, 0, none⟩) := hs 0 (by decide)
      obtain rfl : t2 = .pointer (some ⟨w.heap.size, 0, none⟩) := hs 2 (by decide)
      have f15 := hF 15 (by decide)
      simp only [rtF, mask] at f15
      obtain ⟨y, e, hy⟩ := f15
      subst e
      have k0 := alloc_below W (.cells #[.int .i64 23, .int .i64 y] 3)
      have X0 := Lib.hid (Box.new W 3 #[.int .i64 23, .int .i64 y])
      have hlt := HLt.out
      have hz : w0.heap.size ≤ W.heap.size := hC.2.size
      clear hF hs hT hLb hLc
      go_simp
      exact hK.out _ _ (by
        obtain ⟨hS, hB⟩ := hC
        exact ⟨by simpa [cnt6r] using hS.below k0 (by omega), btw_belowR hB k0 (by omega)⟩) (fun j t _ h => rtF_btw (Btw.of_below k0 b (b + 1)) hlt j t h) ⟨W.heap.size, y, rfl, X0.out, hy, hz⟩
    · intro L T W hT hs hLi hLb hLc hC hF K hK
      obtain ⟨t0, t1, t2, t3, t4, t5, t6, t7, t8, t9, t10, t11, t12, t13, t14, t15, t16, t17, t18, t19, t20, t21, t22, t23, t24, t25, t26, t27, t28, t29, t30, t31, t32, t33, t34, t35, t36, t37, t38, t39, t40, t41, t42, t43, rfl⟩ := arr44r T hT
      obtain rfl : t0 = .pointer (some ⟨b, 0, none⟩) := hs 0 (by decide)
      obtain rfl : t2 = .pointer (some ⟨w.heap.size, 0, none⟩) := hs 2 (by decide)
      clear hF hs hT hLb hLc
      go_simp
      exact hK.out _ W (by unfold RtC at hC ⊢; simpa [cnt6r] using hC) (fun _ _ _ h => h) rfl
    · intro L T W hT hs hLi hLb hLc hC hF K hK
      obtain ⟨t0, t1, t2, t3, t4, t5, t6, t7, t8, t9, t10, t11, t12, t13, t14, t15, t16, t17, t18, t19, t20, t21, t22, t23, t24, t25, t26, t27, t28, t29, t30, t31, t32, t33, t34, t35, t36, t37, t38, t39, t40, t41, t42, t43, rfl⟩ := arr44r T hT
      obtain rfl : t0 = .pointer (some ⟨b, 0, none⟩) := hs 0 (by decide)
      obtain rfl : t2 = .pointer (some ⟨w.heap.size, 0, none⟩) := hs 2 (by decide)
      have f17 := hF 17 (by decide)
      simp only [rtF, mask] at f17
      have l1 : L 1 = true := hLb 1 (by decide)
      have l4 : L 4 = true := hLb 4 (by decide)
      have l8 : L 8 = true := hLb 8 (by decide)
      have l11 : L 11 = true := hLb 11 (by decide)
      have l15 : L 15 = true := hLb 15 (by decide)
      have ec : cnt6r L = 5 := by unfold cnt6r; simp [hLi, l1, l4, l8, l11, l15]
      have ed : cnt6r (fun j => if j = 18 then true else L j) = 6 := by unfold cnt6r; simp [l1, l4, l8, l11, l15]
      subst f17
      obtain ⟨hS, hB⟩ := hC
      rw [ec] at hS
      have HN := Lib.hid (HNx.out 2 (K' + 5) W (by omega) (by omega) (by omega) hS)
      have hlt := HLt.out
      clear hF hs hT hLb hLc ec hS hLi l1 l4 l8 l11 l15
      go_simp
      refine HN.out.mono ?_
      rintro e w1 ⟨v, rfl, hv, S1, k1⟩
      exact hK.out _ w1 ⟨by rw [ed]; exact S1.out, hB.trans k1⟩ (fun j t _ h => rtF_btw k1 hlt j t h) ⟨v, rfl, hv⟩
    · intro L T W hT hs hLi hLb hLc hC hF K hK
      obtain ⟨t0, t1, t2, t3, t4, t5, t6, t7, t8, t9, t10, t11, t12, t13, t14, t15, t16, t17, t18, t19, t20, t21, t22, t23, t24, t25, t26, t27, t28, t29, t30, t31, t32, t33, t34, t35, t36, t37, t38, t39, t40, t41, t42, t43, rfl⟩ := arr44r T hT
      obtain rfl : t0 = .pointer (some ⟨b, 0, none⟩) := hs 0 (by decide)
      obtain rfl : t2 = .pointer (some ⟨w.heap.size, 0, none⟩) := hs 2 (by decide)
      have f16 := hF 16 (by decide)
      simp only [rtF, mask] at f16
      have f18 := hF 18 (by decide)
      simp only [rtF, mask] at f18
      obtain ⟨g, y, e, X, hy, hg⟩ := f16
      subst e
      obtain ⟨v, e, hv⟩ := f18
      subst e
      have hvi : (v : Int) < 2 := by omega
      have hCs : ∃ z : Nat, (#[.int .i64 23, .int .i64 y] : Array Value)[v]? = some (.int .i64 z) ∧ z < 24 := by
        have : v = 0 ∨ v = 1 := by omega
        rcases this with rfl | rfl
        · exact ⟨23, rfl, by omega⟩
        · exact ⟨y, rfl, hy⟩
      have HX := Lib.hid X
      have HCs := Lib.hid hCs
      clear hF hs hT hLb hLc X hy hCs
      go_simp
      obtain ⟨z, q1, q2⟩ := HCs.out
      exact hK.out _ W (by unfold RtC at hC ⊢; simpa [cnt6r] using hC) (fun _ _ _ h => h) ⟨g, v, z, _, rfl, HX.out, q1, q2, hg⟩
    · intro L T W hT hs hLi hLb hLc hC hF K hK
      obtain ⟨t0, t1, t2, t3, t4, t5, t6, t7, t8, t9, t10, t11, t12, t13, t14, t15, t16, t17, t18, t19, t20, t21, t22, t23, t24, t25, t26, t27, t28, t29, t30, t31, t32, t33, t34, t35, t36, t37, t38, t39, t40, t41, t42, t43, rfl⟩ := arr44r T hT
      obtain rfl : t0 = .pointer (some ⟨b, 0, none⟩) := hs 0 (by decide)
      obtain rfl : t2 = .pointer (some ⟨w.heap.size, 0, none⟩) := hs 2 (by decide)
      have f19 := hF 19 (by decide)
      simp only [rtF, mask] at f19
      obtain ⟨g, v, x, cs, e, X, q0, hx, hg⟩ := f19
      subst e
      have c0 := X.cell v q0
      clear hF hs hT hLb hLc X q0
      go_simp
      exact hK.out _ W (by unfold RtC at hC ⊢; simpa [cnt6r] using hC) (fun _ _ _ h => h) ⟨x, rfl, hx⟩
    · intro L T W hT hs hLi hLb hLc hC hF K hK
      obtain ⟨t0, t1, t2, t3, t4, t5, t6, t7, t8, t9, t10, t11, t12, t13, t14, t15, t16, t17, t18, t19, t20, t21, t22, t23, t24, t25, t26, t27, t28, t29, t30, t31, t32, t33, t34, t35, t36, t37, t38, t39, t40, t41, t42, t43, rfl⟩ := arr44r T hT
      obtain rfl : t0 = .pointer (some ⟨b, 0, none⟩) := hs 0 (by decide)
      obtain rfl : t2 = .pointer (some ⟨w.heap.size, 0, none⟩) := hs 2 (by decide)
      have f6 := hF 6 (by decide)
      simp only [rtF, mask] at f6
      have f13 := hF 13 (by decide)
      simp only [rtF, mask] at f13
      have f20 := hF 20 (by decide)
      simp only [rtF, mask] at f20
      obtain ⟨x1, e, h1⟩ := f6
      subst e
      obtain ⟨x2, e, h2⟩ := f13
      subst e
      obtain ⟨x3, e, h3⟩ := f20
      subst e
      clear hF hs hT hLb hLc
      go_simp
      exact hK.out _ W (by unfold RtC at hC ⊢; simpa [cnt6r] using hC) (fun _ _ _ h => h) ⟨x1, x2, x3, rfl, h1, h2, h3⟩
    · intro L T W hT hs hLi hLb hLc hC hF K hK
      obtain ⟨t0, t1, t2, t3, t4, t5, t6, t7, t8, t9, t10, t11, t12, t13, t14, t15, t16, t17, t18, t19, t20, t21, t22, t23, t24, t25, t26, t27, t28, t29, t30, t31, t32, t33, t34, t35, t36, t37, t38, t39, t40, t41, t42, t43, rfl⟩ := arr44r T hT
      obtain rfl : t0 = .pointer (some ⟨b, 0, none⟩) := hs 0 (by decide)
      obtain rfl : t2 = .pointer (some ⟨w.heap.size, 0, none⟩) := hs 2 (by decide)
      have k0 := alloc_below W (.cells #[.int .i64 0, .int .i64 0, .int .i64 0, .bool false, .int .i64 0, .int .i64 0] 24)
      have X0 := Lib.hid (Box.new W 24 #[.int .i64 0, .int .i64 0, .int .i64 0, .bool false, .int .i64 0, .int .i64 0])
      have hlt := HLt.out
      have hz : w0.heap.size ≤ W.heap.size := hC.2.size
      clear hF hs hT hLb hLc
      go_simp
      exact hK.out _ _ (by
        obtain ⟨hS, hB⟩ := hC
        exact ⟨by simpa [cnt6r] using hS.below k0 (by omega), btw_belowR hB k0 (by omega)⟩) (fun j t _ h => rtF_btw (Btw.of_below k0 b (b + 1)) hlt j t h) ⟨W.heap.size, _, rfl, X0.out, rfl, hz⟩
    · intro L T W hT hs hLi hLb hLc hC hF K hK
      obtain ⟨t0, t1, t2, t3, t4, t5, t6, t7, t8, t9, t10, t11, t12, t13, t14, t15, t16, t17, t18, t19, t20, t21, t22, t23, t24, t25, t26, t27, t28, t29, t30, t31, t32, t33, t34, t35, t36, t37, t38, t39, t40, t41, t42, t43, rfl⟩ := arr44r T hT
      obtain rfl : t0 = .pointer (some ⟨b, 0, none⟩) := hs 0 (by decide)
      obtain rfl : t2 = .pointer (some ⟨w.heap.size, 0, none⟩) := hs 2 (by decide)
      have f21 := hF 21 (by decide)
      simp only [rtF, mask] at f21
      have f22 := hF 22 (by decide)
      simp only [rtF, mask] at f22
      obtain ⟨x1, x2, x3, e, q1, q2, q3⟩ := f21
      subst e
      obtain ⟨g, cs, e, X, hcs, hg⟩ := f22
      subst e
      obtain ⟨hS, hB⟩ := hC
      have hlt := HLt.out
      have k1 : Btw g (g + 1) W (W.setRow g #[.int .i64 x1, .int .i64 x2, .int .i64 x3, .bool false, .int .i64 0, .int .i64 0]) := btw_rowR _ _ _
      have k2 : Below g W (W.setRow g #[.int .i64 x1, .int .i64 x2, .int .i64 x3, .bool false, .int .i64 0, .int .i64 0]) := k1.below (Nat.le_of_lt X.lt)
      refine wp_store_row 24 (.tmp 3) (.tmp 25) rfl g #[.int .i64 x1, .int .i64 x2, .int .i64 x3, .bool false, .int .i64 0, .int .i64 0] rfl rfl 24 cs X infoRtc6 (by rw [hcs]; rfl) one6 ?_
      exact hK.out _ _ ⟨by simpa [cnt6r] using hS.below k2 (by omega), btw_belowR hB k2 hg⟩ (fun j t m h => rtF_store _ rfl X j t m h) ⟨g, x1, x2, x3, rfl, setRowR X _, q1, q2, q3, hg⟩
  · intro T W hT hs hC hF
    obtain ⟨t0, t1, t2, t3, t4, t5, t6, t7, t8, t9, t10, t11, t12, t13, t14, t15, t16, t17, t18, t19, t20, t21, t22, t23, t24, t25, t26, t27, t28, t29, t30, t31, t32, t33, t34, t35, t36, t37, t38, t39, t40, t41, t42, t43, rfl⟩ := arr44r T hT
    obtain rfl : t0 = .pointer (some ⟨b, 0, none⟩) := hs 0 (by decide)
    obtain rfl : t2 = .pointer (some ⟨w.heap.size, 0, none⟩) := hs 2 (by decide)
    obtain ⟨L, _, hS, hB⟩ := hC
    obtain ⟨g, x1, x2, x3, e, X, h1, h2, h3, hg⟩ := hF 23 (by decide)
    simp only [mask] at e
    have e : t3 = .pointer (some ⟨g, 0, none⟩) := e
    subst e
    have hbw := HLw.out
    have hw0 := HW0.out
    have hs0 : w0.heap.size = w.heap.size + 1 := by rw [hw0]; simp
    have S0 := Lib.hid (hS.mono (K' := K' + 6) (by have := cnt6r_le L; omega))
    have Y1 := Lib.hid (Y0.out.btw hB (.inr (by omega)))
    have HB := Lib.hid ((Btw.of_below (show Below w.heap.size w w0 by rw [hw0]; exact alloc_below w _) b (b + 1)).trans hB)
    have X1 := Lib.hid X
    have Z := Lib.hid (show w.heap.size + 1 ≤ g by omega)
    have HM := Lib.hid (show (x1 < 60 ∧ x2 < 60) ∧ x3 < 24 from ⟨⟨h1, h2⟩, h3⟩)
    clear hF hs hT hS hB X HNx hC0 HW0 hw0 HLt h1 h2 h3 hg hs0 Y0 hbw
    go_wp2_with fail
    refine (HCh.out (K' + 6) W (by omega) S0.out).mono ?_
    rintro e w2 ⟨q, rfl, S1, k1⟩
    have Y2 := Lib.hid (Y1.out.btw k1 (.inr (by have := HLw.out; omega)))
    have X2 := Lib.hid (X1.out.btw k1 (.inr (by have := HLw.out; have := Z.out; omega)))
    have HB2 := Lib.hid (HB.out.trans k1)
    clear Y1 X1 HB S0 k1 HCh
    cases q with
    | false =>
      have a0 := X2.out.cell 0 rfl; have a1 := X2.out.cell 1 rfl; have a2 := X2.out.cell 2 rfl; have a3 := X2.out.cell 3 rfl; have a4 := X2.out.cell 4 rfl; have a5 := X2.out.cell 5 rfl
      have y0 := Y2.out.cell 0 rfl; have y1 := Y2.out.cell 1 rfl; have y2 := Y2.out.cell 2 rfl; have y3 := Y2.out.cell 3 rfl; have y4 := Y2.out.cell 4 rfl; have y5 := Y2.out.cell 5 rfl; have yz0 := Y2.out.frozen 0; have yz1 := Y2.out.frozen 1; have yz2 := Y2.out.frozen 2; have yz3 := Y2.out.frozen 3; have yz4 := Y2.out.frozen 4; have yz5 := Y2.out.frozen 5
      go_wp2
      obtain ⟨W9, hW9⟩ : ∃ W9, W9 = (((((( w2.setCell ⟨w.heap.size, 0, none⟩ (.int .i64 x1)).setCell ⟨w.heap.size, 1, none⟩ (.int .i64 x2)).setCell ⟨w.heap.size, 2, none⟩ (.int .i64 x3)).setCell ⟨w.heap.size, 3, none⟩ (.bool false)).setCell ⟨w.heap.size, 4, none⟩ (.int .i64 0)).setCell ⟨w.heap.size, 5, none⟩ (.int .i64 0)) := ⟨_, rfl⟩
      have B9 : Btw (w.heap.size) (w.heap.size + 1) w2 W9 := by rw [hW9]; exact (Btw.refl _ _ _).put.put.put.put.put.put
      have Y9 : Hid (Box W9 w.heap.size 24 #[.int .i64 x1, .int .i64 x2, .int .i64 x3, .bool false, .int .i64 0, .int .i64 0]) := Lib.hid (by rw [hW9]; exact (Y2.out.all6 rfl _ _ _ _ _ _))
      have b9 := B9.below (Nat.le_of_lt Y2.out.lt)
      have S9 := Lib.hid (S1.out.below b9 HLw.out)
      have H9 := Lib.hid (btw_belowR HB2.out b9 (Nat.le_refl _))
      have a9 := HM.out
      rw [← hW9]
      clear a0 a1 a2 a3 a4 a5 y0 y1 y2 y3 y4 y5 yz0 yz1 yz2 yz3 yz4 yz5 hW9 B9 b9
      have y0 := Y9.out.cell 0 rfl; have y1 := Y9.out.cell 1 rfl; have y2 := Y9.out.cell 2 rfl; have y3 := Y9.out.cell 3 rfl; have y4 := Y9.out.cell 4 rfl; have y5 := Y9.out.cell 5 rfl
      refine bodyPost_ret (v := .agg #[.int .i64 x1, .int .i64 x2, .int .i64 x3, .bool false, .int .i64 0, .int .i64 0]) (by simp [results, Try.results28, go_sem, y0, y1, y2, y3, y4, y5]) rfl ?_
      exact ⟨_, _, _, _, _, _, rfl, Lib.hid (by simp [rtcB, rg]; omega), S9, H9.out⟩
    | true =>
      have e1 : IntKind.i64.wrap ((x2 : Int) + 1) = (x2 : Int) + 1 := IntWalk.i64_in _ (by have := HM.out; omega)
      have e2 : ((x2 : Int) + 1).tmod 60 = ((x2 : Int) + 1) % 60 := Int.tmod_eq_emod_of_nonneg (by omega)
      obtain ⟨m', hm⟩ : ∃ m', ((x2 : Int) + 1) % 60 = m' := ⟨_, rfl⟩
      have HMm : Hid (0 ≤ m' ∧ m' ≤ 59) := Lib.hid (by omega)
      rw [hm] at e2
      clear hm
      have s0 := X2.out.cell 0 rfl; have s1 := X2.out.cell 1 rfl; have s2 := X2.out.cell 2 rfl; have s3 := X2.out.cell 3 rfl; have s4 := X2.out.cell 4 rfl; have s5 := X2.out.cell 5 rfl; have sz0 := X2.out.frozen 0; have sz1 := X2.out.frozen 1; have sz2 := X2.out.frozen 2; have sz3 := X2.out.frozen 3; have sz4 := X2.out.frozen 4; have sz5 := X2.out.frozen 5
      obtain ⟨W3, hW3⟩ : ∃ W3, W3 = (w2.setCell ⟨g, 3, none⟩ (.bool true)).setCell ⟨g, 4, none⟩ (.int .i64 m') := ⟨_, rfl⟩
      have B3 : Btw g (g + 1) w2 W3 := by rw [hW3]; exact (Btw.refl _ _ _).put.put
      have X3 : Hid (Box W3 g 24 #[.int .i64 x1, .int .i64 x2, .int .i64 x3, .bool true, .int .i64 m', .int .i64 0]) := Lib.hid (by rw [hW3]; simpa using (X2.out.set 3 (.bool true)).set 4 (.int .i64 m'))
      have b3 := B3.below (Nat.le_of_lt X2.out.lt)
      have Y3 := Lib.hid (Y2.out.btw B3 (.inl (by have := Z.out; omega)))
      have S3 := Lib.hid (S1.out.below b3 (by have := HLw.out; have := Z.out; omega))
      have HB3 := Lib.hid (btw_belowR HB2.out b3 (by have := Z.out; omega))
      have HW3 := Lib.hid hW3
      clear hW3 B3 b3
      go_wp2_with fail
      rw [← HW3.out]
      clear HW3 s0 s1 s2 s3 s4 s5 sz0 sz1 sz2 sz3 sz4 sz5 X2 Y2 S1 HB2 e1 e2
      have s0 := X3.out.cell 0 rfl; have s1 := X3.out.cell 1 rfl; have s2 := X3.out.cell 2 rfl; have s3 := X3.out.cell 3 rfl; have s4 := X3.out.cell 4 rfl; have s5 := X3.out.cell 5 rfl; have sz0 := X3.out.frozen 0; have sz1 := X3.out.frozen 1; have sz2 := X3.out.frozen 2; have sz3 := X3.out.frozen 3; have sz4 := X3.out.frozen 4; have sz5 := X3.out.frozen 5
      have h6 : Below W3.heap.size W3 W3.drew := (Below.refl _ _).drew
      have HK : Hid (W3.drew.cell? ⟨g, 1, none⟩ = some (.int .i64 x2) ∧ W3.drew.cell? ⟨g, 2, none⟩ = some (.int .i64 x3)) := Lib.hid ⟨s1, s2⟩
      have HK2 : Hid (∀ v, (W3.setCell ⟨g, 5, none⟩ v).drew.cell? ⟨g, 1, none⟩ = some (.int .i64 x2) ∧ (W3.setCell ⟨g, 5, none⟩ v).drew.cell? ⟨g, 2, none⟩ = some (.int .i64 x3)) := Lib.hid (fun v => ⟨((X3.out.set 5 v).drew).cell 1 rfl, ((X3.out.set 5 v).drew).cell 2 rfl⟩)
      by_cases hu : ((x2 : Nat) : Int) = 59
      · have u1 : (((x2 : Nat) : Int) == 59) = true := by simpa using hu
        have e1 : IntKind.i64.wrap ((x3 : Int) + 1) = (x3 : Int) + 1 := IntWalk.i64_in _ (by have := HM.out; omega)
        have e2 : ((x3 : Int) + 1).tmod 24 = ((x3 : Int) + 1) % 24 := Int.tmod_eq_emod_of_nonneg (by omega)
        obtain ⟨h', hh⟩ : ∃ h', ((x3 : Int) + 1) % 24 = h' := ⟨_, rfl⟩
        have HMh : Hid (0 ≤ h' ∧ h' ≤ 23) := Lib.hid (by omega)
        rw [hh] at e2
        clear hh hu
        have HBt := Lib.hid (fun W => bitR true W)
        simp only [if_true] at HBt
        go_region_held3 (fun W => W.cell? ⟨g, 1, none⟩ = some (.int .i64 x2) ∧ W.cell? ⟨g, 2, none⟩ = some (.int .i64 x3))
          (first | exact HK.out | exact HK2.out _)
          (first | (go_at_call 44; refine (HBt.out _).mono ?_; rintro e w' ⟨rfl, rfl⟩))
        obtain ⟨W4, hW4⟩ : ∃ W4, W4 = W3.setCell ⟨g, 5, none⟩ (.int .i64 h') := ⟨_, rfl⟩
        have B4 : Btw g (g + 1) W3 W4 := by rw [hW4]; exact (Btw.refl _ _ _).put
        have X4 : Hid (Box W4 g 24 #[.int .i64 x1, .int .i64 x2, .int .i64 x3, .bool true, .int .i64 m', .int .i64 h']) := Lib.hid (by rw [hW4]; simpa using (X3.out.set 5 (.int .i64 h')))
        have b4 := B4.below (Nat.le_of_lt X3.out.lt)
        have Y4 := Lib.hid (Y3.out.btw B4 (.inl (by have := Z.out; omega)))
        have S4 := Lib.hid (S3.out.below b4 (by have := HLw.out; have := Z.out; omega))
        have HB4 := Lib.hid (btw_belowR HB3.out b4 (by have := Z.out; omega))
        rw [← hW4]
        clear hW4 B4 b4 s0 s1 s2 s3 s4 s5 sz0 sz1 sz2 sz3 sz4 sz5 X3 Y3 S3 HB3 h6 HK HK2 u1 e1 e2 HBt
        have a0 := X4.out.cell 0 rfl; have a1 := X4.out.cell 1 rfl; have a2 := X4.out.cell 2 rfl; have a3 := X4.out.cell 3 rfl; have a4 := X4.out.cell 4 rfl; have a5 := X4.out.cell 5 rfl
        have y0 := Y4.out.cell 0 rfl; have y1 := Y4.out.cell 1 rfl; have y2 := Y4.out.cell 2 rfl; have y3 := Y4.out.cell 3 rfl; have y4 := Y4.out.cell 4 rfl; have y5 := Y4.out.cell 5 rfl; have yz0 := Y4.out.frozen 0; have yz1 := Y4.out.frozen 1; have yz2 := Y4.out.frozen 2; have yz3 := Y4.out.frozen 3; have yz4 := Y4.out.frozen 4; have yz5 := Y4.out.frozen 5
        go_wp2
        obtain ⟨W9, hW9⟩ : ∃ W9, W9 = (((((( W4.setCell ⟨w.heap.size, 0, none⟩ (.int .i64 x1)).setCell ⟨w.heap.size, 1, none⟩ (.int .i64 x2)).setCell ⟨w.heap.size, 2, none⟩ (.int .i64 x3)).setCell ⟨w.heap.size, 3, none⟩ (.bool true)).setCell ⟨w.heap.size, 4, none⟩ (.int .i64 m')).setCell ⟨w.heap.size, 5, none⟩ (.int .i64 h')) := ⟨_, rfl⟩
        have B9 : Btw (w.heap.size) (w.heap.size + 1) W4 W9 := by rw [hW9]; exact (Btw.refl _ _ _).put.put.put.put.put.put
        have Y9 : Hid (Box W9 w.heap.size 24 #[.int .i64 x1, .int .i64 x2, .int .i64 x3, .bool true, .int .i64 m', .int .i64 h']) := Lib.hid (by rw [hW9]; exact (Y4.out.all6 rfl _ _ _ _ _ _))
        have b9 := B9.below (Nat.le_of_lt Y4.out.lt)
        have S9 := Lib.hid (S4.out.below b9 HLw.out)
        have H9 := Lib.hid (btw_belowR HB4.out b9 (Nat.le_refl _))
        have a9 := HM.out
        rw [← hW9]
        clear a0 a1 a2 a3 a4 a5 y0 y1 y2 y3 y4 y5 yz0 yz1 yz2 yz3 yz4 yz5 hW9 B9 b9
        have y0 := Y9.out.cell 0 rfl; have y1 := Y9.out.cell 1 rfl; have y2 := Y9.out.cell 2 rfl; have y3 := Y9.out.cell 3 rfl; have y4 := Y9.out.cell 4 rfl; have y5 := Y9.out.cell 5 rfl
        refine bodyPost_ret (v := .agg #[.int .i64 x1, .int .i64 x2, .int .i64 x3, .bool true, .int .i64 m', .int .i64 h']) (by simp [results, Try.results28, go_sem, y0, y1, y2, y3, y4, y5]) rfl ?_
        exact ⟨_, _, _, _, _, _, rfl, Lib.hid (by have := HMm.out; have := HMh.out; simp [rtcB, rg]; omega), Lib.hid S9.out.drew, H9.out.drew⟩
      · have u1 : (((x2 : Nat) : Int) == 59) = false := by simpa using hu
        have e1 : IntKind.i64.wrap ((x3 : Int)) = (x3 : Int) := IntWalk.i64_in _ (by have := HM.out; omega)
        have e2 : ((x3 : Int)).tmod 24 = ((x3 : Int)) % 24 := Int.tmod_eq_emod_of_nonneg (by omega)
        obtain ⟨h', hh⟩ : ∃ h', ((x3 : Int)) % 24 = h' := ⟨_, rfl⟩
        have HMh : Hid (0 ≤ h' ∧ h' ≤ 23) := Lib.hid (by omega)
        rw [hh] at e2
        clear hh hu
        have HBt := Lib.hid (fun W => bitR false W)
        simp only [if_false, Bool.false_eq_true] at HBt
        go_region_held3 (fun W => W.cell? ⟨g, 1, none⟩ = some (.int .i64 x2) ∧ W.cell? ⟨g, 2, none⟩ = some (.int .i64 x3))
          (first | exact HK.out | exact HK2.out _)
          (first | (go_at_call 44; refine (HBt.out _).mono ?_; rintro e w' ⟨rfl, rfl⟩))
        obtain ⟨W4, hW4⟩ : ∃ W4, W4 = W3.setCell ⟨g, 5, none⟩ (.int .i64 h') := ⟨_, rfl⟩
        have B4 : Btw g (g + 1) W3 W4 := by rw [hW4]; exact (Btw.refl _ _ _).put
        have X4 : Hid (Box W4 g 24 #[.int .i64 x1, .int .i64 x2, .int .i64 x3, .bool true, .int .i64 m', .int .i64 h']) := Lib.hid (by rw [hW4]; simpa using (X3.out.set 5 (.int .i64 h')))
        have b4 := B4.below (Nat.le_of_lt X3.out.lt)
        have Y4 := Lib.hid (Y3.out.btw B4 (.inl (by have := Z.out; omega)))
        have S4 := Lib.hid (S3.out.below b4 (by have := HLw.out; have := Z.out; omega))
        have HB4 := Lib.hid (btw_belowR HB3.out b4 (by have := Z.out; omega))
        rw [← hW4]
        clear hW4 B4 b4 s0 s1 s2 s3 s4 s5 sz0 sz1 sz2 sz3 sz4 sz5 X3 Y3 S3 HB3 h6 HK HK2 u1 e1 e2 HBt
        have a0 := X4.out.cell 0 rfl; have a1 := X4.out.cell 1 rfl; have a2 := X4.out.cell 2 rfl; have a3 := X4.out.cell 3 rfl; have a4 := X4.out.cell 4 rfl; have a5 := X4.out.cell 5 rfl
        have y0 := Y4.out.cell 0 rfl; have y1 := Y4.out.cell 1 rfl; have y2 := Y4.out.cell 2 rfl; have y3 := Y4.out.cell 3 rfl; have y4 := Y4.out.cell 4 rfl; have y5 := Y4.out.cell 5 rfl; have yz0 := Y4.out.frozen 0; have yz1 := Y4.out.frozen 1; have yz2 := Y4.out.frozen 2; have yz3 := Y4.out.frozen 3; have yz4 := Y4.out.frozen 4; have yz5 := Y4.out.frozen 5
        go_wp2
        obtain ⟨W9, hW9⟩ : ∃ W9, W9 = (((((( W4.setCell ⟨w.heap.size, 0, none⟩ (.int .i64 x1)).setCell ⟨w.heap.size, 1, none⟩ (.int .i64 x2)).setCell ⟨w.heap.size, 2, none⟩ (.int .i64 x3)).setCell ⟨w.heap.size, 3, none⟩ (.bool true)).setCell ⟨w.heap.size, 4, none⟩ (.int .i64 m')).setCell ⟨w.heap.size, 5, none⟩ (.int .i64 h')) := ⟨_, rfl⟩
        have B9 : Btw (w.heap.size) (w.heap.size + 1) W4 W9 := by rw [hW9]; exact (Btw.refl _ _ _).put.put.put.put.put.put
        have Y9 : Hid (Box W9 w.heap.size 24 #[.int .i64 x1, .int .i64 x2, .int .i64 x3, .bool true, .int .i64 m', .int .i64 h']) := Lib.hid (by rw [hW9]; exact (Y4.out.all6 rfl _ _ _ _ _ _))
        have b9 := B9.below (Nat.le_of_lt Y4.out.lt)
        have S9 := Lib.hid (S4.out.below b9 HLw.out)
        have H9 := Lib.hid (btw_belowR HB4.out b9 (Nat.le_refl _))
        have a9 := HM.out
        rw [← hW9]
        clear a0 a1 a2 a3 a4 a5 y0 y1 y2 y3 y4 y5 yz0 yz1 yz2 yz3 yz4 yz5 hW9 B9 b9
        have y0 := Y9.out.cell 0 rfl; have y1 := Y9.out.cell 1 rfl; have y2 := Y9.out.cell 2 rfl; have y3 := Y9.out.cell 3 rfl; have y4 := Y9.out.cell 4 rfl; have y5 := Y9.out.cell 5 rfl
        refine bodyPost_ret (v := .agg #[.int .i64 x1, .int .i64 x2, .int .i64 x3, .bool true, .int .i64 m', .int .i64 h']) (by simp [results, Try.results28, go_sem, y0, y1, y2, y3, y4, y5]) rfl ?_
        exact ⟨_, _, _, _, _, _, rfl, Lib.hid (by have := HMm.out; have := HMh.out; simp [rtcB, rg]; omega), Lib.hid S9.out.drew, H9.out.drew⟩

def GivesClock (w : World) (e : Ending) (w' : World) : Prop :=
  ∃ (d0 d1 d2 : Int) (d3 : Bool) (d4 d5 : Int), e = .returned (.agg #[.int .i64 d0, .int .i64 d1, .int .i64 d2, .bool d3, .int .i64 d4, .int .i64 d5]) ∧ Hid (rtcB d0 d1 d2 d4 d5 = true) ∧ Below w.heap.size w w'
set_option maxRecDepth 100000 in
set_option maxHeartbeats 4000000 in
theorem rtcDrawn (A : Option Addr) (n c : Nat) (zs : List Nat) (w : World) (hn : n ≤ maxLen) (hl : zs.length = n) (h : ByB w w.heap.size A zs) :
    Calls Try.prog 11 #[.slice A n c] w (GivesClock w) := by
  have hb0 := alloc_below w (.cells #[.int .i64 0, .int .i64 0, .int .i64 0, .bool false, .int .i64 0, .int .i64 0] 24)
  obtain ⟨w0, hw0⟩ : ∃ w0, w0 = w.alloc (.cells #[.int .i64 0, .int .i64 0, .int .i64 0, .bool false, .int .i64 0, .int .i64 0] 24) := ⟨_, rfl⟩
  have Y0 : Hid (Box w0 w.heap.size 24 #[.int .i64 0, .int .i64 0, .int .i64 0, .bool false, .int .i64 0, .int .i64 0]) := Lib.hid (by rw [hw0]; exact Box.new _ _ _)
  rw [← hw0] at hb0
  have HC := Lib.hid (srcNew A n c zs w0 hn hl (h.step hb0))
  have HF := Lib.hid (fun W (h : Src W w0.heap.size A n c zs 0) => srcRtc w0.heap.size A n c zs 0 W (by omega) h)
  unfold GivesRtc at HF
  have HW0 := Lib.hid hw0
  clear hn hl h hw0
  go_enter Try.func11, Try.ntmps11
  go_wp2_with fail
  rw [← HW0.out]
  refine HC.out.mono ?_
  rintro e w1 ⟨rfl, S1, hb1⟩
  have hb2 := bt hb0 hb1
  have Y1 := Lib.hid (Y0.out.step hb1)
  have HZ := Lib.hid hb1.size
  have HY := Lib.hid Y0.out.lt
  clear hb0 Y0 HC HW0
  go_wp2_with fail
  refine (HF.out w1 S1.out).mono ?_
  rintro e w2 ⟨d0, d1, d2, d3, d4, d5, rfl, HD, HO, HR⟩
  have Y2 := Lib.hid (Y1.out.btw HR (.inl HY.out))
  have hb3 := hb2.trans ((HR.below HZ.out).mono (Nat.le_of_lt HY.out))
  clear Y1 hb2 HF S1 hb1 HO HR
  have y0 := Y2.out.cell 0 rfl; have y1 := Y2.out.cell 1 rfl; have y2 := Y2.out.cell 2 rfl; have y3 := Y2.out.cell 3 rfl; have y4 := Y2.out.cell 4 rfl; have y5 := Y2.out.cell 5 rfl; have yz0 := Y2.out.frozen 0; have yz1 := Y2.out.frozen 1; have yz2 := Y2.out.frozen 2; have yz3 := Y2.out.frozen 3; have yz4 := Y2.out.frozen 4; have yz5 := Y2.out.frozen 5
  go_wp2
  obtain ⟨W9, hW9⟩ : ∃ W9, W9 = (((((( w2.setCell ⟨w.heap.size, 0, none⟩ (.int .i64 d0)).setCell ⟨w.heap.size, 1, none⟩ (.int .i64 d1)).setCell ⟨w.heap.size, 2, none⟩ (.int .i64 d2)).setCell ⟨w.heap.size, 3, none⟩ (.bool d3)).setCell ⟨w.heap.size, 4, none⟩ (.int .i64 d4)).setCell ⟨w.heap.size, 5, none⟩ (.int .i64 d5)) := ⟨_, rfl⟩
  have B9 : Btw (w.heap.size) (w.heap.size + 1) w2 W9 := by rw [hW9]; exact (Btw.refl _ _ _).put.put.put.put.put.put
  have Y9 : Hid (Box W9 w.heap.size 24 #[.int .i64 d0, .int .i64 d1, .int .i64 d2, .bool d3, .int .i64 d4, .int .i64 d5]) := Lib.hid (by rw [hW9]; exact (Y2.out.all6 rfl _ _ _ _ _ _))
  have hb9 := hb3.trans (B9.below (Nat.le_of_lt Y2.out.lt))
  rw [← hW9]
  clear y0 y1 y2 y3 y4 y5 yz0 yz1 yz2 yz3 yz4 yz5 hW9 B9
  have y0 := Y9.out.cell 0 rfl; have y1 := Y9.out.cell 1 rfl; have y2 := Y9.out.cell 2 rfl; have y3 := Y9.out.cell 3 rfl; have y4 := Y9.out.cell 4 rfl; have y5 := Y9.out.cell 5 rfl
  refine bodyPost_ret (v := .agg #[.int .i64 d0, .int .i64 d1, .int .i64 d2, .bool d3, .int .i64 d4, .int .i64 d5]) (by simp [results, Try.results11, go_sem, y0, y1, y2, y3, y4, y5]) rfl ?_
  exact ⟨_, _, _, _, _, _, rfl, HD, hb9⟩
end Go.Proofs.Ytophgbjbinaekaa

/- The alarm, and a second more of the model's; TickRtc and SetAlarm, both sides. Written by gen_rtctick.py. -/
namespace Go.Proofs.Ytophgbjbinaekaa
open Go.RowKit

set_option maxRecDepth 100000 in
set_option maxHeartbeats 4000000 in
theorem rtcRings (d0 d1 d2 : Int) (d3 : Bool) (d4 d5 : Int) (w : World) : Calls Try.prog 31 #[.agg #[.int .i64 d0, .int .i64 d1, .int .i64 d2, .bool d3, .int .i64 d4, .int .i64 d5]] w fun e w' => e = .returned (.bool (ringB d0 d1 d2 d3 d4 d5)) ∧ Below w.heap.size w w' := by
  have HN := Lib.hid (fun W => rtc_now d0 d1 d2 d3 d4 d5 W)
  have HA := Lib.hid (fun W => rtc_alarm d0 d1 d2 d3 d4 d5 W)
  obtain ⟨W1, hW1⟩ : ∃ W1, W1 = w.alloc (.cells #[.int .i64 d0, .int .i64 d1, .int .i64 d2, .bool d3, .int .i64 d4, .int .i64 d5] 24) := ⟨_, rfl⟩
  have X1 : Hid (Box W1 w.heap.size 24 #[.int .i64 d0, .int .i64 d1, .int .i64 d2, .bool d3, .int .i64 d4, .int .i64 d5]) := Lib.hid (by rw [hW1]; exact Box.new _ _ _)
  have hb0 : Below w.heap.size w W1 := by rw [hW1]; exact alloc_below w _
  have HW := Lib.hid hW1
  clear hW1
  cases d3 with
  | false =>
    rw [show ringB d0 d1 d2 false d4 d5 = false from rfl]
    go_enter Try.func31, Try.ntmps31
    go_wp2_with fail
    rw [← HW.out]
    have s0 := X1.out.cell 0 rfl; have s1 := X1.out.cell 1 rfl; have s2 := X1.out.cell 2 rfl; have s3 := X1.out.cell 3 rfl; have s4 := X1.out.cell 4 rfl; have s5 := X1.out.cell 5 rfl
    have h6 : Below W1.heap.size W1 W1.drew := (Below.refl _ _).drew
    go_region
    go_wp2
    go_ret
    exact ⟨rfl, bt hb0 h6⟩
  | true =>
    by_cases a : d2 = d5
    · subst a
      by_cases b : d1 = d4
      · subst b
        by_cases c : d0 = 0
        · subst c
          have HR : Hid (ringB 0 d1 d2 true d1 d2 = true) := Lib.hid (by simp [ringB])
          go_enter Try.func31, Try.ntmps31
          go_wp2_with fail
          rw [← HW.out]
          have s0 := X1.out.cell 0 rfl; have s1 := X1.out.cell 1 rfl; have s2 := X1.out.cell 2 rfl; have s3 := X1.out.cell 3 rfl; have s4 := X1.out.cell 4 rfl; have s5 := X1.out.cell 5 rfl
          have HK := Lib.hid (fun W' (hb : Below W1.heap.size W1 W') => And.intro ((hb.cell (cell_lt s0)).trans s0) (And.intro ((hb.cell (cell_lt s1)).trans s1) (And.intro ((hb.cell (cell_lt s2)).trans s2) (And.intro ((hb.cell (cell_lt s3)).trans s3) (And.intro ((hb.cell (cell_lt s4)).trans s4) ((hb.cell (cell_lt s5)).trans s5))))))
          have h6 : Below W1.heap.size W1 W1.drew := (Below.refl _ _).drew
          go_region_held3 (fun W => W.cell? ⟨w.heap.size, 0, none⟩ = some (.int .i64 0) ∧ W.cell? ⟨w.heap.size, 1, none⟩ = some (.int .i64 d1) ∧ W.cell? ⟨w.heap.size, 2, none⟩ = some (.int .i64 d2) ∧ W.cell? ⟨w.heap.size, 3, none⟩ = some (.bool true) ∧ W.cell? ⟨w.heap.size, 4, none⟩ = some (.int .i64 d1) ∧ W.cell? ⟨w.heap.size, 5, none⟩ = some (.int .i64 d2))
            (first | exact HK.out _ h6 | exact HK.out _ (bt h6 hb2) | exact HK.out _ (bt (bt h6 hb2) hb3))
            (first | (go_at_call 33; refine (HN.out _).mono ?_; rintro e w2 ⟨rfl, hb2⟩) | (go_at_call 36; refine (HA.out _).mono ?_; rintro e w3 ⟨rfl, hb3⟩))
          go_wp2
          go_ret
          exact ⟨ret_bool HR.out.symm, bt hb0 (bt (bt h6 hb2) hb3)⟩
        · skip
          have HR : Hid (ringB d0 d1 d2 true d1 d2 = false) := Lib.hid (by simp [ringB, c])
          go_enter Try.func31, Try.ntmps31
          go_wp2_with fail
          rw [← HW.out]
          have s0 := X1.out.cell 0 rfl; have s1 := X1.out.cell 1 rfl; have s2 := X1.out.cell 2 rfl; have s3 := X1.out.cell 3 rfl; have s4 := X1.out.cell 4 rfl; have s5 := X1.out.cell 5 rfl
          have HK := Lib.hid (fun W' (hb : Below W1.heap.size W1 W') => And.intro ((hb.cell (cell_lt s0)).trans s0) (And.intro ((hb.cell (cell_lt s1)).trans s1) (And.intro ((hb.cell (cell_lt s2)).trans s2) (And.intro ((hb.cell (cell_lt s3)).trans s3) (And.intro ((hb.cell (cell_lt s4)).trans s4) ((hb.cell (cell_lt s5)).trans s5))))))
          have h6 : Below W1.heap.size W1 W1.drew := (Below.refl _ _).drew
          go_region_held3 (fun W => W.cell? ⟨w.heap.size, 0, none⟩ = some (.int .i64 d0) ∧ W.cell? ⟨w.heap.size, 1, none⟩ = some (.int .i64 d1) ∧ W.cell? ⟨w.heap.size, 2, none⟩ = some (.int .i64 d2) ∧ W.cell? ⟨w.heap.size, 3, none⟩ = some (.bool true) ∧ W.cell? ⟨w.heap.size, 4, none⟩ = some (.int .i64 d1) ∧ W.cell? ⟨w.heap.size, 5, none⟩ = some (.int .i64 d2))
            (first | exact HK.out _ h6 | exact HK.out _ (bt h6 hb2) | exact HK.out _ (bt (bt h6 hb2) hb3))
            (first | (go_at_call 33; refine (HN.out _).mono ?_; rintro e w2 ⟨rfl, hb2⟩) | (go_at_call 36; refine (HA.out _).mono ?_; rintro e w3 ⟨rfl, hb3⟩))
          go_wp2
          go_ret
          exact ⟨ret_bool HR.out.symm, bt hb0 (bt (bt h6 hb2) hb3)⟩
      · skip
        have HR : Hid (ringB d0 d1 d2 true d4 d2 = false) := Lib.hid (by simp [ringB, b])
        go_enter Try.func31, Try.ntmps31
        go_wp2_with fail
        rw [← HW.out]
        have s0 := X1.out.cell 0 rfl; have s1 := X1.out.cell 1 rfl; have s2 := X1.out.cell 2 rfl; have s3 := X1.out.cell 3 rfl; have s4 := X1.out.cell 4 rfl; have s5 := X1.out.cell 5 rfl
        have HK := Lib.hid (fun W' (hb : Below W1.heap.size W1 W') => And.intro ((hb.cell (cell_lt s0)).trans s0) (And.intro ((hb.cell (cell_lt s1)).trans s1) (And.intro ((hb.cell (cell_lt s2)).trans s2) (And.intro ((hb.cell (cell_lt s3)).trans s3) (And.intro ((hb.cell (cell_lt s4)).trans s4) ((hb.cell (cell_lt s5)).trans s5))))))
        have h6 : Below W1.heap.size W1 W1.drew := (Below.refl _ _).drew
        go_region_held3 (fun W => W.cell? ⟨w.heap.size, 0, none⟩ = some (.int .i64 d0) ∧ W.cell? ⟨w.heap.size, 1, none⟩ = some (.int .i64 d1) ∧ W.cell? ⟨w.heap.size, 2, none⟩ = some (.int .i64 d2) ∧ W.cell? ⟨w.heap.size, 3, none⟩ = some (.bool true) ∧ W.cell? ⟨w.heap.size, 4, none⟩ = some (.int .i64 d4) ∧ W.cell? ⟨w.heap.size, 5, none⟩ = some (.int .i64 d2))
          (first | exact HK.out _ h6 | exact HK.out _ (bt h6 hb2) | exact HK.out _ (bt (bt h6 hb2) hb3))
          (first | (go_at_call 33; refine (HN.out _).mono ?_; rintro e w2 ⟨rfl, hb2⟩) | (go_at_call 36; refine (HA.out _).mono ?_; rintro e w3 ⟨rfl, hb3⟩))
        go_wp2
        go_ret
        exact ⟨ret_bool HR.out.symm, bt hb0 (bt (bt h6 hb2) hb3)⟩
    · skip
      have HR : Hid (ringB d0 d1 d2 true d4 d5 = false) := Lib.hid (by simp [ringB, a])
      go_enter Try.func31, Try.ntmps31
      go_wp2_with fail
      rw [← HW.out]
      have s0 := X1.out.cell 0 rfl; have s1 := X1.out.cell 1 rfl; have s2 := X1.out.cell 2 rfl; have s3 := X1.out.cell 3 rfl; have s4 := X1.out.cell 4 rfl; have s5 := X1.out.cell 5 rfl
      have HK := Lib.hid (fun W' (hb : Below W1.heap.size W1 W') => And.intro ((hb.cell (cell_lt s0)).trans s0) (And.intro ((hb.cell (cell_lt s1)).trans s1) (And.intro ((hb.cell (cell_lt s2)).trans s2) (And.intro ((hb.cell (cell_lt s3)).trans s3) (And.intro ((hb.cell (cell_lt s4)).trans s4) ((hb.cell (cell_lt s5)).trans s5))))))
      have h6 : Below W1.heap.size W1 W1.drew := (Below.refl _ _).drew
      go_region_held3 (fun W => W.cell? ⟨w.heap.size, 0, none⟩ = some (.int .i64 d0) ∧ W.cell? ⟨w.heap.size, 1, none⟩ = some (.int .i64 d1) ∧ W.cell? ⟨w.heap.size, 2, none⟩ = some (.int .i64 d2) ∧ W.cell? ⟨w.heap.size, 3, none⟩ = some (.bool true) ∧ W.cell? ⟨w.heap.size, 4, none⟩ = some (.int .i64 d4) ∧ W.cell? ⟨w.heap.size, 5, none⟩ = some (.int .i64 d5))
        (first | exact HK.out _ h6 | exact HK.out _ (bt h6 hb2) | exact HK.out _ (bt (bt h6 hb2) hb3))
        (first | (go_at_call 33; refine (HN.out _).mono ?_; rintro e w2 ⟨rfl, hb2⟩) | (go_at_call 36; refine (HA.out _).mono ?_; rintro e w3 ⟨rfl, hb3⟩))
      go_wp2
      go_ret
      exact ⟨ret_bool HR.out.symm, bt hb0 (bt (bt h6 hb2) hb3)⟩

set_option maxRecDepth 100000 in
set_option maxHeartbeats 8000000 in
theorem l11Tick (d0 d1 d2 : Int) (d3 : Bool) (d4 d5 : Int) (q : MomR d0 d1 d2) (w : World) : Calls Try.prog 32 #[.agg #[.int .i64 d0, .int .i64 d1, .int .i64 d2, .bool d3, .int .i64 d4, .int .i64 d5]] w fun e w' => e = .returned (.tuple #[.agg #[.int .i64 (nxt d0 d1 d2).s, .int .i64 (nxt d0 d1 d2).m, .int .i64 (nxt d0 d1 d2).h, .bool d3, .int .i64 d4, .int .i64 d5], .bool (ringB (nxt d0 d1 d2).s (nxt d0 d1 d2).m (nxt d0 d1 d2).h d3 d4 d5)]) ∧ Below w.heap.size w w' := by
  have HX := Lib.hid (nxt_day q)
  obtain ⟨⟨q1, q2⟩, ⟨q3, q4⟩, q5, q6⟩ := q
  have e1 : IntKind.i64.wrap (d2 * 60) = d2 * 60 := IntWalk.i64_in _ (by omega)
  have e2 : IntKind.i64.wrap (d2 * 60 + d1) = d2 * 60 + d1 := IntWalk.i64_in _ (by omega)
  have e3 : IntKind.i64.wrap ((d2 * 60 + d1) * 60) = (d2 * 60 + d1) * 60 := IntWalk.i64_in _ (by omega)
  have e4 : IntKind.i64.wrap ((d2 * 60 + d1) * 60 + d0) = (d2 * 60 + d1) * 60 + d0 := IntWalk.i64_in _ (by omega)
  have e5 : IntKind.i64.wrap ((d2 * 60 + d1) * 60 + d0 + 1) = (d2 * 60 + d1) * 60 + d0 + 1 := IntWalk.i64_in _ (by omega)
  have e6 : ((d2 * 60 + d1) * 60 + d0 + 1).tmod 86400 = ((d2 * 60 + d1) * 60 + d0 + 1) % 86400 := Int.tmod_eq_emod_of_nonneg (by omega)
  have a1 : 0 ≤ ((d2 * 60 + d1) * 60 + d0 + 1) % 86400 := by omega
  have a2 : ((d2 * 60 + d1) * 60 + d0 + 1) % 86400 < 86400 := by omega
  clear q1 q2 q3 q4 q5 q6
  generalize ((d2 * 60 + d1) * 60 + d0 + 1) % 86400 = A at HX e6 a1 a2
  have e7 : A.tmod 60 = A % 60 := Int.tmod_eq_emod_of_nonneg a1
  have e8 : A.tdiv 60 = A / 60 := Int.tdiv_eq_ediv_of_nonneg a1
  have e9 : IntKind.i64.wrap (A / 60) = A / 60 := IntWalk.i64_in _ (by omega)
  have e10 : (A / 60).tmod 60 = A / 60 % 60 := Int.tmod_eq_emod_of_nonneg (by omega)
  have e11 : A.tdiv 3600 = A / 3600 := Int.tdiv_eq_ediv_of_nonneg a1
  have e12 : IntKind.i64.wrap (A / 3600) = A / 3600 := IntWalk.i64_in _ (by omega)
  rw [HX.out]
  simp only
  generalize A % 60 = rs at e7 ⊢
  generalize A / 60 % 60 = rm at e10 ⊢
  generalize A / 3600 = rh at e11 e12 ⊢
  generalize A / 60 = Q at e8 e9 e10
  clear a1 a2 HX
  obtain ⟨W4, hW4⟩ : ∃ W4, W4 = (w.alloc (.cells #[.int .i64 rs, .int .i64 rm, .int .i64 rh, .bool d3, .int .i64 d4, .int .i64 d5] 24)).alloc (.cells #[.int .i64 0, .int .i64 0, .int .i64 0, .bool false, .int .i64 0, .int .i64 0] 24) := ⟨_, rfl⟩
  have X4 : Hid (Box W4 w.heap.size 24 #[.int .i64 rs, .int .i64 rm, .int .i64 rh, .bool d3, .int .i64 d4, .int .i64 d5]) := Lib.hid (by rw [hW4]; exact (Box.new _ _ _).alloc _)
  have Y4 : Hid (Box W4 (w.heap.size + 1) 24 #[.int .i64 0, .int .i64 0, .int .i64 0, .bool false, .int .i64 0, .int .i64 0]) := Lib.hid (by rw [hW4]; simpa using Box.new (w.alloc (.cells #[.int .i64 rs, .int .i64 rm, .int .i64 rh, .bool d3, .int .i64 d4, .int .i64 d5] 24)) 24 #[.int .i64 0, .int .i64 0, .int .i64 0, .bool false, .int .i64 0, .int .i64 0])
  have hb4 : Below w.heap.size w W4 := by rw [hW4]; exact ((Below.refl _ _).alloc (Nat.le_refl _) _).alloc (by simp) _
  have HW := Lib.hid hW4
  clear hW4
  obtain ⟨u, hu⟩ : ∃ u, ringB rs rm rh d3 d4 d5 = u := ⟨_, rfl⟩
  rw [hu]
  have HU := Lib.hid hu
  clear hu
  go_enter Try.func32, Try.ntmps32
  go_wp2_with fail
  rw [← HW.out]
  clear e1 e2 e3 e4 e5 e6 e7 e8 e9 e10 e11 e12 HW
  cases d3 with
  | false =>
    have s0 := X4.out.cell 0 rfl; have s1 := X4.out.cell 1 rfl; have s2 := X4.out.cell 2 rfl; have s3 := X4.out.cell 3 rfl; have s4 := X4.out.cell 4 rfl; have s5 := X4.out.cell 5 rfl
    have u0 := Y4.out.cell 0 rfl; have u1 := Y4.out.cell 1 rfl; have u2 := Y4.out.cell 2 rfl; have u3 := Y4.out.cell 3 rfl; have u4 := Y4.out.cell 4 rfl; have u5 := Y4.out.cell 5 rfl
    have z0 := Y4.out.frozen 0; have z1 := Y4.out.frozen 1; have z2 := Y4.out.frozen 2; have z3 := Y4.out.frozen 3; have z4 := Y4.out.frozen 4; have z5 := Y4.out.frozen 5
    go_region
    go_wp2
    obtain ⟨W5, hW5⟩ : ∃ W5, W5 = ((((((W4.setCell ⟨w.heap.size + 1, 0, none⟩ (.int .i64 rs)).setCell ⟨w.heap.size + 1, 1, none⟩ (.int .i64 rm)).setCell ⟨w.heap.size + 1, 2, none⟩ (.int .i64 rh)).setCell ⟨w.heap.size + 1, 3, none⟩ (.bool false)).setCell ⟨w.heap.size + 1, 4, none⟩ (.int .i64 d4)).setCell ⟨w.heap.size + 1, 5, none⟩ (.int .i64 d5)) := ⟨_, rfl⟩
    have BW5 : Btw (w.heap.size + 1) (w.heap.size + 1 + 1) W4 W5 := by rw [hW5]; exact (Btw.refl _ _ _).put.put.put.put.put.put
    have Y5 : Hid (Box W5 (w.heap.size + 1) 24 #[.int .i64 rs, .int .i64 rm, .int .i64 rh, .bool false, .int .i64 d4, .int .i64 d5]) := Lib.hid (by rw [hW5]; exact (Y4.out.all6 rfl _ _ _ _ _ _))
    have hb5 := hb4.trans ((BW5.below (Nat.le_of_lt Y4.out.lt)).mono (by omega))
    rw [← hW5]
    clear s0 s1 s2 s3 s4 s5 u0 u1 u2 u3 u4 u5 z0 z1 z2 z3 z4 z5 hW5
    have y0 := Y5.out.cell 0 rfl; have y1 := Y5.out.cell 1 rfl; have y2 := Y5.out.cell 2 rfl; have y3 := Y5.out.cell 3 rfl; have y4 := Y5.out.cell 4 rfl; have y5 := Y5.out.cell 5 rfl
    refine bodyPost_ret (v := .tuple #[.agg #[.int .i64 rs, .int .i64 rm, .int .i64 rh, .bool false, .int .i64 d4, .int .i64 d5], .bool false]) (by simp [results, Try.results32, go_sem, y0, y1, y2, y3, y4, y5]) rfl ?_
    exact ⟨by rw [← HU.out]; simp [ringB], hb5.drew⟩
  | true =>
    by_cases c : rs = 0
    · subst c
      by_cases b : rm = d4
      · subst b
        by_cases a : rh = d5
        · subst a
          have s0 := X4.out.cell 0 rfl; have s1 := X4.out.cell 1 rfl; have s2 := X4.out.cell 2 rfl; have s3 := X4.out.cell 3 rfl; have s4 := X4.out.cell 4 rfl; have s5 := X4.out.cell 5 rfl
          have u0 := Y4.out.cell 0 rfl; have u1 := Y4.out.cell 1 rfl; have u2 := Y4.out.cell 2 rfl; have u3 := Y4.out.cell 3 rfl; have u4 := Y4.out.cell 4 rfl; have u5 := Y4.out.cell 5 rfl
          have z0 := Y4.out.frozen 0; have z1 := Y4.out.frozen 1; have z2 := Y4.out.frozen 2; have z3 := Y4.out.frozen 3; have z4 := Y4.out.frozen 4; have z5 := Y4.out.frozen 5
          go_region
          go_wp2
          obtain ⟨W5, hW5⟩ : ∃ W5, W5 = ((((((W4.setCell ⟨w.heap.size + 1, 0, none⟩ (.int .i64 0)).setCell ⟨w.heap.size + 1, 1, none⟩ (.int .i64 rm)).setCell ⟨w.heap.size + 1, 2, none⟩ (.int .i64 rh)).setCell ⟨w.heap.size + 1, 3, none⟩ (.bool true)).setCell ⟨w.heap.size + 1, 4, none⟩ (.int .i64 rm)).setCell ⟨w.heap.size + 1, 5, none⟩ (.int .i64 rh)) := ⟨_, rfl⟩
          have BW5 : Btw (w.heap.size + 1) (w.heap.size + 1 + 1) W4 W5 := by rw [hW5]; exact (Btw.refl _ _ _).put.put.put.put.put.put
          have Y5 : Hid (Box W5 (w.heap.size + 1) 24 #[.int .i64 0, .int .i64 rm, .int .i64 rh, .bool true, .int .i64 rm, .int .i64 rh]) := Lib.hid (by rw [hW5]; exact (Y4.out.all6 rfl _ _ _ _ _ _))
          have hb5 := hb4.trans ((BW5.below (Nat.le_of_lt Y4.out.lt)).mono (by omega))
          rw [← hW5]
          clear s0 s1 s2 s3 s4 s5 u0 u1 u2 u3 u4 u5 z0 z1 z2 z3 z4 z5 hW5
          have y0 := Y5.out.cell 0 rfl; have y1 := Y5.out.cell 1 rfl; have y2 := Y5.out.cell 2 rfl; have y3 := Y5.out.cell 3 rfl; have y4 := Y5.out.cell 4 rfl; have y5 := Y5.out.cell 5 rfl
          refine bodyPost_ret (v := .tuple #[.agg #[.int .i64 0, .int .i64 rm, .int .i64 rh, .bool true, .int .i64 rm, .int .i64 rh], .bool true]) (by simp [results, Try.results32, go_sem, y0, y1, y2, y3, y4, y5]) rfl ?_
          exact ⟨by rw [← HU.out]; simp [ringB], hb5.drew⟩
        · have a2 : (rh == d5) = false := by simpa using a
          have s0 := X4.out.cell 0 rfl; have s1 := X4.out.cell 1 rfl; have s2 := X4.out.cell 2 rfl; have s3 := X4.out.cell 3 rfl; have s4 := X4.out.cell 4 rfl; have s5 := X4.out.cell 5 rfl
          have u0 := Y4.out.cell 0 rfl; have u1 := Y4.out.cell 1 rfl; have u2 := Y4.out.cell 2 rfl; have u3 := Y4.out.cell 3 rfl; have u4 := Y4.out.cell 4 rfl; have u5 := Y4.out.cell 5 rfl
          have z0 := Y4.out.frozen 0; have z1 := Y4.out.frozen 1; have z2 := Y4.out.frozen 2; have z3 := Y4.out.frozen 3; have z4 := Y4.out.frozen 4; have z5 := Y4.out.frozen 5
          go_region
          go_wp2
          obtain ⟨W5, hW5⟩ : ∃ W5, W5 = ((((((W4.setCell ⟨w.heap.size + 1, 0, none⟩ (.int .i64 0)).setCell ⟨w.heap.size + 1, 1, none⟩ (.int .i64 rm)).setCell ⟨w.heap.size + 1, 2, none⟩ (.int .i64 rh)).setCell ⟨w.heap.size + 1, 3, none⟩ (.bool true)).setCell ⟨w.heap.size + 1, 4, none⟩ (.int .i64 rm)).setCell ⟨w.heap.size + 1, 5, none⟩ (.int .i64 d5)) := ⟨_, rfl⟩
          have BW5 : Btw (w.heap.size + 1) (w.heap.size + 1 + 1) W4 W5 := by rw [hW5]; exact (Btw.refl _ _ _).put.put.put.put.put.put
          have Y5 : Hid (Box W5 (w.heap.size + 1) 24 #[.int .i64 0, .int .i64 rm, .int .i64 rh, .bool true, .int .i64 rm, .int .i64 d5]) := Lib.hid (by rw [hW5]; exact (Y4.out.all6 rfl _ _ _ _ _ _))
          have hb5 := hb4.trans ((BW5.below (Nat.le_of_lt Y4.out.lt)).mono (by omega))
          rw [← hW5]
          clear s0 s1 s2 s3 s4 s5 u0 u1 u2 u3 u4 u5 z0 z1 z2 z3 z4 z5 hW5
          have y0 := Y5.out.cell 0 rfl; have y1 := Y5.out.cell 1 rfl; have y2 := Y5.out.cell 2 rfl; have y3 := Y5.out.cell 3 rfl; have y4 := Y5.out.cell 4 rfl; have y5 := Y5.out.cell 5 rfl
          refine bodyPost_ret (v := .tuple #[.agg #[.int .i64 0, .int .i64 rm, .int .i64 rh, .bool true, .int .i64 rm, .int .i64 d5], .bool false]) (by simp [results, Try.results32, go_sem, y0, y1, y2, y3, y4, y5]) rfl ?_
          exact ⟨by rw [← HU.out]; simp [ringB, a], hb5.drew⟩
      · have b2 : (rm == d4) = false := by simpa using b
        have s0 := X4.out.cell 0 rfl; have s1 := X4.out.cell 1 rfl; have s2 := X4.out.cell 2 rfl; have s3 := X4.out.cell 3 rfl; have s4 := X4.out.cell 4 rfl; have s5 := X4.out.cell 5 rfl
        have u0 := Y4.out.cell 0 rfl; have u1 := Y4.out.cell 1 rfl; have u2 := Y4.out.cell 2 rfl; have u3 := Y4.out.cell 3 rfl; have u4 := Y4.out.cell 4 rfl; have u5 := Y4.out.cell 5 rfl
        have z0 := Y4.out.frozen 0; have z1 := Y4.out.frozen 1; have z2 := Y4.out.frozen 2; have z3 := Y4.out.frozen 3; have z4 := Y4.out.frozen 4; have z5 := Y4.out.frozen 5
        go_region
        go_wp2
        obtain ⟨W5, hW5⟩ : ∃ W5, W5 = ((((((W4.setCell ⟨w.heap.size + 1, 0, none⟩ (.int .i64 0)).setCell ⟨w.heap.size + 1, 1, none⟩ (.int .i64 rm)).setCell ⟨w.heap.size + 1, 2, none⟩ (.int .i64 rh)).setCell ⟨w.heap.size + 1, 3, none⟩ (.bool true)).setCell ⟨w.heap.size + 1, 4, none⟩ (.int .i64 d4)).setCell ⟨w.heap.size + 1, 5, none⟩ (.int .i64 d5)) := ⟨_, rfl⟩
        have BW5 : Btw (w.heap.size + 1) (w.heap.size + 1 + 1) W4 W5 := by rw [hW5]; exact (Btw.refl _ _ _).put.put.put.put.put.put
        have Y5 : Hid (Box W5 (w.heap.size + 1) 24 #[.int .i64 0, .int .i64 rm, .int .i64 rh, .bool true, .int .i64 d4, .int .i64 d5]) := Lib.hid (by rw [hW5]; exact (Y4.out.all6 rfl _ _ _ _ _ _))
        have hb5 := hb4.trans ((BW5.below (Nat.le_of_lt Y4.out.lt)).mono (by omega))
        rw [← hW5]
        clear s0 s1 s2 s3 s4 s5 u0 u1 u2 u3 u4 u5 z0 z1 z2 z3 z4 z5 hW5
        have y0 := Y5.out.cell 0 rfl; have y1 := Y5.out.cell 1 rfl; have y2 := Y5.out.cell 2 rfl; have y3 := Y5.out.cell 3 rfl; have y4 := Y5.out.cell 4 rfl; have y5 := Y5.out.cell 5 rfl
        refine bodyPost_ret (v := .tuple #[.agg #[.int .i64 0, .int .i64 rm, .int .i64 rh, .bool true, .int .i64 d4, .int .i64 d5], .bool false]) (by simp [results, Try.results32, go_sem, y0, y1, y2, y3, y4, y5]) rfl ?_
        exact ⟨by rw [← HU.out]; simp [ringB, b], hb5.drew⟩
    · have c2 : (rs == 0) = false := by simpa using c
      have s0 := X4.out.cell 0 rfl; have s1 := X4.out.cell 1 rfl; have s2 := X4.out.cell 2 rfl; have s3 := X4.out.cell 3 rfl; have s4 := X4.out.cell 4 rfl; have s5 := X4.out.cell 5 rfl
      have u0 := Y4.out.cell 0 rfl; have u1 := Y4.out.cell 1 rfl; have u2 := Y4.out.cell 2 rfl; have u3 := Y4.out.cell 3 rfl; have u4 := Y4.out.cell 4 rfl; have u5 := Y4.out.cell 5 rfl
      have z0 := Y4.out.frozen 0; have z1 := Y4.out.frozen 1; have z2 := Y4.out.frozen 2; have z3 := Y4.out.frozen 3; have z4 := Y4.out.frozen 4; have z5 := Y4.out.frozen 5
      go_region
      go_wp2
      obtain ⟨W5, hW5⟩ : ∃ W5, W5 = ((((((W4.setCell ⟨w.heap.size + 1, 0, none⟩ (.int .i64 rs)).setCell ⟨w.heap.size + 1, 1, none⟩ (.int .i64 rm)).setCell ⟨w.heap.size + 1, 2, none⟩ (.int .i64 rh)).setCell ⟨w.heap.size + 1, 3, none⟩ (.bool true)).setCell ⟨w.heap.size + 1, 4, none⟩ (.int .i64 d4)).setCell ⟨w.heap.size + 1, 5, none⟩ (.int .i64 d5)) := ⟨_, rfl⟩
      have BW5 : Btw (w.heap.size + 1) (w.heap.size + 1 + 1) W4 W5 := by rw [hW5]; exact (Btw.refl _ _ _).put.put.put.put.put.put
      have Y5 : Hid (Box W5 (w.heap.size + 1) 24 #[.int .i64 rs, .int .i64 rm, .int .i64 rh, .bool true, .int .i64 d4, .int .i64 d5]) := Lib.hid (by rw [hW5]; exact (Y4.out.all6 rfl _ _ _ _ _ _))
      have hb5 := hb4.trans ((BW5.below (Nat.le_of_lt Y4.out.lt)).mono (by omega))
      rw [← hW5]
      clear s0 s1 s2 s3 s4 s5 u0 u1 u2 u3 u4 u5 z0 z1 z2 z3 z4 z5 hW5
      have y0 := Y5.out.cell 0 rfl; have y1 := Y5.out.cell 1 rfl; have y2 := Y5.out.cell 2 rfl; have y3 := Y5.out.cell 3 rfl; have y4 := Y5.out.cell 4 rfl; have y5 := Y5.out.cell 5 rfl
      refine bodyPost_ret (v := .tuple #[.agg #[.int .i64 rs, .int .i64 rm, .int .i64 rh, .bool true, .int .i64 d4, .int .i64 d5], .bool false]) (by simp [results, Try.results32, go_sem, y0, y1, y2, y3, y4, y5]) rfl ?_
      exact ⟨by rw [← HU.out]; simp [ringB, c], hb5.drew⟩

end Go.Proofs.Ytophgbjbinaekaa

/- TickRtc and SetAlarm, both sides. Written by gen_rtctick.py. -/
namespace Go.Proofs.Ytophgbjbinaekaa
open Go.RowKit

structure TK where
  s : Int
  m : Int
  h : Int
  a : Bool
  am : Int
  ah : Int
  b : Bool
  c : Int
def tk (d0 d1 d2 : Int) (d3 : Bool) (d4 d5 : Int) : TK := if rtcB d0 d1 d2 d4 d5 then ⟨(nxt d0 d1 d2).s, (nxt d0 d1 d2).m, (nxt d0 d1 d2).h, d3, d4, d5, ringB (nxt d0 d1 d2).s (nxt d0 d1 d2).m (nxt d0 d1 d2).h d3 d4 d5, 0⟩ else ⟨0, 0, 0, false, 0, 0, false, 1⟩
def sa (d0 d1 d2 : Int) (d4 d5 hr mn : Int) : TK := if rtcB d0 d1 d2 d4 d5 then (if rg hr 23 && rg mn 59 then ⟨d0, d1, d2, true, mn, hr, false, 0⟩ else ⟨0, 0, 0, false, 0, 0, false, 4⟩) else ⟨0, 0, 0, false, 0, 0, false, 1⟩


set_option maxRecDepth 100000 in
set_option maxHeartbeats 8000000 in
theorem specTickRtcA (d0 d1 d2 : Int) (d3 : Bool) (d4 d5 : Int) (w : World) : Calls Try.prog 13 #[.agg #[.int .i64 d0, .int .i64 d1, .int .i64 d2, .bool d3, .int .i64 d4, .int .i64 d5]] w fun e w' => e = .returned (.tuple #[.agg #[.int .i64 (tk d0 d1 d2 d3 d4 d5).s, .int .i64 (tk d0 d1 d2 d3 d4 d5).m, .int .i64 (tk d0 d1 d2 d3 d4 d5).h, .bool (tk d0 d1 d2 d3 d4 d5).a, .int .i64 (tk d0 d1 d2 d3 d4 d5).am, .int .i64 (tk d0 d1 d2 d3 d4 d5).ah], .bool (tk d0 d1 d2 d3 d4 d5).b, .int .i64 (tk d0 d1 d2 d3 d4 d5).c]) ∧ Below w.heap.size w w' := by
  obtain ⟨W1, hW1⟩ : ∃ W1, W1 = (w.alloc (.cells #[.int .i64 d0, .int .i64 d1, .int .i64 d2, .bool d3, .int .i64 d4, .int .i64 d5] 24)).alloc (.cells #[.int .i64 0, .int .i64 0, .int .i64 0, .bool false, .int .i64 0, .int .i64 0] 24) := ⟨_, rfl⟩
  have X1 : Hid (Box W1 w.heap.size 24 #[.int .i64 d0, .int .i64 d1, .int .i64 d2, .bool d3, .int .i64 d4, .int .i64 d5]) := Lib.hid (by rw [hW1]; exact (Box.new _ _ _).alloc _)
  have Y1 : Hid (Box W1 (w.heap.size + 1) 24 #[.int .i64 0, .int .i64 0, .int .i64 0, .bool false, .int .i64 0, .int .i64 0]) := Lib.hid (by rw [hW1]; simpa using Box.new (w.alloc (.cells #[.int .i64 d0, .int .i64 d1, .int .i64 d2, .bool d3, .int .i64 d4, .int .i64 d5] 24)) 24 #[.int .i64 0, .int .i64 0, .int .i64 0, .bool false, .int .i64 0, .int .i64 0])
  have hb0 : Below w.heap.size w W1 := by rw [hW1]; exact ((Below.refl _ _).alloc (Nat.le_refl _) _).alloc (by simp) _
  have HW := Lib.hid hW1
  clear hW1
  have HV := Lib.hid (fun W => specRtcOKA d0 d1 d2 d3 d4 d5 W)
  cases hv : rtcB d0 d1 d2 d4 d5 with
  | false =>
    have HR : Hid (tk d0 d1 d2 d3 d4 d5 = ⟨0, 0, 0, false, 0, 0, false, 1⟩) := Lib.hid (by simp [tk, hv])
    rw [hv] at HV
    go_enter Try.func13, Try.ntmps13
    go_wp2_with fail
    have s0 := X1.out.cell 0 rfl; have s1 := X1.out.cell 1 rfl; have s2 := X1.out.cell 2 rfl; have s3 := X1.out.cell 3 rfl; have s4 := X1.out.cell 4 rfl; have s5 := X1.out.cell 5 rfl
    rw [← HW.out]
    go_wp2_with fail
    refine (HV.out _).mono ?_
    rintro e w2 ⟨rfl, hc2⟩
    have Y2 := Lib.hid (Y1.out.step hc2)
    have hb2 := bt hb0 hc2
    clear X1 Y1 hb0 hc2 s0 s1 s2 s3 s4 s5 HW HV
    have u0 := Y2.out.cell 0 rfl; have u1 := Y2.out.cell 1 rfl; have u2 := Y2.out.cell 2 rfl; have u3 := Y2.out.cell 3 rfl; have u4 := Y2.out.cell 4 rfl; have u5 := Y2.out.cell 5 rfl
    have z0 := Y2.out.frozen 0; have z1 := Y2.out.frozen 1; have z2 := Y2.out.frozen 2; have z3 := Y2.out.frozen 3; have z4 := Y2.out.frozen 4; have z5 := Y2.out.frozen 5
    go_wp2
    obtain ⟨W9, hW9⟩ : ∃ W9, W9 = ((((((w2.setCell ⟨w.heap.size + 1, 0, none⟩ (.int .i64 0)).setCell ⟨w.heap.size + 1, 1, none⟩ (.int .i64 0)).setCell ⟨w.heap.size + 1, 2, none⟩ (.int .i64 0)).setCell ⟨w.heap.size + 1, 3, none⟩ (.bool false)).setCell ⟨w.heap.size + 1, 4, none⟩ (.int .i64 0)).setCell ⟨w.heap.size + 1, 5, none⟩ (.int .i64 0)) := ⟨_, rfl⟩
    have BW9 : Btw (w.heap.size + 1) (w.heap.size + 1 + 1) w2 W9 := by rw [hW9]; exact (Btw.refl _ _ _).put.put.put.put.put.put
    have Y9 : Hid (Box W9 (w.heap.size + 1) 24 #[.int .i64 0, .int .i64 0, .int .i64 0, .bool false, .int .i64 0, .int .i64 0]) := Lib.hid (by rw [hW9]; exact (Y2.out.all6 rfl _ _ _ _ _ _))
    have hb9 := hb2.trans ((BW9.below (Nat.le_of_lt Y2.out.lt)).mono (by omega))
    rw [← hW9]
    clear u0 u1 u2 u3 u4 u5 z0 z1 z2 z3 z4 z5 hW9
    have y0 := Y9.out.cell 0 rfl; have y1 := Y9.out.cell 1 rfl; have y2 := Y9.out.cell 2 rfl; have y3 := Y9.out.cell 3 rfl; have y4 := Y9.out.cell 4 rfl; have y5 := Y9.out.cell 5 rfl
    refine bodyPost_ret (v := .tuple #[.agg #[.int .i64 0, .int .i64 0, .int .i64 0, .bool false, .int .i64 0, .int .i64 0], .bool false, .int .i64 1]) (by simp [results, Try.results13, go_sem, y0, y1, y2, y3, y4, y5]) rfl ?_
    exact ⟨by rw [HR.out], hb9⟩
  | true =>
    have q := momR_of hv
    have HR : Hid (tk d0 d1 d2 d3 d4 d5 = ⟨(nxt d0 d1 d2).s, (nxt d0 d1 d2).m, (nxt d0 d1 d2).h, d3, d4, d5, ringB (nxt d0 d1 d2).s (nxt d0 d1 d2).m (nxt d0 d1 d2).h d3 d4 d5, 0⟩) := Lib.hid (by simp [tk, hv])
    rw [hv] at HV
    have HT := Lib.hid (fun W => l11Tick d0 d1 d2 d3 d4 d5 q W)
    clear q
    generalize tk d0 d1 d2 d3 d4 d5 = K at HR ⊢
    generalize ringB (nxt d0 d1 d2).s (nxt d0 d1 d2).m (nxt d0 d1 d2).h d3 d4 d5 = rb at HT HR
    generalize nxt d0 d1 d2 = r at HT HR
    obtain ⟨rs, rm, rh⟩ := r
    simp only at HT HR
    go_enter Try.func13, Try.ntmps13
    go_wp2_with fail
    have s0 := X1.out.cell 0 rfl; have s1 := X1.out.cell 1 rfl; have s2 := X1.out.cell 2 rfl; have s3 := X1.out.cell 3 rfl; have s4 := X1.out.cell 4 rfl; have s5 := X1.out.cell 5 rfl
    rw [← HW.out]
    go_wp2_with fail
    refine (HV.out _).mono ?_
    rintro e w2 ⟨rfl, hc2⟩
    have X2 := Lib.hid (X1.out.step hc2)
    have Y2 := Lib.hid (Y1.out.step hc2)
    have hb2 := bt hb0 hc2
    clear X1 Y1 hb0 hc2 s0 s1 s2 s3 s4 s5 HW HV
    have s0 := X2.out.cell 0 rfl; have s1 := X2.out.cell 1 rfl; have s2 := X2.out.cell 2 rfl; have s3 := X2.out.cell 3 rfl; have s4 := X2.out.cell 4 rfl; have s5 := X2.out.cell 5 rfl
    go_wp2_with fail
    refine (HT.out _).mono ?_
    rintro e w3 ⟨rfl, hc3⟩
    have Y3 := Lib.hid ((Y2.out.step hc3).alloc (.cells #[.int .i64 rs, .int .i64 rm, .int .i64 rh, .bool d3, .int .i64 d4, .int .i64 d5] 24))
    have hb3 := bt (bt hb2 hc3) (alloc_below w3 (.cells #[.int .i64 rs, .int .i64 rm, .int .i64 rh, .bool d3, .int .i64 d4, .int .i64 d5] 24))
    clear X2 Y2 hb2 hc3 s0 s1 s2 s3 s4 s5 HT
    have u0 := Y3.out.cell 0 rfl; have u1 := Y3.out.cell 1 rfl; have u2 := Y3.out.cell 2 rfl; have u3 := Y3.out.cell 3 rfl; have u4 := Y3.out.cell 4 rfl; have u5 := Y3.out.cell 5 rfl
    have z0 := Y3.out.frozen 0; have z1 := Y3.out.frozen 1; have z2 := Y3.out.frozen 2; have z3 := Y3.out.frozen 3; have z4 := Y3.out.frozen 4; have z5 := Y3.out.frozen 5
    go_wp2
    obtain ⟨W9, hW9⟩ : ∃ W9, W9 = (((((((w3.alloc (.cells #[.int .i64 rs, .int .i64 rm, .int .i64 rh, .bool d3, .int .i64 d4, .int .i64 d5] 24)).setCell ⟨w.heap.size + 1, 0, none⟩ (.int .i64 rs)).setCell ⟨w.heap.size + 1, 1, none⟩ (.int .i64 rm)).setCell ⟨w.heap.size + 1, 2, none⟩ (.int .i64 rh)).setCell ⟨w.heap.size + 1, 3, none⟩ (.bool d3)).setCell ⟨w.heap.size + 1, 4, none⟩ (.int .i64 d4)).setCell ⟨w.heap.size + 1, 5, none⟩ (.int .i64 d5)) := ⟨_, rfl⟩
    have BW9 : Btw (w.heap.size + 1) (w.heap.size + 1 + 1) (w3.alloc (.cells #[.int .i64 rs, .int .i64 rm, .int .i64 rh, .bool d3, .int .i64 d4, .int .i64 d5] 24)) W9 := by rw [hW9]; exact (Btw.refl _ _ _).put.put.put.put.put.put
    have Y9 : Hid (Box W9 (w.heap.size + 1) 24 #[.int .i64 rs, .int .i64 rm, .int .i64 rh, .bool d3, .int .i64 d4, .int .i64 d5]) := Lib.hid (by rw [hW9]; exact (Y3.out.all6 rfl _ _ _ _ _ _))
    have hb9 := hb3.trans ((BW9.below (Nat.le_of_lt Y3.out.lt)).mono (by omega))
    rw [← hW9]
    clear u0 u1 u2 u3 u4 u5 z0 z1 z2 z3 z4 z5 hW9
    have y0 := Y9.out.cell 0 rfl; have y1 := Y9.out.cell 1 rfl; have y2 := Y9.out.cell 2 rfl; have y3 := Y9.out.cell 3 rfl; have y4 := Y9.out.cell 4 rfl; have y5 := Y9.out.cell 5 rfl
    refine bodyPost_ret (v := .tuple #[.agg #[.int .i64 rs, .int .i64 rm, .int .i64 rh, .bool d3, .int .i64 d4, .int .i64 d5], .bool rb, .int .i64 0]) (by simp [results, Try.results13, go_sem, y0, y1, y2, y3, y4, y5]) rfl ?_
    exact ⟨by rw [HR.out], hb9⟩

set_option maxRecDepth 100000 in
set_option maxHeartbeats 8000000 in
theorem implTickRtcA (d0 d1 d2 : Int) (d3 : Bool) (d4 d5 : Int) (w : World) : Calls Try.prog 12 #[.agg #[.int .i64 d0, .int .i64 d1, .int .i64 d2, .bool d3, .int .i64 d4, .int .i64 d5]] w fun e w' => e = .returned (.tuple #[.agg #[.int .i64 (tk d0 d1 d2 d3 d4 d5).s, .int .i64 (tk d0 d1 d2 d3 d4 d5).m, .int .i64 (tk d0 d1 d2 d3 d4 d5).h, .bool (tk d0 d1 d2 d3 d4 d5).a, .int .i64 (tk d0 d1 d2 d3 d4 d5).am, .int .i64 (tk d0 d1 d2 d3 d4 d5).ah], .bool (tk d0 d1 d2 d3 d4 d5).b, .int .i64 (tk d0 d1 d2 d3 d4 d5).c]) ∧ Below w.heap.size w w' := by
  obtain ⟨W1, hW1⟩ : ∃ W1, W1 = (w.alloc (.cells #[.int .i64 d0, .int .i64 d1, .int .i64 d2, .bool d3, .int .i64 d4, .int .i64 d5] 24)).alloc (.cells #[.int .i64 0, .int .i64 0, .int .i64 0, .bool false, .int .i64 0, .int .i64 0] 24) := ⟨_, rfl⟩
  have X1 : Hid (Box W1 w.heap.size 24 #[.int .i64 d0, .int .i64 d1, .int .i64 d2, .bool d3, .int .i64 d4, .int .i64 d5]) := Lib.hid (by rw [hW1]; exact (Box.new _ _ _).alloc _)
  have Y1 : Hid (Box W1 (w.heap.size + 1) 24 #[.int .i64 0, .int .i64 0, .int .i64 0, .bool false, .int .i64 0, .int .i64 0]) := Lib.hid (by rw [hW1]; simpa using Box.new (w.alloc (.cells #[.int .i64 d0, .int .i64 d1, .int .i64 d2, .bool d3, .int .i64 d4, .int .i64 d5] 24)) 24 #[.int .i64 0, .int .i64 0, .int .i64 0, .bool false, .int .i64 0, .int .i64 0])
  have hb0 : Below w.heap.size w W1 := by rw [hW1]; exact ((Below.refl _ _).alloc (Nat.le_refl _) _).alloc (by simp) _
  have HW := Lib.hid hW1
  clear hW1
  have HV := Lib.hid (fun W => rtcValid d0 d1 d2 d3 d4 d5 W)
  cases hv : rtcB d0 d1 d2 d4 d5 with
  | false =>
    have HR : Hid (tk d0 d1 d2 d3 d4 d5 = ⟨0, 0, 0, false, 0, 0, false, 1⟩) := Lib.hid (by simp [tk, hv])
    rw [hv] at HV
    go_enter Try.func12, Try.ntmps12
    go_wp2_with fail
    have s0 := X1.out.cell 0 rfl; have s1 := X1.out.cell 1 rfl; have s2 := X1.out.cell 2 rfl; have s3 := X1.out.cell 3 rfl; have s4 := X1.out.cell 4 rfl; have s5 := X1.out.cell 5 rfl
    rw [← HW.out]
    go_wp2_with fail
    refine (HV.out _).mono ?_
    rintro e w2 ⟨rfl, hc2⟩
    have Y2 := Lib.hid (Y1.out.step hc2)
    have hb2 := bt hb0 hc2
    clear X1 Y1 hb0 hc2 s0 s1 s2 s3 s4 s5 HW HV
    have u0 := Y2.out.cell 0 rfl; have u1 := Y2.out.cell 1 rfl; have u2 := Y2.out.cell 2 rfl; have u3 := Y2.out.cell 3 rfl; have u4 := Y2.out.cell 4 rfl; have u5 := Y2.out.cell 5 rfl
    have z0 := Y2.out.frozen 0; have z1 := Y2.out.frozen 1; have z2 := Y2.out.frozen 2; have z3 := Y2.out.frozen 3; have z4 := Y2.out.frozen 4; have z5 := Y2.out.frozen 5
    go_wp2
    obtain ⟨W9, hW9⟩ : ∃ W9, W9 = ((((((w2.setCell ⟨w.heap.size + 1, 0, none⟩ (.int .i64 0)).setCell ⟨w.heap.size + 1, 1, none⟩ (.int .i64 0)).setCell ⟨w.heap.size + 1, 2, none⟩ (.int .i64 0)).setCell ⟨w.heap.size + 1, 3, none⟩ (.bool false)).setCell ⟨w.heap.size + 1, 4, none⟩ (.int .i64 0)).setCell ⟨w.heap.size + 1, 5, none⟩ (.int .i64 0)) := ⟨_, rfl⟩
    have BW9 : Btw (w.heap.size + 1) (w.heap.size + 1 + 1) w2 W9 := by rw [hW9]; exact (Btw.refl _ _ _).put.put.put.put.put.put
    have Y9 : Hid (Box W9 (w.heap.size + 1) 24 #[.int .i64 0, .int .i64 0, .int .i64 0, .bool false, .int .i64 0, .int .i64 0]) := Lib.hid (by rw [hW9]; exact (Y2.out.all6 rfl _ _ _ _ _ _))
    have hb9 := hb2.trans ((BW9.below (Nat.le_of_lt Y2.out.lt)).mono (by omega))
    rw [← hW9]
    clear u0 u1 u2 u3 u4 u5 z0 z1 z2 z3 z4 z5 hW9
    have y0 := Y9.out.cell 0 rfl; have y1 := Y9.out.cell 1 rfl; have y2 := Y9.out.cell 2 rfl; have y3 := Y9.out.cell 3 rfl; have y4 := Y9.out.cell 4 rfl; have y5 := Y9.out.cell 5 rfl
    refine bodyPost_ret (v := .tuple #[.agg #[.int .i64 0, .int .i64 0, .int .i64 0, .bool false, .int .i64 0, .int .i64 0], .bool false, .int .i64 1]) (by simp [results, Try.results12, go_sem, y0, y1, y2, y3, y4, y5]) rfl ?_
    exact ⟨by rw [HR.out], hb9⟩
  | true =>
    have q := momR_of hv
    have HR : Hid (tk d0 d1 d2 d3 d4 d5 = ⟨(nxt d0 d1 d2).s, (nxt d0 d1 d2).m, (nxt d0 d1 d2).h, d3, d4, d5, ringB (nxt d0 d1 d2).s (nxt d0 d1 d2).m (nxt d0 d1 d2).h d3 d4 d5, 0⟩) := Lib.hid (by simp [tk, hv])
    rw [hv] at HV
    have HT := Lib.hid (fun W => rtcTick d0 d1 d2 d3 d4 d5 q W)
    have HG := Lib.hid (fun W => rtcRings (nxt d0 d1 d2).s (nxt d0 d1 d2).m (nxt d0 d1 d2).h d3 d4 d5 W)
    clear q
    generalize tk d0 d1 d2 d3 d4 d5 = K at HR ⊢
    generalize ringB (nxt d0 d1 d2).s (nxt d0 d1 d2).m (nxt d0 d1 d2).h d3 d4 d5 = rb at HG HR
    generalize nxt d0 d1 d2 = r at HT HG HR
    obtain ⟨rs, rm, rh⟩ := r
    simp only at HT HG HR
    go_enter Try.func12, Try.ntmps12
    go_wp2_with fail
    have s0 := X1.out.cell 0 rfl; have s1 := X1.out.cell 1 rfl; have s2 := X1.out.cell 2 rfl; have s3 := X1.out.cell 3 rfl; have s4 := X1.out.cell 4 rfl; have s5 := X1.out.cell 5 rfl
    rw [← HW.out]
    go_wp2_with fail
    refine (HV.out _).mono ?_
    rintro e w2 ⟨rfl, hc2⟩
    have X2 := Lib.hid (X1.out.step hc2)
    have Y2 := Lib.hid (Y1.out.step hc2)
    have hb2 := bt hb0 hc2
    clear X1 Y1 hb0 hc2 s0 s1 s2 s3 s4 s5 HW HV
    have s0 := X2.out.cell 0 rfl; have s1 := X2.out.cell 1 rfl; have s2 := X2.out.cell 2 rfl; have s3 := X2.out.cell 3 rfl; have s4 := X2.out.cell 4 rfl; have s5 := X2.out.cell 5 rfl
    go_wp2_with fail
    refine (HT.out _).mono ?_
    rintro e w3 ⟨rfl, hc3⟩
    obtain ⟨W3, hW3⟩ : ∃ W3, W3 = w3.alloc (.cells #[.int .i64 rs, .int .i64 rm, .int .i64 rh, .bool d3, .int .i64 d4, .int .i64 d5] 24) := ⟨_, rfl⟩
    have hc4 := bt hc3 (alloc_below w3 (.cells #[.int .i64 rs, .int .i64 rm, .int .i64 rh, .bool d3, .int .i64 d4, .int .i64 d5] 24))
    have M3 : Hid (Box W3 w3.heap.size 24 #[.int .i64 rs, .int .i64 rm, .int .i64 rh, .bool d3, .int .i64 d4, .int .i64 d5]) := Lib.hid (by rw [hW3]; exact Box.new _ _ _)
    rw [← hW3] at hc4
    have Y3 := Lib.hid (Y2.out.step hc4)
    have hb3 := bt hb2 hc4
    have HW := Lib.hid hW3
    have hz3 : w.heap.size + 1 + 1 ≤ w3.heap.size := Nat.lt_of_lt_of_le Y2.out.lt hc3.size
    clear X2 Y2 hb2 hc3 hc4 HT hW3 s0 s1 s2 s3 s4 s5
    go_wp2_with fail
    rw [← HW.out]
    clear HW
    have t0 := M3.out.cell 0 rfl; have t1 := M3.out.cell 1 rfl; have t2 := M3.out.cell 2 rfl; have t3 := M3.out.cell 3 rfl; have t4 := M3.out.cell 4 rfl; have t5 := M3.out.cell 5 rfl
    have HK := Lib.hid (fun W' (hb : Below W3.heap.size W3 W') => And.intro ((hb.cell (cell_lt t0)).trans t0) (And.intro ((hb.cell (cell_lt t1)).trans t1) (And.intro ((hb.cell (cell_lt t2)).trans t2) (And.intro ((hb.cell (cell_lt t3)).trans t3) (And.intro ((hb.cell (cell_lt t4)).trans t4) ((hb.cell (cell_lt t5)).trans t5))))))
    have Z3 : Hid (w.heap.size + 1 + 1 ≤ w3.heap.size) := Lib.hid hz3
    clear hz3
    have HY := Lib.hid (fun W' (hb : Below W3.heap.size W3 W') => (show W'.cell? ⟨w.heap.size + 1, 0, none⟩ = some (.int .i64 0) ∧ W'.cell? ⟨w.heap.size + 1, 1, none⟩ = some (.int .i64 0) ∧ W'.cell? ⟨w.heap.size + 1, 2, none⟩ = some (.int .i64 0) ∧ W'.cell? ⟨w.heap.size + 1, 3, none⟩ = some (.bool false) ∧ W'.cell? ⟨w.heap.size + 1, 4, none⟩ = some (.int .i64 0) ∧ W'.cell? ⟨w.heap.size + 1, 5, none⟩ = some (.int .i64 0) ∧ W'.frozen? ⟨w.heap.size + 1, 0, none⟩ = false ∧ W'.frozen? ⟨w.heap.size + 1, 1, none⟩ = false ∧ W'.frozen? ⟨w.heap.size + 1, 2, none⟩ = false ∧ W'.frozen? ⟨w.heap.size + 1, 3, none⟩ = false ∧ W'.frozen? ⟨w.heap.size + 1, 4, none⟩ = false ∧ W'.frozen? ⟨w.heap.size + 1, 5, none⟩ = false from And.intro ((Y3.out.step hb).cell 0 rfl) (And.intro ((Y3.out.step hb).cell 1 rfl) (And.intro ((Y3.out.step hb).cell 2 rfl) (And.intro ((Y3.out.step hb).cell 3 rfl) (And.intro ((Y3.out.step hb).cell 4 rfl) (And.intro ((Y3.out.step hb).cell 5 rfl) (And.intro ((Y3.out.step hb).frozen 0) (And.intro ((Y3.out.step hb).frozen 1) (And.intro ((Y3.out.step hb).frozen 2) (And.intro ((Y3.out.step hb).frozen 3) (And.intro ((Y3.out.step hb).frozen 4) ((Y3.out.step hb).frozen 5)))))))))))))
    have HB := Lib.hid (fun W' (hb : Btw (w.heap.size + 1) (w.heap.size + 1 + 1) W3 W') => (show W'.cell? ⟨w3.heap.size, 0, none⟩ = some (.int .i64 rs) ∧ W'.cell? ⟨w3.heap.size, 1, none⟩ = some (.int .i64 rm) ∧ W'.cell? ⟨w3.heap.size, 2, none⟩ = some (.int .i64 rh) ∧ W'.cell? ⟨w3.heap.size, 3, none⟩ = some (.bool d3) ∧ W'.cell? ⟨w3.heap.size, 4, none⟩ = some (.int .i64 d4) ∧ W'.cell? ⟨w3.heap.size, 5, none⟩ = some (.int .i64 d5) from And.intro (hb.cell t0 (.inr Z3.out)) (And.intro (hb.cell t1 (.inr Z3.out)) (And.intro (hb.cell t2 (.inr Z3.out)) (And.intro (hb.cell t3 (.inr Z3.out)) (And.intro (hb.cell t4 (.inr Z3.out)) (hb.cell t5 (.inr Z3.out))))))))
    have HK := Lib.hid (fun W' (hb : Below W3.heap.size W3 W') => (show W'.cell? ⟨w3.heap.size, 0, none⟩ = some (.int .i64 rs) ∧ W'.cell? ⟨w3.heap.size, 1, none⟩ = some (.int .i64 rm) ∧ W'.cell? ⟨w3.heap.size, 2, none⟩ = some (.int .i64 rh) ∧ W'.cell? ⟨w3.heap.size, 3, none⟩ = some (.bool d3) ∧ W'.cell? ⟨w3.heap.size, 4, none⟩ = some (.int .i64 d4) ∧ W'.cell? ⟨w3.heap.size, 5, none⟩ = some (.int .i64 d5) from HK.out W' hb))
    have h6 : Below W3.heap.size W3 W3.drew := (Below.refl _ _).drew
    go_region_held3 (fun W => W.cell? ⟨w3.heap.size, 0, none⟩ = some (.int .i64 rs) ∧ W.cell? ⟨w3.heap.size, 1, none⟩ = some (.int .i64 rm) ∧ W.cell? ⟨w3.heap.size, 2, none⟩ = some (.int .i64 rh) ∧ W.cell? ⟨w3.heap.size, 3, none⟩ = some (.bool d3) ∧ W.cell? ⟨w3.heap.size, 4, none⟩ = some (.int .i64 d4) ∧ W.cell? ⟨w3.heap.size, 5, none⟩ = some (.int .i64 d5))
      (first | with_reducible exact HK.out _ h6 | with_reducible exact HK.out _ (bt h6 hc5) | with_reducible exact HB.out _ (((((((Btw.of_below (bt h6 hc5) _ _).put).put).put).put).put).put))
      (first | (go_at_call 31; refine (HG.out _).mono ?_; rintro e w5 ⟨rfl, hc5⟩; obtain ⟨u0, u1, u2, u3, u4, u5, z0, z1, z2, z3, z4, z5⟩ := HY.out _ (bt h6 hc5)))
    have Y5 := Lib.hid (Y3.out.step (bt h6 hc5))
    have hb5 := bt hb3 (bt h6 hc5)
    go_wp2
    obtain ⟨W9, hW9⟩ : ∃ W9, W9 = ((((((w5.setCell ⟨w.heap.size + 1, 0, none⟩ (.int .i64 rs)).setCell ⟨w.heap.size + 1, 1, none⟩ (.int .i64 rm)).setCell ⟨w.heap.size + 1, 2, none⟩ (.int .i64 rh)).setCell ⟨w.heap.size + 1, 3, none⟩ (.bool d3)).setCell ⟨w.heap.size + 1, 4, none⟩ (.int .i64 d4)).setCell ⟨w.heap.size + 1, 5, none⟩ (.int .i64 d5)) := ⟨_, rfl⟩
    have BW9 : Btw (w.heap.size + 1) (w.heap.size + 1 + 1) w5 W9 := by rw [hW9]; exact (Btw.refl _ _ _).put.put.put.put.put.put
    have Y9 : Hid (Box W9 (w.heap.size + 1) 24 #[.int .i64 rs, .int .i64 rm, .int .i64 rh, .bool d3, .int .i64 d4, .int .i64 d5]) := Lib.hid (by rw [hW9]; exact (Y5.out.all6 rfl _ _ _ _ _ _))
    have hb9 := hb5.trans ((BW9.below (Nat.le_of_lt Y5.out.lt)).mono (by omega))
    rw [← hW9]
    clear u0 u1 u2 u3 u4 u5 z0 z1 z2 z3 z4 z5 hW9
    have y0 := Y9.out.cell 0 rfl; have y1 := Y9.out.cell 1 rfl; have y2 := Y9.out.cell 2 rfl; have y3 := Y9.out.cell 3 rfl; have y4 := Y9.out.cell 4 rfl; have y5 := Y9.out.cell 5 rfl
    refine bodyPost_ret (v := .tuple #[.agg #[.int .i64 rs, .int .i64 rm, .int .i64 rh, .bool d3, .int .i64 d4, .int .i64 d5], .bool rb, .int .i64 0]) (by simp [results, Try.results12, go_sem, y0, y1, y2, y3, y4, y5]) rfl ?_
    exact ⟨by rw [HR.out], hb9⟩

set_option maxRecDepth 100000 in
set_option maxHeartbeats 8000000 in
theorem implSetAlarmA (d0 d1 d2 : Int) (d3 : Bool) (d4 d5 : Int) (hr mn : Int) (w : World) : Calls Try.prog 18 #[.agg #[.int .i64 d0, .int .i64 d1, .int .i64 d2, .bool d3, .int .i64 d4, .int .i64 d5], .int .i64 hr, .int .i64 mn] w fun e w' => e = .returned (.tuple #[.agg #[.int .i64 (sa d0 d1 d2 d4 d5 hr mn).s, .int .i64 (sa d0 d1 d2 d4 d5 hr mn).m, .int .i64 (sa d0 d1 d2 d4 d5 hr mn).h, .bool (sa d0 d1 d2 d4 d5 hr mn).a, .int .i64 (sa d0 d1 d2 d4 d5 hr mn).am, .int .i64 (sa d0 d1 d2 d4 d5 hr mn).ah], .int .i64 (sa d0 d1 d2 d4 d5 hr mn).c]) ∧ Below w.heap.size w w' := by
  obtain ⟨W1, hW1⟩ : ∃ W1, W1 = (w.alloc (.cells #[.int .i64 d0, .int .i64 d1, .int .i64 d2, .bool d3, .int .i64 d4, .int .i64 d5] 24)).alloc (.cells #[.int .i64 0, .int .i64 0, .int .i64 0, .bool false, .int .i64 0, .int .i64 0] 24) := ⟨_, rfl⟩
  have X1 : Hid (Box W1 w.heap.size 24 #[.int .i64 d0, .int .i64 d1, .int .i64 d2, .bool d3, .int .i64 d4, .int .i64 d5]) := Lib.hid (by rw [hW1]; exact (Box.new _ _ _).alloc _)
  have Y1 : Hid (Box W1 (w.heap.size + 1) 24 #[.int .i64 0, .int .i64 0, .int .i64 0, .bool false, .int .i64 0, .int .i64 0]) := Lib.hid (by rw [hW1]; simpa using Box.new (w.alloc (.cells #[.int .i64 d0, .int .i64 d1, .int .i64 d2, .bool d3, .int .i64 d4, .int .i64 d5] 24)) 24 #[.int .i64 0, .int .i64 0, .int .i64 0, .bool false, .int .i64 0, .int .i64 0])
  have hb0 : Below w.heap.size w W1 := by rw [hW1]; exact ((Below.refl _ _).alloc (Nat.le_refl _) _).alloc (by simp) _
  have HW := Lib.hid hW1
  clear hW1
  have HV := Lib.hid (fun W => rtcValid d0 d1 d2 d3 d4 d5 W)
  cases hv : rtcB d0 d1 d2 d4 d5 with
  | false =>
    have HR : Hid (sa d0 d1 d2 d4 d5 hr mn = ⟨0, 0, 0, false, 0, 0, false, 1⟩) := Lib.hid (by simp [sa, hv])
    rw [hv] at HV
    go_enter Try.func18, Try.ntmps18
    go_wp2_with fail
    have s0 := X1.out.cell 0 rfl; have s1 := X1.out.cell 1 rfl; have s2 := X1.out.cell 2 rfl; have s3 := X1.out.cell 3 rfl; have s4 := X1.out.cell 4 rfl; have s5 := X1.out.cell 5 rfl
    rw [← HW.out]
    go_wp2_with fail
    refine (HV.out _).mono ?_
    rintro e w2 ⟨rfl, hc2⟩
    have X2 := Lib.hid (X1.out.step hc2)
    have Y2 := Lib.hid (Y1.out.step hc2)
    have hb2 := bt hb0 hc2
    clear X1 Y1 hb0 hc2 s0 s1 s2 s3 s4 s5 HW HV
    have u0 := Y2.out.cell 0 rfl; have u1 := Y2.out.cell 1 rfl; have u2 := Y2.out.cell 2 rfl; have u3 := Y2.out.cell 3 rfl; have u4 := Y2.out.cell 4 rfl; have u5 := Y2.out.cell 5 rfl
    have z0 := Y2.out.frozen 0; have z1 := Y2.out.frozen 1; have z2 := Y2.out.frozen 2; have z3 := Y2.out.frozen 3; have z4 := Y2.out.frozen 4; have z5 := Y2.out.frozen 5
    go_wp2
    obtain ⟨W9, hW9⟩ : ∃ W9, W9 = ((((((w2.setCell ⟨w.heap.size + 1, 0, none⟩ (.int .i64 0)).setCell ⟨w.heap.size + 1, 1, none⟩ (.int .i64 0)).setCell ⟨w.heap.size + 1, 2, none⟩ (.int .i64 0)).setCell ⟨w.heap.size + 1, 3, none⟩ (.bool false)).setCell ⟨w.heap.size + 1, 4, none⟩ (.int .i64 0)).setCell ⟨w.heap.size + 1, 5, none⟩ (.int .i64 0)) := ⟨_, rfl⟩
    have BW9 : Btw (w.heap.size + 1) (w.heap.size + 1 + 1) w2 W9 := by rw [hW9]; exact (Btw.refl _ _ _).put.put.put.put.put.put
    have Y9 : Hid (Box W9 (w.heap.size + 1) 24 #[.int .i64 0, .int .i64 0, .int .i64 0, .bool false, .int .i64 0, .int .i64 0]) := Lib.hid (by rw [hW9]; exact (Y2.out.all6 rfl _ _ _ _ _ _))
    have hb9 := hb2.trans ((BW9.below (Nat.le_of_lt Y2.out.lt)).mono (by omega))
    rw [← hW9]
    clear u0 u1 u2 u3 u4 u5 z0 z1 z2 z3 z4 z5 hW9
    have y0 := Y9.out.cell 0 rfl; have y1 := Y9.out.cell 1 rfl; have y2 := Y9.out.cell 2 rfl; have y3 := Y9.out.cell 3 rfl; have y4 := Y9.out.cell 4 rfl; have y5 := Y9.out.cell 5 rfl
    refine bodyPost_ret (v := .tuple #[.agg #[.int .i64 0, .int .i64 0, .int .i64 0, .bool false, .int .i64 0, .int .i64 0], .int .i64 1]) (by simp [results, Try.results18, go_sem, y0, y1, y2, y3, y4, y5]) rfl ?_
    exact ⟨by rw [HR.out], hb9⟩
  | true =>
    have HE : Hid (sa d0 d1 d2 d4 d5 hr mn = if momB hr mn 0 then ⟨d0, d1, d2, true, mn, hr, false, 0⟩ else ⟨0, 0, 0, false, 0, 0, false, 4⟩) := Lib.hid (by rw [show momB hr mn 0 = (rg hr 23 && rg mn 59) by unfold momB; rw [show rg 0 59 = true from rfl, Bool.and_true]]; unfold sa; rw [hv]; rfl)
    have HA := Lib.hid (fun W => rtc_alarm d0 d1 d2 true mn hr W)
    have HM := Lib.hid (fun W => momentValid hr mn 0 W)
    generalize sa d0 d1 d2 d4 d5 hr mn = K at HE ⊢
    generalize momB hr mn 0 = b at HE HM
    rw [hv] at HV
    go_enter Try.func18, Try.ntmps18
    go_wp2_with fail
    have s0 := X1.out.cell 0 rfl; have s1 := X1.out.cell 1 rfl; have s2 := X1.out.cell 2 rfl; have s3 := X1.out.cell 3 rfl; have s4 := X1.out.cell 4 rfl; have s5 := X1.out.cell 5 rfl
    rw [← HW.out]
    go_wp2_with fail
    refine (HV.out _).mono ?_
    rintro e w2 ⟨rfl, hc2⟩
    have X2 := Lib.hid (X1.out.step hc2)
    have Y2 := Lib.hid (Y1.out.step hc2)
    have hb2 := bt hb0 hc2
    clear X1 Y1 hb0 hc2 s0 s1 s2 s3 s4 s5 HW HV
    have s0 := X2.out.cell 0 rfl; have s1 := X2.out.cell 1 rfl; have s2 := X2.out.cell 2 rfl; have s3 := X2.out.cell 3 rfl; have s4 := X2.out.cell 4 rfl; have s5 := X2.out.cell 5 rfl
    have x3 := X2.out.frozen 3; have x4 := X2.out.frozen 4; have x5 := X2.out.frozen 5
    go_wp2_with fail
    obtain ⟨W3, hW3⟩ : ∃ W3, W3 = (((w2.setCell ⟨w.heap.size, 3, none⟩ (.bool true)).setCell ⟨w.heap.size, 5, none⟩ (.int .i64 hr)).setCell ⟨w.heap.size, 4, none⟩ (.int .i64 mn)) := ⟨_, rfl⟩
    have BW3 : Btw (w.heap.size) (w.heap.size + 1) w2 W3 := by rw [hW3]; exact (Btw.refl _ _ _).put.put.put
    have X3 := Lib.hid ((((X2.out.set 3 (.bool true)).set 5 (.int .i64 hr)).set 4 (.int .i64 mn)))
    rw [← hW3] at X3
    have Y3 := Lib.hid (Y2.out.btw BW3 (.inr (by omega)))
    have hb3 := hb2.trans ((BW3.below (Nat.le_of_lt X2.out.lt)).mono (by omega))
    rw [← hW3]
    have X3 : Hid (Box W3 w.heap.size 24 #[.int .i64 d0, .int .i64 d1, .int .i64 d2, .bool true, .int .i64 mn, .int .i64 hr]) := Lib.hid (by simpa using X3.out)
    clear X2 Y2 hb2 hW3 BW3 s0 s1 s2 s3 s4 s5 x3 x4 x5
    have s0 := X3.out.cell 0 rfl; have s1 := X3.out.cell 1 rfl; have s2 := X3.out.cell 2 rfl; have s3 := X3.out.cell 3 rfl; have s4 := X3.out.cell 4 rfl; have s5 := X3.out.cell 5 rfl
    go_wp2_with fail
    refine (HA.out _).mono ?_
    rintro e w4 ⟨rfl, hc4⟩
    have X4 := Lib.hid (X3.out.step hc4)
    have Y4 := Lib.hid (Y3.out.step hc4)
    have hb4 := bt hb3 hc4
    clear X3 Y3 hb3 hc4 s0 s1 s2 s3 s4 s5 HA
    go_wp2_with fail
    refine (HM.out _).mono ?_
    rintro e w5 ⟨rfl, hc5⟩
    have X5 := Lib.hid (X4.out.step hc5)
    have Y5 := Lib.hid (Y4.out.step hc5)
    have hb5 := bt hb4 hc5
    clear X4 Y4 hb4 hc5 HM
    cases b with
    | false =>
      have u0 := Y5.out.cell 0 rfl; have u1 := Y5.out.cell 1 rfl; have u2 := Y5.out.cell 2 rfl; have u3 := Y5.out.cell 3 rfl; have u4 := Y5.out.cell 4 rfl; have u5 := Y5.out.cell 5 rfl
      have z0 := Y5.out.frozen 0; have z1 := Y5.out.frozen 1; have z2 := Y5.out.frozen 2; have z3 := Y5.out.frozen 3; have z4 := Y5.out.frozen 4; have z5 := Y5.out.frozen 5
      go_wp2
      obtain ⟨W9, hW9⟩ : ∃ W9, W9 = ((((((w5.setCell ⟨w.heap.size + 1, 0, none⟩ (.int .i64 0)).setCell ⟨w.heap.size + 1, 1, none⟩ (.int .i64 0)).setCell ⟨w.heap.size + 1, 2, none⟩ (.int .i64 0)).setCell ⟨w.heap.size + 1, 3, none⟩ (.bool false)).setCell ⟨w.heap.size + 1, 4, none⟩ (.int .i64 0)).setCell ⟨w.heap.size + 1, 5, none⟩ (.int .i64 0)) := ⟨_, rfl⟩
      have BW9 : Btw (w.heap.size + 1) (w.heap.size + 1 + 1) w5 W9 := by rw [hW9]; exact (Btw.refl _ _ _).put.put.put.put.put.put
      have Y9 : Hid (Box W9 (w.heap.size + 1) 24 #[.int .i64 0, .int .i64 0, .int .i64 0, .bool false, .int .i64 0, .int .i64 0]) := Lib.hid (by rw [hW9]; exact (Y5.out.all6 rfl _ _ _ _ _ _))
      have hb9 := hb5.trans ((BW9.below (Nat.le_of_lt Y5.out.lt)).mono (by omega))
      rw [← hW9]
      clear u0 u1 u2 u3 u4 u5 z0 z1 z2 z3 z4 z5 hW9
      have y0 := Y9.out.cell 0 rfl; have y1 := Y9.out.cell 1 rfl; have y2 := Y9.out.cell 2 rfl; have y3 := Y9.out.cell 3 rfl; have y4 := Y9.out.cell 4 rfl; have y5 := Y9.out.cell 5 rfl
      refine bodyPost_ret (v := .tuple #[.agg #[.int .i64 0, .int .i64 0, .int .i64 0, .bool false, .int .i64 0, .int .i64 0], .int .i64 4]) (by simp [results, Try.results18, go_sem, y0, y1, y2, y3, y4, y5]) rfl ?_
      exact ⟨by rw [HE.out]; rfl, hb9⟩
    | true =>
      have s0 := X5.out.cell 0 rfl; have s1 := X5.out.cell 1 rfl; have s2 := X5.out.cell 2 rfl; have s3 := X5.out.cell 3 rfl; have s4 := X5.out.cell 4 rfl; have s5 := X5.out.cell 5 rfl
      have u0 := Y5.out.cell 0 rfl; have u1 := Y5.out.cell 1 rfl; have u2 := Y5.out.cell 2 rfl; have u3 := Y5.out.cell 3 rfl; have u4 := Y5.out.cell 4 rfl; have u5 := Y5.out.cell 5 rfl
      have z0 := Y5.out.frozen 0; have z1 := Y5.out.frozen 1; have z2 := Y5.out.frozen 2; have z3 := Y5.out.frozen 3; have z4 := Y5.out.frozen 4; have z5 := Y5.out.frozen 5
      go_wp2
      obtain ⟨W9, hW9⟩ : ∃ W9, W9 = ((((((w5.setCell ⟨w.heap.size + 1, 0, none⟩ (.int .i64 d0)).setCell ⟨w.heap.size + 1, 1, none⟩ (.int .i64 d1)).setCell ⟨w.heap.size + 1, 2, none⟩ (.int .i64 d2)).setCell ⟨w.heap.size + 1, 3, none⟩ (.bool true)).setCell ⟨w.heap.size + 1, 4, none⟩ (.int .i64 mn)).setCell ⟨w.heap.size + 1, 5, none⟩ (.int .i64 hr)) := ⟨_, rfl⟩
      have BW9 : Btw (w.heap.size + 1) (w.heap.size + 1 + 1) w5 W9 := by rw [hW9]; exact (Btw.refl _ _ _).put.put.put.put.put.put
      have Y9 : Hid (Box W9 (w.heap.size + 1) 24 #[.int .i64 d0, .int .i64 d1, .int .i64 d2, .bool true, .int .i64 mn, .int .i64 hr]) := Lib.hid (by rw [hW9]; exact (Y5.out.all6 rfl _ _ _ _ _ _))
      have hb9 := hb5.trans ((BW9.below (Nat.le_of_lt Y5.out.lt)).mono (by omega))
      rw [← hW9]
      have y0 := Y9.out.cell 0 rfl; have y1 := Y9.out.cell 1 rfl; have y2 := Y9.out.cell 2 rfl; have y3 := Y9.out.cell 3 rfl; have y4 := Y9.out.cell 4 rfl; have y5 := Y9.out.cell 5 rfl
      refine bodyPost_ret (v := .tuple #[.agg #[.int .i64 d0, .int .i64 d1, .int .i64 d2, .bool true, .int .i64 mn, .int .i64 hr], .int .i64 0]) (by simp [results, Try.results18, go_sem, y0, y1, y2, y3, y4, y5]) rfl ?_
      exact ⟨by rw [HE.out]; rfl, hb9⟩

end Go.Proofs.Ytophgbjbinaekaa

/- Digits of numbers, as lists of bytes. Nothing here walks. -/
namespace Go.Proofs.Ytophgbjbinaekaa

def dg (n : Nat) : UInt8 := UInt8.ofNat (48 + n % 10)
def digs : Nat → Nat → List UInt8
  | 0, _ => []
  | w + 1, n => digs w (n / 10) ++ [dg n]
theorem digs_len : ∀ w n, (digs w n).length = w
  | 0, _ => rfl
  | w + 1, n => by simp [digs, digs_len w]
theorem digs_front : ∀ w n, digs (w + 1) n = dg (n / 10 ^ w) :: digs w n
  | 0, n => by simp [digs]
  | w + 1, n => by
    rw [digs, digs_front w (n / 10), digs, Nat.div_div_eq_div_mul, Nat.pow_succ, Nat.mul_comm (10 ^ w) 10]
    rfl
def decF : Nat → Nat → List UInt8
  | 0, _ => []
  | f + 1, n => if n < 10 then [dg n] else decF f (n / 10) ++ [dg n]
theorem digs_zero : ∀ w, digs w 0 = List.replicate w 48
  | 0 => rfl
  | w + 1 => by rw [digs, digs_zero w]; rw [List.replicate_succ']; rfl
theorem decF_len : ∀ f n, (decF f n).length ≤ f
  | 0, _ => by simp [decF]
  | f + 1, n => by
    rw [decF]
    split
    · simp
    · have := decF_len f (n / 10)
      simp; omega
theorem pad_dec : ∀ f n, n < 10 ^ (f + 1) → List.replicate (f + 1 - (decF (f + 1) n).length) 48 ++ decF (f + 1) n = digs (f + 1) n
  | f, n, h => by
    rw [decF, digs]
    by_cases hn : n < 10
    · rw [if_pos hn]
      rw [show n / 10 = 0 by omega, digs_zero]
      simp
    · rw [if_neg hn]
      match f with
      | 0 => exact absurd h (by simp; omega)
      | f + 1 =>
        have ih := pad_dec f (n / 10) (by rw [Nat.pow_succ] at h; omega)
        rw [← ih]
        have := decF_len (f + 1) (n / 10)
        simp only [List.length_append, List.length_cons, List.length_nil, List.append_assoc]
        rw [show f + 1 + 1 - ((decF (f + 1) (n / 10)).length + (0 + 1)) = f + 1 - (decF (f + 1) (n / 10)).length by omega]
def bs (l : List UInt8) : ByteArray := ⟨l.toArray⟩
theorem bs_app (a b : List UInt8) : bs a ++ bs b = bs (a ++ b) := by
  apply ByteArray.ext
  simp [bs]
theorem bs_size (a : List UInt8) : (bs a).size = a.length := rfl
theorem dg_nat (n : Nat) : (dg n).toNat = 48 + n % 10 := by
  unfold dg
  rw [UInt8.toNat_ofNat']; omega
end Go.Proofs.Ytophgbjbinaekaa

/- Contracts of szRoot, toRoot, eqRoot, markRoot, heldRoot; a root behind a box. -/
namespace Go.Proofs.Ytophgbjbinaekaa
open Go.RowKit

section
variable {w w' : World} {b lo hi : Nat} {g : Int} {A : Option Addr} {n c : Nat} {zs : List Int}
end
end Go.Proofs.Ytophgbjbinaekaa

/- A map[int]bool of the call's own whose values are all true: a set of integers, as the list of its keys. -/
namespace Go.Proofs.Ytophgbjbinaekaa
open Go.RowKit

def SetI (w : World) (b : Nat) (ks : List Int) : Prop :=
  ∃ es clock, w.heap[b]? = some (.map es clock) ∧ es.toList.map (·.key) = ks.map (Value.int .i64) ∧ ∀ x ∈ es.toList, x.val = .bool true
theorem SetI.lt {w : World} {b : Nat} {ks : List Int} (h : SetI w b ks) : b < w.heap.size := by
  obtain ⟨es, clock, hb, _⟩ := h
  exact (Array.getElem?_eq_some_iff.1 hb).1
theorem SetI.below {w w' : World} {b : Nat} {ks : List Int} (h : SetI w b ks) (hb : Below w.heap.size w w') : SetI w' b ks := by
  have hlt := h.lt
  obtain ⟨es, clock, h1, h2, h3⟩ := h
  exact ⟨es, clock, (hb.block b hlt).trans h1, h2, h3⟩
theorem SetI.made (w : World) : SetI (w.alloc (.map #[] 0)) w.heap.size [] := ⟨#[], 0, (MapKept.heap_alloc w _).1, by simp, by simp⟩

section
variable {P : Program} {t k e : TypeId}
end

end Go.Proofs.Ytophgbjbinaekaa

/- Contracts of both RootOK and of what they call. -/
namespace Go.Proofs.Ytophgbjbinaekaa
open Go.RowKit

end Go.Proofs.Ytophgbjbinaekaa

/- Contracts of l01Read and of both ReadDisk. -/
namespace Go.Proofs.Ytophgbjbinaekaa
open Go.RowKit

def down (ws : List (Int × ByteArray)) (at_ : Int) : Nat → Option ByteArray
  | 0 => none
  | k + 1 => if (ws.getD k (0, ByteArray.empty)).1 = at_ then some (ws.getD k (0, ByteArray.empty)).2 else down ws at_ k
theorem ret_str {a b : ByteArray} (h : a = b) : Ending.returned (.string a) = .returned (.string b) := by rw [h]
end Go.Proofs.Ytophgbjbinaekaa

/- Contracts of the digits' functions: l00Digits, l02Digits, digitsOf. -/
namespace Go.Proofs.Ytophgbjbinaekaa
open Go.RowKit

set_option maxRecDepth 100000 in
theorem conv_dig (W : World) (b j : Nat) (h : W.cell? ⟨b, 0, none⟩ = some (.int .u8 (48 + (j : Int) % 10))) :
    (convert 22 9 (.slice (some ⟨b, 0, none⟩) 1 1)).run Try.prog W = .ok (.string (bs [dg j])) W :=
  run_convert_bytes_back (P := Try.prog) W 22 9 5 ⟨b, 0, none⟩ 1 [dg j] Try.underlying22 Try.underlying5 Try.underlying9 (fun i hi => by
    have hi' : i = 0 := by simpa using hi
    subst hi'
    simp only [List.getElem_cons_zero]
    rw [dg_nat]
    simpa [Addr.add] using h)
set_option maxRecDepth 100000 in
theorem conv_new (V : World) (j : Nat) : (convert 22 9 (.slice (some ⟨V.heap.size, 0, none⟩) 1 1)).run Try.prog (V.alloc (.cells #[.int .u8 (48 + (j : Int) % 10)] 5)) = .ok (.string (bs [dg j])) (V.alloc (.cells #[.int .u8 (48 + (j : Int) % 10)] 5)) :=
  conv_dig _ _ j ((Box.new V 5 #[.int .u8 (48 + (j : Int) % 10)]).cell 0 rfl)

set_option maxRecDepth 100000 in
set_option maxHeartbeats 1000000 in
theorem l00Digits : ∀ (f n : Nat) (w : World), n < 10 ^ (f + 1) → f ≤ 17 → Calls Try.prog 49 #[.int .i64 n] w fun e w' => e = .returned (.string (bs (decF (f + 1) n))) ∧ Below w.heap.size w w'
  | f, n, w, h, hf => by
    have hbig : n < 1000000000000000000 := Nat.lt_of_lt_of_le h (Nat.le_trans (Nat.pow_le_pow_right (by omega) (show f + 1 ≤ 18 by omega)) (by decide))
    have q0 : ((n : Int) == -9223372036854775808) = false := by simp
    have q1 : ¬ (n : Int) < 0 := by omega
    by_cases hn : n < 10
    · have q2 : (n : Int) < 10 := by omega
      have hm : (n : Int) % 10 = (n : Int) := by omega
      have HD : Hid (decF (f + 1) n = [dg n]) := Lib.hid (by rw [decF, if_pos hn])
      have hcv := fun V => conv_new V n
      rw [hm] at hcv
      clear hm h
      go_enter Try.func49, Try.ntmps49
      go_wp2
      go_ret
      exact ⟨ret_str (by rw [HD.out]), alloc_below _ _⟩
    · have q2 : ¬ (n : Int) < 10 := by omega
      match f, h, hf with
      | 0, h, hf => exact absurd h (by simp; omega)
      | f + 1, h, hf =>
        have IH := Lib.hid (fun W => l00Digits f (n / 10) W (by rw [Nat.pow_succ] at h; omega) (by omega))
        have HD : Hid (decF (f + 1 + 1) n = decF (f + 1) (n / 10) ++ [dg n]) := Lib.hid (by rw [decF, if_neg hn])
        have HLn := Lib.hid (decF_len (f + 1) (n / 10))
        have hcv := fun V => conv_new V n
        have HC := Lib.hid (fun W b => conv_dig W b n)
        rw [show ((n / 10 : Nat) : Int) = (n : Int) / 10 by omega] at IH
        generalize decF (f + 1) (n / 10) = l at IH HD HLn
        clear h hn
        go_enter Try.func49, Try.ntmps49
        go_wp2
        have h6 : Below w.heap.size w w.drew := (Below.refl _ _).drew
        have e1 : IntKind.i64.wrap ((n : Int) / 10) = (n : Int) / 10 := IntWalk.i64_in _ (by omega)
        have e3 : IntKind.i64.wrap (48 + (n : Int) % 10) = 48 + (n : Int) % 10 := IntWalk.i64_in _ (by omega)
        have e4 : IntKind.u8.wrap (48 + (n : Int) % 10) = 48 + (n : Int) % 10 := IntWalk.u8_in _ (by omega)
        have e2 : (n : Int).tmod 10 = (n : Int) % 10 := Int.tmod_eq_emod_of_nonneg (by omega)
        have hnl : ¬ 9223372036854775807 < (bs l).size + (bs [dg n]).size := by have := HLn.out; rw [bs_size, bs_size]; simp; omega
        have hcv2 := conv_dig (w.alloc (.cells #[.int .u8 (48 + (n : Int) % 10)] 5)).drew w.heap.size n ((Box.new w 5 #[.int .u8 (48 + (n : Int) % 10)]).cell 0 rfl)
        go_region_with (first
          | (go_at_call 49; refine (IH.out (w.alloc (.cells #[.int .u8 (48 + (n : Int) % 10)] 5)).drew).mono ?_; rintro e w1 ⟨rfl, hb1⟩; have kb := bt ((alloc_below w _).drew) hb1; have kc := HC.out w1 w.heap.size ((hb1.cell (p := ⟨w.heap.size, 0, none⟩) (by simp)).trans ((Box.new w 5 #[.int .u8 (48 + (n : Int) % 10)]).cell 0 rfl)))
          | (go_at_call 49; refine (IH.out w.drew).mono ?_; rintro e w1 ⟨rfl, hb1⟩; have kb := bt h6 hb1))
        all_goals clear hcv hcv2
        all_goals go_wp2
        all_goals go_ret
        all_goals (refine ⟨ret_str (by rw [HD.out, ← bs_app]), ?_⟩)
        all_goals (first | exact kb | exact bt kb (alloc_below _ _))

set_option maxRecDepth 100000 in
set_option maxHeartbeats 1000000 in
theorem l02Digits (W n : Nat) (w : World) (h : n < 10 ^ (W + 1)) (hW : W ≤ 17) :
    Calls Try.prog 47 #[.int .i64 n, .int .i64 ((W + 1 : Nat) : Int)] w fun e w' => e = .returned (.string (bs (digs (W + 1) n))) ∧ Below w.heap.size w w' := by
  have HD := Lib.hid (l00Digits W n w h hW)
  have HP := Lib.hid (pad_dec W n h)
  have HLn := Lib.hid (decF_len (W + 1) n)
  generalize decF (W + 1) n = l at HD HP HLn
  generalize digs (W + 1) n = r at HP
  clear h
  go_enter Try.func47, Try.ntmps47
  go_wp2_with fail
  refine HD.out.mono ?_
  rintro e w1 ⟨rfl, hb1⟩
  go_wp2
  go_loop [5] (fun t => ∃ j : Nat, t = .string (bs (List.replicate j 48 ++ l)) ∧ j + l.length ≤ W + 1) (fun t => W + 1 - (match t with | .string s => s.size | _ => 0))
  case atStart => exact ⟨0, by simp, by have := HLn.out; omega⟩
  case round =>
    obtain ⟨j, rfl, hj⟩ := hrel
    have hsz : (bs (List.replicate j 48 ++ l)).size = j + l.length := by rw [bs_size]; simp
    by_cases hlt : j + l.length < W + 1
    · have hc : (((bs (List.replicate j 48 ++ l)).size : Nat) : Int) < ((W + 1 : Nat) : Int) := by rw [hsz]; omega
      have hnl : ¬ 9223372036854775807 < (⟨#[48]⟩ : ByteArray).size + (bs (List.replicate j 48 ++ l)).size := by rw [hsz]; show ¬ 9223372036854775807 < 1 + _; omega
      have HN : Hid ((⟨#[48]⟩ : ByteArray) ++ bs (List.replicate j 48 ++ l) = bs (List.replicate (j + 1) 48 ++ l)) := Lib.hid (by rw [List.replicate_succ]; exact bs_app [48] _)
      have HZ := Lib.hid hsz
      clear hsz
      generalize bs (List.replicate j 48 ++ l) = t at hc hnl HN HZ
      go_wp2
      refine ⟨⟨j + 1, by rw [HN.out], by omega⟩, ?_⟩
      show W + 1 - ((⟨#[48]⟩ : ByteArray) ++ t).size < W + 1 - t.size
      rw [ByteArray.size_append, HZ.out]
      show W + 1 - (1 + (j + l.length)) < _
      omega
    · have hc : ¬ (((bs (List.replicate j 48 ++ l)).size : Nat) : Int) < ((W + 1 : Nat) : Int) := by rw [hsz]; omega
      have HF : Hid (bs (List.replicate j 48 ++ l) = bs r) := Lib.hid (by rw [← HP.out, show W + 1 - l.length = j by omega])
      clear hsz
      generalize bs (List.replicate j 48 ++ l) = t at hc HF
      go_wp2
      go_ret
      exact ⟨ret_str HF.out, hb1⟩

end Go.Proofs.Ytophgbjbinaekaa
