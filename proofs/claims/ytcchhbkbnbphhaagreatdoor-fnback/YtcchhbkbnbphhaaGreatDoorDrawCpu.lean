/- The source's processor: a drawn one that is valid; spec.CpuDrawn. Written by gen_drawcpu.py. -/
import Derived.Test.YtcchhbkbnbphhaaGreatDoorM6
import Derived.Test.YtcchhbkbnbphhaaGreatDoorM7
import Derived.Test.YtcchhbkbnbphhaaGreatDoorM4
import Derived.Test.YtcchhbkbnbphhaaGreatDoorM1
import Derived.Laws.Tables
namespace Go.Proofs.YtcchhbkbnbphhaaGreatDoor
open Go.RowKit

set_option maxHeartbeats 4000000 in
theorem arr54c (T : Array Value) (h : T.size = 54) : ∃ t0 t1 t2 t3 t4 t5 t6 t7 t8 t9 t10 t11 t12 t13 t14 t15 t16 t17 t18 t19 t20 t21 t22 t23 t24 t25 t26 t27 t28 t29 t30 t31 t32 t33 t34 t35 t36 t37 t38 t39 t40 t41 t42 t43 t44 t45 t46 t47 t48 t49 t50 t51 t52 t53 : Value, T = #[t0, t1, t2, t3, t4, t5, t6, t7, t8, t9, t10, t11, t12, t13, t14, t15, t16, t17, t18, t19, t20, t21, t22, t23, t24, t25, t26, t27, t28, t29, t30, t31, t32, t33, t34, t35, t36, t37, t38, t39, t40, t41, t42, t43, t44, t45, t46, t47, t48, t49, t50, t51, t52, t53] := by
  obtain ⟨l⟩ := T
  match l, h with
  | t0 :: t1 :: t2 :: t3 :: t4 :: t5 :: t6 :: t7 :: t8 :: t9 :: t10 :: t11 :: t12 :: t13 :: t14 :: t15 :: t16 :: t17 :: t18 :: t19 :: t20 :: t21 :: t22 :: t23 :: t24 :: t25 :: t26 :: t27 :: t28 :: t29 :: t30 :: t31 :: t32 :: t33 :: t34 :: t35 :: t36 :: t37 :: t38 :: t39 :: t40 :: t41 :: t42 :: t43 :: t44 :: t45 :: t46 :: t47 :: t48 :: t49 :: t50 :: t51 :: t52 :: t53 :: [], _ => exact ⟨t0, t1, t2, t3, t4, t5, t6, t7, t8, t9, t10, t11, t12, t13, t14, t15, t16, t17, t18, t19, t20, t21, t22, t23, t24, t25, t26, t27, t28, t29, t30, t31, t32, t33, t34, t35, t36, t37, t38, t39, t40, t41, t42, t43, t44, t45, t46, t47, t48, t49, t50, t51, t52, t53, rfl⟩

def cpF (b h D g cc i : Nat) : Nat → (Nat → Value) → World → Prop
  | 0, t, _ => t 40 = .pointer (some ⟨D, 8, none⟩)
  | 1, t, _ => t 41 = .slice (some ⟨g, 0, none⟩) 16 cc
  | 2, t, _ => t 42 = .int .i64 (i : Int)
  | 3, t, _ => t 43 = .pointer (some ⟨b, 0, none⟩)
  | 4, t, _ => ∃ v : Nat, t 44 = .int .i64 v ∧ v < 4
  | 5, t, _ => t 45 = .pointer (some ⟨b, 0, none⟩)
  | 6, t, _ => ∃ v : Nat, t 46 = .int .i64 v ∧ v < 256
  | 7, t, W => ∃ q, ∃ x y : Nat, t 47 = .slice (some ⟨q, 0, none⟩) 2 2 ∧ Box W q 3 #[.int .i64 x, .int .i64 y] ∧ x < 256 ∧ y < 256 ∧ h ≤ q
  | 8, t, _ => t 48 = .pointer (some ⟨b, 0, none⟩)
  | 9, t, _ => ∃ v : Nat, t 49 = .int .i64 v ∧ v < 2
  | 10, t, W => ∃ q, ∃ v x : Nat, ∃ cs : Array Value, t 50 = .pointer (some ⟨q, v, none⟩) ∧ Box W q 3 cs ∧ cs[v]? = some (.int .i64 x) ∧ x < 256 ∧ h ≤ q
  | 11, t, _ => ∃ x : Nat, t 51 = .int .i64 x ∧ x < 256
  | 12, t, _ => t 52 = .pointer (some ⟨g, i, none⟩)
  | 13, _, _ => True
  | _, _, _ => True
theorem cpF_btw {b h D g cc i : Nat} {W W' : World} (k : Btw b (b + 1) W W') (hb : b < h) : ∀ (j : Nat) (t : Nat → Value), cpF b h D g cc i j t W → cpF b h D g cc i j t W'
  | 0, _, e | 1, _, e | 2, _, e | 3, _, e | 4, _, e | 5, _, e | 6, _, e | 8, _, e | 9, _, e | 11, _, e | 12, _, e | 13, _, e => e
  | 7, _, ⟨q, x, y, e, X, q2⟩ => ⟨q, x, y, e, X.btw k (.inr (by omega)), q2⟩
  | 10, _, ⟨q, v, x, cs, e, X, q0, q1, q2⟩ => ⟨q, v, x, cs, e, X.btw k (.inr (by omega)), q0, q1, q2⟩
  | _ + 14, _, _ => trivial
theorem cpF_store {b h D g cc i : Nat} {W : World} (hg : g < h) (u : Value) : ∀ (j : Nat) (t : Nat → Value), j ≠ 13 → cpF b h D g cc i j t W → cpF b h D g cc i j t (W.setCell ⟨g, i, none⟩ u)
  | 0, _, _, e | 1, _, _, e | 2, _, _, e | 3, _, _, e | 4, _, _, e | 5, _, _, e | 6, _, _, e | 8, _, _, e | 9, _, _, e | 11, _, _, e | 12, _, _, e | 13, _, _, e => e
  | 7, _, _, ⟨q, x, y, e, X, q1, q2, q3⟩ => ⟨q, x, y, e, X.far (by show q ≠ g; omega) u, q1, q2, q3⟩
  | 10, _, _, ⟨q, v, x, cs, e, X, q0, q1, q2⟩ => ⟨q, v, x, cs, e, X.far (by show q ≠ g; omega) u, q0, q1, q2⟩
  | _ + 14, _, _, _ => trivial
def cnt3c (L : Nat → Bool) : Nat := (if L 4 then 1 else 0) + (if L 6 then 1 else 0) + (if L 9 then 1 else 0)
def CpC (w : World) (b : Nat) (A : Option Addr) (n c : Nat) (zs : List Nat) (K D g lo hi : Nat) (cs : Array Value) (L : Nat → Bool) (W : World) : Prop :=
  Src W b A n c zs (K + cnt3c L) ∧ Btw b (b + 1) w W ∧ Box W D 25 cs ∧ ∃ rs : List Int, rs.length = 16 ∧ (∀ z ∈ rs, 0 ≤ z ∧ z ≤ 255) ∧ OwnI W lo hi (some ⟨g, 0, none⟩) rs
theorem cnt3c_le (L : Nat → Bool) : cnt3c L ≤ 3 := by unfold cnt3c; (repeat' split) <;> omega
theorem btw_belowC {lo hi B : Nat} {w w1 w2 : World} (h : Btw lo hi w w1) (hb : Below B w1 w2) (hB : w.heap.size ≤ B) : Btw lo hi w w2 :=
  ⟨hb.os.trans h.os, hb.tape.trans h.tape, hb.output.trans h.output, Nat.le_trans h.size hb.size, fun k hk ho => (hb.block k (Nat.lt_of_lt_of_le hk hB)).trans (h.block k hk ho)⟩
theorem ownI_far {w : World} {lo hi b b0 : Nat} {zs : List Int} (h : OwnI w lo hi (some ⟨b, 0, none⟩) zs) (hne : b ≠ b0) {w' : World} (k : Btw b0 (b0 + 1) w w') : OwnI w' lo hi (some ⟨b, 0, none⟩) zs := by
  rcases h with e | ⟨b', m, f, e, h1, h2, hm, hr, hf⟩
  · exact .inl e
  · injection e with e
    injection e with e _ _
    subst e
    exact .inr ⟨b, m, f, rfl, h1, h2, hm, k.row hr (by omega), hf⟩
def GivesCpuD (b : Nat) (A : Option Addr) (n c : Nat) (zs : List Nat) (K : Nat) (w : World) (e : Ending) (w' : World) : Prop :=
  ∃ (d : CD) (B : Option Addr) (cc : Nat), e = .returned (.agg #[.int .i64 d.pc, .int .i64 d.sp, .int .i64 d.bank, .int .i64 d.level, .bool d.zero, .bool d.carry, .bool d.on, .bool d.halt, .slice B 16 cc]) ∧ Hid (d.Ok ∧ OwnI w' w.heap.size w'.heap.size B d.regs) ∧ Hid (Src w' b A n c zs (K + 70)) ∧ Btw b (b + 1) w w'
set_option maxRecDepth 100000 in
set_option maxHeartbeats 16000000 in
theorem srcCpu (b : Nat) (A : Option Addr) (n c : Nat) (zs : List Nat) (K' : Nat) (w : World) (hK : K' ≤ 1000) (h : Src w b A n c zs K') :
    Calls Tryz.prog 18 #[.pointer (some ⟨b, 0, none⟩)] w (GivesCpuD b A n c zs K' w) := by
  have HLw := Lib.hid h.lt
  have HNx := Lib.hid (fun N K W (h1 : 2 ≤ N) (h2 : N ≤ 256) (h3 : K ≤ 10000) (h : Src W b A n c zs K) => srcNext N b A n c zs K W h1 h2 (by omega) h)
  have HCh := Lib.hid (fun N K W (h1 : 2 ≤ N) (h2 : N ≤ 256) (h3 : K ≤ 10000) (h : Src W b A n c zs K) => srcChance N b A n c zs K W h1 h2 (by omega) h)
  have hb0 := alloc_below w (.cells #[.int .i64 0, .int .i64 0, .int .i64 0, .int .i64 0, .bool false, .bool false, .bool false, .bool false, .slice none 0 0] 25)
  obtain ⟨w0, hw0⟩ : ∃ w0, w0 = w.alloc (.cells #[.int .i64 0, .int .i64 0, .int .i64 0, .int .i64 0, .bool false, .bool false, .bool false, .bool false, .slice none 0 0] 25) := ⟨_, rfl⟩
  have Y0 : Hid (Box w0 w.heap.size 25 #[.int .i64 0, .int .i64 0, .int .i64 0, .int .i64 0, .bool false, .bool false, .bool false, .bool false, .slice none 0 0]) := Lib.hid (by rw [hw0]; exact Box.new _ _ _)
  rw [← hw0] at hb0
  have S0 := h.below hb0 HLw.out
  have HB0 := Lib.hid (Btw.of_below hb0 b (b + 1))
  have HA0 := Lib.hid hb0
  have HL0 : Hid (b < w.heap.size ∧ w.heap.size < w0.heap.size) := Lib.hid ⟨HLw.out, Y0.out.lt⟩
  have HNC := Lib.hid (specNewCpuA w0)
  have HW0 := Lib.hid hw0
  clear h hw0 hb0 HLw
  go_enter Tryz.func18, Tryz.ntmps18
  go_wp2_with fail
  rw [← HW0.out]
  clear HW0
  refine HNC.out.mono ?_
  rintro e w1 ⟨B, cc, rfl, O1, hb1⟩
  have O1 := (show OwnI w1 w0.heap.size w1.heap.size B zRegs from by
    obtain ⟨B', d', e', o⟩ := O1.out.1.1
    injection e' with e1 e2 e3; subst e1; exact o)
  obtain ⟨g, mm, ff, rfl, -, -, g1, g2, -, -⟩ := O1.put 0 (by decide)
  rw [show zRegs.length = 16 from rfl]
  obtain ⟨D, hD⟩ : ∃ D, D = w1.heap.size := ⟨_, rfl⟩
  obtain ⟨W2, hW2⟩ : ∃ W2, W2 = w1.alloc (.cells #[.int .i64 nc0, .int .i64 nc1, .int .i64 nc2, .int .i64 nc3, .bool nf4, .bool nf5, .bool nf6, .bool nf7, .slice (some ⟨g, 0, none⟩) 16 cc] 25) := ⟨_, rfl⟩
  have k2 : Below w1.heap.size w1 W2 := by rw [hW2]; exact alloc_below _ _
  have X2 : Hid (Box W2 D 25 #[.int .i64 nc0, .int .i64 nc1, .int .i64 nc2, .int .i64 nc3, .bool nf4, .bool nf5, .bool nf6, .bool nf7, .slice (some ⟨g, 0, none⟩) 16 cc]) := Lib.hid (by rw [hW2, hD]; exact Box.new _ _ _)
  have S2 := Lib.hid (S0.below (bt hb1 k2) (by have := HL0.out; omega))
  have HB2 := Lib.hid (Btw.of_below (bt hb1 k2) b (b + 1))
  have O2 := Lib.hid (O1.below k2)
  have HL : Hid ((b < w.heap.size ∧ w.heap.size < w0.heap.size) ∧ w0.heap.size ≤ g ∧ g < D) := Lib.hid ⟨HL0.out, g1, by rw [hD]; exact g2⟩
  rw [← hD] at O2
  clear S0 HB0 HL0 HNC O1 g1 g2 hb1 k2
  go_wp2_with fail
  rw [← hW2]
  rw [← hD]
  clear hW2 hD
  refine (HNx.out 30 (K') W2 (by omega) (by omega) (by omega) S2.out).mono ?_
  rintro e w3 ⟨v0, rfl, hv0, S3, k3⟩
  have X3 := Lib.hid (X2.out.btw k3 (.inr (by have := HL.out; omega)))
  have HB3 := Lib.hid (HB2.out.trans k3)
  have O3 := Lib.hid (ownI_far O2.out (by have := HL.out; omega) k3)
  clear k3 X2 HB2 O2 S2
  have e0 : IntKind.i64.wrap (512 + (v0 : Int)) = 512 + (v0 : Int) := IntWalk.i64_in _ (by omega)
  have f0 := X3.out.cell 0 rfl
  have z0 := X3.out.frozen 0
  obtain ⟨W4, hW4⟩ : ∃ W4, W4 = w3.setCell ⟨D, 0, none⟩ (.int .i64 (512 + (v0 : Int))) := ⟨_, rfl⟩
  have B4 : Btw D (D + 1) w3 W4 := by rw [hW4]; exact (Btw.refl _ _ _).put
  have X4 : Hid (Box W4 D 25 #[.int .i64 (512 + (v0 : Int)), .int .i64 nc1, .int .i64 nc2, .int .i64 nc3, .bool nf4, .bool nf5, .bool nf6, .bool nf7, .slice (some ⟨g, 0, none⟩) 16 cc]) := Lib.hid (by rw [hW4]; simpa using X3.out.set 0 (.int .i64 (512 + (v0 : Int))))
  have b4 := B4.below (Nat.le_of_lt X3.out.lt)
  have S4 := Lib.hid (S3.out.below b4 (by have := HL.out; omega))
  have HB4 := Lib.hid (btw_belowC HB3.out b4 (by have := HL.out; omega))
  have O4 := Lib.hid (ownI_far O3.out (by have := HL.out; omega) B4)
  clear B4 b4 X3 HB3 O3 S3
  go_wp2_with fail
  rw [← hW4]
  clear hW4
  refine (HNx.out 256 (K' + 1) W4 (by omega) (by omega) (by omega) S4.out).mono ?_
  rintro e w5 ⟨v1, rfl, hv1, S5, k5⟩
  have X5 := Lib.hid (X4.out.btw k5 (.inr (by have := HL.out; omega)))
  have HB5 := Lib.hid (HB4.out.trans k5)
  have O5 := Lib.hid (ownI_far O4.out (by have := HL.out; omega) k5)
  clear k5 X4 HB4 O4 S4
  clear f0 z0
  have j0 := alloc_below w5 (.cells #[.int .i64 255, .int .i64 (v1 : Int)] 3)
  have Q6 := Lib.hid (Box.new w5 3 #[.int .i64 255, .int .i64 (v1 : Int)])
  obtain ⟨W6, hW6⟩ : ∃ W6, W6 = w5.alloc (.cells #[.int .i64 255, .int .i64 (v1 : Int)] 3) := ⟨_, rfl⟩
  rw [← hW6] at j0 Q6
  have hbq : b < w5.heap.size := S5.out.lt
  have X6 := Lib.hid (X5.out.step j0)
  have S6 := Lib.hid (S5.out.below j0 hbq)
  have HB6 := Lib.hid (HB5.out.trans (Btw.of_below j0 b (b + 1)))
  have O6 := Lib.hid (O5.out.below j0)
  obtain ⟨q, hq⟩ : ∃ q, q = w5.heap.size := ⟨_, rfl⟩
  rw [← hq] at Q6 hbq
  have Zq := Lib.hid hbq
  clear j0 hbq X5 HB5 O5 S5
  go_wp2_with fail
  rw [← hW6, ← hq]
  clear hW6 hq e0
  refine (HNx.out 2 (K' + 1 + 1) W6 (by omega) (by omega) (by omega) S6.out).mono ?_
  rintro e w7 ⟨v2, rfl, hv2, S7, k7⟩
  have X7 := Lib.hid (X6.out.btw k7 (.inr (by have := HL.out; omega)))
  have HB7 := Lib.hid (HB6.out.trans k7)
  have O7 := Lib.hid (ownI_far O6.out (by have := HL.out; omega) k7)
  have hcell : ∃ l : Nat, l ≤ 255 ∧ w7.cell? ⟨q, v2, none⟩ = some (.int .i64 (l : Int)) := by
    have Q5 := Q6.out.btw k7 (.inr Zq.out)
    have h3 : v2 = 0 ∨ v2 = 1 := by omega
    rcases h3 with rfl | rfl
    · exact ⟨255, by omega, Q5.cell 0 rfl⟩
    · exact ⟨v1, by omega, Q5.cell 1 rfl⟩
  obtain ⟨sp, hsp, gq⟩ := hcell
  have j3 : (v2 : Int) < 2 := by omega
  have j0 : (0 : Int) ≤ (v2 : Int) := by omega
  clear k7 X6 HB6 O6 S6 Q6 hv1 Zq
  have f0 := X7.out.cell 1 rfl
  have z0 := X7.out.frozen 1
  obtain ⟨W8, hW8⟩ : ∃ W8, W8 = w7.setCell ⟨D, 1, none⟩ (.int .i64 (sp : Int)) := ⟨_, rfl⟩
  have B8 : Btw D (D + 1) w7 W8 := by rw [hW8]; exact (Btw.refl _ _ _).put
  have X8 : Hid (Box W8 D 25 #[.int .i64 (512 + (v0 : Int)), .int .i64 (sp : Int), .int .i64 nc2, .int .i64 nc3, .bool nf4, .bool nf5, .bool nf6, .bool nf7, .slice (some ⟨g, 0, none⟩) 16 cc]) := Lib.hid (by rw [hW8]; simpa using X7.out.set 1 (.int .i64 (sp : Int)))
  have b8 := B8.below (Nat.le_of_lt X7.out.lt)
  have S8 := Lib.hid (S7.out.below b8 (by have := HL.out; omega))
  have HB8 := Lib.hid (btw_belowC HB7.out b8 (by have := HL.out; omega))
  have O8 := Lib.hid (ownI_far O7.out (by have := HL.out; omega) B8)
  clear B8 b8 X7 HB7 O7 S7
  go_wp2_with fail
  rw [← hW8]
  clear hW8
  refine (HNx.out 4 (K' + 1 + 1 + 1) W8 (by omega) (by omega) (by omega) S8.out).mono ?_
  rintro e w9 ⟨v3, rfl, hv3, S9, k9⟩
  have X9 := Lib.hid (X8.out.btw k9 (.inr (by have := HL.out; omega)))
  have HB9 := Lib.hid (HB8.out.trans k9)
  have O9 := Lib.hid (ownI_far O8.out (by have := HL.out; omega) k9)
  clear k9 X8 HB8 O8 S8
  clear f0 z0 gq j3 j0 hv2
  have f0 := X9.out.cell 2 rfl
  have z0 := X9.out.frozen 2
  obtain ⟨W10, hW10⟩ : ∃ W10, W10 = w9.setCell ⟨D, 2, none⟩ (.int .i64 (v3 : Int)) := ⟨_, rfl⟩
  have B10 : Btw D (D + 1) w9 W10 := by rw [hW10]; exact (Btw.refl _ _ _).put
  have X10 : Hid (Box W10 D 25 #[.int .i64 (512 + (v0 : Int)), .int .i64 (sp : Int), .int .i64 (v3 : Int), .int .i64 nc3, .bool nf4, .bool nf5, .bool nf6, .bool nf7, .slice (some ⟨g, 0, none⟩) 16 cc]) := Lib.hid (by rw [hW10]; simpa using X9.out.set 2 (.int .i64 (v3 : Int)))
  have b10 := B10.below (Nat.le_of_lt X9.out.lt)
  have S10 := Lib.hid (S9.out.below b10 (by have := HL.out; omega))
  have HB10 := Lib.hid (btw_belowC HB9.out b10 (by have := HL.out; omega))
  have O10 := Lib.hid (ownI_far O9.out (by have := HL.out; omega) B10)
  clear B10 b10 X9 HB9 O9 S9
  go_wp2_with fail
  rw [← hW10]
  clear hW10
  refine (HNx.out 8 (K' + 1 + 1 + 1 + 1) W10 (by omega) (by omega) (by omega) S10.out).mono ?_
  rintro e w11 ⟨v4, rfl, hv4, S11, k11⟩
  have X11 := Lib.hid (X10.out.btw k11 (.inr (by have := HL.out; omega)))
  have HB11 := Lib.hid (HB10.out.trans k11)
  have O11 := Lib.hid (ownI_far O10.out (by have := HL.out; omega) k11)
  clear k11 X10 HB10 O10 S10
  clear f0 z0
  have f0 := X11.out.cell 3 rfl
  have z0 := X11.out.frozen 3
  obtain ⟨W12, hW12⟩ : ∃ W12, W12 = w11.setCell ⟨D, 3, none⟩ (.int .i64 (v4 : Int)) := ⟨_, rfl⟩
  have B12 : Btw D (D + 1) w11 W12 := by rw [hW12]; exact (Btw.refl _ _ _).put
  have X12 : Hid (Box W12 D 25 #[.int .i64 (512 + (v0 : Int)), .int .i64 (sp : Int), .int .i64 (v3 : Int), .int .i64 (v4 : Int), .bool nf4, .bool nf5, .bool nf6, .bool nf7, .slice (some ⟨g, 0, none⟩) 16 cc]) := Lib.hid (by rw [hW12]; simpa using X11.out.set 3 (.int .i64 (v4 : Int)))
  have b12 := B12.below (Nat.le_of_lt X11.out.lt)
  have S12 := Lib.hid (S11.out.below b12 (by have := HL.out; omega))
  have HB12 := Lib.hid (btw_belowC HB11.out b12 (by have := HL.out; omega))
  have O12 := Lib.hid (ownI_far O11.out (by have := HL.out; omega) B12)
  clear B12 b12 X11 HB11 O11 S11
  go_wp2_with fail
  rw [← hW12]
  clear hW12
  refine (HCh.out 2 (K' + 1 + 1 + 1 + 1 + 1) W12 (by omega) (by omega) (by omega) S12.out).mono ?_
  rintro e w13 ⟨q4, rfl, S13, k13⟩
  have X13 := Lib.hid (X12.out.btw k13 (.inr (by have := HL.out; omega)))
  have HB13 := Lib.hid (HB12.out.trans k13)
  have O13 := Lib.hid (ownI_far O12.out (by have := HL.out; omega) k13)
  clear k13 X12 HB12 O12 S12
  clear f0 z0
  have f0 := X13.out.cell 4 rfl
  have z0 := X13.out.frozen 4
  obtain ⟨W14, hW14⟩ : ∃ W14, W14 = w13.setCell ⟨D, 4, none⟩ (.bool q4) := ⟨_, rfl⟩
  have B14 : Btw D (D + 1) w13 W14 := by rw [hW14]; exact (Btw.refl _ _ _).put
  have X14 : Hid (Box W14 D 25 #[.int .i64 (512 + (v0 : Int)), .int .i64 (sp : Int), .int .i64 (v3 : Int), .int .i64 (v4 : Int), .bool q4, .bool nf5, .bool nf6, .bool nf7, .slice (some ⟨g, 0, none⟩) 16 cc]) := Lib.hid (by rw [hW14]; simpa using X13.out.set 4 (.bool q4))
  have b14 := B14.below (Nat.le_of_lt X13.out.lt)
  have S14 := Lib.hid (S13.out.below b14 (by have := HL.out; omega))
  have HB14 := Lib.hid (btw_belowC HB13.out b14 (by have := HL.out; omega))
  have O14 := Lib.hid (ownI_far O13.out (by have := HL.out; omega) B14)
  clear B14 b14 X13 HB13 O13 S13
  go_wp2_with fail
  rw [← hW14]
  clear hW14
  refine (HCh.out 2 (K' + 1 + 1 + 1 + 1 + 1 + 1) W14 (by omega) (by omega) (by omega) S14.out).mono ?_
  rintro e w15 ⟨q5, rfl, S15, k15⟩
  have X15 := Lib.hid (X14.out.btw k15 (.inr (by have := HL.out; omega)))
  have HB15 := Lib.hid (HB14.out.trans k15)
  have O15 := Lib.hid (ownI_far O14.out (by have := HL.out; omega) k15)
  clear k15 X14 HB14 O14 S14
  clear f0 z0
  have f0 := X15.out.cell 5 rfl
  have z0 := X15.out.frozen 5
  obtain ⟨W16, hW16⟩ : ∃ W16, W16 = w15.setCell ⟨D, 5, none⟩ (.bool q5) := ⟨_, rfl⟩
  have B16 : Btw D (D + 1) w15 W16 := by rw [hW16]; exact (Btw.refl _ _ _).put
  have X16 : Hid (Box W16 D 25 #[.int .i64 (512 + (v0 : Int)), .int .i64 (sp : Int), .int .i64 (v3 : Int), .int .i64 (v4 : Int), .bool q4, .bool q5, .bool nf6, .bool nf7, .slice (some ⟨g, 0, none⟩) 16 cc]) := Lib.hid (by rw [hW16]; simpa using X15.out.set 5 (.bool q5))
  have b16 := B16.below (Nat.le_of_lt X15.out.lt)
  have S16 := Lib.hid (S15.out.below b16 (by have := HL.out; omega))
  have HB16 := Lib.hid (btw_belowC HB15.out b16 (by have := HL.out; omega))
  have O16 := Lib.hid (ownI_far O15.out (by have := HL.out; omega) B16)
  clear B16 b16 X15 HB15 O15 S15
  go_wp2_with fail
  rw [← hW16]
  clear hW16
  refine (HCh.out 2 (K' + 1 + 1 + 1 + 1 + 1 + 1 + 1) W16 (by omega) (by omega) (by omega) S16.out).mono ?_
  rintro e w17 ⟨q6, rfl, S17, k17⟩
  have X17 := Lib.hid (X16.out.btw k17 (.inr (by have := HL.out; omega)))
  have HB17 := Lib.hid (HB16.out.trans k17)
  have O17 := Lib.hid (ownI_far O16.out (by have := HL.out; omega) k17)
  clear k17 X16 HB16 O16 S16
  clear f0 z0
  have f0 := X17.out.cell 6 rfl
  have z0 := X17.out.frozen 6
  obtain ⟨W18, hW18⟩ : ∃ W18, W18 = w17.setCell ⟨D, 6, none⟩ (.bool q6) := ⟨_, rfl⟩
  have B18 : Btw D (D + 1) w17 W18 := by rw [hW18]; exact (Btw.refl _ _ _).put
  have X18 : Hid (Box W18 D 25 #[.int .i64 (512 + (v0 : Int)), .int .i64 (sp : Int), .int .i64 (v3 : Int), .int .i64 (v4 : Int), .bool q4, .bool q5, .bool q6, .bool nf7, .slice (some ⟨g, 0, none⟩) 16 cc]) := Lib.hid (by rw [hW18]; simpa using X17.out.set 6 (.bool q6))
  have b18 := B18.below (Nat.le_of_lt X17.out.lt)
  have S18 := Lib.hid (S17.out.below b18 (by have := HL.out; omega))
  have HB18 := Lib.hid (btw_belowC HB17.out b18 (by have := HL.out; omega))
  have O18 := Lib.hid (ownI_far O17.out (by have := HL.out; omega) B18)
  clear B18 b18 X17 HB17 O17 S17
  go_wp2_with fail
  rw [← hW18]
  clear hW18
  refine (HCh.out 9 (K' + 1 + 1 + 1 + 1 + 1 + 1 + 1 + 1) W18 (by omega) (by omega) (by omega) S18.out).mono ?_
  rintro e w19 ⟨q7, rfl, S19, k19⟩
  have X19 := Lib.hid (X18.out.btw k19 (.inr (by have := HL.out; omega)))
  have HB19 := Lib.hid (HB18.out.trans k19)
  have O19 := Lib.hid (ownI_far O18.out (by have := HL.out; omega) k19)
  clear k19 X18 HB18 O18 S18
  clear f0 z0
  have f0 := X19.out.cell 7 rfl
  have z0 := X19.out.frozen 7
  obtain ⟨W20, hW20⟩ : ∃ W20, W20 = w19.setCell ⟨D, 7, none⟩ (.bool q7) := ⟨_, rfl⟩
  have B20 : Btw D (D + 1) w19 W20 := by rw [hW20]; exact (Btw.refl _ _ _).put
  have X20 : Hid (Box W20 D 25 #[.int .i64 (512 + (v0 : Int)), .int .i64 (sp : Int), .int .i64 (v3 : Int), .int .i64 (v4 : Int), .bool q4, .bool q5, .bool q6, .bool q7, .slice (some ⟨g, 0, none⟩) 16 cc]) := Lib.hid (by rw [hW20]; simpa using X19.out.set 7 (.bool q7))
  have b20 := B20.below (Nat.le_of_lt X19.out.lt)
  have S20 := Lib.hid (S19.out.below b20 (by have := HL.out; omega))
  have HB20 := Lib.hid (btw_belowC HB19.out b20 (by have := HL.out; omega))
  have O20 := Lib.hid (ownI_far O19.out (by have := HL.out; omega) B20)
  clear B20 b20 X19 HB19 O19 S19
  have HV : Hid ((v0 < 30 ∧ sp ≤ 255) ∧ v3 < 4 ∧ v4 < 8) := Lib.hid (by omega)
  clear hv0 hsp hv3 hv4
  go_wp2
  rw [← hW20]
  clear hW20 f0 z0
  
  have HI0 : Hid (∃ rs : List Int, rs.length = 16 ∧ (∀ z ∈ rs, 0 ≤ z ∧ z ≤ 255) ∧ OwnI W20 w0.heap.size D (some ⟨g, 0, none⟩) rs) := Lib.hid ⟨zRegs, rfl, fun z hz => (by obtain rfl := List.eq_of_mem_replicate hz; omega), O20.out⟩
  have HS0 : Hid (Src W20 b A n c zs (K' + 9 + 3 * 0)) := Lib.hid (S20.out.mono (by omega))
  clear O20 S20
  go_loopw [4] (fun iv wr => ∃ i : Nat, i ≤ 16 ∧ iv = .int .i64 (i : Int) ∧ Hid (∃ rs : List Int, rs.length = 16 ∧ (∀ z ∈ rs, 0 ≤ z ∧ z ≤ 255) ∧ OwnI wr w0.heap.size D (some ⟨g, 0, none⟩) rs) ∧ Hid (Src wr b A n c zs (K' + 9 + 3 * i)) ∧ Hid (Btw b (b + 1) w0 wr) ∧ Hid (Box wr D 25 #[.int .i64 (512 + (v0 : Int)), .int .i64 (sp : Int), .int .i64 (v3 : Int), .int .i64 (v4 : Int), .bool q4, .bool q5, .bool q6, .bool q7, .slice (some ⟨g, 0, none⟩) 16 cc])) (fun iv _ => 16 - (intOf iv).toNat)
  case atStart => exact ⟨0, by omega, rfl, HI0, HS0, HB20, X20⟩
  case round =>
    clear HI0 HS0 HB20 X20
    obtain ⟨i, hi, rfl, HO, HS, HB, HX⟩ := hrel
    by_cases hlt : i < 16
    · have i1 : (i : Int) < 16 := by omega
      have i0 : (0 : Int) ≤ (i : Int) := by omega
      have hC0 : CpC w0 b A n c zs (K' + 9 + 3 * i) D g w0.heap.size D #[.int .i64 (512 + (v0 : Int)), .int .i64 (sp : Int), .int .i64 (v3 : Int), .int .i64 (v4 : Int), .bool q4, .bool q5, .bool q6, .bool q7, .slice (some ⟨g, 0, none⟩) 16 cc] (fun _ => false) wr.drew := ⟨by simpa [cnt3c] using HS.out.drew, HB.out.drew, HX.out.drew, by
        obtain ⟨rs, r1, r2, r3⟩ := HO.out
        exact ⟨rs, r1, r2, r3.btw (Btw.refl D (D + 1) wr).drew (.inl (Nat.le_refl _))⟩⟩
      have HLt : Hid ((b < D + 1 ∧ g < D + 1) ∧ D < D + 1) := Lib.hid (by have := HL.out; omega)
      clear HO HS HB HX HCh
      go_wp2
      refine wp_region_sets (by kernel_rfl) [[40], [41], [42], [43], [44], [45], [46], [47], [48], [49], [50], [51], [52], []] [[], [0], [], [], [3], [], [3, 4, 5], [3, 4, 5, 6], [], [3, 4, 5, 6, 8], [3, 4, 5, 6, 7, 8, 9], [3, 4, 5, 6, 7, 8, 9, 10], [0, 1, 2, 3, 4, 5, 6, 7, 8, 9, 10, 11], [0, 1, 2, 3, 4, 5, 6, 7, 8, 9, 10, 11, 12]] [0, 1, 2, 3, 4, 5, 6, 7, 8, 9, 10, 11, 12, 13, 14, 15, 16, 17, 18, 19, 20, 21, 22, 23, 24, 25, 26, 27, 28, 29, 30, 31, 32, 33, 34, 35, 53] (by kernel_rfl) (CpC w0 b A n c zs (K' + 9 + 3 * i) D g w0.heap.size D #[.int .i64 (512 + (v0 : Int)), .int .i64 (sp : Int), .int .i64 (v3 : Int), .int .i64 (v4 : Int), .bool q4, .bool q5, .bool q6, .bool q7, .slice (some ⟨g, 0, none⟩) 16 cc]) (cpF b (D + 1) D g cc i) hC0 ?_ ?_
      · refine ⟨?_, ?_, ?_, ?_, ?_, ?_, ?_, ?_, ?_, ?_, ?_, ?_, ?_, ?_, trivial⟩
        · intro L T W hT hs hLi hLb hLc hC hF K hK
          obtain ⟨t0, t1, t2, t3, t4, t5, t6, t7, t8, t9, t10, t11, t12, t13, t14, t15, t16, t17, t18, t19, t20, t21, t22, t23, t24, t25, t26, t27, t28, t29, t30, t31, t32, t33, t34, t35, t36, t37, t38, t39, t40, t41, t42, t43, t44, t45, t46, t47, t48, t49, t50, t51, t52, t53, rfl⟩ := arr54c T hT
          obtain rfl : t0 = .pointer (some ⟨b, 0, none⟩) := hs 0 (by decide)
          obtain rfl : t3 = .pointer (some ⟨D, 0, none⟩) := hs 3 (by decide)
          obtain rfl : t4 = .int .i64 (i : Int) := hs 4 (by decide)
          clear hF hs hT hLb hLc
          go_simp
          exact hK.out _ W (by unfold CpC at hC ⊢; simpa [cnt3c] using hC) (fun _ _ _ h => h) rfl
        · intro L T W hT hs hLi hLb hLc hC hF K hK
          obtain ⟨t0, t1, t2, t3, t4, t5, t6, t7, t8, t9, t10, t11, t12, t13, t14, t15, t16, t17, t18, t19, t20, t21, t22, t23, t24, t25, t26, t27, t28, t29, t30, t31, t32, t33, t34, t35, t36, t37, t38, t39, t40, t41, t42, t43, t44, t45, t46, t47, t48, t49, t50, t51, t52, t53, rfl⟩ := arr54c T hT
          obtain rfl : t0 = .pointer (some ⟨b, 0, none⟩) := hs 0 (by decide)
          obtain rfl : t3 = .pointer (some ⟨D, 0, none⟩) := hs 3 (by decide)
          obtain rfl : t4 = .int .i64 (i : Int) := hs 4 (by decide)
          have f0 := hF 0 (by decide)
          simp only [cpF, mask] at f0
          subst f0
          have c8 := hC.2.2.1.cell 8 rfl
          clear hF hs hT hLb hLc
          go_simp
          exact hK.out _ W (by unfold CpC at hC ⊢; simpa [cnt3c] using hC) (fun _ _ _ h => h) rfl
        · intro L T W hT hs hLi hLb hLc hC hF K hK
          obtain ⟨t0, t1, t2, t3, t4, t5, t6, t7, t8, t9, t10, t11, t12, t13, t14, t15, t16, t17, t18, t19, t20, t21, t22, t23, t24, t25, t26, t27, t28, t29, t30, t31, t32, t33, t34, t35, t36, t37, t38, t39, t40, t41, t42, t43, t44, t45, t46, t47, t48, t49, t50, t51, t52, t53, rfl⟩ := arr54c T hT
          obtain rfl : t0 = .pointer (some ⟨b, 0, none⟩) := hs 0 (by decide)
          obtain rfl : t3 = .pointer (some ⟨D, 0, none⟩) := hs 3 (by decide)
          obtain rfl : t4 = .int .i64 (i : Int) := hs 4 (by decide)
          clear hF hs hT hLb hLc
          go_simp
          exact hK.out _ W (by unfold CpC at hC ⊢; simpa [cnt3c] using hC) (fun _ _ _ h => h) rfl
        · intro L T W hT hs hLi hLb hLc hC hF K hK
          obtain ⟨t0, t1, t2, t3, t4, t5, t6, t7, t8, t9, t10, t11, t12, t13, t14, t15, t16, t17, t18, t19, t20, t21, t22, t23, t24, t25, t26, t27, t28, t29, t30, t31, t32, t33, t34, t35, t36, t37, t38, t39, t40, t41, t42, t43, t44, t45, t46, t47, t48, t49, t50, t51, t52, t53, rfl⟩ := arr54c T hT
          obtain rfl : t0 = .pointer (some ⟨b, 0, none⟩) := hs 0 (by decide)
          obtain rfl : t3 = .pointer (some ⟨D, 0, none⟩) := hs 3 (by decide)
          obtain rfl : t4 = .int .i64 (i : Int) := hs 4 (by decide)
          clear hF hs hT hLb hLc
          go_simp
          exact hK.out _ W (by unfold CpC at hC ⊢; simpa [cnt3c] using hC) (fun _ _ _ h => h) rfl
        · intro L T W hT hs hLi hLb hLc hC hF K hK
          obtain ⟨t0, t1, t2, t3, t4, t5, t6, t7, t8, t9, t10, t11, t12, t13, t14, t15, t16, t17, t18, t19, t20, t21, t22, t23, t24, t25, t26, t27, t28, t29, t30, t31, t32, t33, t34, t35, t36, t37, t38, t39, t40, t41, t42, t43, t44, t45, t46, t47, t48, t49, t50, t51, t52, t53, rfl⟩ := arr54c T hT
          obtain rfl : t0 = .pointer (some ⟨b, 0, none⟩) := hs 0 (by decide)
          obtain rfl : t3 = .pointer (some ⟨D, 0, none⟩) := hs 3 (by decide)
          obtain rfl : t4 = .int .i64 (i : Int) := hs 4 (by decide)
          have f3 := hF 3 (by decide)
          simp only [cpF, mask] at f3
          have l6 : L 6 = false := by
            cases e : L 6 with
            | false => rfl
            | true => have := hLc 6 e 4 (by decide); rw [hLi] at this; cases this
          have l9 : L 9 = false := by
            cases e : L 9 with
            | false => rfl
            | true => have := hLc 9 e 4 (by decide); rw [hLi] at this; cases this
          have ec : cnt3c L = 0 := by unfold cnt3c; simp [hLi, l6, l9]
          have ed : cnt3c (fun j => if j = 4 then true else L j) = 1 := by unfold cnt3c; simp [l6, l9]
          subst f3
          obtain ⟨hS, hB, hX, rs, r1, r2, r3⟩ := hC
          rw [ec] at hS
          have HN := Lib.hid (HNx.out 4 (K' + 9 + 3 * i + 0) W (by omega) (by omega) (by omega) hS)
          have HR := Lib.hid (And.intro r1 (And.intro r2 r3))
          have HXW := Lib.hid hX
          have hlt' := HLt.out
          clear hF hs hT hLb hLc ec hS hLi hX r1 r2 r3 l6 l9
          go_simp
          refine HN.out.mono ?_
          rintro e w1 ⟨v, rfl, hv, S1, k1⟩
          exact hK.out _ w1 ⟨by rw [ed]; exact S1.out, hB.trans k1, HXW.out.btw k1 (.inr (by have := HL.out; omega)), rs, HR.out.1, HR.out.2.1, ownI_far HR.out.2.2 (by have := HL.out; omega) k1⟩ (fun j t _ h => cpF_btw k1 hlt'.1.1 j t h) ⟨v, rfl, hv⟩
        · intro L T W hT hs hLi hLb hLc hC hF K hK
          obtain ⟨t0, t1, t2, t3, t4, t5, t6, t7, t8, t9, t10, t11, t12, t13, t14, t15, t16, t17, t18, t19, t20, t21, t22, t23, t24, t25, t26, t27, t28, t29, t30, t31, t32, t33, t34, t35, t36, t37, t38, t39, t40, t41, t42, t43, t44, t45, t46, t47, t48, t49, t50, t51, t52, t53, rfl⟩ := arr54c T hT
          obtain rfl : t0 = .pointer (some ⟨b, 0, none⟩) := hs 0 (by decide)
          obtain rfl : t3 = .pointer (some ⟨D, 0, none⟩) := hs 3 (by decide)
          obtain rfl : t4 = .int .i64 (i : Int) := hs 4 (by decide)
          clear hF hs hT hLb hLc
          go_simp
          exact hK.out _ W (by unfold CpC at hC ⊢; simpa [cnt3c] using hC) (fun _ _ _ h => h) rfl
        · intro L T W hT hs hLi hLb hLc hC hF K hK
          obtain ⟨t0, t1, t2, t3, t4, t5, t6, t7, t8, t9, t10, t11, t12, t13, t14, t15, t16, t17, t18, t19, t20, t21, t22, t23, t24, t25, t26, t27, t28, t29, t30, t31, t32, t33, t34, t35, t36, t37, t38, t39, t40, t41, t42, t43, t44, t45, t46, t47, t48, t49, t50, t51, t52, t53, rfl⟩ := arr54c T hT
          obtain rfl : t0 = .pointer (some ⟨b, 0, none⟩) := hs 0 (by decide)
          obtain rfl : t3 = .pointer (some ⟨D, 0, none⟩) := hs 3 (by decide)
          obtain rfl : t4 = .int .i64 (i : Int) := hs 4 (by decide)
          have f5 := hF 5 (by decide)
          simp only [cpF, mask] at f5
          have l4 : L 4 = true := hLb 4 (by decide)
          have l9 : L 9 = false := by
            cases e : L 9 with
            | false => rfl
            | true => have := hLc 9 e 6 (by decide); rw [hLi] at this; cases this
          have ec : cnt3c L = 1 := by unfold cnt3c; simp [hLi, l4, l9]
          have ed : cnt3c (fun j => if j = 6 then true else L j) = 2 := by unfold cnt3c; simp [l4, l9]
          subst f5
          obtain ⟨hS, hB, hX, rs, r1, r2, r3⟩ := hC
          rw [ec] at hS
          have HN := Lib.hid (HNx.out 256 (K' + 9 + 3 * i + 1) W (by omega) (by omega) (by omega) hS)
          have HR := Lib.hid (And.intro r1 (And.intro r2 r3))
          have HXW := Lib.hid hX
          have hlt' := HLt.out
          clear hF hs hT hLb hLc ec hS hLi hX r1 r2 r3 l4 l9
          go_simp
          refine HN.out.mono ?_
          rintro e w1 ⟨v, rfl, hv, S1, k1⟩
          exact hK.out _ w1 ⟨by rw [ed]; exact S1.out, hB.trans k1, HXW.out.btw k1 (.inr (by have := HL.out; omega)), rs, HR.out.1, HR.out.2.1, ownI_far HR.out.2.2 (by have := HL.out; omega) k1⟩ (fun j t _ h => cpF_btw k1 hlt'.1.1 j t h) ⟨v, rfl, hv⟩
        · intro L T W hT hs hLi hLb hLc hC hF K hK
          obtain ⟨t0, t1, t2, t3, t4, t5, t6, t7, t8, t9, t10, t11, t12, t13, t14, t15, t16, t17, t18, t19, t20, t21, t22, t23, t24, t25, t26, t27, t28, t29, t30, t31, t32, t33, t34, t35, t36, t37, t38, t39, t40, t41, t42, t43, t44, t45, t46, t47, t48, t49, t50, t51, t52, t53, rfl⟩ := arr54c T hT
          obtain rfl : t0 = .pointer (some ⟨b, 0, none⟩) := hs 0 (by decide)
          obtain rfl : t3 = .pointer (some ⟨D, 0, none⟩) := hs 3 (by decide)
          obtain rfl : t4 = .int .i64 (i : Int) := hs 4 (by decide)
          have f4 := hF 4 (by decide)
          simp only [cpF, mask] at f4
          have f6 := hF 6 (by decide)
          simp only [cpF, mask] at f6
          obtain ⟨x, e, hx⟩ := f4
          subst e
          obtain ⟨y, e, hy⟩ := f6
          subst e
          have k0 := alloc_below W (.cells #[.int .i64 x, .int .i64 y] 3)
          have X0 := Lib.hid (Box.new W 3 #[.int .i64 x, .int .i64 y])
          have hlt' := HLt.out
          have hz : D + 1 ≤ W.heap.size := hC.2.2.1.lt
          clear hF hs hT hLb hLc
          go_simp
          exact hK.out _ _ (by
            obtain ⟨hS, hB, hX, rs, r1, r2, r3⟩ := hC
            exact ⟨by simpa [cnt3c] using hS.below k0 hS.lt, hB.trans (Btw.of_below k0 b (b + 1)), hX.step k0, rs, r1, r2, r3.below k0⟩) (fun j t _ h => cpF_btw (Btw.of_below k0 b (b + 1)) hlt'.1.1 j t h) ⟨W.heap.size, x, y, rfl, X0.out, by omega, hy, hz⟩
        · intro L T W hT hs hLi hLb hLc hC hF K hK
          obtain ⟨t0, t1, t2, t3, t4, t5, t6, t7, t8, t9, t10, t11, t12, t13, t14, t15, t16, t17, t18, t19, t20, t21, t22, t23, t24, t25, t26, t27, t28, t29, t30, t31, t32, t33, t34, t35, t36, t37, t38, t39, t40, t41, t42, t43, t44, t45, t46, t47, t48, t49, t50, t51, t52, t53, rfl⟩ := arr54c T hT
          obtain rfl : t0 = .pointer (some ⟨b, 0, none⟩) := hs 0 (by decide)
          obtain rfl : t3 = .pointer (some ⟨D, 0, none⟩) := hs 3 (by decide)
          obtain rfl : t4 = .int .i64 (i : Int) := hs 4 (by decide)
          clear hF hs hT hLb hLc
          go_simp
          exact hK.out _ W (by unfold CpC at hC ⊢; simpa [cnt3c] using hC) (fun _ _ _ h => h) rfl
        · intro L T W hT hs hLi hLb hLc hC hF K hK
          obtain ⟨t0, t1, t2, t3, t4, t5, t6, t7, t8, t9, t10, t11, t12, t13, t14, t15, t16, t17, t18, t19, t20, t21, t22, t23, t24, t25, t26, t27, t28, t29, t30, t31, t32, t33, t34, t35, t36, t37, t38, t39, t40, t41, t42, t43, t44, t45, t46, t47, t48, t49, t50, t51, t52, t53, rfl⟩ := arr54c T hT
          obtain rfl : t0 = .pointer (some ⟨b, 0, none⟩) := hs 0 (by decide)
          obtain rfl : t3 = .pointer (some ⟨D, 0, none⟩) := hs 3 (by decide)
          obtain rfl : t4 = .int .i64 (i : Int) := hs 4 (by decide)
          have f8 := hF 8 (by decide)
          simp only [cpF, mask] at f8
          have l4 : L 4 = true := hLb 4 (by decide)
          have l6 : L 6 = true := hLb 6 (by decide)
          have ec : cnt3c L = 2 := by unfold cnt3c; simp [hLi, l4, l6]
          have ed : cnt3c (fun j => if j = 9 then true else L j) = 3 := by unfold cnt3c; simp [l4, l6]
          subst f8
          obtain ⟨hS, hB, hX, rs, r1, r2, r3⟩ := hC
          rw [ec] at hS
          have HN := Lib.hid (HNx.out 2 (K' + 9 + 3 * i + 2) W (by omega) (by omega) (by omega) hS)
          have HR := Lib.hid (And.intro r1 (And.intro r2 r3))
          have HXW := Lib.hid hX
          have hlt' := HLt.out
          clear hF hs hT hLb hLc ec hS hLi hX r1 r2 r3 l4 l6
          go_simp
          refine HN.out.mono ?_
          rintro e w1 ⟨v, rfl, hv, S1, k1⟩
          exact hK.out _ w1 ⟨by rw [ed]; exact S1.out, hB.trans k1, HXW.out.btw k1 (.inr (by have := HL.out; omega)), rs, HR.out.1, HR.out.2.1, ownI_far HR.out.2.2 (by have := HL.out; omega) k1⟩ (fun j t _ h => cpF_btw k1 hlt'.1.1 j t h) ⟨v, rfl, hv⟩
        · intro L T W hT hs hLi hLb hLc hC hF K hK
          obtain ⟨t0, t1, t2, t3, t4, t5, t6, t7, t8, t9, t10, t11, t12, t13, t14, t15, t16, t17, t18, t19, t20, t21, t22, t23, t24, t25, t26, t27, t28, t29, t30, t31, t32, t33, t34, t35, t36, t37, t38, t39, t40, t41, t42, t43, t44, t45, t46, t47, t48, t49, t50, t51, t52, t53, rfl⟩ := arr54c T hT
          obtain rfl : t0 = .pointer (some ⟨b, 0, none⟩) := hs 0 (by decide)
          obtain rfl : t3 = .pointer (some ⟨D, 0, none⟩) := hs 3 (by decide)
          obtain rfl : t4 = .int .i64 (i : Int) := hs 4 (by decide)
          have f7 := hF 7 (by decide)
          simp only [cpF, mask] at f7
          have f9 := hF 9 (by decide)
          simp only [cpF, mask] at f9
          obtain ⟨q, x, y, e, X, hx, hy, hq⟩ := f7
          subst e
          obtain ⟨v, e, hv⟩ := f9
          subst e
          have hvi : (v : Int) < 2 := by omega
          have hCs : ∃ z : Nat, (#[.int .i64 x, .int .i64 y] : Array Value)[v]? = some (.int .i64 z) ∧ z < 256 := by
            have : v = 0 ∨ v = 1 := by omega
            rcases this with rfl | rfl
            · exact ⟨x, rfl, hx⟩
            · exact ⟨y, rfl, hy⟩
          have HX7 := Lib.hid X
          have HCs := Lib.hid hCs
          clear hF hs hT hLb hLc X hx hy hCs
          go_simp
          obtain ⟨z, q1, q2⟩ := HCs.out
          exact hK.out _ W (by unfold CpC at hC ⊢; simpa [cnt3c] using hC) (fun _ _ _ h => h) ⟨q, v, z, _, rfl, HX7.out, q1, q2, hq⟩
        · intro L T W hT hs hLi hLb hLc hC hF K hK
          obtain ⟨t0, t1, t2, t3, t4, t5, t6, t7, t8, t9, t10, t11, t12, t13, t14, t15, t16, t17, t18, t19, t20, t21, t22, t23, t24, t25, t26, t27, t28, t29, t30, t31, t32, t33, t34, t35, t36, t37, t38, t39, t40, t41, t42, t43, t44, t45, t46, t47, t48, t49, t50, t51, t52, t53, rfl⟩ := arr54c T hT
          obtain rfl : t0 = .pointer (some ⟨b, 0, none⟩) := hs 0 (by decide)
          obtain rfl : t3 = .pointer (some ⟨D, 0, none⟩) := hs 3 (by decide)
          obtain rfl : t4 = .int .i64 (i : Int) := hs 4 (by decide)
          have f10 := hF 10 (by decide)
          simp only [cpF, mask] at f10
          obtain ⟨q, v, x, cs, e, X, q0, hx, hq⟩ := f10
          subst e
          have c0 := X.cell v q0
          clear hF hs hT hLb hLc X q0
          go_simp
          exact hK.out _ W (by unfold CpC at hC ⊢; simpa [cnt3c] using hC) (fun _ _ _ h => h) ⟨x, rfl, hx⟩
        · intro L T W hT hs hLi hLb hLc hC hF K hK
          obtain ⟨t0, t1, t2, t3, t4, t5, t6, t7, t8, t9, t10, t11, t12, t13, t14, t15, t16, t17, t18, t19, t20, t21, t22, t23, t24, t25, t26, t27, t28, t29, t30, t31, t32, t33, t34, t35, t36, t37, t38, t39, t40, t41, t42, t43, t44, t45, t46, t47, t48, t49, t50, t51, t52, t53, rfl⟩ := arr54c T hT
          obtain rfl : t0 = .pointer (some ⟨b, 0, none⟩) := hs 0 (by decide)
          obtain rfl : t3 = .pointer (some ⟨D, 0, none⟩) := hs 3 (by decide)
          obtain rfl : t4 = .int .i64 (i : Int) := hs 4 (by decide)
          have f1 := hF 1 (by decide)
          simp only [cpF, mask] at f1
          have f2 := hF 2 (by decide)
          simp only [cpF, mask] at f2
          subst f1
          subst f2
          clear hF hs hT hLb hLc
          go_simp
          exact hK.out _ W (by unfold CpC at hC ⊢; simpa [cnt3c] using hC) (fun _ _ _ h => h) rfl
        · intro L T W hT hs hLi hLb hLc hC hF K hK
          obtain ⟨t0, t1, t2, t3, t4, t5, t6, t7, t8, t9, t10, t11, t12, t13, t14, t15, t16, t17, t18, t19, t20, t21, t22, t23, t24, t25, t26, t27, t28, t29, t30, t31, t32, t33, t34, t35, t36, t37, t38, t39, t40, t41, t42, t43, t44, t45, t46, t47, t48, t49, t50, t51, t52, t53, rfl⟩ := arr54c T hT
          obtain rfl : t0 = .pointer (some ⟨b, 0, none⟩) := hs 0 (by decide)
          obtain rfl : t3 = .pointer (some ⟨D, 0, none⟩) := hs 3 (by decide)
          obtain rfl : t4 = .int .i64 (i : Int) := hs 4 (by decide)
          have f11 := hF 11 (by decide)
          simp only [cpF, mask] at f11
          have f12 := hF 12 (by decide)
          simp only [cpF, mask] at f12
          obtain ⟨x, e, hx⟩ := f11
          subst e
          subst f12
          obtain ⟨hS, hB, hX, rs, r1, r2, r3⟩ := hC
          obtain ⟨gb, mm, ff, e, hc, hz, -, -, -, hput⟩ := r3.put i (by omega)
          injection e with e
          injection e with e _ _
          subst e
          have hlt' := HLt.out
          have HP := Lib.hid (hput (x : Int))
          have HXW := Lib.hid hX
          have HSB := Lib.hid (And.intro hS hB)
          have HR := Lib.hid (And.intro r1 r2)
          clear hF hs hT hLb hLc hput hX hS hB r1 r2 r3
          go_simp
          have k1 : Btw g (g + 1) W (W.setCell ⟨g, i, none⟩ (.int .i64 (x : Int))) := (Btw.refl _ _ _).put
          refine hK.out undef _ ⟨by simpa [cnt3c] using HSB.out.1.below (k1.below (Nat.le_of_lt (cell_lt hc))) (by have := HL.out; show b < g; omega), btw_belowC HSB.out.2 (k1.below (Nat.le_of_lt (cell_lt hc))) (by have := HL.out; omega), HXW.out.btw k1 (.inr (by have := HL.out; omega)), rs.set i x, by rw [List.length_set]; exact HR.out.1, set_byte HR.out.2 i (by omega), HP.out⟩ (fun j t m h => cpF_store hlt'.1.2 _ j t m h) trivial
      · intro T W hT hs hC hF
        obtain ⟨t0, t1, t2, t3, t4, t5, t6, t7, t8, t9, t10, t11, t12, t13, t14, t15, t16, t17, t18, t19, t20, t21, t22, t23, t24, t25, t26, t27, t28, t29, t30, t31, t32, t33, t34, t35, t36, t37, t38, t39, t40, t41, t42, t43, t44, t45, t46, t47, t48, t49, t50, t51, t52, t53, rfl⟩ := arr54c T hT
        obtain rfl : t0 = .pointer (some ⟨b, 0, none⟩) := hs 0 (by decide)
        obtain rfl : t3 = .pointer (some ⟨D, 0, none⟩) := hs 3 (by decide)
        obtain rfl : t4 = .int .i64 (i : Int) := hs 4 (by decide)
        obtain rfl : t1 = undef := hs 1 (by decide)
        have v2 : t2 = _ := hs 2 (by decide)
        conv at v2 => rhs; whnf
        subst v2
        have v5 : t5 = _ := hs 5 (by decide)
        conv at v5 => rhs; whnf
        subst v5
        have v6 : t6 = _ := hs 6 (by decide)
        conv at v6 => rhs; whnf
        subst v6
        have v7 : t7 = _ := hs 7 (by decide)
        conv at v7 => rhs; whnf
        subst v7
        have v8 : t8 = _ := hs 8 (by decide)
        conv at v8 => rhs; whnf
        subst v8
        have v9 : t9 = _ := hs 9 (by decide)
        conv at v9 => rhs; whnf
        subst v9
        have v10 : t10 = _ := hs 10 (by decide)
        conv at v10 => rhs; whnf
        subst v10
        have v11 : t11 = _ := hs 11 (by decide)
        conv at v11 => rhs; whnf
        subst v11
        have v12 : t12 = _ := hs 12 (by decide)
        conv at v12 => rhs; whnf
        subst v12
        have v13 : t13 = _ := hs 13 (by decide)
        conv at v13 => rhs; whnf
        subst v13
        have v14 : t14 = _ := hs 14 (by decide)
        conv at v14 => rhs; whnf
        subst v14
        have v15 : t15 = _ := hs 15 (by decide)
        conv at v15 => rhs; whnf
        subst v15
        have v16 : t16 = _ := hs 16 (by decide)
        conv at v16 => rhs; whnf
        subst v16
        have v17 : t17 = _ := hs 17 (by decide)
        conv at v17 => rhs; whnf
        subst v17
        have v18 : t18 = _ := hs 18 (by decide)
        conv at v18 => rhs; whnf
        subst v18
        have v19 : t19 = _ := hs 19 (by decide)
        conv at v19 => rhs; whnf
        subst v19
        have v20 : t20 = _ := hs 20 (by decide)
        conv at v20 => rhs; whnf
        subst v20
        have v21 : t21 = _ := hs 21 (by decide)
        conv at v21 => rhs; whnf
        subst v21
        have v22 : t22 = _ := hs 22 (by decide)
        conv at v22 => rhs; whnf
        subst v22
        have v23 : t23 = _ := hs 23 (by decide)
        conv at v23 => rhs; whnf
        subst v23
        have v24 : t24 = _ := hs 24 (by decide)
        conv at v24 => rhs; whnf
        subst v24
        have v25 : t25 = _ := hs 25 (by decide)
        conv at v25 => rhs; whnf
        subst v25
        have v26 : t26 = _ := hs 26 (by decide)
        conv at v26 => rhs; whnf
        subst v26
        have v27 : t27 = _ := hs 27 (by decide)
        conv at v27 => rhs; whnf
        subst v27
        have v28 : t28 = _ := hs 28 (by decide)
        conv at v28 => rhs; whnf
        subst v28
        have v29 : t29 = _ := hs 29 (by decide)
        conv at v29 => rhs; whnf
        subst v29
        have v30 : t30 = _ := hs 30 (by decide)
        conv at v30 => rhs; whnf
        subst v30
        have v31 : t31 = _ := hs 31 (by decide)
        conv at v31 => rhs; whnf
        subst v31
        have v32 : t32 = _ := hs 32 (by decide)
        conv at v32 => rhs; whnf
        subst v32
        have v33 : t33 = _ := hs 33 (by decide)
        conv at v33 => rhs; whnf
        subst v33
        have v34 : t34 = _ := hs 34 (by decide)
        conv at v34 => rhs; whnf
        subst v34
        have v35 : t35 = _ := hs 35 (by decide)
        conv at v35 => rhs; whnf
        subst v35
        obtain rfl : t53 = undef := hs 53 (by decide)
        obtain ⟨L, _, hS, hB, hX, rs, r1, r2, r3⟩ := hC
        have HO1 : Hid (∃ rs : List Int, rs.length = 16 ∧ (∀ z ∈ rs, 0 ≤ z ∧ z ≤ 255) ∧ OwnI W w0.heap.size D (some ⟨g, 0, none⟩) rs) := Lib.hid ⟨rs, r1, r2, r3⟩
        have HS1 : Hid (Src W b A n c zs (K' + 9 + 3 * (i + 1))) := Lib.hid (hS.mono (by have := cnt3c_le L; omega))
        have HB1 := Lib.hid hB
        have HX1 := Lib.hid hX
        clear hF hs hT hS hB hX r1 r2 r3 HNx hC0 HLt
        go_wp2
        go_roundw
        case rel => exact ⟨i + 1, by omega, by go_num, HO1, HS1, HB1, HX1⟩
        case measure => simp [intOf]; omega
    · obtain rfl : i = 16 := by omega
      obtain ⟨rs, r1, r2, r3⟩ := HO.out
      have HY := Lib.hid (Y0.out.btw HB.out (.inr (by have := HL.out; omega)))
      have HR := Lib.hid (And.intro r1 (And.intro r2 r3))
      clear HO r1 r2 r3 HNx HCh hlt hi
      have a0 := HX.out.cell 0 rfl; have a1 := HX.out.cell 1 rfl; have a2 := HX.out.cell 2 rfl; have a3 := HX.out.cell 3 rfl; have a4 := HX.out.cell 4 rfl; have a5 := HX.out.cell 5 rfl; have a6 := HX.out.cell 6 rfl; have a7 := HX.out.cell 7 rfl; have a8 := HX.out.cell 8 rfl
      have y0 := HY.out.cell 0 rfl; have y1 := HY.out.cell 1 rfl; have y2 := HY.out.cell 2 rfl; have y3 := HY.out.cell 3 rfl; have y4 := HY.out.cell 4 rfl; have y5 := HY.out.cell 5 rfl; have y6 := HY.out.cell 6 rfl; have y7 := HY.out.cell 7 rfl; have y8 := HY.out.cell 8 rfl; have yz0 := HY.out.frozen 0; have yz1 := HY.out.frozen 1; have yz2 := HY.out.frozen 2; have yz3 := HY.out.frozen 3; have yz4 := HY.out.frozen 4; have yz5 := HY.out.frozen 5; have yz6 := HY.out.frozen 6; have yz7 := HY.out.frozen 7; have yz8 := HY.out.frozen 8
      go_wp2
      obtain ⟨W9, hW9⟩ : ∃ W9, W9 = (((((((((wr.setCell ⟨w.heap.size, 0, none⟩ (.int .i64 (512 + (v0 : Int)))).setCell ⟨w.heap.size, 1, none⟩ (.int .i64 (sp : Int))).setCell ⟨w.heap.size, 2, none⟩ (.int .i64 (v3 : Int))).setCell ⟨w.heap.size, 3, none⟩ (.int .i64 (v4 : Int))).setCell ⟨w.heap.size, 4, none⟩ (.bool q4)).setCell ⟨w.heap.size, 5, none⟩ (.bool q5)).setCell ⟨w.heap.size, 6, none⟩ (.bool q6)).setCell ⟨w.heap.size, 7, none⟩ (.bool q7)).setCell ⟨w.heap.size, 8, none⟩ (.slice (some ⟨g, 0, none⟩) 16 cc)) := ⟨_, rfl⟩
      have B9 : Btw (w.heap.size) (w.heap.size + 1) wr W9 := by rw [hW9]; exact (Btw.refl _ _ _).put.put.put.put.put.put.put.put.put
      have Y9 : Hid (Box W9 w.heap.size 25 #[.int .i64 (512 + (v0 : Int)), .int .i64 (sp : Int), .int .i64 (v3 : Int), .int .i64 (v4 : Int), .bool q4, .bool q5, .bool q6, .bool q7, .slice (some ⟨g, 0, none⟩) 16 cc]) := Lib.hid (by rw [hW9]; exact (HY.out.allN9 rfl _ _ _ _ _ _ _ _ _))
      have b9 := B9.below (Nat.le_of_lt HY.out.lt)
      have S9 := Lib.hid (HS.out.below b9 (by have := HL.out; omega))
      have H9 := Lib.hid (btw_belowC ((Btw.of_below (show Below w.heap.size w w0 from HA0.out) b (b + 1)).trans HB.out) b9 (Nat.le_refl _))
      have R9 := Lib.hid (OwnI.wideB (ownI_far HR.out.2.2 (by have := HL.out; omega) B9) (show w.heap.size ≤ w0.heap.size by have := HL.out; omega) (show D ≤ W9.heap.size by have := HX.out.lt; have := B9.size; omega))
      have hv := HV.out
      rw [← hW9]
      clear a0 a1 a2 a3 a4 a5 a6 a7 a8 y0 yz0 y1 yz1 y2 yz2 y3 yz3 y4 yz4 y5 yz5 y6 yz6 y7 yz7 y8 yz8 hW9 B9 b9
      have y0 := Y9.out.cell 0 rfl; have y1 := Y9.out.cell 1 rfl; have y2 := Y9.out.cell 2 rfl; have y3 := Y9.out.cell 3 rfl; have y4 := Y9.out.cell 4 rfl; have y5 := Y9.out.cell 5 rfl; have y6 := Y9.out.cell 6 rfl; have y7 := Y9.out.cell 7 rfl; have y8 := Y9.out.cell 8 rfl
      refine bodyPost_ret (v := .agg #[.int .i64 (512 + (v0 : Int)), .int .i64 (sp : Int), .int .i64 (v3 : Int), .int .i64 (v4 : Int), .bool q4, .bool q5, .bool q6, .bool q7, .slice (some ⟨g, 0, none⟩) 16 cc]) (by simp [results, Tryz.results18, go_sem, y0, y1, y2, y3, y4, y5, y6, y7, y8]) rfl ?_
      exact ⟨⟨512 + (v0 : Int), sp, v3, v4, q4, q5, q6, q7, rs⟩, some ⟨g, 0, none⟩, cc, rfl, Lib.hid ⟨⟨by show (0 : Int) ≤ 512 + (v0 : Int) ∧ 512 + (v0 : Int) ≤ 4095; omega, by show (0 : Int) ≤ (sp : Int) ∧ (sp : Int) ≤ 255; omega, by show (0 : Int) ≤ (v3 : Int) ∧ (v3 : Int) ≤ 3; omega, by show (0 : Int) ≤ (v4 : Int) ∧ (v4 : Int) ≤ 7; omega, HR.out.1, HR.out.2.1⟩, R9.out⟩, Lib.hid (S9.out.mono (by omega)), H9.out⟩
def GivesCpuC (w : World) (e : Ending) (w' : World) : Prop :=
  ∃ (d : CD) (B : Option Addr) (cc : Nat), e = .returned (.agg #[.int .i64 d.pc, .int .i64 d.sp, .int .i64 d.bank, .int .i64 d.level, .bool d.zero, .bool d.carry, .bool d.on, .bool d.halt, .slice B 16 cc]) ∧ Hid (RepC w' B d) ∧ Below w.heap.size w w'
set_option maxRecDepth 100000 in
set_option maxHeartbeats 4000000 in
theorem cpuDrawn (A : Option Addr) (n c : Nat) (zs : List Nat) (w : World) (hn : n ≤ maxLen) (hl : zs.length = n) (h : ByB w w.heap.size A zs) :
    Calls Tryz.prog 5 #[.slice A n c] w (GivesCpuC w) := by
  have hb0 := alloc_below w (.cells #[.int .i64 0, .int .i64 0, .int .i64 0, .int .i64 0, .bool false, .bool false, .bool false, .bool false, .slice none 0 0] 25)
  obtain ⟨w0, hw0⟩ : ∃ w0, w0 = w.alloc (.cells #[.int .i64 0, .int .i64 0, .int .i64 0, .int .i64 0, .bool false, .bool false, .bool false, .bool false, .slice none 0 0] 25) := ⟨_, rfl⟩
  have Y0 : Hid (Box w0 w.heap.size 25 #[.int .i64 0, .int .i64 0, .int .i64 0, .int .i64 0, .bool false, .bool false, .bool false, .bool false, .slice none 0 0]) := Lib.hid (by rw [hw0]; exact Box.new _ _ _)
  rw [← hw0] at hb0
  have HC := Lib.hid (srcNew A n c zs w0 hn hl (h.step hb0))
  have HF := Lib.hid (fun W (h : Src W w0.heap.size A n c zs 0) => srcCpu w0.heap.size A n c zs 0 W (by omega) h)
  unfold GivesCpuD at HF
  have HW0 := Lib.hid hw0
  clear hn hl h hw0
  go_enter Tryz.func5, Tryz.ntmps5
  go_wp2_with fail
  rw [← HW0.out]
  refine HC.out.mono ?_
  rintro e w1 ⟨rfl, S1, hb1⟩
  have hb2 := bt hb0 hb1
  have Y1 := Lib.hid (Y0.out.step hb1)
  have HZ := Lib.hid hb1.size
  have HY := Lib.hid Y0.out.lt
  clear hb0 Y0 HC HW0
  go_wp2_with fail
  refine (HF.out w1 S1.out).mono ?_
  rintro e w2 ⟨d, B, cc, rfl, HD, HO, HR⟩
  have Y2 := Lib.hid (Y1.out.btw HR (.inl HY.out))
  have hb3 := hb2.trans ((HR.below HZ.out).mono (Nat.le_of_lt HY.out))
  have HRC : Hid (RepC w2 B d) := Lib.hid ⟨HD.out.1, HD.out.2.reads⟩
  clear Y1 hb2 HF S1 hb1 HO HR HD
  have y0 := Y2.out.cell 0 rfl; have y1 := Y2.out.cell 1 rfl; have y2 := Y2.out.cell 2 rfl; have y3 := Y2.out.cell 3 rfl; have y4 := Y2.out.cell 4 rfl; have y5 := Y2.out.cell 5 rfl; have y6 := Y2.out.cell 6 rfl; have y7 := Y2.out.cell 7 rfl; have y8 := Y2.out.cell 8 rfl; have yz0 := Y2.out.frozen 0; have yz1 := Y2.out.frozen 1; have yz2 := Y2.out.frozen 2; have yz3 := Y2.out.frozen 3; have yz4 := Y2.out.frozen 4; have yz5 := Y2.out.frozen 5; have yz6 := Y2.out.frozen 6; have yz7 := Y2.out.frozen 7; have yz8 := Y2.out.frozen 8
  go_wp2
  obtain ⟨W9, hW9⟩ : ∃ W9, W9 = (((((((((w2.setCell ⟨w.heap.size, 0, none⟩ (.int .i64 d.pc)).setCell ⟨w.heap.size, 1, none⟩ (.int .i64 d.sp)).setCell ⟨w.heap.size, 2, none⟩ (.int .i64 d.bank)).setCell ⟨w.heap.size, 3, none⟩ (.int .i64 d.level)).setCell ⟨w.heap.size, 4, none⟩ (.bool d.zero)).setCell ⟨w.heap.size, 5, none⟩ (.bool d.carry)).setCell ⟨w.heap.size, 6, none⟩ (.bool d.on)).setCell ⟨w.heap.size, 7, none⟩ (.bool d.halt)).setCell ⟨w.heap.size, 8, none⟩ (.slice B 16 cc)) := ⟨_, rfl⟩
  have B9 : Btw (w.heap.size) (w.heap.size + 1) w2 W9 := by rw [hW9]; exact (Btw.refl _ _ _).put.put.put.put.put.put.put.put.put
  have Y9 : Hid (Box W9 w.heap.size 25 #[.int .i64 d.pc, .int .i64 d.sp, .int .i64 d.bank, .int .i64 d.level, .bool d.zero, .bool d.carry, .bool d.on, .bool d.halt, .slice B 16 cc]) := Lib.hid (by rw [hW9]; exact (Y2.out.allN9 rfl _ _ _ _ _ _ _ _ _))
  have hb9 := hb3.trans (B9.below (Nat.le_of_lt Y2.out.lt))
  have R9 := Lib.hid (HRC.out.off Y2.out (by simp) B9)
  rw [← hW9]
  clear y0 yz0 y1 yz1 y2 yz2 y3 yz3 y4 yz4 y5 yz5 y6 yz6 y7 yz7 y8 yz8 hW9 B9
  have y0 := Y9.out.cell 0 rfl; have y1 := Y9.out.cell 1 rfl; have y2 := Y9.out.cell 2 rfl; have y3 := Y9.out.cell 3 rfl; have y4 := Y9.out.cell 4 rfl; have y5 := Y9.out.cell 5 rfl; have y6 := Y9.out.cell 6 rfl; have y7 := Y9.out.cell 7 rfl; have y8 := Y9.out.cell 8 rfl
  refine bodyPost_ret (v := .agg #[.int .i64 d.pc, .int .i64 d.sp, .int .i64 d.bank, .int .i64 d.level, .bool d.zero, .bool d.carry, .bool d.on, .bool d.halt, .slice B 16 cc]) (by simp [results, Tryz.results5, go_sem, y0, y1, y2, y3, y4, y5, y6, y7, y8]) rfl ?_
  exact ⟨d, B, cc, rfl, R9, hb9⟩
end Go.Proofs.YtcchhbkbnbphhaaGreatDoor
