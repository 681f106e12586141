/- Texts of this claim, one behind the other: DmaMv, DmaImpl2, NewFlash, Settle, Flush, Crash, Src, Draw, SrcMore, FlashDraw. -/
import Derived.Laws.CopyOwn
import Derived.Deep.RegionHeld3
import Derived.OwnWalk
import Derived.Laws.OwnMore
import Derived.WalkLawsBesides
import Derived.StillTailTactics
import Derived.IntWalk
import Derived.Deep.RegionWith
import Derived.Test.YtagdclbpgkilgaaM6
/- A channel moves a byte. Written by gen_dmaimpl.py. -/
namespace Go.Proofs.Ytagdclbpgkilgaa
open Go.RowKit

def KeepsCh (w w' : World) : Prop := ∀ b t cs, t ≠ 3 → t ≠ 111 → t ≠ 36 → Box w b t cs → Box w' b t cs
def GMove (a : PA) (m : MD) (lo hi b : Nat) (rs : List TChannel) (last : Bool) (w : World) (e : Ending) (w' : World) : Prop :=
  e = .returned (.bool last) ∧ Hid (BusAt w' a.R a.g a.b0 a.b1 a.b2 a.b3 a.A0 a.A1 a.c0 a.c1 m.r m.i m.z m.g m.s) ∧ Hid (OwnChannel w' lo hi (some ⟨b, 0, none⟩) rs) ∧ Hid (KeepsCh w w') ∧ Below a.R w w'
theorem BusAt.setCh {w : World} {lo g b0 b1 b2 b3 : Nat} {A0 A1 : Option Addr} {c0 c1 : Nat} {ram io zs : List Int} {gs : List Bool} {st : Int} (B : BusAt w lo g b0 b1 b2 b3 A0 A1 c0 c1 ram io zs gs st) {l h b : Nat} {rs : List TChannel} (O : OwnChannel w l h (some ⟨b, 0, none⟩) rs) (hn : rs ≠ []) (i : Nat) (u : Value) : BusAt (w.setCell ⟨b, i, none⟩ u) lo g b0 b1 b2 b3 A0 A1 c0 c1 ram io zs gs st := by
  rcases O with e | ⟨b', m, f, e, _, _, _, ⟨c, hb, _, _⟩, _⟩
  · exact (hn (by simpa using e)).elim
  · injection e with e
    injection e with e _ _
    subst e
    exact B.setFar (t := 36) (cs := c) hb (by decide) (by decide) (by decide) (by decide) (by decide) i u
theorem KeepsCh.set {w : World} {l h b : Nat} {rs : List TChannel} (O : OwnChannel w l h (some ⟨b, 0, none⟩) rs) (hn : rs ≠ []) (i : Nat) (u : Value) : KeepsCh w (w.setCell ⟨b, i, none⟩ u) := fun b2 t cs _ _ h3 X => by
  rcases O with e | ⟨b', m, f, e, _, _, _, ⟨c, hb, _, _⟩, _⟩
  · exact (hn (by simpa using e)).elim
  · injection e with e
    injection e with e _ _
    subst e
    exact X.far (p := ⟨b, i, none⟩) (X.box_ne (t' := 36) (cs' := c) hb h3) u
theorem KeepsCh.trans {a b c : World} (h : KeepsCh a b) (k : KeepsCh b c) : KeepsCh a c := fun b t cs h1 h2 h3 X => k b t cs h1 h2 h3 (h b t cs h1 h2 h3 X)
theorem KeepsCh.below {w w' : World} (k : Below w.heap.size w w') : KeepsCh w w' := fun _ _ _ _ _ _ X => X.step k
theorem arr62 (T : Array Value) (h : T.size = 62) : ∃ t0 t1 t2 t3 t4 t5 t6 t7 t8 t9 t10 t11 t12 t13 t14 t15 t16 t17 t18 t19 t20 t21 t22 t23 t24 t25 t26 t27 t28 t29 t30 t31 t32 t33 t34 t35 t36 t37 t38 t39 t40 t41 t42 t43 t44 t45 t46 t47 t48 t49 t50 t51 t52 t53 t54 t55 t56 t57 t58 t59 t60 t61 : Value, T = #[t0, t1, t2, t3, t4, t5, t6, t7, t8, t9, t10, t11, t12, t13, t14, t15, t16, t17, t18, t19, t20, t21, t22, t23, t24, t25, t26, t27, t28, t29, t30, t31, t32, t33, t34, t35, t36, t37, t38, t39, t40, t41, t42, t43, t44, t45, t46, t47, t48, t49, t50, t51, t52, t53, t54, t55, t56, t57, t58, t59, t60, t61] := by
  obtain ⟨l⟩ := T
  match l, h with
  | t0 :: t1 :: t2 :: t3 :: t4 :: t5 :: t6 :: t7 :: t8 :: t9 :: t10 :: t11 :: t12 :: t13 :: t14 :: t15 :: t16 :: t17 :: t18 :: t19 :: t20 :: t21 :: t22 :: t23 :: t24 :: t25 :: t26 :: t27 :: t28 :: t29 :: t30 :: t31 :: t32 :: t33 :: t34 :: t35 :: t36 :: t37 :: t38 :: t39 :: t40 :: t41 :: t42 :: t43 :: t44 :: t45 :: t46 :: t47 :: t48 :: t49 :: t50 :: t51 :: t52 :: t53 :: t54 :: t55 :: t56 :: t57 :: t58 :: t59 :: t60 :: t61 :: [], _ => exact ⟨t0, t1, t2, t3, t4, t5, t6, t7, t8, t9, t10, t11, t12, t13, t14, t15, t16, t17, t18, t19, t20, t21, t22, t23, t24, t25, t26, t27, t28, t29, t30, t31, t32, t33, t34, t35, t36, t37, t38, t39, t40, t41, t42, t43, t44, t45, t46, t47, t48, t49, t50, t51, t52, t53, t54, t55, t56, t57, t58, t59, t60, t61, rfl⟩
def mvA (b k : Nat) (x1 x4 y : Int) : Nat → (Nat → Value) → World → Prop
  | 0, t, _ => t 24 = .pointer (some ⟨b, k * 4, none⟩)
  | 1, t, _ => t 25 = .agg #[.int .i64 4096]
  | 2, t, _ => t 26 = .pointer (some ⟨b, k * 4, none⟩)
  | 3, t, _ => t 27 = .pointer (some ⟨b, k * 4, none⟩)
  | 4, t, _ => t 28 = .pointer (some ⟨b, k * 4, none⟩)
  | 5, t, _ => t 29 = .int .i64 x1
  | 6, t, _ => t 30 = .pointer (some ⟨b, k * 4, none⟩)
  | 7, t, _ => t 31 = .pointer (some ⟨b, k * 4, none⟩)
  | 8, t, _ => t 32 = .pointer (some ⟨b, k * 4 + 3, none⟩)
  | 9, t, _ => t 33 = .int .i64 x4
  | 10, t, _ => t 34 = .int .i64 y
  | 11, t, _ => t 35 = .pointer (some ⟨b, k * 4, none⟩)
  | 12, t, _ => t 36 = .pointer (some ⟨b, k * 4, none⟩)
  | 13, _, _ => True
  | _, _, _ => True
def mvB (b k : Nat) (x1 x4 y : Int) : Nat → (Nat → Value) → World → Prop
  | 0, t, _ => t 37 = .pointer (some ⟨b, k * 4, none⟩)
  | 1, t, _ => t 38 = .agg #[.int .i64 4096]
  | 2, t, _ => t 39 = .pointer (some ⟨b, k * 4, none⟩)
  | 3, t, _ => t 40 = .pointer (some ⟨b, k * 4, none⟩)
  | 4, t, _ => t 41 = .pointer (some ⟨b, k * 4 + 1, none⟩)
  | 5, t, _ => t 42 = .int .i64 x1
  | 6, t, _ => t 43 = .pointer (some ⟨b, k * 4, none⟩)
  | 7, t, _ => t 44 = .pointer (some ⟨b, k * 4, none⟩)
  | 8, t, _ => t 45 = .pointer (some ⟨b, k * 4 + 3, none⟩)
  | 9, t, _ => t 46 = .int .i64 x4
  | 10, t, _ => t 47 = .int .i64 y
  | 11, t, _ => t 48 = .pointer (some ⟨b, k * 4, none⟩)
  | 12, t, _ => t 49 = .pointer (some ⟨b, k * 4 + 1, none⟩)
  | 13, _, _ => True
  | _, _, _ => True
theorem mvA_any {b k : Nat} {x1 x4 y : Int} {w w' : World} : ∀ (j : Nat) (t : Nat → Value), mvA b k x1 x4 y j t w → mvA b k x1 x4 y j t w'
  | 0, _, h | 1, _, h | 2, _, h | 3, _, h | 4, _, h | 5, _, h | 6, _, h | 7, _, h | 8, _, h | 9, _, h | 10, _, h | 11, _, h | 12, _, h | 13, _, h => h
  | _ + 14, _, _ => trivial
theorem mvB_any {b k : Nat} {x1 x4 y : Int} {w w' : World} : ∀ (j : Nat) (t : Nat → Value), mvB b k x1 x4 y j t w → mvB b k x1 x4 y j t w'
  | 0, _, h | 1, _, h | 2, _, h | 3, _, h | 4, _, h | 5, _, h | 6, _, h | 7, _, h | 8, _, h | 9, _, h | 10, _, h | 11, _, h | 12, _, h | 13, _, h => h
  | _ + 14, _, _ => trivial
theorem wp_pure9 {P : Program} {o : Oper} {a : Act} {w : World} {K : Act → World → Prop} {Q : Exit → Act → World → Prop} (x : Operand) (ho : o.op = .assign x ∨ o.op = .move x) (v : Value) (hv : a.eval x = v) (h : K (a.put o.dst v) w) : Oper.wp P o a w K Q := by
  rcases ho with ho | ho
  · unfold Oper.wp execOp
    simp only [ho, hv]
    exact h
  · unfold Oper.wp execOp
    simp only [ho, hv]
    exact h
set_option maxRecDepth 100000 in
theorem busGetM (a : PA) (m : MD) (w : World) (k : Int) (h0 : 0 ≤ k) (h1 : k ≤ 4095) (hm : m.Ok) (B : BusAt w a.R a.g a.b0 a.b1 a.b2 a.b3 a.A0 a.A1 a.c0 a.c1 m.r m.i m.z m.g m.s) :
    Calls Try.prog 76 #[.agg #[.pointer (some ⟨a.b0, 0, none⟩), .pointer (some ⟨a.b1, 0, none⟩), .pointer (some ⟨a.b2, 0, none⟩), .pointer (some ⟨a.b3, 0, none⟩)], .int .i64 k] w fun e w' => e = .returned (.int .i64 (m.get k)) ∧ Below w.heap.size w w' := by
  obtain ⟨j, rfl⟩ : ∃ j : Nat, k = j := ⟨k.toNat, by omega⟩
  exact busRead a.R a.g a.b0 a.b1 a.b2 a.b3 a.A0 a.A1 a.c0 a.c1 m.r m.i m.z m.g m.s w j (by omega) hm.r hm.i hm.z hm.g hm.zb B
set_option maxRecDepth 100000 in
set_option maxHeartbeats 16000000 in
theorem chMove (a : PA) (m : MD) (lo hi b : Nat) (rs : List TChannel) (k : Nat) (w : World) (hk : k < rs.length) (hc : chB (rs.getD k zChannel) = true) (hm : m.Ok) (hlo : a.R ≤ lo) (O : OwnChannel w lo hi (some ⟨b, 0, none⟩) rs) (B : BusAt w a.R a.g a.b0 a.b1 a.b2 a.b3 a.A0 a.A1 a.c0 a.c1 m.r m.i m.z m.g m.s) :
    Calls Try.prog 45 #[.pointer (some ⟨b, k * 4, none⟩), .agg #[.pointer (some ⟨a.b0, 0, none⟩), .pointer (some ⟨a.b1, 0, none⟩), .pointer (some ⟨a.b2, 0, none⟩), .pointer (some ⟨a.b3, 0, none⟩)]] w (GMove a (moveM m (rs.getD k zChannel)) lo hi b (rs.set k (moveC (rs.getD k zChannel))) (moveL (rs.getD k zChannel)) w) := by
  obtain ⟨x1, x2, x3, x4, hx⟩ : ∃ x1 x2 x3 x4, rs.getD k zChannel = (x1, x2, x3, x4) := ⟨_, _, _, _, rfl⟩
  have HSet := Lib.hid (set_getD rs k hk)
  rw [hx] at hc HSet ⊢
  obtain ⟨hr1, hr2, hr3, hr4⟩ := chB_range hc
  simp only at hr1 hr2 hr3 hr4
  have hne : rs ≠ [] := by rintro rfl; simp at hk
  obtain ⟨W0, hW0⟩ : ∃ W0, W0 = w.alloc (.cells #[.pointer (some ⟨a.b0, 0, none⟩), .pointer (some ⟨a.b1, 0, none⟩), .pointer (some ⟨a.b2, 0, none⟩), .pointer (some ⟨a.b3, 0, none⟩)] 75) := ⟨_, rfl⟩
  have hb0 : Below w.heap.size w W0 := by rw [hW0]; exact alloc_below _ _
  have X0 : Hid (Box W0 w.heap.size 75 #[.pointer (some ⟨a.b0, 0, none⟩), .pointer (some ⟨a.b1, 0, none⟩), .pointer (some ⟨a.b2, 0, none⟩), .pointer (some ⟨a.b3, 0, none⟩)]) := Lib.hid (by rw [hW0]; exact Box.new _ _ _)
  have HR : Hid (a.R ≤ w.heap.size) := Lib.hid (Nat.le_trans B.l.1 (Nat.le_of_lt B.r.lt))
  have O0 := Lib.hid (OwnChannel.stepB O hb0)
  have B0 := Lib.hid (B.step hb0)
  obtain ⟨⟨g0, g1, g2, g3⟩, gz, q1, q2⟩ := O0.out.open4 k hk hx
  have gz2 := gz (k * 4 + 2)
  have HW0 := Lib.hid hW0
  clear hW0
  have hq1 : a.R ≤ b := Nat.le_trans hlo q1
  by_cases hz : x3 = 0
  · subst hz
    have E1 : moveM m (x1, x2, 0, x4) = m := rfl
    have E2 : moveC (x1, x2, 0, x4) = (x1, x2, 0, x4) := rfl
    have E3 : moveL (x1, x2, 0, x4) = false := rfl
    rw [E1, E2, E3, HSet.out]
    clear E1 E2 E3 HSet hx hc hr1 hr2 hr3 hr4 hne hk hm hlo O B
    rw [HW0.out] at g2
    go_enter Try.func45, Try.ntmps45
    go_wp2
    rw [← HW0.out]
    go_ret
    exact ⟨rfl, B0, O0, Lib.hid (KeepsCh.below hb0), hb0.mono HR.out⟩
  · have hq : (x3 == 0) = false := by simpa using hz
    have E1 : moveM m (x1, x2, x3, x4) = m.put x2 (m.get x1) := by unfold moveM; rw [if_neg hz]
    have E2 : moveC (x1, x2, x3, x4) = ((x1 + x4) % 4096, (x2 + x4) % 4096, x3 - 1, x4) := by unfold moveC; rw [if_neg hz]; rfl
    have E3 : moveL (x1, x2, x3, x4) = (x3 - 1 == 0) := by unfold moveL; rw [Bool.eq_iff_iff]; simp; omega
    have HE := Lib.hid (And.intro E1 (And.intro E2 E3))
    have hgv := hm.get x1 hr1.1 hr1.2
    obtain ⟨v, hv⟩ : ∃ v, m.get x1 = v := ⟨_, rfl⟩
    have HG := Lib.hid (fun W (q : BusAt W a.R a.g a.b0 a.b1 a.b2 a.b3 a.A0 a.A1 a.c0 a.c1 m.r m.i m.z m.g m.s) => busGetM a m W x1 hr1.1 hr1.2 hm q)
    rw [hv] at HG hgv HE
    have HP := Lib.hid (fun W (q : BusAt W a.R a.g a.b0 a.b1 a.b2 a.b3 a.A0 a.A1 a.c0 a.c1 m.r m.i m.z m.g m.s) => busWriteM a m W x2 v hr2.1 hr2.2 hgv.1 hgv.2 hm q)
    unfold WritesM at HP
    generalize m.put x2 v = m2 at HP HE
    have HAf0 := Lib.hid (fun W => ringAfter x1 x4 W hr1.1 hr1.2 hr4.1 hr4.2)
    have HAf1 := Lib.hid (fun W => ringAfter x2 x4 W hr2.1 hr2.2 hr4.1 hr4.2)
    have m7 : IntKind.i64.wrap (x3 - 1) = x3 - 1 := IntWalk.i64_in _ (by omega)
    generalize (x1 + x4) % 4096 = y1 at HE HAf0
    generalize (x2 + x4) % 4096 = y2 at HE HAf1
    have Od := Lib.hid (OwnChannel.stepB O0.out (Below.refl _ _).drew)
    have Bd := Lib.hid (B0.out.step (Below.refl _ _).drew)
    have Xd := Lib.hid (X0.out.drew)
    have hxh := Lib.hid hx
    have hkh := Lib.hid hk
    have HK : Hid (∀ W, Box W w.heap.size 75 #[.pointer (some ⟨a.b0, 0, none⟩), .pointer (some ⟨a.b1, 0, none⟩), .pointer (some ⟨a.b2, 0, none⟩), .pointer (some ⟨a.b3, 0, none⟩)] ∧ OwnChannel W lo hi (some ⟨b, 0, none⟩) rs → W.cell? ⟨w.heap.size, 0, none⟩ = some (.pointer (some ⟨a.b0, 0, none⟩)) ∧ W.cell? ⟨w.heap.size, 1, none⟩ = some (.pointer (some ⟨a.b1, 0, none⟩)) ∧ W.cell? ⟨w.heap.size, 2, none⟩ = some (.pointer (some ⟨a.b2, 0, none⟩)) ∧ W.cell? ⟨w.heap.size, 3, none⟩ = some (.pointer (some ⟨a.b3, 0, none⟩)) ∧ W.cell? ⟨b, k * 4, none⟩ = some (.int .i64 x1) ∧ W.cell? ⟨b, k * 4 + 1, none⟩ = some (.int .i64 x2)) := Lib.hid (fun W X => by
      have c := (X.2.open4 k hk hx).1
      exact ⟨X.1.cell 0 rfl, X.1.cell 1 rfl, X.1.cell 2 rfl, X.1.cell 3 rfl, c.1, c.2.1⟩)
    clear E1 E2 E3 HSet hx hc hr1 hr2 hr3 hr4 hm hlo O B hz hv hgv hk
    rw [HW0.out] at g2
    go_enter Try.func45, Try.ntmps45
    go_wp2
    rw [← HW0.out]
    clear g0 g1 g2 g3 gz gz2
    go_region_held3 (fun W => W.cell? ⟨w.heap.size, 0, none⟩ = some (.pointer (some ⟨a.b0, 0, none⟩)) ∧ W.cell? ⟨w.heap.size, 1, none⟩ = some (.pointer (some ⟨a.b1, 0, none⟩)) ∧ W.cell? ⟨w.heap.size, 2, none⟩ = some (.pointer (some ⟨a.b2, 0, none⟩)) ∧ W.cell? ⟨w.heap.size, 3, none⟩ = some (.pointer (some ⟨a.b3, 0, none⟩)) ∧ W.cell? ⟨b, k * 4, none⟩ = some (.int .i64 x1) ∧ W.cell? ⟨b, k * 4 + 1, none⟩ = some (.int .i64 x2))
      (first | exact HK.out _ ⟨Xd.out, Od.out⟩ | exact HK.out _ HX1.out | exact HK.out _ HX2.out)
      (first | (go_at_call 75; refine (HP.out _ (Bd.out.step hb1)).mono ?_; rintro e w2 ⟨rfl, N1, N2, N3⟩; have HX2 := Lib.hid (And.intro (N2.out _ _ _ (by decide) (by decide) HX1.out.1) (HX1.out.2.kept N2.out))) | (go_at_call 76; refine (HG.out _ Bd.out).mono ?_; rintro e w1 ⟨rfl, hb1⟩; have HX1 := Lib.hid (And.intro (Xd.out.step hb1) (OwnChannel.stepB Od.out hb1))))
    obtain ⟨V, hV⟩ : ∃ V, V = w2.alloc (.cells #[.int .i64 4096] 117) := ⟨_, rfl⟩
    have hqV : Below w2.heap.size w2 V := by rw [hV]; exact alloc_below _ _
    have XV : Hid (Box V w2.heap.size 117 #[.int .i64 4096]) := Lib.hid (by rw [hV]; exact Box.new _ _ _)
    have OV := Lib.hid (OwnChannel.stepB HX2.out.2 hqV)
    have BV := Lib.hid (N1.out.step hqV)
    have hbR := (((hb0.mono HR.out).trans ((Below.refl W0.heap.size W0).drew.mono (Nat.le_trans HR.out hb0.size))).trans (hb1.mono (Nat.le_trans HR.out hb0.size))).trans (N3.trans (hqV.mono (Nat.le_trans HR.out (Nat.le_trans hb0.size (Nat.le_trans hb1.size N3.size)))))
    have KV : Hid (KeepsCh w V) := Lib.hid (((KeepsCh.below hb0).trans (KeepsCh.below (Below.refl _ _).drew)).trans (((KeepsCh.below hb1).trans (fun b t cs h1 h2 _ X => N2.out b t cs h1 h2 X)).trans (KeepsCh.below hqV)))
    have HLo := Lib.hid (And.intro hq1 (And.intro hne q1))
    clear X0 O0 B0 Xd Od Bd HK HG HP HX1 HX2 N1 N2 N3 hb0 hb1 hqV hne q1 q2 hq1 HW0
    go_wp2
    rw [← hV]
    clear hV

    obtain ⟨r5, hr5⟩ : ∃ r5, r5 = w2.heap.size := ⟨_, rfl⟩
    rw [← hr5]
    rw [← hr5] at XV
    clear hr5
    have HK0 : Hid (∀ W, Below V.heap.size V W → W.cell? ⟨r5, 0, none⟩ = some (.int .i64 4096) ∧ W.cell? ⟨b, k * 4, none⟩ = some (.int .i64 x1) ∧ W.cell? ⟨b, k * 4 + 1, none⟩ = some (.int .i64 x2) ∧ W.cell? ⟨b, k * 4 + 3, none⟩ = some (.int .i64 x4)) := Lib.hid (fun W q => by
      have c := ((OwnChannel.stepB OV.out q).open4 k hkh.out hxh.out).1
      exact ⟨(XV.out.step q).cell 0 rfl, c.1, c.2.1, c.2.2.2⟩)
    have HZ0 : Hid (∀ W, Below V.heap.size V W → W.frozen? ⟨b, k * 4, none⟩ = false) := Lib.hid (fun W q => ((OwnChannel.stepB OV.out q).open4 k hkh.out hxh.out).2.1 _)
    refine wp_region_last (by kernel_rfl) [[24], [25], [26], [27], [28], [29], [30], [31], [32], [33], [34], [35], [36], []] [[], [], [], [2], [2, 3], [2, 3, 4], [], [6], [6, 7], [6, 7, 8], [1, 2, 3, 4, 5, 6, 7, 8, 9], [0, 1, 2, 3, 4, 5, 6, 7, 8, 9, 10], [0, 1, 2, 3, 4, 5, 6, 7, 8, 9, 10, 11], [0, 1, 2, 3, 4, 5, 6, 7, 8, 9, 10, 11, 12]] [0, 3, 5] (by kernel_rfl) 13 (by kernel_rfl) (fun W => Below V.heap.size V W) (fun W' => ∃ W, Below V.heap.size V W ∧ W' = W.setCell ⟨b, k * 4, none⟩ (.int .i64 y1)) (mvA b k x1 x4 y1) (Below.refl _ _).drew ?_ ?_
    · refine ⟨?_, ?_, ?_, ?_, ?_, ?_, ?_, ?_, ?_, ?_, ?_, ?_, ?_, ?_, trivial⟩
      · intro T W hT hs hC hF K hK
        exact wp_pure9 (.tmp 0) (.inr rfl) (.pointer (some ⟨b, k * 4, none⟩)) (hs 0 (by decide)) (hK.out _ W (ifn (by decide) hC) (fun _ _ _ h => h) (mask_put _ 24 (by decide) _ _ _ (by rw [hT]; show 24 < 62; decide)))
      · intro T W hT hs hC hF K hK
        obtain ⟨t0, t1, t2, t3, t4, t5, t6, t7, t8, t9, t10, t11, t12, t13, t14, t15, t16, t17, t18, t19, t20, t21, t22, t23, t24, t25, t26, t27, t28, t29, t30, t31, t32, t33, t34, t35, t36, t37, t38, t39, t40, t41, t42, t43, t44, t45, t46, t47, t48, t49, t50, t51, t52, t53, t54, t55, t56, t57, t58, t59, t60, t61, rfl⟩ := arr62 T hT
        obtain rfl : t0 = .pointer (some ⟨b, k * 4, none⟩) := hs 0 (by decide)
        obtain rfl : t5 = .pointer (some ⟨r5, 0, none⟩) := hs 5 (by decide)
        clear hF hs hT
        have hcs := HK0.out W hC
        obtain ⟨y0, y1, y2, y3⟩ := hcs
        go_simp
        exact hK.out _ W (ifn (by decide) hC) (fun _ _ _ h => h) rfl
      · intro T W hT hs hC hF K hK
        exact wp_pure9 (.tmp 0) (.inr rfl) (.pointer (some ⟨b, k * 4, none⟩)) (hs 0 (by decide)) (hK.out _ W (ifn (by decide) hC) (fun _ _ _ h => h) (mask_put _ 26 (by decide) _ _ _ (by rw [hT]; show 26 < 62; decide)))
      · intro T W hT hs hC hF K hK
        obtain ⟨t0, t1, t2, t3, t4, t5, t6, t7, t8, t9, t10, t11, t12, t13, t14, t15, t16, t17, t18, t19, t20, t21, t22, t23, t24, t25, t26, t27, t28, t29, t30, t31, t32, t33, t34, t35, t36, t37, t38, t39, t40, t41, t42, t43, t44, t45, t46, t47, t48, t49, t50, t51, t52, t53, t54, t55, t56, t57, t58, t59, t60, t61, rfl⟩ := arr62 T hT
        obtain rfl : t0 = .pointer (some ⟨b, k * 4, none⟩) := hs 0 (by decide)
        obtain rfl : t5 = .pointer (some ⟨r5, 0, none⟩) := hs 5 (by decide)
        obtain rfl : t26 = .pointer (some ⟨b, k * 4, none⟩) := hF 2 (by decide)
        clear hF hs hT
        go_simp
        exact hK.out _ W (ifn (by decide) hC) (fun _ _ _ h => h) rfl
      · intro T W hT hs hC hF K hK
        obtain ⟨t0, t1, t2, t3, t4, t5, t6, t7, t8, t9, t10, t11, t12, t13, t14, t15, t16, t17, t18, t19, t20, t21, t22, t23, t24, t25, t26, t27, t28, t29, t30, t31, t32, t33, t34, t35, t36, t37, t38, t39, t40, t41, t42, t43, t44, t45, t46, t47, t48, t49, t50, t51, t52, t53, t54, t55, t56, t57, t58, t59, t60, t61, rfl⟩ := arr62 T hT
        obtain rfl : t0 = .pointer (some ⟨b, k * 4, none⟩) := hs 0 (by decide)
        obtain rfl : t5 = .pointer (some ⟨r5, 0, none⟩) := hs 5 (by decide)
        obtain rfl : t27 = .pointer (some ⟨b, k * 4, none⟩) := hF 3 (by decide)
        clear hF hs hT
        go_simp
        exact hK.out _ W (ifn (by decide) hC) (fun _ _ _ h => h) rfl
      · intro T W hT hs hC hF K hK
        obtain ⟨t0, t1, t2, t3, t4, t5, t6, t7, t8, t9, t10, t11, t12, t13, t14, t15, t16, t17, t18, t19, t20, t21, t22, t23, t24, t25, t26, t27, t28, t29, t30, t31, t32, t33, t34, t35, t36, t37, t38, t39, t40, t41, t42, t43, t44, t45, t46, t47, t48, t49, t50, t51, t52, t53, t54, t55, t56, t57, t58, t59, t60, t61, rfl⟩ := arr62 T hT
        obtain rfl : t0 = .pointer (some ⟨b, k * 4, none⟩) := hs 0 (by decide)
        obtain rfl : t5 = .pointer (some ⟨r5, 0, none⟩) := hs 5 (by decide)
        obtain rfl : t28 = .pointer (some ⟨b, k * 4, none⟩) := hF 4 (by decide)
        clear hF hs hT
        have hcs := HK0.out W hC
        obtain ⟨y0, y1, y2, y3⟩ := hcs
        go_simp
        exact hK.out _ W (ifn (by decide) hC) (fun _ _ _ h => h) rfl
      · intro T W hT hs hC hF K hK
        exact wp_pure9 (.tmp 0) (.inr rfl) (.pointer (some ⟨b, k * 4, none⟩)) (hs 0 (by decide)) (hK.out _ W (ifn (by decide) hC) (fun _ _ _ h => h) (mask_put _ 30 (by decide) _ _ _ (by rw [hT]; show 30 < 62; decide)))
      · intro T W hT hs hC hF K hK
        obtain ⟨t0, t1, t2, t3, t4, t5, t6, t7, t8, t9, t10, t11, t12, t13, t14, t15, t16, t17, t18, t19, t20, t21, t22, t23, t24, t25, t26, t27, t28, t29, t30, t31, t32, t33, t34, t35, t36, t37, t38, t39, t40, t41, t42, t43, t44, t45, t46, t47, t48, t49, t50, t51, t52, t53, t54, t55, t56, t57, t58, t59, t60, t61, rfl⟩ := arr62 T hT
        obtain rfl : t0 = .pointer (some ⟨b, k * 4, none⟩) := hs 0 (by decide)
        obtain rfl : t5 = .pointer (some ⟨r5, 0, none⟩) := hs 5 (by decide)
        obtain rfl : t30 = .pointer (some ⟨b, k * 4, none⟩) := hF 6 (by decide)
        clear hF hs hT
        go_simp
        exact hK.out _ W (ifn (by decide) hC) (fun _ _ _ h => h) rfl
      · intro T W hT hs hC hF K hK
        obtain ⟨t0, t1, t2, t3, t4, t5, t6, t7, t8, t9, t10, t11, t12, t13, t14, t15, t16, t17, t18, t19, t20, t21, t22, t23, t24, t25, t26, t27, t28, t29, t30, t31, t32, t33, t34, t35, t36, t37, t38, t39, t40, t41, t42, t43, t44, t45, t46, t47, t48, t49, t50, t51, t52, t53, t54, t55, t56, t57, t58, t59, t60, t61, rfl⟩ := arr62 T hT
        obtain rfl : t0 = .pointer (some ⟨b, k * 4, none⟩) := hs 0 (by decide)
        obtain rfl : t5 = .pointer (some ⟨r5, 0, none⟩) := hs 5 (by decide)
        obtain rfl : t31 = .pointer (some ⟨b, k * 4, none⟩) := hF 7 (by decide)
        clear hF hs hT
        go_simp
        exact hK.out _ W (ifn (by decide) hC) (fun _ _ _ h => h) rfl
      · intro T W hT hs hC hF K hK
        obtain ⟨t0, t1, t2, t3, t4, t5, t6, t7, t8, t9, t10, t11, t12, t13, t14, t15, t16, t17, t18, t19, t20, t21, t22, t23, t24, t25, t26, t27, t28, t29, t30, t31, t32, t33, t34, t35, t36, t37, t38, t39, t40, t41, t42, t43, t44, t45, t46, t47, t48, t49, t50, t51, t52, t53, t54, t55, t56, t57, t58, t59, t60, t61, rfl⟩ := arr62 T hT
        obtain rfl : t0 = .pointer (some ⟨b, k * 4, none⟩) := hs 0 (by decide)
        obtain rfl : t5 = .pointer (some ⟨r5, 0, none⟩) := hs 5 (by decide)
        obtain rfl : t32 = .pointer (some ⟨b, k * 4 + 3, none⟩) := hF 8 (by decide)
        clear hF hs hT
        have hcs := HK0.out W hC
        obtain ⟨y0, y1, y2, y3⟩ := hcs
        go_simp
        exact hK.out _ W (ifn (by decide) hC) (fun _ _ _ h => h) rfl
      · intro T W hT hs hC hF K hK
        obtain ⟨t0, t1, t2, t3, t4, t5, t6, t7, t8, t9, t10, t11, t12, t13, t14, t15, t16, t17, t18, t19, t20, t21, t22, t23, t24, t25, t26, t27, t28, t29, t30, t31, t32, t33, t34, t35, t36, t37, t38, t39, t40, t41, t42, t43, t44, t45, t46, t47, t48, t49, t50, t51, t52, t53, t54, t55, t56, t57, t58, t59, t60, t61, rfl⟩ := arr62 T hT
        obtain rfl : t0 = .pointer (some ⟨b, k * 4, none⟩) := hs 0 (by decide)
        obtain rfl : t5 = .pointer (some ⟨r5, 0, none⟩) := hs 5 (by decide)
        obtain rfl : t25 = .agg #[.int .i64 4096] := hF 1 (by decide)
        obtain rfl : t29 = .int .i64 x1 := hF 5 (by decide)
        obtain rfl : t33 = .int .i64 x4 := hF 9 (by decide)
        clear hF hs hT
        have HG := Lib.hid (HAf0.out W)
        go_simp
        refine HG.out.mono ?_
        rintro e w1 ⟨rfl, hc⟩
        exact hK.out _ w1 (ifn (by decide) (hC.trans (hc.mono hC.size))) (fun j t _ h => mvA_any j t h) rfl
      · intro T W hT hs hC hF K hK
        obtain ⟨t0, t1, t2, t3, t4, t5, t6, t7, t8, t9, t10, t11, t12, t13, t14, t15, t16, t17, t18, t19, t20, t21, t22, t23, t24, t25, t26, t27, t28, t29, t30, t31, t32, t33, t34, t35, t36, t37, t38, t39, t40, t41, t42, t43, t44, t45, t46, t47, t48, t49, t50, t51, t52, t53, t54, t55, t56, t57, t58, t59, t60, t61, rfl⟩ := arr62 T hT
        obtain rfl : t0 = .pointer (some ⟨b, k * 4, none⟩) := hs 0 (by decide)
        obtain rfl : t5 = .pointer (some ⟨r5, 0, none⟩) := hs 5 (by decide)
        obtain rfl : t24 = .pointer (some ⟨b, k * 4, none⟩) := hF 0 (by decide)
        clear hF hs hT
        go_simp
        exact hK.out _ W (ifn (by decide) hC) (fun _ _ _ h => h) rfl
      · intro T W hT hs hC hF K hK
        obtain ⟨t0, t1, t2, t3, t4, t5, t6, t7, t8, t9, t10, t11, t12, t13, t14, t15, t16, t17, t18, t19, t20, t21, t22, t23, t24, t25, t26, t27, t28, t29, t30, t31, t32, t33, t34, t35, t36, t37, t38, t39, t40, t41, t42, t43, t44, t45, t46, t47, t48, t49, t50, t51, t52, t53, t54, t55, t56, t57, t58, t59, t60, t61, rfl⟩ := arr62 T hT
        obtain rfl : t0 = .pointer (some ⟨b, k * 4, none⟩) := hs 0 (by decide)
        obtain rfl : t5 = .pointer (some ⟨r5, 0, none⟩) := hs 5 (by decide)
        obtain rfl : t35 = .pointer (some ⟨b, k * 4, none⟩) := hF 11 (by decide)
        clear hF hs hT
        go_simp
        exact hK.out _ W (ifn (by decide) hC) (fun _ _ _ h => h) rfl
      · intro T W hT hs hC hF K hK
        obtain ⟨t0, t1, t2, t3, t4, t5, t6, t7, t8, t9, t10, t11, t12, t13, t14, t15, t16, t17, t18, t19, t20, t21, t22, t23, t24, t25, t26, t27, t28, t29, t30, t31, t32, t33, t34, t35, t36, t37, t38, t39, t40, t41, t42, t43, t44, t45, t46, t47, t48, t49, t50, t51, t52, t53, t54, t55, t56, t57, t58, t59, t60, t61, rfl⟩ := arr62 T hT
        obtain rfl : t0 = .pointer (some ⟨b, k * 4, none⟩) := hs 0 (by decide)
        obtain rfl : t5 = .pointer (some ⟨r5, 0, none⟩) := hs 5 (by decide)
        obtain rfl : t36 = .pointer (some ⟨b, k * 4, none⟩) := hF 12 (by decide)
        obtain rfl : t34 = .int .i64 y1 := hF 10 (by decide)
        clear hF hs hT
        have hcs := HK0.out W hC
        obtain ⟨y0, y1, y2, y3⟩ := hcs
        have yz := HZ0.out W hC
        go_simp
        exact hK.out undef _ (ifp ⟨W, hC, rfl⟩) (fun j t _ h => mvA_any j t h) trivial
    · intro T W hT hs hC hF
      obtain ⟨t0, t1, t2, t3, t4, t5, t6, t7, t8, t9, t10, t11, t12, t13, t14, t15, t16, t17, t18, t19, t20, t21, t22, t23, t24, t25, t26, t27, t28, t29, t30, t31, t32, t33, t34, t35, t36, t37, t38, t39, t40, t41, t42, t43, t44, t45, t46, t47, t48, t49, t50, t51, t52, t53, t54, t55, t56, t57, t58, t59, t60, t61, rfl⟩ := arr62 T hT
      obtain rfl : t0 = .pointer (some ⟨b, k * 4, none⟩) := hs 0 (by decide)
      obtain rfl : t5 = .pointer (some ⟨r5, 0, none⟩) := hs 5 (by decide)
      obtain rfl : t3 = .pointer (some ⟨w.heap.size, 0, none⟩) := hs 3 (by decide)
      obtain ⟨Wa, hCa, rfl⟩ := hC
      have Oa := OwnChannel.stepB OV.out hCa
      have Ba := BV.out.step hCa
      have hne := HLo.out.2.1
      obtain ⟨U, hU⟩ : ∃ U, U = Wa.setCell ⟨b, k * 4, none⟩ (.int .i64 y1) := ⟨_, rfl⟩
      have OU : Hid (OwnChannel U lo hi (some ⟨b, 0, none⟩) (rs.set k (y1, x2, x3, x4))) := Lib.hid (by rw [hU]; exact Oa.set1 k hkh.out hxh.out 0 (by decide) (.int .i64 y1) (y1, x2, x3, x4) rfl)
      have BU : Hid (BusAt U a.R a.g a.b0 a.b1 a.b2 a.b3 a.A0 a.A1 a.c0 a.c1 m2.r m2.i m2.z m2.g m2.s) := Lib.hid (by rw [hU]; exact Ba.setCh Oa hne _ _)
      have XU : Hid (Box U r5 117 #[.int .i64 4096]) := Lib.hid (by rw [hU]; exact KeepsCh.set Oa hne _ _ r5 _ _ (by decide) (by decide) (by decide) (XV.out.step hCa))
      have KU : Hid (KeepsCh w U) := Lib.hid (by rw [hU]; exact (KV.out.trans (KeepsCh.below hCa)).trans (KeepsCh.set Oa hne _ _))
      have hbU : Below a.R w U := by rw [hU]; exact (hbR.trans (hCa.mono (by have := HR.out; have := hbR.size; omega))).setCell (p := ⟨b, k * 4, none⟩) HLo.out.1 _
      have hkU := Lib.hid (show k < (rs.set k (y1, x2, x3, x4)).length by rw [List.length_set]; exact hkh.out)
      have hxU := Lib.hid (set_set_getD rs k (y1, x2, x3, x4) hkh.out)
      have hneU : rs.set k (y1, x2, x3, x4) ≠ [] := by intro e; have := hkU.out; rw [e] at this; simp at this
      have HneU := Lib.hid hneU
      rw [← hU]
      clear hU hF hs hT Oa Ba hne hCa OV BV XV KV hbR HAf0 HK0 HZ0 hneU
      go_wp2
      have HK1 : Hid (∀ W, Below U.heap.size U W → W.cell? ⟨r5, 0, none⟩ = some (.int .i64 4096) ∧ W.cell? ⟨b, k * 4, none⟩ = some (.int .i64 y1) ∧ W.cell? ⟨b, k * 4 + 1, none⟩ = some (.int .i64 x2) ∧ W.cell? ⟨b, k * 4 + 3, none⟩ = some (.int .i64 x4)) := Lib.hid (fun W q => by
        have c := ((OwnChannel.stepB OU.out q).open4 k hkU.out hxU.out).1
        exact ⟨(XU.out.step q).cell 0 rfl, c.1, c.2.1, c.2.2.2⟩)
      have HZ1 : Hid (∀ W, Below U.heap.size U W → W.frozen? ⟨b, k * 4 + 1, none⟩ = false) := Lib.hid (fun W q => ((OwnChannel.stepB OU.out q).open4 k hkU.out hxU.out).2.1 _)
      refine wp_region_last (by kernel_rfl) [[37], [38], [39], [40], [41], [42], [43], [44], [45], [46], [47], [48], [49], []] [[], [], [], [2], [2, 3], [2, 3, 4], [], [6], [6, 7], [6, 7, 8], [1, 2, 3, 4, 5, 6, 7, 8, 9], [0, 1, 2, 3, 4, 5, 6, 7, 8, 9, 10], [0, 1, 2, 3, 4, 5, 6, 7, 8, 9, 10, 11], [0, 1, 2, 3, 4, 5, 6, 7, 8, 9, 10, 11, 12]] [0, 3, 5] (by kernel_rfl) 13 (by kernel_rfl) (fun W => Below U.heap.size U W) (fun W' => ∃ W, Below U.heap.size U W ∧ W' = W.setCell ⟨b, k * 4 + 1, none⟩ (.int .i64 y2)) (mvB b k x2 x4 y2) (Below.refl _ _).drew ?_ ?_
      · refine ⟨?_, ?_, ?_, ?_, ?_, ?_, ?_, ?_, ?_, ?_, ?_, ?_, ?_, ?_, trivial⟩
        · intro T W hT hs hC hF K hK
          exact wp_pure9 (.tmp 0) (.inr rfl) (.pointer (some ⟨b, k * 4, none⟩)) (hs 0 (by decide)) (hK.out _ W (ifn (by decide) hC) (fun _ _ _ h => h) (mask_put _ 37 (by decide) _ _ _ (by rw [hT]; show 37 < 62; decide)))
        · intro T W hT hs hC hF K hK
          obtain ⟨t0, t1, t2, t3, t4, t5, t6, t7, t8, t9, t10, t11, t12, t13, t14, t15, t16, t17, t18, t19, t20, t21, t22, t23, t24, t25, t26, t27, t28, t29, t30, t31, t32, t33, t34, t35, t36, t37, t38, t39, t40, t41, t42, t43, t44, t45, t46, t47, t48, t49, t50, t51, t52, t53, t54, t55, t56, t57, t58, t59, t60, t61, rfl⟩ := arr62 T hT
          obtain rfl : t0 = .pointer (some ⟨b, k * 4, none⟩) := hs 0 (by decide)
          obtain rfl : t5 = .pointer (some ⟨r5, 0, none⟩) := hs 5 (by decide)
          clear hF hs hT
          have hcs := HK1.out W hC
          obtain ⟨y0, y1, y2, y3⟩ := hcs
          go_simp
          exact hK.out _ W (ifn (by decide) hC) (fun _ _ _ h => h) rfl
        · intro T W hT hs hC hF K hK
          exact wp_pure9 (.tmp 0) (.inr rfl) (.pointer (some ⟨b, k * 4, none⟩)) (hs 0 (by decide)) (hK.out _ W (ifn (by decide) hC) (fun _ _ _ h => h) (mask_put _ 39 (by decide) _ _ _ (by rw [hT]; show 39 < 62; decide)))
        · intro T W hT hs hC hF K hK
          obtain ⟨t0, t1, t2, t3, t4, t5, t6, t7, t8, t9, t10, t11, t12, t13, t14, t15, t16, t17, t18, t19, t20, t21, t22, t23, t24, t25, t26, t27, t28, t29, t30, t31, t32, t33, t34, t35, t36, t37, t38, t39, t40, t41, t42, t43, t44, t45, t46, t47, t48, t49, t50, t51, t52, t53, t54, t55, t56, t57, t58, t59, t60, t61, rfl⟩ := arr62 T hT
          obtain rfl : t0 = .pointer (some ⟨b, k * 4, none⟩) := hs 0 (by decide)
          obtain rfl : t5 = .pointer (some ⟨r5, 0, none⟩) := hs 5 (by decide)
          obtain rfl : t39 = .pointer (some ⟨b, k * 4, none⟩) := hF 2 (by decide)
          clear hF hs hT
          go_simp
          exact hK.out _ W (ifn (by decide) hC) (fun _ _ _ h => h) rfl
        · intro T W hT hs hC hF K hK
          obtain ⟨t0, t1, t2, t3, t4, t5, t6, t7, t8, t9, t10, t11, t12, t13, t14, t15, t16, t17, t18, t19, t20, t21, t22, t23, t24, t25, t26, t27, t28, t29, t30, t31, t32, t33, t34, t35, t36, t37, t38, t39, t40, t41, t42, t43, t44, t45, t46, t47, t48, t49, t50, t51, t52, t53, t54, t55, t56, t57, t58, t59, t60, t61, rfl⟩ := arr62 T hT
          obtain rfl : t0 = .pointer (some ⟨b, k * 4, none⟩) := hs 0 (by decide)
          obtain rfl : t5 = .pointer (some ⟨r5, 0, none⟩) := hs 5 (by decide)
          obtain rfl : t40 = .pointer (some ⟨b, k * 4, none⟩) := hF 3 (by decide)
          clear hF hs hT
          go_simp
          exact hK.out _ W (ifn (by decide) hC) (fun _ _ _ h => h) rfl
        · intro T W hT hs hC hF K hK
          obtain ⟨t0, t1, t2, t3, t4, t5, t6, t7, t8, t9, t10, t11, t12, t13, t14, t15, t16, t17, t18, t19, t20, t21, t22, t23, t24, t25, t26, t27, t28, t29, t30, t31, t32, t33, t34, t35, t36, t37, t38, t39, t40, t41, t42, t43, t44, t45, t46, t47, t48, t49, t50, t51, t52, t53, t54, t55, t56, t57, t58, t59, t60, t61, rfl⟩ := arr62 T hT
          obtain rfl : t0 = .pointer (some ⟨b, k * 4, none⟩) := hs 0 (by decide)
          obtain rfl : t5 = .pointer (some ⟨r5, 0, none⟩) := hs 5 (by decide)
          obtain rfl : t41 = .pointer (some ⟨b, k * 4 + 1, none⟩) := hF 4 (by decide)
          clear hF hs hT
          have hcs := HK1.out W hC
          obtain ⟨y0, y1, y2, y3⟩ := hcs
          go_simp
          exact hK.out _ W (ifn (by decide) hC) (fun _ _ _ h => h) rfl
        · intro T W hT hs hC hF K hK
          exact wp_pure9 (.tmp 0) (.inr rfl) (.pointer (some ⟨b, k * 4, none⟩)) (hs 0 (by decide)) (hK.out _ W (ifn (by decide) hC) (fun _ _ _ h => h) (mask_put _ 43 (by decide) _ _ _ (by rw [hT]; show 43 < 62; decide)))
        · intro T W hT hs hC hF K hK
          obtain ⟨t0, t1, t2, t3, t4, t5, t6, t7, t8, t9, t10, t11, t12, t13, t14, t15, t16, t17, t18, t19, t20, t21, t22, t23, t24, t25, t26, t27, t28, t29, t30, t31, t32, t33, t34, t35, t36, t37, t38, t39, t40, t41, t42, t43, t44, t45, t46, t47, t48, t49, t50, t51, t52, t53, t54, t55, t56, t57, t58, t59, t60, t61, rfl⟩ := arr62 T hT
          obtain rfl : t0 = .pointer (some ⟨b, k * 4, none⟩) := hs 0 (by decide)
          obtain rfl : t5 = .pointer (some ⟨r5, 0, none⟩) := hs 5 (by decide)
          obtain rfl : t43 = .pointer (some ⟨b, k * 4, none⟩) := hF 6 (by decide)
          clear hF hs hT
          go_simp
          exact hK.out _ W (ifn (by decide) hC) (fun _ _ _ h => h) rfl
        · intro T W hT hs hC hF K hK
          obtain ⟨t0, t1, t2, t3, t4, t5, t6, t7, t8, t9, t10, t11, t12, t13, t14, t15, t16, t17, t18, t19, t20, t21, t22, t23, t24, t25, t26, t27, t28, t29, t30, t31, t32, t33, t34, t35, t36, t37, t38, t39, t40, t41, t42, t43, t44, t45, t46, t47, t48, t49, t50, t51, t52, t53, t54, t55, t56, t57, t58, t59, t60, t61, rfl⟩ := arr62 T hT
          obtain rfl : t0 = .pointer (some ⟨b, k * 4, none⟩) := hs 0 (by decide)
          obtain rfl : t5 = .pointer (some ⟨r5, 0, none⟩) := hs 5 (by decide)
          obtain rfl : t44 = .pointer (some ⟨b, k * 4, none⟩) := hF 7 (by decide)
          clear hF hs hT
          go_simp
          exact hK.out _ W (ifn (by decide) hC) (fun _ _ _ h => h) rfl
        · intro T W hT hs hC hF K hK
          obtain ⟨t0, t1, t2, t3, t4, t5, t6, t7, t8, t9, t10, t11, t12, t13, t14, t15, t16, t17, t18, t19, t20, t21, t22, t23, t24, t25, t26, t27, t28, t29, t30, t31, t32, t33, t34, t35, t36, t37, t38, t39, t40, t41, t42, t43, t44, t45, t46, t47, t48, t49, t50, t51, t52, t53, t54, t55, t56, t57, t58, t59, t60, t61, rfl⟩ := arr62 T hT
          obtain rfl : t0 = .pointer (some ⟨b, k * 4, none⟩) := hs 0 (by decide)
          obtain rfl : t5 = .pointer (some ⟨r5, 0, none⟩) := hs 5 (by decide)
          obtain rfl : t45 = .pointer (some ⟨b, k * 4 + 3, none⟩) := hF 8 (by decide)
          clear hF hs hT
          have hcs := HK1.out W hC
          obtain ⟨y0, y1, y2, y3⟩ := hcs
          go_simp
          exact hK.out _ W (ifn (by decide) hC) (fun _ _ _ h => h) rfl
        · intro T W hT hs hC hF K hK
          obtain ⟨t0, t1, t2, t3, t4, t5, t6, t7, t8, t9, t10, t11, t12, t13, t14, t15, t16, t17, t18, t19, t20, t21, t22, t23, t24, t25, t26, t27, t28, t29, t30, t31, t32, t33, t34, t35, t36, t37, t38, t39, t40, t41, t42, t43, t44, t45, t46, t47, t48, t49, t50, t51, t52, t53, t54, t55, t56, t57, t58, t59, t60, t61, rfl⟩ := arr62 T hT
          obtain rfl : t0 = .pointer (some ⟨b, k * 4, none⟩) := hs 0 (by decide)
          obtain rfl : t5 = .pointer (some ⟨r5, 0, none⟩) := hs 5 (by decide)
          obtain rfl : t38 = .agg #[.int .i64 4096] := hF 1 (by decide)
          obtain rfl : t42 = .int .i64 x2 := hF 5 (by decide)
          obtain rfl : t46 = .int .i64 x4 := hF 9 (by decide)
          clear hF hs hT
          have HG := Lib.hid (HAf1.out W)
          go_simp
          refine HG.out.mono ?_
          rintro e w1 ⟨rfl, hc⟩
          exact hK.out _ w1 (ifn (by decide) (hC.trans (hc.mono hC.size))) (fun j t _ h => mvB_any j t h) rfl
        · intro T W hT hs hC hF K hK
          obtain ⟨t0, t1, t2, t3, t4, t5, t6, t7, t8, t9, t10, t11, t12, t13, t14, t15, t16, t17, t18, t19, t20, t21, t22, t23, t24, t25, t26, t27, t28, t29, t30, t31, t32, t33, t34, t35, t36, t37, t38, t39, t40, t41, t42, t43, t44, t45, t46, t47, t48, t49, t50, t51, t52, t53, t54, t55, t56, t57, t58, t59, t60, t61, rfl⟩ := arr62 T hT
          obtain rfl : t0 = .pointer (some ⟨b, k * 4, none⟩) := hs 0 (by decide)
          obtain rfl : t5 = .pointer (some ⟨r5, 0, none⟩) := hs 5 (by decide)
          obtain rfl : t37 = .pointer (some ⟨b, k * 4, none⟩) := hF 0 (by decide)
          clear hF hs hT
          go_simp
          exact hK.out _ W (ifn (by decide) hC) (fun _ _ _ h => h) rfl
        · intro T W hT hs hC hF K hK
          obtain ⟨t0, t1, t2, t3, t4, t5, t6, t7, t8, t9, t10, t11, t12, t13, t14, t15, t16, t17, t18, t19, t20, t21, t22, t23, t24, t25, t26, t27, t28, t29, t30, t31, t32, t33, t34, t35, t36, t37, t38, t39, t40, t41, t42, t43, t44, t45, t46, t47, t48, t49, t50, t51, t52, t53, t54, t55, t56, t57, t58, t59, t60, t61, rfl⟩ := arr62 T hT
          obtain rfl : t0 = .pointer (some ⟨b, k * 4, none⟩) := hs 0 (by decide)
          obtain rfl : t5 = .pointer (some ⟨r5, 0, none⟩) := hs 5 (by decide)
          obtain rfl : t48 = .pointer (some ⟨b, k * 4, none⟩) := hF 11 (by decide)
          clear hF hs hT
          go_simp
          exact hK.out _ W (ifn (by decide) hC) (fun _ _ _ h => h) rfl
        · intro T W hT hs hC hF K hK
          obtain ⟨t0, t1, t2, t3, t4, t5, t6, t7, t8, t9, t10, t11, t12, t13, t14, t15, t16, t17, t18, t19, t20, t21, t22, t23, t24, t25, t26, t27, t28, t29, t30, t31, t32, t33, t34, t35, t36, t37, t38, t39, t40, t41, t42, t43, t44, t45, t46, t47, t48, t49, t50, t51, t52, t53, t54, t55, t56, t57, t58, t59, t60, t61, rfl⟩ := arr62 T hT
          obtain rfl : t0 = .pointer (some ⟨b, k * 4, none⟩) := hs 0 (by decide)
          obtain rfl : t5 = .pointer (some ⟨r5, 0, none⟩) := hs 5 (by decide)
          obtain rfl : t49 = .pointer (some ⟨b, k * 4 + 1, none⟩) := hF 12 (by decide)
          obtain rfl : t47 = .int .i64 y2 := hF 10 (by decide)
          clear hF hs hT
          have hcs := HK1.out W hC
          obtain ⟨y0, y1, y2, y3⟩ := hcs
          have yz := HZ1.out W hC
          go_simp
          exact hK.out undef _ (ifp ⟨W, hC, rfl⟩) (fun j t _ h => mvB_any j t h) trivial
      · intro T W hT hs hC hF
        obtain ⟨t0, t1, t2, t3, t4, t5, t6, t7, t8, t9, t10, t11, t12, t13, t14, t15, t16, t17, t18, t19, t20, t21, t22, t23, t24, t25, t26, t27, t28, t29, t30, t31, t32, t33, t34, t35, t36, t37, t38, t39, t40, t41, t42, t43, t44, t45, t46, t47, t48, t49, t50, t51, t52, t53, t54, t55, t56, t57, t58, t59, t60, t61, rfl⟩ := arr62 T hT
        obtain rfl : t0 = .pointer (some ⟨b, k * 4, none⟩) := hs 0 (by decide)
        obtain rfl : t5 = .pointer (some ⟨r5, 0, none⟩) := hs 5 (by decide)
        obtain ⟨Wb, hCb, rfl⟩ := hC
        have Ob := OwnChannel.stepB OU.out hCb
        have Bb := BU.out.step hCb
        obtain ⟨Y, hY⟩ : ∃ Y, Y = Wb.setCell ⟨b, k * 4 + 1, none⟩ (.int .i64 y2) := ⟨_, rfl⟩
        have OY0 : OwnChannel Y lo hi (some ⟨b, 0, none⟩) ((rs.set k (y1, x2, x3, x4)).set k (y1, y2, x3, x4)) := by rw [hY]; exact Ob.set1 k hkU.out hxU.out 1 (by decide) (.int .i64 y2) (y1, y2, x3, x4) rfl
        rw [List.set_set] at OY0
        have OY := Lib.hid OY0
        have BY : Hid (BusAt Y a.R a.g a.b0 a.b1 a.b2 a.b3 a.A0 a.A1 a.c0 a.c1 m2.r m2.i m2.z m2.g m2.s) := Lib.hid (by rw [hY]; exact Bb.setCh Ob HneU.out _ _)
        have KY : Hid (KeepsCh w Y) := Lib.hid (by rw [hY]; exact (KU.out.trans (KeepsCh.below hCb)).trans (KeepsCh.set Ob HneU.out _ _))
        have hbY : Below a.R w Y := by rw [hY]; exact (hbU.trans (hCb.mono (by have := HR.out; have := hbU.size; omega))).setCell (p := ⟨b, k * 4 + 1, none⟩) HLo.out.1 _
        have hkY := Lib.hid (show k < (rs.set k (y1, y2, x3, x4)).length by rw [List.length_set]; exact hkh.out)
        have hxY := Lib.hid (set_set_getD rs k (y1, y2, x3, x4) hkh.out)
        have HneY : Hid (rs.set k (y1, y2, x3, x4) ≠ []) := Lib.hid (by intro e; have := hkY.out; rw [e] at this; simp at this)
        rw [← hY]
        clear hY hF hs hT OY0 Ob Bb hCb OU BU XU KU hbU HAf1 HK1 HZ1
        obtain ⟨⟨g0, g1, g2, g3⟩, gz, _, _⟩ := OY.out.open4 k hkY.out hxY.out
        have gz2 := gz (k * 4 + 2)
        go_wp2
        go_ret
        have OF := OY.out.set1 k hkY.out hxY.out 2 (by decide) (.int .i64 (x3 - 1)) (y1, y2, x3 - 1, x4) rfl
        rw [List.set_set] at OF
        rw [HE.out.1, HE.out.2.1, HE.out.2.2]
        exact ⟨rfl, Lib.hid (BY.out.setCh OY.out HneY.out _ _), Lib.hid OF, Lib.hid (KY.out.trans (KeepsCh.set OY.out HneY.out _ _)), hbY.setCell (p := ⟨b, k * 4 + 2, none⟩) HLo.out.1 _⟩
end Go.Proofs.Ytagdclbpgkilgaa

/- DmaMove of the program; both sides on leaves. Written by gen_dmaimpl2.py. -/
namespace Go.Proofs.Ytagdclbpgkilgaa
open Go.RowKit

theorem OwnChannel.rowOf {w : World} {lo hi : Nat} {A : Option Addr} {rs : List TChannel} {c b : Nat} (h : OwnChannel w lo hi A rs) (hb : blkL (.slice A rs.length c) = some b) : ∃ m f, w.rowIs b 36 m f := by
  rcases h with hnil | ⟨g, m, f, rfl, _, _, _, hr, _⟩
  · have hq := congrArg List.length hnil
    rw [List.length_map, List.length_nil] at hq
    rw [hq, blkL_zero] at hb; cases hb
  · rcases Nat.eq_zero_or_pos rs.length with hz | hz
    · rw [hz, blkL_zero] at hb; cases hb
    · rw [blkL_some hz] at hb; injection hb with hb; subst hb; exact ⟨m, f, hr⟩
theorem rowI {w : World} {lo hi : Nat} {v : Value} {zs : List Int} {b : Nat} (h : OwnL w lo hi v (.I zs)) (hb : blkL v = some b) : ∃ m f, w.rowIs b 3 m f := by
  obtain ⟨A, c, rfl, h⟩ := h
  exact h.rowOf hb
theorem rowB {w : World} {lo hi : Nat} {v : Value} {gs : List Bool} {b : Nat} (h : OwnL w lo hi v (.B gs)) (hb : blkL v = some b) : ∃ m f, w.rowIs b 4 m f := by
  obtain ⟨A, c, rfl, h⟩ := h
  exact h.rowOf hb
/-- Channels beside a memory's four rows: another block, for its type. -/
theorem ownA5 {w : World} {lo hi : Nat} {v0 v1 v2 v3 : Value} {A : Option Addr} {n c : Nat} {a b z : List Int} {g : List Bool} {rs : List TChannel} (h : OwnA w lo hi [v0, v1, v2, v3] [.I a, .I b, .I z, .B g]) (hl : rs.length = n) (k : OwnChannel w lo hi A rs) : OwnA w lo hi [v0, v1, v2, v3, .slice A n c] [.I a, .I b, .I z, .B g, rChannel rs] := by
  subst hl
  have kl : OwnL w lo hi (.slice A rs.length c) (rChannel rs) := own_rChannel.2 ⟨rfl, k⟩
  obtain ⟨⟨p0, p1, p2, p3, _⟩, hn⟩ := h
  refine ⟨⟨p0, p1, p2, p3, kl, trivial⟩, ?_⟩
  have e : [v0, v1, v2, v3, Value.slice A rs.length c].filterMap blkL = [v0, v1, v2, v3].filterMap blkL ++ [Value.slice A rs.length c].filterMap blkL := by rw [← List.filterMap_append]; rfl
  rw [e, List.nodup_append]
  refine ⟨hn, (OwnA.one kl).2, fun x hx y hy q => ?_⟩
  subst q
  obtain ⟨u, hu, hux⟩ := List.mem_filterMap.1 hx
  obtain ⟨u', hu', huy⟩ := List.mem_filterMap.1 hy
  rw [List.mem_singleton] at hu'
  subst hu'
  obtain ⟨m, f, hr⟩ := k.rowOf huy
  simp only [List.mem_cons, List.not_mem_nil, or_false] at hu
  rcases hu with rfl | rfl | rfl | rfl
  · obtain ⟨m', f', hr'⟩ := rowI p0 hux
    exact row_ne hr' hr (by decide) rfl
  · obtain ⟨m', f', hr'⟩ := rowI p1 hux
    exact row_ne hr' hr (by decide) rfl
  · obtain ⟨m', f', hr'⟩ := rowI p2 hux
    exact row_ne hr' hr (by decide) rfl
  · obtain ⟨m', f', hr'⟩ := rowB p3 hux
    exact row_ne hr' hr (by decide) rfl
theorem OwnChannel.wideC {w : World} {lo hi lo' hi' : Nat} {A : Option Addr} {rs : List TChannel} (h : OwnChannel w lo hi A rs) (h1 : lo' ≤ lo) (h2 : hi ≤ hi') : OwnChannel w lo' hi' A rs := OwnR.wide h h1 h2
set_option maxRecDepth 100000 in
set_option maxHeartbeats 8000000 in
theorem implDmaMove (A0 A1 A2 A3 : Option Addr) (n0 n1 n2 n3 c0 c1 c2 c3 : Nat) (m : MD) (A : Option Addr) (n c : Nat) (rs : List TChannel) (i : Int) (w : World) (l0 : m.r.length = n0) (l1 : m.i.length = n1) (l2 : m.z.length = n2) (l3 : m.g.length = n3) (q0 : n0 ≤ maxLen) (q1 : n1 ≤ maxLen) (q2 : n2 ≤ maxLen) (q3 : n3 ≤ maxLen) (h0 : IntL w A0 m.r) (h1 : IntL w A1 m.i) (h2 : IntL w A2 m.z) (h3 : BoolL w A3 m.g) (hl : rs.length = n) (hn : n ≤ maxLen) (hrow : RowChannel w A rs) :
    Calls Try.prog 14 #[.agg #[.slice A0 n0 c0, .slice A1 n1 c1, .slice A2 n2 c2, .slice A3 n3 c3, .int .i64 m.s], .slice A n c, .int .i64 i] w (GivesMR (dmaM m rs i) (dmaR m rs i) (dmaT m rs i) (moveCode m rs i) w) := by
  obtain ⟨W1, hW1⟩ : ∃ W1, W1 = ((w.alloc (.cells #[.slice A0 n0 c0, .slice A1 n1 c1, .slice A2 n2 c2, .slice A3 n3 c3, .int .i64 m.s] 28)).alloc (.cells #[.slice none 0 0, .slice none 0 0, .slice none 0 0, .slice none 0 0, .int .i64 0] 28)) := ⟨_, rfl⟩
  have hb0 : Below w.heap.size w W1 := by rw [hW1]; exact (((Below.refl _ _).alloc (Nat.le_refl _) _).alloc (by simp; try omega) _)
  have Z2 : Hid (W1.heap.size = w.heap.size + 2) := Lib.hid (by rw [hW1]; simp)
  have X3 : Hid (Box W1 (w.heap.size) 28 #[.slice A0 n0 c0, .slice A1 n1 c1, .slice A2 n2 c2, .slice A3 n3 c3, .int .i64 m.s]) := Lib.hid (by rw [hW1]; exact ((Box.new w 28 #[.slice A0 n0 c0, .slice A1 n1 c1, .slice A2 n2 c2, .slice A3 n3 c3, .int .i64 m.s]).alloc _))
  have X4 : Hid (Box W1 (w.heap.size + 1) 28 #[.slice none 0 0, .slice none 0 0, .slice none 0 0, .slice none 0 0, .int .i64 0]) := Lib.hid (by rw [hW1]; simpa using (Box.new (w.alloc (.cells #[.slice A0 n0 c0, .slice A1 n1 c1, .slice A2 n2 c2, .slice A3 n3 c3, .int .i64 m.s] 28)) 28 #[.slice none 0 0, .slice none 0 0, .slice none 0 0, .slice none 0 0, .int .i64 0]))
  have HW0 := Lib.hid hW1
  clear hW1
  have HC := Lib.hid (checkMove A0 A1 A2 A3 n0 n1 n2 n3 c0 c1 c2 c3 m A n c rs i W1 l0 l1 l2 l3 q0 q1 q2 q3 (h0.below hb0) (h1.below hb0) (h2.below hb0) hl hn (hrow.below hb0))
  have H := Lib.hid (And.intro (And.intro l0 (And.intro l1 (And.intro l2 l3))) (And.intro h0 (And.intro h1 (And.intro h2 h3))))
  have HL := Lib.hid hl
  have HRow := Lib.hid hrow
  clear l0 l1 l2 l3 q0 q1 q2 q3 h0 h1 h2 h3 hrow hn hl
  obtain ⟨cd, hcd⟩ : ∃ cd, moveCode m rs i = cd := ⟨_, rfl⟩
  rw [hcd] at HC
  have f5 := X3.out.cell 0 rfl
  have f6 := X3.out.cell 1 rfl
  have f7 := X3.out.cell 2 rfl
  have f8 := X3.out.cell 3 rfl
  have f9 := X3.out.cell 4 rfl
  rw [HW0.out] at f5 f6 f7 f8 f9
  by_cases hz : cd = 0
  · subst hz
    obtain ⟨hok, hdm, h2⟩ := moveCode0 hcd
    have hom : m.Ok := MD.ok_iff.1 hok
    have hl4 : rs.length = 4 := (dmaB_len hdm).1
    obtain rfl : n = 4 := HL.out.symm.trans hl4
    obtain rfl : n0 = 256 := H.out.1.1.symm.trans hom.r
    obtain rfl : n1 = 32 := H.out.1.2.1.symm.trans hom.i
    obtain rfl : n2 = 256 := H.out.1.2.2.1.symm.trans hom.z
    obtain rfl : n3 = 16 := H.out.1.2.2.2.symm.trans hom.g
    obtain ⟨k, rfl⟩ : ∃ k : Nat, i = k := ⟨i.toNat, by have := chanB_range h2; omega⟩
    have hk : k < 4 := by have := chanB_range h2; omega
    have hki : (k : Int) < 4 := by omega
    have hk0 : (0 : Int) ≤ (k : Int) := by omega
    have hch := dmaB_at hdm k hk
    have ED : dmaM m rs k = moveM m (rs.getD k zChannel) := by unfold dmaM; rw [if_pos hcd]; rfl
    have ER : dmaR m rs k = rs.set k (moveC (rs.getD k zChannel)) := by unfold dmaR; rw [if_pos hcd]; rfl
    have ET : dmaT m rs k = moveL (rs.getD k zChannel) := by unfold dmaT; rw [if_pos hcd]; rfl
    have HE := Lib.hid (And.intro ED (And.intro ER (And.intro ET hcd)))
    have HLm := Lib.hid (moveM_ok hom hch)
    have hlr : (rs.set k (moveC (rs.getD k zChannel))).length = 4 := by rw [List.length_set]; exact hl4
    have HMv := Lib.hid (fun (a : PA) lo hi b W (q : a.R ≤ lo) (O : OwnChannel W lo hi (some ⟨b, 0, none⟩) rs) (B : BusAt W a.R a.g a.b0 a.b1 a.b2 a.b3 a.A0 a.A1 a.c0 a.c1 m.r m.i m.z m.g m.s) => chMove a m lo hi b rs k W (by rw [hl4]; exact hk) hch hom q O B)
    unfold GMove at HMv
    have HBo := Lib.hid (fun W (hb : Below w.heap.size w W) => busOf A0 A1 A2 A3 c0 c1 c2 c3 m.r m.i m.z m.g m.s W hom.r hom.i hom.z hom.g hom.zb (H.out.2.1.below hb) (H.out.2.2.1.below hb) (H.out.2.2.2.1.below hb) (H.out.2.2.2.2.below hb))
    unfold GivesBus at HBo
    have HCl := Lib.hid (fun W (hb : Below w.heap.size w W) => cloneCh A 4 c rs W hl4 (by decide) (by decide) (HRow.out.below hb))
    unfold GivesRs at HCl
    generalize moveM m (rs.getD k zChannel) = mF at HMv HLm HE
    generalize rs.set k (moveC (rs.getD k zChannel)) = rF at HMv hlr HE
    generalize moveL (rs.getD k zChannel) = lF at HMv HE
    have HLr := Lib.hid hlr
    have HL4 := Lib.hid hl4
    have HMe := Lib.hid (fun (a : PA) W (q : BusAt W a.R a.g a.b0 a.b1 a.b2 a.b3 a.A0 a.A1 a.c0 a.c1 mF.r mF.i mF.z mF.g mF.s) => busMem a.R a.g a.b0 a.b1 a.b2 a.b3 a.A0 a.A1 a.c0 a.c1 mF.r mF.i mF.z mF.g mF.s W HLm.out.z HLm.out.g HLm.out.zb q)
    unfold GivesMemOf at HMe
    clear ED ER ET hom hl4 hch hlr H HRow HL hok hdm h2 hcd
    go_enter Try.func14, Try.ntmps14
    go_wp2_with fail
    rw [← HW0.out]
    rw [← HW0.out] at f5 f6 f7 f8 f9
    clear f5 f6 f7 f8 f9
    refine HC.out.mono ?_
    rintro e w1 ⟨rfl, hq1⟩
    have X10 := Lib.hid (X3.out.step hq1)
    have X11 := Lib.hid (X4.out.step hq1)
    have hb12 := bt hb0 hq1
    have Z13 : Hid (W1.heap.size ≤ w1.heap.size) := Lib.hid hq1.size
    clear X3 X4 hb0 hq1
    have f14 := X10.out.cell 0 rfl
    have f15 := X10.out.cell 1 rfl
    have f16 := X10.out.cell 2 rfl
    have f17 := X10.out.cell 3 rfl
    have f18 := X10.out.cell 4 rfl
    go_wp2_with fail
    clear f14 f15 f16 f17 f18
    refine (HBo.out _ hb12).mono ?_
    rintro e w2 ⟨g, b0, b1, b2, b3, D0, D1, e0, e1, rfl, BA, hq2⟩
    obtain ⟨R, hR⟩ : ∃ R, R = w1.heap.size := ⟨_, rfl⟩
    have HR := Lib.hid hR
    rw [← hR] at BA
    clear hR HBo
    have X19 := Lib.hid (X10.out.step hq2)
    have X20 := Lib.hid (X11.out.step hq2)
    have hb21 := bt hb12 hq2
    have Z22 : Hid (w1.heap.size ≤ w2.heap.size) := Lib.hid hq2.size
    clear X10 X11 hb12 hq2
    obtain ⟨V, hV⟩ : ∃ V, V = w2.alloc (.cells #[.pointer (some ⟨b0, 0, none⟩), .pointer (some ⟨b1, 0, none⟩), .pointer (some ⟨b2, 0, none⟩), .pointer (some ⟨b3, 0, none⟩)] 75) := ⟨_, rfl⟩
    have hqV : Below w2.heap.size w2 V := by rw [hV]; exact alloc_below _ _
    have XB : Hid (Box V w2.heap.size 75 #[.pointer (some ⟨b0, 0, none⟩), .pointer (some ⟨b1, 0, none⟩), .pointer (some ⟨b2, 0, none⟩), .pointer (some ⟨b3, 0, none⟩)]) := Lib.hid (by rw [hV]; exact Box.new _ _ _)
    have BV := Lib.hid (BA.out.step hqV)
    clear BA
    have HV := Lib.hid hV
    clear hV
    have X23 := Lib.hid (X19.out.step hqV)
    have X24 := Lib.hid (X20.out.step hqV)
    have hb25 := bt hb21 hqV
    have Z26 : Hid (w2.heap.size ≤ V.heap.size) := Lib.hid hqV.size
    clear X19 X20 hb21 hqV
    have HClV := Lib.hid (HCl.out V hb25)
    rw [HV.out] at HClV
    clear HCl
    go_wp2_with fail
    refine HClV.out.mono ?_
    rw [← HV.out]
    rintro e w4 ⟨A4, c4, rfl, OC, hq4⟩
    obtain ⟨b4, _, _, rfl, _⟩ := OC.out.put k (by rw [HL4.out]; exact hk)
    have B4 := Lib.hid (BV.out.step hq4)
    clear BV HClV
    have X27 := Lib.hid (X23.out.step hq4)
    have X28 := Lib.hid (X24.out.step hq4)
    have X29 := Lib.hid (XB.out.step hq4)
    have hb30 := bt hb25 hq4
    have Z31 : Hid (V.heap.size ≤ w4.heap.size) := Lib.hid hq4.size
    clear X23 X24 XB hb25 hq4
    have f32 := X29.out.cell 0 rfl
    have f33 := X29.out.cell 1 rfl
    have f34 := X29.out.cell 2 rfl
    have f35 := X29.out.cell 3 rfl
    go_wp2
    go_still_tail 4, (by kernel_rfl)
    change wpList _ _ _ _ _ w4.drew
    clear f32 f33 f34 f35
    have hdr : Below w4.heap.size w4 w4.drew := (Below.refl _ _).drew
    have Od := Lib.hid (OwnChannel.stepB OC.out hdr)
    have Bd := Lib.hid (B4.out.step hdr)
    clear OC B4
    have X36 := Lib.hid (X27.out.step hdr)
    have X37 := Lib.hid (X28.out.step hdr)
    have X38 := Lib.hid (X29.out.step hdr)
    have hb39 := bt hb30 hdr
    have Z40 : Hid (w4.heap.size ≤ w4.drew.heap.size) := Lib.hid hdr.size
    clear X27 X28 X29 hb30 hdr
    have HMx := Lib.hid (HMv.out ⟨R, R, 0, g, b0, b1, b2, b3, none, D0, D1, 0, e0, e1⟩ _ _ _ _ (by show R ≤ V.heap.size; have := HR.out; have := Z2.out; have := Z13.out; have := Z22.out; have := Z26.out; have := Z31.out; have := Z40.out; omega) Od.out Bd.out)
    go_wp2_with fail
    refine HMx.out.mono ?_
    rintro e w5 ⟨rfl, BM, OM, KM, hq5⟩
    have hq5 : Below R w4.drew w5 := hq5
    have Z5 : Hid (w4.drew.heap.size ≤ w5.heap.size) := Lib.hid hq5.size
    have XB5 := Lib.hid (KM.out _ _ _ (by decide) (by decide) (by decide) X38.out)
    have XR5 := Lib.hid (KM.out _ _ _ (by decide) (by decide) (by decide) X37.out)
    have hb5 := hb39.trans (hq5.mono (by have := HR.out; have := Z2.out; have := Z13.out; have := Z22.out; have := Z26.out; have := Z31.out; have := Z40.out; have := Z5.out; omega))
    clear X38 X37 X36 hb39 KM Od Bd HMx HMv hq5
    have f41 := XB5.out.cell 0 rfl
    have f42 := XB5.out.cell 1 rfl
    have f43 := XB5.out.cell 2 rfl
    have f44 := XB5.out.cell 3 rfl
    go_wp2_with fail
    clear f41 f42 f43 f44
    refine (HMe.out ⟨R, R, 0, g, b0, b1, b2, b3, none, D0, D1, 0, e0, e1⟩ _ BM.out).mono ?_
    rintro e w6 ⟨F2, f2, F3, f3, rfl, S2, S3, hq6⟩
    have OB := Lib.hid (ownA5 (c := c4) (ownA4 (c0 := e0) (c1 := e1) (c2 := f2) (c3 := f3) (BM.out.R.below hq6) (BM.out.I.below hq6) S2.out S3.out (L := R) (R := w6.heap.size) (Nat.le_refl _) BM.out.l.2.2.2.2.1 BM.out.l.2.2.2.2.2 hq6.size (Nat.le_refl _)) HLr.out ((OwnChannel.stepB OM.out hq6).wideC (by have := HR.out; have := Z2.out; have := Z13.out; have := Z22.out; have := Z26.out; have := Z31.out; have := Z40.out; have := Z5.out; omega) (by have := hq6.size; have := Z2.out; have := Z13.out; have := Z22.out; have := Z26.out; have := Z31.out; have := Z40.out; have := Z5.out; omega)))
    clear BM S2 S3 OM HMe
    have X45 := Lib.hid (XB5.out.step hq6)
    have X46 := Lib.hid (XR5.out.step hq6)
    have hb47 := bt hb5 hq6
    have Z48 : Hid (w5.heap.size ≤ w6.heap.size) := Lib.hid hq6.size
    clear XB5 XR5 hb5 hq6
    have f49 := X46.out.cell 0 rfl
    have f50 := X46.out.cell 1 rfl
    have f51 := X46.out.cell 2 rfl
    have f52 := X46.out.cell 3 rfl
    have f53 := X46.out.cell 4 rfl
    have z54 := X46.out.frozen 0
    have z55 := X46.out.frozen 1
    have z56 := X46.out.frozen 2
    have z57 := X46.out.frozen 3
    have z58 := X46.out.frozen 4
    go_wp2
    clear f49 f50 f51 f52 f53 z54 z55 z56 z57 z58
    obtain ⟨Y, hY⟩ : ∃ Y, Y = (((((w6.setCell ⟨w.heap.size + 1, 0, none⟩ (.slice D0 256 e0)).setCell ⟨w.heap.size + 1, 1, none⟩ (.slice D1 32 e1)).setCell ⟨w.heap.size + 1, 2, none⟩ (.slice F2 256 f2)).setCell ⟨w.heap.size + 1, 3, none⟩ (.slice F3 16 f3)).setCell ⟨w.heap.size + 1, 4, none⟩ (.int .i64 mF.s)) := ⟨_, rfl⟩
    have hBY : Btw (w.heap.size + 1) (w.heap.size + 1 + 1) w6 Y := by rw [hY]; exact ((((((Btw.refl _ _ _).setCell (p := ⟨w.heap.size + 1, 0, none⟩) (Nat.le_refl _) (Nat.lt_succ_self _) _).setCell (p := ⟨w.heap.size + 1, 1, none⟩) (Nat.le_refl _) (Nat.lt_succ_self _) _).setCell (p := ⟨w.heap.size + 1, 2, none⟩) (Nat.le_refl _) (Nat.lt_succ_self _) _).setCell (p := ⟨w.heap.size + 1, 3, none⟩) (Nat.le_refl _) (Nat.lt_succ_self _) _).setCell (p := ⟨w.heap.size + 1, 4, none⟩) (Nat.le_refl _) (Nat.lt_succ_self _) _)
    have r1 : Box Y (w.heap.size + 1) 28 #[.slice D0 256 e0, .slice D1 32 e1, .slice F2 256 f2, .slice F3 16 f3, .int .i64 mF.s] := by rw [hY]; exact X46.out.allN5 rfl _ _ _ _ _
    rw [← hY]
    clear hY
    have t0 := r1.cell 0 rfl
    have t1 := r1.cell 1 rfl
    have t2 := r1.cell 2 rfl
    have t3 := r1.cell 3 rfl
    have t4 := r1.cell 4 rfl
    refine bodyPost_ret (v := .tuple #[.agg #[.slice D0 256 e0, .slice D1 32 e1, .slice F2 256 f2, .slice F3 16 f3, .int .i64 mF.s], .slice (some ⟨b4, 0, none⟩) 4 c4, .bool lF, .int .i64 0]) (by simp [results, Try.results14, go_sem, t0, t1, t2, t3, t4]) rfl ?_
    have hfin := Btw.lowSize hBY hb47 (Nat.le_of_lt X46.out.lt) (by have := Z2.out; have := Z13.out; have := Z22.out; have := Z26.out; have := Z31.out; have := Z40.out; have := Z5.out; have := Z48.out; omega)
    rw [HE.out.1, HE.out.2.1, HE.out.2.2.1, HE.out.2.2.2]
    have hRw : w.heap.size + 2 ≤ R := by have := HR.out; have := Z2.out; have := Z13.out; have := Z22.out; have := Z26.out; have := Z31.out; have := Z40.out; have := Z5.out; have := Z48.out; omega
    refine ⟨D0, D1, F2, F3, some ⟨b4, 0, none⟩, e0, e1, f2, f3, c4, ?_, Lib.hid ?_, hfin⟩
    · rw [HLm.out.r, HLm.out.i, HLm.out.z, HLm.out.g, HLr.out]
    · have OC := OB.out
      rw [HLm.out.r, HLm.out.i, HLm.out.z, HLm.out.g] at OC
      rw [HLm.out.r, HLm.out.i, HLm.out.z, HLm.out.g, HLr.out]
      exact (OC.btw hBY (.inr (by omega))).wide (by omega) hBY.size
  · have hq : (cd != 0) = true := by simpa using hz
    clear H HL HRow
    go_enter Try.func14, Try.ntmps14
    go_wp2_with fail
    rw [← HW0.out]
    rw [← HW0.out] at f5 f6 f7 f8 f9
    clear f5 f6 f7 f8 f9
    refine HC.out.mono ?_
    rintro e w1 ⟨rfl, hq1⟩
    have X10 := Lib.hid (X3.out.step hq1)
    have X11 := Lib.hid (X4.out.step hq1)
    have hb12 := bt hb0 hq1
    have Z13 : Hid (W1.heap.size ≤ w1.heap.size) := Lib.hid hq1.size
    clear X3 X4 hb0 hq1
    have f14 := X11.out.cell 0 rfl
    have f15 := X11.out.cell 1 rfl
    have f16 := X11.out.cell 2 rfl
    have f17 := X11.out.cell 3 rfl
    have f18 := X11.out.cell 4 rfl
    have z19 := X11.out.frozen 0
    have z20 := X11.out.frozen 1
    have z21 := X11.out.frozen 2
    have z22 := X11.out.frozen 3
    have z23 := X11.out.frozen 4
    go_wp2
    obtain ⟨W24, hW24⟩ : ∃ W24, W24 = (((((w1.setCell ⟨w.heap.size + 1, 0, none⟩ (.slice none 0 0)).setCell ⟨w.heap.size + 1, 1, none⟩ (.slice none 0 0)).setCell ⟨w.heap.size + 1, 2, none⟩ (.slice none 0 0)).setCell ⟨w.heap.size + 1, 3, none⟩ (.slice none 0 0)).setCell ⟨w.heap.size + 1, 4, none⟩ (.int .i64 0)) := ⟨_, rfl⟩
    have hB25 : Btw (w.heap.size + 1) (w.heap.size + 1 + 1) w1 W24 := by rw [hW24]; exact ((((((Btw.refl _ _ _).setCell (p := ⟨w.heap.size + 1, 0, none⟩) (Nat.le_refl _) (Nat.lt_succ_self _) _).setCell (p := ⟨w.heap.size + 1, 1, none⟩) (Nat.le_refl _) (Nat.lt_succ_self _) _).setCell (p := ⟨w.heap.size + 1, 2, none⟩) (Nat.le_refl _) (Nat.lt_succ_self _) _).setCell (p := ⟨w.heap.size + 1, 3, none⟩) (Nat.le_refl _) (Nat.lt_succ_self _) _).setCell (p := ⟨w.heap.size + 1, 4, none⟩) (Nat.le_refl _) (Nat.lt_succ_self _) _)
    have X26 : Hid (Box W24 (w.heap.size + 1) 28 #[.slice none 0 0, .slice none 0 0, .slice none 0 0, .slice none 0 0, .int .i64 0]) := Lib.hid (by rw [hW24]; exact (X11.out.allN5 rfl _ _ _ _ _))
    have X27 := Lib.hid (X10.out.btw hB25 (by have := Z2.out; have := Z13.out; omega))
    have hb28 := Btw.lowSize hB25 hb12 (Nat.le_of_lt X11.out.lt) (by have := Z2.out; have := Z13.out; omega)
    have Z29 : Hid (w1.heap.size ≤ W24.heap.size) := Lib.hid hB25.size
    rw [← hW24]
    clear hW24 hB25 X11 X10 hb12
    have r1 := X26.out
    have t0 := r1.cell 0 rfl
    have t1 := r1.cell 1 rfl
    have t2 := r1.cell 2 rfl
    have t3 := r1.cell 3 rfl
    have t4 := r1.cell 4 rfl
    refine bodyPost_ret (v := .tuple #[.agg #[.slice none 0 0, .slice none 0 0, .slice none 0 0, .slice none 0 0, .int .i64 0], .slice none 0 0, .bool false, .int .i64 cd]) (by simp [results, Try.results14, go_sem, t0, t1, t2, t3, t4]) rfl ?_
    exact givesMR_none none 0 hcd hz hb28
set_option maxRecDepth 100000 in
theorem specDmaMoveA (A0 A1 A2 A3 : Option Addr) (c0 c1 c2 c3 : Nat) (d0 d1 d2 : List Int) (d3 : List Bool) (d4 : Int) (E : Option Addr) (f : Nat) (rs : List TChannel) (i : Int) (w : World) (h : RepA w [.slice A0 d0.length c0, .slice A1 d1.length c1, .slice A2 d2.length c2, .slice A3 d3.length c3] [.I d0, .I d1, .I d2, .B d3]) (_c : CapA [.slice A0 d0.length c0, .slice A1 d1.length c1, .slice A2 d2.length c2, .slice A3 d3.length c3]) (z : szA [.I d0, .I d1, .I d2, .B d3] ≤ 1048576) (h' : RepA w [.slice E rs.length f] [rChannel rs]) (_c' : CapA [.slice E rs.length f]) (z' : szA [rChannel rs] ≤ 1048576) :
    Calls Try.prog 17 #[.agg #[.slice A0 d0.length c0, .slice A1 d1.length c1, .slice A2 d2.length c2, .slice A3 d3.length c3, .int .i64 d4], .slice E rs.length f, .int .i64 i] w (GivesMR (dmaM ⟨d0, d1, d2, d3, d4⟩ rs i) (dmaR ⟨d0, d1, d2, d3, d4⟩ rs i) (dmaT ⟨d0, d1, d2, d3, d4⟩ rs i) (moveCode ⟨d0, d1, d2, d3, d4⟩ rs i) w) := by
  simp only [szA, Lf.sz] at z
  exact specDmaMove A0 A1 A2 A3 _ _ _ _ c0 c1 c2 c3 ⟨d0, d1, d2, d3, d4⟩ E _ f rs i w rfl rfl rfl rfl (by unfold maxLen; omega) (by unfold maxLen; omega) (by unfold maxLen; omega) (by unfold maxLen; omega) (repI h.1) (repI h.2.1) (repI h.2.2.1) (repB h.2.2.2.1) rfl (rowsLen z') (rowsOf h')
set_option maxRecDepth 100000 in
theorem implDmaMoveA (A0 A1 A2 A3 : Option Addr) (c0 c1 c2 c3 : Nat) (d0 d1 d2 : List Int) (d3 : List Bool) (d4 : Int) (E : Option Addr) (f : Nat) (rs : List TChannel) (i : Int) (w : World) (h : RepA w [.slice A0 d0.length c0, .slice A1 d1.length c1, .slice A2 d2.length c2, .slice A3 d3.length c3] [.I d0, .I d1, .I d2, .B d3]) (_c : CapA [.slice A0 d0.length c0, .slice A1 d1.length c1, .slice A2 d2.length c2, .slice A3 d3.length c3]) (z : szA [.I d0, .I d1, .I d2, .B d3] ≤ 1048576) (h' : RepA w [.slice E rs.length f] [rChannel rs]) (_c' : CapA [.slice E rs.length f]) (z' : szA [rChannel rs] ≤ 1048576) :
    Calls Try.prog 14 #[.agg #[.slice A0 d0.length c0, .slice A1 d1.length c1, .slice A2 d2.length c2, .slice A3 d3.length c3, .int .i64 d4], .slice E rs.length f, .int .i64 i] w (GivesMR (dmaM ⟨d0, d1, d2, d3, d4⟩ rs i) (dmaR ⟨d0, d1, d2, d3, d4⟩ rs i) (dmaT ⟨d0, d1, d2, d3, d4⟩ rs i) (moveCode ⟨d0, d1, d2, d3, d4⟩ rs i) w) := by
  simp only [szA, Lf.sz] at z
  exact implDmaMove A0 A1 A2 A3 _ _ _ _ c0 c1 c2 c3 ⟨d0, d1, d2, d3, d4⟩ E _ f rs i w rfl rfl rfl rfl (by unfold maxLen; omega) (by unfold maxLen; omega) (by unfold maxLen; omega) (by unfold maxLen; omega) (repI h.1) (repI h.2.1) (repI h.2.2.1) (repB h.2.2.2.1) rfl (rowsLen z') (rowsOf h')
theorem dma_bnd (m : MD) (rs : List TChannel) (i : Int) (z' : szA [rChannel rs] ≤ 1048576) : lenA [.I (dmaM m rs i).r, .I (dmaM m rs i).i, .I (dmaM m rs i).z, .B (dmaM m rs i).g, rChannel (dmaR m rs i)] ≤ 4294967296 := by
  simp only [szA, sz_rChannel] at z'
  have hr := dmaR_len m rs i
  simp only [lenA, Lf.len_I, Lf.len_B, len_rChannel]
  by_cases hc : moveCode m rs i = 0
  · obtain ⟨hok, hdm, h2⟩ := moveCode0 hc
    have hom : m.Ok := MD.ok_iff.1 hok
    obtain ⟨k, rfl⟩ : ∃ k : Nat, i = k := ⟨i.toNat, by have := chanB_range h2; omega⟩
    have q := moveM_ok hom (dmaB_at hdm k (by have := chanB_range h2; omega))
    have ED : dmaM m rs k = moveM m (rs.getD k zChannel) := by unfold dmaM; rw [if_pos hc]; rfl
    rw [ED, q.r, q.i, q.z, q.g]
    omega
  · have ED : dmaM m rs i = zM := by unfold dmaM; rw [if_neg hc]
    rw [ED]
    simp only [zM, List.length_nil]
    omega
end Go.Proofs.Ytagdclbpgkilgaa

/- NewFlash on both sides. -/
namespace Go.Proofs.Ytagdclbpgkilgaa
open Go.RowKit

def newZ : List Int := List.replicate 256 255
theorem newZ_len : newZ.length = 256 := List.length_replicate
theorem erase_all : eraseN zZ zG 16 = newZ := by decide +kernel

/-- The model's new flash: the four blocks that it starts from. -/
theorem four_new (w : World) : ∃ W, W = ((((w.alloc (.cells #[.slice none 0 0, .slice none 0 0, .int .i64 0] 26)).alloc (.cells #[] 3)).alloc (.cells (madeCells #[.bool false] 16) 4)).alloc (.cells #[.slice (some ⟨w.heap.size + 1, 0, none⟩) 0 0, .slice (some ⟨w.heap.size + 2, 0, none⟩) 16 16, .int .i64 0] 26)) ∧ Below w.heap.size w W ∧
    Box W w.heap.size 26 #[.slice none 0 0, .slice none 0 0, .int .i64 0] ∧ Box W (w.heap.size + 1) 3 #[] ∧ Box W (w.heap.size + 2) 4 (madeCells #[.bool false] 16) ∧ Box W (w.heap.size + 3) 26 #[.slice (some ⟨w.heap.size + 1, 0, none⟩) 0 0, .slice (some ⟨w.heap.size + 2, 0, none⟩) 16 16, .int .i64 0] ∧ W.heap.size = w.heap.size + 4 := by
  obtain ⟨W1, h1⟩ : ∃ W1, W1 = w.alloc (.cells #[.slice none 0 0, .slice none 0 0, .int .i64 0] 26) := ⟨_, rfl⟩
  have s1 : W1.heap.size = w.heap.size + 1 := by rw [h1]; simp
  have b1 : Box W1 w.heap.size 26 #[.slice none 0 0, .slice none 0 0, .int .i64 0] := by rw [h1]; exact Box.new _ _ _
  have k1 : Below w.heap.size w W1 := by rw [h1]; exact alloc_below _ _
  rw [← h1]; clear h1
  obtain ⟨W2, h2⟩ : ∃ W2, W2 = W1.alloc (.cells #[] 3) := ⟨_, rfl⟩
  have s2 : W2.heap.size = w.heap.size + 2 := by rw [h2]; simp [s1]
  have b2 : Box W2 (w.heap.size + 1) 3 #[] := by rw [h2, ← s1]; exact Box.new _ _ _
  have k2 : Below W1.heap.size W1 W2 := by rw [h2]; exact alloc_below _ _
  rw [← h2]; clear h2
  obtain ⟨W3, h3⟩ : ∃ W3, W3 = W2.alloc (.cells (madeCells #[.bool false] 16) 4) := ⟨_, rfl⟩
  have s3 : W3.heap.size = w.heap.size + 3 := by rw [h3]; simp [s2]
  have b3 : Box W3 (w.heap.size + 2) 4 (madeCells #[.bool false] 16) := by rw [h3, ← s2]; exact Box.new _ _ _
  have k3 : Below W2.heap.size W2 W3 := by rw [h3]; exact alloc_below _ _
  rw [← h3]; clear h3
  refine ⟨_, rfl, bt (bt (bt k1 k2) k3) (alloc_below _ _), ((b1.step k2).step k3).alloc _, (b2.step k3).alloc _, b3.alloc _, ?_, by simp [s3]⟩
  rw [← s3]; exact Box.new _ _ _

set_option maxRecDepth 100000 in
set_option maxHeartbeats 4000000 in
theorem specNewFlash (w : World) : Calls Try.prog 90 #[] w (GivesFlash newZ zG 0 w) := by
  obtain ⟨W, hW, hb, b0, b1, b2, b3, hs⟩ := four_new w
  have hmkB : ∀ W : World, (Instr.makeSlice 24 (.int .i64 16) (.int .i64 16)).run Try.prog W = .ok (.slice (some ⟨W.heap.size, 0, none⟩) 16 16) (W.alloc (.cells (madeCells #[.bool false] 16) 4)) := fun W => run_make_row' (P := Try.prog) 24 4 (.bool false) 1 Try.underlying24 infoB rfl .i64 .i64 16 (by omega) (by omega) W
  have HB := Lib.hid (And.intro hb (And.intro b0 (And.intro b1 (And.intro b2 (And.intro b3 hs)))))
  have HW := Lib.hid hW
  clear hb b0 b1 b2 b3 hs hW
  generalize hmc : madeCells #[.bool false] 16 = mc at hmkB HB HW
  have HMc := Lib.hid hmc
  clear hmc
  go_enter Try.func90, Try.ntmps90
  go_wp2
  rw [← HW.out]
  clear hmkB HW
  go_loopw [2] (fun i wr => ∃ (j : Nat) (A : Option Addr) (c : Nat), j ≤ 256 ∧ i = .int .i64 j ∧ Below w.heap.size w wr ∧ Hid (Box wr w.heap.size 26 #[.slice none 0 0, .slice none 0 0, .int .i64 0]) ∧ Hid (Box wr (w.heap.size + 2) 4 mc) ∧ Hid (Box wr (w.heap.size + 3) 26 #[.slice A j c, .slice (some ⟨w.heap.size + 2, 0, none⟩) 16 16, .int .i64 0]) ∧ Hid (GroI wr (w.heap.size + 1) (.slice A j c) (List.replicate j 255)) ∧ Hid (w.heap.size + 4 ≤ wr.heap.size)) (fun i _ => 256 - (intOf i).toNat)
  case atStart => exact ⟨0, some ⟨w.heap.size + 1, 0, none⟩, 0, by omega, rfl, HB.out.1, Lib.hid HB.out.2.1, Lib.hid HB.out.2.2.2.1, Lib.hid HB.out.2.2.2.2.1, Lib.hid (rowv_empty (Nat.le_refl _) HB.out.2.2.1), Lib.hid (by rw [HB.out.2.2.2.2.2]; exact Nat.le_refl _)⟩
  case round =>
    clear HB
    obtain ⟨j, A, c, hj, rfl, hbw, Y, B, X, G, Z⟩ := hrel
    have x0 := X.out.cell 0 rfl
    have x1 := X.out.cell 1 rfl
    have x2 := X.out.cell 2 rfl
    have x0z := X.out.frozen 0
    by_cases hlt : j < 256
    · have HRk : Hid (wr.ownsRow (w.heap.size + 1) 3 1 (.slice A j c) j ((List.replicate j (255 : Int)).map (Value.int .i64))) := Lib.hid (by have := G.out; unfold GroI at this; rwa [List.length_replicate] at this)
      have HBa : Hid (Below wr.heap.size wr (wr.alloc (.cells #[.int .i64 255] 3))) := Lib.hid (alloc_below _ _)
      have HOw := Lib.hid (rowv_below HRk.out HBa.out)
      have HNw : Hid (∀ i u, [Value.int .i64 255][i]? = some u → (wr.alloc (.cells #[.int .i64 255] 3)).cell? ⟨wr.heap.size, i, none⟩ = some u) := Lib.hid (fun i u hi => by
        match i, hi with
        | 0, hi => simp at hi; subst hi; exact (Box.new wr 3 #[.int .i64 255]).cell 0 rfl)
      have HRep : Hid (List.replicate (j + 1) (255 : Int) = List.replicate j 255 ++ [255]) := Lib.hid List.replicate_succ'
      have hi : (j : Int) < 256 := by omega
      generalize hfl : List.replicate j (255 : Int) = fl at HRk HOw HRep
      have HLl : Hid (fl.length = j) := Lib.hid (by rw [← hfl, List.length_replicate])
      clear hfl G
      go_wp2_with (at_builtin; refine wpList_app_one rfl (.tmp 11) (.tmp 12) 23 3 rfl (.int .i64 0) 1 8 elemInt Try.underlying23 (w.heap.size + 1) (.slice A j c) j (fl.map (Value.int .i64)) rfl ?hown wr.heap.size 1 rfl [.int .i64 255] rfl ?hnews ?hone ?h63 ?hby ?hbase ?_)
      case hown => exact HOw.out
      case hnews => exact HNw.out
      case hone => intro u hu; simp at hu; subst hu; rfl
      case h63 => unfold maxLen; omega
      case hby => omega
      case hbase => have := Z.out; simp; omega
      intro A2 c2 w2 hR2 hc2 hg2 hb2
      have B2 := Lib.hid ((B.out.step HBa.out).grown HOw.out (by decide) hg2)
      have X2 := Lib.hid ((X.out.step HBa.out).grown HOw.out (by decide) hg2)
      have Y2 := Lib.hid ((Y.out.step HBa.out).below hb2 (by omega))
      have hbz : Below w.heap.size w w2 := (bt hbw HBa.out).trans (hb2.mono (by omega))
      have Z2 : Hid (w.heap.size + 4 ≤ w2.heap.size) := Lib.hid (by have := Z.out; have := HBa.out.size; have := hb2.size; omega)
      have u0 := X2.out.cell 0 rfl
      have u0z := X2.out.frozen 0
      have HG2 := Lib.hid (rowv_setBox hR2 X2.out (by decide) 0 (.slice A2 (j + 1) c2))
      clear hR2 hc2 hg2 hb2 hbw x0 x1 x2 x0z B X Y Z HOw HRk HNw HBa
      go_wp2
      go_roundw
      case rel =>
        refine ⟨j + 1, A2, c2, by omega, by go_num, hbz.setCell (p := ⟨w.heap.size + 3, 0, none⟩) (by show w.heap.size ≤ w.heap.size + 3; omega) _, Lib.hid (Y2.out.far (p := ⟨w.heap.size + 3, 0, none⟩) (by show w.heap.size ≠ w.heap.size + 3; omega) _), Lib.hid (B2.out.far (p := ⟨w.heap.size + 3, 0, none⟩) (by show w.heap.size + 2 ≠ w.heap.size + 3; omega) _), Lib.hid (X2.out.set 0 _), Lib.hid ?_, Lib.hid (by simpa [World.setCell] using Z2.out)⟩
        unfold GroI; rw [HRep.out, List.length_append, HLl.out, List.map_append]; exact HG2.out
      case measure => simp [intOf]; omega
    · obtain rfl : j = 256 := by omega
      have s0 := Y.out.cell 0 rfl
      have s1 := Y.out.cell 1 rfl
      have s2 := Y.out.cell 2 rfl
      have s0z := Y.out.frozen 0
      have s1z := Y.out.frozen 1
      have s2z := Y.out.frozen 2
      have HO : Hid (OwnI wr w.heap.size wr.heap.size A newZ) := Lib.hid (G.out.own (by omega))
      have HBo : Hid (OwnB wr w.heap.size wr.heap.size (some ⟨w.heap.size + 2, 0, none⟩) zG) := Lib.hid (.inr ⟨w.heap.size + 2, 16, fun _ => .bool false, rfl, by omega, B.out.lt, by rw [zG_len]; exact Nat.le_refl _, made_row (by have := B.out; rw [← HMc.out] at this; exact this), fun i hi => by
        have : zG.getD i false = false := by unfold zG; rw [List.getD_eq_getElem?_getD]; rw [zG_len] at hi; rw [List.getElem?_replicate, if_pos hi]; rfl
        rw [this]⟩)
      clear G B HMc
      go_wp2
      refine bodyPost_ret (v := .agg #[.slice A 256 c, .slice (some ⟨w.heap.size + 2, 0, none⟩) 16 16, .int .i64 0]) (by simp [results, Try.results90, go_sem, s0, s1, s2]) rfl ?_
      exact ⟨_, _, _, _, _, _, rfl, Lib.hid newZ_len, Lib.hid zG_len, Lib.hid ((HO.out.far3 Y.out _ _ _).wideB (Nat.le_refl _) (by rw [size3]; exact Nat.le_refl _)), Lib.hid ((HBo.out.far3 Y.out _ _ _).wide (Nat.le_refl _) (by rw [size3]; exact Nat.le_refl _)), below3 hbw (by omega) _ _ _⟩
end Go.Proofs.Ytagdclbpgkilgaa

/- Contracts of sectors, fateOf, tear, settle: what a crash makes of a disk. -/
namespace Go.Proofs.Ytagdclbpgkilgaa
open Go.RowKit

/-- n empty strings, as cells. -/
def zS (n : Nat) : List Value := List.replicate n (.string ByteArray.empty)
theorem zS_len (n : Nat) : (zS n).length = n := by unfold zS; rw [List.length_replicate]
theorem made_zS (n : Nat) : madeCells #[.string ByteArray.empty] n = (zS n).toArray := by
  apply Array.ext
  · simp [size_madeCells, zS_len]
  · intro i h1 h2
    simp [madeCells, zS, Nat.mod_one]
set_option maxRecDepth 100000 in
theorem szStr : (Try.prog.info? 9).map (·.size) = some 1 := by kernel_rfl
theorem row_of_list {w : World} {b : Nat} {t : TypeId} {n : Nat} {ss : List ByteArray} (hl : ss.length = n) (h : w.heap[b]? = some (.cells (ss.map Value.string).toArray t (0, 0))) : w.rowIs b t n (fun i => .string (ss.getD i ByteArray.empty)) :=
  ⟨_, h, by simp [hl], fun i hi => by
    have hi' : i < ss.length := by omega
    simp [List.getD_eq_getElem?_getD, hi']⟩

/-- The cells of a slice of strings. -/
def cellsS (ss : List ByteArray) : List Value := ss.map Value.string
theorem cellsS_len (ss : List ByteArray) : (cellsS ss).length = ss.length := by simp [cellsS]
theorem cellsS_one (ss : List ByteArray) : ∀ v ∈ cellsS ss, v.oneCell' = true := fun v hv => by
  obtain ⟨s, _, rfl⟩ := List.mem_map.1 hv
  rfl
theorem StrL.src {w : World} {A : Option Addr} {ss : List ByteArray} (h : StrL w A ss) (hp : 0 < (cellsS ss).length) : ∃ ad, A = some ad ∧ ∀ j v, (cellsS ss)[j]? = some v → w.cell? (ad.add j) = some v := by
  rw [cellsS_len] at hp
  obtain ⟨b, off, e, _⟩ := h 0 hp
  refine ⟨⟨b, off, none⟩, e, fun j v hj => ?_⟩
  have hj' : j < ss.length := by have := (List.getElem?_eq_some_iff.1 hj).1; simpa [cellsS] using this
  obtain ⟨b', off', e', hc⟩ := h j hj'
  rw [e] at e'
  injection e' with e'
  injection e' with e1 e2
  subst e1 e2
  have hv : v = Value.string (ss.getD j ByteArray.empty) := by
    unfold cellsS at hj
    rw [List.getElem?_map, List.getElem?_eq_getElem hj', Option.map_some] at hj
    rw [List.getD_eq_getElem?_getD, List.getElem?_eq_getElem hj']
    exact (Option.some.inj hj).symm
  rw [hv, ← hc]
  unfold Addr.add
  by_cases h0 : j = 0
  · subst h0; simp
  · rw [if_neg h0]

/-- The fate of write i. -/
def fateAt (fates : List Int) (i : Nat) : Int := if fates.length = 0 then 0 else fates.getD (i % fates.length) 0

/-- A torn write: the first half of the data, then what was there behind it. -/
def tearOf (old data : ByteArray) : ByteArray := if old.size ≤ data.size / 2 then data.extract 0 (data.size / 2) else data.extract 0 (data.size / 2) ++ old.extract (data.size / 2) old.size

/-- What write k makes of the sectors. -/
def stepF (fates : List Int) (k : Nat) (ss : List ByteArray) (x : Int × ByteArray) : List ByteArray :=
  if fateAt fates k = 1 then ss.set x.1.toNat x.2 else if fateAt fates k = 2 then ss.set x.1.toNat (tearOf (ss.getD x.1.toNat ByteArray.empty) x.2) else ss
/-- The sectors behind the first k writes. -/
def settleN (ss : List ByteArray) (ws : List (Int × ByteArray)) (fates : List Int) : Nat → List ByteArray
  | 0 => ss
  | k + 1 => stepF fates k (settleN ss ws fates k) (ws.getD k (0, ByteArray.empty))

theorem stepF_len (fates : List Int) (k : Nat) (ss : List ByteArray) (x : Int × ByteArray) : (stepF fates k ss x).length = ss.length := by
  unfold stepF; split
  · simp
  · split <;> simp
theorem settleN_len (ss : List ByteArray) (ws : List (Int × ByteArray)) (fates : List Int) (k : Nat) : (settleN ss ws fates k).length = ss.length := by
  induction k with
  | zero => rfl
  | succ k ih => rw [settleN, stepF_len, ih]
theorem extract_size (s : ByteArray) (a b : Nat) : (s.extract a b).size = min b s.size - a := by simp [ByteArray.size_extract]
theorem tearOf_size (old data : ByteArray) (h1 : old.size ≤ 100) (h2 : data.size ≤ 100) : (tearOf old data).size ≤ 100 := by
  unfold tearOf
  split
  · rw [extract_size]; omega
  · rw [ByteArray.size_append, extract_size, extract_size]; omega
theorem stepF_small (fates : List Int) (k : Nat) (ss : List ByteArray) (x : Int × ByteArray) (h : ∀ s ∈ ss, s.size ≤ 100) (hx : x.2.size ≤ 100) : ∀ s ∈ stepF fates k ss x, s.size ≤ 100 := by
  intro s hs
  unfold stepF at hs
  have hg : (ss.getD x.1.toNat ByteArray.empty).size ≤ 100 := by
    rw [List.getD_eq_getElem?_getD]
    rcases Nat.lt_or_ge x.1.toNat ss.length with hlt | hge
    · rw [List.getElem?_eq_getElem hlt]; exact h _ (List.getElem_mem _)
    · rw [List.getElem?_eq_none hge]; exact Nat.zero_le _
  split at hs
  · rcases List.mem_or_eq_of_mem_set hs with h1 | h1
    · exact h s h1
    · rw [h1]; exact hx
  · split at hs
    · rcases List.mem_or_eq_of_mem_set hs with h1 | h1
      · exact h s h1
      · rw [h1]; exact tearOf_size _ _ hg hx
    · exact h s hs
theorem settleN_small (ss : List ByteArray) (ws : List (Int × ByteArray)) (fates : List Int) (h : ∀ s ∈ ss, s.size ≤ 100) (hw : ∀ x ∈ ws, x.2.size ≤ 100) (k : Nat) (hk : k ≤ ws.length) : ∀ s ∈ settleN ss ws fates k, s.size ≤ 100 := by
  induction k with
  | zero => exact h
  | succ k ih =>
    rw [settleN]
    refine stepF_small fates k _ _ (ih (by omega)) (hw _ ?_)
    rw [List.getD_eq_getElem?_getD, List.getElem?_eq_getElem (by omega)]; exact List.getElem_mem _
theorem getD_set (l : List ByteArray) (p j : Nat) (x : ByteArray) (h : p < l.length) : (l.set p x).getD j ByteArray.empty = if j = p then x else l.getD j ByteArray.empty := by
  simp only [List.getD_eq_getElem?_getD, List.getElem?_set]
  by_cases e : j = p
  · subst e; rw [if_pos rfl, if_pos rfl, if_pos h]; rfl
  · rw [if_neg (fun h => e h.symm), if_neg e]
/-- A store into the row of strings. -/
theorem row_set {w : World} {b p : Nat} {t : TypeId} {n : Nat} {l : List ByteArray} {x : ByteArray} (h : w.rowIs b t n (fun i => .string (l.getD i ByteArray.empty))) (hp : p < l.length) : (w.setCell ⟨b, p, none⟩ (.string x)).rowIs b t n (fun i => .string ((l.set p x).getD i ByteArray.empty)) :=
  (h.set p (.string x)).congr (fun j _ => by
    rw [getD_set l p j x hp]
    by_cases e : j = p
    · rw [if_pos e, if_pos e]
    · rw [if_neg e, if_neg e])
theorem getD_small {l : List ByteArray} (h : ∀ s ∈ l, s.size ≤ 100) (p : Nat) : (l.getD p ByteArray.empty).size ≤ 100 := by
  rw [List.getD_eq_getElem?_getD]
  rcases Nat.lt_or_ge p l.length with hlt | hge
  · rw [List.getElem?_eq_getElem hlt]; exact h _ (List.getElem_mem _)
  · rw [List.getElem?_eq_none hge]; exact Nat.zero_le _

/-- A disk that DiskOK lets by. -/
structure Ok (ss : List ByteArray) (ws : List (Int × ByteArray)) : Prop where
  n48 : ss.length = 48
  m60 : ws.length ≤ 60
  small : ∀ s ∈ ss, s.size ≤ 100
  smallW : ∀ x ∈ ws, x.2.size ≤ 100
  at_ : ∀ x ∈ ws, 0 ≤ x.1 ∧ x.1 ≤ 47
theorem ok_of {ss : List ByteArray} {ws : List (Int × ByteArray)} (h : okDisk ss ws = true) : Ok ss ws := by
  unfold okDisk at h
  simp only [Bool.and_eq_true, decide_eq_true_eq, List.all_eq_true] at h
  obtain ⟨⟨h1, h2⟩, h3, h4⟩ := h
  refine ⟨h1, h2, fun s hs => ?_, fun x hx => ?_, fun x hx => ?_⟩
  · have := h3 s hs; unfold okSt at this; simpa using this
  · have := h4 x hx; unfold okWr at this; simp at this; exact this.2
  · have := h4 x hx; unfold okWr at this; simp at this; exact secB_range this.1

end Go.Proofs.Ytagdclbpgkilgaa

/- Contract of the model's flush: l01Flush. -/
namespace Go.Proofs.Ytagdclbpgkilgaa
open Go.RowKit

theorem fate_one (k : Nat) : fateAt [1] k = 1 := by simp [fateAt, Nat.mod_one]
theorem settle_one (ss : List ByteArray) (ws : List (Int × ByteArray)) (k : Nat) : settleN ss ws [1] (k + 1) = (settleN ss ws [1] k).set (ws.getD k (0, ByteArray.empty)).1.toNat (ws.getD k (0, ByteArray.empty)).2 := by
  rw [settleN, stepF, if_pos (fate_one k)]

/-- From a row that an append made to a row by its index. -/
theorem row_of_own {w : World} {base n : Nat} {v : Value} {ss : List ByteArray} (h : w.ownsRow base 9 1 v n (cellsS ss)) (hn : 0 < n) : ∃ g cap m f, v = .slice (some ⟨g, 0, none⟩) n cap ∧ base ≤ g ∧ n ≤ m ∧ ss.length = n ∧ w.rowIs g 9 m f ∧ ∀ i, i < n → f i = .string (ss.getD i ByteArray.empty) := by
  obtain ⟨hl, h0 | ⟨g, cap, cur, rfl, hb, hg, hnc, _, hsz, htk⟩⟩ := h
  · omega
  · rw [cellsS_len, Nat.mul_one] at hl
    rw [Nat.mul_one] at hsz htk
    refine ⟨g, cap, cap, fun i => cur.toList.getD i undef, rfl, hb, hnc, hl, ⟨cur, hg, hsz, fun i hi => ?_⟩, fun i hi => ?_⟩
    · have : i < cur.toList.length := by simp [hsz, hi]
      show cur[i]? = some (cur.toList.getD i undef)
      rw [List.getD_eq_getElem?_getD, List.getElem?_eq_getElem this, ← Array.getElem?_toList, List.getElem?_eq_getElem this]
      rfl
    · have h1 : (cur.toList.take n)[i]? = (cellsS ss)[i]? := by rw [htk]
      rw [List.getElem?_take, if_pos hi] at h1
      show cur.toList.getD i undef = _
      rw [List.getD_eq_getElem?_getD, h1]
      unfold cellsS
      rw [List.getElem?_map, List.getD_eq_getElem?_getD, List.getElem?_eq_getElem (by omega)]
      rfl
theorem own_empty {w : World} {base g : Nat} {t : TypeId} (hb : base ≤ g) (hg : Box w g t #[]) : w.ownsRow base t 1 (.slice (some ⟨g, 0, none⟩) 0 0) 0 (cellsS []) :=
  ⟨rfl, .inr ⟨g, 0, #[], rfl, hb, hg, Nat.le_refl _, Nat.zero_le _, rfl, rfl⟩⟩
theorem cellsS_app (ss : List ByteArray) : cellsS [] ++ cellsS ss = cellsS ss := rfl
theorem below_of_grown {B : Nat} {w w' : World} {r : Option Nat} (h : w.grownBy w' r) (hr : ∀ k, r = some k → B ≤ k) (hB : B ≤ w.heap.size) : Below B w w' := (Below.refl B w).grown h hB hr

/-- A row of strings with room to spare: the first n are these. -/
def RowS (w : World) (b n m : Nat) (l : List ByteArray) : Prop := l.length = n ∧ n ≤ m ∧ ∃ f, w.rowIs b 9 m f ∧ ∀ i, i < n → f i = .string (l.getD i ByteArray.empty)
theorem RowS.cell {w : World} {b n m p : Nat} {l : List ByteArray} (h : RowS w b n m l) (hp : p < n) : w.cell? ⟨b, p, none⟩ = some (.string (l.getD p ByteArray.empty)) := by
  obtain ⟨_, hm, f, hr, hf⟩ := h
  rw [← hf p hp]; exact hr.cell (by omega)
theorem RowS.frozen {w : World} {b n m : Nat} {l : List ByteArray} (h : RowS w b n m l) (p : Nat) : w.frozen? ⟨b, p, none⟩ = false := by
  obtain ⟨_, hm, f, hr, hf⟩ := h
  exact hr.frozen p
theorem RowS.lt {w : World} {b n m : Nat} {l : List ByteArray} (h : RowS w b n m l) : b < w.heap.size := by
  obtain ⟨_, hm, f, hr, hf⟩ := h
  exact hr.lt
theorem RowS.below {w w' : World} {b n m : Nat} {l : List ByteArray} (h : RowS w b n m l) (hb : Below w.heap.size w w') : RowS w' b n m l := by
  obtain ⟨hl, hm, f, hr, hf⟩ := h
  exact ⟨hl, hm, f, row_below hb hr hr.lt, hf⟩
theorem RowS.set {w : World} {b n m p : Nat} {l : List ByteArray} (h : RowS w b n m l) (hp : p < n) (x : ByteArray) : RowS (w.setCell ⟨b, p, none⟩ (.string x)) b n m (l.set p x) := by
  obtain ⟨hl, hm, f, hr, hf⟩ := h
  refine ⟨by simpa using hl, hm, _, hr.set p (.string x), fun i hi => ?_⟩
  rw [getD_set l p i x (by omega)]
  by_cases e : i = p
  · rw [if_pos e, if_pos e]
  · rw [if_neg e, if_neg e]; exact hf i hi
theorem RowS.far {w : World} {b n m : Nat} {l : List ByteArray} (h : RowS w b n m l) {a : Addr} (ha : b ≠ a.block) (v : Value) : RowS (w.setCell a v) b n m l := by
  obtain ⟨hl, hm, f, hr, hf⟩ := h
  exact ⟨hl, hm, f, hr.setOther ha v, hf⟩
theorem RowS.own {w : World} {b n m lo hi : Nat} {l : List ByteArray} (h : RowS w b n m l) (h1 : lo ≤ b) (h2 : b < hi) : OwnS w lo hi (some ⟨b, 0, none⟩) l := by
  obtain ⟨hl, hm, f, hr, hf⟩ := h
  exact .inr ⟨b, m, f, rfl, h1, h2, by omega, hr, fun i hi => hf i (by omega)⟩

set_option maxRecDepth 100000 in
theorem infoSx : ∃ i : TypeInfo, Try.prog.info? 9 = some i ∧ i.zero = some (.string ByteArray.empty) ∧ i.size = 1 ∧ i.bytes = 16 := by
  obtain ⟨i, hi, hzz⟩ := Option.map_eq_some_iff.1 infoS
  simp only [Prod.mk.injEq] at hzz
  exact ⟨i, hi, hzz.1, hzz.2.1, hzz.2.2⟩

end Go.Proofs.Ytagdclbpgkilgaa

/- Contracts of the model's crash: l01Crash; of the tests of fates. -/
namespace Go.Proofs.Ytagdclbpgkilgaa
open Go.RowKit

theorem tear_min (old x : ByteArray) : x.extract 0 (x.size / 2) ++ old.extract (min (x.size / 2) old.size) old.size = tearOf old x := by
  unfold tearOf
  split
  · rename_i h
    rw [Nat.min_eq_right h]
    apply WideShapes.bytes_inj
    simp [ByteArray.data_extract]
  · rename_i h
    rw [Nat.min_eq_left (by omega)]

end Go.Proofs.Ytagdclbpgkilgaa

/- The model's source of draws: byte, next, chance. -/
namespace Go.Proofs.Ytagdclbpgkilgaa
open Go.RowKit

/-- The slice at A holds these bytes, in a block below lo. -/
def ByB (w : World) (lo : Nat) (A : Option Addr) (zs : List Nat) : Prop :=
  ∀ i, i < zs.length → ∃ b off, A = some ⟨b, off, none⟩ ∧ b < lo ∧ w.cell? ⟨b, off + i, none⟩ = some (.int .u8 (zs.getD i 0 : Nat)) ∧ zs.getD i 0 < 256
theorem ByB.btw {w w' : World} {lo l h' : Nat} {A : Option Addr} {zs : List Nat} (h : ByB w lo A zs) (hb : Btw l h' w w') (ho : lo ≤ l) : ByB w' lo A zs := fun i hi => by
  obtain ⟨b, off, e, q1, q2, q3⟩ := h i hi
  exact ⟨b, off, e, q1, hb.cell q2 (.inl (by show b < l; omega)), q3⟩
/-- The source at b: its bytes, how many are drawn (at most K), a seed. -/
def Src (w : World) (b : Nat) (A : Option Addr) (n c : Nat) (zs : List Nat) (K : Nat) : Prop :=
  ∃ k sd : Nat, Box w b 97 #[.slice A n c, .int .i64 k, .int .i64 sd] ∧ k ≤ K ∧ sd < 2147483648 ∧ zs.length = n ∧ ByB w b A zs
theorem Src.btw {w w' : World} {b l h' : Nat} {A : Option Addr} {n c : Nat} {zs : List Nat} {K : Nat} (h : Src w b A n c zs K) (hb : Btw l h' w w') (ho : b < l) : Src w' b A n c zs K := by
  obtain ⟨k, sd, q1, q2, q3, q4, q5⟩ := h
  exact ⟨k, sd, q1.btw hb (.inl ho), q2, q3, q4, q5.btw hb (by omega)⟩
theorem Src.lt {w : World} {b : Nat} {A : Option Addr} {n c : Nat} {zs : List Nat} {K : Nat} (h : Src w b A n c zs K) : b < w.heap.size := by
  obtain ⟨k, sd, q1, _⟩ := h
  exact q1.lt
theorem Src.mono {w : World} {b : Nat} {A : Option Addr} {n c : Nat} {zs : List Nat} {K K' : Nat} (h : Src w b A n c zs K) (hk : K ≤ K') : Src w b A n c zs K' := by
  obtain ⟨k, sd, q1, q2, q3⟩ := h
  exact ⟨k, sd, q1, by omega, q3⟩

/-- After 'at++'. -/
theorem src_at {w : World} {b : Nat} {A : Option Addr} {n c : Nat} {k sd : Nat} (X : Box w b 97 #[.slice A n c, .int .i64 k, .int .i64 sd]) :
    Box (w.setCell ⟨b, 1, none⟩ (.int .i64 ((k : Int) + 1))) b 97 #[.slice A n c, .int .i64 ((k + 1 : Nat) : Int), .int .i64 sd] := X.set 1 (.int .i64 ((k : Int) + 1))
theorem src_seed {w : World} {b : Nat} {A : Option Addr} {n c : Nat} {k sd : Nat} (X : Box w b 97 #[.slice A n c, .int .i64 k, .int .i64 sd]) (s2 : Nat) :
    Box (w.setCell ⟨b, 2, none⟩ (.int .i64 (s2 : Int))) b 97 #[.slice A n c, .int .i64 k, .int .i64 s2] := X.set 2 (.int .i64 (s2 : Int))

/-- The source at b, exactly: its bytes, how many are drawn, the seed. -/
def SrcX (w : World) (b : Nat) (A : Option Addr) (n c : Nat) (zs : List Nat) (k sd : Nat) : Prop :=
  Box w b 97 #[.slice A n c, .int .i64 k, .int .i64 sd] ∧ sd < 2147483648 ∧ zs.length = n ∧ ByB w b A zs
/-- What byte draws: the byte, the count, the seed. -/
def byteV (zs : List Nat) (k sd : Nat) : Nat × Nat × Nat :=
  if k < zs.length then (zs.getD k 0, k + 1, (sd * 31 + zs.getD k 0 + 7) % 2147483648) else if 3000 < k + 1 then (0, k + 1, sd) else ((sd * 1103515245 + 12345) % 2147483648 / 65536 % 256, k + 1, (sd * 1103515245 + 12345) % 2147483648)
theorem byteV_at (zs : List Nat) (k sd : Nat) : (byteV zs k sd).2.1 = k + 1 := by
  unfold byteV; split
  · rfl
  · split <;> rfl
theorem SrcX.src {w : World} {b : Nat} {A : Option Addr} {n c : Nat} {zs : List Nat} {k sd : Nat} (h : SrcX w b A n c zs k sd) {K : Nat} (hk : k ≤ K) : Src w b A n c zs K := ⟨k, sd, h.1, hk, h.2.1, h.2.2.1, h.2.2.2⟩
theorem Src.exact {w : World} {b : Nat} {A : Option Addr} {n c : Nat} {zs : List Nat} {K : Nat} (h : Src w b A n c zs K) : ∃ k sd, k ≤ K ∧ SrcX w b A n c zs k sd := by
  obtain ⟨k, sd, q1, q2, q3, q4, q5⟩ := h
  exact ⟨k, sd, q2, q1, q3, q4, q5⟩
theorem SrcX.byteV_lt {w : World} {b : Nat} {A : Option Addr} {n c : Nat} {zs : List Nat} {k sd : Nat} (h : SrcX w b A n c zs k sd) : (byteV zs k sd).1 < 256 := by
  unfold byteV; split
  · rename_i hk; obtain ⟨_, _, _, _, _, hv⟩ := h.2.2.2 k hk; exact hv
  · split
    · exact (by omega : (0 : Nat) < 256)
    · exact Nat.mod_lt _ (by omega)

set_option maxRecDepth 100000 in
set_option maxHeartbeats 4000000 in
theorem srcByteX (b : Nat) (A : Option Addr) (n c : Nat) (zs : List Nat) (k sd : Nat) (w : World) (hk9 : k ≤ 1000000000) (h : SrcX w b A n c zs k sd) :
    Calls Try.prog 92 #[.pointer (some ⟨b, 0, none⟩)] w fun e w' => e = .returned (.int .i64 ((byteV zs k sd).1 : Nat)) ∧ Hid (SrcX w' b A n c zs (byteV zs k sd).2.1 (byteV zs k sd).2.2) ∧ Btw b (b + 1) w w' := by
  obtain ⟨X, hs, hl, hz⟩ := h
  have HX := Lib.hid (src_at X)
  have HB : Hid (Btw b (b + 1) w (w.setCell ⟨b, 1, none⟩ (.int .i64 ((k : Int) + 1)))) := Lib.hid ((Btw.refl b (b + 1) w).setCell (p := ⟨b, 1, none⟩) (by show b ≤ b; omega) (by show b < b + 1; omega) _)
  have HZ := Lib.hid (hz.btw HB.out (Nat.le_refl _))
  have HL := Lib.hid hl
  have f1 : w.cell? ⟨b, 1, none⟩ = some (.int .i64 k) := X.cell 1 rfl
  have g1 := X.frozen 1
  clear X hz hl
  go_enter Try.func92, Try.ntmps92
  go_wp2
  generalize w.setCell ⟨b, 1, none⟩ (.int .i64 ((k : Int) + 1)) = w1 at HX HB HZ ⊢
  clear f1 g1
  have f0 : w1.cell? ⟨b, 0, none⟩ = some (.slice A n c) := HX.out.cell 0 rfl
  have f1 : w1.cell? ⟨b, 1, none⟩ = some (.int .i64 ((k : Int) + 1)) := HX.out.cell 1 rfl
  have f2 : w1.cell? ⟨b, 2, none⟩ = some (.int .i64 sd) := HX.out.cell 2 rfl
  have g2 := HX.out.frozen 2
  by_cases hlt : k < n
  · have hlt' : (k : Int) + 1 ≤ (n : Int) := by omega
    have hk0 : (0 : Int) ≤ (k : Int) := by omega
    have hki : (k : Int) < (n : Int) := by omega
    obtain ⟨bb, off, rfl, hbb, hc, hv⟩ := HZ.out k (by rw [HL.out]; exact hlt)
    have HV : Hid (byteV zs k sd = (zs.getD k 0, k + 1, (sd * 31 + zs.getD k 0 + 7) % 2147483648)) := Lib.hid (by unfold byteV; rw [if_pos (by rw [HL.out]; exact hlt)])
    generalize zs.getD k 0 = x at hc hv HV
    have hne : ¬ bb = b := by omega
    go_quiet (fail)
    go_wp2
    have HX2 := Lib.hid (HX.out.drewN nq)
    have HB2 := Lib.hid (HB.out.drewN nq)
    have HZ2 := Lib.hid (HZ.out.btw ((Btw.refl b (b + 1) w1).drewN nq) (Nat.le_refl _))
    have hc2 : (w1.drewN nq).cell? ⟨bb, off + k, none⟩ = some (.int .u8 (x : Nat)) := hc
    clear f0 f1 f2 g2 hc HX HB HZ
    generalize w1.drewN nq = w2 at HX2 HB2 HZ2 hc2 ⊢
    have f0 : w2.cell? ⟨b, 0, none⟩ = some (.slice (some ⟨bb, off, none⟩) n c) := HX2.out.cell 0 rfl
    have f1 : w2.cell? ⟨b, 1, none⟩ = some (.int .i64 ((k : Int) + 1)) := HX2.out.cell 1 rfl
    have f2 : w2.cell? ⟨b, 2, none⟩ = some (.int .i64 sd) := HX2.out.cell 2 rfl
    have g2 := HX2.out.frozen 2
    have t0 : (0 : Int) ≤ (sd : Int) := by omega
    have u1 : IntKind.i64.wrap ((sd : Int) * 31) = (sd : Int) * 31 := IntWalk.i64_in _ ⟨by omega, by omega⟩
    have u2 : IntKind.i64.wrap (k : Int) = (k : Int) := IntWalk.i64_in _ ⟨by omega, by omega⟩
    have u3 : IntKind.i64.wrap (x : Int) = (x : Int) := IntWalk.i64_in _ ⟨by omega, by omega⟩
    have u4 : IntKind.i64.wrap ((sd : Int) * 31 + (x : Int)) = (sd : Int) * 31 + (x : Int) := IntWalk.i64_in _ ⟨by omega, by omega⟩
    have u5 : IntKind.i64.wrap ((sd : Int) * 31 + (x : Int) + 7) = (sd : Int) * 31 + (x : Int) + 7 := IntWalk.i64_in _ ⟨by omega, by omega⟩
    go_still_tail 21, (by kernel_rfl)
    change wpList _ _ _ _ _ w2.drew
    go_wp2
    clear u1 u2 u3 u4 u5
    have e1 : ((sd : Int) * 31 + (x : Int) + 7) % 2147483648 = (((sd * 31 + x + 7) % 2147483648 : Nat) : Int) := by omega
    have e2 : (sd * 31 + x + 7) % 2147483648 < 2147483648 := Nat.mod_lt _ (by omega)
    rw [e1]
    clear e1
    generalize (sd * 31 + x + 7) % 2147483648 = s2 at e2 HV ⊢
    have kA : Btw b (b + 1) w2 ((w2.setCell ⟨b, 2, none⟩ (.int .i64 (s2 : Int))).drew) := ((Btw.refl b (b + 1) _).setCell (p := ⟨b, 2, none⟩) (by show b ≤ b; omega) (by show b < b + 1; omega) _).drew
    have HX3 := Lib.hid (src_seed HX2.out s2).drew
    have HB3 := Lib.hid (HB2.out.trans kA)
    have HZ3 := Lib.hid (HZ2.out.btw kA (Nat.le_refl _))
    have hc3 := kA.cell hc2 (.inl hbb)
    clear f0 f1 f2 g2 hc2 HX2 HB2 HZ2 kA
    generalize (w2.setCell ⟨b, 2, none⟩ (.int .i64 (s2 : Int))).drew = w3 at HX3 HB3 HZ3 hc3 ⊢
    have f0 : w3.cell? ⟨b, 0, none⟩ = some (.slice (some ⟨bb, off, none⟩) n c) := HX3.out.cell 0 rfl
    have f1 : w3.cell? ⟨b, 1, none⟩ = some (.int .i64 ((k : Int) + 1)) := HX3.out.cell 1 rfl
    have u2 : IntKind.i64.wrap (k : Int) = (k : Int) := IntWalk.i64_in _ ⟨by omega, by omega⟩
    have u3 : IntKind.i64.wrap (x : Int) = (x : Int) := IntWalk.i64_in _ ⟨by omega, by omega⟩
    go_quiet (fail)
    clear u2 u3
    go_wp2
    refine bodyPost_ret (v := .int .i64 (x : Int)) (by simp [results, Try.results92, go_sem]) rfl ?_
    rw [HV.out]
    exact ⟨rfl, Lib.hid ⟨HX3.out.drewN _, e2, HL.out, HZ3.out.btw ((Btw.refl b (b + 1) w3).drewN _) (Nat.le_refl _)⟩, HB3.out.drewN _⟩
  · have hlt' : ¬ (k : Int) + 1 ≤ (n : Int) := by omega
    by_cases h3 : 3000 < (k : Int) + 1
    · have HV : Hid (byteV zs k sd = (0, k + 1, sd)) := Lib.hid (by unfold byteV; rw [if_neg (by rw [HL.out]; exact hlt), if_pos (by omega)])
      go_quiet (fail)
      go_wp2
      refine bodyPost_ret (v := .int .i64 ((0 : Nat) : Int)) (by simp [results, Try.results92, go_sem]) rfl ?_
      rw [HV.out]
      exact ⟨rfl, Lib.hid ⟨HX.out.drewN nq, hs, HL.out, HZ.out.btw ((Btw.refl b (b + 1) w1).drewN nq) (Nat.le_refl _)⟩, HB.out.drewN nq⟩
    · have HV : Hid (byteV zs k sd = ((sd * 1103515245 + 12345) % 2147483648 / 65536 % 256, k + 1, (sd * 1103515245 + 12345) % 2147483648)) := Lib.hid (by unfold byteV; rw [if_neg (by rw [HL.out]; exact hlt), if_neg (by omega)])
      go_quiet (fail)
      go_wp2
      have e1 : ((sd : Int) * 1103515245 + 12345) % 2147483648 = (((sd * 1103515245 + 12345) % 2147483648 : Nat) : Int) := by omega
      have e2 : (sd * 1103515245 + 12345) % 2147483648 < 2147483648 := Nat.mod_lt _ (by omega)
      rw [e1]
      generalize (sd * 1103515245 + 12345) % 2147483648 = s2 at e2 HV ⊢
      have e3 : (s2 : Int) / 65536 % 256 = ((s2 / 65536 % 256 : Nat) : Int) := by omega
      rw [e3]
      have kA : Btw b (b + 1) (w1.drewN nq) ((w1.drewN nq).setCell ⟨b, 2, none⟩ (.int .i64 (s2 : Int))) := (Btw.refl b (b + 1) _).setCell (p := ⟨b, 2, none⟩) (by show b ≤ b; omega) (by show b < b + 1; omega) _
      have kB := ((Btw.refl b (b + 1) w1).drewN nq).trans kA
      refine bodyPost_ret (v := .int .i64 ((s2 / 65536 % 256 : Nat) : Int)) (by simp [results, Try.results92, go_sem]) rfl ?_
      rw [HV.out]
      exact ⟨rfl, Lib.hid ⟨src_seed (HX.out.drewN nq) s2, e2, HL.out, HZ.out.btw kB (Nat.le_refl _)⟩, HB.out.trans kB⟩

set_option maxRecDepth 100000 in
theorem srcByte (b : Nat) (A : Option Addr) (n c : Nat) (zs : List Nat) (K : Nat) (w : World) (hK : K ≤ 1000000000) (h : Src w b A n c zs K) :
    Calls Try.prog 92 #[.pointer (some ⟨b, 0, none⟩)] w fun e w' => ∃ v : Nat, e = .returned (.int .i64 v) ∧ v < 256 ∧ Hid (Src w' b A n c zs (K + 1)) ∧ Btw b (b + 1) w w' := by
  obtain ⟨k, sd, hk, hx⟩ := h.exact
  refine (srcByteX b A n c zs k sd w (by omega) hx).mono ?_
  rintro e w' ⟨rfl, h2, h3⟩
  exact ⟨_, rfl, hx.byteV_lt, Lib.hid (h2.out.src (by rw [byteV_at]; omega)), h3⟩
end Go.Proofs.Ytagdclbpgkilgaa

/- The model's source of draws: next, chance, the source itself. -/
namespace Go.Proofs.Ytagdclbpgkilgaa
open Go.RowKit

set_option maxRecDepth 100000 in
set_option maxHeartbeats 4000000 in
theorem srcNextX (N : Nat) (b : Nat) (A : Option Addr) (n c : Nat) (zs : List Nat) (k sd : Nat) (w : World) (hN : 2 ≤ N) (hN2 : N ≤ 256) (hK : k ≤ 1000000000) (h : SrcX w b A n c zs k sd) :
    Calls Try.prog 68 #[.pointer (some ⟨b, 0, none⟩), .int .i64 (N : Nat)] w fun e w' => e = .returned (.int .i64 ((byteV zs k sd).1 % N : Nat)) ∧ Hid (SrcX w' b A n c zs (byteV zs k sd).2.1 (byteV zs k sd).2.2) ∧ Btw b (b + 1) w w' := by
  have HC := Lib.hid (srcByteX b A n c zs k sd w hK h)
  have h1 : ¬ (N : Int) ≤ 1 := by omega
  have h2 : (N : Int) ≤ 256 := by omega
  have h3 : ¬ (N : Int) = 0 := by omega
  clear h
  go_enter Try.func68, Try.ntmps68
  go_wp2_with fail
  refine HC.out.mono ?_
  rintro e w1 ⟨rfl, S1, hb1⟩
  obtain ⟨v, hv⟩ : ∃ v, v = (byteV zs k sd).1 := ⟨_, rfl⟩
  rw [← hv]
  have HV := Lib.hid hv
  clear hv
  have v0 : (0 : Int) ≤ (v : Int) := by omega
  go_wp2
  have e1 : (v : Int) % (N : Int) = ((v % N : Nat) : Int) := by omega
  rw [e1]
  refine bodyPost_ret (v := .int .i64 ((v % N : Nat) : Int)) (by simp [results, Try.results68, go_sem]) rfl ?_
  exact ⟨by rw [HV.out], S1, hb1⟩

set_option maxRecDepth 100000 in
theorem srcNext (N : Nat) (b : Nat) (A : Option Addr) (n c : Nat) (zs : List Nat) (K : Nat) (w : World) (hN : 2 ≤ N) (hN2 : N ≤ 256) (hK : K ≤ 1000000000) (h : Src w b A n c zs K) :
    Calls Try.prog 68 #[.pointer (some ⟨b, 0, none⟩), .int .i64 (N : Nat)] w fun e w' => ∃ v : Nat, e = .returned (.int .i64 v) ∧ v < N ∧ Hid (Src w' b A n c zs (K + 1)) ∧ Btw b (b + 1) w w' := by
  obtain ⟨k, sd, hk, hx⟩ := h.exact
  refine (srcNextX N b A n c zs k sd w hN hN2 (by omega) hx).mono ?_
  rintro e w' ⟨rfl, h2, h3⟩
  exact ⟨_, rfl, Nat.mod_lt _ (by omega), Lib.hid (h2.out.src (by rw [byteV_at]; omega)), h3⟩

set_option maxRecDepth 100000 in
set_option maxHeartbeats 4000000 in
theorem srcChance (N : Nat) (b : Nat) (A : Option Addr) (n c : Nat) (zs : List Nat) (K : Nat) (w : World) (hN : 2 ≤ N) (hN2 : N ≤ 256) (hK : K ≤ 1000000000) (h : Src w b A n c zs K) :
    Calls Try.prog 86 #[.pointer (some ⟨b, 0, none⟩), .int .i64 (N : Nat)] w fun e w' => ∃ v : Bool, e = .returned (.bool v) ∧ Hid (Src w' b A n c zs (K + 1)) ∧ Btw b (b + 1) w w' := by
  have HC := Lib.hid (srcNext N b A n c zs K w hN hN2 hK h)
  clear h
  go_enter Try.func86, Try.ntmps86
  go_wp2_with fail
  refine HC.out.mono ?_
  rintro e w1 ⟨v, rfl, hv, S1, hb1⟩
  go_wp2
  refine bodyPost_ret (v := .bool ((v : Int) == (N : Int) - 1)) (by simp [results, Try.results86, go_sem]) rfl ?_
  exact ⟨_, rfl, S1, hb1⟩

set_option maxRecDepth 100000 in
set_option maxHeartbeats 4000000 in
theorem srcNewX (A : Option Addr) (n c : Nat) (zs : List Nat) (w : World) (hn : n ≤ maxLen) (hl : zs.length = n) (h : ByB w w.heap.size A zs) :
    Calls Try.prog 38 #[.slice A n c] w fun e w' => e = .returned (.pointer (some ⟨w.heap.size, 0, none⟩)) ∧ Hid (SrcX w' w.heap.size A n c zs 0 (n % 1000)) ∧ Below w.heap.size w w' := by
  unfold maxLen at hn
  go_enter Try.func38, Try.ntmps38
  go_wp2
  have e1 : (n : Int) % 1000 = ((n % 1000 : Nat) : Int) := by omega
  rw [e1]
  refine bodyPost_ret (v := .pointer (some ⟨w.heap.size, 0, none⟩)) (by simp [results, Try.results38, go_sem]) rfl ?_
  have hb := alloc_below w (.cells #[.slice A n c, .int .i64 0, .int .i64 ((n % 1000 : Nat) : Int)] 97)
  exact ⟨rfl, Lib.hid ⟨Box.new _ _ _, Nat.lt_of_lt_of_le (Nat.mod_lt _ (by omega)) (by omega), hl, h.btw (Btw.of_below hb w.heap.size (w.heap.size + 1)) (Nat.le_refl _)⟩, hb⟩

set_option maxRecDepth 100000 in
theorem srcNew (A : Option Addr) (n c : Nat) (zs : List Nat) (w : World) (hn : n ≤ maxLen) (hl : zs.length = n) (h : ByB w w.heap.size A zs) :
    Calls Try.prog 38 #[.slice A n c] w fun e w' => e = .returned (.pointer (some ⟨w.heap.size, 0, none⟩)) ∧ Hid (Src w' w.heap.size A n c zs 0) ∧ Below w.heap.size w w' := by
  refine (srcNewX A n c zs w hn hl h).mono ?_
  rintro e w' ⟨rfl, h2, h3⟩
  exact ⟨rfl, Lib.hid (h2.out.src (Nat.le_refl _)), h3⟩
end Go.Proofs.Ytagdclbpgkilgaa

/- The source of draws, carried over what does not touch it. -/
namespace Go.Proofs.Ytagdclbpgkilgaa
open Go.RowKit

theorem Src.below {w w' : World} {b B : Nat} {A : Option Addr} {n c : Nat} {zs : List Nat} {K : Nat} (h : Src w b A n c zs K) (hb : Below B w w') (ho : b < B) : Src w' b A n c zs K := by
  obtain ⟨k, sd, q1, q2, q3, q4, q5⟩ := h
  refine ⟨k, sd, q1.below hb ho, q2, q3, q4, fun i hi => ?_⟩
  obtain ⟨bb, off, e, p1, p2, p3⟩ := q5 i hi
  exact ⟨bb, off, e, p1, (hb.cell (by show bb < B; omega)).trans p2, p3⟩
theorem Src.drew {w : World} {b : Nat} {A : Option Addr} {n c : Nat} {zs : List Nat} {K : Nat} (h : Src w b A n c zs K) : Src w.drew b A n c zs K := h.below (Below.refl _ _).drew h.lt
theorem Src.alloc {w : World} {b : Nat} {A : Option Addr} {n c : Nat} {zs : List Nat} {K : Nat} (h : Src w b A n c zs K) (o : Obj) : Src (w.alloc o) b A n c zs K := h.below (alloc_below w o) h.lt
theorem ByB.step {w w' : World} {A : Option Addr} {zs : List Nat} (h : ByB w w.heap.size A zs) (hb : Below w.heap.size w w') : ByB w' w'.heap.size A zs := fun i hi => by
  obtain ⟨b, off, e, q1, q2, q3⟩ := h i hi
  exact ⟨b, off, e, Nat.lt_of_lt_of_le q1 hb.size, (hb.cell q1).trans q2, q3⟩
end Go.Proofs.Ytagdclbpgkilgaa

/- What the model draws of a flash: size, a bus cycle. -/
namespace Go.Proofs.Ytagdclbpgkilgaa
open Go.RowKit


set_option maxRecDepth 100000 in
set_option maxHeartbeats 4000000 in
theorem srcSize (b : Nat) (A : Option Addr) (n c : Nat) (zs : List Nat) (K : Nat) (w : World) (hn : n ≤ maxLen) (h : Src w b A n c zs K) :
    Calls Try.prog 91 #[.pointer (some ⟨b, 0, none⟩), .int .i64 30] w fun e w' => ∃ v : Nat, e = .returned (.int .i64 v) ∧ (1 ≤ v ∧ v ≤ 30) ∧ w = w' := by
  unfold maxLen at hn
  obtain ⟨k, sd, X, q2, q3, q4, q5⟩ := h
  have x0 := X.cell 0 rfl
  clear X q5
  go_enter Try.func91, Try.ntmps91
  go_wp2
  · refine bodyPost_ret (v := .int .i64 ((30 : Nat) : Int)) (by simp [results, Try.results91, go_sem]) rfl ?_
    exact ⟨30, rfl, by omega, rfl⟩
  · refine bodyPost_ret (v := .int .i64 ((1 + n / 12 : Nat) : Int)) (by simp [results, Try.results91, go_sem]) rfl ?_
    exact ⟨_, rfl, by omega, rfl⟩

def tab6 (i : Nat) : Nat := [160, 160, 128, 144, 154, 240].getD i 0
def tab3 (i : Nat) : Nat := [48, 48, 16].getD i 0
def tab2 (i : Nat) : Nat := [240, 0].getD i 0
theorem tab6_lt (i : Nat) : tab6 i < 256 := by
  match i with
  | 0 | 1 | 2 | 3 | 4 | 5 => decide
  | i + 6 => show 0 < 256; omega
theorem tab3_lt (i : Nat) : tab3 i < 256 := by
  match i with
  | 0 | 1 | 2 => decide
  | i + 3 => show 0 < 256; omega
theorem tab2_lt (i : Nat) : tab2 i < 256 := by
  match i with
  | 0 | 1 => decide
  | i + 2 => show 0 < 256; omega
theorem cell6 {w : World} {b : Nat} (h : Box w b 3 #[.int .i64 160, .int .i64 160, .int .i64 128, .int .i64 144, .int .i64 154, .int .i64 240]) (i : Nat) (hi : i < 6) : w.cell? ⟨b, i, none⟩ = some (.int .i64 (tab6 i : Nat)) := by
  match i, hi with
  | 0, _ => exact h.cell 0 rfl
  | 1, _ => exact h.cell 1 rfl
  | 2, _ => exact h.cell 2 rfl
  | 3, _ => exact h.cell 3 rfl
  | 4, _ => exact h.cell 4 rfl
  | 5, _ => exact h.cell 5 rfl
theorem cell3 {w : World} {b : Nat} (h : Box w b 3 #[.int .i64 48, .int .i64 48, .int .i64 16]) (i : Nat) (hi : i < 3) : w.cell? ⟨b, i, none⟩ = some (.int .i64 (tab3 i : Nat)) := by
  match i, hi with
  | 0, _ => exact h.cell 0 rfl
  | 1, _ => exact h.cell 1 rfl
  | 2, _ => exact h.cell 2 rfl
theorem cell2 {w : World} {b : Nat} (h : Box w b 3 #[.int .i64 240, .int .i64 0]) (i : Nat) (hi : i < 2) : w.cell? ⟨b, i, none⟩ = some (.int .i64 (tab2 i : Nat)) := by
  match i, hi with
  | 0, _ => exact h.cell 0 rfl
  | 1, _ => exact h.cell 1 rfl

/-- A drawn cycle. -/
def GivesCycle (w : World) (b : Nat) (A : Option Addr) (n c : Nat) (zs : List Nat) (K : Nat) (e : Ending) (w' : World) : Prop :=
  ∃ k v : Nat, e = .returned (.tuple #[.int .i64 k, .int .i64 v]) ∧ (k < 256 ∧ v < 256) ∧ Hid (Src w' b A n c zs (K + 3)) ∧ Btw b (b + 1) w w'

/-- A valid flash that lies in memory of its own from lo on. -/
structure FK (lo R D : Nat) (A : Option Addr) (c : Nat) (C : Option Addr) (d : Nat) (st : Int) (zs : List Int) (gs : List Bool) (w : World) : Prop where
  x : Box w D 26 #[.slice A 256 c, .slice C 16 d, .int .i64 st]
  y : Box w R 26 #[.slice none 0 0, .slice none 0 0, .int .i64 0]
  s : OwnI w lo w.heap.size A zs
  r : OwnB w lo w.heap.size C gs
theorem FK.btw {lo b R D : Nat} {A : Option Addr} {c : Nat} {C : Option Addr} {d : Nat} {st : Int} {zs : List Int} {gs : List Bool} {w w' : World} (h : FK lo R D A c C d st zs gs w) (hb : Btw b (b + 1) w w') (h1 : b < lo) (h2 : lo ≤ R) (h3 : lo ≤ D) : FK lo R D A c C d st zs gs w' :=
  ⟨h.x.btw hb (.inr (by omega)), h.y.btw hb (.inr (by omega)), (h.s.btw hb (.inr (by omega))).wideB (Nat.le_refl _) hb.size, (h.r.btw hb (.inr (by omega))).wide (Nat.le_refl _) hb.size⟩
theorem FK.step {lo R D : Nat} {A : Option Addr} {c : Nat} {C : Option Addr} {d : Nat} {st : Int} {zs : List Int} {gs : List Bool} {w w' : World} (h : FK lo R D A c C d st zs gs w) (hb : Below w.heap.size w w') : FK lo R D A c C d st zs gs w' :=
  ⟨h.x.step hb, h.y.step hb, (h.s.btw (Btw.of_below hb 0 0) (.inr (Nat.zero_le _))).wideB (Nat.le_refl _) hb.size, (h.r.btw (Btw.of_below hb 0 0) (.inr (Nat.zero_le _))).wide (Nat.le_refl _) hb.size⟩
theorem FK.store {lo R D : Nat} {A : Option Addr} {c : Nat} {C : Option Addr} {d : Nat} {st : Int} {zs : List Int} {gs : List Bool} {w : World} (h : FK lo R D A c C d st zs gs w) (hne : R ≠ D) {A2 : Option Addr} {c2 : Nat} {C2 : Option Addr} {d2 : Nat} {st2 : Int} {zs2 : List Int} {gs2 : List Bool} (S2 : OwnI w lo w.heap.size A2 zs2) (R2 : OwnB w lo w.heap.size C2 gs2) :
    FK lo R D A2 c2 C2 d2 st2 zs2 gs2 (((w.setCell ⟨D, 0, none⟩ (.slice A2 256 c2)).setCell ⟨D, 1, none⟩ (.slice C2 16 d2)).setCell ⟨D, 2, none⟩ (.int .i64 st2)) :=
  ⟨h.x.flash3 rfl _ _ _, h.y.far3 hne _ _ _, by rw [size3]; exact S2.far3 h.x _ _ _, by rw [size3]; exact R2.far3 h.x _ _ _⟩
theorem btw_below {lo hi B : Nat} {w w1 w2 : World} (h : Btw lo hi w w1) (hb : Below B w1 w2) (hB : w.heap.size ≤ B) : Btw lo hi w w2 :=
  ⟨hb.os.trans h.os, hb.tape.trans h.tape, hb.output.trans h.output, Nat.le_trans h.size hb.size, fun k hk ho => (hb.block k (Nat.lt_of_lt_of_le hk hB)).trans (h.block k hk ho)⟩
theorem ok_newFlash : okFlash newZ zG 0 = true := by decide +kernel
theorem ok_cycle {zs : List Int} {gs : List Bool} {st : Int} (h : okFlash zs gs st = true) (k v : Nat) (hv : v < 256) : okFlash (cycZ zs gs st k v) (cycG gs st k) (nextS st k v) = true := by
  obtain ⟨h1, h2, h3, h4⟩ := okFlash_len h
  exact okFlash_mk (by rw [cycZ_len]; exact h1) (by rw [cycG_len]; exact h2) (nextS_in _ _ _) (cycZ_range h4 hv)

/-- A drawn flash: valid, of its own. -/
def GivesFlashX (w : World) (R : World → Prop) (e : Ending) (w' : World) : Prop :=
  ∃ zs gs st A c C d, Hid (okFlash zs gs st = true) ∧ e = .returned (.agg #[.slice A 256 c, .slice C 16 d, .int .i64 st]) ∧ Hid (OwnI w' w.heap.size w'.heap.size A zs) ∧ Hid (OwnB w' w.heap.size w'.heap.size C gs) ∧ Hid (256 ≤ c) ∧ Hid (R w')
/-- What the loop keeps. -/
def FlashInv (w : World) (b R D : Nat) (A : Option Addr) (n c : Nat) (zs : List Nat) (K i : Nat) (wr : World) : Prop :=
  ∃ A' c' C' d' st zs' gs', Hid (FK w.heap.size R D A' c' C' d' st zs' gs' wr) ∧ Hid (okFlash zs' gs' st = true) ∧ Hid (Src wr b A n c zs (K + 1 + 3 * (40 - i))) ∧ Btw b (b + 1) w wr

end Go.Proofs.Ytagdclbpgkilgaa
