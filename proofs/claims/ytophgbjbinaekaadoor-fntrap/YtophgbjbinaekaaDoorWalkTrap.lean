/- The law FnTrap, walked. Written by gen_walktrap.py. -/
import Derived.Test.YtophgbjbinaekaaDoorM12
import Derived.Test.YtophgbjbinaekaaDoorM7
import Derived.Test.YtophgbjbinaekaaDoorM8
namespace Go.Proofs.YtophgbjbinaekaaDoor
open Go.RowKit

set_option maxHeartbeats 8000000 in
set_option maxRecDepth 100000 in
theorem arr93t (T : Array Value) (h : T.size = 93) : ∃ t0 t1 t2 t3 t4 t5 t6 t7 t8 t9 t10 t11 t12 t13 t14 t15 t16 t17 t18 t19 t20 t21 t22 t23 t24 t25 t26 t27 t28 t29 t30 t31 t32 t33 t34 t35 t36 t37 t38 t39 t40 t41 t42 t43 t44 t45 t46 t47 t48 t49 t50 t51 t52 t53 t54 t55 t56 t57 t58 t59 t60 t61 t62 t63 t64 t65 t66 t67 t68 t69 t70 t71 t72 t73 t74 t75 t76 t77 t78 t79 t80 t81 t82 t83 t84 t85 t86 t87 t88 t89 t90 t91 t92 : Value, T = #[t0, t1, t2, t3, t4, t5, t6, t7, t8, t9, t10, t11, t12, t13, t14, t15, t16, t17, t18, t19, t20, t21, t22, t23, t24, t25, t26, t27, t28, t29, t30, t31, t32, t33, t34, t35, t36, t37, t38, t39, t40, t41, t42, t43, t44, t45, t46, t47, t48, t49, t50, t51, t52, t53, t54, t55, t56, t57, t58, t59, t60, t61, t62, t63, t64, t65, t66, t67, t68, t69, t70, t71, t72, t73, t74, t75, t76, t77, t78, t79, t80, t81, t82, t83, t84, t85, t86, t87, t88, t89, t90, t91, t92] := by
  obtain ⟨l⟩ := T
  match l, h with
  | t0 :: t1 :: t2 :: t3 :: t4 :: t5 :: t6 :: t7 :: t8 :: t9 :: t10 :: t11 :: t12 :: t13 :: t14 :: t15 :: t16 :: t17 :: t18 :: t19 :: t20 :: t21 :: t22 :: t23 :: t24 :: t25 :: t26 :: t27 :: t28 :: t29 :: t30 :: t31 :: t32 :: t33 :: t34 :: t35 :: t36 :: t37 :: t38 :: t39 :: t40 :: t41 :: t42 :: t43 :: t44 :: t45 :: t46 :: t47 :: t48 :: t49 :: t50 :: t51 :: t52 :: t53 :: t54 :: t55 :: t56 :: t57 :: t58 :: t59 :: t60 :: t61 :: t62 :: t63 :: t64 :: t65 :: t66 :: t67 :: t68 :: t69 :: t70 :: t71 :: t72 :: t73 :: t74 :: t75 :: t76 :: t77 :: t78 :: t79 :: t80 :: t81 :: t82 :: t83 :: t84 :: t85 :: t86 :: t87 :: t88 :: t89 :: t90 :: t91 :: t92 :: [], _ => exact ⟨t0, t1, t2, t3, t4, t5, t6, t7, t8, t9, t10, t11, t12, t13, t14, t15, t16, t17, t18, t19, t20, t21, t22, t23, t24, t25, t26, t27, t28, t29, t30, t31, t32, t33, t34, t35, t36, t37, t38, t39, t40, t41, t42, t43, t44, t45, t46, t47, t48, t49, t50, t51, t52, t53, t54, t55, t56, t57, t58, t59, t60, t61, t62, t63, t64, t65, t66, t67, t68, t69, t70, t71, t72, t73, t74, t75, t76, t77, t78, t79, t80, t81, t82, t83, t84, t85, t86, t87, t88, t89, t90, t91, t92, rfl⟩

def trF (s : Nat) (A0 A1 A2 A3 : Option Addr) (c0 c1 c2 c3 : Nat) (m : MD) : Nat → (Nat → Value) → World → Prop
  | 0, t, W => ∃ A c, t 35 = .agg #[.int .i64 newCD.pc, .int .i64 newCD.sp, .int .i64 newCD.bank, .int .i64 newCD.level, .bool newCD.zero, .bool newCD.carry, .bool newCD.on, .bool newCD.halt, .slice A 16 c] ∧ RepC W A newCD
  | 1, t, _ => t 36 = .agg #[.slice A0 256 c0, .slice A1 32 c1, .slice A2 256 c2, .slice A3 16 c3, .int .i64 m.s]
  | 2, t, W => ∃ B B0 B1 B2 B3 x x0 x1 x2 x3, t 37 = .tuple #[.agg #[.int .i64 (stepD newCD m).pc, .int .i64 (stepD newCD m).sp, .int .i64 (stepD newCD m).bank, .int .i64 (stepD newCD m).level, .bool (stepD newCD m).zero, .bool (stepD newCD m).carry, .bool (stepD newCD m).on, .bool (stepD newCD m).halt, .slice B 16 x], .agg #[.slice B0 256 x0, .slice B1 32 x1, .slice B2 256 x2, .slice B3 16 x3, .int .i64 (stepM newCD m).s], .int .i64 (stepN newCD m), .int .i64 (stepS newCD m), .int .i64 0] ∧ RepM W B0 B1 B2 B3 (stepM newCD m)
  | 3, t, _ => t 34 = t 37
  | 4, t, _ => t 38 = tupAt (t 37) 0
  | 5, t, _ => t 39 = tupAt (t 37) 1
  | 6, t, _ => t 40 = tupAt (t 37) 2
  | 7, t, _ => t 41 = tupAt (t 37) 3
  | 8, t, _ => t 42 = tupAt (t 37) 4
  | 9, t, W => ∃ g, t 8 = .pointer (some ⟨g, 0, none⟩) ∧ s ≤ g ∧ ∃ o : Array Value, o.size = 9 ∧ Box W g 25 o
  | 10, t, W => ∃ g, t 9 = .pointer (some ⟨g, 0, none⟩) ∧ s ≤ g ∧ ∃ o : Array Value, o.size = 5 ∧ Box W g 32 o
  | 11, t, W => ∃ g, t 8 = .pointer (some ⟨g, 0, none⟩) ∧ s ≤ g ∧ Box W g 25 (aggC (tupAt (t 37) 0))
  | 12, t, W => ∃ g, t 9 = .pointer (some ⟨g, 0, none⟩) ∧ s ≤ g ∧ Box W g 32 (aggC (tupAt (t 37) 1))
  | 13, t, _ => t 10 = tupAt (t 37) 2
  | 14, t, _ => t 11 = tupAt (t 37) 3
  | 15, t, _ => t 12 = tupAt (t 37) 4
  | _, _, _ => True
theorem trF_below {s : Nat} {A0 A1 A2 A3 : Option Addr} {c0 c1 c2 c3 : Nat} {m : MD} {W W' : World} (k : Below W.heap.size W W') : ∀ (j : Nat) (t : Nat → Value), trF s A0 A1 A2 A3 c0 c1 c2 c3 m j t W → trF s A0 A1 A2 A3 c0 c1 c2 c3 m j t W'
  | 1, _, h | 3, _, h | 4, _, h | 5, _, h | 6, _, h | 7, _, h | 8, _, h | 13, _, h | 14, _, h | 15, _, h => h
  | 0, _, ⟨A, c, e, h⟩ => ⟨A, c, e, h.below k⟩
  | 2, _, ⟨B, B0, B1, B2, B3, x, x0, x1, x2, x3, h, r⟩ => ⟨B, B0, B1, B2, B3, x, x0, x1, x2, x3, h, r.below k⟩
  | 9, _, ⟨g, e, q, o, ho, X⟩ => ⟨g, e, q, o, ho, X.step k⟩
  | 10, _, ⟨g, e, q, o, ho, X⟩ => ⟨g, e, q, o, ho, X.step k⟩
  | 11, _, ⟨g, e, q, X⟩ => ⟨g, e, q, X.step k⟩
  | 12, _, ⟨g, e, q, X⟩ => ⟨g, e, q, X.step k⟩
  | _ + 16, _, _ => trivial
theorem trF_storeC {s : Nat} {A0 A1 A2 A3 : Option Addr} {c0 c1 c2 c3 : Nat} {m : MD} {W : World} {b' : Nat} {old : Array Value} (Y : Box W b' 25 old) (ho' : old.size < 16) (cs : Array Value) (hcs : cs.size = 9) : ∀ (j : Nat) (t : Nat → Value), j ≠ 11 → trF s A0 A1 A2 A3 c0 c1 c2 c3 m j t W → trF s A0 A1 A2 A3 c0 c1 c2 c3 m j t (W.setRow b' cs)
  | 1, _, _, h | 3, _, _, h | 4, _, _, h | 5, _, _, h | 6, _, _, h | 7, _, _, h | 8, _, _, h | 13, _, _, h | 14, _, _, h | 15, _, _, h => h
  | 0, _, _, ⟨A, c, e, h⟩ => ⟨A, c, e, h.off Y ho' (btw_row1 W b' cs)⟩
  | 2, _, _, ⟨B, B0, B1, B2, B3, x, x0, x1, x2, x3, h, r⟩ => ⟨B, B0, B1, B2, B3, x, x0, x1, x2, x3, h, r.off Y ho' (btw_row1 W b' cs)⟩
  | 9, _, _, ⟨g, e, q, h⟩ => ⟨g, e, q, Box.some_row h cs (fun _ => hcs)⟩
  | 10, _, _, ⟨g, e, q, o, ho, X⟩ => ⟨g, e, q, o, ho, X.farRow (X.box_ne Y (by decide)) _⟩
  | 11, _, n, _ => (n rfl).elim
  | 12, _, _, ⟨g, e, q, X⟩ => ⟨g, e, q, X.farRow (X.box_ne Y (by decide)) _⟩
  | _ + 16, _, _, _ => trivial
theorem trF_storeM {s : Nat} {A0 A1 A2 A3 : Option Addr} {c0 c1 c2 c3 : Nat} {m : MD} {W : World} {b' : Nat} {old : Array Value} (Y : Box W b' 32 old) (ho' : old.size < 16) (cs : Array Value) (hcs : cs.size = 5) : ∀ (j : Nat) (t : Nat → Value), j ≠ 12 → trF s A0 A1 A2 A3 c0 c1 c2 c3 m j t W → trF s A0 A1 A2 A3 c0 c1 c2 c3 m j t (W.setRow b' cs)
  | 1, _, _, h | 3, _, _, h | 4, _, _, h | 5, _, _, h | 6, _, _, h | 7, _, _, h | 8, _, _, h | 13, _, _, h | 14, _, _, h | 15, _, _, h => h
  | 0, _, _, ⟨A, c, e, h⟩ => ⟨A, c, e, h.off Y ho' (btw_row1 W b' cs)⟩
  | 2, _, _, ⟨B, B0, B1, B2, B3, x, x0, x1, x2, x3, h, r⟩ => ⟨B, B0, B1, B2, B3, x, x0, x1, x2, x3, h, r.off Y ho' (btw_row1 W b' cs)⟩
  | 9, _, _, ⟨g, e, q, o, ho, X⟩ => ⟨g, e, q, o, ho, X.farRow (X.box_ne Y (by decide)) _⟩
  | 10, _, _, ⟨g, e, q, h⟩ => ⟨g, e, q, Box.some_row h cs (fun _ => hcs)⟩
  | 11, _, _, ⟨g, e, q, X⟩ => ⟨g, e, q, X.farRow (X.box_ne Y (by decide)) _⟩
  | 12, _, n, _ => (n rfl).elim
  | _ + 16, _, _, _ => trivial
set_option maxRecDepth 100000 in
theorem busGetS {w : World} {A0 A1 A2 A3 : Option Addr} {m : MD} (c0 c1 c2 c3 : Nat) (a : Int) (ha : 0 ≤ a ∧ a ≤ 4095) (h : RepM w A0 A1 A2 A3 m) : Calls Tryd.prog 11 #[.agg #[.slice A0 256 c0, .slice A1 32 c1, .slice A2 256 c2, .slice A3 16 c3, .int .i64 m.s], .int .i64 a] w fun e w' => e = .returned (.tuple #[.int .i64 (m.get a), .int .i64 0]) ∧ Below w.heap.size w w' := by
  have q : ∀ n : Nat, n ≤ 256 → n ≤ maxLen := fun n hn => by unfold maxLen; omega
  have := implBusGet A0 A1 A2 A3 256 32 256 16 c0 c1 c2 c3 m.r m.i m.z m.g m.s w a h.1.r h.1.i h.1.z h.1.g (q _ (by omega)) (q _ (by omega)) (q _ (by omega)) (q _ (by omega)) h.2.1 h.2.2.1 h.2.2.2.1 h.2.2.2.2
  rwa [show getF m.r m.i m.z m.g m.s a = (m.get a, 0) by unfold getF; rw [show okMem m.r m.i m.z m.g m.s = true from MD.ok_iff.2 h.1, adB_of ha]; rfl] at this
theorem trap_says {k : Nat} (hk : k < 80) : ∀ m, m = newMD [176 + (k : Int)] → (stepD newCD m).pc = 752 ∧ (stepD newCD m).sp = 253 ∧ stepN newCD m = 12 ∧ stepS newCD m = -1 ∧ (stepM newCD m).get 254 = 1 ∧ (stepM newCD m).get 255 = 2 := by
  rintro m rfl
  have := trap_end hk
  unfold trapEnd at this
  simp only [Bool.and_eq_true, decide_eq_true_eq] at this
  exact this

set_option maxRecDepth 100000 in
set_option maxHeartbeats 16000000 in
theorem walkTrap (A : Option Addr) (n c : Nat) (zs : List Nat) (A' : Option Addr) (n' c' : Nat) (zs' : List Nat) (w : World) (_hl : zs.length = n) (hn : n ≤ maxLen) (_h : ByB w w.heap.size A zs) (hl' : zs'.length = n') (hn' : n' ≤ maxLen) (h' : ByB w w.heap.size A' zs') (ht : OpsT w) :
    Calls Tryd.prog 4 #[.slice A n c, .slice A' n' c'] w fun e w' => e = .returned (.bool true) ∧ Below w.heap.size w w' := by
  unfold maxLen at hn hn'
  by_cases hle : 1048576 < n
  · have i1 : (1048576 : Int) < (n : Int) := by omega
    clear hle
    go_enter Tryd.func4, Tryd.ntmps4
    go_wp2
    go_ret
    exact ⟨rfl, Below.refl _ _⟩
  have i1 : ¬ (1048576 : Int) < (n : Int) := by omega
  by_cases hle' : 1048576 < n'
  · have i2 : (1048576 : Int) < (n' : Int) := by omega
    clear hle'
    go_enter Tryd.func4, Tryd.ntmps4
    go_wp2
    go_ret
    exact ⟨rfl, Below.refl _ _⟩
  have i2 : ¬ (1048576 : Int) < (n' : Int) := by omega
  have HA0 := Lib.hid (lawAtE 0 80 A' n' c' zs' w (by omega) (by omega) (by omega) (by omega) hl' h')
  have hK := atOf_lt zs' 0 80 (by omega)
  generalize atOf zs' 0 80 = K at HA0 hK
  have HK := Lib.hid hK
  have HTb := Lib.hid ht
  obtain ⟨kk, hkk⟩ : ∃ kk, kk = 176 + (K : Int) := ⟨_, rfl⟩
  have e1 : IntKind.i64.wrap (176 + (K : Int)) = kk := by rw [hkk]; exact IntWalk.i64_in _ (by omega)
  have HKK := Lib.hid hkk
  clear hl' hn hn' h' hle hle' hK ht hkk
  go_enter Tryd.func4, Tryd.ntmps4
  go_wp2_with fail
  refine HA0.out.mono ?_
  rintro e w3 ⟨rfl, hb3⟩
  obtain ⟨W4, hW4⟩ : ∃ W4, W4 = w3.alloc (.cells #[.int .i64 kk] 3) := ⟨_, rfl⟩
  have k4 : Below w3.heap.size w3 W4 := by rw [hW4]; exact alloc_below _ _
  have XR : Box W4 w3.heap.size 3 #[.int .i64 kk] := by rw [hW4]; exact Box.new _ _ _
  have HL : IntL W4 (some ⟨w3.heap.size, 0, none⟩) [kk] := fun i hi => by
    have : i = 0 := by simp at hi; omega
    subst this
    exact ⟨_, 0, rfl, XR.cell 0 rfl⟩
  have HNM := Lib.hid (newMemS [kk] (some ⟨w3.heap.size, 0, none⟩) 1 1 W4 rfl (by omega) (by have := HK.out; have := HKK.out; simp; omega) HL)
  have hb4 := bt hb3 k4
  clear XR HL hb3 k4 HA0
  go_wp2_with fail
  rw [← hW4]
  clear hW4 e1
  refine HNM.out.mono ?_
  rintro e w5 ⟨A0, A1, A2, A3, c0, c1, c2, c3, rfl, OM5, k5⟩
  have HM : Hid (newMD [kk] = newMD [176 + (K : Int)]) := Lib.hid (by rw [HKK.out])
  have hs0 : (newMD [kk]).s = 0 := rfl
  generalize newMD [kk] = m at OM5 HM hs0
  obtain ⟨W0, hW0⟩ : ∃ W0, W0 = w5.alloc (.cells #[.slice A0 256 c0, .slice A1 32 c1, .slice A2 256 c2, .slice A3 16 c3, .int .i64 0] 32) := ⟨_, rfl⟩
  have k6 : Below w5.heap.size w5 W0 := by rw [hW0]; exact alloc_below _ _
  have XM : Hid (Box W0 w5.heap.size 32 #[.slice A0 256 c0, .slice A1 32 c1, .slice A2 256 c2, .slice A3 16 c3, .int .i64 0]) := Lib.hid (by rw [hW0]; exact Box.new _ _ _)
  have RM := Lib.hid (OM5.out.rep.below k6)
  have hb0 := Lib.hid (bt hb4 (bt k5 k6))
  clear OM5 hb4 k5 k6 HNM
  go_wp2_with fail
  rw [← hW0]
  clear hW0
  obtain ⟨D6, hD6⟩ : ∃ D6, D6 = w5.heap.size := ⟨_, rfl⟩
  rw [← hD6] at XM ⊢
  rw [← hs0] at XM
  clear hD6
  obtain ⟨s, hs⟩ : ∃ s, s = W0.heap.size := ⟨_, rfl⟩
  refine wp_region_facts (by kernel_rfl) [[35], [36], [37], [34, 37], [38, 37], [39, 37], [40, 37], [41, 37], [42, 37], [8], [9], [8, 37], [9, 37], [10, 37], [11, 37], [12, 37]] [[], [], [0, 1], [0, 1, 2], [0, 1, 2, 3], [0, 1, 2, 3], [0, 1, 2, 3], [0, 1, 2, 3], [0, 1, 2, 3], [], [], [0, 1, 2, 3, 4, 9, 10], [0, 1, 2, 3, 4, 5, 9, 10, 11], [0, 1, 2, 3, 4, 5, 6, 9, 10, 11, 12], [0, 1, 2, 3, 4, 5, 6, 7, 9, 10, 11, 12, 13], [0, 1, 2, 3, 4, 5, 6, 7, 8, 9, 10, 11, 12, 13, 14]] [6, 7] (by kernel_rfl) (fun W => Below W0.heap.size W0 W) (trF W0.heap.size A0 A1 A2 A3 c0 c1 c2 c3 m) (Below.refl _ _).drew ?_ ?_
  · refine ⟨?_, ?_, ?_, ?_, ?_, ?_, ?_, ?_, ?_, ?_, ?_, ?_, ?_, ?_, ?_, ?_, trivial⟩
    · intro T W hT hs hC hF K hK
      refine wp_callfn Tryd.func5 (by kernel_rfl) (by kernel_rfl) [] rfl rfl (newCpuS W) ?_
      rintro e2 w' ⟨A, c, rfl, OC, hc⟩
      exact ⟨_, rfl, hK.out _ w' (hC.trans (hc.mono hC.size)) (fun j t _ h => trF_below hc j t h) ⟨A, c, (mask_put [35] 35 (by decide) _ _ _ (by rw [hT]; show 35 < 93; decide)), OC.out.rep⟩⟩
    · intro T W hT hs hC hF K hK
      refine wp_load_row 32 (.tmp 6) rfl D6 (hs 6 (by decide)) 32 #[.slice A0 256 c0, .slice A1 32 c1, .slice A2 256 c2, .slice A3 16 c3, .int .i64 m.s] (0, 0) _ (XM.out.below hC XM.out.lt) Tryd.underlying32 rfl (by kernel_rfl) ?_
      exact hK.out _ W hC (fun _ _ _ h => h) (mask_put [36] 36 (by decide) _ _ _ (by rw [hT]; show 36 < 93; decide))
    · intro T W hT hs hC hF K hK
      obtain ⟨A, c, e0, RC⟩ := hF 0 (by decide)
      have e0 : T.getD 35 undef = .agg #[.int .i64 newCD.pc, .int .i64 newCD.sp, .int .i64 newCD.bank, .int .i64 newCD.level, .bool newCD.zero, .bool newCD.carry, .bool newCD.on, .bool newCD.halt, .slice A 16 c] := e0
      have e1 : T.getD 36 undef = .agg #[.slice A0 256 c0, .slice A1 32 c1, .slice A2 256 c2, .slice A3 16 c3, .int .i64 m.s] := hF 1 (by decide)
      refine wp_callfn Tryd.func9 (by kernel_rfl) (by kernel_rfl) [.agg #[.int .i64 newCD.pc, .int .i64 newCD.sp, .int .i64 newCD.bank, .int .i64 newCD.level, .bool newCD.zero, .bool newCD.carry, .bool newCD.on, .bool newCD.halt, .slice A 16 c], .agg #[.slice A0 256 c0, .slice A1 32 c1, .slice A2 256 c2, .slice A3 16 c3, .int .i64 m.s]] rfl (by show [T.getD 35 undef, T.getD 36 undef] = _; rw [e0, e1]) (stepO c c0 c1 c2 c3 RC (RM.out.below hC) (HTb.out.below (bt hb0.out hC))) ?_
      rintro e' w' ⟨B, B0, B1, B2, B3, x, x0, x1, x2, x3, rfl, HR, hc⟩
      exact ⟨_, rfl, hK.out _ w' (hC.trans (hc.mono hC.size)) (fun j t _ h => trF_below hc j t h) ⟨B, B0, B1, B2, B3, x, x0, x1, x2, x3, (mask_put [37] 37 (by decide) _ _ _ (by rw [hT]; show 37 < 93; decide)), HR.out.2⟩⟩
    · intro T W hT hs hC hF K hK
      obtain ⟨B, B0, B1, B2, B3, x, x0, x1, x2, x3, e, r⟩ := hF 2 (by decide)
      have e : T.getD 37 undef = .tuple #[.agg #[.int .i64 (stepD newCD m).pc, .int .i64 (stepD newCD m).sp, .int .i64 (stepD newCD m).bank, .int .i64 (stepD newCD m).level, .bool (stepD newCD m).zero, .bool (stepD newCD m).carry, .bool (stepD newCD m).on, .bool (stepD newCD m).halt, .slice B 16 x], .agg #[.slice B0 256 x0, .slice B1 32 x1, .slice B2 256 x2, .slice B3 16 x3, .int .i64 (stepM newCD m).s], .int .i64 (stepN newCD m), .int .i64 (stepS newCD m), .int .i64 0] := e
      refine wp_pure (.tmp 37) (.inr rfl) _ e (hK.out _ W hC (fun _ _ _ h => h) ?_)
      exact (mask_put [34, 37] 34 (by decide) _ _ _ (by rw [hT]; show 34 < 93; decide)).trans ((mask_put_ne [34, 37] 34 37 (by decide) _ _ _ (by decide)).trans e).symm
    · intro T W hT hs hC hF K hK
      obtain ⟨B, B0, B1, B2, B3, x, x0, x1, x2, x3, e, r⟩ := hF 2 (by decide)
      have e : T.getD 37 undef = .tuple #[.agg #[.int .i64 (stepD newCD m).pc, .int .i64 (stepD newCD m).sp, .int .i64 (stepD newCD m).bank, .int .i64 (stepD newCD m).level, .bool (stepD newCD m).zero, .bool (stepD newCD m).carry, .bool (stepD newCD m).on, .bool (stepD newCD m).halt, .slice B 16 x], .agg #[.slice B0 256 x0, .slice B1 32 x1, .slice B2 256 x2, .slice B3 16 x3, .int .i64 (stepM newCD m).s], .int .i64 (stepN newCD m), .int .i64 (stepS newCD m), .int .i64 0] := e
      have em : T.getD 34 undef = T.getD 37 undef := hF 3 (by decide)
      refine wp_extract (.tmp 34) 0 rfl _ (em.trans e) _ rfl (hK.out _ W hC (fun _ _ _ h => h) ?_)
      exact (mask_put [38, 37] 38 (by decide) _ _ _ (by rw [hT]; show 38 < 93; decide)).trans (congrArg (fun x => tupAt x 0) ((mask_put_ne [38, 37] 38 37 (by decide) _ _ _ (by decide)).trans e)).symm
    · intro T W hT hs hC hF K hK
      obtain ⟨B, B0, B1, B2, B3, x, x0, x1, x2, x3, e, r⟩ := hF 2 (by decide)
      have e : T.getD 37 undef = .tuple #[.agg #[.int .i64 (stepD newCD m).pc, .int .i64 (stepD newCD m).sp, .int .i64 (stepD newCD m).bank, .int .i64 (stepD newCD m).level, .bool (stepD newCD m).zero, .bool (stepD newCD m).carry, .bool (stepD newCD m).on, .bool (stepD newCD m).halt, .slice B 16 x], .agg #[.slice B0 256 x0, .slice B1 32 x1, .slice B2 256 x2, .slice B3 16 x3, .int .i64 (stepM newCD m).s], .int .i64 (stepN newCD m), .int .i64 (stepS newCD m), .int .i64 0] := e
      have em : T.getD 34 undef = T.getD 37 undef := hF 3 (by decide)
      refine wp_extract (.tmp 34) 1 rfl _ (em.trans e) _ rfl (hK.out _ W hC (fun _ _ _ h => h) ?_)
      exact (mask_put [39, 37] 39 (by decide) _ _ _ (by rw [hT]; show 39 < 93; decide)).trans (congrArg (fun x => tupAt x 1) ((mask_put_ne [39, 37] 39 37 (by decide) _ _ _ (by decide)).trans e)).symm
    · intro T W hT hs hC hF K hK
      obtain ⟨B, B0, B1, B2, B3, x, x0, x1, x2, x3, e, r⟩ := hF 2 (by decide)
      have e : T.getD 37 undef = .tuple #[.agg #[.int .i64 (stepD newCD m).pc, .int .i64 (stepD newCD m).sp, .int .i64 (stepD newCD m).bank, .int .i64 (stepD newCD m).level, .bool (stepD newCD m).zero, .bool (stepD newCD m).carry, .bool (stepD newCD m).on, .bool (stepD newCD m).halt, .slice B 16 x], .agg #[.slice B0 256 x0, .slice B1 32 x1, .slice B2 256 x2, .slice B3 16 x3, .int .i64 (stepM newCD m).s], .int .i64 (stepN newCD m), .int .i64 (stepS newCD m), .int .i64 0] := e
      have em : T.getD 34 undef = T.getD 37 undef := hF 3 (by decide)
      refine wp_extract (.tmp 34) 2 rfl _ (em.trans e) _ rfl (hK.out _ W hC (fun _ _ _ h => h) ?_)
      exact (mask_put [40, 37] 40 (by decide) _ _ _ (by rw [hT]; show 40 < 93; decide)).trans (congrArg (fun x => tupAt x 2) ((mask_put_ne [40, 37] 40 37 (by decide) _ _ _ (by decide)).trans e)).symm
    · intro T W hT hs hC hF K hK
      obtain ⟨B, B0, B1, B2, B3, x, x0, x1, x2, x3, e, r⟩ := hF 2 (by decide)
      have e : T.getD 37 undef = .tuple #[.agg #[.int .i64 (stepD newCD m).pc, .int .i64 (stepD newCD m).sp, .int .i64 (stepD newCD m).bank, .int .i64 (stepD newCD m).level, .bool (stepD newCD m).zero, .bool (stepD newCD m).carry, .bool (stepD newCD m).on, .bool (stepD newCD m).halt, .slice B 16 x], .agg #[.slice B0 256 x0, .slice B1 32 x1, .slice B2 256 x2, .slice B3 16 x3, .int .i64 (stepM newCD m).s], .int .i64 (stepN newCD m), .int .i64 (stepS newCD m), .int .i64 0] := e
      have em : T.getD 34 undef = T.getD 37 undef := hF 3 (by decide)
      refine wp_extract (.tmp 34) 3 rfl _ (em.trans e) _ rfl (hK.out _ W hC (fun _ _ _ h => h) ?_)
      exact (mask_put [41, 37] 41 (by decide) _ _ _ (by rw [hT]; show 41 < 93; decide)).trans (congrArg (fun x => tupAt x 3) ((mask_put_ne [41, 37] 41 37 (by decide) _ _ _ (by decide)).trans e)).symm
    · intro T W hT hs hC hF K hK
      obtain ⟨B, B0, B1, B2, B3, x, x0, x1, x2, x3, e, r⟩ := hF 2 (by decide)
      have e : T.getD 37 undef = .tuple #[.agg #[.int .i64 (stepD newCD m).pc, .int .i64 (stepD newCD m).sp, .int .i64 (stepD newCD m).bank, .int .i64 (stepD newCD m).level, .bool (stepD newCD m).zero, .bool (stepD newCD m).carry, .bool (stepD newCD m).on, .bool (stepD newCD m).halt, .slice B 16 x], .agg #[.slice B0 256 x0, .slice B1 32 x1, .slice B2 256 x2, .slice B3 16 x3, .int .i64 (stepM newCD m).s], .int .i64 (stepN newCD m), .int .i64 (stepS newCD m), .int .i64 0] := e
      have em : T.getD 34 undef = T.getD 37 undef := hF 3 (by decide)
      refine wp_extract (.tmp 34) 4 rfl _ (em.trans e) _ rfl (hK.out _ W hC (fun _ _ _ h => h) ?_)
      exact (mask_put [42, 37] 42 (by decide) _ _ _ (by rw [hT]; show 42 < 93; decide)).trans (congrArg (fun x => tupAt x 4) ((mask_put_ne [42, 37] 42 37 (by decide) _ _ _ (by decide)).trans e)).symm
    · intro T W hT hs hC hF K hK
      clear hF hs
      have k0 := alloc_below W (.cells #[.int .i64 0, .int .i64 0, .int .i64 0, .int .i64 0, .bool false, .bool false, .bool false, .bool false, .slice none 0 0] 25)
      refine wp_allocZ 25 rfl #[.int .i64 0, .int .i64 0, .int .i64 0, .int .i64 0, .bool false, .bool false, .bool false, .bool false, .slice none 0 0] (by kernel_rfl) ?_
      exact hK.out _ _ (hC.trans (k0.mono hC.size)) (fun j t _ h => trF_below k0 j t h) ⟨W.heap.size, (mask_put [8] 8 (by decide) _ _ _ (by rw [hT]; show 8 < 93; decide)), hC.size, _, rfl, Box.new W 25 _⟩
    · intro T W hT hs hC hF K hK
      clear hF hs
      have k0 := alloc_below W (.cells #[.slice none 0 0, .slice none 0 0, .slice none 0 0, .slice none 0 0, .int .i64 0] 32)
      refine wp_allocZ 32 rfl #[.slice none 0 0, .slice none 0 0, .slice none 0 0, .slice none 0 0, .int .i64 0] (by kernel_rfl) ?_
      exact hK.out _ _ (hC.trans (k0.mono hC.size)) (fun j t _ h => trF_below k0 j t h) ⟨W.heap.size, (mask_put [9] 9 (by decide) _ _ _ (by rw [hT]; show 9 < 93; decide)), hC.size, _, rfl, Box.new W 32 _⟩
    · intro T W hT hs hC hF K hK
      obtain ⟨B, B0, B1, B2, B3, x, x0, x1, x2, x3, e, r⟩ := hF 2 (by decide)
      have e : T.getD 37 undef = .tuple #[.agg #[.int .i64 (stepD newCD m).pc, .int .i64 (stepD newCD m).sp, .int .i64 (stepD newCD m).bank, .int .i64 (stepD newCD m).level, .bool (stepD newCD m).zero, .bool (stepD newCD m).carry, .bool (stepD newCD m).on, .bool (stepD newCD m).halt, .slice B 16 x], .agg #[.slice B0 256 x0, .slice B1 32 x1, .slice B2 256 x2, .slice B3 16 x3, .int .i64 (stepM newCD m).s], .int .i64 (stepN newCD m), .int .i64 (stepS newCD m), .int .i64 0] := e
      obtain ⟨b, eb, hb, o, ho, X⟩ := hF 9 (by decide)
      have eb : T.getD 8 undef = .pointer (some ⟨b, 0, none⟩) := eb
      have ex : T.getD 38 undef = tupAt (T.getD 37 undef) 0 := hF 4 (by decide)
      rw [e] at ex
      have ex : T.getD 38 undef = .agg #[.int .i64 (stepD newCD m).pc, .int .i64 (stepD newCD m).sp, .int .i64 (stepD newCD m).bank, .int .i64 (stepD newCD m).level, .bool (stepD newCD m).zero, .bool (stepD newCD m).carry, .bool (stepD newCD m).on, .bool (stepD newCD m).halt, .slice B 16 x] := ex
      refine wp_store_row 25 (.tmp 8) (.tmp 38) rfl b #[.int .i64 (stepD newCD m).pc, .int .i64 (stepD newCD m).sp, .int .i64 (stepD newCD m).bank, .int .i64 (stepD newCD m).level, .bool (stepD newCD m).zero, .bool (stepD newCD m).carry, .bool (stepD newCD m).on, .bool (stepD newCD m).halt, .slice B 16 x] eb ex 25 o X (by kernel_rfl) (by rw [ho]; rfl) (by simp [Value.oneCell']) ?_
      refine hK.out _ _ (below_setRow hC hb _) (fun j t n h => trF_storeC X (by rw [ho]; decide) _ rfl j t n h) ⟨b, eb, hb, ?_⟩
      show Box _ b 25 (aggC (tupAt (T.getD 37 undef) 0))
      rw [e]
      exact X.setRow _
    · intro T W hT hs hC hF K hK
      obtain ⟨B, B0, B1, B2, B3, x, x0, x1, x2, x3, e, r⟩ := hF 2 (by decide)
      have e : T.getD 37 undef = .tuple #[.agg #[.int .i64 (stepD newCD m).pc, .int .i64 (stepD newCD m).sp, .int .i64 (stepD newCD m).bank, .int .i64 (stepD newCD m).level, .bool (stepD newCD m).zero, .bool (stepD newCD m).carry, .bool (stepD newCD m).on, .bool (stepD newCD m).halt, .slice B 16 x], .agg #[.slice B0 256 x0, .slice B1 32 x1, .slice B2 256 x2, .slice B3 16 x3, .int .i64 (stepM newCD m).s], .int .i64 (stepN newCD m), .int .i64 (stepS newCD m), .int .i64 0] := e
      obtain ⟨b, eb, hb, o, ho, X⟩ := hF 10 (by decide)
      have eb : T.getD 9 undef = .pointer (some ⟨b, 0, none⟩) := eb
      have ex : T.getD 39 undef = tupAt (T.getD 37 undef) 1 := hF 5 (by decide)
      rw [e] at ex
      have ex : T.getD 39 undef = .agg #[.slice B0 256 x0, .slice B1 32 x1, .slice B2 256 x2, .slice B3 16 x3, .int .i64 (stepM newCD m).s] := ex
      refine wp_store_row 32 (.tmp 9) (.tmp 39) rfl b #[.slice B0 256 x0, .slice B1 32 x1, .slice B2 256 x2, .slice B3 16 x3, .int .i64 (stepM newCD m).s] eb ex 32 o X (by kernel_rfl) (by rw [ho]; rfl) (by simp [Value.oneCell']) ?_
      refine hK.out _ _ (below_setRow hC hb _) (fun j t n h => trF_storeM X (by rw [ho]; decide) _ rfl j t n h) ⟨b, eb, hb, ?_⟩
      show Box _ b 32 (aggC (tupAt (T.getD 37 undef) 1))
      rw [e]
      exact X.setRow _
    · intro T W hT hs hC hF K hK
      have ec : T.getD 40 undef = tupAt (T.getD 37 undef) 2 := hF 6 (by decide)
      refine wp_pure (.tmp 40) (.inl rfl) _ ec (hK.out _ W hC (fun _ _ _ h => h) ?_)
      exact (mask_put [10, 37] 10 (by decide) _ _ _ (by rw [hT]; show 10 < 93; decide)).trans (congrArg (fun x => tupAt x 2) (mask_put_ne [10, 37] 10 37 (by decide) _ _ _ (by decide))).symm
    · intro T W hT hs hC hF K hK
      have ec : T.getD 41 undef = tupAt (T.getD 37 undef) 3 := hF 7 (by decide)
      refine wp_pure (.tmp 41) (.inl rfl) _ ec (hK.out _ W hC (fun _ _ _ h => h) ?_)
      exact (mask_put [11, 37] 11 (by decide) _ _ _ (by rw [hT]; show 11 < 93; decide)).trans (congrArg (fun x => tupAt x 3) (mask_put_ne [11, 37] 11 37 (by decide) _ _ _ (by decide))).symm
    · intro T W hT hs hC hF K hK
      have ec : T.getD 42 undef = tupAt (T.getD 37 undef) 4 := hF 8 (by decide)
      refine wp_pure (.tmp 42) (.inl rfl) _ ec (hK.out _ W hC (fun _ _ _ h => h) ?_)
      exact (mask_put [12, 37] 12 (by decide) _ _ _ (by rw [hT]; show 12 < 93; decide)).trans (congrArg (fun x => tupAt x 4) (mask_put_ne [12, 37] 12 37 (by decide) _ _ _ (by decide))).symm
  · intro T W hT hs hC hF
    obtain ⟨t0, t1, t2, t3, t4, t5, t6, t7, t8, t9, t10, t11, t12, t13, t14, t15, t16, t17, t18, t19, t20, t21, t22, t23, t24, t25, t26, t27, t28, t29, t30, t31, t32, t33, t34, t35, t36, t37, t38, t39, t40, t41, t42, t43, t44, t45, t46, t47, t48, t49, t50, t51, t52, t53, t54, t55, t56, t57, t58, t59, t60, t61, t62, t63, t64, t65, t66, t67, t68, t69, t70, t71, t72, t73, t74, t75, t76, t77, t78, t79, t80, t81, t82, t83, t84, t85, t86, t87, t88, t89, t90, t91, t92, rfl⟩ := arr93t T hT
    obtain rfl : t7 = .int .i64 0 := hs 7 (by decide)
    obtain ⟨B, B0, B1, B2, B3, x, x0, x1, x2, x3, e, R⟩ := hF 2 (by decide)
    obtain rfl : t37 = .tuple #[.agg #[.int .i64 (stepD newCD m).pc, .int .i64 (stepD newCD m).sp, .int .i64 (stepD newCD m).bank, .int .i64 (stepD newCD m).level, .bool (stepD newCD m).zero, .bool (stepD newCD m).carry, .bool (stepD newCD m).on, .bool (stepD newCD m).halt, .slice B 16 x], .agg #[.slice B0 256 x0, .slice B1 32 x1, .slice B2 256 x2, .slice B3 16 x3, .int .i64 (stepM newCD m).s], .int .i64 (stepN newCD m), .int .i64 (stepS newCD m), .int .i64 0] := e
    obtain ⟨g8, e8, -, X8⟩ := hF 11 (by decide)
    obtain rfl : t8 = .pointer (some ⟨g8, 0, none⟩) := e8
    have Y8 : Box W g8 25 #[.int .i64 (stepD newCD m).pc, .int .i64 (stepD newCD m).sp, .int .i64 (stepD newCD m).bank, .int .i64 (stepD newCD m).level, .bool (stepD newCD m).zero, .bool (stepD newCD m).carry, .bool (stepD newCD m).on, .bool (stepD newCD m).halt, .slice B 16 x] := X8
    obtain ⟨g9, e9, -, X9⟩ := hF 12 (by decide)
    obtain rfl : t9 = .pointer (some ⟨g9, 0, none⟩) := e9
    have Y9 : Box W g9 32 #[.slice B0 256 x0, .slice B1 32 x1, .slice B2 256 x2, .slice B3 16 x3, .int .i64 (stepM newCD m).s] := X9
    obtain rfl : t10 = .int .i64 (stepN newCD m) := hF 13 (by decide)
    obtain rfl : t11 = .int .i64 (stepS newCD m) := hF 14 (by decide)
    obtain rfl : t12 = .int .i64 0 := hF 15 (by decide)
    obtain ⟨p1, p2, p3, p4, p5, p6⟩ := trap_says HK.out m HM.out
    have HG1 := Lib.hid (fun W (h : RepM W B0 B1 B2 B3 (stepM newCD m)) => busGetS x0 x1 x2 x3 254 (by omega) h)
    have HG2 := Lib.hid (fun W (h : RepM W B0 B1 B2 B3 (stepM newCD m)) => busGetS x0 x1 x2 x3 255 (by omega) h)
    rw [p5] at HG1
    rw [p6] at HG2
    rw [p3, p4]
    have hbW := bt hb0.out hC
    have HR := Lib.hid R
    have HX8 := Lib.hid Y8
    have HX9 := Lib.hid Y9
    have HP := Lib.hid (And.intro p1 p2)
    generalize stepD newCD m = d1 at HX8 HP ⊢
    generalize stepM newCD m = m1 at HX9 HR HG1 HG2 ⊢
    have y1 : (d1.pc == 752) = true := by simp [HP.out.1]
    have y2 : (d1.sp == 253) = true := by simp [HP.out.2]
    clear hF hs hT hC R X8 X9 Y8 Y9 p1 p2 p3 p4 p5 p6 HP HM
    have f0 := HX9.out.cell 0 rfl; have f1 := HX9.out.cell 1 rfl; have f2 := HX9.out.cell 2 rfl; have f3 := HX9.out.cell 3 rfl; have f4 := HX9.out.cell 4 rfl
    go_wp2_with fail
    refine (HG1.out _ HR.out).mono ?_
    rintro ee w6 ⟨rfl, k6⟩
    have HR6 := Lib.hid (HR.out.below k6)
    have HX6 := Lib.hid (HX9.out.step k6)
    have HC6 := Lib.hid (HX8.out.step k6)
    have hb6 := bt hbW k6
    clear HX9 HR HX8 hbW k6 HG1 f0 f1 f2 f3 f4
    have f0 := HX6.out.cell 0 rfl; have f1 := HX6.out.cell 1 rfl; have f2 := HX6.out.cell 2 rfl; have f3 := HX6.out.cell 3 rfl; have f4 := HX6.out.cell 4 rfl
    go_wp2_with fail
    refine (HG2.out _ HR6.out).mono ?_
    rintro ee w7 ⟨rfl, k7⟩
    have HC7 := Lib.hid (HC6.out.step k7)
    have hb7 := bt hb6 k7
    clear HX6 HR6 HC6 hb6 k7 HG2 f0 f1 f2 f3 f4
    have f0 := HC7.out.cell 0 rfl; have f1 := HC7.out.cell 1 rfl
    go_wp2
    go_ret
    exact ⟨rfl, hb7⟩
end Go.Proofs.YtophgbjbinaekaaDoor
