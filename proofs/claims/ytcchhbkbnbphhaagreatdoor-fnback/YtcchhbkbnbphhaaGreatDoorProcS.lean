/- step: fetch, the next address, the instruction, its cycles. Written by gen_procs.py. -/
import Derived.Test.YtcchhbkbnbphhaaGreatDoorM12
import Derived.Test.YtcchhbkbnbphhaaGreatDoorProcF
import Derived.Test.YtcchhbkbnbphhaaGreatDoorM4
namespace Go.Proofs.YtcchhbkbnbphhaaGreatDoor
open Go.RowKit

theorem cyc_fix {k : Int} (h : 0 ≤ k ∧ k ≤ 22) : (if 0 < fixT k then fixT k else 2 * lenA_ (argT k)) = cycT k := by
  rcases ops23 h with rfl | rfl | rfl | rfl | rfl | rfl | rfl | rfl | rfl | rfl | rfl | rfl | rfl | rfl | rfl | rfl | rfl | rfl | rfl | rfl | rfl | rfl | rfl <;> rfl
theorem len_arg {k : Int} (h : 0 ≤ k ∧ k ≤ 22) : lenA_ (argT k) = lenT k := by
  rcases ops23 h with rfl | rfl | rfl | rfl | rfl | rfl | rfl | rfl | rfl | rfl | rfl | rfl | rfl | rfl | rfl | rfl | rfl | rfl | rfl | rfl | rfl | rfl | rfl <;> rfl
theorem lenT_in (k : Int) : 1 ≤ lenT k ∧ lenT k ≤ 3 := by unfold lenT; repeat' split
                                                          all_goals omega
theorem wp_pureS {P : Program} {o : Oper} {a : Act} {w : World} {K : Act → World → Prop} {Q : Exit → Act → World → Prop} (x : Operand) (ho : o.op = .assign x ∨ o.op = .move x) (v : Value) (hv : a.eval x = v) (h : K (a.put o.dst v) w) : Oper.wp P o a w K Q := by
  rcases ho with ho | ho
  · unfold Oper.wp execOp
    simp only [ho, hv]
    exact h
  · unfold Oper.wp execOp
    simp only [ho, hv]
    exact h
theorem ifnS {C0 C1 : Prop} {i z : Nat} (h : i ≠ z) (hC : C0) : if i = z then C1 else C0 := by rw [if_neg h]; exact hC
theorem ifpS {C0 C1 : Prop} {z : Nat} (hC : C1) : if z = z then C1 else C0 := by rw [if_pos rfl]; exact hC
def stF (a : PA) (pc ln : Int) (so : ByteArray) (ro ao co : Int) : Nat → (Nat → Value) → World → Prop
  | 0, t, _ => t 16 = .pointer (some ⟨a.p, 0, none⟩)
  | 1, t, _ => t 17 = .pointer (some ⟨a.p, 0, none⟩)
  | 2, t, _ => t 18 = .pointer (some ⟨a.p, 0, none⟩)
  | 3, t, _ => t 19 = .pointer (some ⟨a.p, 0, none⟩)
  | 4, t, _ => t 20 = .pointer (some ⟨a.p, 0, none⟩)
  | 5, t, _ => t 21 = .int .i64 pc
  | 6, t, _ => t 22 = .agg #[.string so, .int .i64 ro, .int .i64 ao, .int .i64 co]
  | 7, t, _ => t 23 = .int .i64 ln
  | 8, t, _ => t 24 = .int .i64 (pc + ln)
  | 9, t, _ => t 25 = .int .i64 ((pc + ln) % 4096)
  | 10, t, _ => t 26 = .pointer (some ⟨a.p, 0, none⟩)
  | 11, t, _ => t 27 = .pointer (some ⟨a.p, 0, none⟩)
  | 12, t, _ => t 28 = .pointer (some ⟨a.p, 0, none⟩)
  | 13, _, _ => True
  | _, _, _ => True
theorem stF_any {a : PA} {pc ln : Int} {so : ByteArray} {ro ao co : Int} {w w' : World} : ∀ (j : Nat) (t : Nat → Value), stF a pc ln so ro ao co j t w → stF a pc ln so ro ao co j t w'
  | 0, _, h | 1, _, h | 2, _, h | 3, _, h | 4, _, h | 5, _, h | 6, _, h | 7, _, h | 8, _, h | 9, _, h | 10, _, h | 11, _, h | 12, _, h | 13, _, h => h
  | _ + 14, _, _ => trivial

set_option maxRecDepth 100000 in
set_option maxHeartbeats 8000000 in
theorem prStep (a : PA) (d : CD) (m : MD) (w : World) (ht : OpsT w) (hd : d.Ok) (hm : m.Ok) (h : PrAt w a d m (-1)) :
    Calls Tryz.prog 23 #[.pointer (some ⟨a.p, 0, none⟩)] w (GPrI (stepN d m) a (stepD d m) (stepM d m) (stepS d m) w) := by
  unfold GPrI
  by_cases hh : d.halt = true
  · have E1 : stepN d m = 4 := by unfold stepN; rw [if_pos hh]
    have E2 : stepD d m = d := by unfold stepD; rw [if_pos hh]
    have E3 : stepM d m = m := by unfold stepM; rw [if_pos hh]
    have E4 : stepS d m = -1 := by unfold stepS; rw [if_pos hh]
    rw [E1, E2, E3, E4]
    have HP := Lib.hid h
    obtain ⟨⟨_, _, _, _, _, _, _, c7, _⟩, _, _⟩ := HP.out.cells
    rw [hh] at c7
    clear h E1 E2 E3 E4 ht hd hm
    go_enter Tryz.func23, Tryz.ntmps23
    go_wp2
    go_ret
    exact ⟨rfl, HP, Lib.hid (Runs.refl _ _)⟩
  · have hh : d.halt = false := by simpa using hh
    have E1 : stepN d m = cycT (fetchF d m).1 := by unfold stepN; rw [hh]; rfl
    have E2 : stepD d m = execD (nextD d m) m (fetchF d m).1 (fetchF d m).2.1 (fetchF d m).2.2 := by unfold stepD; rw [hh]; rfl
    have E3 : stepM d m = execM (nextD d m) m (fetchF d m).1 (fetchF d m).2.1 (fetchF d m).2.2 := by unfold stepM; rw [hh]; rfl
    have E4 : stepS d m = execS (fetchF d m).1 (fetchF d m).2.2 := by unfold stepS; rw [hh]; rfl
    rw [E1, E2, E3, E4]
    have hI := fetch_ok d m
    have HFe := Lib.hid (prFetch a d m (-1) w ht hd hm h)
    unfold GFet at HFe
    have hn := hd.next m
    have hN : nextD d m = d.at ((d.pc + lenT (fetchF d m).1) % 4096) := rfl
    generalize nextD d m = dn at hn hN ⊢
    generalize fetchF d m = x at hI HFe hN ⊢
    obtain ⟨x0, x1, x2⟩ := x
    simp only at hI HFe hN ⊢
    have ho := hI.ho
    obtain ⟨k, rfl⟩ : ∃ k : Nat, x0 = k := ⟨x0.toNat, by omega⟩
    have HPf := Lib.hid (fun W (q : PrAt W a dn m (-1)) => prPerform a dn m (-1) (k : Int) x1 x2 W hI hn hm q)
    unfold GPr at HPf
    have HS : Hid ((if (k : Int) = 20 then x2 else -1) = execS k x2) := Lib.hid rfl
    rw [HS.out] at HPf
    rw [← cyc_fix ho]
    rw [← len_arg ho] at hN
    generalize execD dn m (k : Int) x1 x2 = dz at HPf ⊢
    generalize execM dn m (k : Int) x1 x2 = mz at HPf ⊢
    generalize execS (k : Int) x2 = sz at HPf ⊢
    have hpc := hd.pc
    have hl1 := lenT_in (k : Int)
    rw [← len_arg ho] at hl1
    have HT := Lib.hid (fun W (q : OpsT W) => q k (by omega))
    generalize opWord k = so at HT
    generalize regT (k : Int) = ro at HT
    generalize argT (k : Int) = ao at HT hN hl1 ⊢
    generalize fixT (k : Int) = co at HT ⊢
    have HLe := Lib.hid (fun W => opLength so ro ao co W)
    have HCy := Lib.hid (fun W => opCycles so ro ao co W)
    generalize (if 0 < co then co else 2 * lenA_ ao) = cy at HCy ⊢
    generalize lenA_ ao = ln at HLe hN hl1
    have HE1 : Hid (IntKind.i64.wrap (d.pc + ln) = d.pc + ln) := Lib.hid (IntWalk.i64_in _ (by omega))
    have HE2 : Hid ((d.pc + ln).tmod 4096 = (d.pc + ln) % 4096) := Lib.hid (Int.tmod_eq_emod_of_nonneg (by omega))
    have HN := Lib.hid hN
    have HP := Lib.hid h
    have HTb := Lib.hid ht
    obtain ⟨⟨_, _, _, _, _, _, _, c7, _⟩, _, _⟩ := HP.out.cells
    rw [hh] at c7
    have hk : (k : Int) ≤ 22 := ho.2
    clear h E1 E2 E3 E4 ht hd hm hI hn hN hpc hl1 ho HS
    go_enter Tryz.func23, Tryz.ntmps23
    go_wp2_with fail
    refine HFe.out.mono ?_
    rintro e w1 ⟨rfl, hb1⟩
    clear c7
    obtain ⟨c1, c2, c3, c4⟩ := HT.out w1 (HTb.out.below hb1.out)
    have hlt := (HTb.out.below hb1.out).lt
    go_wp2
    obtain ⟨B3, hB3⟩ : ∃ B3, B3 = w1.heap.size := ⟨_, rfl⟩
    obtain ⟨V, hV⟩ : ∃ V, V = (w1.alloc (.cells #[.int .i64 (k : Int), .int .i64 x1, .int .i64 x2] 82)).alloc (.cells #[.string so, .int .i64 ro, .int .i64 ao, .int .i64 co] 85) := ⟨_, rfl⟩
    have bV : Below w1.heap.size w1 V := by rw [hV]; exact bt (alloc_below _ _) (alloc_below _ _)
    have X3 : Hid (Box V B3 82 #[.int .i64 (k : Int), .int .i64 x1, .int .i64 x2]) := Lib.hid (by rw [hV, hB3]; exact (Box.new _ _ _).step (alloc_below _ _))
    have X4 : Hid (Box V (B3 + 1) 85 #[.string so, .int .i64 ro, .int .i64 ao, .int .i64 co]) := Lib.hid (by rw [hV, hB3]; simpa using Box.new (w1.alloc (.cells #[.int .i64 (k : Int), .int .i64 x1, .int .i64 x2] 82)) 85 #[.string so, .int .i64 ro, .int .i64 ao, .int .i64 co])
    rw [← hV, ← hB3]
    have bw := bt hb1.out bV
    have PV := Lib.hid (HP.out.step bw)
    have RV : Hid (Runs a.L w V) := Lib.hid (Runs.below bw HP.out.size)
    generalize hB4 : B3 + 1 = B4 at X4 ⊢
    clear hV hB3 c1 c2 c3 c4 hlt HT bw bV hb1 HP hB4
    have HK : Hid (∀ W, Below V.heap.size V W → W.cell? ⟨a.p, 0, none⟩ = some (.int .i64 d.pc) ∧ W.cell? ⟨B4, 0, none⟩ = some (.string so) ∧ W.cell? ⟨B4, 1, none⟩ = some (.int .i64 ro) ∧ W.cell? ⟨B4, 2, none⟩ = some (.int .i64 ao) ∧ W.cell? ⟨B4, 3, none⟩ = some (.int .i64 co)) := Lib.hid (fun W q => ⟨(PV.out.X.step q).cell 0 rfl, (X4.out.step q).cell 0 rfl, (X4.out.step q).cell 1 rfl, (X4.out.step q).cell 2 rfl, (X4.out.step q).cell 3 rfl⟩)
    have HZ : Hid (∀ W, Below V.heap.size V W → W.frozen? ⟨a.p, 0, none⟩ = false) := Lib.hid (fun W q => (PV.out.X.step q).frozen 0)
    generalize hpc : d.pc = pc at HK HE1 HE2 HN
    have HPc := Lib.hid hpc
    clear hpc
    refine wp_region_last (by kernel_rfl) [[16], [17], [18], [19], [20], [21], [22], [23], [24], [25], [26], [27], [28], []] [[], [], [1], [1, 2], [1, 2, 3], [1, 2, 3, 4], [], [6], [1, 2, 3, 4, 5, 6, 7], [1, 2, 3, 4, 5, 6, 7, 8], [0, 1, 2, 3, 4, 5, 6, 7, 8, 9], [0, 1, 2, 3, 4, 5, 6, 7, 8, 9, 10], [0, 1, 2, 3, 4, 5, 6, 7, 8, 9, 10, 11], [0, 1, 2, 3, 4, 5, 6, 7, 8, 9, 10, 11, 12]] [0, 3, 4] (by kernel_rfl) 13 (by kernel_rfl) (fun W => Below V.heap.size V W) (fun W' => ∃ W, Below V.heap.size V W ∧ W' = W.setCell ⟨a.p, 0, none⟩ (.int .i64 ((pc + ln) % 4096))) (stF a pc ln so ro ao co) (Below.refl _ _).drew ?_ ?_
    · refine ⟨?_, ?_, ?_, ?_, ?_, ?_, ?_, ?_, ?_, ?_, ?_, ?_, ?_, ?_, trivial⟩
      · intro T W hT hs hC hF K hK
        exact wp_pureS (.tmp 0) (.inr rfl) (.pointer (some ⟨a.p, 0, none⟩)) (hs 0 (by decide)) (hK.out _ W (ifnS (by decide) hC) (fun _ _ _ h => h) (mask_put _ 16 (by decide) _ _ _ (by rw [hT]; show 16 < 34; decide)))
      · intro T W hT hs hC hF K hK
        exact wp_pureS (.tmp 0) (.inr rfl) (.pointer (some ⟨a.p, 0, none⟩)) (hs 0 (by decide)) (hK.out _ W (ifnS (by decide) hC) (fun _ _ _ h => h) (mask_put _ 17 (by decide) _ _ _ (by rw [hT]; show 17 < 34; decide)))
      · intro T W hT hs hC hF K hK
        obtain ⟨t0, t1, t2, t3, t4, t5, t6, t7, t8, t9, t10, t11, t12, t13, t14, t15, t16, t17, t18, t19, t20, t21, t22, t23, t24, t25, t26, t27, t28, t29, t30, t31, t32, t33, rfl⟩ := arr34 T hT
        obtain rfl : t0 = .pointer (some ⟨a.p, 0, none⟩) := hs 0 (by decide)
        obtain rfl : t4 = .pointer (some ⟨B4, 0, none⟩) := hs 4 (by decide)
        obtain rfl : t17 = .pointer (some ⟨a.p, 0, none⟩) := hF 1 (by decide)
        clear hF hs hT
        go_simp
        exact hK.out _ W (ifnS (by decide) hC) (fun _ _ _ h => h) rfl
      · intro T W hT hs hC hF K hK
        obtain ⟨t0, t1, t2, t3, t4, t5, t6, t7, t8, t9, t10, t11, t12, t13, t14, t15, t16, t17, t18, t19, t20, t21, t22, t23, t24, t25, t26, t27, t28, t29, t30, t31, t32, t33, rfl⟩ := arr34 T hT
        obtain rfl : t0 = .pointer (some ⟨a.p, 0, none⟩) := hs 0 (by decide)
        obtain rfl : t4 = .pointer (some ⟨B4, 0, none⟩) := hs 4 (by decide)
        obtain rfl : t18 = .pointer (some ⟨a.p, 0, none⟩) := hF 2 (by decide)
        clear hF hs hT
        go_simp
        exact hK.out _ W (ifnS (by decide) hC) (fun _ _ _ h => h) rfl
      · intro T W hT hs hC hF K hK
        obtain ⟨t0, t1, t2, t3, t4, t5, t6, t7, t8, t9, t10, t11, t12, t13, t14, t15, t16, t17, t18, t19, t20, t21, t22, t23, t24, t25, t26, t27, t28, t29, t30, t31, t32, t33, rfl⟩ := arr34 T hT
        obtain rfl : t0 = .pointer (some ⟨a.p, 0, none⟩) := hs 0 (by decide)
        obtain rfl : t4 = .pointer (some ⟨B4, 0, none⟩) := hs 4 (by decide)
        obtain rfl : t19 = .pointer (some ⟨a.p, 0, none⟩) := hF 3 (by decide)
        clear hF hs hT
        go_simp
        exact hK.out _ W (ifnS (by decide) hC) (fun _ _ _ h => h) rfl
      · intro T W hT hs hC hF K hK
        obtain ⟨t0, t1, t2, t3, t4, t5, t6, t7, t8, t9, t10, t11, t12, t13, t14, t15, t16, t17, t18, t19, t20, t21, t22, t23, t24, t25, t26, t27, t28, t29, t30, t31, t32, t33, rfl⟩ := arr34 T hT
        obtain rfl : t0 = .pointer (some ⟨a.p, 0, none⟩) := hs 0 (by decide)
        obtain rfl : t4 = .pointer (some ⟨B4, 0, none⟩) := hs 4 (by decide)
        obtain rfl : t20 = .pointer (some ⟨a.p, 0, none⟩) := hF 4 (by decide)
        clear hF hs hT
        have hcs := HK.out W hC
        obtain ⟨y0, y1, y2, y3, y4⟩ := hcs
        go_simp
        exact hK.out _ W (ifnS (by decide) hC) (fun _ _ _ h => h) rfl
      · intro T W hT hs hC hF K hK
        obtain ⟨t0, t1, t2, t3, t4, t5, t6, t7, t8, t9, t10, t11, t12, t13, t14, t15, t16, t17, t18, t19, t20, t21, t22, t23, t24, t25, t26, t27, t28, t29, t30, t31, t32, t33, rfl⟩ := arr34 T hT
        obtain rfl : t0 = .pointer (some ⟨a.p, 0, none⟩) := hs 0 (by decide)
        obtain rfl : t4 = .pointer (some ⟨B4, 0, none⟩) := hs 4 (by decide)
        clear hF hs hT
        have hcs := HK.out W hC
        obtain ⟨y0, y1, y2, y3, y4⟩ := hcs
        go_simp
        exact hK.out _ W (ifnS (by decide) hC) (fun _ _ _ h => h) rfl
      · intro T W hT hs hC hF K hK
        obtain ⟨t0, t1, t2, t3, t4, t5, t6, t7, t8, t9, t10, t11, t12, t13, t14, t15, t16, t17, t18, t19, t20, t21, t22, t23, t24, t25, t26, t27, t28, t29, t30, t31, t32, t33, rfl⟩ := arr34 T hT
        obtain rfl : t0 = .pointer (some ⟨a.p, 0, none⟩) := hs 0 (by decide)
        obtain rfl : t4 = .pointer (some ⟨B4, 0, none⟩) := hs 4 (by decide)
        obtain rfl : t22 = .agg #[.string so, .int .i64 ro, .int .i64 ao, .int .i64 co] := hF 6 (by decide)
        clear hF hs hT
        have HG := Lib.hid (HLe.out W)
        go_simp
        refine HG.out.mono ?_
        rintro e w3 ⟨rfl, hc⟩
        exact hK.out _ w3 (ifnS (by decide) (hC.trans (hc.mono hC.size))) (fun j t _ h => stF_any j t h) rfl
      · intro T W hT hs hC hF K hK
        obtain ⟨t0, t1, t2, t3, t4, t5, t6, t7, t8, t9, t10, t11, t12, t13, t14, t15, t16, t17, t18, t19, t20, t21, t22, t23, t24, t25, t26, t27, t28, t29, t30, t31, t32, t33, rfl⟩ := arr34 T hT
        obtain rfl : t0 = .pointer (some ⟨a.p, 0, none⟩) := hs 0 (by decide)
        obtain rfl : t4 = .pointer (some ⟨B4, 0, none⟩) := hs 4 (by decide)
        obtain rfl : t21 = .int .i64 pc := hF 5 (by decide)
        obtain rfl : t23 = .int .i64 ln := hF 7 (by decide)
        clear hF hs hT
        have e1 := HE1.out
        go_simp
        exact hK.out _ W (ifnS (by decide) hC) (fun _ _ _ h => h) rfl
      · intro T W hT hs hC hF K hK
        obtain ⟨t0, t1, t2, t3, t4, t5, t6, t7, t8, t9, t10, t11, t12, t13, t14, t15, t16, t17, t18, t19, t20, t21, t22, t23, t24, t25, t26, t27, t28, t29, t30, t31, t32, t33, rfl⟩ := arr34 T hT
        obtain rfl : t0 = .pointer (some ⟨a.p, 0, none⟩) := hs 0 (by decide)
        obtain rfl : t4 = .pointer (some ⟨B4, 0, none⟩) := hs 4 (by decide)
        obtain rfl : t24 = .int .i64 (pc + ln) := hF 8 (by decide)
        clear hF hs hT
        have e2 := HE2.out
        go_simp
        exact hK.out _ W (ifnS (by decide) hC) (fun _ _ _ h => h) rfl
      · intro T W hT hs hC hF K hK
        obtain ⟨t0, t1, t2, t3, t4, t5, t6, t7, t8, t9, t10, t11, t12, t13, t14, t15, t16, t17, t18, t19, t20, t21, t22, t23, t24, t25, t26, t27, t28, t29, t30, t31, t32, t33, rfl⟩ := arr34 T hT
        obtain rfl : t0 = .pointer (some ⟨a.p, 0, none⟩) := hs 0 (by decide)
        obtain rfl : t4 = .pointer (some ⟨B4, 0, none⟩) := hs 4 (by decide)
        obtain rfl : t16 = .pointer (some ⟨a.p, 0, none⟩) := hF 0 (by decide)
        clear hF hs hT
        go_simp
        exact hK.out _ W (ifnS (by decide) hC) (fun _ _ _ h => h) rfl
      · intro T W hT hs hC hF K hK
        obtain ⟨t0, t1, t2, t3, t4, t5, t6, t7, t8, t9, t10, t11, t12, t13, t14, t15, t16, t17, t18, t19, t20, t21, t22, t23, t24, t25, t26, t27, t28, t29, t30, t31, t32, t33, rfl⟩ := arr34 T hT
        obtain rfl : t0 = .pointer (some ⟨a.p, 0, none⟩) := hs 0 (by decide)
        obtain rfl : t4 = .pointer (some ⟨B4, 0, none⟩) := hs 4 (by decide)
        obtain rfl : t26 = .pointer (some ⟨a.p, 0, none⟩) := hF 10 (by decide)
        clear hF hs hT
        go_simp
        exact hK.out _ W (ifnS (by decide) hC) (fun _ _ _ h => h) rfl
      · intro T W hT hs hC hF K hK
        obtain ⟨t0, t1, t2, t3, t4, t5, t6, t7, t8, t9, t10, t11, t12, t13, t14, t15, t16, t17, t18, t19, t20, t21, t22, t23, t24, t25, t26, t27, t28, t29, t30, t31, t32, t33, rfl⟩ := arr34 T hT
        obtain rfl : t0 = .pointer (some ⟨a.p, 0, none⟩) := hs 0 (by decide)
        obtain rfl : t4 = .pointer (some ⟨B4, 0, none⟩) := hs 4 (by decide)
        obtain rfl : t27 = .pointer (some ⟨a.p, 0, none⟩) := hF 11 (by decide)
        clear hF hs hT
        go_simp
        exact hK.out _ W (ifnS (by decide) hC) (fun _ _ _ h => h) rfl
      · intro T W hT hs hC hF K hK
        obtain ⟨t0, t1, t2, t3, t4, t5, t6, t7, t8, t9, t10, t11, t12, t13, t14, t15, t16, t17, t18, t19, t20, t21, t22, t23, t24, t25, t26, t27, t28, t29, t30, t31, t32, t33, rfl⟩ := arr34 T hT
        obtain rfl : t0 = .pointer (some ⟨a.p, 0, none⟩) := hs 0 (by decide)
        obtain rfl : t4 = .pointer (some ⟨B4, 0, none⟩) := hs 4 (by decide)
        obtain rfl : t28 = .pointer (some ⟨a.p, 0, none⟩) := hF 12 (by decide)
        obtain rfl : t25 = .int .i64 ((pc + ln) % 4096) := hF 9 (by decide)
        clear hF hs hT
        have hcs := HK.out W hC
        obtain ⟨y0, y1, y2, y3, y4⟩ := hcs
        have yz := HZ.out W hC
        go_simp
        exact hK.out undef _ (ifpS ⟨W, hC, rfl⟩) (fun j t _ h => stF_any j t h) trivial
    · intro T W hT hs hC hF
      obtain ⟨t0, t1, t2, t3, t4, t5, t6, t7, t8, t9, t10, t11, t12, t13, t14, t15, t16, t17, t18, t19, t20, t21, t22, t23, t24, t25, t26, t27, t28, t29, t30, t31, t32, t33, rfl⟩ := arr34 T hT
      obtain rfl : t0 = .pointer (some ⟨a.p, 0, none⟩) := hs 0 (by decide)
      obtain rfl : t4 = .pointer (some ⟨B4, 0, none⟩) := hs 4 (by decide)
      obtain rfl : t3 = .pointer (some ⟨B3, 0, none⟩) := hs 3 (by decide)
      obtain ⟨Wa, hCa, rfl⟩ := hC
      have Pa := PV.out.step hCa
      obtain ⟨U, hU⟩ : ∃ U, U = Wa.setCell ⟨a.p, 0, none⟩ (.int .i64 ((pc + ln) % 4096)) := ⟨_, rfl⟩
      have PU : Hid (PrAt U a dn m (-1)) := Lib.hid (by rw [hU, HN.out]; exact Pa.put 0 _ _ _ rfl rfl)
      have kU : Runs a.L V U := by rw [hU]; exact (Runs.below hCa PV.out.size).trans (Pa.runs (Nat.le_refl _) 0 _)
      have U3 := Lib.hid (kU.kb _ _ _ (by decide) (by decide) (by decide) X3.out)
      have U4 := Lib.hid (kU.kb _ _ _ (by decide) (by decide) (by decide) X4.out)
      have RU := Lib.hid (RV.out.trans kU)
      rw [← hU]
      clear hU hF hs hT Pa hCa kU PV RV HK HZ X3 X4
      have u0 := U3.out.cell 0 rfl
      have u1 := U3.out.cell 1 rfl
      have u2 := U3.out.cell 2 rfl
      go_wp2_with fail
      refine (HPf.out _ PU.out).mono ?_
      rintro e w5 ⟨rfl, P5, R5⟩
      have X5 := Lib.hid (R5.out.kb _ _ _ (by decide) (by decide) (by decide) U4.out)
      have q0 := X5.out.cell 0 rfl
      have q1 := X5.out.cell 1 rfl
      have q2 := X5.out.cell 2 rfl
      have q3 := X5.out.cell 3 rfl
      clear u0 u1 u2 U3 U4
      go_wp2_with fail
      refine (HCy.out _).mono ?_
      rintro e w6 ⟨rfl, hb6⟩
      clear q0 q1 q2 q3 X5
      go_wp2
      go_ret
      exact ⟨rfl, Lib.hid (P5.out.step hb6), Lib.hid (RU.out.trans (R5.out.trans (Runs.below hb6 P5.out.size)))⟩
end Go.Proofs.YtcchhbkbnbphhaaGreatDoor
