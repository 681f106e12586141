/- The model's ticks, round by round; the contracts of the exact laws. Written by gen_timspec.py. -/
import Derived.Test.YtagdclbpgkilgaaTimRun
namespace Go.Proofs.Ytagdclbpgkilgaa
open Go.RowKit

def GivesTick2 (rs : List TTimer) (fs : List Int) (w : World) (e : Ending) (w' : World) : Prop :=
  ∃ b1 b2 c d, e = .returned (.tuple #[.slice (some ⟨b1, 0, none⟩) 4 c, .slice (some ⟨b2, 0, none⟩) 4 d]) ∧ Hid (OwnTimer w' w.heap.size w'.heap.size (some ⟨b1, 0, none⟩) rs) ∧ Hid (OwnI w' w.heap.size w'.heap.size (some ⟨b2, 0, none⟩) fs) ∧ b1 ≠ b2 ∧ Below w.heap.size w w'
theorem But.own1 {w : World} {lo hi b1 b2 : Nat} {rs : List TTimer} (h : OwnTimer w lo hi (some ⟨b1, 0, none⟩) rs) (hne : b1 ≠ b2) (j : Nat) (v : Value) : OwnTimer (w.setCell ⟨b2, j, none⟩ v) lo hi (some ⟨b1, 0, none⟩) rs :=
  ownTimer_but h (But.setCell (p := fun k => k = b2) w (a := ⟨b2, j, none⟩) rfl v) (by omega)
theorem ownI_but {p : Nat → Prop} {w w' : World} {lo hi b : Nat} {zs : List Int} (h : OwnI w lo hi (some ⟨b, 0, none⟩) zs) (k : But p w w') (hp : ¬ p b) : OwnI w' lo hi (some ⟨b, 0, none⟩) zs := by
  rcases h with h | ⟨b', m, f, eA, h1, h2, hm, hr, hf⟩
  · exact .inl h
  · injection eA with eA
    injection eA with eA _ _
    subst eA
    exact .inr ⟨b, m, f, rfl, h1, h2, hm, rowIs_same (k.block b hr.lt hp) hr, hf⟩
theorem But.own2 {w : World} {lo hi b1 b2 : Nat} {zs : List Int} (h : OwnI w lo hi (some ⟨b2, 0, none⟩) zs) (hne : b1 ≠ b2) (j : Nat) (v : Value) : OwnI (w.setCell ⟨b1, j, none⟩ v) lo hi (some ⟨b2, 0, none⟩) zs :=
  ownI_but h (But.setCell (p := fun k => k = b1) w (a := ⟨b1, j, none⟩) rfl v) (by omega)
theorem But.drew (p : Nat → Prop) (w : World) : But p w w.drew := ⟨rfl, rfl, rfl, Nat.le_refl _, fun _ _ _ => rfl⟩
set_option maxHeartbeats 8000000 in
set_option maxRecDepth 100000 in
theorem l10Tick (A0 : Option Addr) (c0 : Nat) (d0 : List TTimer) (N : Int) (w : World) (ht : timB d0 = true) (hN : ntB N = true) (hrow : RowTimer w A0 d0) :
    Calls Try.prog 60 #[.slice A0 4 c0, .int .i64 N] w (GivesTick2 (tickR d0 N 4) (tickF d0 N 4) w) := by
  have HL : Hid (d0.length = 4) := Lib.hid (timB_len ht)
  have HSrc := Lib.hid (RowTimer.src (RowTimer.below hrow (alloc_below w (.cells #[] 54))) (by rw [HL.out]; decide))
  have HC : Hid ((cellsTimer d0).length = 4 * 3) := Lib.hid (by rw [cellsTimer_len, HL.out])
  have HT := Lib.hid ht
  have HN := Lib.hid hN
  have HP := Lib.hid (fun i hi => okT_tm (timB_at ht i hi))
  have HK := Lib.hid (fun i hi => ksT_range ht hN i hi)
  have HF := Lib.hid (fun i hi => firesT_range ht hN i hi)
  have hmk : ∀ W : World, (Instr.makeSlice 23 (.int .i64 4) (.int .i64 4)).run Try.prog W = .ok (.slice (some ⟨W.heap.size, 0, none⟩) 4 4) (W.alloc (.cells (madeCells #[.int .i64 0] 4) 3)) := fun W => run_make_row' (P := Try.prog) 23 3 (.int .i64 0) 8 Try.underlying23 infoI rfl .i64 .i64 4 (by omega) (by omega) W
  have hb0 := alloc_below w (.cells #[] 54)
  have hz : (w.alloc (.cells #[] 54)).heap.size = w.heap.size + 1 := by simp
  clear ht hN hrow
  go_enter Try.func60, Try.ntmps60
  go_wp2_with (first | (with_reducible refine wpList_app_fresh rfl (.tmp 10) (.tmp 11) 43 rfl 54 (.agg #[.int .i64 0, .int .i64 0, .bool false]) 3 24 Try.underlying43 infoTimerE rfl (by decide) _ rfl A0 4 c0 (by decide) (cellsTimer d0) rfl HC.out HSrc.out (by unfold maxLen; omega) (by omega) ?_))
  intro A1 c1 w4 hb4 O4
  have hb4' := bt hb0 (by rw [hz]; exact hb4)
  have S4 := ownTimer_fresh (lo := w.heap.size) O4.out HL.out (by omega)
  obtain ⟨Bk, m, f, rfl, -, -, q1, q2, -⟩ := S4.put 0 (by rw [HL.out]; decide)
  have hs4 := hb4'.size
  have hbm := bt hb4' (alloc_below w4 (.cells (madeCells #[.int .i64 0] 4) 3))
  have HR : Hid (OwnTimer (w4.alloc (.cells (madeCells #[.int .i64 0] 4) 3)) w.heap.size w4.heap.size (some ⟨Bk, 0, none⟩) (tickR d0 N 0)) := Lib.hid (by rw [tickR_zero N HL.out]; exact OwnR.below S4 (alloc_below _ _))
  have HI : Hid (OwnI (w4.alloc (.cells (madeCells #[.int .i64 0] 4) 3)) w.heap.size (w4.heap.size + 1) (some ⟨w4.heap.size, 0, none⟩) (tickF d0 N 0)) := Lib.hid (madeT_own (Box.new w4 3 (madeCells #[.int .i64 0] 4)) hs4 (Nat.lt_succ_self _))
  have hsm : (w4.alloc (.cells (madeCells #[.int .i64 0] 4) 3)).heap.size = w4.heap.size + 1 := by simp
  clear S4 O4 HSrc HC hb0 hz hb4 hb4'
  go_wp2
  clear hmk
  generalize w4.alloc (.cells (madeCells #[.int .i64 0] 4) 3) = wm at hbm HR HI hsm ⊢
  have hsm : w4.heap.size + 1 ≤ wm.heap.size := by omega
  go_loopw [8] (fun i wr => ∃ k : Nat, k ≤ 4 ∧ i = .int .i64 (k : Int) ∧ Hid (OwnTimer wr w.heap.size w4.heap.size (some ⟨Bk, 0, none⟩) (tickR d0 N k)) ∧ Hid (OwnI wr w.heap.size (w4.heap.size + 1) (some ⟨w4.heap.size, 0, none⟩) (tickF d0 N k)) ∧ Hid (Below w.heap.size w wr ∧ w4.heap.size + 1 ≤ wr.heap.size)) (fun i _ => 4 - (intOf i).toNat)
  case atStart => exact ⟨0, Nat.zero_le _, rfl, HR, HI, Lib.hid ⟨hbm, hsm⟩⟩
  case round =>
    clear HR HI hbm hsm
    obtain ⟨k, hk, rfl, HR, HI, HB⟩ := hrel
    by_cases hlt : k < 4
    · have i1 : (k : Int) < 4 := by omega
      have i0 : (0 : Int) ≤ (k : Int) := by omega
      obtain ⟨b, m, f, eA, ⟨g0, g1, g2⟩, gz, -, -, hrow, -, hput, -, -⟩ := HR.out.put k (by rw [tickR_len]; exact hlt)
      injection eA with eA
      injection eA with eA _ _
      subst eA
      rw [tickR_at d0 N k k hlt, if_neg (Nat.lt_irrefl _)] at g0 g1 g2 hput
      obtain ⟨b, m2, f2, eA, j0, jz, -, -, -, iput⟩ := HI.out.put k (by rw [tickF_len]; exact hlt)
      injection eA with eA
      injection eA with eA _ _
      subst eA
      have hP := HP.out k hlt
      have hK := HK.out k hlt
      obtain ⟨⟨c0, l0, h0⟩, hx⟩ : ∃ x, d0.getD k zTimer = x := ⟨_, rfl⟩
      rw [hx] at g0 g1 g2 hput hP hK
      simp only at g0 g1 g2 hput
      have HX := Lib.hid hx
      have gz0 := gz (k * 3)
      obtain ⟨p0, p1, p2, p3, p4⟩ := hP
      simp only at p0 p1 p2 p3 p4
      have HPut := Lib.hid hput
      have HIput := Lib.hid iput
      generalize (tickF d0 N k).getD k 0 = y at j0
      clear gz hrow hput iput
      cases h0 with
      | true =>
        have HKK : Hid (ksT (c0, l0, true) N (aheadT d0 N k) = aheadT d0 N k) := Lib.hid rfl
        rw [HKK.out] at hK
        obtain ⟨k0, k1⟩ := hK
        have hk0 : k ≠ 0 := by
          intro e
          subst e
          have := okT_first (timB_at HT.out 0 (by omega))
          rw [hx] at this
          cases this
        obtain ⟨j, hj⟩ : ∃ j, k = j + 1 := ⟨k - 1, by omega⟩
        obtain ⟨b, m3, f3, eA, a0, -⟩ := HI.out.put j (by rw [tickF_len]; omega)
        injection eA with eA
        injection eA with eA _ _
        subst eA
        rw [tickF_at d0 N k j (by omega), if_pos (by omega), show firesT d0 N j = aheadT d0 N k by rw [hj]; rfl] at a0
        have hjm : (k : Int) - 1 = (j : Int) := by omega
        have hj0 : (0 : Int) ≤ (j : Int) := by omega
        have hj4 : (j : Int) < 4 := by omega
        clear hj hk0
        clear hx
        by_cases hl : l0 = 0
        · subst hl
          obtain ⟨r1, r2⟩ := round_off (N := N) hlt HX.out
          have HR2 : Hid (OwnTimer wr w.heap.size w4.heap.size (some ⟨Bk, 0, none⟩) (tickR d0 N (k + 1))) := Lib.hid (by rw [r2]; exact HR.out)
          have HI2 : Hid (OwnI wr w.heap.size (w4.heap.size + 1) (some ⟨w4.heap.size, 0, none⟩) (tickF d0 N (k + 1))) := Lib.hid (by rw [tickF_same d0 N k hlt r1]; exact HI.out)
          generalize aheadT d0 N k = ah at a0 k0 k1 HKK
          clear r1 r2 HR HI HPut HIput
          go_wp2
          go_roundw
          case rel => exact ⟨k + 1, by omega, by go_num, HR2, HI2, HB⟩
          case measure => simp [intOf]; omega
        · have l1 : 0 < l0 := by omega
          obtain ⟨r1, r2⟩ := round_on (N := N) hlt HX.out hl HKK.out
          obtain ⟨q, hq⟩ : ∃ q, (c0 + aheadT d0 N k) / l0 = q := ⟨_, rfl⟩
          obtain ⟨r, hr⟩ : ∃ r, (c0 + aheadT d0 N k) % l0 = r := ⟨_, rfl⟩
          rw [hq] at r1
          rw [hr] at r2
          have hIp := HIput.out q
          have e9 := tickF_next d0 N k hlt
          rw [r1] at e9
          rw [e9] at hIp
          have HR5 : Hid (OwnTimer (wr.setCell ⟨w4.heap.size, k, none⟩ (.int .i64 q)).drew w.heap.size w4.heap.size (some ⟨Bk, 0, none⟩) (tickR d0 N k)) := Lib.hid (ownTimer_but (But.own1 HR.out (b2 := w4.heap.size) (by omega) k (.int .i64 q)) (But.drew (fun _ => False) _) (fun h => h))
          have HI5 : Hid (OwnI (wr.setCell ⟨w4.heap.size, k, none⟩ (.int .i64 q)).drew w.heap.size (w4.heap.size + 1) (some ⟨w4.heap.size, 0, none⟩) (tickF d0 N (k + 1))) := Lib.hid (ownI_but hIp (But.drew (fun _ => False) _) (fun h => h))
          have HB5 : Hid (Below w.heap.size w (wr.setCell ⟨w4.heap.size, k, none⟩ (.int .i64 q)).drew ∧ w4.heap.size + 1 ≤ (wr.setCell ⟨w4.heap.size, k, none⟩ (.int .i64 q)).drew.heap.size) := Lib.hid ⟨(HB.out.1.setCell (p := ⟨w4.heap.size, k, none⟩) hs4 _).drew, Nat.le_trans HB.out.2 (But.setCell (p := fun _ => True) wr (a := ⟨w4.heap.size, k, none⟩) trivial _).size⟩
          have HR2 := Lib.hid r2
          generalize aheadT d0 N k = ah at a0 k0 k1 HKK hq hr
          have t1 : (c0 + ah).tdiv l0 = q := by rw [Int.tdiv_eq_ediv_of_nonneg (by omega), hq]
          have t2 : (c0 + ah).tmod l0 = r := by rw [Int.tmod_eq_emod_of_nonneg (by omega), hr]
          have hz : (l0 == 0) = false := by simpa using hl
          have hq0 : 0 ≤ q := by rw [← hq]; exact Int.ediv_nonneg (by omega) (by omega)
          have hq1 : q ≤ c0 + ah := by rw [← hq]; exact Int.ediv_le_self _ (by omega)
          have hr0 : 0 ≤ r := by rw [← hr]; exact Int.emod_nonneg _ (by omega)
          have hr1 : r < l0 := by rw [← hr]; exact Int.emod_lt_of_pos _ l1
          clear r1 r2 HR HI HPut HIput hIp e9 HKK
          go_wp2
          go_still_tail 16, (by kernel_rfl)
          change wpList _ _ _ _ _ wr.drew
          go_wp2
          rw [t1]
          clear g0 g1 g2 gz0 j0 jz a0
          generalize (wr.setCell ⟨w4.heap.size, k, none⟩ (.int .i64 q)).drew = w5 at HR5 HI5 HB5 ⊢
          obtain ⟨b, m4, f4, eA, ⟨g3, g4, g5⟩, gy, -, -, -, -, hput2, -, -⟩ := HR5.out.put k (by rw [tickR_len]; exact hlt)
          injection eA with eA
          injection eA with eA _ _
          subst eA
          rw [tickR_at d0 N k k hlt, if_neg (Nat.lt_irrefl _), HX.out] at g3 g4 hput2
          simp only at g3 g4 hput2
          have hR2 := hput2 r
          rw [HR2.out] at hR2
          have gy0 := gy (k * 3)
          have HR6 : Hid (OwnTimer (w5.setCell ⟨Bk, k * 3, none⟩ (.int .i64 r)).drew w.heap.size w4.heap.size (some ⟨Bk, 0, none⟩) (tickR d0 N (k + 1))) := Lib.hid (ownTimer_but hR2 (But.drew (fun _ => False) _) (fun h => h))
          have HI6 : Hid (OwnI (w5.setCell ⟨Bk, k * 3, none⟩ (.int .i64 r)).drew w.heap.size (w4.heap.size + 1) (some ⟨w4.heap.size, 0, none⟩) (tickF d0 N (k + 1))) := Lib.hid (ownI_but (But.own2 HI5.out (b1 := Bk) (by omega) (k * 3) (.int .i64 r)) (But.drew (fun _ => False) _) (fun h => h))
          have HB6 : Hid (Below w.heap.size w (w5.setCell ⟨Bk, k * 3, none⟩ (.int .i64 r)).drew ∧ w4.heap.size + 1 ≤ (w5.setCell ⟨Bk, k * 3, none⟩ (.int .i64 r)).drew.heap.size) := Lib.hid ⟨(HB5.out.1.setCell (p := ⟨Bk, k * 3, none⟩) q1 _).drew, Nat.le_trans HB5.out.2 (But.setCell (p := fun _ => True) w5 (a := ⟨Bk, k * 3, none⟩) trivial _).size⟩
          clear gy hput2 hR2 HR2 HX HR5 HI5 HB5
          go_still_tail 17, (by kernel_rfl)
          change wpList _ _ _ _ _ w5.drew
          go_wp2
          go_roundw
          case rel => exact ⟨k + 1, by omega, by go_num, HR6, HI6, HB6⟩
          case measure => simp [intOf]; omega
      | false =>
        have HKK : Hid (ksT (c0, l0, false) N (aheadT d0 N k) = N) := Lib.hid rfl
        rw [HKK.out] at hK
        obtain ⟨k0, k1⟩ := hK
        clear hx
        by_cases hl : l0 = 0
        · subst hl
          obtain ⟨r1, r2⟩ := round_off (N := N) hlt HX.out
          have HR2 : Hid (OwnTimer wr w.heap.size w4.heap.size (some ⟨Bk, 0, none⟩) (tickR d0 N (k + 1))) := Lib.hid (by rw [r2]; exact HR.out)
          have HI2 : Hid (OwnI wr w.heap.size (w4.heap.size + 1) (some ⟨w4.heap.size, 0, none⟩) (tickF d0 N (k + 1))) := Lib.hid (by rw [tickF_same d0 N k hlt r1]; exact HI.out)
          generalize aheadT d0 N k = ah at HKK
          clear r1 r2 HR HI HPut HIput
          go_wp2
          go_roundw
          case rel => exact ⟨k + 1, by omega, by go_num, HR2, HI2, HB⟩
          case measure => simp [intOf]; omega
        · have l1 : 0 < l0 := by omega
          obtain ⟨r1, r2⟩ := round_on (N := N) hlt HX.out hl HKK.out
          obtain ⟨q, hq⟩ : ∃ q, (c0 + N) / l0 = q := ⟨_, rfl⟩
          obtain ⟨r, hr⟩ : ∃ r, (c0 + N) % l0 = r := ⟨_, rfl⟩
          rw [hq] at r1
          rw [hr] at r2
          have hIp := HIput.out q
          have e9 := tickF_next d0 N k hlt
          rw [r1] at e9
          rw [e9] at hIp
          have HR5 : Hid (OwnTimer (wr.setCell ⟨w4.heap.size, k, none⟩ (.int .i64 q)).drew w.heap.size w4.heap.size (some ⟨Bk, 0, none⟩) (tickR d0 N k)) := Lib.hid (ownTimer_but (But.own1 HR.out (b2 := w4.heap.size) (by omega) k (.int .i64 q)) (But.drew (fun _ => False) _) (fun h => h))
          have HI5 : Hid (OwnI (wr.setCell ⟨w4.heap.size, k, none⟩ (.int .i64 q)).drew w.heap.size (w4.heap.size + 1) (some ⟨w4.heap.size, 0, none⟩) (tickF d0 N (k + 1))) := Lib.hid (ownI_but hIp (But.drew (fun _ => False) _) (fun h => h))
          have HB5 : Hid (Below w.heap.size w (wr.setCell ⟨w4.heap.size, k, none⟩ (.int .i64 q)).drew ∧ w4.heap.size + 1 ≤ (wr.setCell ⟨w4.heap.size, k, none⟩ (.int .i64 q)).drew.heap.size) := Lib.hid ⟨(HB.out.1.setCell (p := ⟨w4.heap.size, k, none⟩) hs4 _).drew, Nat.le_trans HB.out.2 (But.setCell (p := fun _ => True) wr (a := ⟨w4.heap.size, k, none⟩) trivial _).size⟩
          have HR2 := Lib.hid r2
          generalize aheadT d0 N k = ah at HKK
          have t1 : (c0 + N).tdiv l0 = q := by rw [Int.tdiv_eq_ediv_of_nonneg (by omega), hq]
          have t2 : (c0 + N).tmod l0 = r := by rw [Int.tmod_eq_emod_of_nonneg (by omega), hr]
          have hz : (l0 == 0) = false := by simpa using hl
          have hq0 : 0 ≤ q := by rw [← hq]; exact Int.ediv_nonneg (by omega) (by omega)
          have hq1 : q ≤ c0 + N := by rw [← hq]; exact Int.ediv_le_self _ (by omega)
          have hr0 : 0 ≤ r := by rw [← hr]; exact Int.emod_nonneg _ (by omega)
          have hr1 : r < l0 := by rw [← hr]; exact Int.emod_lt_of_pos _ l1
          clear r1 r2 HR HI HPut HIput hIp e9 HKK
          go_wp2
          go_still_tail 16, (by kernel_rfl)
          change wpList _ _ _ _ _ wr.drew
          go_wp2
          rw [t1]
          clear g0 g1 g2 gz0 j0 jz
          generalize (wr.setCell ⟨w4.heap.size, k, none⟩ (.int .i64 q)).drew = w5 at HR5 HI5 HB5 ⊢
          obtain ⟨b, m4, f4, eA, ⟨g3, g4, g5⟩, gy, -, -, -, -, hput2, -, -⟩ := HR5.out.put k (by rw [tickR_len]; exact hlt)
          injection eA with eA
          injection eA with eA _ _
          subst eA
          rw [tickR_at d0 N k k hlt, if_neg (Nat.lt_irrefl _), HX.out] at g3 g4 hput2
          simp only at g3 g4 hput2
          have hR2 := hput2 r
          rw [HR2.out] at hR2
          have gy0 := gy (k * 3)
          have HR6 : Hid (OwnTimer (w5.setCell ⟨Bk, k * 3, none⟩ (.int .i64 r)).drew w.heap.size w4.heap.size (some ⟨Bk, 0, none⟩) (tickR d0 N (k + 1))) := Lib.hid (ownTimer_but hR2 (But.drew (fun _ => False) _) (fun h => h))
          have HI6 : Hid (OwnI (w5.setCell ⟨Bk, k * 3, none⟩ (.int .i64 r)).drew w.heap.size (w4.heap.size + 1) (some ⟨w4.heap.size, 0, none⟩) (tickF d0 N (k + 1))) := Lib.hid (ownI_but (But.own2 HI5.out (b1 := Bk) (by omega) (k * 3) (.int .i64 r)) (But.drew (fun _ => False) _) (fun h => h))
          have HB6 : Hid (Below w.heap.size w (w5.setCell ⟨Bk, k * 3, none⟩ (.int .i64 r)).drew ∧ w4.heap.size + 1 ≤ (w5.setCell ⟨Bk, k * 3, none⟩ (.int .i64 r)).drew.heap.size) := Lib.hid ⟨(HB5.out.1.setCell (p := ⟨Bk, k * 3, none⟩) q1 _).drew, Nat.le_trans HB5.out.2 (But.setCell (p := fun _ => True) w5 (a := ⟨Bk, k * 3, none⟩) trivial _).size⟩
          clear gy hput2 hR2 HR2 HX HR5 HI5 HB5
          go_still_tail 17, (by kernel_rfl)
          change wpList _ _ _ _ _ w5.drew
          go_wp2
          go_roundw
          case rel => exact ⟨k + 1, by omega, by go_num, HR6, HI6, HB6⟩
          case measure => simp [intOf]; omega
    · obtain rfl : k = 4 := by omega
      go_wp2
      go_ret2
      exact ⟨Bk, w4.heap.size, _, _, rfl, Lib.hid (OwnR.wide HR.out (Nat.le_refl _) (by have := HB.out.2; omega)), Lib.hid (OwnI.wideB HI.out (Nat.le_refl _) HB.out.2), by omega, HB.out.1⟩
end Go.Proofs.Ytagdclbpgkilgaa
