/- TickTimers on the model's side; the exact laws' contracts. -/
import Derived.Test.YtagdclbpgkilgaaTimSpec
namespace Go.Proofs.Ytagdclbpgkilgaa
open Go.RowKit

theorem res3 {fn : Func} {t u v : Tmp} (h : fn.results = #[.tmp t, .tmp u, .tmp v]) (tmps : Array Value) (P : Program) (w : World) :
    (results fn tmps).run P w = .ok (.tuple #[tmps.getD t undef, tmps.getD u undef, tmps.getD v undef]) w := by
  unfold results
  rw [h]
  simp
set_option maxRecDepth 100000 in
set_option maxHeartbeats 4000000 in
theorem specTick (A0 : Option Addr) (c0 : Nat) (d0 : List TTimer) (N : Int) (w : World) (hrow : RowTimer w A0 d0) (hn : d0.length ≤ maxLen) :
    Calls Try.prog 21 #[.slice A0 d0.length c0, .int .i64 N] w (GivesTick (tickRs d0 N) (tickFs d0 N) (tickC d0 N) w) := by
  generalize hl : d0.length = n at hn ⊢
  have HD := Lib.hid (specTimersOK A0 n c0 d0 w hl hn hrow)
  have HL := Lib.hid hl
  have HRow := Lib.hid hrow
  unfold maxLen at hn
  clear hl hrow
  by_cases hz : timC d0 = 0
  · have h1 := timC0 hz
    have hn4 : n = 4 := by rw [← HL.out]; exact timB_len h1
    subst hn4
    rw [h1] at HD
    cases hN : ntB N with
    | false =>
      have e1 : tickC d0 N = 4 := by rw [(timC_yes hz).2, hN]; rfl
      have e2 : tickRs d0 N = [] := by unfold tickRs; rw [if_neg (by omega)]
      have e3 : tickFs d0 N = [] := by unfold tickFs; rw [if_neg (by omega)]
      rw [e1, e2, e3]
      have k0 : decide (0 ≤ N ∧ N ≤ 100000) = false := hN
      clear e1 e2 e3 hz h1 hN
      go_enter Try.func21, Try.ntmps21
      go_wp2_with fail
      refine HD.out.mono ?_
      rintro e w1 ⟨rfl, hb1⟩
      have hb2 := bt (bt hb1 (alloc_below w1 (.cells #[] 54))) (alloc_below _ (.cells #[] 3))
      go_wp2_with (first | (go_at_call 51; refine (inT _ _ _ _).mono ?_; rintro e w' ⟨rfl, rfl⟩; rw [k0]))
      refine bodyPost_ret (res3 rfl _ _ _) rfl ?_
      exact givesTick_none _ _ _ _ _ _ _ hb2
    | true =>
      have e1 : tickC d0 N = 0 := by rw [(timC_yes hz).2, hN]; rfl
      have e2 : tickRs d0 N = tickR d0 N 4 := by unfold tickRs; rw [if_pos e1]
      have e3 : tickFs d0 N = tickF d0 N 4 := by unfold tickFs; rw [if_pos e1]
      rw [e1, e2, e3]
      have k0 : decide (0 ≤ N ∧ N ≤ 100000) = true := hN
      have HTk := Lib.hid (fun W (hb : Below w.heap.size w W) => l10Tick A0 c0 d0 N W h1 hN (RowTimer.below HRow.out hb))
      clear e1 e2 e3 hz h1 hN
      go_enter Try.func21, Try.ntmps21
      go_wp2_with fail
      refine HD.out.mono ?_
      rintro e w1 ⟨rfl, hb1⟩
      go_wp2_with (first | (go_at_call 51; refine (inT _ _ _ _).mono ?_; rintro e w' ⟨rfl, rfl⟩; rw [k0]))
      refine (HTk.out w1 hb1).mono ?_
      rintro e w2 ⟨b1, b2, c, d, rfl, O1, O2, hne, hb2⟩
      have HG := Lib.hid (givesTick_some (w := w) (c := c) (d := d) (tickR_len d0 N 4) (tickF_len d0 N 4) (OwnR.wide O1.out hb1.size (Nat.le_refl _)) (OwnI.wideB O2.out hb1.size (Nat.le_refl _)) hne (bt hb1 hb2))
      clear O1 O2 HTk
      go_wp2
      refine bodyPost_ret (res3 rfl _ _ _) rfl ?_
      exact HG.out
  · have e1 := (timC_no hz).2 N
    have e2 : tickRs d0 N = [] := by unfold tickRs; rw [if_neg (by rw [e1]; exact hz)]
    have e3 : tickFs d0 N = [] := by unfold tickFs; rw [if_neg (by rw [e1]; exact hz)]
    rw [e2, e3, e1]
    clear e1 e2 e3
    have HS : Hid (timC d0 = if 4096 < n then 2 else if timB d0 = true then 0 else 1) := Lib.hid (by unfold timC; rw [HL.out])
    by_cases hm : 4096 < n
    · have hq : (4096 : Int) < (n : Int) := by omega
      have e1 : timC d0 = 2 := by rw [HS.out, if_pos hm]
      rw [e1]
      have hb1 := bt (alloc_below w (.cells #[] 54)) (alloc_below _ (.cells #[] 3))
      clear hm HS e1 HD hz
      go_enter Try.func21, Try.ntmps21
      go_wp2
      refine bodyPost_ret (res3 rfl _ _ _) rfl ?_
      exact givesTick_none _ _ _ _ _ _ _ hb1
    · have hq : ¬ (4096 : Int) < (n : Int) := by omega
      rw [if_neg hm] at HS
      cases h1 : timB d0 with
      | true => rw [h1] at HS; exact absurd HS.out hz
      | false =>
        rw [h1] at HD HS
        have e1 : timC d0 = 1 := by rw [HS.out]; rfl
        rw [e1]
        clear hm HS e1 h1 hz
        go_enter Try.func21, Try.ntmps21
        go_wp2_with fail
        refine HD.out.mono ?_
        rintro e w1 ⟨rfl, hb1⟩
        have hb2 := bt (bt hb1 (alloc_below w1 (.cells #[] 54))) (alloc_below _ (.cells #[] 3))
        go_wp2
        refine bodyPost_ret (res3 rfl _ _ _) rfl ?_
        exact givesTick_none _ _ _ _ _ _ _ hb2
theorem tick_bnd (rs : List TTimer) (n : Int) : lenA [rTimer (tickRs rs n), Lf.I (tickFs rs n)] ≤ 4294967296 := by
  simp only [lenA, len_rTimer, Lf.len_I]
  have := tickRs_len rs n
  have := tickFs_len rs n
  omega
section
variable (A0 : Option Addr) (c0 : Nat) (d0 : List TTimer) (N : Int) (w : World)
set_option maxRecDepth 100000 in
theorem specTickTimersA (h : RepA w [.slice A0 d0.length c0] [rTimer d0]) (_c : CapA [.slice A0 d0.length c0]) (z : szA [rTimer d0] ≤ 1048576) :
    Calls Try.prog 21 #[.slice A0 d0.length c0, .int .i64 N] w (GivesTick (tickRs d0 N) (tickFs d0 N) (tickC d0 N) w) := specTick A0 c0 d0 N w (rowsOfT h) (rowsLenT z)
set_option maxRecDepth 100000 in
theorem implTickTimersA (h : RepA w [.slice A0 d0.length c0] [rTimer d0]) (_c : CapA [.slice A0 d0.length c0]) (z : szA [rTimer d0] ≤ 1048576) :
    Calls Try.prog 20 #[.slice A0 d0.length c0, .int .i64 N] w (GivesTick (tickRs d0 N) (tickFs d0 N) (tickC d0 N) w) := implTick A0 c0 d0 N w (rowsOfT h) (rowsLenT z)
end
end Go.Proofs.Ytagdclbpgkilgaa
