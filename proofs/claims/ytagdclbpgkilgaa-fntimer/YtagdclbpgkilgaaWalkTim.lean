/- The laws FnTimer and FnChain, walked. -/
import Derived.Test.YtagdclbpgkilgaaTimSum
import Derived.Test.YtagdclbpgkilgaaDrawTim
import Derived.Test.YtagdclbpgkilgaaAt2
import Derived.Test.YtagdclbpgkilgaaOpenBytes
import Derived.BigQuiet
namespace Go.Proofs.Ytagdclbpgkilgaa
open Go.RowKit

set_option maxRecDepth 100000 in
theorem sameIntsT (A A' : Option Addr) (n c c' : Nat) (zs : List Int) (w : World) (hl : zs.length = n) (hn : n ≤ 4096) (h : IntL w A zs) (h' : IntL w A' zs) :
    Calls Try.prog 23 #[.slice A n c, .slice A' n c'] w fun e w' => e = .returned (.bool true) ∧ Below w.heap.size w w' := by
  have HL := Lib.hid hl
  have H := Lib.hid h
  have H' := Lib.hid h'
  clear hl h h'
  have hb : ((n : Int) != (n : Int)) = false := by simp
  go_enter Try.func23, Try.ntmps23
  go_wp2
  go_loopw [5] (fun i wr => ∃ k : Nat, k ≤ n ∧ i = .int .i64 k ∧ Below w.heap.size w wr) (fun i _ => n - (intOf i).toNat)
  case atStart => exact ⟨0, Nat.zero_le _, rfl, Below.refl _ _⟩
  case round =>
    obtain ⟨k, hk, rfl, hbw⟩ := hrel
    by_cases hlt : k < n
    · obtain ⟨b, off, rfl, hc⟩ := (H.out.below hbw) k (by rw [HL.out]; exact hlt)
      obtain ⟨b', off', rfl, hc'⟩ := (H'.out.below hbw) k (by rw [HL.out]; exact hlt)
      generalize zs.getD k 0 = x at hc hc'
      have hi : (k : Int) < (n : Int) := by omega
      have hq1 : (x != x) = false := by simp
      have hq2 : (x == x) = true := by simp
      go_wp2
      go_quiet (fail)
      go_wp2
      go_roundw
      case rel => exact ⟨k + 1, by omega, by go_num, below_drewN hbw _⟩
      case measure => simp [intOf]; omega
    · go_wp2
      go_ret
      exact ⟨rfl, hbw⟩
set_option maxRecDepth 100000 in
theorem sameTimersT (A A' : Option Addr) (n c c' : Nat) (rs : List TTimer) (w : World) (hl : rs.length = n) (hn : n ≤ 4096) (h : RowTimer w A rs) (h' : RowTimer w A' rs) :
    Calls Try.prog 22 #[.slice A n c, .slice A' n c'] w fun e w' => e = .returned (.bool true) ∧ Below w.heap.size w w' := by
  have HL := Lib.hid hl
  have H := Lib.hid h
  have H' := Lib.hid h'
  clear hl h h'
  have hb : ((n : Int) != (n : Int)) = false := by simp
  go_enter Try.func22, Try.ntmps22
  go_wp2
  go_loopw [5] (fun i wr => ∃ k : Nat, k ≤ n ∧ i = .int .i64 k ∧ Below w.heap.size w wr) (fun i _ => n - (intOf i).toNat)
  case atStart => exact ⟨0, Nat.zero_le _, rfl, Below.refl _ _⟩
  case round =>
    obtain ⟨k, hk, rfl, hbw⟩ := hrel
    by_cases hlt : k < n
    · obtain ⟨b, off, rfl, c0, c1, c2⟩ := (RowTimer.below H.out hbw).at k (by rw [HL.out]; exact hlt)
      obtain ⟨b', off', rfl, d0, d1, d2⟩ := (RowTimer.below H'.out hbw).at k (by rw [HL.out]; exact hlt)
      generalize rs.getD k zTimer = x at c0 c1 c2 d0 d1 d2
      obtain ⟨x0, x1, x2⟩ := x
      have hi : (k : Int) < (n : Int) := by omega
      go_wp2
      go_quiet (fail)
      go_wp2
      go_roundw
      case rel => exact ⟨k + 1, by omega, by go_num, below_drewN hbw _⟩
      case measure => simp [intOf]; omega
    · go_wp2
      go_ret
      exact ⟨rfl, hbw⟩
/-- Ticks of a valid list: what they hand back, read. -/
def GivesT (rs : List TTimer) (m : Int) (w : World) (e : Ending) (w' : World) : Prop :=
  ∃ A B c d, e = .returned (.tuple #[.slice A 4 c, .slice B 4 d, .int .i64 0]) ∧ Hid (RowTimer w' A (tickR rs m 4)) ∧ Hid (IntL w' B (tickF rs m 4)) ∧ Below w.heap.size w w'
theorem gives_T {rs : List TTimer} {m : Int} {w : World} {e : Ending} {w' : World} (ht : timB rs = true) (hm : ntB m = true) (h : GivesTick (tickRs rs m) (tickFs rs m) (tickC rs m) w e w') : GivesT rs m w e w' := by
  have e1 : tickC rs m = 0 := by unfold tickC; rw [if_neg (by rw [timB_len ht]; omega), if_pos ht, if_pos hm]
  have e2 : tickRs rs m = tickR rs m 4 := by unfold tickRs; rw [if_pos e1]
  have e3 : tickFs rs m = tickF rs m 4 := by unfold tickFs; rw [if_pos e1]
  rw [e1, e2, e3] at h
  obtain ⟨A, B, c, d, rfl, HO, hb⟩ := h
  obtain ⟨o1, o2, -⟩ := OwnA.uncons HO.out
  obtain ⟨o3, -, -⟩ := OwnA.uncons o2
  rw [tickR_len] at o1
  rw [tickF_len] at o3
  obtain ⟨B', c', eB, o3⟩ := o3
  injection eB with eB _ _
  subst eB
  exact ⟨A, B, c, d, by rw [tickR_len, tickF_len], Lib.hid (OwnTimer.reads (own_rTimer.1 o1).2), Lib.hid o3.reads, hb⟩
set_option maxRecDepth 100000 in
theorem implT (A0 : Option Addr) (c0 : Nat) (rs : List TTimer) (m : Int) (w : World) (ht : timB rs = true) (hm : ntB m = true) (h : RowTimer w A0 rs) :
    Calls Try.prog 20 #[.slice A0 4 c0, .int .i64 m] w (GivesT rs m w) := by
  have hl := timB_len ht
  have := implTick A0 c0 rs m w h (by rw [hl]; decide)
  rw [hl] at this
  exact this.mono (fun e w' q => gives_T ht hm q)
set_option maxRecDepth 100000 in
theorem specT (A0 : Option Addr) (c0 : Nat) (rs : List TTimer) (m : Int) (w : World) (ht : timB rs = true) (hm : ntB m = true) (h : RowTimer w A0 rs) :
    Calls Try.prog 21 #[.slice A0 4 c0, .int .i64 m] w (GivesT rs m w) := by
  have hl := timB_len ht
  have := specTick A0 c0 rs m w h (by rw [hl]; decide)
  rw [hl] at this
  exact this.mono (fun e w' q => gives_T ht hm q)
set_option maxRecDepth 100000 in
set_option maxHeartbeats 16000000 in
theorem walkTimer (A : Option Addr) (n c : Nat) (zs : List Nat) (A' : Option Addr) (n' c' : Nat) (zs' : List Nat) (w : World) (hl : zs.length = n) (hl' : zs'.length = n') (hn : n ≤ maxLen) (hn' : n' ≤ maxLen) (h : ByB w w.heap.size A zs) (h' : ByB w w.heap.size A' zs') :
    Calls Try.prog 4 #[.slice A n c, .slice A' n' c'] w fun e w' => e = .returned (.bool true) ∧ Below w.heap.size w w' := by
  unfold maxLen at hn hn'
  by_cases hle : n ≤ 1048576
  · by_cases hle' : n' ≤ 1048576
    · have i1 : ¬ (1048576 : Int) < (n : Int) := by omega
      have i2 : ¬ (1048576 : Int) < (n' : Int) := by omega
      have HD := Lib.hid (timersDrawn A n c zs w (by unfold maxLen; omega) hl h)
      have HA0 : Hid (∀ W, Below w.heap.size w W → Calls Try.prog 11 #[.slice A' n' c', .int .i64 0, .int .i64 300] W fun e w' => e = .returned (.int .i64 (atOf zs' 0 300 : Nat)) ∧ Below W.heap.size W w') := Lib.hid (fun W hb => lawAtE 0 300 A' n' c' zs' W (by omega) (by omega) (by omega) hle' hl' (h'.step hb))
      have HA1 : Hid (∀ W, Below w.heap.size w W → Calls Try.prog 11 #[.slice A' n' c', .int .i64 1, .int .i64 300] W fun e w' => e = .returned (.int .i64 (atOf zs' 1 300 : Nat)) ∧ Below W.heap.size W w') := Lib.hid (fun W hb => lawAtE 1 300 A' n' c' zs' W (by omega) (by omega) (by omega) hle' hl' (h'.step hb))
      have hN := atOf_lt zs' 0 300 (by omega)
      have hK := atOf_lt zs' 1 300 (by omega)
      generalize atOf zs' 0 300 = N at HA0 hN
      generalize atOf zs' 1 300 = K at HA1 hK
      unfold GivesTim at HD
      clear hl hl' hn hn' h h' hle hle'
      go_enter Try.func4, Try.ntmps4
      go_wp2_with fail
      refine HD.out.mono ?_
      rintro e w1 ⟨rs, B, d, rfl, HT, HO, HB1⟩
      have HT2 := Lib.hid (tick_ok (N : Int) HT.out)
      have hm1 : ntB ((N : Int) + (K : Int)) = true := by unfold ntB; simp; omega
      have hm2 : ntB (N : Int) = true := by unfold ntB; simp; omega
      have hm3 : ntB (K : Int) = true := by unfold ntB; simp; omega
      have HI1 := Lib.hid (fun W (h : RowTimer W B rs) => implT B d rs _ W HT.out hm1 h)
      have HI2 := Lib.hid (fun W (h : RowTimer W B rs) => implT B d rs _ W HT.out hm2 h)
      have HI3 := Lib.hid (fun A c W (h : RowTimer W A (tickR rs N 4)) => implT A c _ _ W HT2.out hm3 h)
      have HSp := Lib.hid (fun W (h : RowTimer W B rs) => specT B d rs _ W HT.out hm1 h)
      unfold GivesT at HI1 HI2 HI3 HSp
      have HR1 := Lib.hid (OwnTimer.reads HO.out)
      have HF1 := Lib.hid (fun i hi => firesT_range HT.out hm2 i hi)
      have HF2 := Lib.hid (fun i hi => firesT_range HT2.out hm3 i hi)
      clear HD HO hm1 hm2 hm3
      go_wp2_with fail
      refine (HA0.out w1 HB1.out).mono ?_
      rintro e w2 ⟨rfl, hb2⟩
      have HB2 := Lib.hid (bt HB1.out hb2)
      have HR2 := Lib.hid (RowTimer.below HR1.out hb2)
      clear hb2 HB1 HR1 HA0
      go_wp2_with fail
      refine (HA1.out w2 HB2.out).mono ?_
      rintro e w3 ⟨rfl, hb3⟩
      have HB3 := Lib.hid (bt HB2.out hb3)
      have HR3 := Lib.hid (RowTimer.below HR2.out hb3)
      clear hb3 HB2 HR2 HA1
      go_wp2_with fail
      refine (HI1.out w3 HR3.out).mono ?_
      rintro e w4 ⟨X, P, xc, pc, rfl, HX4, HP4, hb4⟩
      have HB4 := Lib.hid (bt HB3.out hb4)
      have HR4 := Lib.hid (RowTimer.below HR3.out hb4)
      clear hb4 HB3 HR3 HI1
      go_wp2_with fail
      refine (HI2.out w4 HR4.out).mono ?_
      rintro e w5 ⟨Y, Q, yc, qc, rfl, HY5, HQ5, hb5⟩
      have HB5 := Lib.hid (bt HB4.out hb5)
      have HR5 := Lib.hid (RowTimer.below HR4.out hb5)
      have HX5 := Lib.hid (RowTimer.below HX4.out hb5)
      have HP5 := Lib.hid (HP4.out.below hb5)
      clear hb5 HB4 HR4 HI2 HX4 HP4
      go_wp2_with fail
      refine (HI3.out Y yc w5 HY5.out).mono ?_
      rintro e w6 ⟨Z, R, zc, rc, rfl, HZ6, HR6', hb6⟩
      have HB6 := Lib.hid (bt HB5.out hb6)
      have HR6 := Lib.hid (RowTimer.below HR5.out hb6)
      have HX6 := Lib.hid (RowTimer.below HX5.out hb6)
      have HP6 := Lib.hid (HP5.out.below hb6)
      have HQ6 := Lib.hid (HQ5.out.below hb6)
      clear hb6 HB5 HR5 HI3 HX5 HP5 HQ5 HY5
      go_wp2_with fail
      refine (HSp.out w6 HR6.out).mono ?_
      rintro e w7 ⟨T, U, tc, uc, rfl, HT7, HU7, hb7⟩
      have HB7 := Lib.hid (bt HB6.out hb7)
      have HX7 := Lib.hid (RowTimer.below HX6.out hb7)
      have HZ7 : Hid (RowTimer w7 Z (tickR rs ((N : Int) + (K : Int)) 4)) := Lib.hid (by rw [← tick_two]; exact RowTimer.below HZ6.out hb7)
      have HP7 := Lib.hid (HP6.out.below hb7)
      have HQ7 := Lib.hid (HQ6.out.below hb7)
      have HR7 := Lib.hid (HR6'.out.below hb7)
      have HOk := Lib.hid (tick_ok ((N : Int) + (K : Int)) HT.out)
      clear hb7 HB6 HR6 HSp HX6 HP6 HQ6 HZ6 HR6'
      go_wp2_with fail
      refine (sameTimersT X Z 4 xc zc _ w7 (tickR_len _ _ _) (by omega) HX7.out HZ7.out).mono ?_
      rintro e w8 ⟨rfl, hb8⟩
      go_wp2_with fail
      refine (sameTimersT X T 4 xc tc _ w8 (tickR_len _ _ _) (by omega) (RowTimer.below HX7.out hb8) (RowTimer.below HT7.out hb8)).mono ?_
      rintro e w9 ⟨rfl, hb9⟩
      have b79 := bt hb8 hb9
      go_wp2_with fail
      refine (sameIntsT P U 4 pc uc _ w9 (tickF_len _ _ _) (by omega) (HP7.out.below b79) (HU7.out.below b79)).mono ?_
      rintro e w10 ⟨rfl, hb10⟩
      have b710 := bt b79 hb10
      go_wp2_with fail
      refine (implTimersOK X 4 xc _ w10 (tickR_len _ _ _) (by decide) (RowTimer.below HX7.out b710)).mono ?_
      rintro e w11 ⟨rfl, hb11⟩
      have b711 := bt b710 hb11
      have HBe := Lib.hid (bt HB7.out b711)
      have HPe := Lib.hid (HP7.out.below b711)
      have HQe := Lib.hid (HQ7.out.below b711)
      have HRe := Lib.hid (HR7.out.below b711)
      have hOk := HOk.out
      have HSum := Lib.hid (fun i hi => tickF_two rs (N : Int) (K : Int) i hi)
      have HFa : Hid (∀ i, i < 4 → 0 ≤ (tickF rs (N : Int) 4).getD i 0 ∧ (tickF rs (N : Int) 4).getD i 0 ≤ 100255) := Lib.hid (fun i hi => by rw [tickF_at _ _ _ _ hi, if_pos hi]; exact HF1.out i hi)
      have HFb : Hid (∀ i, i < 4 → 0 ≤ (tickF (tickR rs (N : Int) 4) (K : Int) 4).getD i 0 ∧ (tickF (tickR rs (N : Int) 4) (K : Int) 4).getD i 0 ≤ 100255) := Lib.hid (fun i hi => by rw [tickF_at _ _ _ _ hi, if_pos hi]; exact HF2.out i hi)
      clear hb8 hb9 b79 hb10 b710 hb11 b711 HB7 HX7 HZ7 HP7 HQ7 HR7 HT7 HU7 HT2 HOk HF1 HF2
      rw [hOk]
      clear hOk
      go_wp2
      go_loopw [20] (fun i wr => ∃ k : Nat, k ≤ 4 ∧ i = .int .i64 k ∧ Below w11.heap.size w11 wr) (fun i _ => 4 - (intOf i).toNat)
      case atStart => exact ⟨0, Nat.zero_le _, rfl, Below.refl _ _⟩
      case round =>
        obtain ⟨k, hk, rfl, hbw⟩ := hrel
        by_cases hlt : k < 4
        · obtain ⟨b1, o1, rfl, p1⟩ := (HPe.out.below hbw) k (by rw [tickF_len]; exact hlt)
          obtain ⟨b2, o2, rfl, p2⟩ := (HQe.out.below hbw) k (by rw [tickF_len]; exact hlt)
          obtain ⟨b3, o3, rfl, p3⟩ := (HRe.out.below hbw) k (by rw [tickF_len]; exact hlt)
          have hs := HSum.out k hlt
          have ha := HFa.out k hlt
          have hb := HFb.out k hlt
          rw [hs] at p1
          generalize (tickF rs (N : Int) 4).getD k 0 = x at p1 p2 ha
          generalize (tickF (tickR rs (N : Int) 4) (K : Int) 4).getD k 0 = y at p1 p3 hb
          obtain ⟨a0, a1⟩ := ha
          obtain ⟨b0, b1'⟩ := hb
          have hi : (k : Int) < 4 := by omega
          clear hs
          go_wp2
          go_quiet (fail)
          go_wp2
          go_roundw
          case rel => exact ⟨k + 1, by omega, by go_num, below_drewN hbw _⟩
          case measure => simp [intOf]; omega
        · have hi : ¬ (k : Int) < 4 := by omega
          go_wp2
          go_ret
          exact ⟨rfl, bt HBe.out hbw⟩
    · have i1 : ¬ (1048576 : Int) < (n : Int) := by omega
      have i2 : (1048576 : Int) < (n' : Int) := by omega
      go_enter Try.func4, Try.ntmps4
      go_wp2
      go_ret
      exact ⟨rfl, Below.refl _ _⟩
  · have i1 : (1048576 : Int) < (n : Int) := by omega
    go_enter Try.func4, Try.ntmps4
    go_wp2
    go_ret
    exact ⟨rfl, Below.refl _ _⟩
end Go.Proofs.Ytagdclbpgkilgaa
