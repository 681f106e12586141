/- The law FnChain, walked. -/
import Derived.Test.YtagdclbpgkilgaaWalkTim
import Derived.Deep.RegionHeld3
namespace Go.Proofs.Ytagdclbpgkilgaa
open Go.RowKit

theorem chain_set1 {p : Int} (hp : 1 ≤ p ∧ p ≤ 9) : setTC newTs 0 p false = 0 ∧ setTR newTs 0 p false = [(0, p, false), zTimer, zTimer, zTimer] := by
  have h1 : setTB 0 p false = true := by unfold setTB iB limB; simp; omega
  have h2 : setTC newTs 0 p false = 0 := by unfold setTC; rw [if_neg (by decide), if_pos timB_new, if_pos h1]
  exact ⟨h2, by unfold setTR; rw [if_pos h2]; rfl⟩
theorem chain_one {p : Int} (hp : 1 ≤ p ∧ p ≤ 9) : timB [(0, p, false), zTimer, zTimer, zTimer] = true :=
  timB_set (k := 0) timB_new (by decide) (by omega) (by omega) (fun _ => rfl)
theorem chain_set2 {p q : Int} (hp : 1 ≤ p ∧ p ≤ 9) (hq : 1 ≤ q ∧ q ≤ 9) : setTC [(0, p, false), zTimer, zTimer, zTimer] 1 q true = 0 ∧ setTR [(0, p, false), zTimer, zTimer, zTimer] 1 q true = chainL p q := by
  have h1 : setTB 1 q true = true := by unfold setTB iB limB; simp; omega
  have h2 : setTC [(0, p, false), zTimer, zTimer, zTimer] 1 q true = 0 := by unfold setTC; rw [if_neg (by simp), if_pos (chain_one hp), if_pos h1]
  exact ⟨h2, by unfold setTR; rw [if_pos h2]; rfl⟩
def GivesS (rs : List TTimer) (w : World) (e : Ending) (w' : World) : Prop :=
  ∃ A c, e = .returned (.tuple #[.slice A 4 c, .int .i64 0]) ∧ Hid (RowTimer w' A rs) ∧ Below w.heap.size w w'
theorem gives_S {rs : List TTimer} {w : World} {e : Ending} {w' : World} (hl : rs.length = 4) (h : GivesTsCode rs 0 w e w') : GivesS rs w e w' := by
  obtain ⟨A, c, rfl, HO, hb⟩ := h
  obtain ⟨o1, -, -⟩ := OwnA.uncons HO.out
  rw [hl] at o1
  exact ⟨A, c, by rw [hl], Lib.hid (OwnTimer.reads (own_rTimer.1 o1).2), hb⟩
set_option maxRecDepth 100000 in
theorem set1T (A0 : Option Addr) (c0 : Nat) {p : Int} (hp : 1 ≤ p ∧ p ≤ 9) (w : World) (h : RowTimer w A0 newTs) :
    Calls Try.prog 25 #[.slice A0 4 c0, .int .i64 0, .int .i64 p, .bool false] w (GivesS [(0, p, false), zTimer, zTimer, zTimer] w) := by
  have := implSetTimer A0 c0 newTs 0 p false w h (by decide)
  rw [(chain_set1 hp).1, (chain_set1 hp).2] at this
  exact this.mono (fun e w' q => gives_S rfl q)
set_option maxRecDepth 100000 in
theorem set2T (A0 : Option Addr) (c0 : Nat) {p q : Int} (hp : 1 ≤ p ∧ p ≤ 9) (hq : 1 ≤ q ∧ q ≤ 9) (w : World) (h : RowTimer w A0 [(0, p, false), zTimer, zTimer, zTimer]) :
    Calls Try.prog 25 #[.slice A0 4 c0, .int .i64 1, .int .i64 q, .bool true] w (GivesS (chainL p q) w) := by
  have := implSetTimer A0 c0 [(0, p, false), zTimer, zTimer, zTimer] 1 q true w h (by simp [maxLen])
  rw [(chain_set2 hp hq).1, (chain_set2 hp hq).2] at this
  exact this.mono (fun e w' q => gives_S rfl q)
theorem boxIntL {W : World} {b : Nat} {a c d e : Int} (h : Box W b 3 #[.int .i64 a, .int .i64 c, .int .i64 d, .int .i64 e]) : IntL W (some ⟨b, 0, none⟩) [a, c, d, e] := fun i hi => by
  have hi' : i = 0 ∨ i = 1 ∨ i = 2 ∨ i = 3 := by
    have : i < 4 := hi
    omega
  refine ⟨b, 0, rfl, ?_⟩
  rcases hi' with rfl | rfl | rfl | rfl
  · exact h.cell 0 rfl
  · exact h.cell 1 rfl
  · exact h.cell 2 rfl
  · exact h.cell 3 rfl
set_option maxRecDepth 100000 in
set_option maxHeartbeats 16000000 in
theorem walkChain (A : Option Addr) (n c : Nat) (zs : List Nat) (A' : Option Addr) (n' c' : Nat) (zs' : List Nat) (w : World) (hl : zs.length = n) (hl' : zs'.length = n') (h : ByB w w.heap.size A zs) (h' : ByB w w.heap.size A' zs') :
    Calls Try.prog 5 #[.slice A n c, .slice A' n' c'] w fun e w' => e = .returned (.bool true) ∧ Below w.heap.size w w' := by
  by_cases hle : n ≤ 1048576
  · by_cases hle' : n' ≤ 1048576
    · have i1 : ¬ (1048576 : Int) < (n : Int) := by omega
      have i2 : ¬ (1048576 : Int) < (n' : Int) := by omega
      have HA0 : Hid (∀ W, Below w.heap.size w W → Calls Try.prog 11 #[.slice A n c, .int .i64 0, .int .i64 9] W fun e w' => e = .returned (.int .i64 (atOf zs 0 9 : Nat)) ∧ Below W.heap.size W w') := Lib.hid (fun W hb => lawAtE 0 9 A n c zs W (by omega) (by omega) (by omega) hle hl (h.step hb))
      have HA1 : Hid (∀ W, Below w.heap.size w W → Calls Try.prog 11 #[.slice A n c, .int .i64 1, .int .i64 9] W fun e w' => e = .returned (.int .i64 (atOf zs 1 9 : Nat)) ∧ Below W.heap.size W w') := Lib.hid (fun W hb => lawAtE 1 9 A n c zs W (by omega) (by omega) (by omega) hle hl (h.step hb))
      have HA2 : Hid (∀ W, Below w.heap.size w W → Calls Try.prog 11 #[.slice A' n' c', .int .i64 0, .int .i64 1000] W fun e w' => e = .returned (.int .i64 (atOf zs' 0 1000 : Nat)) ∧ Below W.heap.size W w') := Lib.hid (fun W hb => lawAtE 0 1000 A' n' c' zs' W (by omega) (by omega) (by omega) hle' hl' (h'.step hb))
      have hP := atOf_lt zs 0 9 (by omega)
      have hQ := atOf_lt zs 1 9 (by omega)
      have hM := atOf_lt zs' 0 1000 (by omega)
      generalize atOf zs 0 9 = P at HA0 hP
      generalize atOf zs 1 9 = Q at HA1 hQ
      generalize atOf zs' 0 1000 = M at HA2 hM
      clear hl hl' h h' hle hle'
      go_enter Try.func5, Try.ntmps5
      go_wp2_with fail
      refine (HA0.out w (Below.refl _ _)).mono ?_
      rintro e w1 ⟨rfl, hb1⟩
      go_wp2_with fail
      refine (HA1.out w1 hb1).mono ?_
      rintro e w2 ⟨rfl, hb2⟩
      have hb2 := bt hb1 hb2
      go_wp2_with fail
      refine (HA2.out w2 hb2).mono ?_
      rintro e w3 ⟨rfl, hb3⟩
      have HB3 := Lib.hid (bt hb2 hb3)
      clear hb1 hb2 hb3 HA0 HA1 HA2
      obtain ⟨p, hp⟩ : ∃ p : Int, 1 + (P : Int) = p := ⟨_, rfl⟩
      obtain ⟨q, hq⟩ : ∃ q : Int, 1 + (Q : Int) = q := ⟨_, rfl⟩
      obtain ⟨m, hm⟩ : ∃ m : Int, (M : Int) = m := ⟨_, rfl⟩
      have hp1 : 1 ≤ p ∧ p ≤ 9 := by omega
      have hq1 : 1 ≤ q ∧ q ≤ 9 := by omega
      have hm1 : 0 ≤ m ∧ m ≤ 999 := by omega
      have HS1 := Lib.hid (fun A c W h => set1T A c hp1 W h)
      have HS2 := Lib.hid (fun A c W h => set2T A c hp1 hq1 W h)
      have HTk := Lib.hid (fun A c W h => implT A c (chainL p q) m W (chain_ok hp1 hq1) (by unfold ntB; simp; omega) h)
      have HN := Lib.hid (fun W => implNewTimersA W)
      unfold GivesS at HS1 HS2
      unfold GivesT at HTk
      go_wp2_with fail
      refine (HN.out w3).mono ?_
      rintro e w4 ⟨A1, d1, rfl, O1, hb4⟩
      have HB4 := Lib.hid (bt HB3.out hb4)
      have HR1 := Lib.hid (OwnTimer.reads (own_rTimer.1 (OwnA.uncons O1.out).1).2)
      simp only [show newTs.length = 4 from rfl]
      clear hb4 HB3 O1 HN
      go_wp2_with fail
      refine (HS1.out A1 d1 w4 HR1.out).mono ?_
      rintro e w5 ⟨A2, d2, rfl, HR2, hb5⟩
      have HB5 := Lib.hid (bt HB4.out hb5)
      clear hb5 HB4 HR1 HS1
      go_wp2_with fail
      refine (HS2.out A2 d2 w5 HR2.out).mono ?_
      rintro e w6 ⟨A3, d3, rfl, HR3, hb6⟩
      have HB6 := Lib.hid (bt HB5.out hb6)
      clear hb6 HB5 HR2 HS2
      go_wp2_with fail
      refine (HTk.out A3 d3 w6 HR3.out).mono ?_
      rintro e w7 ⟨A4, A5, d4, d5, rfl, HR4, HF4, hb7⟩
      have HB7 := Lib.hid (bt HB6.out hb7)
      clear hb7 HB6 HR3 HTk
      obtain ⟨e1, e2, e3⟩ := chain_tick (p := p) (q := q) (n := m) hp1.1 hq1.1
      rw [e1] at HF4
      obtain ⟨b, off, rfl, c0, -, -⟩ := HR4.out.at 0 (by rw [tickR_len]; decide)
      obtain ⟨b', off', eA, c1, -, -⟩ := HR4.out.at 1 (by rw [tickR_len]; decide)
      injection eA with eA
      injection eA with x1 x2 _
      subst x1 x2
      rw [e2] at c0
      rw [e3] at c1
      simp only [Nat.zero_mul, Nat.add_zero, Nat.one_mul] at c0 c1
      have t1 : m.tdiv p = m / p := Int.tdiv_eq_ediv_of_nonneg hm1.1
      have t2 : m.tmod p = m % p := Int.tmod_eq_emod_of_nonneg hm1.1
      have g0 : 0 ≤ m / p := Int.ediv_nonneg hm1.1 (by omega)
      have g1 : m / p ≤ 999 := Int.le_trans (Int.ediv_le_self _ hm1.1) hm1.2
      have t3 : (m / p).tdiv q = m / p / q := Int.tdiv_eq_ediv_of_nonneg g0
      have t4 : (m / p).tmod q = m / p % q := Int.tmod_eq_emod_of_nonneg g0
      have g2 : 0 ≤ m / p / q := Int.ediv_nonneg g0 (by omega)
      have g3 : m / p / q ≤ 999 := Int.le_trans (Int.ediv_le_self _ g0) g1
      have zp : (p == 0) = false := by simpa using (by omega : p ≠ 0)
      have zq : (q == 0) = false := by simpa using (by omega : q ≠ 0)
      have HCk : Hid (∀ W, Below w7.heap.size w7 W → W.cell? ⟨b, off, none⟩ = some (.int .i64 (m % p)) ∧ W.cell? ⟨b, off + 3, none⟩ = some (.int .i64 (m / p % q))) := Lib.hid (fun W hb => ⟨(hb.cell (cell_lt c0)).trans c0, (hb.cell (cell_lt c1)).trans c1⟩)
      clear c0 c1 e1 e2 e3 HR4 hp hq hm hP hQ hM
      have hd7 : Below w7.heap.size w7 w7.drew := (Below.refl _ _).drew
      have HSm := Lib.hid (fun W B c (hb : Below w7.heap.size w7 W) (X : Box W B 3 #[.int .i64 (m / p), .int .i64 (m / p / q), .int .i64 0, .int .i64 0]) => sameIntsT A5 (some ⟨B, 0, none⟩) 4 d5 c [m / p, m / p / q, 0, 0] W rfl (by omega) (HF4.out.below hb) (boxIntL X))
      have X7 : Box (w7.drew.alloc (.cells #[.int .i64 (m / p), .int .i64 (m / p / q), .int .i64 0, .int .i64 0] 3)) w7.heap.size 3 #[.int .i64 (m / p), .int .i64 (m / p / q), .int .i64 0, .int .i64 0] := Box.new w7.drew _ _
      have hd8 := bt hd7 (alloc_below w7.drew (.cells #[.int .i64 (m / p), .int .i64 (m / p / q), .int .i64 0, .int .i64 0] 3))
      have HX7 := Lib.hid X7
      have HD8 := Lib.hid hd8
      have np : ¬ p = 0 := by omega
      have nq : ¬ q = 0 := by omega
      have x1 : IntKind.i64.wrap (m / p) = m / p := IntWalk.i64_in _ (by omega)
      have x2 : IntKind.i64.wrap (m / p / q) = m / p / q := IntWalk.i64_in _ (by omega)
      have e5 : (m % p == m % p) = true := by simp
      have e6 : (m / p % q == m / p % q) = true := by simp
      have e7 : (m / p % q == (IntKind.i64.wrap (m / p)).tmod q) = true := by rw [IntWalk.i64_in _ (by omega), t4]; simp
      clear X7 hd8 HF4
      go_wp2
      go_region_held3 (fun W => W.cell? ⟨b, off, none⟩ = some (.int .i64 (m % p)) ∧ W.cell? ⟨b, off + 3, none⟩ = some (.int .i64 (m / p % q)))
      (first | exact HCk.out _ hd7 | exact HCk.out _ HD8.out | exact HCk.out _ (bt HD8.out hb16))
      (first | (go_at_call 23; refine (HSm.out _ _ _ HD8.out HX7.out).mono ?_; rintro e w16 ⟨rfl, hb16⟩))
      all_goals (go_wp2; go_ret; exact ⟨rfl, bt (bt HB7.out HD8.out) hb16⟩)
    · have i1 : ¬ (1048576 : Int) < (n : Int) := by omega
      have i2 : (1048576 : Int) < (n' : Int) := by omega
      go_enter Try.func5, Try.ntmps5
      go_wp2
      go_ret
      exact ⟨rfl, Below.refl _ _⟩
  · have i1 : (1048576 : Int) < (n : Int) := by omega
    go_enter Try.func5, Try.ntmps5
    go_wp2
    go_ret
    exact ⟨rfl, Below.refl _ _⟩
end Go.Proofs.Ytagdclbpgkilgaa
