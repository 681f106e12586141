/- Numbers in their texts, the model's reader. Written by gen_nums.py. -/
import Derived.Test.YtoaeofahknknhaaDoorNum
import Derived.Deep.Cut
namespace Go.Proofs.YtoaeofahknknhaaDoor
open Go.RowKit
theorem allDig_take_step (s : ByteArray) (k : Nat) (h : k < s.size) (hd : allDig (s.data.toList.take k) = true) (h1 : 48 ≤ s[k].toNat) (h2 : s[k].toNat ≤ 57) : allDig (s.data.toList.take (k + 1)) = true := by
  unfold allDig at *
  rw [List.take_succ_eq_append_getElem (by simpa using h), List.all_append, hd]
  show (true && ([s[k]].all digC)) = true
  simp [digC, digB]; omega
theorem not_allDig (s : ByteArray) (k : Nat) (h : k < s.size) (hc : s[k].toNat < 48 ∨ 57 < s[k].toNat) : allDig s.data.toList ≠ true := fun e => by
  have := allDig_at s k h e
  omega
/-- What the model's reader answers, where a sign stands ahead: nothing that is not negative. -/
def NegR (e : Ending) (w w' : World) : Prop := ∃ (n : Int) (b : Bool), e = .returned (.tuple #[.int .i64 n, .bool b]) ∧ (b = true → n < 0) ∧ w = w'

set_option maxRecDepth 100000 in
set_option maxHeartbeats 4000000 in
theorem l00NumberP (s : ByteArray) (w : World) (hs : s.size ≤ 1048577) (hc : ∀ h : 0 < s.size, s[0] ≠ 45) : Calls Tryd.prog 92 #[.string s] w fun e w' => e = .returned (.tuple #[.int .i64 (natV s.data.toList), .bool (natL s.data.toList)]) ∧ w = w' := by
  have hlen : s.data.toList.length = s.size := by simp
  by_cases h0 : s.size = 0
  · have h0l : s.data.toList = [] := List.eq_nil_of_length_eq_zero (by omega)
    have HF := Lib.hid (natL_f (l := s.data.toList) (fun h => h.1 h0l))
    have HV : Hid (natV s.data.toList = 0) := Lib.hid (by unfold natV; rw [HF.out]; rfl)
    rw [HF.out, HV.out]
    have q1 : ((s.size : Int) == 0) = true := by rw [beq_iff_eq]; omega
    have q2 : ¬ (0 : Int) < (s.size : Int) := by omega
    clear h0l hlen HF HV hc
    go_enter Tryd.func92, Tryd.ntmps92
    go_wp2
    go_ret2
    exact ⟨rfl, rfl⟩
  · have hpos : 0 < s.size := by omega
    have q1 : ((s.size : Int) == 0) = false := by rw [beq_eq_false_iff_ne]; omega
    have q2 : (0 : Int) < (s.size : Int) := by omega
    have q3 : ((s[0].toNat : Int) == 45) = false := by
      have : s[0].toNat ≠ 45 := fun e => hc hpos (UInt8.toNat_inj.1 e)
      simp; omega
    clear hc
    by_cases h18 : s.size ≤ 18
    · have i18 : ¬ (18 : Int) < (s.size : Int) := by omega
      have HH := Lib.hid (head_at s hpos)
      have h0l : s.data.toList ≠ [] := fun e => by rw [e] at hlen; simp at hlen; omega
      by_cases hz : s[0] = 48
      · have z1 : ((s[0].toNat : Int) == 48) = true := by rw [hz]; rfl
        by_cases h1 : 1 < s.size
        · have i1 : (1 : Int) < (s.size : Int) := by omega
          have HF := Lib.hid (natL_f (l := s.data.toList) (fun h => by have := h.2.2.2 (by rw [HH.out, hz]); omega))
          have HV : Hid (natV s.data.toList = 0) := Lib.hid (by unfold natV; rw [HF.out]; rfl)
          rw [HF.out, HV.out]
          clear h0l hlen HF HV hz
          go_enter Tryd.func92, Tryd.ntmps92
          go_wp2
          go_ret2
          exact ⟨rfl, rfl⟩
        · have i1 : ¬ (1 : Int) < (s.size : Int) := by omega
          have HNat := Lib.hid (fun hd => natL_t (l := s.data.toList) h0l (by omega) hd (.inr (by omega)))
          clear h0l hlen hz
          go_enter Tryd.func92, Tryd.ntmps92
          go_wp2
          go_loop [5, 6] (fun n i => ∃ k : Nat, k ≤ s.size ∧ i = .int .i64 k ∧ n = .int .i64 (numOf (s.data.toList.take k) : Nat) ∧ Hid (allDig (s.data.toList.take k) = true)) (fun _ i => s.size - (intOf i).toNat)
          case atStart => exact ⟨0, Nat.zero_le _, rfl, rfl, Lib.hid rfl⟩
          case round =>
            obtain ⟨k, hk, rfl, rfl, HA⟩ := hrel
            by_cases hlt : k < s.size
            · have ik : (k : Int) < (s.size : Int) := by omega
              by_cases h1 : s[k].toNat < 48
              · have natLF := Lib.hid (natL_f (l := s.data.toList) (fun h => absurd h.2.2.1 (not_allDig s k hlt (.inl h1))))
                have natVF : Hid (natV s.data.toList = 0) := Lib.hid (by unfold natV; rw [natLF.out]; rfl)
                have j1 : (s[k].toNat : Int) < 48 := by omega
                go_wp2
                go_ret2
                exact ⟨by rw [natVF.out, natLF.out]; rfl, rfl⟩
              · have j1 : ¬ (s[k].toNat : Int) < 48 := by omega
                by_cases h2 : 57 < s[k].toNat
                · have natLF := Lib.hid (natL_f (l := s.data.toList) (fun h => absurd h.2.2.1 (not_allDig s k hlt (.inr h2))))
                  have natVF : Hid (natV s.data.toList = 0) := Lib.hid (by unfold natV; rw [natLF.out]; rfl)
                  have j2 : (57 : Int) < (s[k].toNat : Int) := by omega
                  go_wp2
                  go_ret2
                  exact ⟨by rw [natVF.out, natLF.out]; rfl, rfl⟩
                · have j2 : ¬ (57 : Int) < (s[k].toNat : Int) := by omega
                  have hb : numOf (s.data.toList.take k) < 100000000000000000 := by
                    refine Nat.lt_of_lt_of_le (numOf_lt _ HA.out) ?_
                    rw [List.length_take]
                    exact Nat.le_trans (Nat.pow_le_pow_right (by omega) (show min k s.data.toList.length ≤ 17 by omega)) (by decide)
                  have HS := Lib.hid (numOf_step s k hlt)
                  have HA2 := Lib.hid (allDig_take_step s k hlt HA.out (by omega) (by omega))
                  generalize numOf (s.data.toList.take k) = m at HS hb
                  go_wp2
                  go_round
                  case rel => exact ⟨k + 1, by omega, by go_num, by rw [HS.out]; congr 1; omega, HA2⟩
                  case measure => simp [intOf]; omega
            · have ik : ¬ (k : Int) < (s.size : Int) := by omega
              have hta : s.data.toList.take k = s.data.toList := List.take_of_length_le (by have e : s.data.toList.length = s.size := (by simp); omega)
              have HA3 := HA.out
              rw [hta] at HA3
              have hm1 : numOf (s.data.toList.take k) < 1000000000000000000 := by
                rw [hta]
                refine Nat.lt_of_lt_of_le (numOf_lt _ HA3) ?_
                exact Nat.le_trans (Nat.pow_le_pow_right (by omega) (show s.data.toList.length ≤ 18 by have e : s.data.toList.length = s.size := (by simp); omega)) (by decide)
              have HF := Lib.hid (HNat.out HA3)
              have HV : Hid (natV s.data.toList = (numOf (s.data.toList.take k) : Nat)) := Lib.hid (by unfold natV; rw [HF.out, hta]; rfl)
              clear hta HA3
              generalize numOf (s.data.toList.take k) = m at hm1 HV ⊢
              go_wp2
              go_ret2
              exact ⟨by rw [HF.out, HV.out]; rfl, rfl⟩
      · have z1 : ((s[0].toNat : Int) == 48) = false := by
          have : s[0].toNat ≠ 48 := fun e => hz (UInt8.toNat_inj.1 e)
          simp; omega
        have HNat := Lib.hid (fun hd => natL_t (l := s.data.toList) h0l (by omega) hd (.inl (by rw [HH.out]; simpa using hz)))
        clear h0l hlen hz
        go_enter Tryd.func92, Tryd.ntmps92
        go_wp2
        go_loop [5, 6] (fun n i => ∃ k : Nat, k ≤ s.size ∧ i = .int .i64 k ∧ n = .int .i64 (numOf (s.data.toList.take k) : Nat) ∧ Hid (allDig (s.data.toList.take k) = true)) (fun _ i => s.size - (intOf i).toNat)
        case atStart => exact ⟨0, Nat.zero_le _, rfl, rfl, Lib.hid rfl⟩
        case round =>
          obtain ⟨k, hk, rfl, rfl, HA⟩ := hrel
          by_cases hlt : k < s.size
          · have ik : (k : Int) < (s.size : Int) := by omega
            by_cases h1 : s[k].toNat < 48
            · have natLF := Lib.hid (natL_f (l := s.data.toList) (fun h => absurd h.2.2.1 (not_allDig s k hlt (.inl h1))))
              have natVF : Hid (natV s.data.toList = 0) := Lib.hid (by unfold natV; rw [natLF.out]; rfl)
              have j1 : (s[k].toNat : Int) < 48 := by omega
              go_wp2
              go_ret2
              exact ⟨by rw [natVF.out, natLF.out]; rfl, rfl⟩
            · have j1 : ¬ (s[k].toNat : Int) < 48 := by omega
              by_cases h2 : 57 < s[k].toNat
              · have natLF := Lib.hid (natL_f (l := s.data.toList) (fun h => absurd h.2.2.1 (not_allDig s k hlt (.inr h2))))
                have natVF : Hid (natV s.data.toList = 0) := Lib.hid (by unfold natV; rw [natLF.out]; rfl)
                have j2 : (57 : Int) < (s[k].toNat : Int) := by omega
                go_wp2
                go_ret2
                exact ⟨by rw [natVF.out, natLF.out]; rfl, rfl⟩
              · have j2 : ¬ (57 : Int) < (s[k].toNat : Int) := by omega
                have hb : numOf (s.data.toList.take k) < 100000000000000000 := by
                  refine Nat.lt_of_lt_of_le (numOf_lt _ HA.out) ?_
                  rw [List.length_take]
                  exact Nat.le_trans (Nat.pow_le_pow_right (by omega) (show min k s.data.toList.length ≤ 17 by omega)) (by decide)
                have HS := Lib.hid (numOf_step s k hlt)
                have HA2 := Lib.hid (allDig_take_step s k hlt HA.out (by omega) (by omega))
                generalize numOf (s.data.toList.take k) = m at HS hb
                go_wp2
                go_round
                case rel => exact ⟨k + 1, by omega, by go_num, by rw [HS.out]; congr 1; omega, HA2⟩
                case measure => simp [intOf]; omega
          · have ik : ¬ (k : Int) < (s.size : Int) := by omega
            have hta : s.data.toList.take k = s.data.toList := List.take_of_length_le (by have e : s.data.toList.length = s.size := (by simp); omega)
            have HA3 := HA.out
            rw [hta] at HA3
            have hm1 : numOf (s.data.toList.take k) < 1000000000000000000 := by
              rw [hta]
              refine Nat.lt_of_lt_of_le (numOf_lt _ HA3) ?_
              exact Nat.le_trans (Nat.pow_le_pow_right (by omega) (show s.data.toList.length ≤ 18 by have e : s.data.toList.length = s.size := (by simp); omega)) (by decide)
            have HF := Lib.hid (HNat.out HA3)
            have HV : Hid (natV s.data.toList = (numOf (s.data.toList.take k) : Nat)) := Lib.hid (by unfold natV; rw [HF.out, hta]; rfl)
            clear hta HA3
            generalize numOf (s.data.toList.take k) = m at hm1 HV ⊢
            go_wp2
            go_ret2
            exact ⟨by rw [HF.out, HV.out]; rfl, rfl⟩
    · have i18 : (18 : Int) < (s.size : Int) := by omega
      have HF := Lib.hid (natL_f (l := s.data.toList) (fun h => by have := h.2.1; omega))
      have HV : Hid (natV s.data.toList = 0) := Lib.hid (by unfold natV; rw [HF.out]; rfl)
      rw [HF.out, HV.out]
      clear hlen HF HV
      go_enter Tryd.func92, Tryd.ntmps92
      go_wp2
      go_ret2
      exact ⟨rfl, rfl⟩

set_option maxRecDepth 100000 in
set_option maxHeartbeats 4000000 in
theorem l00NumberN (s : ByteArray) (w : World) (hs : s.size ≤ 1048577) (h0 : 0 < s.size) (hc : s[0] = 45) : Calls Tryd.prog 92 #[.string s] w fun e w' => NegR e w w' := by
  have q2 : (0 : Int) < (s.size : Int) := by omega
  have q3 : ((s[0].toNat : Int) == 45) = true := by rw [hc]; rfl
  have b1 : (1 : Int) ≤ (s.size : Int) := by omega
  have b2 : 1 ≤ s.size := by omega
  clear hc
  have hus : (s.extract 1 s.size).size ≤ 1048577 := by rw [ByteArray.size_extract]; omega
  go_enter Tryd.func92, Tryd.ntmps92
  go_upto_region 5 with (fail)
  generalize s.extract 1 s.size = u at *
  by_cases e0 : u.size = 0
  · have p1 : ((u.size : Int) == 0) = true := by rw [beq_iff_eq]; omega
    go_wp2
    go_ret2
    exact ⟨0, false, rfl, (fun h => by cases h), rfl⟩
  · have p1 : ((u.size : Int) == 0) = false := by rw [beq_eq_false_iff_ne]; omega
    have hup : 0 < u.size := by omega
    by_cases h18 : u.size ≤ 18
    · have i18 : ¬ (18 : Int) < (u.size : Int) := by omega
      by_cases hz : u[0] = 48
      · have z1 : ((u[0].toNat : Int) == 48) = true := by rw [hz]; rfl
        clear hz
        by_cases h1 : 1 < u.size
        · have i1 : (1 : Int) < (u.size : Int) := by omega
          go_wp2
          go_ret2
          exact ⟨0, false, rfl, (fun h => by cases h), rfl⟩
        · have i1 : ¬ (1 : Int) < (u.size : Int) := by omega
          go_wp2
          go_ret2
          exact ⟨0, false, rfl, (fun h => by cases h), rfl⟩
      · have z1 : ((u[0].toNat : Int) == 48) = false := by
          have : u[0].toNat ≠ 48 := fun e => hz (UInt8.toNat_inj.1 e)
          rw [beq_eq_false_iff_ne]; omega
        have HPos : Hid (allDig u.data.toList = true → 1 ≤ numOf u.data.toList) := Lib.hid (fun hd => by
          have e : u.data.toList = u[0] :: u.data.toList.drop 1 := by
            have e := List.drop_eq_getElem_cons (l := u.data.toList) (i := 0) (by simpa using hup)
            exact e
          rw [e] at hd ⊢
          refine numOf_pos _ _ ?_ hz
          unfold allDig at hd
          rw [List.all_cons, Bool.and_eq_true] at hd
          exact hd.1)
        clear hz
        go_wp2
        go_loop [5, 6] (fun n i => ∃ k : Nat, k ≤ u.size ∧ i = .int .i64 k ∧ n = .int .i64 (numOf (u.data.toList.take k) : Nat) ∧ Hid (allDig (u.data.toList.take k) = true)) (fun _ i => u.size - (intOf i).toNat)
        case atStart => exact ⟨0, Nat.zero_le _, rfl, rfl, Lib.hid rfl⟩
        case round =>
          obtain ⟨k, hk, rfl, rfl, HA⟩ := hrel
          by_cases hlt : k < u.size
          · have ik : (k : Int) < (u.size : Int) := by omega
            by_cases h1 : u[k].toNat < 48
            · have j1 : (u[k].toNat : Int) < 48 := by omega
              go_wp2
              go_ret2
              exact ⟨0, false, rfl, (fun h => by cases h), rfl⟩
            · have j1 : ¬ (u[k].toNat : Int) < 48 := by omega
              by_cases h2 : 57 < u[k].toNat
              · have j2 : (57 : Int) < (u[k].toNat : Int) := by omega
                go_wp2
                go_ret2
                exact ⟨0, false, rfl, (fun h => by cases h), rfl⟩
              · have j2 : ¬ (57 : Int) < (u[k].toNat : Int) := by omega
                have hb : numOf (u.data.toList.take k) < 100000000000000000 := by
                  refine Nat.lt_of_lt_of_le (numOf_lt _ HA.out) ?_
                  rw [List.length_take]
                  exact Nat.le_trans (Nat.pow_le_pow_right (by omega) (show min k u.data.toList.length ≤ 17 by omega)) (by decide)
                have HS := Lib.hid (numOf_step u k hlt)
                have HA2 := Lib.hid (allDig_take_step u k hlt HA.out (by omega) (by omega))
                generalize numOf (u.data.toList.take k) = m at HS hb
                go_wp2
                go_round
                case rel => exact ⟨k + 1, by omega, by go_num, by rw [HS.out]; congr 1; omega, HA2⟩
                case measure => simp [intOf]; omega
          · have ik : ¬ (k : Int) < (u.size : Int) := by omega
            have hta : u.data.toList.take k = u.data.toList := List.take_of_length_le (by have e : u.data.toList.length = u.size := (by simp); omega)
            have HA3 := HA.out
            rw [hta] at HA3
            have hm : numOf (u.data.toList.take k) < 1000000000000000000 ∧ 1 ≤ numOf (u.data.toList.take k) := by
              rw [hta]
              refine ⟨Nat.lt_of_lt_of_le (numOf_lt _ HA3) ?_, HPos.out HA3⟩
              exact Nat.le_trans (Nat.pow_le_pow_right (by omega) (show u.data.toList.length ≤ 18 by have e : u.data.toList.length = u.size := (by simp); omega)) (by decide)
            clear hta HA3
            generalize numOf (u.data.toList.take k) = m at hm ⊢
            obtain ⟨hm1, hm2⟩ := hm
            go_wp2
            go_ret2
            exact ⟨_, true, rfl, fun _ => by omega, rfl⟩
    · have i18 : (18 : Int) < (u.size : Int) := by omega
      go_wp2
      go_ret2
      exact ⟨0, false, rfl, (fun h => by cases h), rfl⟩

/-- What the model's reader of a natural number answers. -/
def NatR (l : List UInt8) (w : World) (e : Ending) (w' : World) : Prop := ∃ n : Int, e = .returned (.tuple #[.int .i64 n, .bool (natL l)]) ∧ (natL l = true → n = (numOf l : Nat)) ∧ Below w.heap.size w w'
theorem num_beq (l : List UInt8) (s : ByteArray) (hs : s.data.toList = l) (h : natL l = true) : ((bs (decF 18 (numOf l))).toList == s.toList) = true := by
  obtain ⟨h1, h2, h3, h4⟩ := natL_facts h
  have hlt : numOf l < 10 ^ 18 := Nat.lt_of_lt_of_le (numOf_lt l h3) (Nat.pow_le_pow_right (by omega) h2)
  rw [dec_digits 17 _ hlt, dec_num l.length l rfl h1 h3 h4, ByteArray.toList_eq, ByteArray.toList_eq, show (bs l).data.toList = l from by simp [bs], hs]
  simp
set_option maxRecDepth 100000 in
set_option maxHeartbeats 2000000 in
theorem l07NumberS (s : ByteArray) (w : World) (hs : s.size ≤ 1048577) : Calls Tryd.prog 85 #[.string s] w (NatR s.data.toList w) := by
  by_cases hm : ∃ h : 0 < s.size, s[0] = 45
  · obtain ⟨h0, hc⟩ := hm
    have HO := Lib.hid (fun W => l00NumberN s W hs h0 hc)
    have HF := Lib.hid (natL_f (l := s.data.toList) (fun h => by
      have h3 := allDig_at s 0 h0 h.2.2.1
      rw [hc] at h3
      exact absurd h3.1 (by decide)))
    clear hc
    go_enter Tryd.func85, Tryd.ntmps85
    go_wp2_with fail
    refine (HO.out _).mono ?_
    rintro e w1 ⟨n, b, rfl, hn, rfl⟩
    cases b with
    | false =>
      clear hn
      go_wp2
      go_ret2
      exact ⟨n, by rw [HF.out]; rfl, (fun h => by rw [HF.out] at h; cases h), Below.refl _ _⟩
    | true =>
      have hn2 := hn rfl
      have hn3 : ¬ (0 : Int) ≤ n := by omega
      clear hn
      go_wp2
      go_ret2
      exact ⟨n, by rw [HF.out]; rfl, (fun h => by rw [HF.out] at h; cases h), Below.refl _ _⟩
  · have HO := Lib.hid (fun W => l00NumberP s W hs (fun h e => hm ⟨h, e⟩))
    clear hm
    cases hb : natL s.data.toList with
    | false =>
      rw [hb] at HO
      have HB := Lib.hid hb
      clear hb
      generalize natV s.data.toList = v at HO
      go_enter Tryd.func85, Tryd.ntmps85
      go_wp2_with fail
      refine (HO.out _).mono ?_
      rintro e w1 ⟨rfl, rfl⟩
      go_wp2
      go_ret2
      exact ⟨v, by rw [HB.out]; rfl, (fun h => by rw [HB.out] at h; cases h), Below.refl _ _⟩
    | true =>
      rw [hb] at HO
      have HB := Lib.hid hb
      obtain ⟨h1, h2, h3, h4⟩ := natL_facts hb
      have hlt : numOf s.data.toList < 10 ^ (17 + 1) := Nat.lt_of_lt_of_le (numOf_lt _ h3) (Nat.pow_le_pow_right (by omega) h2)
      have hv : natV s.data.toList = (numOf s.data.toList : Nat) := by unfold natV; rw [hb]; rfl
      have hq := num_beq _ s rfl hb
      have HD := Lib.hid (fun W => l00Digits 17 (numOf s.data.toList) W hlt (Nat.le_refl _))
      rw [hv] at HO
      clear hb h1 h2 h3 h4 hlt hv
      rw [show decF (17 + 1) = decF 18 from rfl] at HD
      generalize bs (decF 18 (numOf s.data.toList)) = dg at hq HD
      generalize hmm : numOf s.data.toList = m at HO HD
      have HR := Lib.hid hmm
      clear hmm
      have hm0 : (0 : Int) ≤ (m : Int) := by omega
      go_enter Tryd.func85, Tryd.ntmps85
      go_wp2_with fail
      refine (HO.out _).mono ?_
      rintro e w1 ⟨rfl, rfl⟩
      go_wp2_with fail
      refine (HD.out _).mono ?_
      rintro e w1 ⟨rfl, hb⟩
      go_wp2
      go_ret2
      exact ⟨_, by rw [HB.out]; rfl, (fun _ => by rw [HR.out]), hb⟩
end Go.Proofs.YtoaeofahknknhaaDoor
