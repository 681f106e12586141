/- Natural numbers in their texts: the program's reader. -/
import Derived.Test.YtoaeofahknknhaaDoorNumWalk
import Derived.Test.YtoaeofahknknhaaDoorTxt
namespace Go.Proofs.YtoaeofahknknhaaDoor
open Go.RowKit

/-- A text is that of an integer that is not negative. -/
def natL (l : List UInt8) : Bool := decide (l ≠ []) && (decide (l.length ≤ 18) && (allDig l && !(decide (l.head? = some 48) && decide (1 < l.length))))
theorem numOf_snoc (l : List UInt8) (c : UInt8) : numOf (l ++ [c]) = 10 * numOf l + (c.toNat - 48) := by
  unfold numOf; rw [List.foldl_append]; rfl
theorem numOf_pos (c : UInt8) (r : List UInt8) (hc : digC c = true) (h : c ≠ 48) : 1 ≤ numOf (c :: r) := by
  have hc2 : 49 ≤ c.toNat := by
    unfold digC digB at hc
    simp at hc
    have : c.toNat ≠ 48 := fun e => h (UInt8.toNat_inj.1 e)
    omega
  have aux : ∀ (l : List UInt8) (m : Nat), 1 ≤ m → 1 ≤ l.foldl (fun n c => 10 * n + (c.toNat - 48)) m := by
    intro l
    induction l with
    | nil => intro m hm; exact hm
    | cons a l ih => intro m hm; exact ih _ (by show 1 ≤ 10 * m + (a.toNat - 48); omega)
  unfold numOf
  rw [List.foldl_cons]
  exact aux r _ (by show 1 ≤ 10 * 0 + (c.toNat - 48); omega)
theorem digC_range {c : UInt8} (h : digC c = true) : 48 ≤ c.toNat ∧ c.toNat ≤ 57 := by
  unfold digC digB at h
  simp at h
  omega
/-- The digits of the number that digits say are these digits. -/
theorem dec_num : ∀ (n : Nat) (l : List UInt8), l.length = n → l ≠ [] → allDig l = true → (l.head? = some 48 → l.length ≤ 1) → Lib.decDigits (numOf l) = l
  | 0, l, hn, h0, _, _ => absurd (List.eq_nil_of_length_eq_zero hn) h0
  | n + 1, l, hn, h0, hd, hz => by
    obtain ⟨i, c, rfl⟩ : ∃ i c, l = i ++ [c] := ⟨l.dropLast, l.getLast h0, (List.dropLast_concat_getLast h0).symm⟩
    have hdc : allDig i = true ∧ digC c = true := by
      unfold allDig at hd ⊢
      rw [List.all_append, Bool.and_eq_true] at hd
      exact ⟨hd.1, by simpa using hd.2⟩
    obtain ⟨hc1, hc2⟩ := digC_range hdc.2
    rw [numOf_snoc, Lib.decDigits]
    have hcc : UInt8.ofNat c.toNat = c := UInt8.ofNat_toNat
    match i, hdc.1, hz, hn with
    | [], _, _, _ =>
      rw [dif_pos (by show 10 * 0 + _ < 10; omega)]
      show [UInt8.ofNat (48 + (10 * 0 + (c.toNat - 48)))] = [c]
      rw [show 48 + (10 * 0 + (c.toNat - 48)) = c.toNat from by omega, hcc]
    | a :: r, hdi, hz, hn =>
      have ha : digC a = true := by
        unfold allDig at hdi
        rw [List.all_cons, Bool.and_eq_true] at hdi
        exact hdi.1
      have hne : a ≠ 48 := by
        rintro rfl
        have := hz rfl
        simp at this
      have hp := numOf_pos a r ha hne
      have ih := dec_num n (a :: r) (by simpa using hn) (by simp) hdi (fun e => by simp at e; exact absurd e hne)
      rw [dif_neg (by omega), show (10 * numOf (a :: r) + (c.toNat - 48)) / 10 = numOf (a :: r) from by omega, ih, show 48 + (10 * numOf (a :: r) + (c.toNat - 48)) % 10 = c.toNat from by omega, hcc]
theorem natL_facts {l : List UInt8} (h : natL l = true) : l ≠ [] ∧ l.length ≤ 18 ∧ allDig l = true ∧ (l.head? = some 48 → l.length ≤ 1) := by
  unfold natL at h
  simp only [Bool.and_eq_true, decide_eq_true_eq, Bool.not_eq_true', Bool.and_eq_false_iff, decide_eq_false_iff_not] at h
  obtain ⟨h1, h2, h3, h4⟩ := h
  exact ⟨h1, h2, h3, fun e => by rcases h4 with h4 | h4; exact absurd e h4; omega⟩
theorem natL_t {l : List UInt8} (h1 : l ≠ []) (h2 : l.length ≤ 18) (h3 : allDig l = true) (h4 : l.head? ≠ some 48 ∨ l.length ≤ 1) : natL l = true := by
  unfold natL
  simp only [Bool.and_eq_true, decide_eq_true_eq, Bool.not_eq_true', Bool.and_eq_false_iff, decide_eq_false_iff_not]
  exact ⟨h1, h2, h3, by rcases h4 with h4 | h4; exact .inl h4; exact .inr (by omega)⟩
theorem natL_f {l : List UInt8} (h : ¬ (l ≠ [] ∧ l.length ≤ 18 ∧ allDig l = true ∧ (l.head? = some 48 → l.length ≤ 1))) : natL l = false := by
  cases e : natL l with
  | false => rfl
  | true => exact absurd (natL_facts e) h

set_option maxRecDepth 100000 in
set_option maxHeartbeats 1000000 in
theorem numberOf18 (s : ByteArray) (w : World) (hs : s.size ≤ 18) (hd : allDig s.data.toList = true) : Calls Tryd.prog 91 #[.string s] w fun e w' => e = .returned (.int .i64 (numOf s.data.toList : Nat)) ∧ w = w' := by
  have HD := Lib.hid hd
  clear hd
  go_enter Tryd.func91, Tryd.ntmps91
  go_wp2
  go_loop [3, 4] (fun n i => ∃ k : Nat, k ≤ s.size ∧ i = .int .i64 k ∧ n = .int .i64 (numOf (s.data.toList.take k) : Nat)) (fun _ i => s.size - (intOf i).toNat)
  case atStart => exact ⟨0, Nat.zero_le _, rfl, rfl⟩
  case round =>
    obtain ⟨k, hk, rfl, rfl⟩ := hrel
    by_cases hlt : k < s.size
    · have hb : numOf (s.data.toList.take k) < 100000000000000000 := by
        refine Nat.lt_of_lt_of_le (numOf_lt _ (allDig_take _ k HD.out)) ?_
        rw [List.length_take]
        exact Nat.le_trans (Nat.pow_le_pow_right (by omega) (show min k s.data.toList.length ≤ 17 by omega)) (by decide)
      have HS := Lib.hid (numOf_step s k hlt)
      have hc := allDig_at s k hlt HD.out
      generalize numOf (s.data.toList.take k) = m at HS hb
      obtain ⟨hc1, hc2⟩ := hc
      have hw : IntKind.u8.wrap ((s[k].toNat : Int) - 48) = (s[k].toNat : Int) - 48 := IntWalk.u8_in _ (by omega)
      go_wp2
      go_round
      case rel => exact ⟨k + 1, by omega, by go_num, by rw [HS.out]; congr 1; omega⟩
      case measure => simp [intOf]; omega
    · have HF : Hid (numOf (s.data.toList.take k) = numOf s.data.toList) := Lib.hid (by rw [List.take_of_length_le (by simpa using by omega)])
      generalize numOf (s.data.toList.take k) = m at HF
      go_wp2
      go_ret
      exact ⟨ret_int (by rw [HF.out]), rfl⟩
theorem head_at (s : ByteArray) (h : 0 < s.size) : s.data.toList.head? = some s[0] := by
  have : s.data.toList = s[0] :: s.data.toList.drop 1 := by
    have e := List.drop_eq_getElem_cons (l := s.data.toList) (i := 0) (by simpa using h)
    exact e
  rw [this]; rfl
def natV (l : List UInt8) : Int := if natL l then (numOf l : Nat) else 0

set_option maxRecDepth 100000 in
set_option maxHeartbeats 2000000 in
theorem naturalOf (s : ByteArray) (w : World) (hs : s.size ≤ maxLen) : Calls Tryd.prog 76 #[.string s] w fun e w' => e = .returned (.tuple #[.int .i64 (natV s.data.toList), .bool (natL s.data.toList)]) ∧ w = w' := by
  have hlen : s.data.toList.length = s.size := by simp
  unfold maxLen at hs
  by_cases h0 : s.data.toList = []
  · have HF := Lib.hid (natL_f (l := s.data.toList) (fun h => h.1 h0))
    have HV : Hid (natV s.data.toList = 0) := Lib.hid (by unfold natV; rw [HF.out]; rfl)
    rw [HF.out, HV.out]
    have q1 : (s.toList == []) = true := by rw [ByteArray.toList_eq, h0]; rfl
    have q2 : s.toList = [] := by rw [ByteArray.toList_eq, h0]
    clear h0 hlen HF HV
    go_enter Tryd.func76, Tryd.ntmps76
    go_wp2
    go_ret2
    exact ⟨rfl, rfl⟩
  · have q1 : (s.toList == []) = false := by rw [ByteArray.toList_eq]; simpa using h0
    have q2 : ¬ s.toList = [] := by rw [ByteArray.toList_eq]; exact h0
    have q3 : s.toList.isEmpty = false := by rw [ByteArray.toList_eq]; simpa using h0
    have hpos : 0 < s.size := by rw [← hlen]; exact List.length_pos_iff.2 h0
    by_cases h18 : s.size ≤ 18
    · have i18 : ¬ (18 : Int) < (s.size : Int) := by omega
      have HA := Lib.hid (fun W => allDigits s W (by unfold maxLen; omega))
      cases hd : allDig s.data.toList with
      | false =>
        have HF := Lib.hid (natL_f (l := s.data.toList) (fun h => by rw [hd] at h; exact absurd h.2.2.1 (by decide)))
        have HV : Hid (natV s.data.toList = 0) := Lib.hid (by unfold natV; rw [HF.out]; rfl)
        rw [hd] at HA
        rw [HF.out, HV.out]
        clear h0 hlen HF HV hd
        go_enter Tryd.func76, Tryd.ntmps76
        go_wp2_with (first | (go_at_call 90; refine (HA.out _).mono ?_; rintro e w' ⟨rfl, rfl⟩))
        go_ret2
        exact ⟨rfl, rfl⟩
      | true =>
        have HH := Lib.hid (head_at s hpos)
        have HO := Lib.hid (fun W => numberOf18 s W h18 hd)
        rw [hd] at HA
        by_cases hz : s[0] = 48
        · have z1 : ((s[0].toNat : Int) == 48) = true := by rw [hz]; rfl
          by_cases h1 : 1 < s.size
          · have i1 : (1 : Int) < (s.size : Int) := by omega
            have HF := Lib.hid (natL_f (l := s.data.toList) (fun h => by have := h.2.2.2 (by rw [HH.out, hz]); omega))
            have HV : Hid (natV s.data.toList = 0) := Lib.hid (by unfold natV; rw [HF.out]; rfl)
            rw [HF.out, HV.out]
            clear h0 hlen HF HV hd hz
            go_enter Tryd.func76, Tryd.ntmps76
            go_wp2_with (first | (go_at_call 90; refine (HA.out _).mono ?_; rintro e w' ⟨rfl, rfl⟩))
            go_ret2
            exact ⟨rfl, rfl⟩
          · have i1 : ¬ (1 : Int) < (s.size : Int) := by omega
            have HF := Lib.hid (natL_t (l := s.data.toList) h0 (by omega) hd (.inr (by omega)))
            have HV : Hid (natV s.data.toList = (numOf s.data.toList : Nat)) := Lib.hid (by unfold natV; rw [HF.out]; rfl)
            rw [HF.out, HV.out]
            clear h0 hlen HF HV hd hz
            generalize ((numOf s.data.toList : Nat) : Int) = v at HO ⊢
            go_enter Tryd.func76, Tryd.ntmps76
            go_wp2_with (first | (go_at_call 90; refine (HA.out _).mono ?_; rintro e w' ⟨rfl, rfl⟩) | (go_at_call 91; refine (HO.out _).mono ?_; rintro e w' ⟨rfl, rfl⟩))
            go_ret2
            exact ⟨rfl, rfl⟩
        · have z1 : ((s[0].toNat : Int) == 48) = false := by
            have : s[0].toNat ≠ 48 := fun e => hz (UInt8.toNat_inj.1 e)
            simp; omega
          have HF := Lib.hid (natL_t (l := s.data.toList) h0 (by omega) hd (.inl (by rw [HH.out]; simpa using hz)))
          have HV : Hid (natV s.data.toList = (numOf s.data.toList : Nat)) := Lib.hid (by unfold natV; rw [HF.out]; rfl)
          rw [HF.out, HV.out]
          clear h0 hlen HF HV hd hz
          generalize ((numOf s.data.toList : Nat) : Int) = v at HO ⊢
          go_enter Tryd.func76, Tryd.ntmps76
          go_wp2_with (first | (go_at_call 90; refine (HA.out _).mono ?_; rintro e w' ⟨rfl, rfl⟩) | (go_at_call 91; refine (HO.out _).mono ?_; rintro e w' ⟨rfl, rfl⟩))
          go_ret2
          exact ⟨rfl, rfl⟩
    · have i18 : (18 : Int) < (s.size : Int) := by omega
      have HF := Lib.hid (natL_f (l := s.data.toList) (fun h => by have := h.2.1; omega))
      have HV : Hid (natV s.data.toList = 0) := Lib.hid (by unfold natV; rw [HF.out]; rfl)
      rw [HF.out, HV.out]
      clear h0 hlen HF HV
      go_enter Tryd.func76, Tryd.ntmps76
      go_wp2
      go_ret2
      exact ⟨rfl, rfl⟩
end Go.Proofs.YtoaeofahknknhaaDoor
