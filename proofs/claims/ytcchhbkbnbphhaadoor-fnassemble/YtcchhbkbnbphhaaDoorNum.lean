/- Natural numbers in their texts: the program's reader. -/
import Derived.Test.YtcchhbkbnbphhaaDoorM2
import Derived.Test.YtcchhbkbnbphhaaDoorTxt
namespace Go.Proofs.YtcchhbkbnbphhaaDoor
open Go.RowKit

def natL (l : List UInt8) : Bool := decide (l ≠ []) && (decide (l.length ≤ 18) && (allDig l && !(decide (l.head? = some 48) && decide (1 < l.length))))
theorem natL_facts {l : List UInt8} (h : natL l = true) : l ≠ [] ∧ l.length ≤ 18 ∧ allDig l = true ∧ (l.head? = some 48 → l.length ≤ 1) := by
  unfold natL at h
  simp only [Bool.and_eq_true, decide_eq_true_eq, Bool.not_eq_true', Bool.and_eq_false_iff, decide_eq_false_iff_not] at h
  obtain ⟨h1, h2, h3, h4⟩ := h
  exact ⟨h1, h2, h3, fun e => by rcases h4 with h4 | h4; exact absurd e h4; omega⟩
theorem natL_t {l : List UInt8} (h1 : l ≠ []) (h2 : l.length ≤ 18) (h3 : allDig l = true) (h4 : l.head? ≠ some 48 ∨ l.length ≤ 1) : natL l = true := by
  unfold natL
  simp only [Bool.and_eq_true, decide_eq_true_eq, Bool.not_eq_true', Bool.and_eq_false_iff, decide_eq_false_iff_not]
  exact ⟨h1, h2, h3, by rcases h4 with h4 | h4; exact .inl h4; exact .inr (by omega)⟩
theorem natL_f {l : List UInt8} (h : ¬ (l ≠ [] ∧ l.length ≤ 18 ∧ allDig l = true ∧ (l.head? = some 48 → l.length ≤ 1))) : natL l = false := by
  cases e : natL l with
  | false => rfl
  | true => exact absurd (natL_facts e) h

set_option maxRecDepth 100000 in
set_option maxHeartbeats 1000000 in
theorem numberOf18 (s : ByteArray) (w : World) (hs : s.size ≤ 18) (hd : allDig s.data.toList = true) : Calls Tryd.prog 63 #[.string s] w fun e w' => e = .returned (.int .i64 (numOf s.data.toList : Nat)) ∧ w = w' := by
  have HD := Lib.hid hd
  clear hd
  go_enter Tryd.func63, Tryd.ntmps63
  go_wp2
  go_loop [3, 4] (fun n i => ∃ k : Nat, k ≤ s.size ∧ i = .int .i64 k ∧ n = .int .i64 (numOf (s.data.toList.take k) : Nat)) (fun _ i => s.size - (intOf i).toNat)
  case atStart => exact ⟨0, Nat.zero_le _, rfl, rfl⟩
  case round =>
    obtain ⟨k, hk, rfl, rfl⟩ := hrel
    by_cases hlt : k < s.size
    · have hb : numOf (s.data.toList.take k) < 100000000000000000 := by
        refine Nat.lt_of_lt_of_le (numOf_lt _ (allDig_take _ k HD.out)) ?_
        rw [List.length_take]
        exact Nat.le_trans (Nat.pow_le_pow_right (by omega) (show min k s.data.toList.length ≤ 17 by omega)) (by decide)
      have HS := Lib.hid (numOf_step s k hlt)
      have hc := allDig_at s k hlt HD.out
      generalize numOf (s.data.toList.take k) = m at HS hb
      obtain ⟨hc1, hc2⟩ := hc
      have hw : IntKind.u8.wrap ((s[k].toNat : Int) - 48) = (s[k].toNat : Int) - 48 := IntWalk.u8_in _ (by omega)
      go_wp2
      go_round
      case rel => exact ⟨k + 1, by omega, by go_num, by rw [HS.out]; congr 1; omega⟩
      case measure => simp [intOf]; omega
    · have HF : Hid (numOf (s.data.toList.take k) = numOf s.data.toList) := Lib.hid (by rw [List.take_of_length_le (by simpa using by omega)])
      generalize numOf (s.data.toList.take k) = m at HF
      go_wp2
      go_ret
      exact ⟨ret_int (by rw [HF.out]), rfl⟩
theorem head_at (s : ByteArray) (h : 0 < s.size) : s.data.toList.head? = some s[0] := by
  have : s.data.toList = s[0] :: s.data.toList.drop 1 := by
    have e := List.drop_eq_getElem_cons (l := s.data.toList) (i := 0) (by simpa using h)
    exact e
  rw [this]; rfl
def natV (l : List UInt8) : Int := if natL l then (numOf l : Nat) else 0

set_option maxRecDepth 100000 in
set_option maxHeartbeats 2000000 in
theorem naturalOf (s : ByteArray) (w : World) (hs : s.size ≤ maxLen) : Calls Tryd.prog 52 #[.string s] w fun e w' => e = .returned (.tuple #[.int .i64 (natV s.data.toList), .bool (natL s.data.toList)]) ∧ w = w' := by
  have hlen : s.data.toList.length = s.size := by simp
  unfold maxLen at hs
  by_cases h0 : s.data.toList = []
  · have HF := Lib.hid (natL_f (l := s.data.toList) (fun h => h.1 h0))
    have HV : Hid (natV s.data.toList = 0) := Lib.hid (by unfold natV; rw [HF.out]; rfl)
    rw [HF.out, HV.out]
    have q1 : (s.toList == []) = true := by rw [ByteArray.toList_eq, h0]; rfl
    have q2 : s.toList = [] := by rw [ByteArray.toList_eq, h0]
    clear h0 hlen HF HV
    go_enter Tryd.func52, Tryd.ntmps52
    go_wp2
    go_ret2
    exact ⟨rfl, rfl⟩
  · have q1 : (s.toList == []) = false := by rw [ByteArray.toList_eq]; simpa using h0
    have q2 : ¬ s.toList = [] := by rw [ByteArray.toList_eq]; exact h0
    have q3 : s.toList.isEmpty = false := by rw [ByteArray.toList_eq]; simpa using h0
    have hpos : 0 < s.size := by rw [← hlen]; exact List.length_pos_iff.2 h0
    by_cases h18 : s.size ≤ 18
    · have i18 : ¬ (18 : Int) < (s.size : Int) := by omega
      have HA := Lib.hid (fun W => allDigits s W (by unfold maxLen; omega))
      cases hd : allDig s.data.toList with
      | false =>
        have HF := Lib.hid (natL_f (l := s.data.toList) (fun h => by rw [hd] at h; exact absurd h.2.2.1 (by decide)))
        have HV : Hid (natV s.data.toList = 0) := Lib.hid (by unfold natV; rw [HF.out]; rfl)
        rw [hd] at HA
        rw [HF.out, HV.out]
        clear h0 hlen HF HV hd
        go_enter Tryd.func52, Tryd.ntmps52
        go_wp2_with (first | (go_at_call 62; refine (HA.out _).mono ?_; rintro e w' ⟨rfl, rfl⟩))
        go_ret2
        exact ⟨rfl, rfl⟩
      | true =>
        have HH := Lib.hid (head_at s hpos)
        have HO := Lib.hid (fun W => numberOf18 s W h18 hd)
        rw [hd] at HA
        by_cases hz : s[0] = 48
        · have z1 : ((s[0].toNat : Int) == 48) = true := by rw [hz]; rfl
          by_cases h1 : 1 < s.size
          · have i1 : (1 : Int) < (s.size : Int) := by omega
            have HF := Lib.hid (natL_f (l := s.data.toList) (fun h => by have := h.2.2.2 (by rw [HH.out, hz]); omega))
            have HV : Hid (natV s.data.toList = 0) := Lib.hid (by unfold natV; rw [HF.out]; rfl)
            rw [HF.out, HV.out]
            clear h0 hlen HF HV hd hz
            go_enter Tryd.func52, Tryd.ntmps52
            go_wp2_with (first | (go_at_call 62; refine (HA.out _).mono ?_; rintro e w' ⟨rfl, rfl⟩))
            go_ret2
            exact ⟨rfl, rfl⟩
          · have i1 : ¬ (1 : Int) < (s.size : Int) := by omega
            have HF := Lib.hid (natL_t (l := s.data.toList) h0 (by omega) hd (.inr (by omega)))
            have HV : Hid (natV s.data.toList = (numOf s.data.toList : Nat)) := Lib.hid (by unfold natV; rw [HF.out]; rfl)
            rw [HF.out, HV.out]
            clear h0 hlen HF HV hd hz
            generalize ((numOf s.data.toList : Nat) : Int) = v at HO ⊢
            go_enter Tryd.func52, Tryd.ntmps52
            go_wp2_with (first | (go_at_call 62; refine (HA.out _).mono ?_; rintro e w' ⟨rfl, rfl⟩) | (go_at_call 63; refine (HO.out _).mono ?_; rintro e w' ⟨rfl, rfl⟩))
            go_ret2
            exact ⟨rfl, rfl⟩
        · have z1 : ((s[0].toNat : Int) == 48) = false := by
            have : s[0].toNat ≠ 48 := fun e => hz (UInt8.toNat_inj.1 e)
            simp; omega
          have HF := Lib.hid (natL_t (l := s.data.toList) h0 (by omega) hd (.inl (by rw [HH.out]; simpa using hz)))
          have HV : Hid (natV s.data.toList = (numOf s.data.toList : Nat)) := Lib.hid (by unfold natV; rw [HF.out]; rfl)
          rw [HF.out, HV.out]
          clear h0 hlen HF HV hd hz
          generalize ((numOf s.data.toList : Nat) : Int) = v at HO ⊢
          go_enter Tryd.func52, Tryd.ntmps52
          go_wp2_with (first | (go_at_call 62; refine (HA.out _).mono ?_; rintro e w' ⟨rfl, rfl⟩) | (go_at_call 63; refine (HO.out _).mono ?_; rintro e w' ⟨rfl, rfl⟩))
          go_ret2
          exact ⟨rfl, rfl⟩
    · have i18 : (18 : Int) < (s.size : Int) := by omega
      have HF := Lib.hid (natL_f (l := s.data.toList) (fun h => by have := h.2.1; omega))
      have HV : Hid (natV s.data.toList = 0) := Lib.hid (by unfold natV; rw [HF.out]; rfl)
      rw [HF.out, HV.out]
      clear h0 hlen HF HV
      go_enter Tryd.func52, Tryd.ntmps52
      go_wp2
      go_ret2
      exact ⟨rfl, rfl⟩
end Go.Proofs.YtcchhbkbnbphhaaDoor
