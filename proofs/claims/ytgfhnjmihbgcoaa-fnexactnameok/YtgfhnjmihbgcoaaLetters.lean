/- Contracts of the letter and digit tests and of the two name tests (impl.NameOK, spec.NameOK). -/
import Derived.Test.YtgfhnjmihbgcoaaRows
import Derived.WalkKit
import Derived.WalkSpells
import Derived.Lib.Hide
namespace Go.Proofs.Ytgfhnjmihbgcoaa
open Go.RowKit

def letB (n : Int) : Bool := decide (97 ≤ n ∧ n ≤ 122 ∨ 65 ≤ n ∧ n ≤ 90 ∨ n = 95)
def digB (n : Int) : Bool := decide (48 ≤ n ∧ n ≤ 57)

theorem ret_bool {a b : Bool} (h : a = b) : Ending.returned (.bool a) = .returned (.bool b) := by rw [h]

theorem letter56 (n : Int) (w : World) : Calls Try.prog 56 #[.int .u8 n] w fun e w' => e = .returned (.bool (letB n)) ∧ w = w' := by
  go_enter Try.func56, Try.ntmps56
  go_wp2
  all_goals go_ret
  all_goals (refine ⟨ret_bool ?_, rfl⟩)
  all_goals (unfold letB; rw [Bool.eq_iff_iff]; simp; try omega)
theorem letter79 (n : Int) (w : World) : Calls Try.prog 79 #[.int .u8 n] w fun e w' => e = .returned (.bool (letB n)) ∧ w = w' := by
  go_enter Try.func79, Try.ntmps79
  go_wp2
  all_goals go_ret
  all_goals (refine ⟨ret_bool ?_, rfl⟩)
  all_goals (unfold letB; rw [Bool.eq_iff_iff]; simp; try omega)
theorem digit57 (n : Int) (w : World) : Calls Try.prog 57 #[.int .u8 n] w fun e w' => e = .returned (.bool (digB n)) ∧ w = w' := by
  go_enter Try.func57, Try.ntmps57
  go_wp2
  all_goals go_ret
  all_goals (refine ⟨ret_bool ?_, rfl⟩)
  all_goals (unfold digB; rw [Bool.eq_iff_iff]; simp; try omega)
theorem digit80 (n : Int) (w : World) : Calls Try.prog 80 #[.int .u8 n] w fun e w' => e = .returned (.bool (digB n)) ∧ w = w' := by
  go_enter Try.func80, Try.ntmps80
  go_wp2
  all_goals go_ret
  all_goals (refine ⟨ret_bool ?_, rfl⟩)
  all_goals (unfold digB; rw [Bool.eq_iff_iff]; simp; try omega)

def tailB (l : List UInt8) : Bool := l.all fun c => letB c.toNat || digB c.toNat
def wordB (s : ByteArray) : Bool := match s.data.toList with
  | [] => false
  | c :: r => decide (r.length < 40) && (letB c.toNat && tailB r)

theorem toList_nil (s : ByteArray) (h : s.size = 0) : s.toList = [] := by
  rw [ByteArray.toList_eq]; exact List.eq_nil_of_length_eq_zero h
theorem toList_nil_iff (s : ByteArray) (h : s.toList = []) : s.size = 0 := by
  rw [ByteArray.toList_eq] at h; have : s.data.toList.length = s.size := rfl; rw [← this, h]; rfl
theorem wordB_nil (s : ByteArray) (h : s.size = 0) : wordB s = false := by
  have : s.data.toList = [] := List.eq_nil_of_length_eq_zero h
  unfold wordB; rw [this]
theorem wordB_long (s : ByteArray) (h : 40 < s.size) : wordB s = false := by
  have hl : s.data.toList.length = s.size := rfl
  unfold wordB
  cases hc : s.data.toList with
  | nil => rfl
  | cons c r => rw [hc] at hl; simp only [List.length_cons] at hl; simp; intro; omega
theorem tailB_step (s : ByteArray) (k : Nat) (h : k < s.size) : tailB (s.data.toList.drop k) = ((letB s[k].toNat || digB s[k].toNat) && tailB (s.data.toList.drop (k + 1))) := by
  rw [List.drop_eq_getElem_cons (by simpa using h)]; rfl
theorem wordB_step (s : ByteArray) (h : 0 < s.size) (h40 : s.size ≤ 40) : wordB s = (letB s[0].toNat && tailB (s.data.toList.drop 1)) := by
  have hl : s.data.toList.length = s.size := rfl
  have e : s.data.toList = s[0] :: s.data.toList.drop 1 := by
    have := List.drop_eq_getElem_cons (l := s.data.toList) (i := 0) (by simpa using h)
    rw [List.drop_zero] at this; exact this
  unfold wordB
  cases hc : s.data.toList with
  | nil => rw [hc] at e; cases e
  | cons c r =>
    rw [hc] at e hl
    simp only [List.length_cons] at hl
    simp only [List.drop_succ_cons, List.drop_zero, List.cons.injEq] at e
    have hr : r.length < 40 := by omega
    simp [hr, e.1]

theorem name26 (s : ByteArray) (w : World) (hs : s.size ≤ maxLen) : Calls Try.prog 26 #[.string s] w fun e w' => e = .returned (.bool (wordB s)) ∧ w = w' := by
  unfold maxLen at hs
  have hlen : s.data.toList.length = s.size := rfl
  by_cases h0 : s.size = 0
  · have he : s.toList = [] := toList_nil s h0
    have he2 : s.toList.isEmpty = true := by rw [he]; rfl
    have hd : decide (40 < (s.size : Int)) = false := by simp; omega
    have hd1 : decide ((s.size : Int) < 1) = true := by simp; omega
    have hfin : wordB s = false := wordB_nil s h0
    have HF := Lib.hid hfin; clear hfin hlen h0
    go_enter Try.func26, Try.ntmps26
    go_wp2
    go_ret
    exact ⟨ret_bool HF.out.symm, rfl⟩
  by_cases h40 : 40 < s.size
  · have hd : decide (40 < (s.size : Int)) = true := by simp; omega
    have hd1 : decide ((s.size : Int) < 1) = false := by simp; omega
    have hfin : wordB s = false := wordB_long s h40
    have HF := Lib.hid hfin; clear hfin hlen h0
    go_enter Try.func26, Try.ntmps26
    go_wp2
    go_ret
    exact ⟨ret_bool HF.out.symm, rfl⟩
  have hp : 0 < s.size := by omega
  have hne : ¬ s.toList = [] := fun h => h0 (toList_nil_iff s h)
  have hie : s.toList.isEmpty = false := by cases h : s.toList with
    | nil => exact absurd h hne
    | cons a b => rfl
  have hd : decide (40 < (s.size : Int)) = false := by simp; omega
  have hd1 : decide ((s.size : Int) < 1) = false := by simp; omega
  have hw := wordB_step s hp (by omega)
  have HW := Lib.hid hw
  clear hw hlen h0 h40
  by_cases hl : letB (s[0].toNat) = false
  · have hl2 : (!letB (s[0].toNat)) = true := by rw [hl]; rfl
    go_enter Try.func26, Try.ntmps26
    go_wp2_with (first | (go_at_call 56; refine (letter56 _ _).mono ?_; rintro e w' ⟨rfl, rfl⟩))
    go_ret
    exact ⟨ret_bool (by rw [HW.out, hl]; rfl), rfl⟩
  have hl1 : letB (s[0].toNat) = true := by simpa using hl
  clear hl
  go_enter Try.func26, Try.ntmps26
  go_wp2_with (first | (go_at_call 56; refine (letter56 _ _).mono ?_; rintro e w' ⟨rfl, rfl⟩))
  go_loop [3] (fun i => ∃ k : Nat, 1 ≤ k ∧ k ≤ s.size ∧ i = .int .i64 k ∧ Hid (wordB s = tailB (s.data.toList.drop k))) (fun i => s.size - (intOf i).toNat)
  case atStart => exact ⟨1, Nat.le_refl _, hp, rfl, Lib.hid (by rw [HW.out, hl1]; rfl)⟩
  case round =>
    obtain ⟨k, hk1, hk, rfl, HT⟩ := hrel
    by_cases hlt : k < s.size
    · have HS := Lib.hid (tailB_step s k hlt)
      by_cases h1 : letB (s[k].toNat) = true
      · go_wp2_with (first | (go_at_call 56; refine (letter56 _ _).mono ?_; rintro e w' ⟨rfl, rfl⟩) | (go_at_call 57; refine (digit57 _ _).mono ?_; rintro e w' ⟨rfl, rfl⟩))
        go_round
        case rel => exact ⟨k + 1, by omega, by omega, by go_num, Lib.hid (by rw [HT.out, HS.out, h1]; rfl)⟩
        case measure => simp [intOf]; omega
      · have h1' : letB (s[k].toNat) = false := by simpa using h1
        clear h1
        by_cases h2 : digB (s[k].toNat) = true
        · go_wp2_with (first | (go_at_call 56; refine (letter56 _ _).mono ?_; rintro e w' ⟨rfl, rfl⟩) | (go_at_call 57; refine (digit57 _ _).mono ?_; rintro e w' ⟨rfl, rfl⟩))
          go_round
          case rel => exact ⟨k + 1, by omega, by omega, by go_num, Lib.hid (by rw [HT.out, HS.out, h1', h2]; rfl)⟩
          case measure => simp [intOf]; omega
        · have h2' : digB (s[k].toNat) = false := by simpa using h2
          clear h2
          go_wp2_with (first | (go_at_call 56; refine (letter56 _ _).mono ?_; rintro e w' ⟨rfl, rfl⟩) | (go_at_call 57; refine (digit57 _ _).mono ?_; rintro e w' ⟨rfl, rfl⟩))
          go_ret
          exact ⟨ret_bool (by rw [HT.out, HS.out, h1', h2']; rfl), rfl⟩
    · go_wp2
      go_ret
      exact ⟨ret_bool (by rw [HT.out, List.drop_of_length_le (by show s.data.toList.length ≤ k; have : s.data.toList.length = s.size := rfl; omega)]; rfl), rfl⟩

theorem name55 (s : ByteArray) (w : World) (hs : s.size ≤ maxLen) : Calls Try.prog 55 #[.string s] w fun e w' => e = .returned (.bool (wordB s)) ∧ w = w' := by
  unfold maxLen at hs
  have hlen : s.data.toList.length = s.size := rfl
  by_cases h0 : s.size = 0
  · have he : s.toList = [] := toList_nil s h0
    have he2 : s.toList.isEmpty = true := by rw [he]; rfl
    have hd : decide (40 < (s.size : Int)) = false := by simp; omega
    have hd1 : decide ((s.size : Int) < 1) = true := by simp; omega
    have hfin : wordB s = false := wordB_nil s h0
    have HF := Lib.hid hfin; clear hfin hlen h0
    go_enter Try.func55, Try.ntmps55
    go_wp2
    go_ret
    exact ⟨ret_bool HF.out.symm, rfl⟩
  by_cases h40 : 40 < s.size
  · have hd : decide (40 < (s.size : Int)) = true := by simp; omega
    have hd1 : decide ((s.size : Int) < 1) = false := by simp; omega
    have hfin : wordB s = false := wordB_long s h40
    have HF := Lib.hid hfin; clear hfin hlen h0
    go_enter Try.func55, Try.ntmps55
    go_wp2
    go_ret
    exact ⟨ret_bool HF.out.symm, rfl⟩
  have hp : 0 < s.size := by omega
  have hne : ¬ s.toList = [] := fun h => h0 (toList_nil_iff s h)
  have hie : s.toList.isEmpty = false := by cases h : s.toList with
    | nil => exact absurd h hne
    | cons a b => rfl
  have hd : decide (40 < (s.size : Int)) = false := by simp; omega
  have hd1 : decide ((s.size : Int) < 1) = false := by simp; omega
  have hw := wordB_step s hp (by omega)
  have HW := Lib.hid hw
  clear hw hlen h0 h40
  by_cases hl : letB (s[0].toNat) = false
  · have hl2 : (!letB (s[0].toNat)) = true := by rw [hl]; rfl
    go_enter Try.func55, Try.ntmps55
    go_wp2_with (first | (go_at_call 79; refine (letter79 _ _).mono ?_; rintro e w' ⟨rfl, rfl⟩))
    go_ret
    exact ⟨ret_bool (by rw [HW.out, hl]; rfl), rfl⟩
  have hl1 : letB (s[0].toNat) = true := by simpa using hl
  clear hl
  go_enter Try.func55, Try.ntmps55
  go_wp2_with (first | (go_at_call 79; refine (letter79 _ _).mono ?_; rintro e w' ⟨rfl, rfl⟩))
  go_loop [3] (fun i => ∃ k : Nat, 1 ≤ k ∧ k ≤ s.size ∧ i = .int .i64 k ∧ Hid (wordB s = tailB (s.data.toList.drop k))) (fun i => s.size - (intOf i).toNat)
  case atStart => exact ⟨1, Nat.le_refl _, hp, rfl, Lib.hid (by rw [HW.out, hl1]; rfl)⟩
  case round =>
    obtain ⟨k, hk1, hk, rfl, HT⟩ := hrel
    by_cases hlt : k < s.size
    · have HS := Lib.hid (tailB_step s k hlt)
      by_cases h1 : letB (s[k].toNat) = true
      · go_wp2_with (first | (go_at_call 79; refine (letter79 _ _).mono ?_; rintro e w' ⟨rfl, rfl⟩) | (go_at_call 80; refine (digit80 _ _).mono ?_; rintro e w' ⟨rfl, rfl⟩))
        go_round
        case rel => exact ⟨k + 1, by omega, by omega, by go_num, Lib.hid (by rw [HT.out, HS.out, h1]; rfl)⟩
        case measure => simp [intOf]; omega
      · have h1' : letB (s[k].toNat) = false := by simpa using h1
        clear h1
        by_cases h2 : digB (s[k].toNat) = true
        · go_wp2_with (first | (go_at_call 79; refine (letter79 _ _).mono ?_; rintro e w' ⟨rfl, rfl⟩) | (go_at_call 80; refine (digit80 _ _).mono ?_; rintro e w' ⟨rfl, rfl⟩))
          go_round
          case rel => exact ⟨k + 1, by omega, by omega, by go_num, Lib.hid (by rw [HT.out, HS.out, h1', h2]; rfl)⟩
          case measure => simp [intOf]; omega
        · have h2' : digB (s[k].toNat) = false := by simpa using h2
          clear h2
          go_wp2_with (first | (go_at_call 79; refine (letter79 _ _).mono ?_; rintro e w' ⟨rfl, rfl⟩) | (go_at_call 80; refine (digit80 _ _).mono ?_; rintro e w' ⟨rfl, rfl⟩))
          go_ret
          exact ⟨ret_bool (by rw [HT.out, HS.out, h1', h2']; rfl), rfl⟩
    · go_wp2
      go_ret
      exact ⟨ret_bool (by rw [HT.out, List.drop_of_length_le (by show s.data.toList.length ≤ k; have : s.data.toList.length = s.size := rfl; omega)]; rfl), rfl⟩

theorem name25 (s : ByteArray) (w : World) (hs : s.size ≤ maxLen) : Calls Try.prog 25 #[.string s] w fun e w' => e = .returned (.bool (wordB s)) ∧ w = w' := by
  go_enter Try.func25, Try.ntmps25
  go_wp2_with (first | (go_at_call 55; refine (name55 _ _ hs).mono ?_; rintro e w' ⟨rfl, rfl⟩))
  go_ret
  exact ⟨rfl, rfl⟩
end Go.Proofs.Ytgfhnjmihbgcoaa
