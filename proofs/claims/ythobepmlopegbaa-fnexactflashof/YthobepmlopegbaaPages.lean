/- Contracts of checkPages and l02Pages. -/
import Derived.Test.YthobepmlopegbaaOkDisk
namespace Go.Proofs.Ythobepmlopegbaa
open Go.RowKit

/-- The code of some pages. -/
def pagesC (ss : List ByteArray) : Int := if 4096 < ss.length then 2 else if ss.length ≠ 17 then 8 else if ss.all okSt = true then 0 else 8

set_option maxRecDepth 100000 in
set_option maxHeartbeats 1000000 in
theorem checkPages (A : Option Addr) (n c : Nat) (ss : List ByteArray) (w : World) (hl : ss.length = n) (hn : n ≤ maxLen) (h : StrL w A ss) (fs : FitS ss) :
    Calls Try.prog 42 #[.slice A n c] w fun e w' => e = .returned (.int .i64 (pagesC ss)) ∧ w = w' := by
  unfold maxLen at hn
  by_cases h1 : 4096 < n
  · have HV : Hid (pagesC ss = 2) := Lib.hid (by unfold pagesC; rw [if_pos (by rw [hl]; exact h1)])
    have h1' : (4096 : Int) < (n : Int) := by omega
    clear h fs hl h1
    go_enter Try.func42, Try.ntmps42
    go_wp2
    go_ret
    exact ⟨ret_int HV.out.symm, rfl⟩
  have h1' : ¬ (4096 : Int) < (n : Int) := by omega
  by_cases h2 : n = 17
  · have h2b : ((n : Int) != 17) = false := by rw [h2]; rfl
    have HV : Hid (pagesC ss = if ss.all okSt = true then 0 else 8) := Lib.hid (by unfold pagesC; rw [if_neg (by rw [hl]; exact h1), if_neg (by rw [hl, h2]; simp)])
    have HL := Lib.hid hl
    have H := Lib.hid h
    have HF := Lib.hid fs
    have h17 : n ≤ 17 := by omega
    clear hl h fs h1 h2
    go_enter Try.func42, Try.ntmps42
    go_wp2
    go_loop [13] (fun i => ∃ k : Nat, k ≤ n ∧ i = .int .i64 k ∧ Hid (ss.all okSt = (ss.drop k).all okSt)) (fun i => n - (intOf i).toNat)
    case atStart => exact ⟨0, Nat.zero_le _, rfl, Lib.hid rfl⟩
    case round =>
      obtain ⟨k, hk, rfl, HT⟩ := hrel
      by_cases hlt : k < n
      · obtain ⟨b, off, rfl, hc⟩ := H.out k (by rw [HL.out]; exact hlt)
        have HS := Lib.hid (all_step okSt ss ByteArray.empty k (by rw [HL.out]; exact hlt))
        have hx := HF.out.at_ k (by rw [HL.out]; exact hlt)
        generalize ss.getD k ByteArray.empty = x at hc HS hx
        unfold maxLen at hx
        have hi : (k : Int) < (n : Int) := by omega
        by_cases hE : 100 < x.size
        · have hE' : (100 : Int) < (x.size : Int) := by omega
          have HE : Hid (okSt x = false) := Lib.hid (by unfold okSt; exact decide_eq_false (by omega))
          clear hE
          go_wp2
          go_ret
          exact ⟨ret_int (by rw [HV.out, HT.out, HS.out, HE.out]; rfl), rfl⟩
        · have hE' : ¬ (100 : Int) < (x.size : Int) := by omega
          have HE : Hid (okSt x = true) := Lib.hid (by unfold okSt; exact decide_eq_true (by omega))
          clear hE
          go_wp2
          go_round
          case rel => exact ⟨k + 1, by omega, by go_num, Lib.hid (by rw [HT.out, HS.out, HE.out]; rfl)⟩
          case measure => simp [intOf]; omega
      · go_wp2
        go_ret
        exact ⟨ret_int (by rw [HV.out, HT.out, all_end _ _ _ (by rw [HL.out]; omega)]; rfl), rfl⟩
  · have h2b : ((n : Int) != 17) = true := by simp; omega
    have HV : Hid (pagesC ss = 8) := Lib.hid (by unfold pagesC; rw [if_neg (by rw [hl]; exact h1), if_pos (by rw [hl]; exact h2)])
    clear h fs hl h1
    go_enter Try.func42, Try.ntmps42
    go_wp2
    go_ret
    exact ⟨ret_int HV.out.symm, rfl⟩

set_option maxRecDepth 100000 in
set_option maxHeartbeats 1000000 in
theorem l02Pages (A : Option Addr) (n c : Nat) (ss : List ByteArray) (w : World) (hl : ss.length = n) (hn : n ≤ maxLen) (h : StrL w A ss) (fs : FitS ss) :
    Calls Try.prog 59 #[.slice A n c] w fun e w' => e = .returned (.int .i64 (pagesC ss)) ∧ w = w' := by
  unfold maxLen at hn
  by_cases h1 : 4096 < n
  · have HV : Hid (pagesC ss = 2) := Lib.hid (by unfold pagesC; rw [if_pos (by rw [hl]; exact h1)])
    have h1' : (4096 : Int) < (n : Int) := by omega
    clear h fs hl h1
    go_enter Try.func59, Try.ntmps59
    go_wp2
    go_ret
    exact ⟨ret_int HV.out.symm, rfl⟩
  have h1' : ¬ (4096 : Int) < (n : Int) := by omega
  by_cases h2 : n = 17
  · have h2b : ((n : Int) != 17) = false := by rw [h2]; rfl
    have HV : Hid (pagesC ss = if ss.all okSt = true then 0 else 8) := Lib.hid (by unfold pagesC; rw [if_neg (by rw [hl]; exact h1), if_neg (by rw [hl, h2]; simp)])
    have HL := Lib.hid hl
    have H := Lib.hid h
    have HF := Lib.hid fs
    have h17 : n ≤ 17 := by omega
    clear hl h fs h1 h2
    go_enter Try.func59, Try.ntmps59
    go_wp2
    go_loop [3] (fun i => ∃ k : Nat, k ≤ n ∧ i = .int .i64 k ∧ Hid (ss.all okSt = (ss.drop k).all okSt)) (fun i => n - (intOf i).toNat)
    case atStart => exact ⟨0, Nat.zero_le _, rfl, Lib.hid rfl⟩
    case round =>
      obtain ⟨k, hk, rfl, HT⟩ := hrel
      by_cases hlt : k < n
      · obtain ⟨b, off, rfl, hc⟩ := H.out k (by rw [HL.out]; exact hlt)
        have HS := Lib.hid (all_step okSt ss ByteArray.empty k (by rw [HL.out]; exact hlt))
        have hx := HF.out.at_ k (by rw [HL.out]; exact hlt)
        generalize ss.getD k ByteArray.empty = x at hc HS hx
        unfold maxLen at hx
        have hi : (k : Int) < (n : Int) := by omega
        by_cases hE : 100 < x.size
        · have hE' : (100 : Int) < (x.size : Int) := by omega
          have HE : Hid (okSt x = false) := Lib.hid (by unfold okSt; exact decide_eq_false (by omega))
          clear hE
          go_wp2
          go_ret
          exact ⟨ret_int (by rw [HV.out, HT.out, HS.out, HE.out]; rfl), rfl⟩
        · have hE' : ¬ (100 : Int) < (x.size : Int) := by omega
          have HE : Hid (okSt x = true) := Lib.hid (by unfold okSt; exact decide_eq_true (by omega))
          clear hE
          go_wp2
          go_round
          case rel => exact ⟨k + 1, by omega, by go_num, Lib.hid (by rw [HT.out, HS.out, HE.out]; rfl)⟩
          case measure => simp [intOf]; omega
      · go_wp2
        go_ret
        exact ⟨ret_int (by rw [HV.out, HT.out, all_end _ _ _ (by rw [HL.out]; omega)]; rfl), rfl⟩
  · have h2b : ((n : Int) != 17) = true := by simp; omega
    have HV : Hid (pagesC ss = 8) := Lib.hid (by unfold pagesC; rw [if_neg (by rw [hl]; exact h1), if_pos (by rw [hl]; exact h2)])
    clear h fs hl h1
    go_enter Try.func59, Try.ntmps59
    go_wp2
    go_ret
    exact ⟨ret_int HV.out.symm, rfl⟩
end Go.Proofs.Ythobepmlopegbaa
