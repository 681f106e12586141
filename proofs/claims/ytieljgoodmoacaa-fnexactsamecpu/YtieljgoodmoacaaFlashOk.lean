/- Contracts of the tests of a flash: isByte, isOffset, isBlock, blockOf, l01In, l03At, allBytes, Flash.valid, both FlashOK, checkCell, checkBlock, l03Ask. -/
import Derived.Test.YtieljgoodmoacaaFlash
import Derived.Test.YtieljgoodmoacaaOkDisk
namespace Go.Proofs.Ytieljgoodmoacaa
open Go.RowKit

def byB (n : Int) : Bool := decide (0 ≤ n ∧ n ≤ 255)
def blkB (n : Int) : Bool := decide (0 ≤ n ∧ n ≤ 15)
def stB (n : Int) : Bool := decide (0 ≤ n ∧ n ≤ 8)
def okFlash (zs : List Int) (gs : List Bool) (st : Int) : Bool := (decide (zs.length = 256) && decide (gs.length = 16)) && (stB st && zs.all byB)
def codeIf (f ok : Bool) : Int := if f then (if ok then 0 else 4) else 1

theorem byB_range {a : Int} (h : byB a = true) : 0 ≤ a ∧ a ≤ 255 := by unfold byB at h; simpa using h
theorem blkB_range {a : Int} (h : blkB a = true) : 0 ≤ a ∧ a ≤ 15 := by unfold blkB at h; simpa using h
theorem stB_range {a : Int} (h : stB a = true) : 0 ≤ a ∧ a ≤ 8 := by unfold stB at h; simpa using h
theorem okFlash_len {zs : List Int} {gs : List Bool} {st : Int} (h : okFlash zs gs st = true) : zs.length = 256 ∧ gs.length = 16 ∧ (0 ≤ st ∧ st ≤ 8) ∧ ∀ z ∈ zs, 0 ≤ z ∧ z ≤ 255 := by
  unfold okFlash at h
  simp only [Bool.and_eq_true, decide_eq_true_eq, List.all_eq_true] at h
  exact ⟨h.1.1, h.1.2, stB_range h.2.1, fun z hz => byB_range (h.2.2 z hz)⟩
theorem okFlash_mk {zs : List Int} {gs : List Bool} {st : Int} (h1 : zs.length = 256) (h2 : gs.length = 16) (h3 : 0 ≤ st ∧ st ≤ 8) (h4 : ∀ z ∈ zs, 0 ≤ z ∧ z ≤ 255) : okFlash zs gs st = true := by
  unfold okFlash
  simp only [Bool.and_eq_true, decide_eq_true_eq, List.all_eq_true]
  exact ⟨⟨h1, h2⟩, by unfold stB; simpa using h3, fun z hz => by unfold byB; simpa using h4 z hz⟩

set_option maxRecDepth 100000 in
theorem isByte (n : Int) (w : World) : Calls Try.prog 58 #[.int .i64 n] w fun e w' => e = .returned (.bool (byB n)) ∧ w = w' := by
  go_enter Try.func58, Try.ntmps58
  go_wp2
  all_goals go_ret
  all_goals (refine ⟨ret_bool ?_, rfl⟩)
  all_goals (unfold byB; rw [Bool.eq_iff_iff]; simp; try omega)
set_option maxRecDepth 100000 in
theorem l01In255 (n : Int) (w : World) : Calls Try.prog 33 #[.int .i64 n, .int .i64 0, .int .i64 255] w fun e w' => e = .returned (.bool (byB n)) ∧ w = w' := by
  go_enter Try.func33, Try.ntmps33
  go_wp2
  all_goals go_ret
  all_goals (refine ⟨ret_bool ?_, rfl⟩)
  all_goals (unfold byB; rw [Bool.eq_iff_iff]; simp; try omega)
set_option maxRecDepth 100000 in
theorem l01In15 (n : Int) (w : World) : Calls Try.prog 33 #[.int .i64 n, .int .i64 0, .int .i64 15] w fun e w' => e = .returned (.bool (blkB n)) ∧ w = w' := by
  go_enter Try.func33, Try.ntmps33
  go_wp2
  all_goals go_ret
  all_goals (refine ⟨ret_bool ?_, rfl⟩)
  all_goals (unfold blkB; rw [Bool.eq_iff_iff]; simp; try omega)
set_option maxRecDepth 100000 in
theorem l01In8 (n : Int) (w : World) : Calls Try.prog 33 #[.int .i64 n, .int .i64 0, .int .i64 8] w fun e w' => e = .returned (.bool (stB n)) ∧ w = w' := by
  go_enter Try.func33, Try.ntmps33
  go_wp2
  all_goals go_ret
  all_goals (refine ⟨ret_bool ?_, rfl⟩)
  all_goals (unfold stB; rw [Bool.eq_iff_iff]; simp; try omega)
set_option maxRecDepth 100000 in
theorem blockOf (n : Nat) (hn : n ≤ 255) (w : World) : Calls Try.prog 116 #[.int .i64 n] w fun e w' => e = .returned (.int .i64 ((n / 16 : Nat) : Int)) ∧ w = w' := by
  go_enter Try.func116, Try.ntmps116
  go_wp2
  go_ret
  exact ⟨rfl, rfl⟩

set_option maxRecDepth 100000 in
set_option maxHeartbeats 1000000 in
theorem allBytes (A : Option Addr) (n c : Nat) (zs : List Int) (w : World) (hl : zs.length = n) (hn : n ≤ maxLen) (h : IntL w A zs) :
    Calls Try.prog 59 #[.slice A n c] w fun e w' => e = .returned (.bool (zs.all byB)) ∧ w = w' := by
  unfold maxLen at hn
  have HL := Lib.hid hl
  have H := Lib.hid h
  clear hl h
  go_enter Try.func59, Try.ntmps59
  go_wp2
  go_loop [7] (fun i => ∃ k : Nat, k ≤ n ∧ i = .int .i64 k ∧ Hid (zs.all byB = (zs.drop k).all byB)) (fun i => n - (intOf i).toNat)
  case atStart => exact ⟨0, Nat.zero_le _, rfl, Lib.hid rfl⟩
  case round =>
    obtain ⟨k, hk, rfl, HT⟩ := hrel
    by_cases hlt : k < n
    · obtain ⟨b, off, rfl, hc⟩ := H.out k (by rw [HL.out]; exact hlt)
      have HS := Lib.hid (all_step byB zs 0 k (by rw [HL.out]; exact hlt))
      generalize zs.getD k 0 = x at hc HS
      have hi : (k : Int) < (n : Int) := by omega
      by_cases hE : byB x = true
      · go_wp2_with (first | (go_at_call 58; refine (isByte _ _).mono ?_; rintro e w' ⟨rfl, rfl⟩; rw [hE]))
        go_round
        case rel => exact ⟨k + 1, by omega, by go_num, Lib.hid (by rw [HT.out, HS.out, hE]; rfl)⟩
        case measure => simp [intOf]; omega
      · have hE' : byB x = false := by simpa using hE
        clear hE
        go_wp2_with (first | (go_at_call 58; refine (isByte _ _).mono ?_; rintro e w' ⟨rfl, rfl⟩; rw [hE']))
        go_ret
        exact ⟨ret_bool (by rw [HT.out, HS.out, hE']; rfl), rfl⟩
    · have HT2 : Hid (zs.all byB = true) := Lib.hid (by rw [HT.out]; exact all_end _ _ _ (by rw [HL.out]; omega))
      go_wp2
      go_ret
      exact ⟨ret_bool HT2.out.symm, rfl⟩

theorem okFlash_no1 (zs : List Int) (gs : List Bool) (st : Int) (h : zs.length ≠ 256) : okFlash zs gs st = false := by unfold okFlash; simp [h]
theorem okFlash_no2 (zs : List Int) (gs : List Bool) (st : Int) (h : gs.length ≠ 16) : okFlash zs gs st = false := by unfold okFlash; simp [h]
theorem okFlash_no3 (zs : List Int) (gs : List Bool) (st : Int) (h : stB st = false) : okFlash zs gs st = false := by unfold okFlash; simp [h]
theorem okFlash_yes (zs : List Int) (gs : List Bool) (st : Int) (h : zs.length = 256) (h2 : gs.length = 16) (h3 : stB st = true) : okFlash zs gs st = zs.all byB := by unfold okFlash; simp [h, h2, h3]

set_option maxRecDepth 100000 in
set_option maxHeartbeats 2000000 in
theorem flashValid (A C : Option Addr) (n c m d : Nat) (st : Int) (zs : List Int) (gs : List Bool) (w : World) (hl : zs.length = n) (hm : gs.length = m) (hn : n ≤ maxLen) (_hmm : m ≤ maxLen) (h : IntL w A zs) :
    Calls Try.prog 67 #[.agg #[.slice A n c, .slice C m d, .int .i64 st]] w fun e w' => e = .returned (.bool (okFlash zs gs st)) ∧ Below w.heap.size w w' := by
  have hb0 := alloc_below w (.cells #[.slice A n c, .slice C m d, .int .i64 st] 43)
  have HB := Lib.hid (allBytes A n c zs _ hl hn (h.below hb0))
  unfold maxLen at hn _hmm
  have HL := Lib.hid hl
  have HM := Lib.hid hm
  clear hl hm h
  by_cases h1 : n = 256
  · have q1 : ((n : Int) == 256) = true := by simp; omega
    by_cases h2 : m = 16
    · have q2 : ((m : Int) == 16) = true := by simp; omega
      by_cases h3 : 0 ≤ st
      · by_cases h4 : st ≤ 8
        · have HY := Lib.hid (okFlash_yes zs gs st (by rw [HL.out]; exact h1) (by rw [HM.out]; exact h2) (by unfold stB; simp; omega))
          generalize okFlash zs gs st = r at HY
          generalize zs.all byB = ab at HB HY
          clear h1 h2
          go_enter Try.func67, Try.ntmps67
          go_wp2_with (first | (go_at_call 59; refine HB.out.mono ?_; rintro e w' ⟨rfl, rfl⟩))
          all_goals go_ret
          all_goals exact ⟨ret_bool HY.out.symm, hb0⟩
        · have HF := Lib.hid (okFlash_no3 zs gs st (by unfold stB; simp; omega))
          clear h1 h2
          go_enter Try.func67, Try.ntmps67
          go_wp2
          all_goals go_ret
          all_goals exact ⟨ret_bool HF.out.symm, hb0⟩
      · have HF := Lib.hid (okFlash_no3 zs gs st (by unfold stB; simp; omega))
        clear h1 h2
        go_enter Try.func67, Try.ntmps67
        go_wp2
        all_goals go_ret
        all_goals exact ⟨ret_bool HF.out.symm, hb0⟩
    · have q2 : ((m : Int) == 16) = false := by simp; omega
      have HF := Lib.hid (okFlash_no2 zs gs st (by rw [HM.out]; exact h2))
      clear h1 h2
      go_enter Try.func67, Try.ntmps67
      go_wp2
      all_goals go_ret
      all_goals exact ⟨ret_bool HF.out.symm, hb0⟩
  · have q1 : ((n : Int) == 256) = false := by simp; omega
    have HF := Lib.hid (okFlash_no1 zs gs st (by rw [HL.out]; exact h1))
    clear h1
    go_enter Try.func67, Try.ntmps67
    go_wp2
    all_goals go_ret
    all_goals exact ⟨ret_bool HF.out.symm, hb0⟩

set_option maxRecDepth 100000 in
set_option maxHeartbeats 2000000 in
theorem specFlashOK (A C : Option Addr) (n c m d : Nat) (st : Int) (zs : List Int) (gs : List Bool) (w : World) (hl : zs.length = n) (hm : gs.length = m) (hn : n ≤ maxLen) (_hmm : m ≤ maxLen) (h : IntL w A zs) :
    Calls Try.prog 61 #[.agg #[.slice A n c, .slice C m d, .int .i64 st]] w fun e w' => e = .returned (.bool (okFlash zs gs st)) ∧ Below w.heap.size w w' := by
  have hb0 := alloc_below w (.cells #[.slice A n c, .slice C m d, .int .i64 st] 43)
  have H := Lib.hid (h.below hb0)
  unfold maxLen at hn _hmm
  have HL := Lib.hid hl
  have HM := Lib.hid hm
  clear hl hm h
  by_cases h1 : n = 256
  · have q1 : ((n : Int) != 256) = false := by simp; omega
    by_cases h2 : m = 16
    · have q2 : ((m : Int) != 16) = false := by simp; omega
      by_cases h3 : stB st = true
      · have HY := Lib.hid (okFlash_yes zs gs st (by rw [HL.out]; exact h1) (by rw [HM.out]; exact h2) h3)
        generalize okFlash zs gs st = r at HY
        have H3 := Lib.hid h3
        clear h1 h2 h3
        go_enter Try.func61, Try.ntmps61
        go_wp2_with (first | (go_at_call 33; refine (l01In8 _ _).mono ?_; rintro e w' ⟨rfl, rfl⟩; rw [H3.out]))
        go_loop [3] (fun i => ∃ k : Nat, k ≤ n ∧ i = .int .i64 k ∧ Hid (zs.all byB = (zs.drop k).all byB)) (fun i => n - (intOf i).toNat)
        case atStart => exact ⟨0, Nat.zero_le _, rfl, Lib.hid rfl⟩
        case round =>
          obtain ⟨k, hk, rfl, HT⟩ := hrel
          by_cases hlt : k < n
          · obtain ⟨b, off, rfl, hc⟩ := H.out k (by rw [HL.out]; exact hlt)
            have HS := Lib.hid (all_step byB zs 0 k (by rw [HL.out]; exact hlt))
            generalize zs.getD k 0 = x at hc HS
            have hi : (k : Int) < (n : Int) := by omega
            by_cases hE : byB x = true
            · go_wp2_with (first | (go_at_call 33; refine (l01In255 _ _).mono ?_; rintro e w' ⟨rfl, rfl⟩; rw [hE]))
              go_round
              case rel => exact ⟨k + 1, by omega, by go_num, Lib.hid (by rw [HT.out, HS.out, hE]; rfl)⟩
              case measure => simp [intOf]; omega
            · have hE' : byB x = false := by simpa using hE
              clear hE
              go_wp2_with (first | (go_at_call 33; refine (l01In255 _ _).mono ?_; rintro e w' ⟨rfl, rfl⟩; rw [hE']))
              go_ret
              exact ⟨ret_bool (by rw [HY.out, HT.out, HS.out, hE']; rfl), hb0⟩
          · have HT2 : Hid (zs.all byB = true) := Lib.hid (by rw [HT.out]; exact all_end _ _ _ (by rw [HL.out]; omega))
            go_wp2
            go_ret
            exact ⟨ret_bool (by rw [HY.out, HT2.out]), hb0⟩
      · have h3' : stB st = false := by simpa using h3
        have HF := Lib.hid (okFlash_no3 zs gs st h3')
        have H3 := Lib.hid h3'
        clear h1 h2 h3 h3'
        go_enter Try.func61, Try.ntmps61
        go_wp2_with (first | (go_at_call 33; refine (l01In8 _ _).mono ?_; rintro e w' ⟨rfl, rfl⟩; rw [H3.out]))
        go_ret
        exact ⟨ret_bool HF.out.symm, hb0⟩
    · have q2 : ((m : Int) != 16) = true := by simp; omega
      have HF := Lib.hid (okFlash_no2 zs gs st (by rw [HM.out]; exact h2))
      clear h1 h2
      go_enter Try.func61, Try.ntmps61
      go_wp2
      all_goals go_ret
      all_goals exact ⟨ret_bool HF.out.symm, hb0⟩
  · have q1 : ((n : Int) != 256) = true := by simp; omega
    have HF := Lib.hid (okFlash_no1 zs gs st (by rw [HL.out]; exact h1))
    clear h1
    go_enter Try.func61, Try.ntmps61
    go_wp2
    all_goals go_ret
    all_goals exact ⟨ret_bool HF.out.symm, hb0⟩

end Go.Proofs.Ytieljgoodmoacaa
