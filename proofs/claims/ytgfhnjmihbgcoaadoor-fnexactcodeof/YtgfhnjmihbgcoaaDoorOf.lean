/- Contracts of CodeOf (impl and spec). -/
import Derived.Test.YtgfhnjmihbgcoaaDoorTab
import Derived.Laws.Rows
import Derived.WalkSmall
namespace Go.Proofs.YtgfhnjmihbgcoaaDoor
open Go.ChangeShapes Go.WideShapes Go.ChangeAt Go.RowKit

def srch (s : ByteArray) : List ByteArray → Int → Int
  | [], _ => -1
  | x :: r, k => if x = s then k else srch s r (k + 1)
def codeOf (s : ByteArray) : Int := srch s wordList 0

theorem beq_bytes (a b : ByteArray) : (a.toList == b.toList) = decide (a = b) := by
  rw [ByteArray.toList_eq, ByteArray.toList_eq, Bool.eq_iff_iff]
  simp only [beq_iff_eq, decide_eq_true_eq]
  exact ⟨bytes_inj, fun h => by rw [h]⟩
theorem srch_step (s : ByteArray) (k : Nat) (h : k < 20) : srch s (wordList.drop k) k = if wordList.getD k ByteArray.empty = s then (k : Int) else srch s (wordList.drop (k + 1)) ((k + 1 : Nat) : Int) := by
  have hl : wordList.length = 20 := rfl
  rw [List.drop_eq_getElem_cons (by omega)]
  rw [List.getD_eq_getElem?_getD, List.getElem?_eq_getElem (by omega)]
  rfl
theorem wordOf_nat (k : Nat) : wordOf (k : Int) = wordList.getD k ByteArray.empty := by
  unfold wordOf; rw [if_pos (by omega)]; rfl
theorem ret_int {a b : Int} (h : a = b) : Ending.returned (.int .i64 a) = .returned (.int .i64 b) := by rw [h]

set_option maxHeartbeats 1000000 in
theorem of7 (s : ByteArray) (w : World) : Calls Tryd.prog 7 #[.string s] w fun e w' => e = .returned (.int .i64 (codeOf s)) ∧ Below w.heap.size w w' := by
  go_enter Tryd.func7, Tryd.ntmps7
  go_wp2
  go_loopw [3] (fun i wr => ∃ k : Nat, k ≤ 20 ∧ i = .int .i64 k ∧ Hid (codeOf s = srch s (wordList.drop k) k) ∧ Below w.heap.size w wr) (fun i _ => 20 - (intOf i).toNat)
  case atStart => exact ⟨0, by omega, rfl, Lib.hid rfl, Below.refl _ _⟩
  case round =>
    obtain ⟨k, hk, rfl, HT, hb⟩ := hrel
    by_cases hlt : k < 20
    · have hl19 : (k : Int) ≤ 19 := by omega
      have HS := Lib.hid (srch_step s k hlt)
      have HW := Lib.hid (wordOf_nat k)
      go_wp2_with fail
      refine (word5 (k : Int) wr).mono ?_
      rintro e w1 ⟨rfl, hb1⟩
      have hq := beq_bytes (wordOf (k : Int)) s
      by_cases hE : wordOf (k : Int) = s
      · have hq1 : ((wordOf (k : Int)).toList == s.toList) = true := by rw [hq]; simp [hE]
        have HE := Lib.hid hE
        clear hq hE
        go_wp2
        go_ret
        exact ⟨ret_int (by rw [HT.out, HS.out, ← HW.out, if_pos HE.out]), hb.trans (hb1.mono hb.size)⟩
      · have hq1 : ((wordOf (k : Int)).toList == s.toList) = false := by rw [hq]; simp [hE]
        have HE := Lib.hid hE
        clear hq hE
        go_wp2
        go_roundw
        case rel => exact ⟨k + 1, by omega, by go_num, Lib.hid (by rw [HT.out, HS.out, ← HW.out, if_neg HE.out]), hb.trans (hb1.mono hb.size)⟩
        case measure => simp [intOf]; omega
    · have hl19 : ¬ (k : Int) ≤ 19 := by omega
      go_wp2
      go_ret
      exact ⟨ret_int (by rw [HT.out, List.drop_of_length_le (by show 20 ≤ k; omega)]; rfl), hb⟩

theorem row_of_var {W : World} (h : W.var? Tryd.prog "loop.example/g00563/impl.codeWords" = some wordCells) : ∃ t fr, W.heap[0]? = some (.cells wordCells t fr) := by
  simp only [World.var?, gTab, Option.bind_some] at h
  split at h
  · rename_i c t fr hc
    simp only [Option.some.injEq] at h
    subst h
    exact ⟨t, fr, hc⟩
  · cases h

theorem index_word (k : Nat) (h : k < 20) (w : World) : (Instr.index 27 (.agg wordCells) (.int .i64 (k : Int))).run Tryd.prog w = .ok (.string (wordList.getD k ByteArray.empty)) w := by
  have : k = 0 ∨ k = 1 ∨ k = 2 ∨ k = 3 ∨ k = 4 ∨ k = 5 ∨ k = 6 ∨ k = 7 ∨ k = 8 ∨ k = 9 ∨ k = 10 ∨ k = 11 ∨ k = 12 ∨ k = 13 ∨ k = 14 ∨ k = 15 ∨ k = 16 ∨ k = 17 ∨ k = 18 ∨ k = 19 := by omega
  rcases this with rfl | rfl | rfl | rfl | rfl | rfl | rfl | rfl | rfl | rfl | rfl | rfl | rfl | rfl | rfl | rfl | rfl | rfl | rfl | rfl
  all_goals (clear h; show _ = _; kernel_rfl)

set_option maxHeartbeats 1000000 in
theorem of8 (s : ByteArray) (w : World) (t : TypeId) (fr : Nat × Nat) (hg : w.heap[0]? = some (.cells wordCells t fr)) : Calls Tryd.prog 8 #[.string s] w fun e w' => e = .returned (.int .i64 (codeOf s)) ∧ w = w' := by
  have HG := Lib.hid hg
  clear hg
  go_enter Tryd.func8, Tryd.ntmps8
  go_wp2_with (refine wpList_load_row rfl 27 _ rfl 0 rfl t wordCells fr _ HG.out Tryd.underlying27 rfl (by kernel_rfl) ?_)
  go_loop [6] (fun i => ∃ k : Nat, k ≤ 20 ∧ i = .int .i64 k ∧ Hid (codeOf s = srch s (wordList.drop k) k)) (fun i => 20 - (intOf i).toNat)
  case atStart => exact ⟨0, by omega, rfl, Lib.hid rfl⟩
  case round =>
    obtain ⟨k, hk, rfl, HT⟩ := hrel
    by_cases hlt : k < 20
    · have hl20 : (k : Int) < 20 := by omega
      have HS := Lib.hid (srch_step s k hlt)
      have hix := index_word k hlt
      generalize wordList.getD k ByteArray.empty = x at hix HS
      have hq := beq_bytes x s
      by_cases hE : x = s
      · have hq1 : (x.toList == s.toList) = true := by rw [hq]; simp [hE]
        have HE := Lib.hid hE
        clear hq hE
        go_wp2
        go_ret
        exact ⟨ret_int (by rw [HT.out, HS.out, if_pos HE.out]), rfl⟩
      · have hq1 : (x.toList == s.toList) = false := by rw [hq]; simp [hE]
        have HE := Lib.hid hE
        clear hq hE
        go_wp2
        go_round
        case rel => exact ⟨k + 1, by omega, by go_num, Lib.hid (by rw [HT.out, HS.out, if_neg HE.out])⟩
        case measure => simp [intOf]; omega
    · have hl20 : ¬ (k : Int) < 20 := by omega
      go_wp2
      go_ret
      exact ⟨ret_int (by rw [HT.out, List.drop_of_length_le (by show 20 ≤ k; omega)]; rfl), rfl⟩
end Go.Proofs.YtgfhnjmihbgcoaaDoor
