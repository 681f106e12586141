/- Contracts of the measures: szStringS, szWrite, szWriteS, szDisk: what is left, or -1. -/
import Derived.Test.YtoaeofahknknhaaDoorEqDisk
import Derived.Test.YtoaeofahknknhaaDoorOwn
namespace Go.Proofs.YtoaeofahknknhaaDoor
open Go.RowKit

/-- How many letters the strings hold. -/
def lenS (ss : List ByteArray) : Nat := (ss.map (·.size)).sum
def lenW (ws : List (Int × ByteArray)) : Nat := (ws.map (·.2.size)).sum

theorem lenS_take (ss : List ByteArray) (k : Nat) (h : k < ss.length) : lenS (ss.take (k + 1)) = lenS (ss.take k) + (ss.getD k ByteArray.empty).size := by
  unfold lenS
  rw [List.take_succ_eq_append_getElem h, List.map_append, List.sum_append, List.getD_eq_getElem?_getD, List.getElem?_eq_getElem h]
  simp
theorem lenW_take (ws : List (Int × ByteArray)) (k : Nat) (h : k < ws.length) : lenW (ws.take (k + 1)) = lenW (ws.take k) + (ws.getD k (0, ByteArray.empty)).2.size := by
  unfold lenW
  rw [List.take_succ_eq_append_getElem h, List.map_append, List.sum_append, List.getD_eq_getElem?_getD, List.getElem?_eq_getElem h]
  simp

/-- What a measure answers: a negative number, or what is left of the bound. -/
def Left (left : Int) (used : Nat) (w : World) (e : Ending) (w' : World) : Prop :=
  (e = .returned (.int .i64 (-1)) ∨ e = .returned (.int .i64 (left - used)) ∧ (used : Int) ≤ left) ∧ Below w.heap.size w w'

set_option maxRecDepth 100000 in
set_option maxHeartbeats 1000000 in
theorem szStringS (A : Option Addr) (n c : Nat) (ss : List ByteArray) (left : Int) (w : World) (hl : ss.length = n) (hn : n ≤ maxLen) (h0 : 0 ≤ left) (h1 : left ≤ 1048576) (h : StrL w A ss) (hs : ∀ s ∈ ss, s.size ≤ maxLen) :
    Calls Tryd.prog 38 #[.slice A n c, .int .i64 left] w (Left left (ss.length + lenS ss) w) := by
  unfold maxLen at hn
  have HL := Lib.hid hl
  have H := Lib.hid h
  have HS := Lib.hid hs
  clear hl h hs
  by_cases hb : left < n
  · have hb' : left - (n : Int) < 0 := by omega
    go_enter Tryd.func38, Tryd.ntmps38
    go_wp2
    go_ret
    exact ⟨.inl rfl, Below.refl _ _⟩
  · have hb' : ¬ left - (n : Int) < 0 := by omega
    go_enter Tryd.func38, Tryd.ntmps38
    go_wp2
    go_loop [5, 1] (fun i l => ∃ k : Nat, k ≤ n ∧ i = .int .i64 k ∧ l = .int .i64 (left - n - lenS (ss.take k)) ∧ 0 ≤ left - n - lenS (ss.take k)) (fun i _ => n - (intOf i).toNat)
    case atStart => exact ⟨0, Nat.zero_le _, rfl, by simp [lenS], by simp [lenS]; omega⟩
    case round =>
      obtain ⟨k, hk, rfl, rfl, hr⟩ := hrel
      by_cases hlt : k < n
      · obtain ⟨b, off, rfl, hc⟩ := H.out k (by rw [HL.out]; exact hlt)
        have hx : (ss.getD k ByteArray.empty).size ≤ maxLen := HS.out _ (by rw [List.getD_eq_getElem?_getD, List.getElem?_eq_getElem (by rw [HL.out]; exact hlt)]; exact List.getElem_mem _)
        have HK := Lib.hid (lenS_take ss k (by rw [HL.out]; exact hlt))
        generalize ss.getD k ByteArray.empty = x at hc HK hx
        unfold maxLen at hx
        generalize lenS (ss.take k) = u at HK hr
        have hi : (k : Int) < (n : Int) := by omega
        by_cases hE : left - n - u < x.size
        · have hE' : left - (n : Int) - (u : Int) - (x.size : Int) < 0 := by omega
          go_wp2
          go_ret
          exact ⟨.inl rfl, Below.refl _ _⟩
        · have hE' : ¬ left - (n : Int) - (u : Int) - (x.size : Int) < 0 := by omega
          go_wp2
          go_round
          case rel => exact ⟨k + 1, by omega, by go_num, by rw [HK.out]; congr 1; omega, by rw [HK.out]; omega⟩
          case measure => simp [intOf]; omega
      · go_wp2
        go_ret
        have ek : ss.take k = ss := List.take_of_length_le (by rw [HL.out]; omega)
        rw [ek] at hr ⊢
        exact ⟨.inr ⟨ret_int (by rw [HL.out]; omega), by rw [HL.out]; omega⟩, Below.refl _ _⟩

/-- The measure of a disk. -/
def szOf (ss : List ByteArray) (ws : List (Int × ByteArray)) : Nat := (ss.length + lenS ss) + (ws.length + lenW ws)

end Go.Proofs.YtoaeofahknknhaaDoor
