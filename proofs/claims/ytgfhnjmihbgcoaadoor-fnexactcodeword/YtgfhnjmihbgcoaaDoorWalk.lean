/- Contracts of CodeWord and CodeOf (impl and spec). -/
import Derived.Test.YtgfhnjmihbgcoaaDoorRows
import Derived.WalkKit
import Derived.WalkSpells
import Derived.Lib.Hide
import Derived.Below
namespace Go.Proofs.YtgfhnjmihbgcoaaDoor
open Go.RowKit

def wordList : List ByteArray := [⟨#[111, 107]⟩, ⟨#[98, 97, 100]⟩, ⟨#[108, 111, 110, 103]⟩, ⟨#[102, 111, 114, 109]⟩, ⟨#[114, 97, 110, 103, 101]⟩, ⟨#[110, 111, 110, 101]⟩, ⟨#[109, 97, 110, 121]⟩, ⟨#[102, 117, 108, 108]⟩, ⟨#[115, 105, 122, 101]⟩, ⟨#[114, 111, 111, 116]⟩, ⟨#[102, 97, 117, 108, 116]⟩, ⟨#[103, 117, 97, 114, 100]⟩, ⟨#[111, 102, 102]⟩, ⟨#[111, 110]⟩, ⟨#[116, 114, 97, 112]⟩, ⟨#[109, 111, 100, 101]⟩, ⟨#[98, 97, 110, 107]⟩, ⟨#[99, 97, 108, 108]⟩, ⟨#[116, 111, 114, 110]⟩, ⟨#[108, 101, 118, 101, 108]⟩]

/-- The word of a code; the empty string for any other number. -/
def wordOf (n : Int) : ByteArray := if 0 ≤ n then wordList.getD n.toNat ByteArray.empty else ByteArray.empty

def Tab (w : World) : Prop := ∀ i, i < 20 → w.cell? ⟨0, i, none⟩ = some (.string (wordList.getD i ByteArray.empty))

set_option maxHeartbeats 4000000 in
theorem word5_in (n : Int) (w : World) (h0 : 0 ≤ n) (h1 : n < 20) : Calls Tryd.prog 5 #[.int .i64 n] w fun e w' => e = .returned (.string (wordOf n)) ∧ Below w.heap.size w w' := by
  have : n = 0 ∨ n = 1 ∨ n = 2 ∨ n = 3 ∨ n = 4 ∨ n = 5 ∨ n = 6 ∨ n = 7 ∨ n = 8 ∨ n = 9 ∨ n = 10 ∨ n = 11 ∨ n = 12 ∨ n = 13 ∨ n = 14 ∨ n = 15 ∨ n = 16 ∨ n = 17 ∨ n = 18 ∨ n = 19 := by omega
  rcases this with rfl | rfl | rfl | rfl | rfl | rfl | rfl | rfl | rfl | rfl | rfl | rfl | rfl | rfl | rfl | rfl | rfl | rfl | rfl | rfl
  all_goals
    clear h0 h1
    go_enter Tryd.func5, Tryd.ntmps5
    go_wp2
    go_ret
    exact ⟨rfl, (Below.refl _ _).alloc (Nat.le_refl _) _⟩
theorem word5_out (n : Int) (w : World) (h : n < 0 ∨ 20 ≤ n) : Calls Tryd.prog 5 #[.int .i64 n] w fun e w' => e = .returned (.string (wordOf n)) ∧ Below w.heap.size w w' := by
  have e : wordOf n = ByteArray.empty := by
    unfold wordOf
    rcases h with h | h
    · rw [if_neg (by omega)]
    · rw [if_pos (by omega), List.getD_eq_getElem?_getD, List.getElem?_eq_none (by show 20 ≤ n.toNat; omega)]; rfl
  rw [e]; clear e
  rcases h with h | h
  · go_enter Tryd.func5, Tryd.ntmps5
    go_wp2
    go_ret
    exact ⟨rfl, (Below.refl _ _).alloc (Nat.le_refl _) _⟩
  · have h0 : ¬ n < 0 := by omega
    go_enter Tryd.func5, Tryd.ntmps5
    go_wp2
    go_ret
    exact ⟨rfl, (Below.refl _ _).alloc (Nat.le_refl _) _⟩
theorem word5 (n : Int) (w : World) : Calls Tryd.prog 5 #[.int .i64 n] w fun e w' => e = .returned (.string (wordOf n)) ∧ Below w.heap.size w w' := by
  by_cases h : 0 ≤ n ∧ n < 20
  · exact word5_in n w h.1 h.2
  · exact word5_out n w (by omega)

theorem word6_out (n : Int) (w : World) (h : n < 0 ∨ 20 ≤ n) : Calls Tryd.prog 6 #[.int .i64 n] w fun e w' => e = .returned (.string (wordOf n)) ∧ w = w' := by
  have e : wordOf n = ByteArray.empty := by
    unfold wordOf
    rcases h with h | h
    · rw [if_neg (by omega)]
    · rw [if_pos (by omega), List.getD_eq_getElem?_getD, List.getElem?_eq_none (by show 20 ≤ n.toNat; omega)]; rfl
  rw [e]; clear e
  rcases h with h | h
  · go_enter Tryd.func6, Tryd.ntmps6
    go_wp2
    go_ret
    exact ⟨rfl, rfl⟩
  · have h0 : ¬ n < 0 := by omega
    go_enter Tryd.func6, Tryd.ntmps6
    go_wp2
    go_ret
    exact ⟨rfl, rfl⟩
theorem word6_in (n : Int) (w : World) (h0 : 0 ≤ n) (h1 : n < 20) (ht : Tab w) : Calls Tryd.prog 6 #[.int .i64 n] w fun e w' => e = .returned (.string (wordOf n)) ∧ w = w' := by
  obtain ⟨k, rfl⟩ : ∃ k : Nat, n = k := ⟨n.toNat, by omega⟩
  have e : wordOf (k : Int) = wordList.getD k ByteArray.empty := by unfold wordOf; rw [if_pos h0]; rfl
  rw [e]
  have hc := ht k (by omega)
  clear e ht
  generalize wordList.getD k ByteArray.empty = s at hc ⊢
  go_enter Tryd.func6, Tryd.ntmps6
  go_wp2
  go_ret
  exact ⟨rfl, rfl⟩
theorem word6 (n : Int) (w : World) (ht : Tab w) : Calls Tryd.prog 6 #[.int .i64 n] w fun e w' => e = .returned (.string (wordOf n)) ∧ w = w' := by
  by_cases h : 0 ≤ n ∧ n < 20
  · exact word6_in n w h.1 h.2 ht
  · exact word6_out n w (by omega)
theorem tab_below {B : Nat} {w w' : World} (h : Below B w w') (hB : 0 < B) (ht : Tab w) : Tab w' := fun i hi => by
  rw [← ht i hi]; exact h.cell (p := ⟨0, i, none⟩) hB
end Go.Proofs.YtgfhnjmihbgcoaaDoor
