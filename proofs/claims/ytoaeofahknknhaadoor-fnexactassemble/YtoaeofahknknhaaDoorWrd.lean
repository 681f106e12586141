/- The words of the operations, the model's list of them. Written by gen_txt4.py. -/
import Derived.Test.YtoaeofahknknhaaDoorOpEnc2
import Derived.Deep.RegionHeld3
namespace Go.Proofs.YtoaeofahknknhaaDoor
open Go.RowKit

def wordCells : Array Value := #[.string ⟨#[110, 111, 112]⟩, .string ⟨#[104, 97, 108, 116]⟩, .string ⟨#[114, 101, 116, 105]⟩, .string ⟨#[101, 105]⟩, .string ⟨#[100, 105]⟩, .string ⟨#[108, 100, 105]⟩, .string ⟨#[108, 100]⟩, .string ⟨#[115, 116]⟩, .string ⟨#[105, 110, 99]⟩, .string ⟨#[100, 101, 99]⟩, .string ⟨#[97, 100, 100]⟩, .string ⟨#[115, 117, 98]⟩, .string ⟨#[97, 110, 100]⟩, .string ⟨#[111, 114]⟩, .string ⟨#[120, 111, 114]⟩, .string ⟨#[106, 112]⟩, .string ⟨#[106, 122]⟩, .string ⟨#[106, 110, 122]⟩, .string ⟨#[99, 97, 108, 108]⟩, .string ⟨#[114, 101, 116]⟩, .string ⟨#[115, 119, 105]⟩, .string ⟨#[98, 97, 110, 107]⟩]
theorem wordCells_at (k : Nat) (h : k < 22) : wordCells[k]? = some (.string (opWord k)) := by
  have : k = 0 ∨ k = 1 ∨ k = 2 ∨ k = 3 ∨ k = 4 ∨ k = 5 ∨ k = 6 ∨ k = 7 ∨ k = 8 ∨ k = 9 ∨ k = 10 ∨ k = 11 ∨ k = 12 ∨ k = 13 ∨ k = 14 ∨ k = 15 ∨ k = 16 ∨ k = 17 ∨ k = 18 ∨ k = 19 ∨ k = 20 ∨ k = 21 := by omega
  rcases this with rfl | rfl | rfl | rfl | rfl | rfl | rfl | rfl | rfl | rfl | rfl | rfl | rfl | rfl | rfl | rfl | rfl | rfl | rfl | rfl | rfl | rfl <;> rfl
set_option maxRecDepth 100000 in
set_option maxHeartbeats 1000000 in
theorem l07WordsS (w : World) : Calls Tryd.prog 82 #[] w fun e w' => e = .returned (.slice (some ⟨w.heap.size, 0, none⟩) 22 22) ∧ Below w.heap.size w w' ∧ Hid (∀ k v, wordCells[k]? = some v → w'.cell? ⟨w.heap.size, k, none⟩ = some v) := by
  go_enter Tryd.func82, Tryd.ntmps82
  go_wp2
  go_ret
  exact ⟨rfl, alloc_below _ _, Lib.hid (fun k v h => (Box.new w 9 wordCells).cell k h)⟩
end Go.Proofs.YtoaeofahknknhaaDoor
