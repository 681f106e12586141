/- The table of operations: what its rows hold; the lengths and cycles of operations on both sides. -/
import Derived.Test.YtieljgoodmoacaaGenInstr
import Derived.BigQuiet
import Derived.Deep.QuietTactic
namespace Go.Proofs.Ytieljgoodmoacaa
open Go.RowKit

def opWords : List ByteArray := [⟨#[110, 111, 112]⟩, ⟨#[104, 97, 108, 116]⟩, ⟨#[114, 101, 116, 105]⟩, ⟨#[101, 105]⟩, ⟨#[100, 105]⟩, ⟨#[108, 100, 105]⟩, ⟨#[108, 100]⟩, ⟨#[115, 116]⟩, ⟨#[105, 110, 99]⟩, ⟨#[100, 101, 99]⟩, ⟨#[97, 100, 100]⟩, ⟨#[115, 117, 98]⟩, ⟨#[97, 110, 100]⟩, ⟨#[111, 114]⟩, ⟨#[120, 111, 114]⟩, ⟨#[106, 112]⟩, ⟨#[106, 122]⟩, ⟨#[106, 110, 122]⟩, ⟨#[99, 97, 108, 108]⟩, ⟨#[114, 101, 116]⟩, ⟨#[115, 119, 105]⟩, ⟨#[98, 97, 110, 107]⟩, ⟨#[]⟩]
def opWord (k : Nat) : ByteArray := opWords.getD k ByteArray.empty
/-- The greatest register, argument and the fixed cycles of an operation. -/
def regT (k : Int) : Int := if 5 ≤ k ∧ k ≤ 14 then 3 else 0
def argT (k : Int) : Int := if k = 21 then 3 else if k = 5 ∨ k = 20 then 255 else if k = 6 ∨ k = 7 ∨ (15 ≤ k ∧ k ≤ 18) then 4095 else 0
def fixT (k : Int) : Int := if k = 18 ∨ k = 19 ∨ k = 2 then 8 else if k = 20 ∨ k = 22 then 12 else 0
/-- The length of an operation, its cycles. -/
def lenT (k : Int) : Int := if k = 5 ∨ k = 20 ∨ k = 21 then 2 else if k = 6 ∨ k = 7 ∨ (15 ≤ k ∧ k ≤ 18) then 3 else 1
def cycT (k : Int) : Int := if k = 18 ∨ k = 19 ∨ k = 2 then 8 else if k = 20 ∨ k = 22 then 12 else 2 * lenT k
def okIns (op reg arg : Int) : Bool := decide (0 ≤ op ∧ op ≤ 21 ∧ 0 ≤ reg ∧ reg ≤ regT op ∧ 0 ≤ arg ∧ arg ≤ argT op)
def lenA_ (a : Int) : Int := if 255 < a then 3 else if 0 < a then 2 else 1
theorem lenA_arg (k : Int) : lenA_ (argT k) = lenT k := by
  unfold lenA_ argT lenT
  repeat' split
  all_goals omega
theorem lenT_range (k : Int) : 1 ≤ lenT k ∧ lenT k ≤ 3 := by
  unfold lenT
  repeat' split
  all_goals omega
theorem fix_cyc (k : Int) : (if 0 < fixT k then fixT k else 2 * lenT k) = cycT k := by
  unfold fixT cycT
  repeat' split
  all_goals omega
theorem regT_range (k : Int) : 0 ≤ regT k ∧ regT k ≤ 3 := by
  unfold regT
  split <;> omega
theorem argT_range (k : Int) : 0 ≤ argT k ∧ argT k ≤ 4095 := by
  unfold argT
  repeat' split
  all_goals omega
theorem fixT_range (k : Int) : 0 ≤ fixT k ∧ fixT k ≤ 12 := by
  unfold fixT
  repeat' split
  all_goals omega

def OpsT (w : World) : Prop := ∀ k : Nat, k < 23 → w.cell? ⟨0, k * 4, none⟩ = some (.string (opWord k)) ∧ w.cell? ⟨0, k * 4 + 1, none⟩ = some (.int .i64 (regT k)) ∧ w.cell? ⟨0, k * 4 + 2, none⟩ = some (.int .i64 (argT k)) ∧ w.cell? ⟨0, k * 4 + 3, none⟩ = some (.int .i64 (fixT k))
theorem OpsT.lt {w : World} (h : OpsT w) : 0 < w.heap.size := cell_lt (h 0 (by omega)).1
theorem OpsT.below {w w' : World} (h : OpsT w) (hb : Below w.heap.size w w') : OpsT w' := fun k hk => by
  obtain ⟨h1, h2, h3, h4⟩ := h k hk
  exact ⟨(hb.cell (cell_lt h1)).trans h1, (hb.cell (cell_lt h2)).trans h2, (hb.cell (cell_lt h3)).trans h3, (hb.cell (cell_lt h4)).trans h4⟩

section
variable (s : ByteArray) (r a c : Int) (w : World)
end

end Go.Proofs.Ytieljgoodmoacaa
