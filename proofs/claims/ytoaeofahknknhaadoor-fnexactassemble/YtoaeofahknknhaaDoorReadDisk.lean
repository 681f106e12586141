/- Contracts of l01Read and of both ReadDisk. -/
import Derived.Test.YtoaeofahknknhaaDoorOkDisk
namespace Go.Proofs.YtoaeofahknknhaaDoor
open Go.RowKit

/-- The last of the first k writes to a sector. -/
def down (ws : List (Int × ByteArray)) (at_ : Int) : Nat → Option ByteArray
  | 0 => none
  | k + 1 => if (ws.getD k (0, ByteArray.empty)).1 = at_ then some (ws.getD k (0, ByteArray.empty)).2 else down ws at_ k
def readS (ss : List ByteArray) (ws : List (Int × ByteArray)) (at_ : Int) : ByteArray :=
  match down ws at_ ws.length with
  | some s => s
  | none => ss.getD at_.toNat ByteArray.empty
theorem readS_hit {ss : List ByteArray} {ws : List (Int × ByteArray)} {at_ : Int} {m : Nat} {s : ByteArray} (hm : ws.length = m) (h : down ws at_ m = some s) : readS ss ws at_ = s := by unfold readS; rw [hm, h]
theorem readS_miss {ss : List ByteArray} {ws : List (Int × ByteArray)} {at_ : Int} {m : Nat} (hm : ws.length = m) (h : down ws at_ m = none) : readS ss ws at_ = ss.getD at_.toNat ByteArray.empty := by unfold readS; rw [hm, h]
theorem down_step (ws : List (Int × ByteArray)) (at_ : Int) (j : Nat) : down ws at_ ((j : Int) + 1).toNat = if (ws.getD j (0, ByteArray.empty)).1 = at_ then some (ws.getD j (0, ByteArray.empty)).2 else down ws at_ j := by
  rw [show ((j : Int) + 1).toNat = j + 1 by omega]; rfl

theorem ret_str {a b : ByteArray} (h : a = b) : Ending.returned (.string a) = .returned (.string b) := by rw [h]
theorem ret_str_int {a b : ByteArray} {x y : Int} (h : a = b) (k : x = y) : Ending.returned (.tuple #[.string a, .int .i64 x]) = .returned (.tuple #[.string b, .int .i64 y]) := by rw [h, k]

/-- What ReadDisk answers. -/
def readOf (ss : List ByteArray) (ws : List (Int × ByteArray)) (a : Int) : ByteArray × Int :=
  if okDisk ss ws = true then (if secB a = true then (readS ss ws a, 0) else (ByteArray.empty, 4)) else (ByteArray.empty, 1)
theorem secB_lt {a : Int} (h : secB a = true) : 0 ≤ a ∧ a ≤ 47 := by unfold secB at h; simpa using h
theorem okDisk_len {ss : List ByteArray} {ws : List (Int × ByteArray)} (h : okDisk ss ws = true) : ss.length = 48 ∧ ws.length ≤ 60 := by unfold okDisk at h; simp at h; exact h.1

end Go.Proofs.YtoaeofahknknhaaDoor
