/- Contracts of the copies: toStringS, toWrite, toWriteS, toDisk. -/
import Derived.Test.YtagdclbpgkilgaaEqDisk
import Derived.Test.YtagdclbpgkilgaaOwn
namespace Go.Proofs.Ytagdclbpgkilgaa
open Go.RowKit

set_option maxRecDepth 100000 in
theorem infoS : (Try.prog.info? 9).map (fun i => (i.zero, i.size, i.bytes)) = some (some (.string ByteArray.empty), 1, 16) := by kernel_rfl

theorem row_made2 (w : World) (z0 z1 : Value) (n : Nat) (t : TypeId) : (w.alloc (.cells (madeCells #[z0, z1] (n * 2)) t)).rowIs w.heap.size t (n * 2) (fun i => if i % 2 = 0 then z0 else z1) :=
  ⟨_, heap_alloc_new _ _, size_madeCells _ _, fun i hi => by
    have : i % 2 = 0 ∨ i % 2 = 1 := by omega
    rcases this with h | h <;> simp [madeCells, hi, h]⟩

/-- What the first k writes look like in a row of n of them. -/
def fillW (ws : List (Int × ByteArray)) (k : Nat) (j : Nat) : Value :=
  if j < k * 2 then (if j % 2 = 0 then .int .i64 (ws.getD (j / 2) (0, ByteArray.empty)).1 else .string (ws.getD (j / 2) (0, ByteArray.empty)).2) else (if j % 2 = 0 then .int .i64 0 else .string ByteArray.empty)
theorem fillW_next (ws : List (Int × ByteArray)) (k j : Nat) (a : Int) (s : ByteArray) (h : ws.getD k (0, ByteArray.empty) = (a, s)) :
    (if j = k * 2 + 1 then .string s else if j = k * 2 then .int .i64 a else fillW ws k j) = fillW ws (k + 1) j := by
  unfold fillW
  by_cases e1 : j = k * 2 + 1
  · subst e1
    rw [if_pos rfl, if_pos (by omega), if_neg (by omega), show (k * 2 + 1) / 2 = k by omega, h]
  · rw [if_neg e1]
    by_cases e2 : j = k * 2
    · subst e2
      rw [if_pos rfl, if_pos (by omega), if_pos (by omega), show (k * 2) / 2 = k by omega, h]
    · rw [if_neg e2]
      by_cases e3 : j < k * 2
      · have e4 : j < (k + 1) * 2 := by omega
        simp only [e3, e4, if_true]
      · have e4 : ¬ j < (k + 1) * 2 := by omega
        simp only [e3, e4, if_false]

theorem own_of_rowS {w : World} {b n lo hi : Nat} {ss : List ByteArray} (hl : ss.length = n) (h : w.rowIs b 9 n (fun i => .string (ss.getD i ByteArray.empty))) (h1 : lo ≤ b) (h2 : b < hi) : OwnS w lo hi (some ⟨b, 0, none⟩) ss :=
  .inr ⟨b, n, _, rfl, h1, h2, by omega, h, fun _ _ => rfl⟩
end Go.Proofs.Ytagdclbpgkilgaa
