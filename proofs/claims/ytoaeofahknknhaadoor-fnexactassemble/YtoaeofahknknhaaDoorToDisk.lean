/- Contracts of the copies: toStringS, toWrite, toWriteS, toDisk. -/
import Derived.Test.YtoaeofahknknhaaDoorEqDisk
import Derived.Test.YtoaeofahknknhaaDoorOwn
namespace Go.Proofs.YtoaeofahknknhaaDoor
open Go.RowKit

set_option maxRecDepth 100000 in
theorem infoS : (Tryd.prog.info? 9).map (fun i => (i.zero, i.size, i.bytes)) = some (some (.string ByteArray.empty), 1, 16) := by kernel_rfl

set_option maxRecDepth 100000 in
set_option maxHeartbeats 1000000 in
theorem toStringS (A : Option Addr) (n c : Nat) (ss : List ByteArray) (w : World) (hl : ss.length = n) (hn : n ≤ 1048576) (h : StrL w A ss) :
    Calls Tryd.prog 40 #[.slice A n c] w fun e w' => e = .returned (.slice (some ⟨w.heap.size, 0, none⟩) n n) ∧ Below w.heap.size w w' ∧ w'.rowIs w.heap.size 9 n (fun i => .string (ss.getD i ByteArray.empty)) := by
  have HL := Lib.hid hl
  have H := Lib.hid h
  clear hl h
  have hmk := fun W => run_make_row' (P := Tryd.prog) 40 9 (.string ByteArray.empty) 16 Tryd.underlying40 infoS rfl .i64 .i64 n (by omega) (by omega) W
  go_enter Tryd.func40, Tryd.ntmps40
  go_wp2
  clear hmk
  have hrow := World.rowIs_made w (.string ByteArray.empty) n 9
  have hbel : Below w.heap.size w (w.alloc (.cells (madeCells #[.string ByteArray.empty] n) 9)) := (Below.refl _ _).alloc (Nat.le_refl _) _
  have HR := Lib.hid hrow
  clear hrow
  generalize w.alloc (.cells (madeCells #[.string ByteArray.empty] n) 9) = wa at hbel HR ⊢
  go_loopw [4] (fun i wr => ∃ k : Nat, k ≤ n ∧ i = .int .i64 k ∧ Below w.heap.size w wr ∧ wr.rowIs w.heap.size 9 n (fun j => if j < k then .string (ss.getD j ByteArray.empty) else .string ByteArray.empty)) (fun i _ => n - (intOf i).toNat)
  case atStart => exact ⟨0, Nat.zero_le _, rfl, hbel, HR.out.congr (fun i _ => by simp)⟩
  case round =>
    obtain ⟨k, hk, rfl, hbw, hrw⟩ := hrel
    by_cases hlt : k < n
    · obtain ⟨b, off, rfl, hc⟩ := (H.out.below hbw) k (by rw [HL.out]; exact hlt)
      have hcd := hrw.cell hlt
      have hfr := hrw.frozen k
      have HW := Lib.hid (hrw.set k (.string (ss.getD k ByteArray.empty)))
      simp only [Nat.lt_irrefl, if_false] at hcd
      clear hrw
      have HE : Hid (ss.getD k ByteArray.empty = ss.getD k ByteArray.empty) := Lib.hid rfl
      generalize hx : ss.getD k ByteArray.empty = x at hc HW
      have HX := Lib.hid hx
      clear hx HE
      have hi : (k : Int) < (n : Int) := by omega
      go_wp2
      go_roundw
      case rel =>
        refine ⟨k + 1, by omega, by go_num, hbw.setCell (Nat.le_refl _) _, HW.out.congr (fun i _ => ?_)⟩
        show (if i = k then Value.string x else if i < k then _ else _) = _
        by_cases e : i = k
        · subst e; rw [if_pos rfl, if_pos (by omega), HX.out]
        · rw [if_neg e]
          by_cases e2 : i < k
          · rw [if_pos e2, if_pos (by omega)]
          · rw [if_neg e2, if_neg (by omega)]
      case measure => simp [intOf]; omega
    · have HRW := Lib.hid hrw
      clear hrw
      go_wp2
      go_ret
      exact ⟨rfl, hbw, HRW.out.congr (fun i hi => by rw [if_pos (by omega)])⟩

theorem row_made2 (w : World) (z0 z1 : Value) (n : Nat) (t : TypeId) : (w.alloc (.cells (madeCells #[z0, z1] (n * 2)) t)).rowIs w.heap.size t (n * 2) (fun i => if i % 2 = 0 then z0 else z1) :=
  ⟨_, heap_alloc_new _ _, size_madeCells _ _, fun i hi => by
    have : i % 2 = 0 ∨ i % 2 = 1 := by omega
    rcases this with h | h <;> simp [madeCells, hi, h]⟩

/-- What the first k writes look like in a row of n of them. -/
def fillW (ws : List (Int × ByteArray)) (k : Nat) (j : Nat) : Value :=
  if j < k * 2 then (if j % 2 = 0 then .int .i64 (ws.getD (j / 2) (0, ByteArray.empty)).1 else .string (ws.getD (j / 2) (0, ByteArray.empty)).2) else (if j % 2 = 0 then .int .i64 0 else .string ByteArray.empty)
theorem fillW_next (ws : List (Int × ByteArray)) (k j : Nat) (a : Int) (s : ByteArray) (h : ws.getD k (0, ByteArray.empty) = (a, s)) :
    (if j = k * 2 + 1 then .string s else if j = k * 2 then .int .i64 a else fillW ws k j) = fillW ws (k + 1) j := by
  unfold fillW
  by_cases e1 : j = k * 2 + 1
  · subst e1
    rw [if_pos rfl, if_pos (by omega), if_neg (by omega), show (k * 2 + 1) / 2 = k by omega, h]
  · rw [if_neg e1]
    by_cases e2 : j = k * 2
    · subst e2
      rw [if_pos rfl, if_pos (by omega), if_pos (by omega), show (k * 2) / 2 = k by omega, h]
    · rw [if_neg e2]
      by_cases e3 : j < k * 2
      · have e4 : j < (k + 1) * 2 := by omega
        simp only [e3, e4, if_true]
      · have e4 : ¬ j < (k + 1) * 2 := by omega
        simp only [e3, e4, if_false]

theorem own_of_rowS {w : World} {b n lo hi : Nat} {ss : List ByteArray} (hl : ss.length = n) (h : w.rowIs b 9 n (fun i => .string (ss.getD i ByteArray.empty))) (h1 : lo ≤ b) (h2 : b < hi) : OwnS w lo hi (some ⟨b, 0, none⟩) ss :=
  .inr ⟨b, n, _, rfl, h1, h2, by omega, h, fun _ _ => rfl⟩
end Go.Proofs.YtoaeofahknknhaaDoor
