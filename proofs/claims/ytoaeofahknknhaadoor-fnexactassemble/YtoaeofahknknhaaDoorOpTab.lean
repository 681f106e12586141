/- The table of operations: what its rows hold; the lengths and cycles of operations on both sides. -/
import Derived.Test.YtoaeofahknknhaaDoorGenInstr
import Derived.BigQuiet
import Derived.Deep.QuietTactic
namespace Go.Proofs.YtoaeofahknknhaaDoor
open Go.RowKit

def opWords : List ByteArray := [⟨#[110, 111, 112]⟩, ⟨#[104, 97, 108, 116]⟩, ⟨#[114, 101, 116, 105]⟩, ⟨#[101, 105]⟩, ⟨#[100, 105]⟩, ⟨#[108, 100, 105]⟩, ⟨#[108, 100]⟩, ⟨#[115, 116]⟩, ⟨#[105, 110, 99]⟩, ⟨#[100, 101, 99]⟩, ⟨#[97, 100, 100]⟩, ⟨#[115, 117, 98]⟩, ⟨#[97, 110, 100]⟩, ⟨#[111, 114]⟩, ⟨#[120, 111, 114]⟩, ⟨#[106, 112]⟩, ⟨#[106, 122]⟩, ⟨#[106, 110, 122]⟩, ⟨#[99, 97, 108, 108]⟩, ⟨#[114, 101, 116]⟩, ⟨#[115, 119, 105]⟩, ⟨#[98, 97, 110, 107]⟩, ⟨#[]⟩]
def opWord (k : Nat) : ByteArray := opWords.getD k ByteArray.empty
/-- The greatest register, argument and the fixed cycles of an operation. -/
def regT (k : Int) : Int := if 5 ≤ k ∧ k ≤ 14 then 3 else 0
def argT (k : Int) : Int := if k = 21 then 3 else if k = 5 ∨ k = 20 then 255 else if k = 6 ∨ k = 7 ∨ (15 ≤ k ∧ k ≤ 18) then 4095 else 0
def fixT (k : Int) : Int := if k = 18 ∨ k = 19 ∨ k = 2 then 8 else if k = 20 ∨ k = 22 then 12 else 0
/-- The length of an operation, its cycles. -/
def lenT (k : Int) : Int := if k = 5 ∨ k = 20 ∨ k = 21 then 2 else if k = 6 ∨ k = 7 ∨ (15 ≤ k ∧ k ≤ 18) then 3 else 1
def cycT (k : Int) : Int := if k = 18 ∨ k = 19 ∨ k = 2 then 8 else if k = 20 ∨ k = 22 then 12 else 2 * lenT k
def okIns (op reg arg : Int) : Bool := decide (0 ≤ op ∧ op ≤ 21 ∧ 0 ≤ reg ∧ reg ≤ regT op ∧ 0 ≤ arg ∧ arg ≤ argT op)
def lenA_ (a : Int) : Int := if 255 < a then 3 else if 0 < a then 2 else 1
theorem lenA_arg (k : Int) : lenA_ (argT k) = lenT k := by
  unfold lenA_ argT lenT
  repeat' split
  all_goals omega
theorem lenT_range (k : Int) : 1 ≤ lenT k ∧ lenT k ≤ 3 := by
  unfold lenT
  repeat' split
  all_goals omega
theorem fix_cyc (k : Int) : (if 0 < fixT k then fixT k else 2 * lenT k) = cycT k := by
  unfold fixT cycT
  repeat' split
  all_goals omega
theorem regT_range (k : Int) : 0 ≤ regT k ∧ regT k ≤ 3 := by
  unfold regT
  split <;> omega
theorem argT_range (k : Int) : 0 ≤ argT k ∧ argT k ≤ 4095 := by
  unfold argT
  repeat' split
  all_goals omega
theorem fixT_range (k : Int) : 0 ≤ fixT k ∧ fixT k ≤ 12 := by
  unfold fixT
  repeat' split
  all_goals omega

def OpsT (w : World) : Prop := ∀ k : Nat, k < 23 → w.cell? ⟨0, k * 4, none⟩ = some (.string (opWord k)) ∧ w.cell? ⟨0, k * 4 + 1, none⟩ = some (.int .i64 (regT k)) ∧ w.cell? ⟨0, k * 4 + 2, none⟩ = some (.int .i64 (argT k)) ∧ w.cell? ⟨0, k * 4 + 3, none⟩ = some (.int .i64 (fixT k))
theorem OpsT.lt {w : World} (h : OpsT w) : 0 < w.heap.size := cell_lt (h 0 (by omega)).1
theorem OpsT.below {w w' : World} (h : OpsT w) (hb : Below w.heap.size w w') : OpsT w' := fun k hk => by
  obtain ⟨h1, h2, h3, h4⟩ := h k hk
  exact ⟨(hb.cell (cell_lt h1)).trans h1, (hb.cell (cell_lt h2)).trans h2, (hb.cell (cell_lt h3)).trans h3, (hb.cell (cell_lt h4)).trans h4⟩

section
variable (s : ByteArray) (r a c : Int) (w : World)
set_option maxRecDepth 100000 in
theorem opLength : Calls Tryd.prog 49 #[.agg #[.string s, .int .i64 r, .int .i64 a, .int .i64 c]] w fun e w' => e = .returned (.int .i64 (lenA_ a)) ∧ Below w.heap.size w w' := by
  have hb0 := alloc_below w (.cells #[.string s, .int .i64 r, .int .i64 a, .int .i64 c] 69)
  obtain ⟨n, hn⟩ : ∃ n, lenA_ a = n := ⟨_, rfl⟩
  rw [hn]
  unfold lenA_ at hn
  by_cases h1 : 255 < a
  · rw [if_pos h1] at hn
    subst hn
    go_enter Tryd.func49, Tryd.ntmps49
    go_wp2
    go_ret
    exact ⟨rfl, hb0⟩
  · rw [if_neg h1] at hn
    by_cases h2 : 0 < a
    · rw [if_pos h2] at hn
      subst hn
      go_enter Tryd.func49, Tryd.ntmps49
      go_wp2
      go_ret
      exact ⟨rfl, hb0⟩
    · rw [if_neg h2] at hn
      subst hn
      go_enter Tryd.func49, Tryd.ntmps49
      go_wp2
      go_ret
      exact ⟨rfl, hb0⟩
set_option maxRecDepth 100000 in
theorem opCycles  : Calls Tryd.prog 53 #[.agg #[.string s, .int .i64 r, .int .i64 a, .int .i64 c]] w fun e w' => e = .returned (.int .i64 (if 0 < c then c else 2 * lenA_ a)) ∧ Below w.heap.size w w' := by
  have hb0 := alloc_below w (.cells #[.string s, .int .i64 r, .int .i64 a, .int .i64 c] 69)
  by_cases h1 : 0 < c
  · rw [if_pos h1]
    go_enter Tryd.func53, Tryd.ntmps53
    go_wp2
    go_ret
    exact ⟨rfl, hb0⟩
  · rw [if_neg h1]
    have HL := Lib.hid (opLength s r a c (w.alloc (.cells #[.string s, .int .i64 r, .int .i64 a, .int .i64 c] 69)))
    have hr : 1 ≤ lenA_ a ∧ lenA_ a ≤ 3 := by unfold lenA_; repeat' split
                                              all_goals omega
    generalize lenA_ a = n at HL hr
    obtain ⟨hr1, hr2⟩ := hr
    go_enter Tryd.func53, Tryd.ntmps53
    go_wp2_with fail
    refine HL.out.mono ?_
    rintro e w1 ⟨rfl, hb1⟩
    go_wp2
    go_ret
    exact ⟨rfl, bt hb0 hb1⟩
end

set_option maxRecDepth 100000 in
theorem operationOf_in (n : Int) (w : World) (h0 : 0 ≤ n) (h1 : n ≤ 22) (ht : OpsT w) :
    Calls Tryd.prog 48 #[.int .i64 n] w fun e w' => e = .returned (.tuple #[.agg #[.string (opWord n.toNat), .int .i64 (regT n), .int .i64 (argT n), .int .i64 (fixT n)], .int .i64 0]) ∧ Below w.heap.size w w' := by
  obtain ⟨k, rfl⟩ : ∃ k : Nat, n = k := ⟨n.toNat, by omega⟩
  rw [show ((k : Int)).toNat = k from by omega]
  obtain ⟨c1, c2, c3, c4⟩ := ht k (by omega)
  have hlt := ht.lt
  generalize opWord k = s at c1 ⊢
  generalize regT k = r at c2 ⊢
  generalize argT k = a at c3 ⊢
  generalize fixT k = c at c4 ⊢
  clear ht
  go_enter Tryd.func48, Tryd.ntmps48
  go_wp2
  refine bodyPost_ret (v := .tuple #[.agg #[.string s, .int .i64 r, .int .i64 a, .int .i64 c], .int .i64 0]) (by simp [results, Tryd.results48, go_sem]) rfl ?_
  exact ⟨rfl, (Below.refl _ _).alloc (Nat.le_refl _) _⟩
set_option maxRecDepth 100000 in
theorem operationOf_out (n : Int) (w : World) (h : n < 0 ∨ 22 < n) :
    Calls Tryd.prog 48 #[.int .i64 n] w fun e w' => e = .returned (.tuple #[.agg #[.string ⟨#[]⟩, .int .i64 0, .int .i64 0, .int .i64 0], .int .i64 4]) ∧ Below w.heap.size w w' := by
  rcases h with h | h
  · go_enter Tryd.func48, Tryd.ntmps48
    go_wp2
    refine bodyPost_ret (v := .tuple #[.agg #[.string ⟨#[]⟩, .int .i64 0, .int .i64 0, .int .i64 0], .int .i64 4]) (by simp [results, Tryd.results48, go_sem]) rfl ?_
    exact ⟨rfl, (Below.refl _ _).alloc (Nat.le_refl _) _⟩
  · have h0 : ¬ n < 0 := by omega
    go_enter Tryd.func48, Tryd.ntmps48
    go_wp2
    refine bodyPost_ret (v := .tuple #[.agg #[.string ⟨#[]⟩, .int .i64 0, .int .i64 0, .int .i64 0], .int .i64 4]) (by simp [results, Tryd.results48, go_sem]) rfl ?_
    exact ⟨rfl, (Below.refl _ _).alloc (Nat.le_refl _) _⟩
end Go.Proofs.YtoaeofahknknhaaDoor
