/- Contracts of the marks: markText, markStringS, heldStringS, markWriteS, heldWriteS, markDisk, heldDisk. -/
import Derived.Test.YtagdclbpgkilgaaEqDisk
import Derived.Test.YtagdclbpgkilgaaOwn
import Derived.Test.YtagdclbpgkilgaaToDisk
import Derived.Deep.RegionHeld3
import Derived.Laws.IdiomStrings
namespace Go.Proofs.Ytagdclbpgkilgaa
open Go.RowKit

def mkDig (j : Nat) : ByteArray := ⟨#[UInt8.ofNat (48 + j % 10)]⟩
def mkGo : Nat → Nat → ByteArray → ByteArray
  | 0, _, o => o
  | f + 1, j, o => if j = 0 then o else mkGo f (j / 10) (mkDig j ++ o)
/-- The text of a mark. -/
def mkText (k : Nat) : ByteArray := ⟨#[109]⟩ ++ mkGo k k ByteArray.empty
theorem mkGo_zero (f : Nat) (o : ByteArray) : mkGo f 0 o = o := by cases f <;> simp [mkGo]
theorem mkGo_step (f j : Nat) (o : ByteArray) (h : 0 < j) (hf : j ≤ f) : ∃ f', j / 10 ≤ f' ∧ mkGo f j o = mkGo f' (j / 10) (mkDig j ++ o) := by
  obtain ⟨f', rfl⟩ : ∃ f', f = f' + 1 := ⟨f - 1, by omega⟩
  exact ⟨f', by omega, by rw [mkGo, if_neg (by omega)]⟩

set_option maxRecDepth 100000 in
theorem byte_string (V : World) (j : Nat) : (convert 22 9 (.slice (some ⟨V.heap.size, 0, none⟩) 1 1)).run Try.prog (V.alloc (.cells #[.int .u8 (48 + (j : Int) % 10)] 5)) = .ok (.string (mkDig j)) (V.alloc (.cells #[.int .u8 (48 + (j : Int) % 10)] 5)) := by
  have h : (UInt8.ofNat (48 + j % 10)).toNat = 48 + j % 10 := by
    rw [UInt8.toNat_ofNat']; omega
  exact run_convert_bytes_back (P := Try.prog) (V.alloc (.cells #[.int .u8 (48 + (j : Int) % 10)] 5)) 22 9 5 ⟨V.heap.size, 0, none⟩ 1 [UInt8.ofNat (48 + j % 10)] Try.underlying22 Try.underlying5 Try.underlying9 (fun i hi => by
    have hi' : i = 0 := by simpa using hi
    subst hi'
    simp only [List.getElem_cons_zero]
    rw [h]
    simp [Addr.add])

def marksS (k n : Nat) : List ByteArray := (List.range n).map fun i => mkText (k + i)
def marksW (k n : Nat) : List (Int × ByteArray) := (List.range n).map fun i => (((k + i * 2 : Nat) : Int), mkText (k + i * 2 + 1))
theorem marksS_len (k n : Nat) : (marksS k n).length = n := by simp [marksS]
theorem marksW_len (k n : Nat) : (marksW k n).length = n := by simp [marksW]
theorem marksS_at (k n i : Nat) (h : i < n) : (marksS k n).getD i ByteArray.empty = mkText (k + i) := by simp [marksS, List.getD_eq_getElem?_getD, h]
theorem marksW_at (k n i : Nat) (h : i < n) : (marksW k n).getD i (0, ByteArray.empty) = (((k + i * 2 : Nat) : Int), mkText (k + i * 2 + 1)) := by simp [marksW, List.getD_eq_getElem?_getD, h]

/-- What the marks of a slice of strings leave. -/
def MarkedS (lo hi : Nat) (A : Option Addr) (k n : Nat) (w : World) (e : Ending) (w' : World) : Prop :=
  e = .returned (.int .i64 ((k + n : Nat) : Int)) ∧ Hid (OwnS w' lo hi A (marksS k n)) ∧ Btw lo hi w w'
def markCell (k x : Nat) : Value := if x % 2 = 0 then .int .i64 ((k + x : Nat) : Int) else .string (mkText (k + x))

theorem OwnS.wide {w : World} {lo hi lo' hi' : Nat} {A : Option Addr} {ss : List ByteArray} (h : OwnS w lo hi A ss) (h1 : lo' ≤ lo) (h2 : hi ≤ hi') : OwnS w lo' hi' A ss := by
  rcases h with e | ⟨b, m, f, e, q1, q2, q3, q4, q5⟩
  · exact .inl e
  · exact .inr ⟨b, m, f, e, by omega, by omega, q3, q4, q5⟩
theorem OwnS.apart {w w' : World} {lo hi l r : Nat} {A : Option Addr} {ss : List ByteArray} (h : OwnS w lo hi A ss) (hb : Btw l r w w') (ha : ∀ b n f, w.rowIs b 9 n f → b < l ∨ r ≤ b) : OwnS w' lo hi A ss := by
  rcases h with e | ⟨b, m, f, e, q1, q2, q3, q4, q5⟩
  · exact .inl e
  · exact .inr ⟨b, m, f, e, q1, q2, q3, hb.row q4 (ha b m f q4), q5⟩
end Go.Proofs.Ytagdclbpgkilgaa
