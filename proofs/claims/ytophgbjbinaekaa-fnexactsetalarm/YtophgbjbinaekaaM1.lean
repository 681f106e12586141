/- Texts of this claim, one behind the other: Mem, EqDisk, Own, ToDisk, Ints, SzDisk, IntsMore, Mark, BoxDisk, Bools, OkDisk, GenA, GenB, GenC, RtcOk, RtcTick, RtcTick2, RtcTick3, GenRtc, GenK, GenChannel, Open, GenRChannel, GenTimer, GenRTimer, OpenBools, GenOpen. -/
import Derived.WalkKit
import Derived.WalkSpells
import Derived.Lib.Hide
import Derived.Below
import Derived.WalkSmall
import Derived.Test.YtophgbjbinaekaaRows
import Derived.Deep.QuietTactic
import Derived.BigQuiet
import Derived.StillTailTactics
import Derived.Deep.OwnRows
import Derived.Deep.RegionHeld3
import Derived.Laws.IdiomStrings
import Derived.IntWalk
import Derived.BigRegion
import Derived.Deep.Slices
import Derived.Lib.SmallJoins
/- Words for memory: slices of strings, of writes, of integers as lists; what keeps them. Nothing here is of one program. -/
namespace Go.Proofs.Ytophgbjbinaekaa
open Go.RowKit

def StrL (w : World) (A : Option Addr) (ss : List ByteArray) : Prop :=
  ∀ i, i < ss.length → ∃ b off, A = some ⟨b, off, none⟩ ∧ w.cell? ⟨b, off + i, none⟩ = some (.string (ss.getD i ByteArray.empty))
def WrL (w : World) (A : Option Addr) (ws : List (Int × ByteArray)) : Prop :=
  ∀ i, i < ws.length → ∃ b off, A = some ⟨b, off, none⟩ ∧ w.cell? ⟨b, off + i * 2, none⟩ = some (.int .i64 (ws.getD i (0, ByteArray.empty)).1) ∧
    w.cell? ⟨b, off + i * 2 + 1, none⟩ = some (.string (ws.getD i (0, ByteArray.empty)).2)
def IntL (w : World) (A : Option Addr) (zs : List Int) : Prop :=
  ∀ i, i < zs.length → ∃ b off, A = some ⟨b, off, none⟩ ∧ w.cell? ⟨b, off + i, none⟩ = some (.int .i64 (zs.getD i 0))

theorem cell_lt {w : World} {p : Addr} {v : Value} (h : w.cell? p = some v) : p.block < w.heap.size := by
  rcases Nat.lt_or_ge p.block w.heap.size with h1 | h1
  · exact h1
  · unfold World.cell? at h
    rw [Array.getElem?_eq_none h1] at h
    cases h

def Keep (keep : Nat → Prop) (w w' : World) : Prop := ∀ p : Addr, keep p.block → p.block < w.heap.size → w'.cell? p = w.cell? p

theorem Keep.of_below {B : Nat} {w w' : World} (h : Below B w w') : Keep (fun b => b < B) w w' := fun _ hp _ => h.cell hp

theorem StrL.below {w w' : World} {A : Option Addr} {ss : List ByteArray} (h : StrL w A ss) (hb : Below w.heap.size w w') : StrL w' A ss := fun i hi => by
  obtain ⟨b, off, e, hc⟩ := h i hi
  exact ⟨b, off, e, (hb.cell (cell_lt hc)).trans hc⟩
theorem WrL.below {w w' : World} {A : Option Addr} {ws : List (Int × ByteArray)} (h : WrL w A ws) (hb : Below w.heap.size w w') : WrL w' A ws := fun i hi => by
  obtain ⟨b, off, e, hc, hd⟩ := h i hi
  exact ⟨b, off, e, (hb.cell (cell_lt hc)).trans hc, (hb.cell (cell_lt hd)).trans hd⟩
theorem IntL.below {w w' : World} {A : Option Addr} {zs : List Int} (h : IntL w A zs) (hb : Below w.heap.size w w') : IntL w' A zs := fun i hi => by
  obtain ⟨b, off, e, hc⟩ := h i hi
  exact ⟨b, off, e, (hb.cell (cell_lt hc)).trans hc⟩

theorem bt {a b c : World} (h : Below a.heap.size a b) (k : Below b.heap.size b c) : Below a.heap.size a c := h.trans (k.mono h.size)

theorem ret_bool {a b : Bool} (h : a = b) : Ending.returned (.bool a) = .returned (.bool b) := by rw [h]
end Go.Proofs.Ytophgbjbinaekaa

/- Contracts of the comparisons: eqStringS, eqWrite, eqWriteS, eqDisk. -/
namespace Go.Proofs.Ytophgbjbinaekaa
open Go.RowKit

end Go.Proofs.Ytophgbjbinaekaa

/- Slices in memory of the call's own: rows between two block numbers; what a call that writes only there keeps. -/
namespace Go.Proofs.Ytophgbjbinaekaa
open Go.RowKit

structure Btw (lo hi : Nat) (w w' : World) : Prop where
  os : w'.os = w.os
  tape : w'.tape = w.tape
  output : w'.output = w.output
  size : w.heap.size ≤ w'.heap.size
  block : ∀ k, k < w.heap.size → k < lo ∨ hi ≤ k → w'.heap[k]? = w.heap[k]?

theorem Btw.refl (lo hi : Nat) (w : World) : Btw lo hi w w := ⟨rfl, rfl, rfl, Nat.le_refl _, fun _ _ _ => rfl⟩
theorem Btw.trans {lo hi : Nat} {a b c : World} (h : Btw lo hi a b) (k : Btw lo hi b c) : Btw lo hi a c :=
  ⟨k.os.trans h.os, k.tape.trans h.tape, k.output.trans h.output, Nat.le_trans h.size k.size, fun i hi' ho => (k.block i (Nat.lt_of_lt_of_le hi' h.size) ho).trans (h.block i hi' ho)⟩
theorem Btw.of_below {w w' : World} (h : Below w.heap.size w w') (lo hi : Nat) : Btw lo hi w w' := ⟨h.os, h.tape, h.output, h.size, fun k hk _ => h.block k hk⟩
theorem Btw.below {lo hi : Nat} {w w' : World} (h : Btw lo hi w w') (hl : lo ≤ w.heap.size) : Below lo w w' := ⟨h.os, h.tape, h.output, h.size, fun k hk => h.block k (Nat.lt_of_lt_of_le hk hl) (.inl hk)⟩
theorem Btw.alloc {lo hi : Nat} {a w : World} (h : Btw lo hi a w) (o : Obj) : Btw lo hi a (w.alloc o) := h.trans (Btw.of_below ((Below.refl _ _).alloc (Nat.le_refl _) o) lo hi)
theorem Btw.setCell {lo hi : Nat} {a w : World} (h : Btw lo hi a w) {p : Addr} (h1 : lo ≤ p.block) (h2 : p.block < hi) (u : Value) : Btw lo hi a (w.setCell p u) :=
  ⟨h.os, h.tape, h.output, by simpa [World.setCell] using h.size, fun k hk ho => (Below.heap_setCell w p u k (by omega)).trans (h.block k hk ho)⟩
theorem Btw.put {b : Nat} {a w : World} (h : Btw b (b + 1) a w) {i : Nat} {v : Value} : Btw b (b + 1) a (w.setCell ⟨b, i, none⟩ v) := h.setCell (Nat.le_refl _) (Nat.lt_succ_self _) v
theorem Btw.cell {lo hi : Nat} {w w' : World} (h : Btw lo hi w w') {p : Addr} {v : Value} (hc : w.cell? p = some v) (ho : p.block < lo ∨ hi ≤ p.block) : w'.cell? p = some v :=
  (World.cell?_of_block (w := w) (h.block p.block (cell_lt hc) ho)).trans hc
theorem Btw.row {lo hi : Nat} {w w' : World} (h : Btw lo hi w w') {b : Nat} {t : TypeId} {n : Nat} {f : Nat → Value} (hr : w.rowIs b t n f) (ho : b < lo ∨ hi ≤ b) : w'.rowIs b t n f :=
  hr.of_block (h.block b hr.lt ho)
def OwnS (w : World) (lo hi : Nat) (A : Option Addr) (ss : List ByteArray) : Prop :=
  ss = [] ∨ ∃ b m f, A = some ⟨b, 0, none⟩ ∧ lo ≤ b ∧ b < hi ∧ ss.length ≤ m ∧ w.rowIs b 9 m f ∧ ∀ i, i < ss.length → f i = .string (ss.getD i ByteArray.empty)
def OwnI (w : World) (lo hi : Nat) (A : Option Addr) (zs : List Int) : Prop :=
  zs = [] ∨ ∃ b m f, A = some ⟨b, 0, none⟩ ∧ lo ≤ b ∧ b < hi ∧ zs.length ≤ m ∧ w.rowIs b 3 m f ∧ ∀ i, i < zs.length → f i = .int .i64 (zs.getD i 0)

theorem OwnS.reads {w : World} {lo hi : Nat} {A : Option Addr} {ss : List ByteArray} (h : OwnS w lo hi A ss) : StrL w A ss := fun i hi' => by
  rcases h with rfl | ⟨b, m, f, e, _, _, hm, hr, hf⟩
  · simp at hi'
  · exact ⟨b, 0, e, by rw [← hf i hi', Nat.zero_add]; exact hr.cell (by omega)⟩
theorem OwnI.reads {w : World} {lo hi : Nat} {A : Option Addr} {zs : List Int} (h : OwnI w lo hi A zs) : IntL w A zs := fun i hi' => by
  rcases h with rfl | ⟨b, m, f, e, _, _, hm, hr, hf⟩
  · simp at hi'
  · exact ⟨b, 0, e, by rw [← hf i hi', Nat.zero_add]; exact hr.cell (by omega)⟩
theorem OwnS.btw {w w' : World} {lo hi l h' : Nat} {A : Option Addr} {ss : List ByteArray} (h : OwnS w lo hi A ss) (hb : Btw l h' w w') (ho : hi ≤ l ∨ h' ≤ lo) : OwnS w' lo hi A ss := by
  rcases h with e | ⟨b, m, f, e, h1, h2, hm, hr, hf⟩
  · exact .inl e
  · exact .inr ⟨b, m, f, e, h1, h2, hm, hb.row hr (by omega), hf⟩
theorem OwnI.btw {w w' : World} {lo hi l h' : Nat} {A : Option Addr} {zs : List Int} (h : OwnI w lo hi A zs) (hb : Btw l h' w w') (ho : hi ≤ l ∨ h' ≤ lo) : OwnI w' lo hi A zs := by
  rcases h with e | ⟨b, m, f, e, h1, h2, hm, hr, hf⟩
  · exact .inl e
  · exact .inr ⟨b, m, f, e, h1, h2, hm, hb.row hr (by omega), hf⟩
theorem OwnS.below {w w' : World} {lo hi : Nat} {A : Option Addr} {ss : List ByteArray} (h : OwnS w lo hi A ss) (hb : Below w.heap.size w w') : OwnS w' lo hi A ss := h.btw (Btw.of_below hb hi hi) (.inl (Nat.le_refl _))
theorem OwnI.below {w w' : World} {lo hi : Nat} {A : Option Addr} {zs : List Int} (h : OwnI w lo hi A zs) (hb : Below w.heap.size w w') : OwnI w' lo hi A zs := h.btw (Btw.of_below hb hi hi) (.inl (Nat.le_refl _))
theorem StrL.btw {lo hi : Nat} {w w' : World} {A : Option Addr} {ss : List ByteArray} (h : StrL w A ss) (hb : Btw lo hi w w') (hB : w.heap.size ≤ lo) : StrL w' A ss := fun i hi' => by
  obtain ⟨b, off, e, hc⟩ := h i hi'
  exact ⟨b, off, e, hb.cell hc (.inl (Nat.lt_of_lt_of_le (cell_lt hc) hB))⟩

def Box (w : World) (b : Nat) (t : TypeId) (cs : Array Value) : Prop := w.heap[b]? = some (.cells cs t (0, 0))
theorem Box.cell {w : World} {b : Nat} {t : TypeId} {cs : Array Value} (h : Box w b t cs) (i : Nat) {v : Value} (hv : cs[i]? = some v) : w.cell? ⟨b, i, none⟩ = some v := by
  unfold Box at h; simp [World.cell?, h, hv]
theorem Box.frozen {w : World} {b : Nat} {t : TypeId} {cs : Array Value} (h : Box w b t cs) (i : Nat) : w.frozen? ⟨b, i, none⟩ = false := by
  unfold Box at h; simp [World.frozen?, h]
theorem Box.lt {w : World} {b : Nat} {t : TypeId} {cs : Array Value} (h : Box w b t cs) : b < w.heap.size := by
  obtain ⟨hlt, _⟩ := Array.getElem?_eq_some_iff.1 h
  exact hlt
theorem Box.below {w w' : World} {B b : Nat} {t : TypeId} {cs : Array Value} (h : Box w b t cs) (hb : Below B w w') (hB : b < B) : Box w' b t cs := (hb.block b hB).trans h
theorem Box.step {w w' : World} {b : Nat} {t : TypeId} {cs : Array Value} (h : Box w b t cs) (hb : Below w.heap.size w w') : Box w' b t cs := h.below hb h.lt
theorem Box.btw {w w' : World} {lo hi b : Nat} {t : TypeId} {cs : Array Value} (h : Box w b t cs) (hb : Btw lo hi w w') (ho : b < lo ∨ hi ≤ b) : Box w' b t cs := (hb.block b h.lt ho).trans h
theorem Box.new (w : World) (t : TypeId) (cs : Array Value) : Box (w.alloc (.cells cs t)) w.heap.size t cs := by
  show (w.heap.push _)[w.heap.size]? = _; simp
theorem Box.alloc {w : World} {b : Nat} {t : TypeId} {cs : Array Value} (h : Box w b t cs) (o : Obj) : Box (w.alloc o) b t cs := h.step ((Below.refl _ _).alloc (Nat.le_refl _) o)
theorem Box.set {w : World} {b : Nat} {t : TypeId} {cs : Array Value} (h : Box w b t cs) (i : Nat) (u : Value) : Box (w.setCell ⟨b, i, none⟩ u) b t (cs.setIfInBounds i u) := by
  unfold Box at h ⊢
  simp [World.setCell, Array.getElem?_modify, h]
theorem Box.row {w : World} {b : Nat} {t : TypeId} {cs : Array Value} (h : Box w b t cs) (f : Nat → Value) (hf : ∀ i, i < cs.size → cs[i]? = some (f i)) : w.rowIs b t cs.size f := ⟨cs, h, rfl, hf⟩
end Go.Proofs.Ytophgbjbinaekaa

/- Contracts of the copies: toStringS, toWrite, toWriteS, toDisk. -/
namespace Go.Proofs.Ytophgbjbinaekaa
open Go.RowKit

end Go.Proofs.Ytophgbjbinaekaa

/- Contracts of toIntS, eqIntS, markIntS. -/
namespace Go.Proofs.Ytophgbjbinaekaa
open Go.RowKit

end Go.Proofs.Ytophgbjbinaekaa

/- Contracts of the measures: szStringS, szWrite, szWriteS, szDisk: what is left, or -1. -/
namespace Go.Proofs.Ytophgbjbinaekaa
open Go.RowKit

def Left (left : Int) (used : Nat) (w : World) (e : Ending) (w' : World) : Prop :=
  (e = .returned (.int .i64 (-1)) ∨ e = .returned (.int .i64 (left - used)) ∧ (used : Int) ≤ left) ∧ Below w.heap.size w w'

end Go.Proofs.Ytophgbjbinaekaa

/- Contracts of szIntS, of markIntS with what it leaves, of heldIntS. -/
namespace Go.Proofs.Ytophgbjbinaekaa
open Go.RowKit

def marksI (k n : Nat) : List Int := (List.range n).map fun i => ((k + i : Nat) : Int)
end Go.Proofs.Ytophgbjbinaekaa

/- Contracts of the marks: markText, markStringS, heldStringS, markWriteS, heldWriteS, markDisk, heldDisk. -/
namespace Go.Proofs.Ytophgbjbinaekaa
open Go.RowKit

def mkDig (j : Nat) : ByteArray := ⟨#[UInt8.ofNat (48 + j % 10)]⟩
def mkGo : Nat → Nat → ByteArray → ByteArray
  | 0, _, o => o
  | f + 1, j, o => if j = 0 then o else mkGo f (j / 10) (mkDig j ++ o)
def mkText (k : Nat) : ByteArray := ⟨#[109]⟩ ++ mkGo k k ByteArray.empty
def marksS (k n : Nat) : List ByteArray := (List.range n).map fun i => mkText (k + i)
theorem OwnS.apart {w w' : World} {lo hi l r : Nat} {A : Option Addr} {ss : List ByteArray} (h : OwnS w lo hi A ss) (hb : Btw l r w w') (ha : ∀ b n f, w.rowIs b 9 n f → b < l ∨ r ≤ b) : OwnS w' lo hi A ss := by
  rcases h with e | ⟨b, m, f, e, q1, q2, q3, q4, q5⟩
  · exact .inl e
  · exact .inr ⟨b, m, f, e, q1, q2, q3, hb.row q4 (ha b m f q4), q5⟩
end Go.Proofs.Ytophgbjbinaekaa

/- A disk of the call's own behind a box: kept over what is new, and over writes elsewhere. -/
namespace Go.Proofs.Ytophgbjbinaekaa
open Go.RowKit

section
variable {w w' : World} {b lo hi : Nat} {A : Option Addr} {n c : Nat} {C : Option Addr} {m d : Nat} {ss : List ByteArray} {ws : List (Int × ByteArray)}
end
theorem alloc_below (w : World) (o : Obj) : Below w.heap.size w (w.alloc o) := (Below.refl _ _).alloc (Nat.le_refl _) o
end Go.Proofs.Ytophgbjbinaekaa

/- Slices of booleans: as lists, of the call's own; contracts of szBoolS, toBoolS, eqBoolS, markBoolS, heldBoolS. -/
namespace Go.Proofs.Ytophgbjbinaekaa
open Go.RowKit

def BoolL (w : World) (A : Option Addr) (gs : List Bool) : Prop :=
  ∀ i, i < gs.length → ∃ b off, A = some ⟨b, off, none⟩ ∧ w.cell? ⟨b, off + i, none⟩ = some (.bool (gs.getD i false))
theorem BoolL.below {w w' : World} {A : Option Addr} {gs : List Bool} (h : BoolL w A gs) (hb : Below w.heap.size w w') : BoolL w' A gs := fun i hi => by
  obtain ⟨b, off, e, hc⟩ := h i hi
  exact ⟨b, off, e, (hb.cell (cell_lt hc)).trans hc⟩
def OwnB (w : World) (lo hi : Nat) (A : Option Addr) (gs : List Bool) : Prop :=
  gs = [] ∨ ∃ b m f, A = some ⟨b, 0, none⟩ ∧ lo ≤ b ∧ b < hi ∧ gs.length ≤ m ∧ w.rowIs b 4 m f ∧ ∀ i, i < gs.length → f i = .bool (gs.getD i false)
theorem OwnB.reads {w : World} {lo hi : Nat} {A : Option Addr} {gs : List Bool} (h : OwnB w lo hi A gs) : BoolL w A gs := fun i hi' => by
  rcases h with rfl | ⟨b, m, f, e, _, _, hm, hr, hf⟩
  · simp at hi'
  · exact ⟨b, 0, e, by rw [← hf i hi', Nat.zero_add]; exact hr.cell (by omega)⟩
theorem OwnB.btw {w w' : World} {lo hi l h' : Nat} {A : Option Addr} {gs : List Bool} (h : OwnB w lo hi A gs) (hb : Btw l h' w w') (ho : hi ≤ l ∨ h' ≤ lo) : OwnB w' lo hi A gs := by
  rcases h with e | ⟨b, m, f, e, h1, h2, hm, hr, hf⟩
  · exact .inl e
  · exact .inr ⟨b, m, f, e, h1, h2, hm, hb.row hr (by omega), hf⟩
theorem OwnB.below {w w' : World} {lo hi : Nat} {A : Option Addr} {gs : List Bool} (h : OwnB w lo hi A gs) (hb : Below w.heap.size w w') : OwnB w' lo hi A gs := h.btw (Btw.of_below hb hi hi) (.inl (Nat.le_refl _))
theorem OwnB.apart {w w' : World} {lo hi l r : Nat} {A : Option Addr} {gs : List Bool} (h : OwnB w lo hi A gs) (hb : Btw l r w w') (ha : ∀ b n f, w.rowIs b 4 n f → b < l ∨ r ≤ b) : OwnB w' lo hi A gs := by
  rcases h with e | ⟨b, m, f, e, q1, q2, q3, q4, q5⟩
  · exact .inl e
  · exact .inr ⟨b, m, f, e, q1, q2, q3, hb.row q4 (ha b m f q4), q5⟩
def marksB (k n : Nat) : List Bool := (List.range n).map fun i => decide ((k + i) % 3 = 0)
end Go.Proofs.Ytophgbjbinaekaa

/- Contracts of the tests: isSector, l01In, a write's and a disk's valid, both DiskOK. -/
namespace Go.Proofs.Ytophgbjbinaekaa
open Go.RowKit

def FitS (ss : List ByteArray) : Prop := ∀ s ∈ ss, s.size ≤ maxLen
end Go.Proofs.Ytophgbjbinaekaa

/- Leaves of Go values as data: what a value says, rows of the call's own, what a call that writes into some of them keeps. Nothing here is of one type of the program. -/
namespace Go.Proofs.Ytophgbjbinaekaa
open Go.RowKit

inductive Lf where
  | I (zs : List Int)
  | B (gs : List Bool)
  | S (ss : List ByteArray)
  | R (T : TypeId) (k : Nat) (hk : k ≤ 16) (rows : List (List Value))

def RowL (w : World) (A : Option Addr) (k : Nat) (rows : List (List Value)) : Prop :=
  ∀ i, i < rows.length → ∀ j, j < k → ∃ b off, A = some ⟨b, off, none⟩ ∧ w.cell? ⟨b, off + i * k + j, none⟩ = some ((rows.getD i []).getD j undef)
theorem RowL.below {w w' : World} {A : Option Addr} {k : Nat} {rows : List (List Value)} (h : RowL w A k rows) (hb : Below w.heap.size w w') : RowL w' A k rows := fun i hi j hj => by
  obtain ⟨b, off, e, hc⟩ := h i hi j hj
  exact ⟨b, off, e, (hb.cell (cell_lt hc)).trans hc⟩
def OwnR (w : World) (lo hi : Nat) (T : TypeId) (A : Option Addr) (k : Nat) (rows : List (List Value)) : Prop :=
  rows = [] ∨ ∃ b m f, A = some ⟨b, 0, none⟩ ∧ lo ≤ b ∧ b < hi ∧ rows.length * k ≤ m ∧ w.rowIs b T m f ∧ ∀ i, i < rows.length → ∀ j, j < k → f (i * k + j) = (rows.getD i []).getD j undef
theorem row_place {n k m i j : Nat} (hi : i < n) (hj : j < k) (h : n * k ≤ m) : i * k + j < m := by
  have h1 : (i + 1) * k ≤ n * k := Nat.mul_le_mul_right k hi
  have h2 : (i + 1) * k = i * k + k := Nat.succ_mul i k
  omega
theorem OwnR.reads {w : World} {lo hi : Nat} {T : TypeId} {A : Option Addr} {k : Nat} {rows : List (List Value)} (h : OwnR w lo hi T A k rows) : RowL w A k rows := fun i hi' j hj => by
  rcases h with rfl | ⟨b, m, f, e, _, _, hm, hr, hf⟩
  · simp at hi'
  · exact ⟨b, 0, e, by rw [← hf i hi' j hj, Nat.zero_add]; exact hr.cell (row_place hi' hj hm)⟩
theorem OwnR.btw {w w' : World} {lo hi l h' : Nat} {T : TypeId} {A : Option Addr} {k : Nat} {rows : List (List Value)} (h : OwnR w lo hi T A k rows) (hb : Btw l h' w w') (ho : hi ≤ l ∨ h' ≤ lo) : OwnR w' lo hi T A k rows := by
  rcases h with e | ⟨b, m, f, e, h1, h2, hm, hr, hf⟩
  · exact .inl e
  · exact .inr ⟨b, m, f, e, h1, h2, hm, hb.row hr (by omega), hf⟩
theorem OwnR.below {w w' : World} {lo hi : Nat} {T : TypeId} {A : Option Addr} {k : Nat} {rows : List (List Value)} (h : OwnR w lo hi T A k rows) (hb : Below w.heap.size w w') : OwnR w' lo hi T A k rows := h.btw (Btw.of_below hb hi hi) (.inl (Nat.le_refl _))
def markV (k : Nat) : Value → Value
  | .int _ _ => .int .i64 (k : Int)
  | .bool _ => .bool (decide (k % 3 = 0))
  | .string _ => .string (mkText k)
  | v => v
def markRows (q k : Nat) (rows : List (List Value)) : List (List Value) :=
  (List.range rows.length).map fun i => (List.range k).map fun j => markV (q + i * k + j) ((rows.getD i []).getD j undef)
def Lf.marks (k : Nat) : Lf → Lf
  | .I zs => .I (marksI k zs.length)
  | .B gs => .B (marksB k gs.length)
  | .S ss => .S (marksS k ss.length)
  | .R T n hn rows => .R T n hn (markRows k n rows)
def Lf.fit : Lf → Prop
  | .I zs => zs.length ≤ maxLen
  | .B gs => gs.length ≤ maxLen
  | .S ss => ss.length ≤ maxLen ∧ FitS ss
  | .R _ _ _ rows => rows.length ≤ maxLen

def RepL (w : World) (v : Value) : Lf → Prop
  | .I zs => ∃ A c, v = .slice A zs.length c ∧ IntL w A zs
  | .B gs => ∃ A c, v = .slice A gs.length c ∧ BoolL w A gs
  | .S ss => ∃ A c, v = .slice A ss.length c ∧ StrL w A ss
  | .R _ k _ rows => ∃ A c, v = .slice A rows.length c ∧ RowL w A k rows
def OwnL (w : World) (lo hi : Nat) (v : Value) : Lf → Prop
  | .I zs => ∃ A c, v = .slice A zs.length c ∧ OwnI w lo hi A zs
  | .B gs => ∃ A c, v = .slice A gs.length c ∧ OwnB w lo hi A gs
  | .S ss => ∃ A c, v = .slice A ss.length c ∧ OwnS w lo hi A ss
  | .R T k _ rows => ∃ A c, v = .slice A rows.length c ∧ OwnR w lo hi T A k rows
def CapL (v : Value) : Prop := ∀ A n c, v = .slice A n c → n ≤ c
def blkL : Value → Option Nat
  | .slice (some a) n _ => if n = 0 then none else some a.block
  | _ => none
theorem blkL_some {b off : Nat} {n c : Nat} (h : 0 < n) : blkL (.slice (some ⟨b, off, none⟩) n c) = some b := by simp [blkL]; omega
theorem blkL_zero (A : Option Addr) (c : Nat) : blkL (.slice A 0 c) = none := by cases A <;> simp [blkL]

def AllA (P : Value → Lf → Prop) : List Value → List Lf → Prop
  | [], [] => True
  | v :: vs, d :: ds => P v d ∧ AllA P vs ds
  | _, _ => False
def RepA (w : World) (vs : List Value) (ds : List Lf) : Prop := AllA (RepL w) vs ds
def OwnA (w : World) (lo hi : Nat) (vs : List Value) (ds : List Lf) : Prop := AllA (OwnL w lo hi) vs ds ∧ (vs.filterMap blkL).Nodup

theorem AllA.imp {P Q : Value → Lf → Prop} : ∀ {vs : List Value} {ds : List Lf}, (∀ v d, v ∈ vs → P v d → Q v d) → AllA P vs ds → AllA Q vs ds
  | [], [], _, _ => trivial
  | v :: vs, d :: ds, h, ⟨h1, h2⟩ => ⟨h v d (by simp) h1, AllA.imp (fun v' d' hm => h v' d' (by simp [hm])) h2⟩
  | [], _ :: _, _, h => h.elim
  | _ :: _, [], _, h => h.elim

theorem RepL.below {w w' : World} {v : Value} : ∀ {d : Lf}, RepL w v d → Below w.heap.size w w' → RepL w' v d
  | .I _, ⟨A, c, e, h⟩, hb => ⟨A, c, e, h.below hb⟩
  | .B _, ⟨A, c, e, h⟩, hb => ⟨A, c, e, h.below hb⟩
  | .S _, ⟨A, c, e, h⟩, hb => ⟨A, c, e, h.below hb⟩
  | .R _ _ _ _, ⟨A, c, e, h⟩, hb => ⟨A, c, e, h.below hb⟩
theorem RepA.below {w w' : World} {vs : List Value} {ds : List Lf} (h : RepA w vs ds) (hb : Below w.heap.size w w') : RepA w' vs ds := AllA.imp (fun _ _ _ h => h.below hb) h
theorem OwnL.below {w w' : World} {lo hi : Nat} {v : Value} : ∀ {d : Lf}, OwnL w lo hi v d → Below w.heap.size w w' → OwnL w' lo hi v d
  | .I _, ⟨A, c, e, h⟩, hb => ⟨A, c, e, h.below hb⟩
  | .B _, ⟨A, c, e, h⟩, hb => ⟨A, c, e, h.below hb⟩
  | .S _, ⟨A, c, e, h⟩, hb => ⟨A, c, e, h.below hb⟩
  | .R _ _ _ _, ⟨A, c, e, h⟩, hb => ⟨A, c, e, h.below hb⟩
theorem OwnL.btw {w w' : World} {lo hi l r : Nat} {v : Value} : ∀ {d : Lf}, OwnL w lo hi v d → Btw l r w w' → (hi ≤ l ∨ r ≤ lo) → OwnL w' lo hi v d
  | .I _, ⟨A, c, e, h⟩, hb, ho => ⟨A, c, e, h.btw hb ho⟩
  | .B _, ⟨A, c, e, h⟩, hb, ho => ⟨A, c, e, h.btw hb ho⟩
  | .S _, ⟨A, c, e, h⟩, hb, ho => ⟨A, c, e, h.btw hb ho⟩
  | .R _ _ _ _, ⟨A, c, e, h⟩, hb, ho => ⟨A, c, e, h.btw hb ho⟩
theorem OwnL.reads {w : World} {lo hi : Nat} {v : Value} : ∀ {d : Lf}, OwnL w lo hi v d → RepL w v d
  | .I _, ⟨A, c, e, h⟩ => ⟨A, c, e, h.reads⟩
  | .B _, ⟨A, c, e, h⟩ => ⟨A, c, e, h.reads⟩
  | .S _, ⟨A, c, e, h⟩ => ⟨A, c, e, h.reads⟩
  | .R _ _ _ _, ⟨A, c, e, h⟩ => ⟨A, c, e, h.reads⟩
theorem OwnA.below {w w' : World} {lo hi : Nat} {vs : List Value} {ds : List Lf} (h : OwnA w lo hi vs ds) (hb : Below w.heap.size w w') : OwnA w' lo hi vs ds := ⟨AllA.imp (fun _ _ _ h => h.below hb) h.1, h.2⟩
theorem OwnA.btw {w w' : World} {lo hi l r : Nat} {vs : List Value} {ds : List Lf} (h : OwnA w lo hi vs ds) (hb : Btw l r w w') (ho : hi ≤ l ∨ r ≤ lo) : OwnA w' lo hi vs ds := ⟨AllA.imp (fun _ _ _ h => h.btw hb ho) h.1, h.2⟩
theorem OwnA.reads {w : World} {lo hi : Nat} {vs : List Value} {ds : List Lf} (h : OwnA w lo hi vs ds) : RepA w vs ds := AllA.imp (fun _ _ _ h => h.reads) h.1

structure Touch (vs : List Value) (w w' : World) : Prop where
  os : w'.os = w.os
  tape : w'.tape = w.tape
  output : w'.output = w.output
  size : w.heap.size ≤ w'.heap.size
  block : ∀ k, k < w.heap.size → k ∉ vs.filterMap blkL → w'.heap[k]? = w.heap[k]?
theorem Touch.refl (vs : List Value) (w : World) : Touch vs w w := ⟨rfl, rfl, rfl, Nat.le_refl _, fun _ _ _ => rfl⟩
theorem Touch.trans {vs us : List Value} {a b c : World} (h : Touch vs a b) (k : Touch us b c) : Touch (vs ++ us) a c :=
  ⟨k.os.trans h.os, k.tape.trans h.tape, k.output.trans h.output, Nat.le_trans h.size k.size, fun i hi hn => by
    rw [List.filterMap_append, List.mem_append] at hn
    exact (k.block i (Nat.lt_of_lt_of_le hi h.size) (fun h => hn (.inr h))).trans (h.block i hi (fun h => hn (.inl h)))⟩
theorem Touch.of_below {w w' : World} (h : Below w.heap.size w w') (vs : List Value) : Touch vs w w' := ⟨h.os, h.tape, h.output, h.size, fun k hk _ => h.block k hk⟩
theorem Touch.more {vs us : List Value} {w w' : World} (h : Touch vs w w') (hs : ∀ k, k ∈ vs.filterMap blkL → k ∈ us.filterMap blkL) : Touch us w w' := ⟨h.os, h.tape, h.output, h.size, fun k hk hn => h.block k hk (fun h => hn (hs k h))⟩
theorem OwnL.blk {w : World} {lo hi : Nat} {v : Value} {b : Nat} (hb : blkL v = some b) : ∀ {d : Lf}, OwnL w lo hi v d → lo ≤ b ∧ b < hi
  | .I zs, ⟨A, c, e, h⟩ => by
    subst e
    rcases h with rfl | ⟨g, m, f, rfl, h1, h2, _⟩
    · rw [List.length_nil, blkL_zero] at hb; cases hb
    · rcases Nat.eq_zero_or_pos zs.length with hz | hz
      · rw [hz, blkL_zero] at hb; cases hb
      · rw [blkL_some hz] at hb; injection hb with hb; subst hb; exact ⟨h1, h2⟩
  | .B zs, ⟨A, c, e, h⟩ => by
    subst e
    rcases h with rfl | ⟨g, m, f, rfl, h1, h2, _⟩
    · rw [List.length_nil, blkL_zero] at hb; cases hb
    · rcases Nat.eq_zero_or_pos zs.length with hz | hz
      · rw [hz, blkL_zero] at hb; cases hb
      · rw [blkL_some hz] at hb; injection hb with hb; subst hb; exact ⟨h1, h2⟩
  | .S zs, ⟨A, c, e, h⟩ => by
    subst e
    rcases h with rfl | ⟨g, m, f, rfl, h1, h2, _⟩
    · rw [List.length_nil, blkL_zero] at hb; cases hb
    · rcases Nat.eq_zero_or_pos zs.length with hz | hz
      · rw [hz, blkL_zero] at hb; cases hb
      · rw [blkL_some hz] at hb; injection hb with hb; subst hb; exact ⟨h1, h2⟩
  | .R _ _ _ zs, ⟨A, c, e, h⟩ => by
    subst e
    rcases h with rfl | ⟨g, m, f, rfl, h1, h2, _⟩
    · rw [List.length_nil, blkL_zero] at hb; cases hb
    · rcases Nat.eq_zero_or_pos zs.length with hz | hz
      · rw [hz, blkL_zero] at hb; cases hb
      · rw [blkL_some hz] at hb; injection hb with hb; subst hb; exact ⟨h1, h2⟩
theorem AllA.mem {P : Value → Lf → Prop} : ∀ {vs : List Value} {ds : List Lf} {v : Value}, AllA P vs ds → v ∈ vs → ∃ d, P v d
  | v :: vs, d :: ds, u, ⟨h1, h2⟩, hm => by
    rcases List.mem_cons.1 hm with rfl | hm
    · exact ⟨d, h1⟩
    · exact AllA.mem h2 hm
  | [], [], _, _, hm => by cases hm
theorem OwnA.blk {w : World} {lo hi : Nat} {vs : List Value} {ds : List Lf} (h : OwnA w lo hi vs ds) {b : Nat} (hb : b ∈ vs.filterMap blkL) : lo ≤ b ∧ b < hi := by
  obtain ⟨v, hv, he⟩ := List.mem_filterMap.1 hb
  obtain ⟨d, hd⟩ := h.1.mem hv
  exact hd.blk he
theorem Touch.btw {w w' : World} {lo hi : Nat} {vs : List Value} {ds : List Lf} (h : OwnA w lo hi vs ds) (t : Touch vs w w') : Btw lo hi w w' :=
  ⟨t.os, t.tape, t.output, t.size, fun k hk ho => t.block k hk (fun hm => by have := h.blk hm; omega)⟩
theorem OwnA.nil (w : World) (lo hi : Nat) : OwnA w lo hi [] [] := ⟨trivial, List.nodup_nil⟩
end Go.Proofs.Ytophgbjbinaekaa

/- The laws' own functions over []int, []bool, []string, on leaves. -/
namespace Go.Proofs.Ytophgbjbinaekaa
open Go.RowKit

end Go.Proofs.Ytophgbjbinaekaa

/- Lists of leaves: their sizes, marks and segments. -/
namespace Go.Proofs.Ytophgbjbinaekaa
open Go.RowKit

def FitA (ds : List Lf) : Prop := ∀ d ∈ ds, d.fit
def CapA (vs : List Value) : Prop := ∀ v ∈ vs, CapL v
theorem CapA.nil : CapA [] := fun _ h => by cases h
theorem OwnA.one {w : World} {lo hi : Nat} {v : Value} {d : Lf} (h : OwnL w lo hi v d) : OwnA w lo hi [v] [d] := ⟨⟨h, trivial⟩, by
  cases hb : blkL v with
  | none => simp [hb]
  | some b => simp [hb]⟩
theorem OwnA.set {w : World} {lo hi : Nat} {vs : List Value} {ds : List Lf} (h : OwnA w lo hi vs ds) {p : Addr} (hp : p.block < lo) (u : Value) : OwnA (w.setCell p u) lo hi vs ds :=
  h.btw ((Btw.refl p.block (p.block + 1) w).setCell (Nat.le_refl _) (Nat.lt_succ_self _) u) (.inr hp)
theorem Touch.mem {m vs : List Value} {w w' : World} (h : Touch m w w') (hs : ∀ v ∈ m, v ∈ vs) : Touch vs w w' := h.more fun k hk => by
  obtain ⟨v, hv, he⟩ := List.mem_filterMap.1 hk
  exact List.mem_filterMap.2 ⟨v, hs v hv, he⟩
end Go.Proofs.Ytophgbjbinaekaa

/- A clock that is valid, on both sides. Written by gen_rtc.py. -/
namespace Go.Proofs.Ytophgbjbinaekaa
open Go.RowKit

def rg (n m : Int) : Bool := decide (0 ≤ n ∧ n ≤ m)
set_option maxRecDepth 100000 in
theorem inR (n b : Int) (w : World) : Calls Try.prog 40 #[.int .i64 n, .int .i64 0, .int .i64 b] w fun e w' => e = .returned (.bool (rg n b)) ∧ w = w' := by
  go_enter Try.func40, Try.ntmps40
  go_wp2
  all_goals go_ret
  all_goals (refine ⟨ret_bool ?_, rfl⟩)
  all_goals (unfold rg; rw [Bool.eq_iff_iff]; simp; try omega)
set_option maxRecDepth 100000 in
theorem upR (n m : Int) (w : World) : Calls Try.prog 38 #[.int .i64 n, .int .i64 m] w fun e w' => e = .returned (.bool (rg n m)) ∧ w = w' := by
  go_enter Try.func38, Try.ntmps38
  go_wp2
  all_goals go_ret
  all_goals (refine ⟨ret_bool ?_, rfl⟩)
  all_goals (unfold rg; rw [Bool.eq_iff_iff]; simp; try omega)
def momB (h m s : Int) : Bool := rg h 23 && rg m 59 && rg s 59
def rtcB (s m h am ah : Int) : Bool := rg s 59 && rg m 59 && rg h 23 && rg am 59 && rg ah 23
theorem rtcB_mom (s m h am ah : Int) : rtcB s m h am ah = (momB h m s && momB ah am 0) := by
  unfold rtcB momB
  rw [show rg 0 59 = true from rfl]
  cases rg s 59 <;> cases rg m 59 <;> cases rg h 23 <;> cases rg am 59 <;> cases rg ah 23 <;> rfl

set_option maxRecDepth 100000 in
set_option maxHeartbeats 2000000 in
theorem momentValid (h m s : Int) (w : World) : Calls Try.prog 37 #[.agg #[.int .i64 h, .int .i64 m, .int .i64 s]] w fun e w' => e = .returned (.bool (momB h m s)) ∧ Below w.heap.size w w' := by
  have hb0 := alloc_below w (.cells #[.int .i64 h, .int .i64 m, .int .i64 s] 51)
  cases h0 : rg h 23 with
  | false =>
    have HR : Hid (momB h m s = false) := Lib.hid (by simp [momB, h0])
    go_enter Try.func37, Try.ntmps37
    go_wp2_with (first | (go_at_call 38; refine (upR _ _ _).mono ?_; rintro e w' ⟨rfl, rfl⟩; first | rw [h0] | rw [h1] | rw [h2] | rw [h3] | rw [h4]))
    go_ret
    exact ⟨ret_bool HR.out.symm, hb0⟩
  | true =>
    cases h1 : rg m 59 with
    | false =>
      have HR : Hid (momB h m s = false) := Lib.hid (by simp [momB, h0, h1])
      go_enter Try.func37, Try.ntmps37
      go_wp2_with (first | (go_at_call 38; refine (upR _ _ _).mono ?_; rintro e w' ⟨rfl, rfl⟩; first | rw [h0] | rw [h1] | rw [h2] | rw [h3] | rw [h4]))
      go_ret
      exact ⟨ret_bool HR.out.symm, hb0⟩
    | true =>
      cases h2 : rg s 59 with
      | false =>
        have HR : Hid (momB h m s = false) := Lib.hid (by simp [momB, h0, h1, h2])
        go_enter Try.func37, Try.ntmps37
        go_wp2_with (first | (go_at_call 38; refine (upR _ _ _).mono ?_; rintro e w' ⟨rfl, rfl⟩; first | rw [h0] | rw [h1] | rw [h2] | rw [h3] | rw [h4]))
        go_ret
        exact ⟨ret_bool HR.out.symm, hb0⟩
      | true =>
        have HR : Hid (momB h m s = true) := Lib.hid (by simp [momB, h0, h1, h2])
        go_enter Try.func37, Try.ntmps37
        go_wp2_with (first | (go_at_call 38; refine (upR _ _ _).mono ?_; rintro e w' ⟨rfl, rfl⟩; first | rw [h0] | rw [h1] | rw [h2] | rw [h3] | rw [h4]))
        go_ret
        exact ⟨ret_bool HR.out.symm, hb0⟩

set_option maxRecDepth 100000 in
set_option maxHeartbeats 2000000 in
theorem rtc_now (d0 d1 d2 : Int) (d3 : Bool) (d4 d5 : Int) (w : World) : Calls Try.prog 33 #[.agg #[.int .i64 d0, .int .i64 d1, .int .i64 d2, .bool d3, .int .i64 d4, .int .i64 d5]] w fun e w' => e = .returned (.agg #[.int .i64 d2, .int .i64 d1, .int .i64 d0]) ∧ Below w.heap.size w w' := by
  go_enter Try.func33, Try.ntmps33
  go_wp2
  refine bodyPost_ret (v := .agg #[.int .i64 d2, .int .i64 d1, .int .i64 d0]) (by simp [results, Try.results33, go_sem]) rfl ?_
  exact ⟨rfl, ((Below.refl _ _).alloc (Nat.le_refl _) _).alloc (by simp) _⟩

set_option maxRecDepth 100000 in
set_option maxHeartbeats 2000000 in
theorem rtc_alarm (d0 d1 d2 : Int) (d3 : Bool) (d4 d5 : Int) (w : World) : Calls Try.prog 36 #[.agg #[.int .i64 d0, .int .i64 d1, .int .i64 d2, .bool d3, .int .i64 d4, .int .i64 d5]] w fun e w' => e = .returned (.agg #[.int .i64 d5, .int .i64 d4, .int .i64 0]) ∧ Below w.heap.size w w' := by
  go_enter Try.func36, Try.ntmps36
  go_wp2
  refine bodyPost_ret (v := .agg #[.int .i64 d5, .int .i64 d4, .int .i64 0]) (by simp [results, Try.results36, go_sem]) rfl ?_
  exact ⟨rfl, ((Below.refl _ _).alloc (Nat.le_refl _) _).alloc (by simp) _⟩

set_option maxRecDepth 100000 in
set_option maxHeartbeats 4000000 in
theorem rtcValid (d0 d1 d2 : Int) (d3 : Bool) (d4 d5 : Int) (w : World) : Calls Try.prog 29 #[.agg #[.int .i64 d0, .int .i64 d1, .int .i64 d2, .bool d3, .int .i64 d4, .int .i64 d5]] w fun e w' => e = .returned (.bool (rtcB d0 d1 d2 d4 d5)) ∧ Below w.heap.size w w' := by
  have HN := Lib.hid (fun W => rtc_now d0 d1 d2 d3 d4 d5 W)
  have HA := Lib.hid (fun W => rtc_alarm d0 d1 d2 d3 d4 d5 W)
  have HV := Lib.hid (fun W => momentValid d2 d1 d0 W)
  have HU := Lib.hid (fun W => momentValid d5 d4 0 W)
  have HE := Lib.hid (rtcB_mom d0 d1 d2 d4 d5)
  generalize rtcB d0 d1 d2 d4 d5 = r at HE ⊢
  generalize momB d2 d1 d0 = x at HV HE
  generalize momB d5 d4 0 = y at HU HE
  obtain ⟨W1, hW1⟩ : ∃ W1, W1 = w.alloc (.cells #[.int .i64 d0, .int .i64 d1, .int .i64 d2, .bool d3, .int .i64 d4, .int .i64 d5] 24) := ⟨_, rfl⟩
  have X1 : Hid (Box W1 w.heap.size 24 #[.int .i64 d0, .int .i64 d1, .int .i64 d2, .bool d3, .int .i64 d4, .int .i64 d5]) := Lib.hid (by rw [hW1]; exact Box.new _ _ _)
  have hb0 : Below w.heap.size w W1 := by rw [hW1]; exact alloc_below w _
  have HW := Lib.hid hW1
  clear hW1
  go_enter Try.func29, Try.ntmps29
  go_wp2_with fail
  have s0 := X1.out.cell 0 rfl; have s1 := X1.out.cell 1 rfl; have s2 := X1.out.cell 2 rfl; have s3 := X1.out.cell 3 rfl; have s4 := X1.out.cell 4 rfl; have s5 := X1.out.cell 5 rfl
  rw [← HW.out]
  go_wp2_with fail
  refine (HN.out _).mono ?_
  rintro e w2 ⟨rfl, hc2⟩
  have X2 := Lib.hid (X1.out.step hc2)
  have hb2 := bt hb0 hc2
  clear X1 hb0 hc2 s0 s1 s2 s3 s4 s5 HW HN
  go_wp2_with fail
  refine (HV.out _).mono ?_
  rintro e w3 ⟨rfl, hc3⟩
  have X3 := Lib.hid (X2.out.step hc3)
  have hb3 := bt hb2 hc3
  clear X2 hb2 hc3 HV
  cases x with
  | false =>
    go_wp2
    go_ret
    exact ⟨ret_bool (by rw [HE.out]; rfl), hb3⟩
  | true =>
    have s0 := X3.out.cell 0 rfl; have s1 := X3.out.cell 1 rfl; have s2 := X3.out.cell 2 rfl; have s3 := X3.out.cell 3 rfl; have s4 := X3.out.cell 4 rfl; have s5 := X3.out.cell 5 rfl
    go_wp2_with fail
    refine (HA.out _).mono ?_
    rintro e w4 ⟨rfl, hc4⟩
    have hb4 := bt hb3 hc4
    clear X3 hb3 hc4 s0 s1 s2 s3 s4 s5 HA
    go_wp2_with fail
    refine (HU.out _).mono ?_
    rintro e w5 ⟨rfl, hc5⟩
    have hb5 := bt hb4 hc5
    go_wp2
    go_ret
    exact ⟨ret_bool (by rw [HE.out]; rfl), hb5⟩
set_option maxRecDepth 100000 in
set_option maxHeartbeats 2000000 in
theorem specRtcOKA (d0 d1 d2 : Int) (d3 : Bool) (d4 d5 : Int) (w : World) : Calls Try.prog 22 #[.agg #[.int .i64 d0, .int .i64 d1, .int .i64 d2, .bool d3, .int .i64 d4, .int .i64 d5]] w fun e w' => e = .returned (.bool (rtcB d0 d1 d2 d4 d5)) ∧ Below w.heap.size w w' := by
  have hb0 := alloc_below w (.cells #[.int .i64 d0, .int .i64 d1, .int .i64 d2, .bool d3, .int .i64 d4, .int .i64 d5] 24)
  cases h0 : rg d0 59 with
  | false =>
    have HR : Hid (rtcB d0 d1 d2 d4 d5 = false) := Lib.hid (by simp [rtcB, h0])
    go_enter Try.func22, Try.ntmps22
    go_wp2_with (first | (go_at_call 40; refine (inR _ _ _).mono ?_; rintro e w' ⟨rfl, rfl⟩; first | rw [h0] | rw [h1] | rw [h2] | rw [h3] | rw [h4]))
    go_ret
    exact ⟨ret_bool HR.out.symm, hb0⟩
  | true =>
    cases h1 : rg d1 59 with
    | false =>
      have HR : Hid (rtcB d0 d1 d2 d4 d5 = false) := Lib.hid (by simp [rtcB, h0, h1])
      go_enter Try.func22, Try.ntmps22
      go_wp2_with (first | (go_at_call 40; refine (inR _ _ _).mono ?_; rintro e w' ⟨rfl, rfl⟩; first | rw [h0] | rw [h1] | rw [h2] | rw [h3] | rw [h4]))
      go_ret
      exact ⟨ret_bool HR.out.symm, hb0⟩
    | true =>
      cases h2 : rg d2 23 with
      | false =>
        have HR : Hid (rtcB d0 d1 d2 d4 d5 = false) := Lib.hid (by simp [rtcB, h0, h1, h2])
        go_enter Try.func22, Try.ntmps22
        go_wp2_with (first | (go_at_call 40; refine (inR _ _ _).mono ?_; rintro e w' ⟨rfl, rfl⟩; first | rw [h0] | rw [h1] | rw [h2] | rw [h3] | rw [h4]))
        go_ret
        exact ⟨ret_bool HR.out.symm, hb0⟩
      | true =>
        cases h3 : rg d4 59 with
        | false =>
          have HR : Hid (rtcB d0 d1 d2 d4 d5 = false) := Lib.hid (by simp [rtcB, h0, h1, h2, h3])
          go_enter Try.func22, Try.ntmps22
          go_wp2_with (first | (go_at_call 40; refine (inR _ _ _).mono ?_; rintro e w' ⟨rfl, rfl⟩; first | rw [h0] | rw [h1] | rw [h2] | rw [h3] | rw [h4]))
          go_ret
          exact ⟨ret_bool HR.out.symm, hb0⟩
        | true =>
          cases h4 : rg d5 23 with
          | false =>
            have HR : Hid (rtcB d0 d1 d2 d4 d5 = false) := Lib.hid (by simp [rtcB, h0, h1, h2, h3, h4])
            go_enter Try.func22, Try.ntmps22
            go_wp2_with (first | (go_at_call 40; refine (inR _ _ _).mono ?_; rintro e w' ⟨rfl, rfl⟩; first | rw [h0] | rw [h1] | rw [h2] | rw [h3] | rw [h4]))
            go_ret
            exact ⟨ret_bool HR.out.symm, hb0⟩
          | true =>
            have HR : Hid (rtcB d0 d1 d2 d4 d5 = true) := Lib.hid (by simp [rtcB, h0, h1, h2, h3, h4])
            go_enter Try.func22, Try.ntmps22
            go_wp2_with (first | (go_at_call 40; refine (inR _ _ _).mono ?_; rintro e w' ⟨rfl, rfl⟩; first | rw [h0] | rw [h1] | rw [h2] | rw [h3] | rw [h4]))
            go_ret
            exact ⟨ret_bool HR.out.symm, hb0⟩

end Go.Proofs.Ytophgbjbinaekaa

/- A second more and the alarm, on both sides. Written by gen_rtctick.py. -/
namespace Go.Proofs.Ytophgbjbinaekaa
open Go.RowKit

theorem setL6 (l : List Value) (hs : l.length = 6) (u0 u1 u2 u3 u4 u5 : Value) : ((((((l.set 0 u0).set 1 u1).set 2 u2).set 3 u3).set 4 u4).set 5 u5) = [u0, u1, u2, u3, u4, u5] := by
  match l, hs with
  | [v0, v1, v2, v3, v4, v5], _ => simp only [List.set_cons_zero, List.set_cons_succ]
theorem setA6 (cs : Array Value) (hs : cs.size = 6) (u0 u1 u2 u3 u4 u5 : Value) : ((((((cs.setIfInBounds 0 u0).setIfInBounds 1 u1).setIfInBounds 2 u2).setIfInBounds 3 u3).setIfInBounds 4 u4).setIfInBounds 5 u5) = #[u0, u1, u2, u3, u4, u5] := by
  obtain ⟨l⟩ := cs
  simp only [List.setIfInBounds_toArray]
  rw [setL6 l (by simpa using hs)]
theorem Box.all6 {w : World} {b : Nat} {t : TypeId} {cs : Array Value} (X : Box w b t cs) (hs : cs.size = 6) (u0 u1 u2 u3 u4 u5 : Value) : Box ((((((w.setCell ⟨b, 0, none⟩ u0).setCell ⟨b, 1, none⟩ u1).setCell ⟨b, 2, none⟩ u2).setCell ⟨b, 3, none⟩ u3).setCell ⟨b, 4, none⟩ u4).setCell ⟨b, 5, none⟩ u5) b t #[u0, u1, u2, u3, u4, u5] :=
  setA6 cs hs u0 u1 u2 u3 u4 u5 ▸ ((((((X.set 0 u0).set 1 u1).set 2 u2).set 3 u3).set 4 u4).set 5 u5)
structure RT where
  s : Int
  m : Int
  h : Int
structure MomR (s m h : Int) : Prop where
  s : 0 ≤ s ∧ s ≤ 59
  m : 0 ≤ m ∧ m ≤ 59
  h : 0 ≤ h ∧ h ≤ 23
end Go.Proofs.Ytophgbjbinaekaa

/- The alarm, and a second more of the model's; TickRtc and SetAlarm, both sides. Written by gen_rtctick.py. -/
namespace Go.Proofs.Ytophgbjbinaekaa
open Go.RowKit

end Go.Proofs.Ytophgbjbinaekaa

/- TickRtc and SetAlarm, both sides. Written by gen_rtctick.py. -/
namespace Go.Proofs.Ytophgbjbinaekaa
open Go.RowKit

structure TK where
  s : Int
  m : Int
  h : Int
  a : Bool
  am : Int
  ah : Int
  b : Bool
  c : Int
def sa (d0 d1 d2 : Int) (d4 d5 hr mn : Int) : TK := if rtcB d0 d1 d2 d4 d5 then (if rg hr 23 && rg mn 59 then ⟨d0, d1, d2, true, mn, hr, false, 0⟩ else ⟨0, 0, 0, false, 0, 0, false, 4⟩) else ⟨0, 0, 0, false, 0, 0, false, 1⟩


set_option maxRecDepth 100000 in
set_option maxHeartbeats 8000000 in
theorem specSetAlarmA (d0 d1 d2 : Int) (d3 : Bool) (d4 d5 : Int) (hr mn : Int) (w : World) : Calls Try.prog 26 #[.agg #[.int .i64 d0, .int .i64 d1, .int .i64 d2, .bool d3, .int .i64 d4, .int .i64 d5], .int .i64 hr, .int .i64 mn] w fun e w' => e = .returned (.tuple #[.agg #[.int .i64 (sa d0 d1 d2 d4 d5 hr mn).s, .int .i64 (sa d0 d1 d2 d4 d5 hr mn).m, .int .i64 (sa d0 d1 d2 d4 d5 hr mn).h, .bool (sa d0 d1 d2 d4 d5 hr mn).a, .int .i64 (sa d0 d1 d2 d4 d5 hr mn).am, .int .i64 (sa d0 d1 d2 d4 d5 hr mn).ah], .int .i64 (sa d0 d1 d2 d4 d5 hr mn).c]) ∧ Below w.heap.size w w' := by
  obtain ⟨W1, hW1⟩ : ∃ W1, W1 = (w.alloc (.cells #[.int .i64 d0, .int .i64 d1, .int .i64 d2, .bool d3, .int .i64 d4, .int .i64 d5] 24)).alloc (.cells #[.int .i64 0, .int .i64 0, .int .i64 0, .bool false, .int .i64 0, .int .i64 0] 24) := ⟨_, rfl⟩
  have X1 : Hid (Box W1 w.heap.size 24 #[.int .i64 d0, .int .i64 d1, .int .i64 d2, .bool d3, .int .i64 d4, .int .i64 d5]) := Lib.hid (by rw [hW1]; exact (Box.new _ _ _).alloc _)
  have Y1 : Hid (Box W1 (w.heap.size + 1) 24 #[.int .i64 0, .int .i64 0, .int .i64 0, .bool false, .int .i64 0, .int .i64 0]) := Lib.hid (by rw [hW1]; simpa using Box.new (w.alloc (.cells #[.int .i64 d0, .int .i64 d1, .int .i64 d2, .bool d3, .int .i64 d4, .int .i64 d5] 24)) 24 #[.int .i64 0, .int .i64 0, .int .i64 0, .bool false, .int .i64 0, .int .i64 0])
  have hb0 : Below w.heap.size w W1 := by rw [hW1]; exact ((Below.refl _ _).alloc (Nat.le_refl _) _).alloc (by simp) _
  have HW := Lib.hid hW1
  clear hW1
  have HV := Lib.hid (fun W => specRtcOKA d0 d1 d2 d3 d4 d5 W)
  cases hv : rtcB d0 d1 d2 d4 d5 with
  | false =>
    have HR : Hid (sa d0 d1 d2 d4 d5 hr mn = ⟨0, 0, 0, false, 0, 0, false, 1⟩) := Lib.hid (by simp [sa, hv])
    rw [hv] at HV
    go_enter Try.func26, Try.ntmps26
    go_wp2_with fail
    have s0 := X1.out.cell 0 rfl; have s1 := X1.out.cell 1 rfl; have s2 := X1.out.cell 2 rfl; have s3 := X1.out.cell 3 rfl; have s4 := X1.out.cell 4 rfl; have s5 := X1.out.cell 5 rfl
    rw [← HW.out]
    go_wp2_with fail
    refine (HV.out _).mono ?_
    rintro e w2 ⟨rfl, hc2⟩
    have X2 := Lib.hid (X1.out.step hc2)
    have Y2 := Lib.hid (Y1.out.step hc2)
    have hb2 := bt hb0 hc2
    clear X1 Y1 hb0 hc2 s0 s1 s2 s3 s4 s5 HW HV
    have u0 := Y2.out.cell 0 rfl; have u1 := Y2.out.cell 1 rfl; have u2 := Y2.out.cell 2 rfl; have u3 := Y2.out.cell 3 rfl; have u4 := Y2.out.cell 4 rfl; have u5 := Y2.out.cell 5 rfl
    have z0 := Y2.out.frozen 0; have z1 := Y2.out.frozen 1; have z2 := Y2.out.frozen 2; have z3 := Y2.out.frozen 3; have z4 := Y2.out.frozen 4; have z5 := Y2.out.frozen 5
    go_wp2
    obtain ⟨W9, hW9⟩ : ∃ W9, W9 = ((((((w2.setCell ⟨w.heap.size + 1, 0, none⟩ (.int .i64 0)).setCell ⟨w.heap.size + 1, 1, none⟩ (.int .i64 0)).setCell ⟨w.heap.size + 1, 2, none⟩ (.int .i64 0)).setCell ⟨w.heap.size + 1, 3, none⟩ (.bool false)).setCell ⟨w.heap.size + 1, 4, none⟩ (.int .i64 0)).setCell ⟨w.heap.size + 1, 5, none⟩ (.int .i64 0)) := ⟨_, rfl⟩
    have BW9 : Btw (w.heap.size + 1) (w.heap.size + 1 + 1) w2 W9 := by rw [hW9]; exact (Btw.refl _ _ _).put.put.put.put.put.put
    have Y9 : Hid (Box W9 (w.heap.size + 1) 24 #[.int .i64 0, .int .i64 0, .int .i64 0, .bool false, .int .i64 0, .int .i64 0]) := Lib.hid (by rw [hW9]; exact (Y2.out.all6 rfl _ _ _ _ _ _))
    have hb9 := hb2.trans ((BW9.below (Nat.le_of_lt Y2.out.lt)).mono (by omega))
    rw [← hW9]
    clear u0 u1 u2 u3 u4 u5 z0 z1 z2 z3 z4 z5 hW9
    have y0 := Y9.out.cell 0 rfl; have y1 := Y9.out.cell 1 rfl; have y2 := Y9.out.cell 2 rfl; have y3 := Y9.out.cell 3 rfl; have y4 := Y9.out.cell 4 rfl; have y5 := Y9.out.cell 5 rfl
    refine bodyPost_ret (v := .tuple #[.agg #[.int .i64 0, .int .i64 0, .int .i64 0, .bool false, .int .i64 0, .int .i64 0], .int .i64 1]) (by simp [results, Try.results26, go_sem, y0, y1, y2, y3, y4, y5]) rfl ?_
    exact ⟨by rw [HR.out], hb9⟩
  | true =>
    cases h1 : rg hr 23 with
    | false =>
      have HR : Hid (sa d0 d1 d2 d4 d5 hr mn = ⟨0, 0, 0, false, 0, 0, false, 4⟩) := Lib.hid (by simp [sa, hv, h1])
      rw [hv] at HV
      go_enter Try.func26, Try.ntmps26
      go_wp2_with fail
      have s0 := X1.out.cell 0 rfl; have s1 := X1.out.cell 1 rfl; have s2 := X1.out.cell 2 rfl; have s3 := X1.out.cell 3 rfl; have s4 := X1.out.cell 4 rfl; have s5 := X1.out.cell 5 rfl
      rw [← HW.out]
      go_wp2_with fail
      refine (HV.out _).mono ?_
      rintro e w2 ⟨rfl, hc2⟩
      have X2 := Lib.hid (X1.out.step hc2)
      have Y2 := Lib.hid (Y1.out.step hc2)
      have hb2 := bt hb0 hc2
      clear X1 Y1 hb0 hc2 s0 s1 s2 s3 s4 s5 HW HV
      have u0 := Y2.out.cell 0 rfl; have u1 := Y2.out.cell 1 rfl; have u2 := Y2.out.cell 2 rfl; have u3 := Y2.out.cell 3 rfl; have u4 := Y2.out.cell 4 rfl; have u5 := Y2.out.cell 5 rfl
      have z0 := Y2.out.frozen 0; have z1 := Y2.out.frozen 1; have z2 := Y2.out.frozen 2; have z3 := Y2.out.frozen 3; have z4 := Y2.out.frozen 4; have z5 := Y2.out.frozen 5
      go_wp2_with (first | (go_at_call 40; refine (inR _ _ _).mono ?_; rintro e w' ⟨rfl, rfl⟩; (first | rw [h1] | rw [h2])))
      obtain ⟨W9, hW9⟩ : ∃ W9, W9 = ((((((w2.setCell ⟨w.heap.size + 1, 0, none⟩ (.int .i64 0)).setCell ⟨w.heap.size + 1, 1, none⟩ (.int .i64 0)).setCell ⟨w.heap.size + 1, 2, none⟩ (.int .i64 0)).setCell ⟨w.heap.size + 1, 3, none⟩ (.bool false)).setCell ⟨w.heap.size + 1, 4, none⟩ (.int .i64 0)).setCell ⟨w.heap.size + 1, 5, none⟩ (.int .i64 0)) := ⟨_, rfl⟩
      have BW9 : Btw (w.heap.size + 1) (w.heap.size + 1 + 1) w2 W9 := by rw [hW9]; exact (Btw.refl _ _ _).put.put.put.put.put.put
      have Y9 : Hid (Box W9 (w.heap.size + 1) 24 #[.int .i64 0, .int .i64 0, .int .i64 0, .bool false, .int .i64 0, .int .i64 0]) := Lib.hid (by rw [hW9]; exact (Y2.out.all6 rfl _ _ _ _ _ _))
      have hb9 := hb2.trans ((BW9.below (Nat.le_of_lt Y2.out.lt)).mono (by omega))
      rw [← hW9]
      clear u0 u1 u2 u3 u4 u5 z0 z1 z2 z3 z4 z5 hW9
      have y0 := Y9.out.cell 0 rfl; have y1 := Y9.out.cell 1 rfl; have y2 := Y9.out.cell 2 rfl; have y3 := Y9.out.cell 3 rfl; have y4 := Y9.out.cell 4 rfl; have y5 := Y9.out.cell 5 rfl
      refine bodyPost_ret (v := .tuple #[.agg #[.int .i64 0, .int .i64 0, .int .i64 0, .bool false, .int .i64 0, .int .i64 0], .int .i64 4]) (by simp [results, Try.results26, go_sem, y0, y1, y2, y3, y4, y5]) rfl ?_
      exact ⟨by rw [HR.out], hb9⟩
    | true =>
      cases h2 : rg mn 59 with
      | false =>
        have HR : Hid (sa d0 d1 d2 d4 d5 hr mn = ⟨0, 0, 0, false, 0, 0, false, 4⟩) := Lib.hid (by simp [sa, hv, h1, h2])
        rw [hv] at HV
        go_enter Try.func26, Try.ntmps26
        go_wp2_with fail
        have s0 := X1.out.cell 0 rfl; have s1 := X1.out.cell 1 rfl; have s2 := X1.out.cell 2 rfl; have s3 := X1.out.cell 3 rfl; have s4 := X1.out.cell 4 rfl; have s5 := X1.out.cell 5 rfl
        rw [← HW.out]
        go_wp2_with fail
        refine (HV.out _).mono ?_
        rintro e w2 ⟨rfl, hc2⟩
        have X2 := Lib.hid (X1.out.step hc2)
        have Y2 := Lib.hid (Y1.out.step hc2)
        have hb2 := bt hb0 hc2
        clear X1 Y1 hb0 hc2 s0 s1 s2 s3 s4 s5 HW HV
        have u0 := Y2.out.cell 0 rfl; have u1 := Y2.out.cell 1 rfl; have u2 := Y2.out.cell 2 rfl; have u3 := Y2.out.cell 3 rfl; have u4 := Y2.out.cell 4 rfl; have u5 := Y2.out.cell 5 rfl
        have z0 := Y2.out.frozen 0; have z1 := Y2.out.frozen 1; have z2 := Y2.out.frozen 2; have z3 := Y2.out.frozen 3; have z4 := Y2.out.frozen 4; have z5 := Y2.out.frozen 5
        go_wp2_with (first | (go_at_call 40; refine (inR _ _ _).mono ?_; rintro e w' ⟨rfl, rfl⟩; (first | rw [h1] | rw [h2])))
        obtain ⟨W9, hW9⟩ : ∃ W9, W9 = ((((((w2.setCell ⟨w.heap.size + 1, 0, none⟩ (.int .i64 0)).setCell ⟨w.heap.size + 1, 1, none⟩ (.int .i64 0)).setCell ⟨w.heap.size + 1, 2, none⟩ (.int .i64 0)).setCell ⟨w.heap.size + 1, 3, none⟩ (.bool false)).setCell ⟨w.heap.size + 1, 4, none⟩ (.int .i64 0)).setCell ⟨w.heap.size + 1, 5, none⟩ (.int .i64 0)) := ⟨_, rfl⟩
        have BW9 : Btw (w.heap.size + 1) (w.heap.size + 1 + 1) w2 W9 := by rw [hW9]; exact (Btw.refl _ _ _).put.put.put.put.put.put
        have Y9 : Hid (Box W9 (w.heap.size + 1) 24 #[.int .i64 0, .int .i64 0, .int .i64 0, .bool false, .int .i64 0, .int .i64 0]) := Lib.hid (by rw [hW9]; exact (Y2.out.all6 rfl _ _ _ _ _ _))
        have hb9 := hb2.trans ((BW9.below (Nat.le_of_lt Y2.out.lt)).mono (by omega))
        rw [← hW9]
        clear u0 u1 u2 u3 u4 u5 z0 z1 z2 z3 z4 z5 hW9
        have y0 := Y9.out.cell 0 rfl; have y1 := Y9.out.cell 1 rfl; have y2 := Y9.out.cell 2 rfl; have y3 := Y9.out.cell 3 rfl; have y4 := Y9.out.cell 4 rfl; have y5 := Y9.out.cell 5 rfl
        refine bodyPost_ret (v := .tuple #[.agg #[.int .i64 0, .int .i64 0, .int .i64 0, .bool false, .int .i64 0, .int .i64 0], .int .i64 4]) (by simp [results, Try.results26, go_sem, y0, y1, y2, y3, y4, y5]) rfl ?_
        exact ⟨by rw [HR.out], hb9⟩
      | true =>
        have HR : Hid (sa d0 d1 d2 d4 d5 hr mn = ⟨d0, d1, d2, true, mn, hr, false, 0⟩) := Lib.hid (by simp [sa, hv, h1, h2])
        rw [hv] at HV
        go_enter Try.func26, Try.ntmps26
        go_wp2_with fail
        have s0 := X1.out.cell 0 rfl; have s1 := X1.out.cell 1 rfl; have s2 := X1.out.cell 2 rfl; have s3 := X1.out.cell 3 rfl; have s4 := X1.out.cell 4 rfl; have s5 := X1.out.cell 5 rfl
        rw [← HW.out]
        go_wp2_with fail
        refine (HV.out _).mono ?_
        rintro e w2 ⟨rfl, hc2⟩
        have X2 := Lib.hid (X1.out.step hc2)
        have Y2 := Lib.hid (Y1.out.step hc2)
        have hb2 := bt hb0 hc2
        clear X1 Y1 hb0 hc2 s0 s1 s2 s3 s4 s5 HW HV
        have s0 := X2.out.cell 0 rfl; have s1 := X2.out.cell 1 rfl; have s2 := X2.out.cell 2 rfl; have s3 := X2.out.cell 3 rfl; have s4 := X2.out.cell 4 rfl; have s5 := X2.out.cell 5 rfl
        have x3 := X2.out.frozen 3; have x4 := X2.out.frozen 4; have x5 := X2.out.frozen 5
        have u0 := Y2.out.cell 0 rfl; have u1 := Y2.out.cell 1 rfl; have u2 := Y2.out.cell 2 rfl; have u3 := Y2.out.cell 3 rfl; have u4 := Y2.out.cell 4 rfl; have u5 := Y2.out.cell 5 rfl
        have z0 := Y2.out.frozen 0; have z1 := Y2.out.frozen 1; have z2 := Y2.out.frozen 2; have z3 := Y2.out.frozen 3; have z4 := Y2.out.frozen 4; have z5 := Y2.out.frozen 5
        go_wp2_with (first | (go_at_call 40; refine (inR _ _ _).mono ?_; rintro e w' ⟨rfl, rfl⟩; (first | rw [h1] | rw [h2])))
        obtain ⟨W3, hW3⟩ : ∃ W3, W3 = (((w2.setCell ⟨w.heap.size, 3, none⟩ (.bool true)).setCell ⟨w.heap.size, 5, none⟩ (.int .i64 hr)).setCell ⟨w.heap.size, 4, none⟩ (.int .i64 mn)) := ⟨_, rfl⟩
        have BW3 : Btw (w.heap.size) (w.heap.size + 1) w2 W3 := by rw [hW3]; exact (Btw.refl _ _ _).put.put.put
        have X3 := Lib.hid ((((X2.out.set 3 (.bool true)).set 5 (.int .i64 hr)).set 4 (.int .i64 mn)))
        rw [← hW3] at X3
        have Y3 := Lib.hid (Y2.out.btw BW3 (.inr (by omega)))
        have hb3 := hb2.trans ((BW3.below (Nat.le_of_lt X2.out.lt)).mono (by omega))
        have Y3f := Y3
        obtain ⟨W9, hW9⟩ : ∃ W9, W9 = ((((((W3.setCell ⟨w.heap.size + 1, 0, none⟩ (.int .i64 d0)).setCell ⟨w.heap.size + 1, 1, none⟩ (.int .i64 d1)).setCell ⟨w.heap.size + 1, 2, none⟩ (.int .i64 d2)).setCell ⟨w.heap.size + 1, 3, none⟩ (.bool true)).setCell ⟨w.heap.size + 1, 4, none⟩ (.int .i64 mn)).setCell ⟨w.heap.size + 1, 5, none⟩ (.int .i64 hr)) := ⟨_, rfl⟩
        have BW9 : Btw (w.heap.size + 1) (w.heap.size + 1 + 1) W3 W9 := by rw [hW9]; exact (Btw.refl _ _ _).put.put.put.put.put.put
        have Y9 : Hid (Box W9 (w.heap.size + 1) 24 #[.int .i64 d0, .int .i64 d1, .int .i64 d2, .bool true, .int .i64 mn, .int .i64 hr]) := Lib.hid (by rw [hW9]; exact (Y3.out.all6 rfl _ _ _ _ _ _))
        have hb9 := hb3.trans ((BW9.below (Nat.le_of_lt Y3.out.lt)).mono (by omega))
        rw [← hW3, ← hW9]
        have y0 := Y9.out.cell 0 rfl; have y1 := Y9.out.cell 1 rfl; have y2 := Y9.out.cell 2 rfl; have y3 := Y9.out.cell 3 rfl; have y4 := Y9.out.cell 4 rfl; have y5 := Y9.out.cell 5 rfl
        refine bodyPost_ret (v := .tuple #[.agg #[.int .i64 d0, .int .i64 d1, .int .i64 d2, .bool true, .int .i64 mn, .int .i64 hr], .int .i64 0]) (by simp [results, Try.results26, go_sem, y0, y1, y2, y3, y4, y5]) rfl ?_
        exact ⟨by rw [HR.out], hb9⟩

set_option maxRecDepth 100000 in
set_option maxHeartbeats 8000000 in
theorem implSetAlarmA (d0 d1 d2 : Int) (d3 : Bool) (d4 d5 : Int) (hr mn : Int) (w : World) : Calls Try.prog 18 #[.agg #[.int .i64 d0, .int .i64 d1, .int .i64 d2, .bool d3, .int .i64 d4, .int .i64 d5], .int .i64 hr, .int .i64 mn] w fun e w' => e = .returned (.tuple #[.agg #[.int .i64 (sa d0 d1 d2 d4 d5 hr mn).s, .int .i64 (sa d0 d1 d2 d4 d5 hr mn).m, .int .i64 (sa d0 d1 d2 d4 d5 hr mn).h, .bool (sa d0 d1 d2 d4 d5 hr mn).a, .int .i64 (sa d0 d1 d2 d4 d5 hr mn).am, .int .i64 (sa d0 d1 d2 d4 d5 hr mn).ah], .int .i64 (sa d0 d1 d2 d4 d5 hr mn).c]) ∧ Below w.heap.size w w' := by
  obtain ⟨W1, hW1⟩ : ∃ W1, W1 = (w.alloc (.cells #[.int .i64 d0, .int .i64 d1, .int .i64 d2, .bool d3, .int .i64 d4, .int .i64 d5] 24)).alloc (.cells #[.int .i64 0, .int .i64 0, .int .i64 0, .bool false, .int .i64 0, .int .i64 0] 24) := ⟨_, rfl⟩
  have X1 : Hid (Box W1 w.heap.size 24 #[.int .i64 d0, .int .i64 d1, .int .i64 d2, .bool d3, .int .i64 d4, .int .i64 d5]) := Lib.hid (by rw [hW1]; exact (Box.new _ _ _).alloc _)
  have Y1 : Hid (Box W1 (w.heap.size + 1) 24 #[.int .i64 0, .int .i64 0, .int .i64 0, .bool false, .int .i64 0, .int .i64 0]) := Lib.hid (by rw [hW1]; simpa using Box.new (w.alloc (.cells #[.int .i64 d0, .int .i64 d1, .int .i64 d2, .bool d3, .int .i64 d4, .int .i64 d5] 24)) 24 #[.int .i64 0, .int .i64 0, .int .i64 0, .bool false, .int .i64 0, .int .i64 0])
  have hb0 : Below w.heap.size w W1 := by rw [hW1]; exact ((Below.refl _ _).alloc (Nat.le_refl _) _).alloc (by simp) _
  have HW := Lib.hid hW1
  clear hW1
  have HV := Lib.hid (fun W => rtcValid d0 d1 d2 d3 d4 d5 W)
  cases hv : rtcB d0 d1 d2 d4 d5 with
  | false =>
    have HR : Hid (sa d0 d1 d2 d4 d5 hr mn = ⟨0, 0, 0, false, 0, 0, false, 1⟩) := Lib.hid (by simp [sa, hv])
    rw [hv] at HV
    go_enter Try.func18, Try.ntmps18
    go_wp2_with fail
    have s0 := X1.out.cell 0 rfl; have s1 := X1.out.cell 1 rfl; have s2 := X1.out.cell 2 rfl; have s3 := X1.out.cell 3 rfl; have s4 := X1.out.cell 4 rfl; have s5 := X1.out.cell 5 rfl
    rw [← HW.out]
    go_wp2_with fail
    refine (HV.out _).mono ?_
    rintro e w2 ⟨rfl, hc2⟩
    have X2 := Lib.hid (X1.out.step hc2)
    have Y2 := Lib.hid (Y1.out.step hc2)
    have hb2 := bt hb0 hc2
    clear X1 Y1 hb0 hc2 s0 s1 s2 s3 s4 s5 HW HV
    have u0 := Y2.out.cell 0 rfl; have u1 := Y2.out.cell 1 rfl; have u2 := Y2.out.cell 2 rfl; have u3 := Y2.out.cell 3 rfl; have u4 := Y2.out.cell 4 rfl; have u5 := Y2.out.cell 5 rfl
    have z0 := Y2.out.frozen 0; have z1 := Y2.out.frozen 1; have z2 := Y2.out.frozen 2; have z3 := Y2.out.frozen 3; have z4 := Y2.out.frozen 4; have z5 := Y2.out.frozen 5
    go_wp2
    obtain ⟨W9, hW9⟩ : ∃ W9, W9 = ((((((w2.setCell ⟨w.heap.size + 1, 0, none⟩ (.int .i64 0)).setCell ⟨w.heap.size + 1, 1, none⟩ (.int .i64 0)).setCell ⟨w.heap.size + 1, 2, none⟩ (.int .i64 0)).setCell ⟨w.heap.size + 1, 3, none⟩ (.bool false)).setCell ⟨w.heap.size + 1, 4, none⟩ (.int .i64 0)).setCell ⟨w.heap.size + 1, 5, none⟩ (.int .i64 0)) := ⟨_, rfl⟩
    have BW9 : Btw (w.heap.size + 1) (w.heap.size + 1 + 1) w2 W9 := by rw [hW9]; exact (Btw.refl _ _ _).put.put.put.put.put.put
    have Y9 : Hid (Box W9 (w.heap.size + 1) 24 #[.int .i64 0, .int .i64 0, .int .i64 0, .bool false, .int .i64 0, .int .i64 0]) := Lib.hid (by rw [hW9]; exact (Y2.out.all6 rfl _ _ _ _ _ _))
    have hb9 := hb2.trans ((BW9.below (Nat.le_of_lt Y2.out.lt)).mono (by omega))
    rw [← hW9]
    clear u0 u1 u2 u3 u4 u5 z0 z1 z2 z3 z4 z5 hW9
    have y0 := Y9.out.cell 0 rfl; have y1 := Y9.out.cell 1 rfl; have y2 := Y9.out.cell 2 rfl; have y3 := Y9.out.cell 3 rfl; have y4 := Y9.out.cell 4 rfl; have y5 := Y9.out.cell 5 rfl
    refine bodyPost_ret (v := .tuple #[.agg #[.int .i64 0, .int .i64 0, .int .i64 0, .bool false, .int .i64 0, .int .i64 0], .int .i64 1]) (by simp [results, Try.results18, go_sem, y0, y1, y2, y3, y4, y5]) rfl ?_
    exact ⟨by rw [HR.out], hb9⟩
  | true =>
    have HE : Hid (sa d0 d1 d2 d4 d5 hr mn = if momB hr mn 0 then ⟨d0, d1, d2, true, mn, hr, false, 0⟩ else ⟨0, 0, 0, false, 0, 0, false, 4⟩) := Lib.hid (by rw [show momB hr mn 0 = (rg hr 23 && rg mn 59) by unfold momB; rw [show rg 0 59 = true from rfl, Bool.and_true]]; unfold sa; rw [hv]; rfl)
    have HA := Lib.hid (fun W => rtc_alarm d0 d1 d2 true mn hr W)
    have HM := Lib.hid (fun W => momentValid hr mn 0 W)
    generalize sa d0 d1 d2 d4 d5 hr mn = K at HE ⊢
    generalize momB hr mn 0 = b at HE HM
    rw [hv] at HV
    go_enter Try.func18, Try.ntmps18
    go_wp2_with fail
    have s0 := X1.out.cell 0 rfl; have s1 := X1.out.cell 1 rfl; have s2 := X1.out.cell 2 rfl; have s3 := X1.out.cell 3 rfl; have s4 := X1.out.cell 4 rfl; have s5 := X1.out.cell 5 rfl
    rw [← HW.out]
    go_wp2_with fail
    refine (HV.out _).mono ?_
    rintro e w2 ⟨rfl, hc2⟩
    have X2 := Lib.hid (X1.out.step hc2)
    have Y2 := Lib.hid (Y1.out.step hc2)
    have hb2 := bt hb0 hc2
    clear X1 Y1 hb0 hc2 s0 s1 s2 s3 s4 s5 HW HV
    have s0 := X2.out.cell 0 rfl; have s1 := X2.out.cell 1 rfl; have s2 := X2.out.cell 2 rfl; have s3 := X2.out.cell 3 rfl; have s4 := X2.out.cell 4 rfl; have s5 := X2.out.cell 5 rfl
    have x3 := X2.out.frozen 3; have x4 := X2.out.frozen 4; have x5 := X2.out.frozen 5
    go_wp2_with fail
    obtain ⟨W3, hW3⟩ : ∃ W3, W3 = (((w2.setCell ⟨w.heap.size, 3, none⟩ (.bool true)).setCell ⟨w.heap.size, 5, none⟩ (.int .i64 hr)).setCell ⟨w.heap.size, 4, none⟩ (.int .i64 mn)) := ⟨_, rfl⟩
    have BW3 : Btw (w.heap.size) (w.heap.size + 1) w2 W3 := by rw [hW3]; exact (Btw.refl _ _ _).put.put.put
    have X3 := Lib.hid ((((X2.out.set 3 (.bool true)).set 5 (.int .i64 hr)).set 4 (.int .i64 mn)))
    rw [← hW3] at X3
    have Y3 := Lib.hid (Y2.out.btw BW3 (.inr (by omega)))
    have hb3 := hb2.trans ((BW3.below (Nat.le_of_lt X2.out.lt)).mono (by omega))
    rw [← hW3]
    have X3 : Hid (Box W3 w.heap.size 24 #[.int .i64 d0, .int .i64 d1, .int .i64 d2, .bool true, .int .i64 mn, .int .i64 hr]) := Lib.hid (by simpa using X3.out)
    clear X2 Y2 hb2 hW3 BW3 s0 s1 s2 s3 s4 s5 x3 x4 x5
    have s0 := X3.out.cell 0 rfl; have s1 := X3.out.cell 1 rfl; have s2 := X3.out.cell 2 rfl; have s3 := X3.out.cell 3 rfl; have s4 := X3.out.cell 4 rfl; have s5 := X3.out.cell 5 rfl
    go_wp2_with fail
    refine (HA.out _).mono ?_
    rintro e w4 ⟨rfl, hc4⟩
    have X4 := Lib.hid (X3.out.step hc4)
    have Y4 := Lib.hid (Y3.out.step hc4)
    have hb4 := bt hb3 hc4
    clear X3 Y3 hb3 hc4 s0 s1 s2 s3 s4 s5 HA
    go_wp2_with fail
    refine (HM.out _).mono ?_
    rintro e w5 ⟨rfl, hc5⟩
    have X5 := Lib.hid (X4.out.step hc5)
    have Y5 := Lib.hid (Y4.out.step hc5)
    have hb5 := bt hb4 hc5
    clear X4 Y4 hb4 hc5 HM
    cases b with
    | false =>
      have u0 := Y5.out.cell 0 rfl; have u1 := Y5.out.cell 1 rfl; have u2 := Y5.out.cell 2 rfl; have u3 := Y5.out.cell 3 rfl; have u4 := Y5.out.cell 4 rfl; have u5 := Y5.out.cell 5 rfl
      have z0 := Y5.out.frozen 0; have z1 := Y5.out.frozen 1; have z2 := Y5.out.frozen 2; have z3 := Y5.out.frozen 3; have z4 := Y5.out.frozen 4; have z5 := Y5.out.frozen 5
      go_wp2
      obtain ⟨W9, hW9⟩ : ∃ W9, W9 = ((((((w5.setCell ⟨w.heap.size + 1, 0, none⟩ (.int .i64 0)).setCell ⟨w.heap.size + 1, 1, none⟩ (.int .i64 0)).setCell ⟨w.heap.size + 1, 2, none⟩ (.int .i64 0)).setCell ⟨w.heap.size + 1, 3, none⟩ (.bool false)).setCell ⟨w.heap.size + 1, 4, none⟩ (.int .i64 0)).setCell ⟨w.heap.size + 1, 5, none⟩ (.int .i64 0)) := ⟨_, rfl⟩
      have BW9 : Btw (w.heap.size + 1) (w.heap.size + 1 + 1) w5 W9 := by rw [hW9]; exact (Btw.refl _ _ _).put.put.put.put.put.put
      have Y9 : Hid (Box W9 (w.heap.size + 1) 24 #[.int .i64 0, .int .i64 0, .int .i64 0, .bool false, .int .i64 0, .int .i64 0]) := Lib.hid (by rw [hW9]; exact (Y5.out.all6 rfl _ _ _ _ _ _))
      have hb9 := hb5.trans ((BW9.below (Nat.le_of_lt Y5.out.lt)).mono (by omega))
      rw [← hW9]
      clear u0 u1 u2 u3 u4 u5 z0 z1 z2 z3 z4 z5 hW9
      have y0 := Y9.out.cell 0 rfl; have y1 := Y9.out.cell 1 rfl; have y2 := Y9.out.cell 2 rfl; have y3 := Y9.out.cell 3 rfl; have y4 := Y9.out.cell 4 rfl; have y5 := Y9.out.cell 5 rfl
      refine bodyPost_ret (v := .tuple #[.agg #[.int .i64 0, .int .i64 0, .int .i64 0, .bool false, .int .i64 0, .int .i64 0], .int .i64 4]) (by simp [results, Try.results18, go_sem, y0, y1, y2, y3, y4, y5]) rfl ?_
      exact ⟨by rw [HE.out]; rfl, hb9⟩
    | true =>
      have s0 := X5.out.cell 0 rfl; have s1 := X5.out.cell 1 rfl; have s2 := X5.out.cell 2 rfl; have s3 := X5.out.cell 3 rfl; have s4 := X5.out.cell 4 rfl; have s5 := X5.out.cell 5 rfl
      have u0 := Y5.out.cell 0 rfl; have u1 := Y5.out.cell 1 rfl; have u2 := Y5.out.cell 2 rfl; have u3 := Y5.out.cell 3 rfl; have u4 := Y5.out.cell 4 rfl; have u5 := Y5.out.cell 5 rfl
      have z0 := Y5.out.frozen 0; have z1 := Y5.out.frozen 1; have z2 := Y5.out.frozen 2; have z3 := Y5.out.frozen 3; have z4 := Y5.out.frozen 4; have z5 := Y5.out.frozen 5
      go_wp2
      obtain ⟨W9, hW9⟩ : ∃ W9, W9 = ((((((w5.setCell ⟨w.heap.size + 1, 0, none⟩ (.int .i64 d0)).setCell ⟨w.heap.size + 1, 1, none⟩ (.int .i64 d1)).setCell ⟨w.heap.size + 1, 2, none⟩ (.int .i64 d2)).setCell ⟨w.heap.size + 1, 3, none⟩ (.bool true)).setCell ⟨w.heap.size + 1, 4, none⟩ (.int .i64 mn)).setCell ⟨w.heap.size + 1, 5, none⟩ (.int .i64 hr)) := ⟨_, rfl⟩
      have BW9 : Btw (w.heap.size + 1) (w.heap.size + 1 + 1) w5 W9 := by rw [hW9]; exact (Btw.refl _ _ _).put.put.put.put.put.put
      have Y9 : Hid (Box W9 (w.heap.size + 1) 24 #[.int .i64 d0, .int .i64 d1, .int .i64 d2, .bool true, .int .i64 mn, .int .i64 hr]) := Lib.hid (by rw [hW9]; exact (Y5.out.all6 rfl _ _ _ _ _ _))
      have hb9 := hb5.trans ((BW9.below (Nat.le_of_lt Y5.out.lt)).mono (by omega))
      rw [← hW9]
      have y0 := Y9.out.cell 0 rfl; have y1 := Y9.out.cell 1 rfl; have y2 := Y9.out.cell 2 rfl; have y3 := Y9.out.cell 3 rfl; have y4 := Y9.out.cell 4 rfl; have y5 := Y9.out.cell 5 rfl
      refine bodyPost_ret (v := .tuple #[.agg #[.int .i64 d0, .int .i64 d1, .int .i64 d2, .bool true, .int .i64 mn, .int .i64 hr], .int .i64 0]) (by simp [results, Try.results18, go_sem, y0, y1, y2, y3, y4, y5]) rfl ?_
      exact ⟨by rw [HE.out]; rfl, hb9⟩

end Go.Proofs.Ytophgbjbinaekaa

/- The laws' own functions over Rtc, on leaves. Written by gen_t.py. -/
namespace Go.Proofs.Ytophgbjbinaekaa
open Go.RowKit

set_option maxRecDepth 100000 in
set_option maxHeartbeats 4000000 in
theorem toRtcA (d0 : Int) (d1 : Int) (d2 : Int) (d3 : Bool) (d4 : Int) (d5 : Int) (w : World) :
    Calls Try.prog 23 #[.agg #[.int .i64 d0, .int .i64 d1, .int .i64 d2, .bool d3, .int .i64 d4, .int .i64 d5]] w (fun e w' => e = .returned (.agg #[.int .i64 d0, .int .i64 d1, .int .i64 d2, .bool d3, .int .i64 d4, .int .i64 d5]) ∧ Below w.heap.size w w') := by
  go_enter Try.func23, Try.ntmps23
  go_wp2
  refine bodyPost_ret (v := .agg #[.int .i64 d0, .int .i64 d1, .int .i64 d2, .bool d3, .int .i64 d4, .int .i64 d5]) (by simp [results, Try.results23, go_sem]) rfl ?_
  exact ⟨rfl, ((((Below.refl _ _).alloc (Nat.le_refl _) _).alloc (by simp) _).alloc (by simp; omega) _)⟩

set_option maxRecDepth 100000 in
set_option maxHeartbeats 4000000 in
theorem eqRtcA (d0 : Int) (d1 : Int) (d2 : Int) (d3 : Bool) (d4 : Int) (d5 : Int) (w : World) :
    Calls Try.prog 25 #[.agg #[.int .i64 d0, .int .i64 d1, .int .i64 d2, .bool d3, .int .i64 d4, .int .i64 d5], .agg #[.int .i64 d0, .int .i64 d1, .int .i64 d2, .bool d3, .int .i64 d4, .int .i64 d5]] w fun e w' => e = .returned (.bool true) ∧ Below w.heap.size w w' := by
  obtain ⟨W0, hW0⟩ : ∃ W0, W0 = ((w.alloc (.cells #[.int .i64 d0, .int .i64 d1, .int .i64 d2, .bool d3, .int .i64 d4, .int .i64 d5] 24)).alloc (.cells #[.int .i64 d0, .int .i64 d1, .int .i64 d2, .bool d3, .int .i64 d4, .int .i64 d5] 24)) := ⟨_, rfl⟩
  have hb0 : Below w.heap.size w W0 := by rw [hW0]; exact ((Below.refl _ _).alloc (Nat.le_refl _) _).alloc (by simp) _
  have X0 : Hid (Box W0 w.heap.size 24 #[.int .i64 d0, .int .i64 d1, .int .i64 d2, .bool d3, .int .i64 d4, .int .i64 d5]) := Lib.hid (by rw [hW0]; exact (Box.new _ _ _).alloc _)
  have Y0 : Hid (Box W0 (w.heap.size + 1) 24 #[.int .i64 d0, .int .i64 d1, .int .i64 d2, .bool d3, .int .i64 d4, .int .i64 d5]) := Lib.hid (by rw [hW0]; simpa using Box.new (w.alloc (.cells #[.int .i64 d0, .int .i64 d1, .int .i64 d2, .bool d3, .int .i64 d4, .int .i64 d5] 24)) 24 #[.int .i64 d0, .int .i64 d1, .int .i64 d2, .bool d3, .int .i64 d4, .int .i64 d5])
  have HW0 := Lib.hid hW0
  have hq0 : (d0 != d0) = false := by simp
  have hq1 : (d1 != d1) = false := by simp
  have hq2 : (d2 != d2) = false := by simp
  have hq3 : (d3 != d3) = false := by simp
  have hq4 : (d4 != d4) = false := by simp
  have hq5 : (d5 != d5) = false := by simp
  clear hW0
  go_enter Try.func25, Try.ntmps25
  go_wp2
  rw [← HW0.out]
  go_ret
  exact ⟨rfl, hb0⟩

end Go.Proofs.Ytophgbjbinaekaa

/- Lengths and sizes of leaves, leaf by leaf. -/
namespace Go.Proofs.Ytophgbjbinaekaa
open Go.RowKit
end Go.Proofs.Ytophgbjbinaekaa

/- The laws' own functions over Channel, on leaves. Written by gen_t.py. -/
namespace Go.Proofs.Ytophgbjbinaekaa
open Go.RowKit

end Go.Proofs.Ytophgbjbinaekaa

/- A disk that came in, opened: its two slices as lists. Nothing here walks. -/
namespace Go.Proofs.Ytophgbjbinaekaa
open Go.RowKit Go.ChangeShapes Go.WideShapes

section
variable {H : Type} {enc : TypeId × Value → H} {P : Program} {w : World} {spare : Nat → Bool} {held : Bool}

end

set_option maxRecDepth 100000 in
theorem cellsInt : Try.prog.cellsOf 3 = 1 := by kernel_rfl
end Go.Proofs.Ytophgbjbinaekaa

/- Slices of Channel: rows of 4 cells, as lists; the laws' own functions over them. Written by gen_r.py. -/
namespace Go.Proofs.Ytophgbjbinaekaa
open Go.RowKit Go.ChangeShapes Go.WideShapes

abbrev TChannel := Int × Int × Int × Int
def zChannel : TChannel := (0, 0, 0, 0)
def rowChannel (x : TChannel) : List Value := [.int .i64 (x.1), .int .i64 (x.2.1), .int .i64 (x.2.2.1), .int .i64 (x.2.2.2)]
theorem rowChannel_at (rs : List TChannel) (i : Nat) (h : i < rs.length) : (rs.map rowChannel).getD i [] = rowChannel (rs.getD i zChannel) := by
  simp [List.getD_eq_getElem?_getD, h]
def RowChannel (w : World) (A : Option Addr) (rs : List TChannel) : Prop := RowL w A 4 (rs.map rowChannel)
theorem RowChannel.below {w w' : World} {A : Option Addr} {rs : List TChannel} (h : RowChannel w A rs) (hb : Below w.heap.size w w') : RowChannel w' A rs := RowL.below h hb
theorem RowChannel.at {w : World} {A : Option Addr} {rs : List TChannel} (h : RowChannel w A rs) (i : Nat) (hi : i < rs.length) : ∃ b off, A = some ⟨b, off, none⟩ ∧ w.cell? ⟨b, off + i * 4, none⟩ = some (.int .i64 (rs.getD i zChannel).1) ∧ w.cell? ⟨b, off + i * 4 + 1, none⟩ = some (.int .i64 (rs.getD i zChannel).2.1) ∧ w.cell? ⟨b, off + i * 4 + 2, none⟩ = some (.int .i64 (rs.getD i zChannel).2.2.1) ∧ w.cell? ⟨b, off + i * 4 + 3, none⟩ = some (.int .i64 (rs.getD i zChannel).2.2.2) := by
  have hr := rowChannel_at rs i hi
  obtain ⟨b0, o0, e0, h0⟩ := h i (by simpa using hi) 0 (by decide)
  rw [hr] at h0
  obtain ⟨b1, o1, e1, h1⟩ := h i (by simpa using hi) 1 (by decide)
  rw [hr] at h1
  obtain ⟨b2, o2, e2, h2⟩ := h i (by simpa using hi) 2 (by decide)
  rw [hr] at h2
  obtain ⟨b3, o3, e3, h3⟩ := h i (by simpa using hi) 3 (by decide)
  rw [hr] at h3
  subst e0
  injection e1 with e1
  injection e1 with p1 q1 _
  subst p1 q1
  injection e2 with e2
  injection e2 with p2 q2 _
  subst p2 q2
  injection e3 with e3
  injection e3 with p3 q3 _
  subst p3 q3
  exact ⟨b0, o0, rfl, h0, h1, h2, h3⟩
end Go.Proofs.Ytophgbjbinaekaa

/- The laws' own functions over Timer, on leaves. Written by gen_t.py. -/
namespace Go.Proofs.Ytophgbjbinaekaa
open Go.RowKit

end Go.Proofs.Ytophgbjbinaekaa

/- Slices of Timer: rows of 3 cells, as lists; the laws' own functions over them. Written by gen_r.py. -/
namespace Go.Proofs.Ytophgbjbinaekaa
open Go.RowKit Go.ChangeShapes Go.WideShapes

abbrev TTimer := Int × Int × Bool
def zTimer : TTimer := (0, 0, false)
def rowTimer (x : TTimer) : List Value := [.int .i64 (x.1), .int .i64 (x.2.1), .bool (x.2.2)]
theorem rowTimer_at (rs : List TTimer) (i : Nat) (h : i < rs.length) : (rs.map rowTimer).getD i [] = rowTimer (rs.getD i zTimer) := by
  simp [List.getD_eq_getElem?_getD, h]
def RowTimer (w : World) (A : Option Addr) (rs : List TTimer) : Prop := RowL w A 3 (rs.map rowTimer)
theorem RowTimer.below {w w' : World} {A : Option Addr} {rs : List TTimer} (h : RowTimer w A rs) (hb : Below w.heap.size w w') : RowTimer w' A rs := RowL.below h hb
theorem RowTimer.at {w : World} {A : Option Addr} {rs : List TTimer} (h : RowTimer w A rs) (i : Nat) (hi : i < rs.length) : ∃ b off, A = some ⟨b, off, none⟩ ∧ w.cell? ⟨b, off + i * 3, none⟩ = some (.int .i64 (rs.getD i zTimer).1) ∧ w.cell? ⟨b, off + i * 3 + 1, none⟩ = some (.int .i64 (rs.getD i zTimer).2.1) ∧ w.cell? ⟨b, off + i * 3 + 2, none⟩ = some (.bool (rs.getD i zTimer).2.2) := by
  have hr := rowTimer_at rs i hi
  obtain ⟨b0, o0, e0, h0⟩ := h i (by simpa using hi) 0 (by decide)
  rw [hr] at h0
  obtain ⟨b1, o1, e1, h1⟩ := h i (by simpa using hi) 1 (by decide)
  rw [hr] at h1
  obtain ⟨b2, o2, e2, h2⟩ := h i (by simpa using hi) 2 (by decide)
  rw [hr] at h2
  subst e0
  injection e1 with e1
  injection e1 with p1 q1 _
  subst p1 q1
  injection e2 with e2
  injection e2 with p2 q2 _
  subst p2 q2
  exact ⟨b0, o0, rfl, h0, h1, h2⟩
end Go.Proofs.Ytophgbjbinaekaa

/- A []bool that came in, opened. -/
namespace Go.Proofs.Ytophgbjbinaekaa
open Go.RowKit Go.ChangeShapes Go.WideShapes

set_option maxRecDepth 100000 in
theorem cellsBool : Try.prog.cellsOf 4 = 1 := by kernel_rfl
end Go.Proofs.Ytophgbjbinaekaa

/- What came in, opened into leaves. Written by gen_open.py. -/
namespace Go.Proofs.Ytophgbjbinaekaa
open Go.RowKit Go.ChangeShapes Go.WideShapes
section
variable {H : Type} {enc : TypeId × Value → H} {W : World} {spare : Nat → Bool} {held : Bool}
theorem at_field {P : Program} {n : Nat} {fs : Array Field} {cs : List Value} {xs : List (DataW H × List MemPlace)} (hf : ∀ (i : Nat) (f : Field), fs[i]? = some f → DataW.trod enc P W 0 spare held n f.type (List.take (P.cellsOf f.type) (List.drop f.offset cs)) = xs[i]?) (hlen : xs.length = fs.size) (i : Nat) (f : Field) (hi : fs[i]? = some f) (k : Nat) (hk : P.cellsOf f.type = k) : ∃ y, DataW.trod enc P W 0 spare held n f.type (List.take k (List.drop f.offset cs)) = some y := by
  have h := hf i f hi
  have hlt : i < fs.size := (Array.getElem?_eq_some_iff.1 hi).1
  rw [hk, List.getElem?_eq_getElem (by omega)] at h
  exact ⟨_, h⟩
end
theorem list6 {l : List Value} (h : l.length = 6) : ∃ c0 c1 c2 c3 c4 c5 : Value, l = [c0, c1, c2, c3, c4, c5] := by
  match l, h with
  | [c0, c1, c2, c3, c4, c5], _ => exact ⟨c0, c1, c2, c3, c4, c5, rfl⟩
set_option maxRecDepth 100000 in
theorem cellsLRtc : Try.prog.cellsOf 38 = 6 := by kernel_rfl
set_option maxRecDepth 100000 in
theorem opencRtc {H : Type} {enc : TypeId × Value → H} {W : World} {spare : Nat → Bool} {held : Bool} {fuel : Nat} {cs : List Value} {x : DataW H × List MemPlace} (h : DataW.trod enc Try.prog W 0 spare held fuel 38 cs = some x) :
    ∃ (d0 : Int) (d1 : Int) (d2 : Int) (d3 : Bool) (d4 : Int) (d5 : Int), cs = [.int .i64 d0, .int .i64 d1, .int .i64 d2, .bool d3, .int .i64 d4, .int .i64 d5] ∧ RepA W [] [] ∧ FitA [] := by
  obtain ⟨xs, n, _, rfl, hl, hlen, hf⟩ := DataW.trod_struct Try.underlying38 h
  obtain ⟨c0, c1, c2, c3, c4, c5, rfl⟩ := list6 (hl.trans cellsLRtc)
  obtain ⟨y0, h0⟩ : ∃ y, DataW.trod enc Try.prog W 0 spare held n 3 [c0] = some y := at_field hf hlen 0 _ rfl 1 cellsInt
  obtain ⟨d0, e0, _, _⟩ := DataW.trod_int Try.underlying3 h0
  injection e0 with e0 _
  subst e0
  obtain ⟨y1, h1⟩ : ∃ y, DataW.trod enc Try.prog W 0 spare held n 3 [c1] = some y := at_field hf hlen 1 _ rfl 1 cellsInt
  obtain ⟨d1, e1, _, _⟩ := DataW.trod_int Try.underlying3 h1
  injection e1 with e1 _
  subst e1
  obtain ⟨y2, h2⟩ : ∃ y, DataW.trod enc Try.prog W 0 spare held n 3 [c2] = some y := at_field hf hlen 2 _ rfl 1 cellsInt
  obtain ⟨d2, e2, _, _⟩ := DataW.trod_int Try.underlying3 h2
  injection e2 with e2 _
  subst e2
  obtain ⟨y3, h3⟩ : ∃ y, DataW.trod enc Try.prog W 0 spare held n 4 [c3] = some y := at_field hf hlen 3 _ rfl 1 cellsBool
  obtain ⟨d3, e3, _⟩ := DataW.trod_bool Try.underlying4 h3
  injection e3 with e3 _
  subst e3
  obtain ⟨y4, h4⟩ : ∃ y, DataW.trod enc Try.prog W 0 spare held n 3 [c4] = some y := at_field hf hlen 4 _ rfl 1 cellsInt
  obtain ⟨d4, e4, _, _⟩ := DataW.trod_int Try.underlying3 h4
  injection e4 with e4 _
  subst e4
  obtain ⟨y5, h5⟩ : ∃ y, DataW.trod enc Try.prog W 0 spare held n 3 [c5] = some y := at_field hf hlen 5 _ rfl 1 cellsInt
  obtain ⟨d5, e5, _, _⟩ := DataW.trod_int Try.underlying3 h5
  injection e5 with e5 _
  subst e5
  refine ⟨d0, d1, d2, d3, d4, d5, rfl, trivial, ?_⟩
  intro d hd
  cases hd
set_option maxRecDepth 100000 in
theorem openRtc {H : Type} {enc : TypeId × Value → H} {W : World} {r : Reach} {b0 : Nat} {v : Value} {d : DataW H} {p : List MemPlace} (hv : Value.okWide Try.prog W r b0 38 v) (h : DataW.Trod enc Try.prog W 0 (fun _ => true) true 38 v d p) :
    ∃ (d0 : Int) (d1 : Int) (d2 : Int) (d3 : Bool) (d4 : Int) (d5 : Int), v = .agg #[.int .i64 d0, .int .i64 d1, .int .i64 d2, .bool d3, .int .i64 d4, .int .i64 d5] ∧ RepA W [] [] ∧ FitA [] := by
  obtain ⟨cs, rfl, _⟩ := okWide_struct Try.underlying38 hv
  obtain ⟨fuel, hf⟩ := h
  obtain ⟨d0, d1, d2, d3, d4, d5, e, R, G⟩ := opencRtc hf
  refine ⟨d0, d1, d2, d3, d4, d5, ?_, R, G⟩
  congr 1
  apply Array.ext'
  simpa [Value.cells] using e
end Go.Proofs.Ytophgbjbinaekaa
