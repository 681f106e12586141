/- Texts of this claim, one behind the other: Mem, EqDisk, Own, ToDisk, Ints, SzDisk, IntsMore, Mark, BoxDisk, Bools, OkDisk, GenA, GenB, GenC, RtcOk, RtcTick, Settle, Flush, Crash, Src, Draw, SrcMore, App, RegFacts, RegSets. -/
import Derived.WalkKit
import Derived.WalkSpells
import Derived.Lib.Hide
import Derived.Below
import Derived.WalkSmall
import Derived.Test.YtophgbjbinaekaaRows
import Derived.Deep.QuietTactic
import Derived.BigQuiet
import Derived.StillTailTactics
import Derived.Deep.OwnRows
import Derived.Deep.RegionHeld3
import Derived.Laws.IdiomStrings
import Derived.IntWalk
import Derived.BigRegion
import Derived.Laws.CopyOwn
import Derived.OwnWalk
import Derived.Laws.OwnMore
import Derived.WalkLawsBesides
import Derived.Laws.AppendOwn
/- Words for memory: slices of strings, of writes, of integers as lists; what keeps them. Nothing here is of one program. -/
namespace Go.Proofs.Ytophgbjbinaekaa
open Go.RowKit

def StrL (w : World) (A : Option Addr) (ss : List ByteArray) : Prop :=
  ∀ i, i < ss.length → ∃ b off, A = some ⟨b, off, none⟩ ∧ w.cell? ⟨b, off + i, none⟩ = some (.string (ss.getD i ByteArray.empty))
def WrL (w : World) (A : Option Addr) (ws : List (Int × ByteArray)) : Prop :=
  ∀ i, i < ws.length → ∃ b off, A = some ⟨b, off, none⟩ ∧ w.cell? ⟨b, off + i * 2, none⟩ = some (.int .i64 (ws.getD i (0, ByteArray.empty)).1) ∧
    w.cell? ⟨b, off + i * 2 + 1, none⟩ = some (.string (ws.getD i (0, ByteArray.empty)).2)
def IntL (w : World) (A : Option Addr) (zs : List Int) : Prop :=
  ∀ i, i < zs.length → ∃ b off, A = some ⟨b, off, none⟩ ∧ w.cell? ⟨b, off + i, none⟩ = some (.int .i64 (zs.getD i 0))

theorem cell_lt {w : World} {p : Addr} {v : Value} (h : w.cell? p = some v) : p.block < w.heap.size := by
  rcases Nat.lt_or_ge p.block w.heap.size with h1 | h1
  · exact h1
  · unfold World.cell? at h
    rw [Array.getElem?_eq_none h1] at h
    cases h

def Keep (keep : Nat → Prop) (w w' : World) : Prop := ∀ p : Addr, keep p.block → p.block < w.heap.size → w'.cell? p = w.cell? p

theorem Keep.of_below {B : Nat} {w w' : World} (h : Below B w w') : Keep (fun b => b < B) w w' := fun _ hp _ => h.cell hp

theorem StrL.below {w w' : World} {A : Option Addr} {ss : List ByteArray} (h : StrL w A ss) (hb : Below w.heap.size w w') : StrL w' A ss := fun i hi => by
  obtain ⟨b, off, e, hc⟩ := h i hi
  exact ⟨b, off, e, (hb.cell (cell_lt hc)).trans hc⟩
theorem WrL.below {w w' : World} {A : Option Addr} {ws : List (Int × ByteArray)} (h : WrL w A ws) (hb : Below w.heap.size w w') : WrL w' A ws := fun i hi => by
  obtain ⟨b, off, e, hc, hd⟩ := h i hi
  exact ⟨b, off, e, (hb.cell (cell_lt hc)).trans hc, (hb.cell (cell_lt hd)).trans hd⟩
theorem IntL.below {w w' : World} {A : Option Addr} {zs : List Int} (h : IntL w A zs) (hb : Below w.heap.size w w') : IntL w' A zs := fun i hi => by
  obtain ⟨b, off, e, hc⟩ := h i hi
  exact ⟨b, off, e, (hb.cell (cell_lt hc)).trans hc⟩

theorem bt {a b c : World} (h : Below a.heap.size a b) (k : Below b.heap.size b c) : Below a.heap.size a c := h.trans (k.mono h.size)

theorem ret_bool {a b : Bool} (h : a = b) : Ending.returned (.bool a) = .returned (.bool b) := by rw [h]
end Go.Proofs.Ytophgbjbinaekaa

/- Contracts of the comparisons: eqStringS, eqWrite, eqWriteS, eqDisk. -/
namespace Go.Proofs.Ytophgbjbinaekaa
open Go.RowKit

end Go.Proofs.Ytophgbjbinaekaa

/- Slices in memory of the call's own: rows between two block numbers; what a call that writes only there keeps. -/
namespace Go.Proofs.Ytophgbjbinaekaa
open Go.RowKit

structure Btw (lo hi : Nat) (w w' : World) : Prop where
  os : w'.os = w.os
  tape : w'.tape = w.tape
  output : w'.output = w.output
  size : w.heap.size ≤ w'.heap.size
  block : ∀ k, k < w.heap.size → k < lo ∨ hi ≤ k → w'.heap[k]? = w.heap[k]?

theorem Btw.refl (lo hi : Nat) (w : World) : Btw lo hi w w := ⟨rfl, rfl, rfl, Nat.le_refl _, fun _ _ _ => rfl⟩
theorem Btw.trans {lo hi : Nat} {a b c : World} (h : Btw lo hi a b) (k : Btw lo hi b c) : Btw lo hi a c :=
  ⟨k.os.trans h.os, k.tape.trans h.tape, k.output.trans h.output, Nat.le_trans h.size k.size, fun i hi' ho => (k.block i (Nat.lt_of_lt_of_le hi' h.size) ho).trans (h.block i hi' ho)⟩
theorem Btw.of_below {w w' : World} (h : Below w.heap.size w w') (lo hi : Nat) : Btw lo hi w w' := ⟨h.os, h.tape, h.output, h.size, fun k hk _ => h.block k hk⟩
theorem Btw.below {lo hi : Nat} {w w' : World} (h : Btw lo hi w w') (hl : lo ≤ w.heap.size) : Below lo w w' := ⟨h.os, h.tape, h.output, h.size, fun k hk => h.block k (Nat.lt_of_lt_of_le hk hl) (.inl hk)⟩
theorem Btw.drewN {lo hi : Nat} {a w : World} (h : Btw lo hi a w) (n : Nat) : Btw lo hi a (w.drewN n) := ⟨h.os, h.tape, h.output, h.size, h.block⟩
theorem Btw.drew {lo hi : Nat} {a w : World} (h : Btw lo hi a w) : Btw lo hi a w.drew := ⟨h.os, h.tape, h.output, h.size, h.block⟩
theorem Btw.alloc {lo hi : Nat} {a w : World} (h : Btw lo hi a w) (o : Obj) : Btw lo hi a (w.alloc o) := h.trans (Btw.of_below ((Below.refl _ _).alloc (Nat.le_refl _) o) lo hi)
theorem Btw.setCell {lo hi : Nat} {a w : World} (h : Btw lo hi a w) {p : Addr} (h1 : lo ≤ p.block) (h2 : p.block < hi) (u : Value) : Btw lo hi a (w.setCell p u) :=
  ⟨h.os, h.tape, h.output, by simpa [World.setCell] using h.size, fun k hk ho => (Below.heap_setCell w p u k (by omega)).trans (h.block k hk ho)⟩
theorem Btw.put {b : Nat} {a w : World} (h : Btw b (b + 1) a w) {i : Nat} {v : Value} : Btw b (b + 1) a (w.setCell ⟨b, i, none⟩ v) := h.setCell (Nat.le_refl _) (Nat.lt_succ_self _) v
theorem Btw.cell {lo hi : Nat} {w w' : World} (h : Btw lo hi w w') {p : Addr} {v : Value} (hc : w.cell? p = some v) (ho : p.block < lo ∨ hi ≤ p.block) : w'.cell? p = some v :=
  (World.cell?_of_block (w := w) (h.block p.block (cell_lt hc) ho)).trans hc
theorem Btw.row {lo hi : Nat} {w w' : World} (h : Btw lo hi w w') {b : Nat} {t : TypeId} {n : Nat} {f : Nat → Value} (hr : w.rowIs b t n f) (ho : b < lo ∨ hi ≤ b) : w'.rowIs b t n f :=
  hr.of_block (h.block b hr.lt ho)
theorem row_below {B : Nat} {w w' : World} (h : Below B w w') {b : Nat} {t : TypeId} {n : Nat} {f : Nat → Value} (hr : w.rowIs b t n f) (ho : b < B) : w'.rowIs b t n f := hr.of_block (h.block b ho)
def OwnS (w : World) (lo hi : Nat) (A : Option Addr) (ss : List ByteArray) : Prop :=
  ss = [] ∨ ∃ b m f, A = some ⟨b, 0, none⟩ ∧ lo ≤ b ∧ b < hi ∧ ss.length ≤ m ∧ w.rowIs b 9 m f ∧ ∀ i, i < ss.length → f i = .string (ss.getD i ByteArray.empty)
def OwnI (w : World) (lo hi : Nat) (A : Option Addr) (zs : List Int) : Prop :=
  zs = [] ∨ ∃ b m f, A = some ⟨b, 0, none⟩ ∧ lo ≤ b ∧ b < hi ∧ zs.length ≤ m ∧ w.rowIs b 3 m f ∧ ∀ i, i < zs.length → f i = .int .i64 (zs.getD i 0)

theorem OwnS.reads {w : World} {lo hi : Nat} {A : Option Addr} {ss : List ByteArray} (h : OwnS w lo hi A ss) : StrL w A ss := fun i hi' => by
  rcases h with rfl | ⟨b, m, f, e, _, _, hm, hr, hf⟩
  · simp at hi'
  · exact ⟨b, 0, e, by rw [← hf i hi', Nat.zero_add]; exact hr.cell (by omega)⟩
theorem OwnI.reads {w : World} {lo hi : Nat} {A : Option Addr} {zs : List Int} (h : OwnI w lo hi A zs) : IntL w A zs := fun i hi' => by
  rcases h with rfl | ⟨b, m, f, e, _, _, hm, hr, hf⟩
  · simp at hi'
  · exact ⟨b, 0, e, by rw [← hf i hi', Nat.zero_add]; exact hr.cell (by omega)⟩
theorem OwnS.btw {w w' : World} {lo hi l h' : Nat} {A : Option Addr} {ss : List ByteArray} (h : OwnS w lo hi A ss) (hb : Btw l h' w w') (ho : hi ≤ l ∨ h' ≤ lo) : OwnS w' lo hi A ss := by
  rcases h with e | ⟨b, m, f, e, h1, h2, hm, hr, hf⟩
  · exact .inl e
  · exact .inr ⟨b, m, f, e, h1, h2, hm, hb.row hr (by omega), hf⟩
theorem OwnI.btw {w w' : World} {lo hi l h' : Nat} {A : Option Addr} {zs : List Int} (h : OwnI w lo hi A zs) (hb : Btw l h' w w') (ho : hi ≤ l ∨ h' ≤ lo) : OwnI w' lo hi A zs := by
  rcases h with e | ⟨b, m, f, e, h1, h2, hm, hr, hf⟩
  · exact .inl e
  · exact .inr ⟨b, m, f, e, h1, h2, hm, hb.row hr (by omega), hf⟩
theorem OwnS.below {w w' : World} {lo hi : Nat} {A : Option Addr} {ss : List ByteArray} (h : OwnS w lo hi A ss) (hb : Below w.heap.size w w') : OwnS w' lo hi A ss := h.btw (Btw.of_below hb hi hi) (.inl (Nat.le_refl _))
theorem OwnI.below {w w' : World} {lo hi : Nat} {A : Option Addr} {zs : List Int} (h : OwnI w lo hi A zs) (hb : Below w.heap.size w w') : OwnI w' lo hi A zs := h.btw (Btw.of_below hb hi hi) (.inl (Nat.le_refl _))
theorem StrL.btw {lo hi : Nat} {w w' : World} {A : Option Addr} {ss : List ByteArray} (h : StrL w A ss) (hb : Btw lo hi w w') (hB : w.heap.size ≤ lo) : StrL w' A ss := fun i hi' => by
  obtain ⟨b, off, e, hc⟩ := h i hi'
  exact ⟨b, off, e, hb.cell hc (.inl (Nat.lt_of_lt_of_le (cell_lt hc) hB))⟩

def Box (w : World) (b : Nat) (t : TypeId) (cs : Array Value) : Prop := w.heap[b]? = some (.cells cs t (0, 0))
theorem Box.cell {w : World} {b : Nat} {t : TypeId} {cs : Array Value} (h : Box w b t cs) (i : Nat) {v : Value} (hv : cs[i]? = some v) : w.cell? ⟨b, i, none⟩ = some v := by
  unfold Box at h; simp [World.cell?, h, hv]
theorem Box.frozen {w : World} {b : Nat} {t : TypeId} {cs : Array Value} (h : Box w b t cs) (i : Nat) : w.frozen? ⟨b, i, none⟩ = false := by
  unfold Box at h; simp [World.frozen?, h]
theorem Box.lt {w : World} {b : Nat} {t : TypeId} {cs : Array Value} (h : Box w b t cs) : b < w.heap.size := by
  obtain ⟨hlt, _⟩ := Array.getElem?_eq_some_iff.1 h
  exact hlt
theorem Box.below {w w' : World} {B b : Nat} {t : TypeId} {cs : Array Value} (h : Box w b t cs) (hb : Below B w w') (hB : b < B) : Box w' b t cs := (hb.block b hB).trans h
theorem Box.step {w w' : World} {b : Nat} {t : TypeId} {cs : Array Value} (h : Box w b t cs) (hb : Below w.heap.size w w') : Box w' b t cs := h.below hb h.lt
theorem Box.btw {w w' : World} {lo hi b : Nat} {t : TypeId} {cs : Array Value} (h : Box w b t cs) (hb : Btw lo hi w w') (ho : b < lo ∨ hi ≤ b) : Box w' b t cs := (hb.block b h.lt ho).trans h
theorem Box.new (w : World) (t : TypeId) (cs : Array Value) : Box (w.alloc (.cells cs t)) w.heap.size t cs := by
  show (w.heap.push _)[w.heap.size]? = _; simp
theorem Box.alloc {w : World} {b : Nat} {t : TypeId} {cs : Array Value} (h : Box w b t cs) (o : Obj) : Box (w.alloc o) b t cs := h.step ((Below.refl _ _).alloc (Nat.le_refl _) o)
theorem Box.set {w : World} {b : Nat} {t : TypeId} {cs : Array Value} (h : Box w b t cs) (i : Nat) (u : Value) : Box (w.setCell ⟨b, i, none⟩ u) b t (cs.setIfInBounds i u) := by
  unfold Box at h ⊢
  simp [World.setCell, Array.getElem?_modify, h]
theorem Box.drewN {w : World} {b : Nat} {t : TypeId} {cs : Array Value} (h : Box w b t cs) (n : Nat) : Box (w.drewN n) b t cs := h
theorem Box.drew {w : World} {b : Nat} {t : TypeId} {cs : Array Value} (h : Box w b t cs) : Box w.drew b t cs := h
theorem Box.row {w : World} {b : Nat} {t : TypeId} {cs : Array Value} (h : Box w b t cs) (f : Nat → Value) (hf : ∀ i, i < cs.size → cs[i]? = some (f i)) : w.rowIs b t cs.size f := ⟨cs, h, rfl, hf⟩
end Go.Proofs.Ytophgbjbinaekaa

/- Contracts of the copies: toStringS, toWrite, toWriteS, toDisk. -/
namespace Go.Proofs.Ytophgbjbinaekaa
open Go.RowKit

end Go.Proofs.Ytophgbjbinaekaa

/- Contracts of toIntS, eqIntS, markIntS. -/
namespace Go.Proofs.Ytophgbjbinaekaa
open Go.RowKit

end Go.Proofs.Ytophgbjbinaekaa

/- Contracts of the measures: szStringS, szWrite, szWriteS, szDisk: what is left, or -1. -/
namespace Go.Proofs.Ytophgbjbinaekaa
open Go.RowKit

def Left (left : Int) (used : Nat) (w : World) (e : Ending) (w' : World) : Prop :=
  (e = .returned (.int .i64 (-1)) ∨ e = .returned (.int .i64 (left - used)) ∧ (used : Int) ≤ left) ∧ Below w.heap.size w w'

end Go.Proofs.Ytophgbjbinaekaa

/- Contracts of szIntS, of markIntS with what it leaves, of heldIntS. -/
namespace Go.Proofs.Ytophgbjbinaekaa
open Go.RowKit

def marksI (k n : Nat) : List Int := (List.range n).map fun i => ((k + i : Nat) : Int)
end Go.Proofs.Ytophgbjbinaekaa

/- Contracts of the marks: markText, markStringS, heldStringS, markWriteS, heldWriteS, markDisk, heldDisk. -/
namespace Go.Proofs.Ytophgbjbinaekaa
open Go.RowKit

def mkDig (j : Nat) : ByteArray := ⟨#[UInt8.ofNat (48 + j % 10)]⟩
def mkGo : Nat → Nat → ByteArray → ByteArray
  | 0, _, o => o
  | f + 1, j, o => if j = 0 then o else mkGo f (j / 10) (mkDig j ++ o)
def mkText (k : Nat) : ByteArray := ⟨#[109]⟩ ++ mkGo k k ByteArray.empty
def marksS (k n : Nat) : List ByteArray := (List.range n).map fun i => mkText (k + i)
theorem OwnS.apart {w w' : World} {lo hi l r : Nat} {A : Option Addr} {ss : List ByteArray} (h : OwnS w lo hi A ss) (hb : Btw l r w w') (ha : ∀ b n f, w.rowIs b 9 n f → b < l ∨ r ≤ b) : OwnS w' lo hi A ss := by
  rcases h with e | ⟨b, m, f, e, q1, q2, q3, q4, q5⟩
  · exact .inl e
  · exact .inr ⟨b, m, f, e, q1, q2, q3, hb.row q4 (ha b m f q4), q5⟩
end Go.Proofs.Ytophgbjbinaekaa

/- A disk of the call's own behind a box: kept over what is new, and over writes elsewhere. -/
namespace Go.Proofs.Ytophgbjbinaekaa
open Go.RowKit

section
variable {w w' : World} {b lo hi : Nat} {A : Option Addr} {n c : Nat} {C : Option Addr} {m d : Nat} {ss : List ByteArray} {ws : List (Int × ByteArray)}
end
theorem alloc_below (w : World) (o : Obj) : Below w.heap.size w (w.alloc o) := (Below.refl _ _).alloc (Nat.le_refl _) o
end Go.Proofs.Ytophgbjbinaekaa

/- Slices of booleans: as lists, of the call's own; contracts of szBoolS, toBoolS, eqBoolS, markBoolS, heldBoolS. -/
namespace Go.Proofs.Ytophgbjbinaekaa
open Go.RowKit

def BoolL (w : World) (A : Option Addr) (gs : List Bool) : Prop :=
  ∀ i, i < gs.length → ∃ b off, A = some ⟨b, off, none⟩ ∧ w.cell? ⟨b, off + i, none⟩ = some (.bool (gs.getD i false))
theorem BoolL.below {w w' : World} {A : Option Addr} {gs : List Bool} (h : BoolL w A gs) (hb : Below w.heap.size w w') : BoolL w' A gs := fun i hi => by
  obtain ⟨b, off, e, hc⟩ := h i hi
  exact ⟨b, off, e, (hb.cell (cell_lt hc)).trans hc⟩
def OwnB (w : World) (lo hi : Nat) (A : Option Addr) (gs : List Bool) : Prop :=
  gs = [] ∨ ∃ b m f, A = some ⟨b, 0, none⟩ ∧ lo ≤ b ∧ b < hi ∧ gs.length ≤ m ∧ w.rowIs b 4 m f ∧ ∀ i, i < gs.length → f i = .bool (gs.getD i false)
theorem OwnB.reads {w : World} {lo hi : Nat} {A : Option Addr} {gs : List Bool} (h : OwnB w lo hi A gs) : BoolL w A gs := fun i hi' => by
  rcases h with rfl | ⟨b, m, f, e, _, _, hm, hr, hf⟩
  · simp at hi'
  · exact ⟨b, 0, e, by rw [← hf i hi', Nat.zero_add]; exact hr.cell (by omega)⟩
theorem OwnB.btw {w w' : World} {lo hi l h' : Nat} {A : Option Addr} {gs : List Bool} (h : OwnB w lo hi A gs) (hb : Btw l h' w w') (ho : hi ≤ l ∨ h' ≤ lo) : OwnB w' lo hi A gs := by
  rcases h with e | ⟨b, m, f, e, h1, h2, hm, hr, hf⟩
  · exact .inl e
  · exact .inr ⟨b, m, f, e, h1, h2, hm, hb.row hr (by omega), hf⟩
theorem OwnB.below {w w' : World} {lo hi : Nat} {A : Option Addr} {gs : List Bool} (h : OwnB w lo hi A gs) (hb : Below w.heap.size w w') : OwnB w' lo hi A gs := h.btw (Btw.of_below hb hi hi) (.inl (Nat.le_refl _))
theorem OwnB.apart {w w' : World} {lo hi l r : Nat} {A : Option Addr} {gs : List Bool} (h : OwnB w lo hi A gs) (hb : Btw l r w w') (ha : ∀ b n f, w.rowIs b 4 n f → b < l ∨ r ≤ b) : OwnB w' lo hi A gs := by
  rcases h with e | ⟨b, m, f, e, q1, q2, q3, q4, q5⟩
  · exact .inl e
  · exact .inr ⟨b, m, f, e, q1, q2, q3, hb.row q4 (ha b m f q4), q5⟩
def marksB (k n : Nat) : List Bool := (List.range n).map fun i => decide ((k + i) % 3 = 0)
end Go.Proofs.Ytophgbjbinaekaa

/- Contracts of the tests: isSector, l01In, a write's and a disk's valid, both DiskOK. -/
namespace Go.Proofs.Ytophgbjbinaekaa
open Go.RowKit

def FitS (ss : List ByteArray) : Prop := ∀ s ∈ ss, s.size ≤ maxLen
def FitW (ws : List (Int × ByteArray)) : Prop := ∀ x ∈ ws, x.2.size ≤ maxLen
theorem FitS.at_ {ss : List ByteArray} (h : FitS ss) (k : Nat) (hk : k < ss.length) : (ss.getD k ByteArray.empty).size ≤ maxLen := h _ (by rw [List.getD_eq_getElem?_getD, List.getElem?_eq_getElem hk]; exact List.getElem_mem _)
theorem FitW.at_ {ws : List (Int × ByteArray)} (h : FitW ws) (k : Nat) (hk : k < ws.length) : (ws.getD k (0, ByteArray.empty)).2.size ≤ maxLen := h _ (by rw [List.getD_eq_getElem?_getD, List.getElem?_eq_getElem hk]; exact List.getElem_mem _)

end Go.Proofs.Ytophgbjbinaekaa

/- Leaves of Go values as data: what a value says, rows of the call's own, what a call that writes into some of them keeps. Nothing here is of one type of the program. -/
namespace Go.Proofs.Ytophgbjbinaekaa
open Go.RowKit

inductive Lf where
  | I (zs : List Int)
  | B (gs : List Bool)
  | S (ss : List ByteArray)
  | R (T : TypeId) (k : Nat) (hk : k ≤ 16) (rows : List (List Value))

def RowL (w : World) (A : Option Addr) (k : Nat) (rows : List (List Value)) : Prop :=
  ∀ i, i < rows.length → ∀ j, j < k → ∃ b off, A = some ⟨b, off, none⟩ ∧ w.cell? ⟨b, off + i * k + j, none⟩ = some ((rows.getD i []).getD j undef)
theorem RowL.below {w w' : World} {A : Option Addr} {k : Nat} {rows : List (List Value)} (h : RowL w A k rows) (hb : Below w.heap.size w w') : RowL w' A k rows := fun i hi j hj => by
  obtain ⟨b, off, e, hc⟩ := h i hi j hj
  exact ⟨b, off, e, (hb.cell (cell_lt hc)).trans hc⟩
def OwnR (w : World) (lo hi : Nat) (T : TypeId) (A : Option Addr) (k : Nat) (rows : List (List Value)) : Prop :=
  rows = [] ∨ ∃ b m f, A = some ⟨b, 0, none⟩ ∧ lo ≤ b ∧ b < hi ∧ rows.length * k ≤ m ∧ w.rowIs b T m f ∧ ∀ i, i < rows.length → ∀ j, j < k → f (i * k + j) = (rows.getD i []).getD j undef
theorem row_place {n k m i j : Nat} (hi : i < n) (hj : j < k) (h : n * k ≤ m) : i * k + j < m := by
  have h1 : (i + 1) * k ≤ n * k := Nat.mul_le_mul_right k hi
  have h2 : (i + 1) * k = i * k + k := Nat.succ_mul i k
  omega
theorem OwnR.reads {w : World} {lo hi : Nat} {T : TypeId} {A : Option Addr} {k : Nat} {rows : List (List Value)} (h : OwnR w lo hi T A k rows) : RowL w A k rows := fun i hi' j hj => by
  rcases h with rfl | ⟨b, m, f, e, _, _, hm, hr, hf⟩
  · simp at hi'
  · exact ⟨b, 0, e, by rw [← hf i hi' j hj, Nat.zero_add]; exact hr.cell (row_place hi' hj hm)⟩
theorem OwnR.btw {w w' : World} {lo hi l h' : Nat} {T : TypeId} {A : Option Addr} {k : Nat} {rows : List (List Value)} (h : OwnR w lo hi T A k rows) (hb : Btw l h' w w') (ho : hi ≤ l ∨ h' ≤ lo) : OwnR w' lo hi T A k rows := by
  rcases h with e | ⟨b, m, f, e, h1, h2, hm, hr, hf⟩
  · exact .inl e
  · exact .inr ⟨b, m, f, e, h1, h2, hm, hb.row hr (by omega), hf⟩
theorem OwnR.below {w w' : World} {lo hi : Nat} {T : TypeId} {A : Option Addr} {k : Nat} {rows : List (List Value)} (h : OwnR w lo hi T A k rows) (hb : Below w.heap.size w w') : OwnR w' lo hi T A k rows := h.btw (Btw.of_below hb hi hi) (.inl (Nat.le_refl _))
def markV (k : Nat) : Value → Value
  | .int _ _ => .int .i64 (k : Int)
  | .bool _ => .bool (decide (k % 3 = 0))
  | .string _ => .string (mkText k)
  | v => v
def markRows (q k : Nat) (rows : List (List Value)) : List (List Value) :=
  (List.range rows.length).map fun i => (List.range k).map fun j => markV (q + i * k + j) ((rows.getD i []).getD j undef)
def Lf.len : Lf → Nat
  | .I zs => zs.length
  | .B gs => gs.length
  | .S ss => ss.length
  | .R _ k _ rows => rows.length * k
def Lf.marks (k : Nat) : Lf → Lf
  | .I zs => .I (marksI k zs.length)
  | .B gs => .B (marksB k gs.length)
  | .S ss => .S (marksS k ss.length)
  | .R T n hn rows => .R T n hn (markRows k n rows)
def RepL (w : World) (v : Value) : Lf → Prop
  | .I zs => ∃ A c, v = .slice A zs.length c ∧ IntL w A zs
  | .B gs => ∃ A c, v = .slice A gs.length c ∧ BoolL w A gs
  | .S ss => ∃ A c, v = .slice A ss.length c ∧ StrL w A ss
  | .R _ k _ rows => ∃ A c, v = .slice A rows.length c ∧ RowL w A k rows
def OwnL (w : World) (lo hi : Nat) (v : Value) : Lf → Prop
  | .I zs => ∃ A c, v = .slice A zs.length c ∧ OwnI w lo hi A zs
  | .B gs => ∃ A c, v = .slice A gs.length c ∧ OwnB w lo hi A gs
  | .S ss => ∃ A c, v = .slice A ss.length c ∧ OwnS w lo hi A ss
  | .R T k _ rows => ∃ A c, v = .slice A rows.length c ∧ OwnR w lo hi T A k rows
def CapL (v : Value) : Prop := ∀ A n c, v = .slice A n c → n ≤ c
def blkL : Value → Option Nat
  | .slice (some a) n _ => if n = 0 then none else some a.block
  | _ => none
theorem blkL_some {b off : Nat} {n c : Nat} (h : 0 < n) : blkL (.slice (some ⟨b, off, none⟩) n c) = some b := by simp [blkL]; omega
theorem blkL_zero (A : Option Addr) (c : Nat) : blkL (.slice A 0 c) = none := by cases A <;> simp [blkL]

def AllA (P : Value → Lf → Prop) : List Value → List Lf → Prop
  | [], [] => True
  | v :: vs, d :: ds => P v d ∧ AllA P vs ds
  | _, _ => False
def RepA (w : World) (vs : List Value) (ds : List Lf) : Prop := AllA (RepL w) vs ds
def OwnA (w : World) (lo hi : Nat) (vs : List Value) (ds : List Lf) : Prop := AllA (OwnL w lo hi) vs ds ∧ (vs.filterMap blkL).Nodup

theorem AllA.imp {P Q : Value → Lf → Prop} : ∀ {vs : List Value} {ds : List Lf}, (∀ v d, v ∈ vs → P v d → Q v d) → AllA P vs ds → AllA Q vs ds
  | [], [], _, _ => trivial
  | v :: vs, d :: ds, h, ⟨h1, h2⟩ => ⟨h v d (by simp) h1, AllA.imp (fun v' d' hm => h v' d' (by simp [hm])) h2⟩
  | [], _ :: _, _, h => h.elim
  | _ :: _, [], _, h => h.elim

theorem RepL.below {w w' : World} {v : Value} : ∀ {d : Lf}, RepL w v d → Below w.heap.size w w' → RepL w' v d
  | .I _, ⟨A, c, e, h⟩, hb => ⟨A, c, e, h.below hb⟩
  | .B _, ⟨A, c, e, h⟩, hb => ⟨A, c, e, h.below hb⟩
  | .S _, ⟨A, c, e, h⟩, hb => ⟨A, c, e, h.below hb⟩
  | .R _ _ _ _, ⟨A, c, e, h⟩, hb => ⟨A, c, e, h.below hb⟩
theorem RepA.below {w w' : World} {vs : List Value} {ds : List Lf} (h : RepA w vs ds) (hb : Below w.heap.size w w') : RepA w' vs ds := AllA.imp (fun _ _ _ h => h.below hb) h
theorem OwnL.below {w w' : World} {lo hi : Nat} {v : Value} : ∀ {d : Lf}, OwnL w lo hi v d → Below w.heap.size w w' → OwnL w' lo hi v d
  | .I _, ⟨A, c, e, h⟩, hb => ⟨A, c, e, h.below hb⟩
  | .B _, ⟨A, c, e, h⟩, hb => ⟨A, c, e, h.below hb⟩
  | .S _, ⟨A, c, e, h⟩, hb => ⟨A, c, e, h.below hb⟩
  | .R _ _ _ _, ⟨A, c, e, h⟩, hb => ⟨A, c, e, h.below hb⟩
theorem OwnL.btw {w w' : World} {lo hi l r : Nat} {v : Value} : ∀ {d : Lf}, OwnL w lo hi v d → Btw l r w w' → (hi ≤ l ∨ r ≤ lo) → OwnL w' lo hi v d
  | .I _, ⟨A, c, e, h⟩, hb, ho => ⟨A, c, e, h.btw hb ho⟩
  | .B _, ⟨A, c, e, h⟩, hb, ho => ⟨A, c, e, h.btw hb ho⟩
  | .S _, ⟨A, c, e, h⟩, hb, ho => ⟨A, c, e, h.btw hb ho⟩
  | .R _ _ _ _, ⟨A, c, e, h⟩, hb, ho => ⟨A, c, e, h.btw hb ho⟩
theorem OwnL.reads {w : World} {lo hi : Nat} {v : Value} : ∀ {d : Lf}, OwnL w lo hi v d → RepL w v d
  | .I _, ⟨A, c, e, h⟩ => ⟨A, c, e, h.reads⟩
  | .B _, ⟨A, c, e, h⟩ => ⟨A, c, e, h.reads⟩
  | .S _, ⟨A, c, e, h⟩ => ⟨A, c, e, h.reads⟩
  | .R _ _ _ _, ⟨A, c, e, h⟩ => ⟨A, c, e, h.reads⟩
theorem OwnA.below {w w' : World} {lo hi : Nat} {vs : List Value} {ds : List Lf} (h : OwnA w lo hi vs ds) (hb : Below w.heap.size w w') : OwnA w' lo hi vs ds := ⟨AllA.imp (fun _ _ _ h => h.below hb) h.1, h.2⟩
theorem OwnA.btw {w w' : World} {lo hi l r : Nat} {vs : List Value} {ds : List Lf} (h : OwnA w lo hi vs ds) (hb : Btw l r w w') (ho : hi ≤ l ∨ r ≤ lo) : OwnA w' lo hi vs ds := ⟨AllA.imp (fun _ _ _ h => h.btw hb ho) h.1, h.2⟩
theorem OwnA.reads {w : World} {lo hi : Nat} {vs : List Value} {ds : List Lf} (h : OwnA w lo hi vs ds) : RepA w vs ds := AllA.imp (fun _ _ _ h => h.reads) h.1

structure Touch (vs : List Value) (w w' : World) : Prop where
  os : w'.os = w.os
  tape : w'.tape = w.tape
  output : w'.output = w.output
  size : w.heap.size ≤ w'.heap.size
  block : ∀ k, k < w.heap.size → k ∉ vs.filterMap blkL → w'.heap[k]? = w.heap[k]?
theorem Touch.refl (vs : List Value) (w : World) : Touch vs w w := ⟨rfl, rfl, rfl, Nat.le_refl _, fun _ _ _ => rfl⟩
theorem Touch.trans {vs us : List Value} {a b c : World} (h : Touch vs a b) (k : Touch us b c) : Touch (vs ++ us) a c :=
  ⟨k.os.trans h.os, k.tape.trans h.tape, k.output.trans h.output, Nat.le_trans h.size k.size, fun i hi hn => by
    rw [List.filterMap_append, List.mem_append] at hn
    exact (k.block i (Nat.lt_of_lt_of_le hi h.size) (fun h => hn (.inr h))).trans (h.block i hi (fun h => hn (.inl h)))⟩
theorem Touch.of_below {w w' : World} (h : Below w.heap.size w w') (vs : List Value) : Touch vs w w' := ⟨h.os, h.tape, h.output, h.size, fun k hk _ => h.block k hk⟩
theorem Touch.more {vs us : List Value} {w w' : World} (h : Touch vs w w') (hs : ∀ k, k ∈ vs.filterMap blkL → k ∈ us.filterMap blkL) : Touch us w w' := ⟨h.os, h.tape, h.output, h.size, fun k hk hn => h.block k hk (fun h => hn (hs k h))⟩
theorem OwnL.blk {w : World} {lo hi : Nat} {v : Value} {b : Nat} (hb : blkL v = some b) : ∀ {d : Lf}, OwnL w lo hi v d → lo ≤ b ∧ b < hi
  | .I zs, ⟨A, c, e, h⟩ => by
    subst e
    rcases h with rfl | ⟨g, m, f, rfl, h1, h2, _⟩
    · rw [List.length_nil, blkL_zero] at hb; cases hb
    · rcases Nat.eq_zero_or_pos zs.length with hz | hz
      · rw [hz, blkL_zero] at hb; cases hb
      · rw [blkL_some hz] at hb; injection hb with hb; subst hb; exact ⟨h1, h2⟩
  | .B zs, ⟨A, c, e, h⟩ => by
    subst e
    rcases h with rfl | ⟨g, m, f, rfl, h1, h2, _⟩
    · rw [List.length_nil, blkL_zero] at hb; cases hb
    · rcases Nat.eq_zero_or_pos zs.length with hz | hz
      · rw [hz, blkL_zero] at hb; cases hb
      · rw [blkL_some hz] at hb; injection hb with hb; subst hb; exact ⟨h1, h2⟩
  | .S zs, ⟨A, c, e, h⟩ => by
    subst e
    rcases h with rfl | ⟨g, m, f, rfl, h1, h2, _⟩
    · rw [List.length_nil, blkL_zero] at hb; cases hb
    · rcases Nat.eq_zero_or_pos zs.length with hz | hz
      · rw [hz, blkL_zero] at hb; cases hb
      · rw [blkL_some hz] at hb; injection hb with hb; subst hb; exact ⟨h1, h2⟩
  | .R _ _ _ zs, ⟨A, c, e, h⟩ => by
    subst e
    rcases h with rfl | ⟨g, m, f, rfl, h1, h2, _⟩
    · rw [List.length_nil, blkL_zero] at hb; cases hb
    · rcases Nat.eq_zero_or_pos zs.length with hz | hz
      · rw [hz, blkL_zero] at hb; cases hb
      · rw [blkL_some hz] at hb; injection hb with hb; subst hb; exact ⟨h1, h2⟩
theorem AllA.mem {P : Value → Lf → Prop} : ∀ {vs : List Value} {ds : List Lf} {v : Value}, AllA P vs ds → v ∈ vs → ∃ d, P v d
  | v :: vs, d :: ds, u, ⟨h1, h2⟩, hm => by
    rcases List.mem_cons.1 hm with rfl | hm
    · exact ⟨d, h1⟩
    · exact AllA.mem h2 hm
  | [], [], _, _, hm => by cases hm
theorem OwnA.blk {w : World} {lo hi : Nat} {vs : List Value} {ds : List Lf} (h : OwnA w lo hi vs ds) {b : Nat} (hb : b ∈ vs.filterMap blkL) : lo ≤ b ∧ b < hi := by
  obtain ⟨v, hv, he⟩ := List.mem_filterMap.1 hb
  obtain ⟨d, hd⟩ := h.1.mem hv
  exact hd.blk he
theorem Touch.btw {w w' : World} {lo hi : Nat} {vs : List Value} {ds : List Lf} (h : OwnA w lo hi vs ds) (t : Touch vs w w') : Btw lo hi w w' :=
  ⟨t.os, t.tape, t.output, t.size, fun k hk ho => t.block k hk (fun hm => by have := h.blk hm; omega)⟩
theorem OwnL.away {w w' : World} {lo hi : Nat} {v : Value} {us : List Value} (t : Touch us w w') (hn : ∀ b, blkL v = some b → b ∉ us.filterMap blkL) : ∀ {d : Lf}, OwnL w lo hi v d → OwnL w' lo hi v d
  | .I zs, ⟨A, c, e, h⟩ => by
    refine ⟨A, c, e, ?_⟩
    rcases h with h | ⟨g, m, f, rfl, h1, h2, hm, hr, hf⟩
    · exact .inl h
    · by_cases hz : zs = []
      · exact .inl hz
      · exact .inr ⟨g, m, f, rfl, h1, h2, hm, hr.of_block (t.block g hr.lt (hn g (by rw [e]; exact blkL_some (List.length_pos_iff.2 hz)))), hf⟩
  | .B zs, ⟨A, c, e, h⟩ => by
    refine ⟨A, c, e, ?_⟩
    rcases h with h | ⟨g, m, f, rfl, h1, h2, hm, hr, hf⟩
    · exact .inl h
    · by_cases hz : zs = []
      · exact .inl hz
      · exact .inr ⟨g, m, f, rfl, h1, h2, hm, hr.of_block (t.block g hr.lt (hn g (by rw [e]; exact blkL_some (List.length_pos_iff.2 hz)))), hf⟩
  | .S zs, ⟨A, c, e, h⟩ => by
    refine ⟨A, c, e, ?_⟩
    rcases h with h | ⟨g, m, f, rfl, h1, h2, hm, hr, hf⟩
    · exact .inl h
    · by_cases hz : zs = []
      · exact .inl hz
      · exact .inr ⟨g, m, f, rfl, h1, h2, hm, hr.of_block (t.block g hr.lt (hn g (by rw [e]; exact blkL_some (List.length_pos_iff.2 hz)))), hf⟩
  | .R _ _ _ zs, ⟨A, c, e, h⟩ => by
    refine ⟨A, c, e, ?_⟩
    rcases h with h | ⟨g, m, f, rfl, h1, h2, hm, hr, hf⟩
    · exact .inl h
    · by_cases hz : zs = []
      · exact .inl hz
      · exact .inr ⟨g, m, f, rfl, h1, h2, hm, hr.of_block (t.block g hr.lt (hn g (by rw [e]; exact blkL_some (List.length_pos_iff.2 hz)))), hf⟩
theorem OwnA.away {w w' : World} {lo hi : Nat} {vs us : List Value} {ds : List Lf} (t : Touch us w w') (hn : ∀ b, b ∈ vs.filterMap blkL → b ∉ us.filterMap blkL) (h : OwnA w lo hi vs ds) : OwnA w' lo hi vs ds :=
  ⟨AllA.imp (fun v _ hv h => h.away t (fun b hb => hn b (List.mem_filterMap.2 ⟨v, hv, hb⟩))) h.1, h.2⟩
theorem OwnA.cons {w : World} {lo hi : Nat} {v : Value} {vs : List Value} {d : Lf} {ds : List Lf} (h1 : OwnL w lo hi v d) (h2 : OwnA w lo hi vs ds) (hn : ∀ b, blkL v = some b → b ∉ vs.filterMap blkL) : OwnA w lo hi (v :: vs) (d :: ds) := by
  refine ⟨⟨h1, h2.1⟩, ?_⟩
  rw [List.filterMap_cons]
  cases hb : blkL v with
  | none => exact h2.2
  | some b => exact List.nodup_cons.2 ⟨hn b hb, h2.2⟩
theorem OwnA.nil (w : World) (lo hi : Nat) : OwnA w lo hi [] [] := ⟨trivial, List.nodup_nil⟩
end Go.Proofs.Ytophgbjbinaekaa

/- The laws' own functions over []int, []bool, []string, on leaves. -/
namespace Go.Proofs.Ytophgbjbinaekaa
open Go.RowKit

end Go.Proofs.Ytophgbjbinaekaa

/- Lists of leaves: their sizes, marks and segments. -/
namespace Go.Proofs.Ytophgbjbinaekaa
open Go.RowKit

def CapA (vs : List Value) : Prop := ∀ v ∈ vs, CapL v
theorem CapA.cons {v : Value} {vs : List Value} (h : CapL v) (k : CapA vs) : CapA (v :: vs) := fun u hu => by
  rcases List.mem_cons.1 hu with rfl | hu
  · exact h
  · exact k u hu
theorem CapA.nil : CapA [] := fun _ h => by cases h
theorem AllA.split {P : Value → Lf → Prop} : ∀ {a b : List Value} {da db : List Lf}, a.length = da.length → AllA P (a ++ b) (da ++ db) → AllA P a da ∧ AllA P b db
  | [], _, [], _, _, h => ⟨trivial, h⟩
  | _ :: _, _, _ :: _, _, hl, h => by
    have := AllA.split (by simpa using hl) h.2
    exact ⟨⟨h.1, this.1⟩, this.2⟩
  | [], _, _ :: _, _, hl, _ => by simp at hl
  | _ :: _, _, [], _, hl, _ => by simp at hl
theorem OwnA.one {w : World} {lo hi : Nat} {v : Value} {d : Lf} (h : OwnL w lo hi v d) : OwnA w lo hi [v] [d] := ⟨⟨h, trivial⟩, by
  cases hb : blkL v with
  | none => simp [hb]
  | some b => simp [hb]⟩
theorem OwnA.set {w : World} {lo hi : Nat} {vs : List Value} {ds : List Lf} (h : OwnA w lo hi vs ds) {p : Addr} (hp : p.block < lo) (u : Value) : OwnA (w.setCell p u) lo hi vs ds :=
  h.btw ((Btw.refl p.block (p.block + 1) w).setCell (Nat.le_refl _) (Nat.lt_succ_self _) u) (.inr hp)
theorem Touch.mem {m vs : List Value} {w w' : World} (h : Touch m w w') (hs : ∀ v ∈ m, v ∈ vs) : Touch vs w w' := h.more fun k hk => by
  obtain ⟨v, hv, he⟩ := List.mem_filterMap.1 hk
  exact List.mem_filterMap.2 ⟨v, hs v hv, he⟩
theorem Box.touch {w w' : World} {b lo hi : Nat} {t : TypeId} {cs : Array Value} {vs : List Value} {ds : List Lf} (X : Box w b t cs) (h : OwnA w lo hi vs ds) (k : Touch vs w w') (hb : b < lo ∨ hi ≤ b) : Box w' b t cs := X.btw (k.btw h) hb
theorem OwnA.len {w : World} {lo hi : Nat} {vs : List Value} {ds : List Lf} (h : OwnA w lo hi vs ds) : vs.length = ds.length := by
  have aux : ∀ {vs : List Value} {ds : List Lf}, AllA (OwnL w lo hi) vs ds → vs.length = ds.length := by
    intro vs
    induction vs with
    | nil => intro ds h; cases ds with
      | nil => rfl
      | cons => exact h.elim
    | cons v vs ih => intro ds h; cases ds with
      | nil => exact h.elim
      | cons d ds => simp [ih h.2]
  exact aux h.1
end Go.Proofs.Ytophgbjbinaekaa

/- A clock that is valid, on both sides. Written by gen_rtc.py. -/
namespace Go.Proofs.Ytophgbjbinaekaa
open Go.RowKit

def rg (n m : Int) : Bool := decide (0 ≤ n ∧ n ≤ m)
theorem rg_says {n m : Int} (h : rg n m = true) : 0 ≤ n ∧ n ≤ m := by simpa [rg] using h
theorem rg_of {n m : Int} (h : 0 ≤ n ∧ n ≤ m) : rg n m = true := by simpa [rg] using h
set_option maxRecDepth 100000 in
theorem inR (n b : Int) (w : World) : Calls Try.prog 40 #[.int .i64 n, .int .i64 0, .int .i64 b] w fun e w' => e = .returned (.bool (rg n b)) ∧ w = w' := by
  go_enter Try.func40, Try.ntmps40
  go_wp2
  all_goals go_ret
  all_goals (refine ⟨ret_bool ?_, rfl⟩)
  all_goals (unfold rg; rw [Bool.eq_iff_iff]; simp; try omega)
set_option maxRecDepth 100000 in
theorem upR (n m : Int) (w : World) : Calls Try.prog 38 #[.int .i64 n, .int .i64 m] w fun e w' => e = .returned (.bool (rg n m)) ∧ w = w' := by
  go_enter Try.func38, Try.ntmps38
  go_wp2
  all_goals go_ret
  all_goals (refine ⟨ret_bool ?_, rfl⟩)
  all_goals (unfold rg; rw [Bool.eq_iff_iff]; simp; try omega)
def momB (h m s : Int) : Bool := rg h 23 && rg m 59 && rg s 59
def rtcB (s m h am ah : Int) : Bool := rg s 59 && rg m 59 && rg h 23 && rg am 59 && rg ah 23
theorem rtcB_mom (s m h am ah : Int) : rtcB s m h am ah = (momB h m s && momB ah am 0) := by
  unfold rtcB momB
  rw [show rg 0 59 = true from rfl]
  cases rg s 59 <;> cases rg m 59 <;> cases rg h 23 <;> cases rg am 59 <;> cases rg ah 23 <;> rfl

set_option maxRecDepth 100000 in
set_option maxHeartbeats 2000000 in
theorem momentValid (h m s : Int) (w : World) : Calls Try.prog 37 #[.agg #[.int .i64 h, .int .i64 m, .int .i64 s]] w fun e w' => e = .returned (.bool (momB h m s)) ∧ Below w.heap.size w w' := by
  have hb0 := alloc_below w (.cells #[.int .i64 h, .int .i64 m, .int .i64 s] 51)
  cases h0 : rg h 23 with
  | false =>
    have HR : Hid (momB h m s = false) := Lib.hid (by simp [momB, h0])
    go_enter Try.func37, Try.ntmps37
    go_wp2_with (first | (go_at_call 38; refine (upR _ _ _).mono ?_; rintro e w' ⟨rfl, rfl⟩; first | rw [h0] | rw [h1] | rw [h2] | rw [h3] | rw [h4]))
    go_ret
    exact ⟨ret_bool HR.out.symm, hb0⟩
  | true =>
    cases h1 : rg m 59 with
    | false =>
      have HR : Hid (momB h m s = false) := Lib.hid (by simp [momB, h0, h1])
      go_enter Try.func37, Try.ntmps37
      go_wp2_with (first | (go_at_call 38; refine (upR _ _ _).mono ?_; rintro e w' ⟨rfl, rfl⟩; first | rw [h0] | rw [h1] | rw [h2] | rw [h3] | rw [h4]))
      go_ret
      exact ⟨ret_bool HR.out.symm, hb0⟩
    | true =>
      cases h2 : rg s 59 with
      | false =>
        have HR : Hid (momB h m s = false) := Lib.hid (by simp [momB, h0, h1, h2])
        go_enter Try.func37, Try.ntmps37
        go_wp2_with (first | (go_at_call 38; refine (upR _ _ _).mono ?_; rintro e w' ⟨rfl, rfl⟩; first | rw [h0] | rw [h1] | rw [h2] | rw [h3] | rw [h4]))
        go_ret
        exact ⟨ret_bool HR.out.symm, hb0⟩
      | true =>
        have HR : Hid (momB h m s = true) := Lib.hid (by simp [momB, h0, h1, h2])
        go_enter Try.func37, Try.ntmps37
        go_wp2_with (first | (go_at_call 38; refine (upR _ _ _).mono ?_; rintro e w' ⟨rfl, rfl⟩; first | rw [h0] | rw [h1] | rw [h2] | rw [h3] | rw [h4]))
        go_ret
        exact ⟨ret_bool HR.out.symm, hb0⟩

set_option maxRecDepth 100000 in
set_option maxHeartbeats 2000000 in
theorem rtc_now (d0 d1 d2 : Int) (d3 : Bool) (d4 d5 : Int) (w : World) : Calls Try.prog 33 #[.agg #[.int .i64 d0, .int .i64 d1, .int .i64 d2, .bool d3, .int .i64 d4, .int .i64 d5]] w fun e w' => e = .returned (.agg #[.int .i64 d2, .int .i64 d1, .int .i64 d0]) ∧ Below w.heap.size w w' := by
  go_enter Try.func33, Try.ntmps33
  go_wp2
  refine bodyPost_ret (v := .agg #[.int .i64 d2, .int .i64 d1, .int .i64 d0]) (by simp [results, Try.results33, go_sem]) rfl ?_
  exact ⟨rfl, ((Below.refl _ _).alloc (Nat.le_refl _) _).alloc (by simp) _⟩

set_option maxRecDepth 100000 in
set_option maxHeartbeats 2000000 in
theorem rtc_alarm (d0 d1 d2 : Int) (d3 : Bool) (d4 d5 : Int) (w : World) : Calls Try.prog 36 #[.agg #[.int .i64 d0, .int .i64 d1, .int .i64 d2, .bool d3, .int .i64 d4, .int .i64 d5]] w fun e w' => e = .returned (.agg #[.int .i64 d5, .int .i64 d4, .int .i64 0]) ∧ Below w.heap.size w w' := by
  go_enter Try.func36, Try.ntmps36
  go_wp2
  refine bodyPost_ret (v := .agg #[.int .i64 d5, .int .i64 d4, .int .i64 0]) (by simp [results, Try.results36, go_sem]) rfl ?_
  exact ⟨rfl, ((Below.refl _ _).alloc (Nat.le_refl _) _).alloc (by simp) _⟩

set_option maxRecDepth 100000 in
set_option maxHeartbeats 4000000 in
theorem rtcValid (d0 d1 d2 : Int) (d3 : Bool) (d4 d5 : Int) (w : World) : Calls Try.prog 29 #[.agg #[.int .i64 d0, .int .i64 d1, .int .i64 d2, .bool d3, .int .i64 d4, .int .i64 d5]] w fun e w' => e = .returned (.bool (rtcB d0 d1 d2 d4 d5)) ∧ Below w.heap.size w w' := by
  have HN := Lib.hid (fun W => rtc_now d0 d1 d2 d3 d4 d5 W)
  have HA := Lib.hid (fun W => rtc_alarm d0 d1 d2 d3 d4 d5 W)
  have HV := Lib.hid (fun W => momentValid d2 d1 d0 W)
  have HU := Lib.hid (fun W => momentValid d5 d4 0 W)
  have HE := Lib.hid (rtcB_mom d0 d1 d2 d4 d5)
  generalize rtcB d0 d1 d2 d4 d5 = r at HE ⊢
  generalize momB d2 d1 d0 = x at HV HE
  generalize momB d5 d4 0 = y at HU HE
  obtain ⟨W1, hW1⟩ : ∃ W1, W1 = w.alloc (.cells #[.int .i64 d0, .int .i64 d1, .int .i64 d2, .bool d3, .int .i64 d4, .int .i64 d5] 24) := ⟨_, rfl⟩
  have X1 : Hid (Box W1 w.heap.size 24 #[.int .i64 d0, .int .i64 d1, .int .i64 d2, .bool d3, .int .i64 d4, .int .i64 d5]) := Lib.hid (by rw [hW1]; exact Box.new _ _ _)
  have hb0 : Below w.heap.size w W1 := by rw [hW1]; exact alloc_below w _
  have HW := Lib.hid hW1
  clear hW1
  go_enter Try.func29, Try.ntmps29
  go_wp2_with fail
  have s0 := X1.out.cell 0 rfl; have s1 := X1.out.cell 1 rfl; have s2 := X1.out.cell 2 rfl; have s3 := X1.out.cell 3 rfl; have s4 := X1.out.cell 4 rfl; have s5 := X1.out.cell 5 rfl
  rw [← HW.out]
  go_wp2_with fail
  refine (HN.out _).mono ?_
  rintro e w2 ⟨rfl, hc2⟩
  have X2 := Lib.hid (X1.out.step hc2)
  have hb2 := bt hb0 hc2
  clear X1 hb0 hc2 s0 s1 s2 s3 s4 s5 HW HN
  go_wp2_with fail
  refine (HV.out _).mono ?_
  rintro e w3 ⟨rfl, hc3⟩
  have X3 := Lib.hid (X2.out.step hc3)
  have hb3 := bt hb2 hc3
  clear X2 hb2 hc3 HV
  cases x with
  | false =>
    go_wp2
    go_ret
    exact ⟨ret_bool (by rw [HE.out]; rfl), hb3⟩
  | true =>
    have s0 := X3.out.cell 0 rfl; have s1 := X3.out.cell 1 rfl; have s2 := X3.out.cell 2 rfl; have s3 := X3.out.cell 3 rfl; have s4 := X3.out.cell 4 rfl; have s5 := X3.out.cell 5 rfl
    go_wp2_with fail
    refine (HA.out _).mono ?_
    rintro e w4 ⟨rfl, hc4⟩
    have hb4 := bt hb3 hc4
    clear X3 hb3 hc4 s0 s1 s2 s3 s4 s5 HA
    go_wp2_with fail
    refine (HU.out _).mono ?_
    rintro e w5 ⟨rfl, hc5⟩
    have hb5 := bt hb4 hc5
    go_wp2
    go_ret
    exact ⟨ret_bool (by rw [HE.out]; rfl), hb5⟩
set_option maxRecDepth 100000 in
theorem implRtcOKA (d0 d1 d2 : Int) (d3 : Bool) (d4 d5 : Int) (w : World) : Calls Try.prog 16 #[.agg #[.int .i64 d0, .int .i64 d1, .int .i64 d2, .bool d3, .int .i64 d4, .int .i64 d5]] w fun e w' => e = .returned (.bool (rtcB d0 d1 d2 d4 d5)) ∧ Below w.heap.size w w' := by
  have HV := Lib.hid (fun W => rtcValid d0 d1 d2 d3 d4 d5 W)
  obtain ⟨W1, hW1⟩ : ∃ W1, W1 = w.alloc (.cells #[.int .i64 d0, .int .i64 d1, .int .i64 d2, .bool d3, .int .i64 d4, .int .i64 d5] 24) := ⟨_, rfl⟩
  have X1 : Hid (Box W1 w.heap.size 24 #[.int .i64 d0, .int .i64 d1, .int .i64 d2, .bool d3, .int .i64 d4, .int .i64 d5]) := Lib.hid (by rw [hW1]; exact Box.new _ _ _)
  have hb0 : Below w.heap.size w W1 := by rw [hW1]; exact alloc_below w _
  have HW := Lib.hid hW1
  clear hW1
  go_enter Try.func16, Try.ntmps16
  go_wp2_with fail
  have s0 := X1.out.cell 0 rfl; have s1 := X1.out.cell 1 rfl; have s2 := X1.out.cell 2 rfl; have s3 := X1.out.cell 3 rfl; have s4 := X1.out.cell 4 rfl; have s5 := X1.out.cell 5 rfl
  rw [← HW.out]
  go_wp2_with fail
  refine (HV.out _).mono ?_
  rintro e w2 ⟨rfl, hc2⟩
  have hb2 := bt hb0 hc2
  go_wp2
  go_ret
  exact ⟨rfl, hb2⟩

set_option maxRecDepth 100000 in
set_option maxHeartbeats 2000000 in
theorem specRtcOKA (d0 d1 d2 : Int) (d3 : Bool) (d4 d5 : Int) (w : World) : Calls Try.prog 22 #[.agg #[.int .i64 d0, .int .i64 d1, .int .i64 d2, .bool d3, .int .i64 d4, .int .i64 d5]] w fun e w' => e = .returned (.bool (rtcB d0 d1 d2 d4 d5)) ∧ Below w.heap.size w w' := by
  have hb0 := alloc_below w (.cells #[.int .i64 d0, .int .i64 d1, .int .i64 d2, .bool d3, .int .i64 d4, .int .i64 d5] 24)
  cases h0 : rg d0 59 with
  | false =>
    have HR : Hid (rtcB d0 d1 d2 d4 d5 = false) := Lib.hid (by simp [rtcB, h0])
    go_enter Try.func22, Try.ntmps22
    go_wp2_with (first | (go_at_call 40; refine (inR _ _ _).mono ?_; rintro e w' ⟨rfl, rfl⟩; first | rw [h0] | rw [h1] | rw [h2] | rw [h3] | rw [h4]))
    go_ret
    exact ⟨ret_bool HR.out.symm, hb0⟩
  | true =>
    cases h1 : rg d1 59 with
    | false =>
      have HR : Hid (rtcB d0 d1 d2 d4 d5 = false) := Lib.hid (by simp [rtcB, h0, h1])
      go_enter Try.func22, Try.ntmps22
      go_wp2_with (first | (go_at_call 40; refine (inR _ _ _).mono ?_; rintro e w' ⟨rfl, rfl⟩; first | rw [h0] | rw [h1] | rw [h2] | rw [h3] | rw [h4]))
      go_ret
      exact ⟨ret_bool HR.out.symm, hb0⟩
    | true =>
      cases h2 : rg d2 23 with
      | false =>
        have HR : Hid (rtcB d0 d1 d2 d4 d5 = false) := Lib.hid (by simp [rtcB, h0, h1, h2])
        go_enter Try.func22, Try.ntmps22
        go_wp2_with (first | (go_at_call 40; refine (inR _ _ _).mono ?_; rintro e w' ⟨rfl, rfl⟩; first | rw [h0] | rw [h1] | rw [h2] | rw [h3] | rw [h4]))
        go_ret
        exact ⟨ret_bool HR.out.symm, hb0⟩
      | true =>
        cases h3 : rg d4 59 with
        | false =>
          have HR : Hid (rtcB d0 d1 d2 d4 d5 = false) := Lib.hid (by simp [rtcB, h0, h1, h2, h3])
          go_enter Try.func22, Try.ntmps22
          go_wp2_with (first | (go_at_call 40; refine (inR _ _ _).mono ?_; rintro e w' ⟨rfl, rfl⟩; first | rw [h0] | rw [h1] | rw [h2] | rw [h3] | rw [h4]))
          go_ret
          exact ⟨ret_bool HR.out.symm, hb0⟩
        | true =>
          cases h4 : rg d5 23 with
          | false =>
            have HR : Hid (rtcB d0 d1 d2 d4 d5 = false) := Lib.hid (by simp [rtcB, h0, h1, h2, h3, h4])
            go_enter Try.func22, Try.ntmps22
            go_wp2_with (first | (go_at_call 40; refine (inR _ _ _).mono ?_; rintro e w' ⟨rfl, rfl⟩; first | rw [h0] | rw [h1] | rw [h2] | rw [h3] | rw [h4]))
            go_ret
            exact ⟨ret_bool HR.out.symm, hb0⟩
          | true =>
            have HR : Hid (rtcB d0 d1 d2 d4 d5 = true) := Lib.hid (by simp [rtcB, h0, h1, h2, h3, h4])
            go_enter Try.func22, Try.ntmps22
            go_wp2_with (first | (go_at_call 40; refine (inR _ _ _).mono ?_; rintro e w' ⟨rfl, rfl⟩; first | rw [h0] | rw [h1] | rw [h2] | rw [h3] | rw [h4]))
            go_ret
            exact ⟨ret_bool HR.out.symm, hb0⟩

end Go.Proofs.Ytophgbjbinaekaa

/- A second more and the alarm, on both sides. Written by gen_rtctick.py. -/
namespace Go.Proofs.Ytophgbjbinaekaa
open Go.RowKit

theorem setL6 (l : List Value) (hs : l.length = 6) (u0 u1 u2 u3 u4 u5 : Value) : ((((((l.set 0 u0).set 1 u1).set 2 u2).set 3 u3).set 4 u4).set 5 u5) = [u0, u1, u2, u3, u4, u5] := by
  match l, hs with
  | [v0, v1, v2, v3, v4, v5], _ => simp only [List.set_cons_zero, List.set_cons_succ]
theorem setA6 (cs : Array Value) (hs : cs.size = 6) (u0 u1 u2 u3 u4 u5 : Value) : ((((((cs.setIfInBounds 0 u0).setIfInBounds 1 u1).setIfInBounds 2 u2).setIfInBounds 3 u3).setIfInBounds 4 u4).setIfInBounds 5 u5) = #[u0, u1, u2, u3, u4, u5] := by
  obtain ⟨l⟩ := cs
  simp only [List.setIfInBounds_toArray]
  rw [setL6 l (by simpa using hs)]
theorem Box.all6 {w : World} {b : Nat} {t : TypeId} {cs : Array Value} (X : Box w b t cs) (hs : cs.size = 6) (u0 u1 u2 u3 u4 u5 : Value) : Box ((((((w.setCell ⟨b, 0, none⟩ u0).setCell ⟨b, 1, none⟩ u1).setCell ⟨b, 2, none⟩ u2).setCell ⟨b, 3, none⟩ u3).setCell ⟨b, 4, none⟩ u4).setCell ⟨b, 5, none⟩ u5) b t #[u0, u1, u2, u3, u4, u5] :=
  setA6 cs hs u0 u1 u2 u3 u4 u5 ▸ ((((((X.set 0 u0).set 1 u1).set 2 u2).set 3 u3).set 4 u4).set 5 u5)
structure RT where
  s : Int
  m : Int
  h : Int
def nxt (s m h : Int) : RT := if s + 1 = 60 then (if m + 1 = 60 then (if h + 1 = 24 then ⟨0, 0, 0⟩ else ⟨0, 0, h + 1⟩) else ⟨0, m + 1, h⟩) else ⟨s + 1, m, h⟩
def ringB (s m h : Int) (a : Bool) (am ah : Int) : Bool := a && decide (h = ah) && decide (m = am) && decide (s = 0)
structure MomR (s m h : Int) : Prop where
  s : 0 ≤ s ∧ s ≤ 59
  m : 0 ≤ m ∧ m ≤ 59
  h : 0 ≤ h ∧ h ≤ 23
theorem momR_of {s m h am ah : Int} (q : rtcB s m h am ah = true) : MomR s m h := by
  simp only [rtcB, Bool.and_eq_true] at q
  exact ⟨rg_says q.1.1.1.1, rg_says q.1.1.1.2, rg_says q.1.1.2⟩
theorem nxt_ok {s m h : Int} (q : MomR s m h) : MomR (nxt s m h).s (nxt s m h).m (nxt s m h).h := by
  obtain ⟨⟨s1, s2⟩, ⟨m1, m2⟩, h1, h2⟩ := q
  unfold nxt
  split
  · split
    · split
      · exact ⟨by simp, by simp, by simp⟩
      · exact ⟨by simp, by simp, by simp; omega⟩
    · exact ⟨by simp, by simp; omega, by simp; omega⟩
  · exact ⟨by simp; omega, by simp; omega, by simp; omega⟩
theorem nxt_day {s m h : Int} (q : MomR s m h) : nxt s m h = ⟨(((h * 60 + m) * 60 + s + 1) % 86400) % 60, (((h * 60 + m) * 60 + s + 1) % 86400) / 60 % 60, (((h * 60 + m) * 60 + s + 1) % 86400) / 3600⟩ := by
  obtain ⟨⟨s1, s2⟩, ⟨m1, m2⟩, h1, h2⟩ := q
  unfold nxt
  split
  · split
    · split
      · congr 1 <;> omega
      · congr 1 <;> omega
    · congr 1 <;> omega
  · congr 1 <;> omega

set_option maxRecDepth 100000 in
set_option maxHeartbeats 4000000 in
theorem momentNext (s m h : Int) (q : MomR s m h) (w : World) : Calls Try.prog 45 #[.agg #[.int .i64 h, .int .i64 m, .int .i64 s]] w fun e w' => e = .returned (.agg #[.int .i64 (nxt s m h).h, .int .i64 (nxt s m h).m, .int .i64 (nxt s m h).s]) ∧ Below w.heap.size w w' := by
  obtain ⟨⟨s1, s2⟩, ⟨m1, m2⟩, h1, h2⟩ := q
  have es : IntKind.i64.wrap (s + 1) = s + 1 := IntWalk.i64_in _ (by omega)
  have em : IntKind.i64.wrap (m + 1) = m + 1 := IntWalk.i64_in _ (by omega)
  have eh : IntKind.i64.wrap (h + 1) = h + 1 := IntWalk.i64_in _ (by omega)
  by_cases a : s + 1 = 60
  · have a1 : s + 1 = 60 := a
    by_cases b : m + 1 = 60
    · by_cases c : h + 1 = 24
      · obtain rfl : s = 59 := by omega
        obtain rfl : m = 59 := by omega
        obtain rfl : h = 23 := by omega
        clear es em eh a a1 b c
        have HX : Hid (nxt 59 59 23 = ⟨0, 0, 0⟩) := Lib.hid (by simp [nxt])
        rw [HX.out]
        clear HX
        go_enter Try.func45, Try.ntmps45
        go_wp2
        refine bodyPost_ret (v := .agg #[.int .i64 (0), .int .i64 (0), .int .i64 (0)]) (by simp [results, Try.results45, go_sem]) rfl ?_
        refine ⟨rfl, ?_⟩
        repeat first | exact Below.refl _ _ | refine Below.setCell ?_ (by simp) _ | refine Below.alloc ?_ (by simp) _ | refine Below.alloc ?_ (Nat.le_refl _) _
      · obtain rfl : s = 59 := by omega
        obtain rfl : m = 59 := by omega
        clear es em a a1 b
        have HX : Hid (nxt 59 59 h = ⟨0, 0, h + 1⟩) := Lib.hid (by simp [nxt, c])
        rw [HX.out]
        clear HX
        go_enter Try.func45, Try.ntmps45
        go_wp2
        refine bodyPost_ret (v := .agg #[.int .i64 (h + 1), .int .i64 (0), .int .i64 (0)]) (by simp [results, Try.results45, go_sem]) rfl ?_
        refine ⟨rfl, ?_⟩
        repeat first | exact Below.refl _ _ | refine Below.setCell ?_ (by simp) _ | refine Below.alloc ?_ (by simp) _ | refine Below.alloc ?_ (Nat.le_refl _) _
    · obtain rfl : s = 59 := by omega
      clear es a a1
      have c : ¬ h = 24 := by omega
      have HX : Hid (nxt 59 m h = ⟨0, m + 1, h⟩) := Lib.hid (by simp [nxt, b])
      rw [HX.out]
      clear HX
      go_enter Try.func45, Try.ntmps45
      go_wp2
      refine bodyPost_ret (v := .agg #[.int .i64 (h), .int .i64 (m + 1), .int .i64 (0)]) (by simp [results, Try.results45, go_sem]) rfl ?_
      refine ⟨rfl, ?_⟩
      repeat first | exact Below.refl _ _ | refine Below.setCell ?_ (by simp) _ | refine Below.alloc ?_ (by simp) _ | refine Below.alloc ?_ (Nat.le_refl _) _
  · have b : ¬ m = 60 := by omega
    have c : ¬ h = 24 := by omega
    have HX : Hid (nxt s m h = ⟨s + 1, m, h⟩) := Lib.hid (by simp [nxt, a])
    rw [HX.out]
    clear HX
    go_enter Try.func45, Try.ntmps45
    go_wp2
    refine bodyPost_ret (v := .agg #[.int .i64 (h), .int .i64 (m), .int .i64 (s + 1)]) (by simp [results, Try.results45, go_sem]) rfl ?_
    refine ⟨rfl, ?_⟩
    repeat first | exact Below.refl _ _ | refine Below.setCell ?_ (by simp) _ | refine Below.alloc ?_ (by simp) _ | refine Below.alloc ?_ (Nat.le_refl _) _

set_option maxRecDepth 100000 in
set_option maxHeartbeats 4000000 in
theorem rtcTick (d0 d1 d2 : Int) (d3 : Bool) (d4 d5 : Int) (q : MomR d0 d1 d2) (w : World) : Calls Try.prog 30 #[.agg #[.int .i64 d0, .int .i64 d1, .int .i64 d2, .bool d3, .int .i64 d4, .int .i64 d5]] w fun e w' => e = .returned (.agg #[.int .i64 (nxt d0 d1 d2).s, .int .i64 (nxt d0 d1 d2).m, .int .i64 (nxt d0 d1 d2).h, .bool d3, .int .i64 d4, .int .i64 d5]) ∧ Below w.heap.size w w' := by
  have HN := Lib.hid (fun W => rtc_now d0 d1 d2 d3 d4 d5 W)
  have HX := Lib.hid (fun W => momentNext d0 d1 d2 q W)
  clear q
  generalize nxt d0 d1 d2 = r at HX ⊢
  obtain ⟨rs, rm, rh⟩ := r
  simp only at HX ⊢
  obtain ⟨W1, hW1⟩ : ∃ W1, W1 = (w.alloc (.cells #[.int .i64 d0, .int .i64 d1, .int .i64 d2, .bool d3, .int .i64 d4, .int .i64 d5] 24)).alloc (.cells #[.int .i64 0, .int .i64 0, .int .i64 0, .bool false, .int .i64 0, .int .i64 0] 24) := ⟨_, rfl⟩
  have X1 : Hid (Box W1 w.heap.size 24 #[.int .i64 d0, .int .i64 d1, .int .i64 d2, .bool d3, .int .i64 d4, .int .i64 d5]) := Lib.hid (by rw [hW1]; exact (Box.new _ _ _).alloc _)
  have Y1 : Hid (Box W1 (w.heap.size + 1) 24 #[.int .i64 0, .int .i64 0, .int .i64 0, .bool false, .int .i64 0, .int .i64 0]) := Lib.hid (by rw [hW1]; simpa using Box.new (w.alloc (.cells #[.int .i64 d0, .int .i64 d1, .int .i64 d2, .bool d3, .int .i64 d4, .int .i64 d5] 24)) 24 #[.int .i64 0, .int .i64 0, .int .i64 0, .bool false, .int .i64 0, .int .i64 0])
  have hb0 : Below w.heap.size w W1 := by rw [hW1]; exact ((Below.refl _ _).alloc (Nat.le_refl _) _).alloc (by simp) _
  have HW := Lib.hid hW1
  clear hW1
  go_enter Try.func30, Try.ntmps30
  go_wp2_with fail
  have s0 := X1.out.cell 0 rfl; have s1 := X1.out.cell 1 rfl; have s2 := X1.out.cell 2 rfl; have s3 := X1.out.cell 3 rfl; have s4 := X1.out.cell 4 rfl; have s5 := X1.out.cell 5 rfl
  rw [← HW.out]
  go_wp2_with fail
  refine (HN.out _).mono ?_
  rintro e w2 ⟨rfl, hc2⟩
  have X2 := Lib.hid (X1.out.step hc2)
  have Y2 := Lib.hid (Y1.out.step hc2)
  have hb2 := bt hb0 hc2
  clear X1 Y1 hb0 hc2 s0 s1 s2 s3 s4 s5 HW HN
  go_wp2_with fail
  refine (HX.out _).mono ?_
  rintro e w3 ⟨rfl, hc3⟩
  obtain ⟨W3, hW3⟩ : ∃ W3, W3 = w3.alloc (.cells #[.int .i64 rh, .int .i64 rm, .int .i64 rs] 51) := ⟨_, rfl⟩
  have hc4 := bt hc3 (alloc_below w3 (.cells #[.int .i64 rh, .int .i64 rm, .int .i64 rs] 51))
  have M3 : Hid (Box W3 w3.heap.size 51 #[.int .i64 rh, .int .i64 rm, .int .i64 rs]) := Lib.hid (by rw [hW3]; exact Box.new _ _ _)
  rw [← hW3] at hc4
  have X3 := Lib.hid (X2.out.step hc4)
  have Y3 := Lib.hid (Y2.out.step hc4)
  have hb3 := bt hb2 hc4
  have Z3 : Hid (w.heap.size + 2 ≤ w3.heap.size) := Lib.hid (by have := Y2.out.lt; have := hc3.size; omega)
  have HW := Lib.hid hW3
  clear X2 Y2 hb2 hc3 hc4 HX hW3
  go_wp2_with fail
  rw [← HW.out]
  clear HW
  have t0 := M3.out.cell 0 rfl; have t1 := M3.out.cell 1 rfl; have t2 := M3.out.cell 2 rfl
  have s0 := X3.out.cell 0 rfl; have s1 := X3.out.cell 1 rfl; have s2 := X3.out.cell 2 rfl; have s3 := X3.out.cell 3 rfl; have s4 := X3.out.cell 4 rfl; have s5 := X3.out.cell 5 rfl
  have hne : ¬ w3.heap.size = w.heap.size := by have := Z3.out; omega
  have hne' : ¬ w.heap.size = w3.heap.size := by have := Z3.out; omega
  have z0 := X3.out.frozen 0; have z1 := X3.out.frozen 1; have z2 := X3.out.frozen 2
  go_region
  obtain ⟨W4, hW4⟩ : ∃ W4, W4 = (((W3.setCell ⟨w.heap.size, 2, none⟩ (.int .i64 rh)).setCell ⟨w.heap.size, 1, none⟩ (.int .i64 rm)).setCell ⟨w.heap.size, 0, none⟩ (.int .i64 rs)) := ⟨_, rfl⟩
  have BW4 : Btw (w.heap.size) (w.heap.size + 1) W3 W4 := by rw [hW4]; exact (Btw.refl _ _ _).put.put.put
  have X4 := Lib.hid ((((X3.out.set 2 (.int .i64 rh)).set 1 (.int .i64 rm)).set 0 (.int .i64 rs)))
  rw [← hW4] at X4
  have Y4 := Lib.hid (Y3.out.btw BW4 (.inr (by omega)))
  have hb4 := hb3.trans ((BW4.below (Nat.le_of_lt X3.out.lt)).mono (by omega))
  rw [← hW4]
  have X4 : Hid (Box W4 w.heap.size 24 #[.int .i64 rs, .int .i64 rm, .int .i64 rh, .bool d3, .int .i64 d4, .int .i64 d5]) := Lib.hid (by simpa using X4.out)
  clear s0 s1 s2 s3 s4 s5 t0 t1 t2 z0 z1 z2 X3 Y3 M3 hW4 BW4 hb3 hne hne'
  have s0 := X4.out.cell 0 rfl; have s1 := X4.out.cell 1 rfl; have s2 := X4.out.cell 2 rfl; have s3 := X4.out.cell 3 rfl; have s4 := X4.out.cell 4 rfl; have s5 := X4.out.cell 5 rfl
  have u0 := Y4.out.cell 0 rfl; have u1 := Y4.out.cell 1 rfl; have u2 := Y4.out.cell 2 rfl; have u3 := Y4.out.cell 3 rfl; have u4 := Y4.out.cell 4 rfl; have u5 := Y4.out.cell 5 rfl
  have z0 := Y4.out.frozen 0; have z1 := Y4.out.frozen 1; have z2 := Y4.out.frozen 2; have z3 := Y4.out.frozen 3; have z4 := Y4.out.frozen 4; have z5 := Y4.out.frozen 5
  go_wp2_with fail
  obtain ⟨W5, hW5⟩ : ∃ W5, W5 = ((((((W4.setCell ⟨w.heap.size + 1, 0, none⟩ (.int .i64 rs)).setCell ⟨w.heap.size + 1, 1, none⟩ (.int .i64 rm)).setCell ⟨w.heap.size + 1, 2, none⟩ (.int .i64 rh)).setCell ⟨w.heap.size + 1, 3, none⟩ (.bool d3)).setCell ⟨w.heap.size + 1, 4, none⟩ (.int .i64 d4)).setCell ⟨w.heap.size + 1, 5, none⟩ (.int .i64 d5)) := ⟨_, rfl⟩
  have BW5 : Btw (w.heap.size + 1) (w.heap.size + 1 + 1) W4 W5 := by rw [hW5]; exact (Btw.refl _ _ _).put.put.put.put.put.put
  have Y5 : Hid (Box W5 (w.heap.size + 1) 24 #[.int .i64 rs, .int .i64 rm, .int .i64 rh, .bool d3, .int .i64 d4, .int .i64 d5]) := Lib.hid (by rw [hW5]; exact (Y4.out.all6 rfl _ _ _ _ _ _))
  have hb5 := hb4.trans ((BW5.below (Nat.le_of_lt Y4.out.lt)).mono (by omega))
  rw [← hW5]
  clear s0 s1 s2 s3 s4 s5 u0 u1 u2 u3 u4 u5 z0 z1 z2 z3 z4 z5 hW5
  have y0 := Y5.out.cell 0 rfl; have y1 := Y5.out.cell 1 rfl; have y2 := Y5.out.cell 2 rfl; have y3 := Y5.out.cell 3 rfl; have y4 := Y5.out.cell 4 rfl; have y5 := Y5.out.cell 5 rfl
  refine bodyPost_ret (v := .agg #[.int .i64 rs, .int .i64 rm, .int .i64 rh, .bool d3, .int .i64 d4, .int .i64 d5]) (by simp [results, Try.results30, go_sem, y0, y1, y2, y3, y4, y5]) rfl ?_
  exact ⟨rfl, hb5.drew⟩

end Go.Proofs.Ytophgbjbinaekaa

/- Contracts of sectors, fateOf, tear, settle: what a crash makes of a disk. -/
namespace Go.Proofs.Ytophgbjbinaekaa
open Go.RowKit

def cellsS (ss : List ByteArray) : List Value := ss.map Value.string
theorem cellsS_len (ss : List ByteArray) : (cellsS ss).length = ss.length := by simp [cellsS]
theorem StrL.src {w : World} {A : Option Addr} {ss : List ByteArray} (h : StrL w A ss) (hp : 0 < (cellsS ss).length) : ∃ ad, A = some ad ∧ ∀ j v, (cellsS ss)[j]? = some v → w.cell? (ad.add j) = some v := by
  rw [cellsS_len] at hp
  obtain ⟨b, off, e, _⟩ := h 0 hp
  refine ⟨⟨b, off, none⟩, e, fun j v hj => ?_⟩
  have hj' : j < ss.length := by have := (List.getElem?_eq_some_iff.1 hj).1; simpa [cellsS] using this
  obtain ⟨b', off', e', hc⟩ := h j hj'
  rw [e] at e'
  injection e' with e'
  injection e' with e1 e2
  subst e1 e2
  have hv : v = Value.string (ss.getD j ByteArray.empty) := by
    unfold cellsS at hj
    rw [List.getElem?_map, List.getElem?_eq_getElem hj', Option.map_some] at hj
    rw [List.getD_eq_getElem?_getD, List.getElem?_eq_getElem hj']
    exact (Option.some.inj hj).symm
  rw [hv, ← hc]
  unfold Addr.add
  by_cases h0 : j = 0
  · subst h0; simp
  · rw [if_neg h0]

theorem getD_set (l : List ByteArray) (p j : Nat) (x : ByteArray) (h : p < l.length) : (l.set p x).getD j ByteArray.empty = if j = p then x else l.getD j ByteArray.empty := by
  simp only [List.getD_eq_getElem?_getD, List.getElem?_set]
  by_cases e : j = p
  · subst e; rw [if_pos rfl, if_pos rfl, if_pos h]; rfl
  · rw [if_neg (fun h => e h.symm), if_neg e]
structure Ok (ss : List ByteArray) (ws : List (Int × ByteArray)) : Prop where
  n48 : ss.length = 48
  m60 : ws.length ≤ 60
  small : ∀ s ∈ ss, s.size ≤ 100
  smallW : ∀ x ∈ ws, x.2.size ≤ 100
  at_ : ∀ x ∈ ws, 0 ≤ x.1 ∧ x.1 ≤ 47
end Go.Proofs.Ytophgbjbinaekaa

/- Contract of the model's flush: l01Flush. -/
namespace Go.Proofs.Ytophgbjbinaekaa
open Go.RowKit

def RowS (w : World) (b n m : Nat) (l : List ByteArray) : Prop := l.length = n ∧ n ≤ m ∧ ∃ f, w.rowIs b 9 m f ∧ ∀ i, i < n → f i = .string (l.getD i ByteArray.empty)
theorem RowS.cell {w : World} {b n m p : Nat} {l : List ByteArray} (h : RowS w b n m l) (hp : p < n) : w.cell? ⟨b, p, none⟩ = some (.string (l.getD p ByteArray.empty)) := by
  obtain ⟨_, hm, f, hr, hf⟩ := h
  rw [← hf p hp]; exact hr.cell (by omega)
theorem RowS.frozen {w : World} {b n m : Nat} {l : List ByteArray} (h : RowS w b n m l) (p : Nat) : w.frozen? ⟨b, p, none⟩ = false := by
  obtain ⟨_, hm, f, hr, hf⟩ := h
  exact hr.frozen p
theorem RowS.lt {w : World} {b n m : Nat} {l : List ByteArray} (h : RowS w b n m l) : b < w.heap.size := by
  obtain ⟨_, hm, f, hr, hf⟩ := h
  exact hr.lt
theorem RowS.below {w w' : World} {b n m : Nat} {l : List ByteArray} (h : RowS w b n m l) (hb : Below w.heap.size w w') : RowS w' b n m l := by
  obtain ⟨hl, hm, f, hr, hf⟩ := h
  exact ⟨hl, hm, f, row_below hb hr hr.lt, hf⟩
theorem RowS.set {w : World} {b n m p : Nat} {l : List ByteArray} (h : RowS w b n m l) (hp : p < n) (x : ByteArray) : RowS (w.setCell ⟨b, p, none⟩ (.string x)) b n m (l.set p x) := by
  obtain ⟨hl, hm, f, hr, hf⟩ := h
  refine ⟨by simpa using hl, hm, _, hr.set p (.string x), fun i hi => ?_⟩
  rw [getD_set l p i x (by omega)]
  by_cases e : i = p
  · rw [if_pos e, if_pos e]
  · rw [if_neg e, if_neg e]; exact hf i hi
theorem RowS.own {w : World} {b n m lo hi : Nat} {l : List ByteArray} (h : RowS w b n m l) (h1 : lo ≤ b) (h2 : b < hi) : OwnS w lo hi (some ⟨b, 0, none⟩) l := by
  obtain ⟨hl, hm, f, hr, hf⟩ := h
  exact .inr ⟨b, m, f, rfl, h1, h2, by omega, hr, fun i hi => hf i (by omega)⟩

end Go.Proofs.Ytophgbjbinaekaa

/- Contracts of the model's crash: l01Crash; of the tests of fates. -/
namespace Go.Proofs.Ytophgbjbinaekaa
open Go.RowKit

end Go.Proofs.Ytophgbjbinaekaa

/- The model's source of draws: byte, next, chance. -/
namespace Go.Proofs.Ytophgbjbinaekaa
open Go.RowKit

def ByB (w : World) (lo : Nat) (A : Option Addr) (zs : List Nat) : Prop :=
  ∀ i, i < zs.length → ∃ b off, A = some ⟨b, off, none⟩ ∧ b < lo ∧ w.cell? ⟨b, off + i, none⟩ = some (.int .u8 (zs.getD i 0 : Nat)) ∧ zs.getD i 0 < 256
theorem ByB.btw {w w' : World} {lo l h' : Nat} {A : Option Addr} {zs : List Nat} (h : ByB w lo A zs) (hb : Btw l h' w w') (ho : lo ≤ l) : ByB w' lo A zs := fun i hi => by
  obtain ⟨b, off, e, q1, q2, q3⟩ := h i hi
  exact ⟨b, off, e, q1, hb.cell q2 (.inl (by show b < l; omega)), q3⟩
def Src (w : World) (b : Nat) (A : Option Addr) (n c : Nat) (zs : List Nat) (K : Nat) : Prop :=
  ∃ k sd : Nat, Box w b 59 #[.slice A n c, .int .i64 k, .int .i64 sd] ∧ k ≤ K ∧ sd < 2147483648 ∧ zs.length = n ∧ ByB w b A zs
theorem Src.btw {w w' : World} {b l h' : Nat} {A : Option Addr} {n c : Nat} {zs : List Nat} {K : Nat} (h : Src w b A n c zs K) (hb : Btw l h' w w') (ho : b < l) : Src w' b A n c zs K := by
  obtain ⟨k, sd, q1, q2, q3, q4, q5⟩ := h
  exact ⟨k, sd, q1.btw hb (.inl ho), q2, q3, q4, q5.btw hb (by omega)⟩
theorem Src.lt {w : World} {b : Nat} {A : Option Addr} {n c : Nat} {zs : List Nat} {K : Nat} (h : Src w b A n c zs K) : b < w.heap.size := by
  obtain ⟨k, sd, q1, _⟩ := h
  exact q1.lt
theorem Src.mono {w : World} {b : Nat} {A : Option Addr} {n c : Nat} {zs : List Nat} {K K' : Nat} (h : Src w b A n c zs K) (hk : K ≤ K') : Src w b A n c zs K' := by
  obtain ⟨k, sd, q1, q2, q3⟩ := h
  exact ⟨k, sd, q1, by omega, q3⟩

theorem src_at {w : World} {b : Nat} {A : Option Addr} {n c : Nat} {k sd : Nat} (X : Box w b 59 #[.slice A n c, .int .i64 k, .int .i64 sd]) :
    Box (w.setCell ⟨b, 1, none⟩ (.int .i64 ((k : Int) + 1))) b 59 #[.slice A n c, .int .i64 ((k + 1 : Nat) : Int), .int .i64 sd] := X.set 1 (.int .i64 ((k : Int) + 1))
theorem src_seed {w : World} {b : Nat} {A : Option Addr} {n c : Nat} {k sd : Nat} (X : Box w b 59 #[.slice A n c, .int .i64 k, .int .i64 sd]) (s2 : Nat) :
    Box (w.setCell ⟨b, 2, none⟩ (.int .i64 (s2 : Int))) b 59 #[.slice A n c, .int .i64 k, .int .i64 s2] := X.set 2 (.int .i64 (s2 : Int))

def SrcX (w : World) (b : Nat) (A : Option Addr) (n c : Nat) (zs : List Nat) (k sd : Nat) : Prop :=
  Box w b 59 #[.slice A n c, .int .i64 k, .int .i64 sd] ∧ sd < 2147483648 ∧ zs.length = n ∧ ByB w b A zs
def byteV (zs : List Nat) (k sd : Nat) : Nat × Nat × Nat :=
  if k < zs.length then (zs.getD k 0, k + 1, (sd * 31 + zs.getD k 0 + 7) % 2147483648) else if 3000 < k + 1 then (0, k + 1, sd) else ((sd * 1103515245 + 12345) % 2147483648 / 65536 % 256, k + 1, (sd * 1103515245 + 12345) % 2147483648)
theorem byteV_at (zs : List Nat) (k sd : Nat) : (byteV zs k sd).2.1 = k + 1 := by
  unfold byteV; split
  · rfl
  · split <;> rfl
theorem SrcX.src {w : World} {b : Nat} {A : Option Addr} {n c : Nat} {zs : List Nat} {k sd : Nat} (h : SrcX w b A n c zs k sd) {K : Nat} (hk : k ≤ K) : Src w b A n c zs K := ⟨k, sd, h.1, hk, h.2.1, h.2.2.1, h.2.2.2⟩
theorem Src.exact {w : World} {b : Nat} {A : Option Addr} {n c : Nat} {zs : List Nat} {K : Nat} (h : Src w b A n c zs K) : ∃ k sd, k ≤ K ∧ SrcX w b A n c zs k sd := by
  obtain ⟨k, sd, q1, q2, q3, q4, q5⟩ := h
  exact ⟨k, sd, q2, q1, q3, q4, q5⟩
set_option maxRecDepth 100000 in
set_option maxHeartbeats 4000000 in
theorem srcByteX (b : Nat) (A : Option Addr) (n c : Nat) (zs : List Nat) (k sd : Nat) (w : World) (hk9 : k ≤ 1000000000) (h : SrcX w b A n c zs k sd) :
    Calls Try.prog 48 #[.pointer (some ⟨b, 0, none⟩)] w fun e w' => e = .returned (.int .i64 ((byteV zs k sd).1 : Nat)) ∧ Hid (SrcX w' b A n c zs (byteV zs k sd).2.1 (byteV zs k sd).2.2) ∧ Btw b (b + 1) w w' := by
  obtain ⟨X, hs, hl, hz⟩ := h
  have HX := Lib.hid (src_at X)
  have HB : Hid (Btw b (b + 1) w (w.setCell ⟨b, 1, none⟩ (.int .i64 ((k : Int) + 1)))) := Lib.hid ((Btw.refl b (b + 1) w).setCell (p := ⟨b, 1, none⟩) (by show b ≤ b; omega) (by show b < b + 1; omega) _)
  have HZ := Lib.hid (hz.btw HB.out (Nat.le_refl _))
  have HL := Lib.hid hl
  have f1 : w.cell? ⟨b, 1, none⟩ = some (.int .i64 k) := X.cell 1 rfl
  have g1 := X.frozen 1
  clear X hz hl
  go_enter Try.func48, Try.ntmps48
  go_wp2
  generalize w.setCell ⟨b, 1, none⟩ (.int .i64 ((k : Int) + 1)) = w1 at HX HB HZ ⊢
  clear f1 g1
  have f0 : w1.cell? ⟨b, 0, none⟩ = some (.slice A n c) := HX.out.cell 0 rfl
  have f1 : w1.cell? ⟨b, 1, none⟩ = some (.int .i64 ((k : Int) + 1)) := HX.out.cell 1 rfl
  have f2 : w1.cell? ⟨b, 2, none⟩ = some (.int .i64 sd) := HX.out.cell 2 rfl
  have g2 := HX.out.frozen 2
  by_cases hlt : k < n
  · have hlt' : (k : Int) + 1 ≤ (n : Int) := by omega
    have hk0 : (0 : Int) ≤ (k : Int) := by omega
    have hki : (k : Int) < (n : Int) := by omega
    obtain ⟨bb, off, rfl, hbb, hc, hv⟩ := HZ.out k (by rw [HL.out]; exact hlt)
    have HV : Hid (byteV zs k sd = (zs.getD k 0, k + 1, (sd * 31 + zs.getD k 0 + 7) % 2147483648)) := Lib.hid (by unfold byteV; rw [if_pos (by rw [HL.out]; exact hlt)])
    generalize zs.getD k 0 = x at hc hv HV
    have hne : ¬ bb = b := by omega
    go_quiet (fail)
    go_wp2
    have HX2 := Lib.hid (HX.out.drewN nq)
    have HB2 := Lib.hid (HB.out.drewN nq)
    have HZ2 := Lib.hid (HZ.out.btw ((Btw.refl b (b + 1) w1).drewN nq) (Nat.le_refl _))
    have hc2 : (w1.drewN nq).cell? ⟨bb, off + k, none⟩ = some (.int .u8 (x : Nat)) := hc
    clear f0 f1 f2 g2 hc HX HB HZ
    generalize w1.drewN nq = w2 at HX2 HB2 HZ2 hc2 ⊢
    have f0 : w2.cell? ⟨b, 0, none⟩ = some (.slice (some ⟨bb, off, none⟩) n c) := HX2.out.cell 0 rfl
    have f1 : w2.cell? ⟨b, 1, none⟩ = some (.int .i64 ((k : Int) + 1)) := HX2.out.cell 1 rfl
    have f2 : w2.cell? ⟨b, 2, none⟩ = some (.int .i64 sd) := HX2.out.cell 2 rfl
    have g2 := HX2.out.frozen 2
    have t0 : (0 : Int) ≤ (sd : Int) := by omega
    have u1 : IntKind.i64.wrap ((sd : Int) * 31) = (sd : Int) * 31 := IntWalk.i64_in _ ⟨by omega, by omega⟩
    have u2 : IntKind.i64.wrap (k : Int) = (k : Int) := IntWalk.i64_in _ ⟨by omega, by omega⟩
    have u3 : IntKind.i64.wrap (x : Int) = (x : Int) := IntWalk.i64_in _ ⟨by omega, by omega⟩
    have u4 : IntKind.i64.wrap ((sd : Int) * 31 + (x : Int)) = (sd : Int) * 31 + (x : Int) := IntWalk.i64_in _ ⟨by omega, by omega⟩
    have u5 : IntKind.i64.wrap ((sd : Int) * 31 + (x : Int) + 7) = (sd : Int) * 31 + (x : Int) + 7 := IntWalk.i64_in _ ⟨by omega, by omega⟩
    go_still_tail 21, (by kernel_rfl)
    change wpList _ _ _ _ _ w2.drew
    go_wp2
    clear u1 u2 u3 u4 u5
    have e1 : ((sd : Int) * 31 + (x : Int) + 7) % 2147483648 = (((sd * 31 + x + 7) % 2147483648 : Nat) : Int) := by omega
    have e2 : (sd * 31 + x + 7) % 2147483648 < 2147483648 := Nat.mod_lt _ (by omega)
    rw [e1]
    clear e1
    generalize (sd * 31 + x + 7) % 2147483648 = s2 at e2 HV ⊢
    have kA : Btw b (b + 1) w2 ((w2.setCell ⟨b, 2, none⟩ (.int .i64 (s2 : Int))).drew) := ((Btw.refl b (b + 1) _).setCell (p := ⟨b, 2, none⟩) (by show b ≤ b; omega) (by show b < b + 1; omega) _).drew
    have HX3 := Lib.hid (src_seed HX2.out s2).drew
    have HB3 := Lib.hid (HB2.out.trans kA)
    have HZ3 := Lib.hid (HZ2.out.btw kA (Nat.le_refl _))
    have hc3 := kA.cell hc2 (.inl hbb)
    clear f0 f1 f2 g2 hc2 HX2 HB2 HZ2 kA
    generalize (w2.setCell ⟨b, 2, none⟩ (.int .i64 (s2 : Int))).drew = w3 at HX3 HB3 HZ3 hc3 ⊢
    have f0 : w3.cell? ⟨b, 0, none⟩ = some (.slice (some ⟨bb, off, none⟩) n c) := HX3.out.cell 0 rfl
    have f1 : w3.cell? ⟨b, 1, none⟩ = some (.int .i64 ((k : Int) + 1)) := HX3.out.cell 1 rfl
    have u2 : IntKind.i64.wrap (k : Int) = (k : Int) := IntWalk.i64_in _ ⟨by omega, by omega⟩
    have u3 : IntKind.i64.wrap (x : Int) = (x : Int) := IntWalk.i64_in _ ⟨by omega, by omega⟩
    go_quiet (fail)
    clear u2 u3
    go_wp2
    refine bodyPost_ret (v := .int .i64 (x : Int)) (by simp [results, Try.results48, go_sem]) rfl ?_
    rw [HV.out]
    exact ⟨rfl, Lib.hid ⟨HX3.out.drewN _, e2, HL.out, HZ3.out.btw ((Btw.refl b (b + 1) w3).drewN _) (Nat.le_refl _)⟩, HB3.out.drewN _⟩
  · have hlt' : ¬ (k : Int) + 1 ≤ (n : Int) := by omega
    by_cases h3 : 3000 < (k : Int) + 1
    · have HV : Hid (byteV zs k sd = (0, k + 1, sd)) := Lib.hid (by unfold byteV; rw [if_neg (by rw [HL.out]; exact hlt), if_pos (by omega)])
      go_quiet (fail)
      go_wp2
      refine bodyPost_ret (v := .int .i64 ((0 : Nat) : Int)) (by simp [results, Try.results48, go_sem]) rfl ?_
      rw [HV.out]
      exact ⟨rfl, Lib.hid ⟨HX.out.drewN nq, hs, HL.out, HZ.out.btw ((Btw.refl b (b + 1) w1).drewN nq) (Nat.le_refl _)⟩, HB.out.drewN nq⟩
    · have HV : Hid (byteV zs k sd = ((sd * 1103515245 + 12345) % 2147483648 / 65536 % 256, k + 1, (sd * 1103515245 + 12345) % 2147483648)) := Lib.hid (by unfold byteV; rw [if_neg (by rw [HL.out]; exact hlt), if_neg (by omega)])
      go_quiet (fail)
      go_wp2
      have e1 : ((sd : Int) * 1103515245 + 12345) % 2147483648 = (((sd * 1103515245 + 12345) % 2147483648 : Nat) : Int) := by omega
      have e2 : (sd * 1103515245 + 12345) % 2147483648 < 2147483648 := Nat.mod_lt _ (by omega)
      rw [e1]
      generalize (sd * 1103515245 + 12345) % 2147483648 = s2 at e2 HV ⊢
      have e3 : (s2 : Int) / 65536 % 256 = ((s2 / 65536 % 256 : Nat) : Int) := by omega
      rw [e3]
      have kA : Btw b (b + 1) (w1.drewN nq) ((w1.drewN nq).setCell ⟨b, 2, none⟩ (.int .i64 (s2 : Int))) := (Btw.refl b (b + 1) _).setCell (p := ⟨b, 2, none⟩) (by show b ≤ b; omega) (by show b < b + 1; omega) _
      have kB := ((Btw.refl b (b + 1) w1).drewN nq).trans kA
      refine bodyPost_ret (v := .int .i64 ((s2 / 65536 % 256 : Nat) : Int)) (by simp [results, Try.results48, go_sem]) rfl ?_
      rw [HV.out]
      exact ⟨rfl, Lib.hid ⟨src_seed (HX.out.drewN nq) s2, e2, HL.out, HZ.out.btw kB (Nat.le_refl _)⟩, HB.out.trans kB⟩

end Go.Proofs.Ytophgbjbinaekaa

/- The model's source of draws: next, chance, the source itself. -/
namespace Go.Proofs.Ytophgbjbinaekaa
open Go.RowKit

set_option maxRecDepth 100000 in
set_option maxHeartbeats 4000000 in
theorem srcNextX (N : Nat) (b : Nat) (A : Option Addr) (n c : Nat) (zs : List Nat) (k sd : Nat) (w : World) (hN : 2 ≤ N) (hN2 : N ≤ 256) (hK : k ≤ 1000000000) (h : SrcX w b A n c zs k sd) :
    Calls Try.prog 42 #[.pointer (some ⟨b, 0, none⟩), .int .i64 (N : Nat)] w fun e w' => e = .returned (.int .i64 ((byteV zs k sd).1 % N : Nat)) ∧ Hid (SrcX w' b A n c zs (byteV zs k sd).2.1 (byteV zs k sd).2.2) ∧ Btw b (b + 1) w w' := by
  have HC := Lib.hid (srcByteX b A n c zs k sd w hK h)
  have h1 : ¬ (N : Int) ≤ 1 := by omega
  have h2 : (N : Int) ≤ 256 := by omega
  have h3 : ¬ (N : Int) = 0 := by omega
  clear h
  go_enter Try.func42, Try.ntmps42
  go_wp2_with fail
  refine HC.out.mono ?_
  rintro e w1 ⟨rfl, S1, hb1⟩
  obtain ⟨v, hv⟩ : ∃ v, v = (byteV zs k sd).1 := ⟨_, rfl⟩
  rw [← hv]
  have HV := Lib.hid hv
  clear hv
  have v0 : (0 : Int) ≤ (v : Int) := by omega
  go_wp2
  have e1 : (v : Int) % (N : Int) = ((v % N : Nat) : Int) := by omega
  rw [e1]
  refine bodyPost_ret (v := .int .i64 ((v % N : Nat) : Int)) (by simp [results, Try.results42, go_sem]) rfl ?_
  exact ⟨by rw [HV.out], S1, hb1⟩

set_option maxRecDepth 100000 in
theorem srcNext (N : Nat) (b : Nat) (A : Option Addr) (n c : Nat) (zs : List Nat) (K : Nat) (w : World) (hN : 2 ≤ N) (hN2 : N ≤ 256) (hK : K ≤ 1000000000) (h : Src w b A n c zs K) :
    Calls Try.prog 42 #[.pointer (some ⟨b, 0, none⟩), .int .i64 (N : Nat)] w fun e w' => ∃ v : Nat, e = .returned (.int .i64 v) ∧ v < N ∧ Hid (Src w' b A n c zs (K + 1)) ∧ Btw b (b + 1) w w' := by
  obtain ⟨k, sd, hk, hx⟩ := h.exact
  refine (srcNextX N b A n c zs k sd w hN hN2 (by omega) hx).mono ?_
  rintro e w' ⟨rfl, h2, h3⟩
  exact ⟨_, rfl, Nat.mod_lt _ (by omega), Lib.hid (h2.out.src (by rw [byteV_at]; omega)), h3⟩

set_option maxRecDepth 100000 in
set_option maxHeartbeats 4000000 in
theorem srcChance (N : Nat) (b : Nat) (A : Option Addr) (n c : Nat) (zs : List Nat) (K : Nat) (w : World) (hN : 2 ≤ N) (hN2 : N ≤ 256) (hK : K ≤ 1000000000) (h : Src w b A n c zs K) :
    Calls Try.prog 43 #[.pointer (some ⟨b, 0, none⟩), .int .i64 (N : Nat)] w fun e w' => ∃ v : Bool, e = .returned (.bool v) ∧ Hid (Src w' b A n c zs (K + 1)) ∧ Btw b (b + 1) w w' := by
  have HC := Lib.hid (srcNext N b A n c zs K w hN hN2 hK h)
  clear h
  go_enter Try.func43, Try.ntmps43
  go_wp2_with fail
  refine HC.out.mono ?_
  rintro e w1 ⟨v, rfl, hv, S1, hb1⟩
  go_wp2
  refine bodyPost_ret (v := .bool ((v : Int) == (N : Int) - 1)) (by simp [results, Try.results43, go_sem]) rfl ?_
  exact ⟨_, rfl, S1, hb1⟩

set_option maxRecDepth 100000 in
set_option maxHeartbeats 4000000 in
theorem srcNewX (A : Option Addr) (n c : Nat) (zs : List Nat) (w : World) (hn : n ≤ maxLen) (hl : zs.length = n) (h : ByB w w.heap.size A zs) :
    Calls Try.prog 27 #[.slice A n c] w fun e w' => e = .returned (.pointer (some ⟨w.heap.size, 0, none⟩)) ∧ Hid (SrcX w' w.heap.size A n c zs 0 (n % 1000)) ∧ Below w.heap.size w w' := by
  unfold maxLen at hn
  go_enter Try.func27, Try.ntmps27
  go_wp2
  have e1 : (n : Int) % 1000 = ((n % 1000 : Nat) : Int) := by omega
  rw [e1]
  refine bodyPost_ret (v := .pointer (some ⟨w.heap.size, 0, none⟩)) (by simp [results, Try.results27, go_sem]) rfl ?_
  have hb := alloc_below w (.cells #[.slice A n c, .int .i64 0, .int .i64 ((n % 1000 : Nat) : Int)] 59)
  exact ⟨rfl, Lib.hid ⟨Box.new _ _ _, Nat.lt_of_lt_of_le (Nat.mod_lt _ (by omega)) (by omega), hl, h.btw (Btw.of_below hb w.heap.size (w.heap.size + 1)) (Nat.le_refl _)⟩, hb⟩

set_option maxRecDepth 100000 in
theorem srcNew (A : Option Addr) (n c : Nat) (zs : List Nat) (w : World) (hn : n ≤ maxLen) (hl : zs.length = n) (h : ByB w w.heap.size A zs) :
    Calls Try.prog 27 #[.slice A n c] w fun e w' => e = .returned (.pointer (some ⟨w.heap.size, 0, none⟩)) ∧ Hid (Src w' w.heap.size A n c zs 0) ∧ Below w.heap.size w w' := by
  refine (srcNewX A n c zs w hn hl h).mono ?_
  rintro e w' ⟨rfl, h2, h3⟩
  exact ⟨rfl, Lib.hid (h2.out.src (Nat.le_refl _)), h3⟩
end Go.Proofs.Ytophgbjbinaekaa

/- The source of draws, carried over what does not touch it. -/
namespace Go.Proofs.Ytophgbjbinaekaa
open Go.RowKit

theorem Src.below {w w' : World} {b B : Nat} {A : Option Addr} {n c : Nat} {zs : List Nat} {K : Nat} (h : Src w b A n c zs K) (hb : Below B w w') (ho : b < B) : Src w' b A n c zs K := by
  obtain ⟨k, sd, q1, q2, q3, q4, q5⟩ := h
  refine ⟨k, sd, q1.below hb ho, q2, q3, q4, fun i hi => ?_⟩
  obtain ⟨bb, off, e, p1, p2, p3⟩ := q5 i hi
  exact ⟨bb, off, e, p1, (hb.cell (by show bb < B; omega)).trans p2, p3⟩
theorem Src.drew {w : World} {b : Nat} {A : Option Addr} {n c : Nat} {zs : List Nat} {K : Nat} (h : Src w b A n c zs K) : Src w.drew b A n c zs K := h.below (Below.refl _ _).drew h.lt
theorem Src.alloc {w : World} {b : Nat} {A : Option Addr} {n c : Nat} {zs : List Nat} {K : Nat} (h : Src w b A n c zs K) (o : Obj) : Src (w.alloc o) b A n c zs K := h.below (alloc_below w o) h.lt
theorem ByB.step {w w' : World} {A : Option Addr} {zs : List Nat} (h : ByB w w.heap.size A zs) (hb : Below w.heap.size w w') : ByB w' w'.heap.size A zs := fun i hi => by
  obtain ⟨b, off, e, q1, q2, q3⟩ := h i hi
  exact ⟨b, off, e, Nat.lt_of_lt_of_le q1 hb.size, (hb.cell q1).trans q2, q3⟩
end Go.Proofs.Ytophgbjbinaekaa

/- Appending one element to a slice of the call's own; what such a slice is good for. -/
namespace Go.Proofs.Ytophgbjbinaekaa
open Go.RowKit

structure Elem (P : Program) (e : TypeId) (z : Value) (size bytes : Nat) : Prop where
  info : ∃ i : TypeInfo, P.info? e = some i ∧ i.zero = some z ∧ i.size = size ∧ i.bytes = bytes
  cells : z.cells.size = size
  pos : 0 < size

abbrev RowV (w : World) (base : Nat) (e : TypeId) (size : Nat) (v : Value) (n : Nat) (xs : List Value) : Prop := w.ownsRow base e size v n xs

theorem rowv_form {w : World} {base n : Nat} {e : TypeId} {size : Nat} {v : Value} {xs : List Value} (h : w.ownsRow base e size v n xs) : ∃ A cap, v = .slice A n cap ∧ n ≤ cap := by
  rcases h.2 with ⟨rfl, rfl⟩ | ⟨g, cap, cur, rfl, _, _, q, _⟩
  · exact ⟨none, 0, rfl, Nat.le_refl _⟩
  · exact ⟨_, cap, rfl, q⟩
def GroI (w : World) (base : Nat) (v : Value) (zs : List Int) : Prop := w.ownsRow base 3 1 v zs.length (zs.map (Value.int .i64))
def GroS (w : World) (base : Nat) (v : Value) (ss : List ByteArray) : Prop := w.ownsRow base 9 1 v ss.length (ss.map Value.string)
theorem GroI.own {w : World} {base lo : Nat} {A : Option Addr} {n c : Nat} {zs : List Int} (h : GroI w base (.slice A n c) zs) (hb : lo ≤ base) : OwnI w lo w.heap.size A zs := by
  obtain ⟨h1, ⟨h0, h2⟩ | ⟨g, cap, cur, hv, q1, q2, q3, q4, q5, q6⟩⟩ := h
  · exact .inl (List.eq_nil_of_length_eq_zero h2)
  · injection hv with hv1 hv2 hv3
    refine .inr ⟨g, cap, fun i => cur.getD i (.int .i64 0), hv1, by omega, (Array.getElem?_eq_some_iff.1 q2).1, q3, ⟨cur, q2, by omega, fun i hi => ?_⟩, fun i hi => ?_⟩
    · simp [Array.getElem?_eq_getElem (show i < cur.size by omega)]
    · have : (cur.toList.take (zs.length * 1))[i]? = (zs.map (Value.int .i64))[i]? := by rw [q6]
      rw [List.getElem?_take, if_pos (by omega), Array.getElem?_toList, List.getElem?_map, List.getElem?_eq_getElem hi] at this
      simp [this, List.getD_eq_getElem?_getD, List.getElem?_eq_getElem hi]
theorem GroS.own {w : World} {base lo : Nat} {A : Option Addr} {n c : Nat} {ss : List ByteArray} (h : GroS w base (.slice A n c) ss) (hb : lo ≤ base) : OwnS w lo w.heap.size A ss := by
  obtain ⟨h1, ⟨h0, h2⟩ | ⟨g, cap, cur, hv, q1, q2, q3, q4, q5, q6⟩⟩ := h
  · exact .inl (List.eq_nil_of_length_eq_zero h2)
  · injection hv with hv1 hv2 hv3
    refine .inr ⟨g, cap, fun i => cur.getD i (.int .i64 0), hv1, by omega, (Array.getElem?_eq_some_iff.1 q2).1, q3, ⟨cur, q2, by omega, fun i hi => ?_⟩, fun i hi => ?_⟩
    · simp [Array.getElem?_eq_getElem (show i < cur.size by omega)]
    · have : (cur.toList.take (ss.length * 1))[i]? = (ss.map Value.string)[i]? := by rw [q6]
      rw [List.getElem?_take, if_pos (by omega), Array.getElem?_toList, List.getElem?_map, List.getElem?_eq_getElem hi] at this
      simp [this, List.getD_eq_getElem?_getD, List.getElem?_eq_getElem hi]
theorem GroI.len {w : World} {base : Nat} {A : Option Addr} {n c : Nat} {zs : List Int} (h : GroI w base (.slice A n c) zs) : zs.length = n := by
  obtain ⟨A', cap, hv, _⟩ := rowv_form h
  injection hv with _ hv2 _; exact hv2.symm
theorem GroS.len {w : World} {base : Nat} {A : Option Addr} {n c : Nat} {ss : List ByteArray} (h : GroS w base (.slice A n c) ss) : ss.length = n := by
  obtain ⟨A', cap, hv, _⟩ := rowv_form h
  injection hv with _ hv2 _; exact hv2.symm
end Go.Proofs.Ytophgbjbinaekaa

/- A region that draws its order, walked once by facts: each operation, once carried out, has its fact; a fact is kept by whatever comes behind it. -/
namespace Go.Proofs.Ytophgbjbinaekaa
open Go.RowKit

def mask (l : List Nat) (T : Array Value) : Nat → Value := fun s => if l.contains s then T.getD s undef else undef
def regOk (ops : Array Oper) (sup bef : List (List Nat)) (base : List Nat) : Bool :=
  ((List.range ops.size).all fun i => match ops[i]? with
    | none => false
    | some o => o.guard.isNone && ((o.after.all fun e => !Region.binds .any e || decide (e.on < i)) && (((bef.getD i []).all fun j => o.after.any fun e => Region.binds .any e && (e.on == j || (bef.getD e.on []).contains j)) &&
        ((sup.getD i []).all fun s => (List.range ops.size).all fun j => (match ops[j]? with | some oj => oj.dst != some s | none => true) || ((j == i) || (bef.getD i []).contains j))))) &&
  (base.all fun s => (List.range ops.size).all fun j => match ops[j]? with | some oj => oj.dst != some s | none => true)

section
variable {P : Program} {ops : Array Oper} {Q : Exit → Act → World → Prop} {sup bef : List (List Nat)} {base : List Nat} {a : Act}

def StepF (P : Program) (Q : Exit → Act → World → Prop) (sup bef : List (List Nat)) (base : List Nat) (a : Act) (C : World → Prop) (F : Nat → (Nat → Value) → World → Prop) (i : Nat) (o : Oper) : Prop :=
  ∀ (T : Array Value) (W : World), T.size = a.tmps.size → (∀ s ∈ base, T.getD s undef = a.tmps.getD s undef) → C W → (∀ j ∈ bef.getD i [], F j (mask (sup.getD j []) T) W) →
    ∀ K : Act → World → Prop, Shut (∀ v W', C W' → (∀ j t, j ≠ i → F j t W → F j t W') → F i (mask (sup.getD i []) (Act.put { a with tmps := T } o.dst v).tmps) W' → K (Act.put { a with tmps := T } o.dst v) W') →
      Oper.wp P o { a with tmps := T } W K Q
def StepsF (P : Program) (Q : Exit → Act → World → Prop) (sup bef : List (List Nat)) (base : List Nat) (a : Act) (C : World → Prop) (F : Nat → (Nat → Value) → World → Prop) : Nat → List Oper → Prop
  | _, [] => True
  | i, o :: l => StepF P Q sup bef base a C F i o ∧ StepsF P Q sup bef base a C F (i + 1) l
theorem StepsF.get {C : World → Prop} {F : Nat → (Nat → Value) → World → Prop} : ∀ {l : List Oper} {i : Nat}, StepsF P Q sup bef base a C F i l → ∀ j o, l[j]? = some o → StepF P Q sup bef base a C F (i + j) o
  | [], _, _, j, o, h => by simp at h
  | o' :: l, i, hs, 0, o, h => by simp at h; subst h; exact hs.1
  | o' :: l, i, hs, j + 1, o, h => by
    have := StepsF.get hs.2 j o (by simpa using h)
    rwa [show i + 1 + j = i + (j + 1) by omega] at this

structure InvF (ops : Array Oper) (sup bef : List (List Nat)) (base : List Nat) (a : Act) (C : World → Prop) (F : Nat → (Nat → Value) → World → Prop) (L : Array Bool) (T : Array Value) (W : World) : Prop where
  size : T.size = a.tmps.size
  same : ∀ s ∈ base, T.getD s undef = a.tmps.getD s undef
  c : C W
  lsz : L.size = ops.size
  down : ∀ i, L.getD i false = true → ∀ j ∈ bef.getD i [], L.getD j false = true
  fact : ∀ i, L.getD i false = true → F i (mask (sup.getD i []) T) W

theorem getD_set_bool (L : Array Bool) (i j : Nat) (hi : i < L.size) : (L.setIfInBounds i true).getD j false = if j = i then true else L.getD j false := by
  simp only [Array.getD_eq_getD_getElem?]
  rw [Array.getElem?_setIfInBounds]
  by_cases h : i = j
  · subst h; simp [hi]
  · rw [if_neg h, if_neg (fun q => h q.symm)]
theorem getD_set_val (T : Array Value) (d s : Nat) (v : Value) (h : s ≠ d) : (T.setIfInBounds d v).getD s undef = T.getD s undef := by
  simp only [Array.getD_eq_getD_getElem?]
  rw [Array.getElem?_setIfInBounds, if_neg (fun q => h q.symm)]

theorem regOk_spec (h : regOk ops sup bef base = true) :
    (∀ (i : Nat) (o : Oper), ops[i]? = some o → o.guard = none ∧ (∀ e ∈ o.after, Region.binds .any e = true → e.on < i) ∧ (∀ j ∈ bef.getD i [], ∃ e ∈ o.after, Region.binds .any e = true ∧ (e.on = j ∨ j ∈ bef.getD e.on [])) ∧ (∀ s ∈ sup.getD i [], ∀ (j : Nat) (oj : Oper), ops[j]? = some oj → oj.dst = some s → j = i ∨ j ∈ bef.getD i [])) ∧
    (∀ s ∈ base, ∀ (j : Nat) (oj : Oper), ops[j]? = some oj → oj.dst ≠ some s) := by
  unfold regOk at h
  rw [Bool.and_eq_true, List.all_eq_true, List.all_eq_true] at h
  refine ⟨fun i o ho => ?_, fun s hs j oj hj hd => ?_⟩
  · have hi : i < ops.size := (Array.getElem?_eq_some_iff.1 ho).1
    have := h.1 i (List.mem_range.2 hi)
    rw [ho] at this
    simp only [Bool.and_eq_true, Array.all_eq_true_iff_forall_mem, List.all_eq_true, decide_eq_true_eq, Option.isNone_iff_eq_none] at this
    obtain ⟨h1, h2, h3, h4⟩ := this
    refine ⟨h1, fun e he hbd => ?_, fun j hj => ?_, fun s hs j oj hoj hd => ?_⟩
    · have := h2 e he
      rw [hbd] at this
      simpa using this
    · have := h3 j hj
      obtain ⟨e, he, hb⟩ := Array.any_eq_true'.1 this
      simp only [Bool.and_eq_true, Bool.or_eq_true, beq_iff_eq, List.contains_iff_mem] at hb
      exact ⟨e, he, hb⟩
    · have hj : j < ops.size := (Array.getElem?_eq_some_iff.1 hoj).1
      have := h4 s hs j (List.mem_range.2 hj)
      rw [hoj] at this
      simp only [hd, Bool.or_eq_true, bne_self_eq_false, beq_iff_eq, List.contains_iff_mem] at this
      simpa using this
  · have hj' : j < ops.size := (Array.getElem?_eq_some_iff.1 hj).1
    have := List.all_eq_true.1 (h.2 s hs) j (List.mem_range.2 hj')
    rw [hj] at this
    simp [hd] at this

theorem ready_nil_all {L : Array Bool} (hL : L.size = ops.size) (hlow : ∀ (i : Nat) (o : Oper), ops[i]? = some o → ∀ e ∈ o.after, Region.binds .any e = true → e.on < i) (h : Region.ready .any ops L = []) : ∀ i, i < ops.size → L.getD i false = true := by
  intro i
  induction i using Nat.strongRecOn with
  | ind i ih =>
    intro hi
    by_cases hl : L.getD i false = true
    · exact hl
    · exfalso
      have hm : i ∈ Region.ready .any ops L := mem_ready.2 ⟨by
        simp only [Array.getD_eq_getD_getElem?] at hl ⊢
        rw [Array.getElem?_eq_getElem (by omega)] at hl ⊢
        simpa using hl, ops[i], Array.getElem?_eq_getElem hi, fun e he hbd => ih e.on (hlow i _ (Array.getElem?_eq_getElem hi) e he hbd) (by have := hlow i _ (Array.getElem?_eq_getElem hi) e he hbd; omega)⟩
      rw [h] at hm
      cases hm

end
end Go.Proofs.Ytophgbjbinaekaa

/- A region that draws its order, walked once by facts; what holds of the world may hang on which operations have come up. -/
namespace Go.Proofs.Ytophgbjbinaekaa
open Go.RowKit
section
variable {P : Program} {ops : Array Oper} {Q : Exit → Act → World → Prop} {sup bef : List (List Nat)} {base : List Nat} {a : Act}
def StepG (P : Program) (Q : Exit → Act → World → Prop) (sup bef : List (List Nat)) (base : List Nat) (a : Act) (C : (Nat → Bool) → World → Prop) (F : Nat → (Nat → Value) → World → Prop) (i : Nat) (o : Oper) : Prop :=
  ∀ (L : Nat → Bool) (T : Array Value) (W : World), T.size = a.tmps.size → (∀ s ∈ base, T.getD s undef = a.tmps.getD s undef) → L i = false → (∀ j ∈ bef.getD i [], L j = true) → (∀ k, L k = true → ∀ j ∈ bef.getD k [], L j = true) → C L W → (∀ j ∈ bef.getD i [], F j (mask (sup.getD j []) T) W) →
    ∀ K : Act → World → Prop, Shut (∀ v W', C (fun j => if j = i then true else L j) W' → (∀ j t, j ≠ i → F j t W → F j t W') → F i (mask (sup.getD i []) (Act.put { a with tmps := T } o.dst v).tmps) W' → K (Act.put { a with tmps := T } o.dst v) W') →
      Oper.wp P o { a with tmps := T } W K Q
def StepsG (P : Program) (Q : Exit → Act → World → Prop) (sup bef : List (List Nat)) (base : List Nat) (a : Act) (C : (Nat → Bool) → World → Prop) (F : Nat → (Nat → Value) → World → Prop) : Nat → List Oper → Prop
  | _, [] => True
  | i, o :: l => StepG P Q sup bef base a C F i o ∧ StepsG P Q sup bef base a C F (i + 1) l
theorem StepsG.get {C : (Nat → Bool) → World → Prop} {F : Nat → (Nat → Value) → World → Prop} : ∀ {l : List Oper} {i : Nat}, StepsG P Q sup bef base a C F i l → ∀ j o, l[j]? = some o → StepG P Q sup bef base a C F (i + j) o
  | [], _, _, j, o, h => by simp at h
  | o' :: l, i, hs, 0, o, h => by simp at h; subst h; exact hs.1
  | o' :: l, i, hs, j + 1, o, h => by
    have := StepsG.get hs.2 j o (by simpa using h)
    rwa [show i + 1 + j = i + (j + 1) by omega] at this
structure InvG (ops : Array Oper) (sup bef : List (List Nat)) (base : List Nat) (a : Act) (C : (Nat → Bool) → World → Prop) (F : Nat → (Nat → Value) → World → Prop) (L : Array Bool) (T : Array Value) (W : World) : Prop where
  size : T.size = a.tmps.size
  same : ∀ s ∈ base, T.getD s undef = a.tmps.getD s undef
  c : C (fun j => L.getD j false) W
  lsz : L.size = ops.size
  down : ∀ i, L.getD i false = true → ∀ j ∈ bef.getD i [], L.getD j false = true
  fact : ∀ i, L.getD i false = true → F i (mask (sup.getD i []) T) W
theorem wpAny_sets (hok : regOk ops sup bef base = true) (C : (Nat → Bool) → World → Prop) (F : Nat → (Nat → Value) → World → Prop)
    (hstep : StepsG P Q sup bef base a C F 0 ops.toList)
    (hend : ∀ T W, T.size = a.tmps.size → (∀ s ∈ base, T.getD s undef = a.tmps.getD s undef) → (∃ L : Nat → Bool, (∀ i, i < ops.size → L i = true) ∧ C L W) → (∀ i, i < ops.size → F i (mask (sup.getD i []) T) W) → Q .normal { a with tmps := T } W) :
    ∀ (fuel : Nat) (L : Array Bool) (T : Array Value) (W : World), InvG ops sup bef base a C F L T W → (L.toList.count false ≤ fuel) → wpAny P .any ops Q fuel L { a with tmps := T } W := by
  obtain ⟨hops, hbase⟩ := regOk_spec hok
  have hlow := fun i o ho => (hops i o ho).2.1
  have fin : ∀ L T W, InvG ops sup bef base a C F L T W → Region.ready .any ops L = [] → Q .normal { a with tmps := T } W := fun L T W I hr => hend T W I.size I.same ⟨fun j => L.getD j false, ready_nil_all I.lsz hlow hr, I.c⟩ (fun i hi => I.fact i (ready_nil_all I.lsz hlow hr i hi))
  intro fuel
  induction fuel with
  | zero =>
    intro L T W I hf
    have hr : Region.ready .any ops L = [] := by
      apply List.eq_nil_iff_forall_not_mem.2
      intro j hj
      obtain ⟨h1, o, ho, _⟩ := mem_ready.1 hj
      have hjl : j < L.size := by rw [I.lsz]; exact (Array.getElem?_eq_some_iff.1 ho).1
      have : false ∈ L.toList := by
        simp only [Array.getD_eq_getD_getElem?] at h1
        rw [Array.getElem?_eq_getElem hjl] at h1
        simp only [Option.getD_some] at h1
        rw [← h1]
        simp
      have := List.count_pos_iff.2 this
      omega
    exact ⟨hr, fin L T W I hr⟩
  | succ fuel ih =>
    intro L T W I hf
    refine ⟨fin L T W I, fun i hi => ?_⟩
    obtain ⟨h1, o, ho, hall⟩ := mem_ready.1 hi
    have hil : i < L.size := by rw [I.lsz]; exact (Array.getElem?_eq_some_iff.1 ho).1
    have hlf : L.getD i false = false := by
      simp only [Array.getD_eq_getD_getElem?] at h1 ⊢
      rw [Array.getElem?_eq_getElem hil] at h1 ⊢
      simpa using h1
    obtain ⟨hg, hlo, hbf, hsp⟩ := hops i o ho
    have hbef : ∀ j ∈ bef.getD i [], L.getD j false = true := fun j hj => by
      obtain ⟨e, he, hb, q⟩ := hbf j hj
      have he' := hall e he hb
      rcases q with rfl | q
      · exact he'
      · exact I.down e.on he' j q
    have hs : StepG P Q sup bef base a C F i o := by
      have := hstep.get i o (by simpa using ho)
      simpa using this
    refine wpOp_step ho (fun K' hK => ?_)
    rw [if_pos (by simp [Region.wanted, hg])]
    refine hs (fun j => L.getD j false) T W I.size I.same hlf hbef (fun k hk j hj => I.down k hk j hj) I.c (fun j hj => I.fact j (hbef j hj)) K' (fun v W' hc hkeep hnew => hK _ _ ?_)
    have hnotin : ∀ k, L.getD k false = true → k ≠ i := fun k hk e => by subst e; rw [hlf] at hk; cases hk
    have hput : (Act.put { a with tmps := T } o.dst v) = { a with tmps := (Act.put { a with tmps := T } o.dst v).tmps } := by
      unfold Act.put; cases o.dst <;> rfl
    have hslot : ∀ s, o.dst ≠ some s → (Act.put { a with tmps := T } o.dst v).tmps.getD s undef = T.getD s undef := fun s hd => by
      cases hdd : o.dst with
      | none => rfl
      | some d => exact getD_set_val T d s v (fun e => hd (by rw [hdd, e]))
    rw [hput]
    refine ih _ _ W' ⟨?_, ?_, ?_, by simpa using I.lsz, ?_, ?_⟩ ?_
    · rw [← I.size]; cases hdd : o.dst <;> simp [Act.put]
    · intro s hsb
      rw [hslot s (hbase s hsb i o ho)]
      exact I.same s hsb
    · have e : (fun j => (L.setIfInBounds i true).getD j false) = fun j => if j = i then true else L.getD j false := funext fun j => getD_set_bool L i j hil
      show C (fun j => (L.setIfInBounds i true).getD j false) W'
      rw [e]; exact hc
    · intro k hk j hj
      rw [getD_set_bool L i k hil] at hk
      rw [getD_set_bool L i j hil]
      by_cases hki : k = i
      · subst hki
        rw [hbef j hj]; simp
      · rw [if_neg hki] at hk
        rw [I.down k hk j hj]; simp
    · intro k hk
      rw [getD_set_bool L i k hil] at hk
      by_cases hki : k = i
      · subst hki; exact hnew
      · rw [if_neg hki] at hk
        have hF := hkeep k _ hki (I.fact k hk)
        have hmk : mask (sup.getD k []) (Act.put { a with tmps := T } o.dst v).tmps = mask (sup.getD k []) T := by
          funext s
          unfold mask
          by_cases hsup : s ∈ sup.getD k []
          · rw [if_pos (List.contains_iff_mem.2 hsup), if_pos (List.contains_iff_mem.2 hsup)]
            refine hslot s (fun hd => ?_)
            have hko : k < ops.size := by
              rw [← I.lsz]
              apply Classical.byContradiction
              intro hn
              simp only [Array.getD_eq_getD_getElem?] at hk
              rw [Array.getElem?_eq_none (by omega)] at hk
              cases hk
            rcases (hops k _ (Array.getElem?_eq_getElem hko)).2.2.2 s hsup i o ho hd with q | q
            · exact hki q.symm
            · have := I.down k hk i q
              rw [hlf] at this
              cases this
          · rw [if_neg (fun q => hsup (List.contains_iff_mem.1 q)), if_neg (fun q => hsup (List.contains_iff_mem.1 q))]
        rw [hmk]; exact hF
    · have hset : (L.setIfInBounds i true).toList = L.toList.set i true := by simp
      rw [hset]
      have hct : (L.toList.set i true).count false + 1 = L.toList.count false := by
        have hx : L.toList[i]'(by simpa using hil) = false := by
          simp only [Array.getD_eq_getD_getElem?] at hlf
          rw [Array.getElem?_eq_getElem hil] at hlf
          simpa using hlf
        rw [List.count_set (by simpa using hil)]
        have hpos : 0 < L.toList.count false := List.count_pos_iff.2 (by rw [← hx]; exact List.getElem_mem _)
        rw [hx]
        simp only [beq_self_eq_true, if_true, show (true == false) = false from rfl, Bool.false_eq_true, if_false]
        omega
      omega

theorem wp_region_sets {id : Nat} {w : World} (hm : P.follows .mixedOrders = true) (sup bef : List (List Nat)) (base : List Nat) (hok : regOk ops sup bef base = true) (C : (Nat → Bool) → World → Prop) (F : Nat → (Nat → Value) → World → Prop) (hC : C (fun _ => false) w.drew)
    (hstep : StepsG P Q sup bef base a C F 0 ops.toList)
    (hend : ∀ T W, T.size = a.tmps.size → (∀ s ∈ base, T.getD s undef = a.tmps.getD s undef) → (∃ L : Nat → Bool, (∀ i, i < ops.size → L i = true) ∧ C L W) → (∀ i, i < ops.size → F i (mask (sup.getD i []) T) W) → Q .normal { a with tmps := T } W) :
    (Code.region id ops true).wp P Q a w := by
  refine wp_region_any hm ?_
  have := wpAny_sets hok C F hstep hend ops.size (Array.replicate ops.size false) a.tmps w.drew ⟨rfl, fun _ _ => rfl, by
    have e : (fun j => (Array.replicate ops.size false).getD j false) = fun _ => false := funext fun j => by simp only [Array.getD_eq_getD_getElem?]; rw [Array.getElem?_replicate]; split <;> rfl
    show C (fun j => (Array.replicate ops.size false).getD j false) w.drew
    rw [e]; exact hC, by simp, fun i hi => ?_, fun i hi => ?_⟩ (by simp)
  · exact this
  all_goals (
    exfalso
    simp only [Array.getD_eq_getD_getElem?] at hi
    rw [Array.getElem?_replicate] at hi
    split at hi <;> simp at hi)
end
end Go.Proofs.Ytophgbjbinaekaa
