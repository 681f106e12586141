/- Texts of this claim, one behind the other: Mem, EqDisk, Own, ToDisk, Ints, SzDisk, IntsMore, Mark, BoxDisk, Bools, Flash, OkDisk, FlashOk, FlashBits, AppFresh, AppNew, App. -/
import Derived.WalkKit
import Derived.WalkSpells
import Derived.Lib.Hide
import Derived.Below
import Derived.WalkSmall
import Derived.Test.YtcchhbkbnbphhaaGreatDoorRows
import Derived.Deep.QuietTactic
import Derived.BigQuiet
import Derived.StillTailTactics
import Derived.Deep.OwnRows
import Derived.Deep.RegionHeld3
import Derived.Laws.IdiomStrings
import Derived.Laws.BitsLemmas
import Derived.Laws.AppendOwn
import Derived.OwnWalk
/- Words for memory: slices of strings, of writes, of integers as lists; what keeps them. Nothing here is of one program. -/
namespace Go.Proofs.YtcchhbkbnbphhaaGreatDoor
open Go.RowKit

def StrL (w : World) (A : Option Addr) (ss : List ByteArray) : Prop :=
  ∀ i, i < ss.length → ∃ b off, A = some ⟨b, off, none⟩ ∧ w.cell? ⟨b, off + i, none⟩ = some (.string (ss.getD i ByteArray.empty))
def WrL (w : World) (A : Option Addr) (ws : List (Int × ByteArray)) : Prop :=
  ∀ i, i < ws.length → ∃ b off, A = some ⟨b, off, none⟩ ∧ w.cell? ⟨b, off + i * 2, none⟩ = some (.int .i64 (ws.getD i (0, ByteArray.empty)).1) ∧
    w.cell? ⟨b, off + i * 2 + 1, none⟩ = some (.string (ws.getD i (0, ByteArray.empty)).2)
def IntL (w : World) (A : Option Addr) (zs : List Int) : Prop :=
  ∀ i, i < zs.length → ∃ b off, A = some ⟨b, off, none⟩ ∧ w.cell? ⟨b, off + i, none⟩ = some (.int .i64 (zs.getD i 0))

theorem cell_lt {w : World} {p : Addr} {v : Value} (h : w.cell? p = some v) : p.block < w.heap.size := by
  rcases Nat.lt_or_ge p.block w.heap.size with h1 | h1
  · exact h1
  · unfold World.cell? at h
    rw [Array.getElem?_eq_none h1] at h
    cases h

def Keep (keep : Nat → Prop) (w w' : World) : Prop := ∀ p : Addr, keep p.block → p.block < w.heap.size → w'.cell? p = w.cell? p

theorem Keep.of_below {B : Nat} {w w' : World} (h : Below B w w') : Keep (fun b => b < B) w w' := fun _ hp _ => h.cell hp

theorem StrL.below {w w' : World} {A : Option Addr} {ss : List ByteArray} (h : StrL w A ss) (hb : Below w.heap.size w w') : StrL w' A ss := fun i hi => by
  obtain ⟨b, off, e, hc⟩ := h i hi
  exact ⟨b, off, e, (hb.cell (cell_lt hc)).trans hc⟩
theorem WrL.below {w w' : World} {A : Option Addr} {ws : List (Int × ByteArray)} (h : WrL w A ws) (hb : Below w.heap.size w w') : WrL w' A ws := fun i hi => by
  obtain ⟨b, off, e, hc, hd⟩ := h i hi
  exact ⟨b, off, e, (hb.cell (cell_lt hc)).trans hc, (hb.cell (cell_lt hd)).trans hd⟩
theorem IntL.below {w w' : World} {A : Option Addr} {zs : List Int} (h : IntL w A zs) (hb : Below w.heap.size w w') : IntL w' A zs := fun i hi => by
  obtain ⟨b, off, e, hc⟩ := h i hi
  exact ⟨b, off, e, (hb.cell (cell_lt hc)).trans hc⟩

theorem bt {a b c : World} (h : Below a.heap.size a b) (k : Below b.heap.size b c) : Below a.heap.size a c := h.trans (k.mono h.size)

theorem ret_bool {a b : Bool} (h : a = b) : Ending.returned (.bool a) = .returned (.bool b) := by rw [h]
theorem ret_int {a b : Int} (h : a = b) : Ending.returned (.int .i64 a) = .returned (.int .i64 b) := by rw [h]

end Go.Proofs.YtcchhbkbnbphhaaGreatDoor

/- Contracts of the comparisons: eqStringS, eqWrite, eqWriteS, eqDisk. -/
namespace Go.Proofs.YtcchhbkbnbphhaaGreatDoor
open Go.RowKit

end Go.Proofs.YtcchhbkbnbphhaaGreatDoor

/- Slices in memory of the call's own: rows between two block numbers; what a call that writes only there keeps. -/
namespace Go.Proofs.YtcchhbkbnbphhaaGreatDoor
open Go.RowKit

structure Btw (lo hi : Nat) (w w' : World) : Prop where
  os : w'.os = w.os
  tape : w'.tape = w.tape
  output : w'.output = w.output
  size : w.heap.size ≤ w'.heap.size
  block : ∀ k, k < w.heap.size → k < lo ∨ hi ≤ k → w'.heap[k]? = w.heap[k]?

theorem Btw.refl (lo hi : Nat) (w : World) : Btw lo hi w w := ⟨rfl, rfl, rfl, Nat.le_refl _, fun _ _ _ => rfl⟩
theorem Btw.trans {lo hi : Nat} {a b c : World} (h : Btw lo hi a b) (k : Btw lo hi b c) : Btw lo hi a c :=
  ⟨k.os.trans h.os, k.tape.trans h.tape, k.output.trans h.output, Nat.le_trans h.size k.size, fun i hi' ho => (k.block i (Nat.lt_of_lt_of_le hi' h.size) ho).trans (h.block i hi' ho)⟩
theorem Btw.of_below {w w' : World} (h : Below w.heap.size w w') (lo hi : Nat) : Btw lo hi w w' := ⟨h.os, h.tape, h.output, h.size, fun k hk _ => h.block k hk⟩
theorem Btw.below {lo hi : Nat} {w w' : World} (h : Btw lo hi w w') (hl : lo ≤ w.heap.size) : Below lo w w' := ⟨h.os, h.tape, h.output, h.size, fun k hk => h.block k (Nat.lt_of_lt_of_le hk hl) (.inl hk)⟩
theorem Btw.wide {lo hi lo' hi' : Nat} {w w' : World} (h : Btw lo hi w w') (h1 : lo' ≤ lo) (h2 : hi ≤ hi') : Btw lo' hi' w w' :=
  ⟨h.os, h.tape, h.output, h.size, fun k hk ho => h.block k hk (by omega)⟩
theorem Btw.drewN {lo hi : Nat} {a w : World} (h : Btw lo hi a w) (n : Nat) : Btw lo hi a (w.drewN n) := ⟨h.os, h.tape, h.output, h.size, h.block⟩
theorem Btw.drew {lo hi : Nat} {a w : World} (h : Btw lo hi a w) : Btw lo hi a w.drew := ⟨h.os, h.tape, h.output, h.size, h.block⟩
theorem Btw.alloc {lo hi : Nat} {a w : World} (h : Btw lo hi a w) (o : Obj) : Btw lo hi a (w.alloc o) := h.trans (Btw.of_below ((Below.refl _ _).alloc (Nat.le_refl _) o) lo hi)
theorem Btw.setCell {lo hi : Nat} {a w : World} (h : Btw lo hi a w) {p : Addr} (h1 : lo ≤ p.block) (h2 : p.block < hi) (u : Value) : Btw lo hi a (w.setCell p u) :=
  ⟨h.os, h.tape, h.output, by simpa [World.setCell] using h.size, fun k hk ho => (Below.heap_setCell w p u k (by omega)).trans (h.block k hk ho)⟩
theorem Btw.put {b : Nat} {a w : World} (h : Btw b (b + 1) a w) {i : Nat} {v : Value} : Btw b (b + 1) a (w.setCell ⟨b, i, none⟩ v) := h.setCell (Nat.le_refl _) (Nat.lt_succ_self _) v
theorem Btw.cell {lo hi : Nat} {w w' : World} (h : Btw lo hi w w') {p : Addr} {v : Value} (hc : w.cell? p = some v) (ho : p.block < lo ∨ hi ≤ p.block) : w'.cell? p = some v :=
  (World.cell?_of_block (w := w) (h.block p.block (cell_lt hc) ho)).trans hc
theorem Btw.row {lo hi : Nat} {w w' : World} (h : Btw lo hi w w') {b : Nat} {t : TypeId} {n : Nat} {f : Nat → Value} (hr : w.rowIs b t n f) (ho : b < lo ∨ hi ≤ b) : w'.rowIs b t n f :=
  hr.of_block (h.block b hr.lt ho)
theorem row_below {B : Nat} {w w' : World} (h : Below B w w') {b : Nat} {t : TypeId} {n : Nat} {f : Nat → Value} (hr : w.rowIs b t n f) (ho : b < B) : w'.rowIs b t n f := hr.of_block (h.block b ho)
theorem row_ne {w : World} {b b' : Nat} {t t' : TypeId} {n n' : Nat} {f f' : Nat → Value} (h : w.rowIs b t n f) (h' : w.rowIs b' t' n' f') (ht : t ≠ t') : b ≠ b' := by
  rintro rfl
  obtain ⟨c, hc, _⟩ := h
  obtain ⟨c', hc', _⟩ := h'
  rw [hc] at hc'
  injection hc' with e
  injection e with _ e2
  exact ht e2

def OwnS (w : World) (lo hi : Nat) (A : Option Addr) (ss : List ByteArray) : Prop :=
  ss = [] ∨ ∃ b m f, A = some ⟨b, 0, none⟩ ∧ lo ≤ b ∧ b < hi ∧ ss.length ≤ m ∧ w.rowIs b 9 m f ∧ ∀ i, i < ss.length → f i = .string (ss.getD i ByteArray.empty)
def OwnI (w : World) (lo hi : Nat) (A : Option Addr) (zs : List Int) : Prop :=
  zs = [] ∨ ∃ b m f, A = some ⟨b, 0, none⟩ ∧ lo ≤ b ∧ b < hi ∧ zs.length ≤ m ∧ w.rowIs b 3 m f ∧ ∀ i, i < zs.length → f i = .int .i64 (zs.getD i 0)

theorem OwnS.reads {w : World} {lo hi : Nat} {A : Option Addr} {ss : List ByteArray} (h : OwnS w lo hi A ss) : StrL w A ss := fun i hi' => by
  rcases h with rfl | ⟨b, m, f, e, _, _, hm, hr, hf⟩
  · simp at hi'
  · exact ⟨b, 0, e, by rw [← hf i hi', Nat.zero_add]; exact hr.cell (by omega)⟩
theorem OwnI.reads {w : World} {lo hi : Nat} {A : Option Addr} {zs : List Int} (h : OwnI w lo hi A zs) : IntL w A zs := fun i hi' => by
  rcases h with rfl | ⟨b, m, f, e, _, _, hm, hr, hf⟩
  · simp at hi'
  · exact ⟨b, 0, e, by rw [← hf i hi', Nat.zero_add]; exact hr.cell (by omega)⟩
theorem OwnS.btw {w w' : World} {lo hi l h' : Nat} {A : Option Addr} {ss : List ByteArray} (h : OwnS w lo hi A ss) (hb : Btw l h' w w') (ho : hi ≤ l ∨ h' ≤ lo) : OwnS w' lo hi A ss := by
  rcases h with e | ⟨b, m, f, e, h1, h2, hm, hr, hf⟩
  · exact .inl e
  · exact .inr ⟨b, m, f, e, h1, h2, hm, hb.row hr (by omega), hf⟩
theorem OwnI.btw {w w' : World} {lo hi l h' : Nat} {A : Option Addr} {zs : List Int} (h : OwnI w lo hi A zs) (hb : Btw l h' w w') (ho : hi ≤ l ∨ h' ≤ lo) : OwnI w' lo hi A zs := by
  rcases h with e | ⟨b, m, f, e, h1, h2, hm, hr, hf⟩
  · exact .inl e
  · exact .inr ⟨b, m, f, e, h1, h2, hm, hb.row hr (by omega), hf⟩
theorem OwnS.below {w w' : World} {lo hi : Nat} {A : Option Addr} {ss : List ByteArray} (h : OwnS w lo hi A ss) (hb : Below w.heap.size w w') : OwnS w' lo hi A ss := h.btw (Btw.of_below hb hi hi) (.inl (Nat.le_refl _))
theorem OwnI.below {w w' : World} {lo hi : Nat} {A : Option Addr} {zs : List Int} (h : OwnI w lo hi A zs) (hb : Below w.heap.size w w') : OwnI w' lo hi A zs := h.btw (Btw.of_below hb hi hi) (.inl (Nat.le_refl _))
theorem StrL.btw {lo hi : Nat} {w w' : World} {A : Option Addr} {ss : List ByteArray} (h : StrL w A ss) (hb : Btw lo hi w w') (hB : w.heap.size ≤ lo) : StrL w' A ss := fun i hi' => by
  obtain ⟨b, off, e, hc⟩ := h i hi'
  exact ⟨b, off, e, hb.cell hc (.inl (Nat.lt_of_lt_of_le (cell_lt hc) hB))⟩

def Box (w : World) (b : Nat) (t : TypeId) (cs : Array Value) : Prop := w.heap[b]? = some (.cells cs t (0, 0))
theorem Box.cell {w : World} {b : Nat} {t : TypeId} {cs : Array Value} (h : Box w b t cs) (i : Nat) {v : Value} (hv : cs[i]? = some v) : w.cell? ⟨b, i, none⟩ = some v := by
  unfold Box at h; simp [World.cell?, h, hv]
theorem Box.frozen {w : World} {b : Nat} {t : TypeId} {cs : Array Value} (h : Box w b t cs) (i : Nat) : w.frozen? ⟨b, i, none⟩ = false := by
  unfold Box at h; simp [World.frozen?, h]
theorem Box.lt {w : World} {b : Nat} {t : TypeId} {cs : Array Value} (h : Box w b t cs) : b < w.heap.size := by
  obtain ⟨hlt, _⟩ := Array.getElem?_eq_some_iff.1 h
  exact hlt
theorem Box.below {w w' : World} {B b : Nat} {t : TypeId} {cs : Array Value} (h : Box w b t cs) (hb : Below B w w') (hB : b < B) : Box w' b t cs := (hb.block b hB).trans h
theorem Box.step {w w' : World} {b : Nat} {t : TypeId} {cs : Array Value} (h : Box w b t cs) (hb : Below w.heap.size w w') : Box w' b t cs := h.below hb h.lt
theorem Box.btw {w w' : World} {lo hi b : Nat} {t : TypeId} {cs : Array Value} (h : Box w b t cs) (hb : Btw lo hi w w') (ho : b < lo ∨ hi ≤ b) : Box w' b t cs := (hb.block b h.lt ho).trans h
theorem Box.new (w : World) (t : TypeId) (cs : Array Value) : Box (w.alloc (.cells cs t)) w.heap.size t cs := by
  show (w.heap.push _)[w.heap.size]? = _; simp
theorem Box.alloc {w : World} {b : Nat} {t : TypeId} {cs : Array Value} (h : Box w b t cs) (o : Obj) : Box (w.alloc o) b t cs := h.step ((Below.refl _ _).alloc (Nat.le_refl _) o)
theorem Box.set {w : World} {b : Nat} {t : TypeId} {cs : Array Value} (h : Box w b t cs) (i : Nat) (u : Value) : Box (w.setCell ⟨b, i, none⟩ u) b t (cs.setIfInBounds i u) := by
  unfold Box at h ⊢
  simp [World.setCell, Array.getElem?_modify, h]
theorem Box.far {w : World} {b : Nat} {t : TypeId} {cs : Array Value} (h : Box w b t cs) {p : Addr} (hp : b ≠ p.block) (u : Value) : Box (w.setCell p u) b t cs := (Below.heap_setCell w p u b hp).trans h
theorem Box.drewN {w : World} {b : Nat} {t : TypeId} {cs : Array Value} (h : Box w b t cs) (n : Nat) : Box (w.drewN n) b t cs := h
theorem Box.drew {w : World} {b : Nat} {t : TypeId} {cs : Array Value} (h : Box w b t cs) : Box w.drew b t cs := h
theorem Box.row {w : World} {b : Nat} {t : TypeId} {cs : Array Value} (h : Box w b t cs) (f : Nat → Value) (hf : ∀ i, i < cs.size → cs[i]? = some (f i)) : w.rowIs b t cs.size f := ⟨cs, h, rfl, hf⟩
theorem Box.ne {w : World} {b b' : Nat} {t t' : TypeId} {cs : Array Value} {n : Nat} {f : Nat → Value} (h : Box w b t cs) (h' : w.rowIs b' t' n f) (ht : t ≠ t') : b ≠ b' := by
  rintro rfl
  obtain ⟨c', hc', _⟩ := h'
  unfold Box at h
  rw [h] at hc'
  injection hc' with e
  injection e with _ e2
  exact ht e2
end Go.Proofs.YtcchhbkbnbphhaaGreatDoor

/- Contracts of the copies: toStringS, toWrite, toWriteS, toDisk. -/
namespace Go.Proofs.YtcchhbkbnbphhaaGreatDoor
open Go.RowKit

end Go.Proofs.YtcchhbkbnbphhaaGreatDoor

/- Contracts of toIntS, eqIntS, markIntS. -/
namespace Go.Proofs.YtcchhbkbnbphhaaGreatDoor
open Go.RowKit

set_option maxRecDepth 100000 in
theorem infoI : (Tryz.prog.info? 3).map (fun i => (i.zero, i.size, i.bytes)) = some (some (.int .i64 0), 1, 8) := by kernel_rfl

end Go.Proofs.YtcchhbkbnbphhaaGreatDoor

/- Contracts of the measures: szStringS, szWrite, szWriteS, szDisk: what is left, or -1. -/
namespace Go.Proofs.YtcchhbkbnbphhaaGreatDoor
open Go.RowKit

def lenS (ss : List ByteArray) : Nat := (ss.map (·.size)).sum
def Left (left : Int) (used : Nat) (w : World) (e : Ending) (w' : World) : Prop :=
  (e = .returned (.int .i64 (-1)) ∨ e = .returned (.int .i64 (left - used)) ∧ (used : Int) ≤ left) ∧ Below w.heap.size w w'

end Go.Proofs.YtcchhbkbnbphhaaGreatDoor

/- Contracts of szIntS, of markIntS with what it leaves, of heldIntS. -/
namespace Go.Proofs.YtcchhbkbnbphhaaGreatDoor
open Go.RowKit

def marksI (k n : Nat) : List Int := (List.range n).map fun i => ((k + i : Nat) : Int)
end Go.Proofs.YtcchhbkbnbphhaaGreatDoor

/- Contracts of the marks: markText, markStringS, heldStringS, markWriteS, heldWriteS, markDisk, heldDisk. -/
namespace Go.Proofs.YtcchhbkbnbphhaaGreatDoor
open Go.RowKit

def mkDig (j : Nat) : ByteArray := ⟨#[UInt8.ofNat (48 + j % 10)]⟩
def mkGo : Nat → Nat → ByteArray → ByteArray
  | 0, _, o => o
  | f + 1, j, o => if j = 0 then o else mkGo f (j / 10) (mkDig j ++ o)
def mkText (k : Nat) : ByteArray := ⟨#[109]⟩ ++ mkGo k k ByteArray.empty
def marksS (k n : Nat) : List ByteArray := (List.range n).map fun i => mkText (k + i)
theorem OwnS.wide {w : World} {lo hi lo' hi' : Nat} {A : Option Addr} {ss : List ByteArray} (h : OwnS w lo hi A ss) (h1 : lo' ≤ lo) (h2 : hi ≤ hi') : OwnS w lo' hi' A ss := by
  rcases h with e | ⟨b, m, f, e, q1, q2, q3, q4, q5⟩
  · exact .inl e
  · exact .inr ⟨b, m, f, e, by omega, by omega, q3, q4, q5⟩
theorem OwnS.apart {w w' : World} {lo hi l r : Nat} {A : Option Addr} {ss : List ByteArray} (h : OwnS w lo hi A ss) (hb : Btw l r w w') (ha : ∀ b n f, w.rowIs b 9 n f → b < l ∨ r ≤ b) : OwnS w' lo hi A ss := by
  rcases h with e | ⟨b, m, f, e, q1, q2, q3, q4, q5⟩
  · exact .inl e
  · exact .inr ⟨b, m, f, e, q1, q2, q3, hb.row q4 (ha b m f q4), q5⟩
end Go.Proofs.YtcchhbkbnbphhaaGreatDoor

/- A disk of the call's own behind a box: kept over what is new, and over writes elsewhere. -/
namespace Go.Proofs.YtcchhbkbnbphhaaGreatDoor
open Go.RowKit

section
variable {w w' : World} {b lo hi : Nat} {A : Option Addr} {n c : Nat} {C : Option Addr} {m d : Nat} {ss : List ByteArray} {ws : List (Int × ByteArray)}
end
theorem alloc_below (w : World) (o : Obj) : Below w.heap.size w (w.alloc o) := (Below.refl _ _).alloc (Nat.le_refl _) o
end Go.Proofs.YtcchhbkbnbphhaaGreatDoor

/- Slices of booleans: as lists, of the call's own; contracts of szBoolS, toBoolS, eqBoolS, markBoolS, heldBoolS. -/
namespace Go.Proofs.YtcchhbkbnbphhaaGreatDoor
open Go.RowKit

def BoolL (w : World) (A : Option Addr) (gs : List Bool) : Prop :=
  ∀ i, i < gs.length → ∃ b off, A = some ⟨b, off, none⟩ ∧ w.cell? ⟨b, off + i, none⟩ = some (.bool (gs.getD i false))
theorem BoolL.below {w w' : World} {A : Option Addr} {gs : List Bool} (h : BoolL w A gs) (hb : Below w.heap.size w w') : BoolL w' A gs := fun i hi => by
  obtain ⟨b, off, e, hc⟩ := h i hi
  exact ⟨b, off, e, (hb.cell (cell_lt hc)).trans hc⟩
def OwnB (w : World) (lo hi : Nat) (A : Option Addr) (gs : List Bool) : Prop :=
  gs = [] ∨ ∃ b m f, A = some ⟨b, 0, none⟩ ∧ lo ≤ b ∧ b < hi ∧ gs.length ≤ m ∧ w.rowIs b 4 m f ∧ ∀ i, i < gs.length → f i = .bool (gs.getD i false)
theorem OwnB.reads {w : World} {lo hi : Nat} {A : Option Addr} {gs : List Bool} (h : OwnB w lo hi A gs) : BoolL w A gs := fun i hi' => by
  rcases h with rfl | ⟨b, m, f, e, _, _, hm, hr, hf⟩
  · simp at hi'
  · exact ⟨b, 0, e, by rw [← hf i hi', Nat.zero_add]; exact hr.cell (by omega)⟩
theorem OwnB.btw {w w' : World} {lo hi l h' : Nat} {A : Option Addr} {gs : List Bool} (h : OwnB w lo hi A gs) (hb : Btw l h' w w') (ho : hi ≤ l ∨ h' ≤ lo) : OwnB w' lo hi A gs := by
  rcases h with e | ⟨b, m, f, e, h1, h2, hm, hr, hf⟩
  · exact .inl e
  · exact .inr ⟨b, m, f, e, h1, h2, hm, hb.row hr (by omega), hf⟩
theorem OwnB.below {w w' : World} {lo hi : Nat} {A : Option Addr} {gs : List Bool} (h : OwnB w lo hi A gs) (hb : Below w.heap.size w w') : OwnB w' lo hi A gs := h.btw (Btw.of_below hb hi hi) (.inl (Nat.le_refl _))
theorem OwnB.wide {w : World} {lo hi lo' hi' : Nat} {A : Option Addr} {gs : List Bool} (h : OwnB w lo hi A gs) (h1 : lo' ≤ lo) (h2 : hi ≤ hi') : OwnB w lo' hi' A gs := by
  rcases h with e | ⟨b, m, f, e, p1, p2, hm, hr, hf⟩
  · exact .inl e
  · exact .inr ⟨b, m, f, e, by omega, by omega, hm, hr, hf⟩
theorem OwnB.far {w : World} {lo hi : Nat} {A : Option Addr} {gs : List Bool} (h : OwnB w lo hi A gs) {b : Nat} {t : TypeId} {cs : Array Value} (X : Box w b t cs) (ht : t ≠ 4) (i : Nat) (u : Value) : OwnB (w.setCell ⟨b, i, none⟩ u) lo hi A gs := by
  rcases h with e | ⟨b', m, f, e, p1, p2, hm, hr, hf⟩
  · exact .inl e
  · exact .inr ⟨b', m, f, e, p1, p2, hm, hr.setOther (a := ⟨b, i, none⟩) (by exact (X.ne hr ht).symm) u, hf⟩
theorem OwnB.apart {w w' : World} {lo hi l r : Nat} {A : Option Addr} {gs : List Bool} (h : OwnB w lo hi A gs) (hb : Btw l r w w') (ha : ∀ b n f, w.rowIs b 4 n f → b < l ∨ r ≤ b) : OwnB w' lo hi A gs := by
  rcases h with e | ⟨b, m, f, e, q1, q2, q3, q4, q5⟩
  · exact .inl e
  · exact .inr ⟨b, m, f, e, q1, q2, q3, hb.row q4 (ha b m f q4), q5⟩
theorem OwnI.wideB {w : World} {lo hi lo' hi' : Nat} {A : Option Addr} {zs : List Int} (h : OwnI w lo hi A zs) (h1 : lo' ≤ lo) (h2 : hi ≤ hi') : OwnI w lo' hi' A zs := by
  rcases h with e | ⟨b, m, f, e, p1, p2, hm, hr, hf⟩
  · exact .inl e
  · exact .inr ⟨b, m, f, e, by omega, by omega, hm, hr, hf⟩
theorem OwnI.farB {w : World} {lo hi : Nat} {A : Option Addr} {zs : List Int} (h : OwnI w lo hi A zs) {b : Nat} {t : TypeId} {cs : Array Value} (X : Box w b t cs) (ht : t ≠ 3) (i : Nat) (u : Value) : OwnI (w.setCell ⟨b, i, none⟩ u) lo hi A zs := by
  rcases h with e | ⟨b', m, f, e, p1, p2, hm, hr, hf⟩
  · exact .inl e
  · exact .inr ⟨b', m, f, e, p1, p2, hm, hr.setOther (a := ⟨b, i, none⟩) (by exact (X.ne hr ht).symm) u, hf⟩

set_option maxRecDepth 100000 in
theorem infoB : (Tryz.prog.info? 4).map (fun i => (i.zero, i.size, i.bytes)) = some (some (.bool false), 1, 1) := by kernel_rfl

def marksB (k n : Nat) : List Bool := (List.range n).map fun i => decide ((k + i) % 3 = 0)
end Go.Proofs.YtcchhbkbnbphhaaGreatDoor

/- Contracts of szFlash, toFlash, eqFlash, markFlash, heldFlash; a flash behind a box. -/
namespace Go.Proofs.YtcchhbkbnbphhaaGreatDoor
open Go.RowKit

structure BF (w : World) (b lo hi : Nat) (A : Option Addr) (n c : Nat) (C : Option Addr) (m d : Nat) (st : Int) (zs : List Int) (gs : List Bool) : Prop where
  box : Box w b 29 #[.slice A n c, .slice C m d, .int .i64 st]
  s : OwnI w lo hi A zs
  r : OwnB w lo hi C gs
section
variable {w w' : World} {b lo hi : Nat} {A : Option Addr} {n c : Nat} {C : Option Addr} {m d : Nat} {st : Int} {zs : List Int} {gs : List Bool}
theorem BF.step (h : BF w b lo hi A n c C m d st zs gs) (hb : Below w.heap.size w w') : BF w' b lo hi A n c C m d st zs gs := ⟨h.box.step hb, h.s.below hb, h.r.below hb⟩
theorem BF.btw {l r : Nat} (h : BF w b lo hi A n c C m d st zs gs) (hb : Btw l r w w') (h1 : b < l ∨ r ≤ b) (h2 : hi ≤ l ∨ r ≤ lo) : BF w' b lo hi A n c C m d st zs gs := ⟨h.box.btw hb h1, h.s.btw hb h2, h.r.btw hb h2⟩
theorem BF.new (hs : OwnI w lo hi A zs) (hr : OwnB w lo hi C gs) : BF (w.alloc (.cells #[.slice A n c, .slice C m d, .int .i64 st] 29)) w.heap.size lo hi A n c C m d st zs gs :=
  ⟨Box.new _ _ _, hs.below (alloc_below w _), hr.below (alloc_below w _)⟩
theorem BF.f0 (h : BF w b lo hi A n c C m d st zs gs) : w.cell? ⟨b, 0, none⟩ = some (.slice A n c) := h.box.cell 0 rfl
theorem BF.f1 (h : BF w b lo hi A n c C m d st zs gs) : w.cell? ⟨b, 1, none⟩ = some (.slice C m d) := h.box.cell 1 rfl
theorem BF.f2 (h : BF w b lo hi A n c C m d st zs gs) : w.cell? ⟨b, 2, none⟩ = some (.int .i64 st) := h.box.cell 2 rfl
end

def GivesFlash (zs : List Int) (gs : List Bool) (st : Int) (w : World) (e : Ending) (w' : World) : Prop :=
  ∃ A n c C m d, e = .returned (.agg #[.slice A n c, .slice C m d, .int .i64 st]) ∧ Hid (zs.length = n) ∧ Hid (gs.length = m) ∧ Hid (OwnI w' w.heap.size w'.heap.size A zs) ∧ Hid (OwnB w' w.heap.size w'.heap.size C gs) ∧ Below w.heap.size w w'
def GivesFlashC (zs : List Int) (gs : List Bool) (st : Int) (w : World) (e : Ending) (w' : World) : Prop :=
  ∃ A n c C m d, e = .returned (.agg #[.slice A n c, .slice C m d, .int .i64 st]) ∧ Hid (zs.length = n) ∧ Hid (gs.length = m) ∧ Hid (OwnI w' w.heap.size w'.heap.size A zs) ∧ Hid (OwnB w' w.heap.size w'.heap.size C gs) ∧ Hid (n ≤ c) ∧ Below w.heap.size w w'
theorem GivesFlashC.plain {zs : List Int} {gs : List Bool} {st : Int} {w : World} {e : Ending} {w' : World} : GivesFlashC zs gs st w e w' → GivesFlash zs gs st w e w' := by
  rintro ⟨A, n, c, C, m, d, h, L, M, S, R, _, hb⟩
  exact ⟨A, n, c, C, m, d, h, L, M, S, R, hb⟩
end Go.Proofs.YtcchhbkbnbphhaaGreatDoor

/- Contracts of the tests: isSector, l01In, a write's and a disk's valid, both DiskOK. -/
namespace Go.Proofs.YtcchhbkbnbphhaaGreatDoor
open Go.RowKit

theorem all_step {α : Type} (p : α → Bool) (l : List α) (d : α) (k : Nat) (h : k < l.length) : (l.drop k).all p = (p (l.getD k d) && (l.drop (k + 1)).all p) := by
  rw [List.drop_eq_getElem_cons h, List.all_cons, List.getD_eq_getElem?_getD, List.getElem?_eq_getElem h]
  rfl
theorem all_end {α : Type} (p : α → Bool) (l : List α) (k : Nat) (h : l.length ≤ k) : (l.drop k).all p = true := by
  rw [List.drop_of_length_le h]; rfl

def FitS (ss : List ByteArray) : Prop := ∀ s ∈ ss, s.size ≤ maxLen
def FitW (ws : List (Int × ByteArray)) : Prop := ∀ x ∈ ws, x.2.size ≤ maxLen
theorem FitS.at_ {ss : List ByteArray} (h : FitS ss) (k : Nat) (hk : k < ss.length) : (ss.getD k ByteArray.empty).size ≤ maxLen := h _ (by rw [List.getD_eq_getElem?_getD, List.getElem?_eq_getElem hk]; exact List.getElem_mem _)
theorem FitW.at_ {ws : List (Int × ByteArray)} (h : FitW ws) (k : Nat) (hk : k < ws.length) : (ws.getD k (0, ByteArray.empty)).2.size ≤ maxLen := h _ (by rw [List.getD_eq_getElem?_getD, List.getElem?_eq_getElem hk]; exact List.getElem_mem _)

end Go.Proofs.YtcchhbkbnbphhaaGreatDoor

/- Contracts of the tests of a flash: isByte, isOffset, isBlock, blockOf, l01In, l03At, allBytes, Flash.valid, both FlashOK, checkCell, checkBlock, l03Ask. -/
namespace Go.Proofs.YtcchhbkbnbphhaaGreatDoor
open Go.RowKit

def byB (n : Int) : Bool := decide (0 ≤ n ∧ n ≤ 255)
def stB (n : Int) : Bool := decide (0 ≤ n ∧ n ≤ 8)
def okFlash (zs : List Int) (gs : List Bool) (st : Int) : Bool := (decide (zs.length = 256) && decide (gs.length = 16)) && (stB st && zs.all byB)
theorem byB_range {a : Int} (h : byB a = true) : 0 ≤ a ∧ a ≤ 255 := by unfold byB at h; simpa using h
theorem stB_range {a : Int} (h : stB a = true) : 0 ≤ a ∧ a ≤ 8 := by unfold stB at h; simpa using h
theorem okFlash_len {zs : List Int} {gs : List Bool} {st : Int} (h : okFlash zs gs st = true) : zs.length = 256 ∧ gs.length = 16 ∧ (0 ≤ st ∧ st ≤ 8) ∧ ∀ z ∈ zs, 0 ≤ z ∧ z ≤ 255 := by
  unfold okFlash at h
  simp only [Bool.and_eq_true, decide_eq_true_eq, List.all_eq_true] at h
  exact ⟨h.1.1, h.1.2, stB_range h.2.1, fun z hz => byB_range (h.2.2 z hz)⟩
theorem okFlash_mk {zs : List Int} {gs : List Bool} {st : Int} (h1 : zs.length = 256) (h2 : gs.length = 16) (h3 : 0 ≤ st ∧ st ≤ 8) (h4 : ∀ z ∈ zs, 0 ≤ z ∧ z ≤ 255) : okFlash zs gs st = true := by
  unfold okFlash
  simp only [Bool.and_eq_true, decide_eq_true_eq, List.all_eq_true]
  exact ⟨⟨h1, h2⟩, by unfold stB; simpa using h3, fun z hz => by unfold byB; simpa using h4 z hz⟩

set_option maxRecDepth 100000 in
theorem isByte (n : Int) (w : World) : Calls Tryz.prog 46 #[.int .i64 n] w fun e w' => e = .returned (.bool (byB n)) ∧ w = w' := by
  go_enter Tryz.func46, Tryz.ntmps46
  go_wp2
  all_goals go_ret
  all_goals (refine ⟨ret_bool ?_, rfl⟩)
  all_goals (unfold byB; rw [Bool.eq_iff_iff]; simp; try omega)
set_option maxRecDepth 100000 in
theorem l01In255 (n : Int) (w : World) : Calls Tryz.prog 38 #[.int .i64 n, .int .i64 0, .int .i64 255] w fun e w' => e = .returned (.bool (byB n)) ∧ w = w' := by
  go_enter Tryz.func38, Tryz.ntmps38
  go_wp2
  all_goals go_ret
  all_goals (refine ⟨ret_bool ?_, rfl⟩)
  all_goals (unfold byB; rw [Bool.eq_iff_iff]; simp; try omega)
set_option maxRecDepth 100000 in
theorem l01In8 (n : Int) (w : World) : Calls Tryz.prog 38 #[.int .i64 n, .int .i64 0, .int .i64 8] w fun e w' => e = .returned (.bool (stB n)) ∧ w = w' := by
  go_enter Tryz.func38, Tryz.ntmps38
  go_wp2
  all_goals go_ret
  all_goals (refine ⟨ret_bool ?_, rfl⟩)
  all_goals (unfold stB; rw [Bool.eq_iff_iff]; simp; try omega)
set_option maxRecDepth 100000 in
theorem blockOf (n : Nat) (hn : n ≤ 255) (w : World) : Calls Tryz.prog 157 #[.int .i64 n] w fun e w' => e = .returned (.int .i64 ((n / 16 : Nat) : Int)) ∧ w = w' := by
  go_enter Tryz.func157, Tryz.ntmps157
  go_wp2
  go_ret
  exact ⟨rfl, rfl⟩

set_option maxRecDepth 100000 in
set_option maxHeartbeats 1000000 in
theorem allBytes (A : Option Addr) (n c : Nat) (zs : List Int) (w : World) (hl : zs.length = n) (hn : n ≤ maxLen) (h : IntL w A zs) :
    Calls Tryz.prog 47 #[.slice A n c] w fun e w' => e = .returned (.bool (zs.all byB)) ∧ w = w' := by
  unfold maxLen at hn
  have HL := Lib.hid hl
  have H := Lib.hid h
  clear hl h
  go_enter Tryz.func47, Tryz.ntmps47
  go_wp2
  go_loop [7] (fun i => ∃ k : Nat, k ≤ n ∧ i = .int .i64 k ∧ Hid (zs.all byB = (zs.drop k).all byB)) (fun i => n - (intOf i).toNat)
  case atStart => exact ⟨0, Nat.zero_le _, rfl, Lib.hid rfl⟩
  case round =>
    obtain ⟨k, hk, rfl, HT⟩ := hrel
    by_cases hlt : k < n
    · obtain ⟨b, off, rfl, hc⟩ := H.out k (by rw [HL.out]; exact hlt)
      have HS := Lib.hid (all_step byB zs 0 k (by rw [HL.out]; exact hlt))
      generalize zs.getD k 0 = x at hc HS
      have hi : (k : Int) < (n : Int) := by omega
      by_cases hE : byB x = true
      · go_wp2_with (first | (go_at_call 46; refine (isByte _ _).mono ?_; rintro e w' ⟨rfl, rfl⟩; rw [hE]))
        go_round
        case rel => exact ⟨k + 1, by omega, by go_num, Lib.hid (by rw [HT.out, HS.out, hE]; rfl)⟩
        case measure => simp [intOf]; omega
      · have hE' : byB x = false := by simpa using hE
        clear hE
        go_wp2_with (first | (go_at_call 46; refine (isByte _ _).mono ?_; rintro e w' ⟨rfl, rfl⟩; rw [hE']))
        go_ret
        exact ⟨ret_bool (by rw [HT.out, HS.out, hE']; rfl), rfl⟩
    · have HT2 : Hid (zs.all byB = true) := Lib.hid (by rw [HT.out]; exact all_end _ _ _ (by rw [HL.out]; omega))
      go_wp2
      go_ret
      exact ⟨ret_bool HT2.out.symm, rfl⟩

theorem okFlash_no1 (zs : List Int) (gs : List Bool) (st : Int) (h : zs.length ≠ 256) : okFlash zs gs st = false := by unfold okFlash; simp [h]
theorem okFlash_no2 (zs : List Int) (gs : List Bool) (st : Int) (h : gs.length ≠ 16) : okFlash zs gs st = false := by unfold okFlash; simp [h]
theorem okFlash_no3 (zs : List Int) (gs : List Bool) (st : Int) (h : stB st = false) : okFlash zs gs st = false := by unfold okFlash; simp [h]
theorem okFlash_yes (zs : List Int) (gs : List Bool) (st : Int) (h : zs.length = 256) (h2 : gs.length = 16) (h3 : stB st = true) : okFlash zs gs st = zs.all byB := by unfold okFlash; simp [h, h2, h3]

set_option maxRecDepth 100000 in
set_option maxHeartbeats 2000000 in
theorem flashValid (A C : Option Addr) (n c m d : Nat) (st : Int) (zs : List Int) (gs : List Bool) (w : World) (hl : zs.length = n) (hm : gs.length = m) (hn : n ≤ maxLen) (_hmm : m ≤ maxLen) (h : IntL w A zs) :
    Calls Tryz.prog 48 #[.agg #[.slice A n c, .slice C m d, .int .i64 st]] w fun e w' => e = .returned (.bool (okFlash zs gs st)) ∧ Below w.heap.size w w' := by
  have hb0 := alloc_below w (.cells #[.slice A n c, .slice C m d, .int .i64 st] 29)
  have HB := Lib.hid (allBytes A n c zs _ hl hn (h.below hb0))
  unfold maxLen at hn _hmm
  have HL := Lib.hid hl
  have HM := Lib.hid hm
  clear hl hm h
  by_cases h1 : n = 256
  · have q1 : ((n : Int) == 256) = true := by simp; omega
    by_cases h2 : m = 16
    · have q2 : ((m : Int) == 16) = true := by simp; omega
      by_cases h3 : 0 ≤ st
      · by_cases h4 : st ≤ 8
        · have HY := Lib.hid (okFlash_yes zs gs st (by rw [HL.out]; exact h1) (by rw [HM.out]; exact h2) (by unfold stB; simp; omega))
          generalize okFlash zs gs st = r at HY
          generalize zs.all byB = ab at HB HY
          clear h1 h2
          go_enter Tryz.func48, Tryz.ntmps48
          go_wp2_with (first | (go_at_call 47; refine HB.out.mono ?_; rintro e w' ⟨rfl, rfl⟩))
          all_goals go_ret
          all_goals exact ⟨ret_bool HY.out.symm, hb0⟩
        · have HF := Lib.hid (okFlash_no3 zs gs st (by unfold stB; simp; omega))
          clear h1 h2
          go_enter Tryz.func48, Tryz.ntmps48
          go_wp2
          all_goals go_ret
          all_goals exact ⟨ret_bool HF.out.symm, hb0⟩
      · have HF := Lib.hid (okFlash_no3 zs gs st (by unfold stB; simp; omega))
        clear h1 h2
        go_enter Tryz.func48, Tryz.ntmps48
        go_wp2
        all_goals go_ret
        all_goals exact ⟨ret_bool HF.out.symm, hb0⟩
    · have q2 : ((m : Int) == 16) = false := by simp; omega
      have HF := Lib.hid (okFlash_no2 zs gs st (by rw [HM.out]; exact h2))
      clear h1 h2
      go_enter Tryz.func48, Tryz.ntmps48
      go_wp2
      all_goals go_ret
      all_goals exact ⟨ret_bool HF.out.symm, hb0⟩
  · have q1 : ((n : Int) == 256) = false := by simp; omega
    have HF := Lib.hid (okFlash_no1 zs gs st (by rw [HL.out]; exact h1))
    clear h1
    go_enter Tryz.func48, Tryz.ntmps48
    go_wp2
    all_goals go_ret
    all_goals exact ⟨ret_bool HF.out.symm, hb0⟩

set_option maxRecDepth 100000 in
set_option maxHeartbeats 2000000 in
theorem specFlashOK (A C : Option Addr) (n c m d : Nat) (st : Int) (zs : List Int) (gs : List Bool) (w : World) (hl : zs.length = n) (hm : gs.length = m) (hn : n ≤ maxLen) (_hmm : m ≤ maxLen) (h : IntL w A zs) :
    Calls Tryz.prog 58 #[.agg #[.slice A n c, .slice C m d, .int .i64 st]] w fun e w' => e = .returned (.bool (okFlash zs gs st)) ∧ Below w.heap.size w w' := by
  have hb0 := alloc_below w (.cells #[.slice A n c, .slice C m d, .int .i64 st] 29)
  have H := Lib.hid (h.below hb0)
  unfold maxLen at hn _hmm
  have HL := Lib.hid hl
  have HM := Lib.hid hm
  clear hl hm h
  by_cases h1 : n = 256
  · have q1 : ((n : Int) != 256) = false := by simp; omega
    by_cases h2 : m = 16
    · have q2 : ((m : Int) != 16) = false := by simp; omega
      by_cases h3 : stB st = true
      · have HY := Lib.hid (okFlash_yes zs gs st (by rw [HL.out]; exact h1) (by rw [HM.out]; exact h2) h3)
        generalize okFlash zs gs st = r at HY
        have H3 := Lib.hid h3
        clear h1 h2 h3
        go_enter Tryz.func58, Tryz.ntmps58
        go_wp2_with (first | (go_at_call 38; refine (l01In8 _ _).mono ?_; rintro e w' ⟨rfl, rfl⟩; rw [H3.out]))
        go_loop [3] (fun i => ∃ k : Nat, k ≤ n ∧ i = .int .i64 k ∧ Hid (zs.all byB = (zs.drop k).all byB)) (fun i => n - (intOf i).toNat)
        case atStart => exact ⟨0, Nat.zero_le _, rfl, Lib.hid rfl⟩
        case round =>
          obtain ⟨k, hk, rfl, HT⟩ := hrel
          by_cases hlt : k < n
          · obtain ⟨b, off, rfl, hc⟩ := H.out k (by rw [HL.out]; exact hlt)
            have HS := Lib.hid (all_step byB zs 0 k (by rw [HL.out]; exact hlt))
            generalize zs.getD k 0 = x at hc HS
            have hi : (k : Int) < (n : Int) := by omega
            by_cases hE : byB x = true
            · go_wp2_with (first | (go_at_call 38; refine (l01In255 _ _).mono ?_; rintro e w' ⟨rfl, rfl⟩; rw [hE]))
              go_round
              case rel => exact ⟨k + 1, by omega, by go_num, Lib.hid (by rw [HT.out, HS.out, hE]; rfl)⟩
              case measure => simp [intOf]; omega
            · have hE' : byB x = false := by simpa using hE
              clear hE
              go_wp2_with (first | (go_at_call 38; refine (l01In255 _ _).mono ?_; rintro e w' ⟨rfl, rfl⟩; rw [hE']))
              go_ret
              exact ⟨ret_bool (by rw [HY.out, HT.out, HS.out, hE']; rfl), hb0⟩
          · have HT2 : Hid (zs.all byB = true) := Lib.hid (by rw [HT.out]; exact all_end _ _ _ (by rw [HL.out]; omega))
            go_wp2
            go_ret
            exact ⟨ret_bool (by rw [HY.out, HT2.out]), hb0⟩
      · have h3' : stB st = false := by simpa using h3
        have HF := Lib.hid (okFlash_no3 zs gs st h3')
        have H3 := Lib.hid h3'
        clear h1 h2 h3 h3'
        go_enter Tryz.func58, Tryz.ntmps58
        go_wp2_with (first | (go_at_call 38; refine (l01In8 _ _).mono ?_; rintro e w' ⟨rfl, rfl⟩; rw [H3.out]))
        go_ret
        exact ⟨ret_bool HF.out.symm, hb0⟩
    · have q2 : ((m : Int) != 16) = true := by simp; omega
      have HF := Lib.hid (okFlash_no2 zs gs st (by rw [HM.out]; exact h2))
      clear h1 h2
      go_enter Tryz.func58, Tryz.ntmps58
      go_wp2
      all_goals go_ret
      all_goals exact ⟨ret_bool HF.out.symm, hb0⟩
  · have q1 : ((n : Int) != 256) = true := by simp; omega
    have HF := Lib.hid (okFlash_no1 zs gs st (by rw [HL.out]; exact h1))
    clear h1
    go_enter Tryz.func58, Tryz.ntmps58
    go_wp2
    all_goals go_ret
    all_goals exact ⟨ret_bool HF.out.symm, hb0⟩

end Go.Proofs.YtcchhbkbnbphhaaGreatDoor

/- The bits of bytes: 'and' as the language has it, and as a natural number. -/
namespace Go.Proofs.YtcchhbkbnbphhaaGreatDoor
open Go.RowKit

theorem wrap8 (n : Int) (h0 : 0 ≤ n) (h1 : n < 2 ^ 8) : IntKind.u8.wrap n = n := by
  have e : n % 2 ^ 8 = n := Int.emod_eq_of_lt h0 h1
  simp only [IntKind.wrap, IntKind.bits, IntKind.signed, e]
  simp
theorem wrap64 (n : Int) (h0 : 0 ≤ n) (h1 : n < 2 ^ 8) : IntKind.i64.wrap n = n := by
  have e : n % 2 ^ 64 = n := Int.emod_eq_of_lt h0 (by omega)
  simp only [IntKind.wrap, IntKind.bits, IntKind.signed, e]
  rw [if_neg]
  simp
  omega
theorem and_u8 (a b : Nat) (ha : a < 256) (hb : b < 256) : bits .and .u8 (a : Int) (b : Int) = ((a &&& b : Nat) : Int) := (bits_nat .u8 8 (by decide) wrap8 a b ha hb).1
theorem and_i64 (a b : Nat) (ha : a < 256) (hb : b < 256) : bits .and .i64 (a : Int) (b : Int) = ((a &&& b : Nat) : Int) := (bits_nat .i64 8 (by decide) wrap64 a b ha hb).1
theorem and_3 (a : Nat) (ha : a < 256) : bits .and .i64 (a : Int) 3 = ((a % 4 : Nat) : Int) := by
  have := and_i64 a 3 ha (by omega)
  rw [show a &&& 3 = a % 4 from Nat.and_two_pow_sub_one_eq_mod a 2] at this
  exact this
theorem and_lt (a b : Nat) (ha : a < 256) : a &&& b < 256 := Nat.lt_of_le_of_lt Nat.and_le_left ha
end Go.Proofs.YtcchhbkbnbphhaaGreatDoor

/- append of a whole row onto an empty literal. -/
namespace Go.Proofs.YtcchhbkbnbphhaaGreatDoor
open Go.RowKit

theorem run_app_fresh {P : Program} (w : World) (t ty e : TypeId) (i : TypeInfo) (z : Value) (size bytes : Nat) (ht : P.underlying t = some (.slice e)) (hi : P.info? e = some i) (hz : i.zero = some z)
    (hsize : i.size = size) (hby : i.bytes = bytes) (hzs : z.cells.size = size) (hsz : 0 < size) (b : Addr)
    (A : Option Addr) (m c : Nat) (hm : 0 < m) (news : List Value) (hl : news.length = m * size) (hsrc : ∃ ad, A = some ad ∧ ∀ j u, news[j]? = some u → w.cell? (ad.add j) = some u)
    (h63 : m ≤ maxLen) (hbytes : m * bytes ≤ 140737488355328) :
    ∃ A' cap w', (Builtin.append_ #[t, t] ty #[.slice (some b) 0 0, .slice A m c]).run P w = .ok (.slice A' m cap) w' ∧ Below w.heap.size w w' ∧ w'.ownsRow w.heap.size e size (.slice A' m cap) m news := by
  obtain ⟨ad, rfl, hc⟩ := hsrc
  obtain ⟨v', w', hr, ho, hg⟩ := run_append_arg_grows (P := P) w t ty e i z size bytes ht hi hz hsize hby hzs hsz b 0 0 [] (by simp) (fun j u hj => by simp at hj) ad m c news hl hc (by omega) (by omega) (by rw [Nat.zero_add]; exact hbytes)
  rw [Nat.zero_add] at ho
  obtain ⟨hl', h0 | ⟨g, cap, cur, rfl, hrest⟩⟩ := ho
  · omega
  · exact ⟨_, cap, w', hr, (Below.refl _ _).grown hg (Nat.le_refl _) (fun k hk => by cases hk), hl', .inr ⟨g, cap, cur, rfl, hrest⟩⟩

theorem wpList_app_fresh {P : Program} {ops : Array Oper} {rest : List Oper} {o : Oper} {a : Act} {w : World} {Q : Exit → Act → World → Prop}
    (hg : o.guard = none) (s x : Operand) (t : TypeId) (hop : o.op = Op.call { callee := Callee.builtin Builtin.append, args := #[s, x], argTypes := #[t, t] })
    (e : TypeId) (z : Value) (size bytes : Nat) (ht : P.underlying t = some (.slice e)) (hi : ∃ i : TypeInfo, P.info? e = some i ∧ i.zero = some z ∧ i.size = size ∧ i.bytes = bytes) (hzs : z.cells.size = size) (hsz : 0 < size) (b : Addr) (hs : a.eval s = .slice (some b) 0 0)
    (A : Option Addr) (m c : Nat) (hm : 0 < m) (news : List Value) (hx : a.eval x = .slice A m c) (hl : news.length = m * size) (hsrc : ∃ ad, A = some ad ∧ ∀ j u, news[j]? = some u → w.cell? (ad.add j) = some u)
    (h63 : m ≤ maxLen) (hbytes : m * bytes ≤ 140737488355328)
    (h : ∀ A' cap w', Below w.heap.size w w' → Hid (w'.ownsRow w.heap.size e size (.slice A' m cap) m news) → wpList P ops Q rest (a.put o.dst (.slice A' m cap)) w') : wpList P ops Q (o :: rest) a w :=
  wpList_plain hg fun _ hK => by
    obtain ⟨i, hi, hz, hsize, hby⟩ := hi
    obtain ⟨A', cap, w', hr, h2, h3⟩ := run_app_fresh (P := P) w t o.type e i z size bytes ht hi hz hsize hby hzs hsz b A m c hm news hl hsrc h63 hbytes
    unfold Oper.wp execOp
    simp only [hop, resolve, invoke, builtin, Sem.run_bind, Sem.run_pure, Result.andThen_ok, List.map_toArray, List.map_cons, List.map_nil, hs, hx, hr]
    exact hK _ _ (h A' cap w' h2 (Lib.hid h3))
end Go.Proofs.YtcchhbkbnbphhaaGreatDoor

/- append of a whole row onto an empty literal; lists as rows of one cell each. -/
namespace Go.Proofs.YtcchhbkbnbphhaaGreatDoor
open Go.RowKit

theorem row_of_owns {α : Type} (mk : α → Value) (dflt : α) {w : World} {base n : Nat} {t : TypeId} {v : Value} {ss : List α} (h : w.ownsRow base t 1 v n (ss.map mk)) (hn : 0 < n) : ∃ g cap m f, v = .slice (some ⟨g, 0, none⟩) n cap ∧ base ≤ g ∧ n ≤ m ∧ ss.length = n ∧ w.rowIs g t m f ∧ ∀ i, i < n → f i = mk (ss.getD i dflt) := by
  obtain ⟨hl, h0 | ⟨g, cap, cur, rfl, hb, hg, hnc, _, hsz, htk⟩⟩ := h
  · omega
  · rw [List.length_map, Nat.mul_one] at hl
    rw [Nat.mul_one] at hsz htk
    refine ⟨g, cap, cap, fun i => cur.toList.getD i undef, rfl, hb, hnc, hl, ⟨cur, hg, hsz, fun i hi => ?_⟩, fun i hi => ?_⟩
    · have : i < cur.toList.length := by simp [hsz, hi]
      show cur[i]? = some (cur.toList.getD i undef)
      rw [List.getD_eq_getElem?_getD, List.getElem?_eq_getElem this, ← Array.getElem?_toList, List.getElem?_eq_getElem this]
      rfl
    · have h1 : (cur.toList.take n)[i]? = (ss.map mk)[i]? := by rw [htk]
      rw [List.getElem?_take, if_pos hi] at h1
      show cur.toList.getD i undef = _
      rw [List.getD_eq_getElem?_getD, h1, List.getElem?_map, List.getD_eq_getElem?_getD, List.getElem?_eq_getElem (by omega)]
      rfl

def cellsI (zs : List Int) : List Value := zs.map fun z => .int .i64 z
def cellsB (gs : List Bool) : List Value := gs.map Value.bool
theorem cellsI_len (zs : List Int) : (cellsI zs).length = zs.length := by simp [cellsI]
theorem cellsB_len (gs : List Bool) : (cellsB gs).length = gs.length := by simp [cellsB]
theorem ownI_fresh {w' : World} {A : Option Addr} {n cap lo base : Nat} {zs : List Int} (h : w'.ownsRow base 3 1 (.slice A n cap) n (cellsI zs)) (hn : 0 < n) (hlo : lo ≤ base) : OwnI w' lo w'.heap.size A zs := by
  obtain ⟨g, cap', m, f, e, q1, q2, q3, q4, q5⟩ := row_of_owns (fun z => Value.int .i64 z) 0 h hn
  injection e with e _ _
  subst e
  exact .inr ⟨g, m, f, rfl, by omega, q4.lt, by omega, q4, fun i hi => q5 i (by omega)⟩
theorem ownB_fresh {w' : World} {A : Option Addr} {n cap lo base : Nat} {gs : List Bool} (h : w'.ownsRow base 4 1 (.slice A n cap) n (cellsB gs)) (hn : 0 < n) (hlo : lo ≤ base) : OwnB w' lo w'.heap.size A gs := by
  obtain ⟨g, cap', m, f, e, q1, q2, q3, q4, q5⟩ := row_of_owns Value.bool false h hn
  injection e with e _ _
  subst e
  exact .inr ⟨g, m, f, rfl, by omega, q4.lt, by omega, q4, fun i hi => q5 i (by omega)⟩
theorem addr_add (b off j : Nat) : (⟨b, off, none⟩ : Addr).add j = ⟨b, off + j, none⟩ := by unfold Addr.add; split <;> simp_all
theorem IntL.src {w : World} {A : Option Addr} {zs : List Int} (h : IntL w A zs) (hn : 0 < zs.length) : ∃ ad, A = some ad ∧ ∀ j u, (cellsI zs)[j]? = some u → w.cell? (ad.add j) = some u := by
  obtain ⟨b, off, e, _⟩ := h 0 hn
  refine ⟨_, e, fun j u hj => ?_⟩
  have hj' : j < zs.length := by
    have := (List.getElem?_eq_some_iff.1 hj).1
    rwa [cellsI_len] at this
  obtain ⟨b', off', e', hc⟩ := h j hj'
  rw [e] at e'
  injection e' with e'
  injection e' with e1 e2 _
  subst e1 e2
  rw [addr_add, hc, ← hj]
  unfold cellsI
  rw [List.getElem?_map, List.getD_eq_getElem?_getD, List.getElem?_eq_getElem hj']
  rfl
theorem BoolL.src {w : World} {A : Option Addr} {gs : List Bool} (h : BoolL w A gs) (hn : 0 < gs.length) : ∃ ad, A = some ad ∧ ∀ j u, (cellsB gs)[j]? = some u → w.cell? (ad.add j) = some u := by
  obtain ⟨b, off, e, _⟩ := h 0 hn
  refine ⟨_, e, fun j u hj => ?_⟩
  have hj' : j < gs.length := by
    have := (List.getElem?_eq_some_iff.1 hj).1
    rwa [cellsB_len] at this
  obtain ⟨b', off', e', hc⟩ := h j hj'
  rw [e] at e'
  injection e' with e'
  injection e' with e1 e2 _
  subst e1 e2
  rw [addr_add, hc, ← hj]
  unfold cellsB
  rw [List.getElem?_map, List.getD_eq_getElem?_getD, List.getElem?_eq_getElem hj']
  rfl
set_option maxRecDepth 100000 in
theorem infoIx : ∃ i : TypeInfo, Tryz.prog.info? 3 = some i ∧ i.zero = some (.int .i64 0) ∧ i.size = 1 ∧ i.bytes = 8 := by
  obtain ⟨i, hi, hzz⟩ := Option.map_eq_some_iff.1 infoI
  simp only [Prod.mk.injEq] at hzz
  exact ⟨i, hi, hzz.1, hzz.2.1, hzz.2.2⟩
set_option maxRecDepth 100000 in
theorem infoBx : ∃ i : TypeInfo, Tryz.prog.info? 4 = some i ∧ i.zero = some (.bool false) ∧ i.size = 1 ∧ i.bytes = 1 := by
  obtain ⟨i, hi, hzz⟩ := Option.map_eq_some_iff.1 infoB
  simp only [Prod.mk.injEq] at hzz
  exact ⟨i, hi, hzz.1, hzz.2.1, hzz.2.2⟩

theorem OwnI.put {w : World} {lo hi : Nat} {A : Option Addr} {zs : List Int} (h : OwnI w lo hi A zs) (k : Nat) (hk : k < zs.length) :
    ∃ b m f, A = some ⟨b, 0, none⟩ ∧ w.cell? ⟨b, k, none⟩ = some (.int .i64 (zs.getD k 0)) ∧ w.frozen? ⟨b, k, none⟩ = false ∧ lo ≤ b ∧ b < hi ∧ w.rowIs b 3 m f ∧ ∀ x, OwnI (w.setCell ⟨b, k, none⟩ (.int .i64 x)) lo hi A (zs.set k x) := by
  rcases h with rfl | ⟨b, m, f, e, h1, h2, hm, hr, hf⟩
  · simp at hk
  · refine ⟨b, m, f, e, by rw [← hf k hk]; exact hr.cell (by omega), hr.frozen k, h1, h2, hr, fun x => .inr ⟨b, m, _, e, h1, h2, by simpa using hm, hr.set k (.int .i64 x), fun i hi' => ?_⟩⟩
    have hi2 : i < zs.length := by simpa using hi'
    show (if i = k then Value.int .i64 x else f i) = _
    by_cases q : i = k
    · subst q
      rw [if_pos rfl, List.getD_eq_getElem?_getD, List.getElem?_set_self hk]
      rfl
    · rw [if_neg q, hf i hi2, List.getD_eq_getElem?_getD, List.getD_eq_getElem?_getD, List.getElem?_set_ne (fun e => q e.symm)]
theorem OwnB.put {w : World} {lo hi : Nat} {A : Option Addr} {zs : List Bool} (h : OwnB w lo hi A zs) (k : Nat) (hk : k < zs.length) :
    ∃ b m f, A = some ⟨b, 0, none⟩ ∧ w.cell? ⟨b, k, none⟩ = some (.bool (zs.getD k false)) ∧ w.frozen? ⟨b, k, none⟩ = false ∧ lo ≤ b ∧ b < hi ∧ w.rowIs b 4 m f ∧ ∀ x, OwnB (w.setCell ⟨b, k, none⟩ (.bool x)) lo hi A (zs.set k x) := by
  rcases h with rfl | ⟨b, m, f, e, h1, h2, hm, hr, hf⟩
  · simp at hk
  · refine ⟨b, m, f, e, by rw [← hf k hk]; exact hr.cell (by omega), hr.frozen k, h1, h2, hr, fun x => .inr ⟨b, m, _, e, h1, h2, by simpa using hm, hr.set k (.bool x), fun i hi' => ?_⟩⟩
    have hi2 : i < zs.length := by simpa using hi'
    show (if i = k then Value.bool x else f i) = _
    by_cases q : i = k
    · subst q
      rw [if_pos rfl, List.getD_eq_getElem?_getD, List.getElem?_set_self hk]
      rfl
    · rw [if_neg q, hf i hi2, List.getD_eq_getElem?_getD, List.getD_eq_getElem?_getD, List.getElem?_set_ne (fun e => q e.symm)]
theorem OwnB.other {w : World} {lo hi : Nat} {A : Option Addr} {gs : List Bool} (h : OwnB w lo hi A gs) {b m : Nat} {t : TypeId} {f : Nat → Value} (hr : w.rowIs b t m f) (ht : t ≠ 4) (i : Nat) (u : Value) : OwnB (w.setCell ⟨b, i, none⟩ u) lo hi A gs := by
  rcases h with e | ⟨b', m', f', e, p1, p2, hm, hr', hf⟩
  · exact .inl e
  · exact .inr ⟨b', m', f', e, p1, p2, hm, hr'.setOther (a := ⟨b, i, none⟩) (by exact (row_ne hr hr' ht).symm) u, hf⟩
theorem OwnI.other {w : World} {lo hi : Nat} {A : Option Addr} {zs : List Int} (h : OwnI w lo hi A zs) {b m : Nat} {t : TypeId} {f : Nat → Value} (hr : w.rowIs b t m f) (ht : t ≠ 3) (i : Nat) (u : Value) : OwnI (w.setCell ⟨b, i, none⟩ u) lo hi A zs := by
  rcases h with e | ⟨b', m', f', e, p1, p2, hm, hr', hf⟩
  · exact .inl e
  · exact .inr ⟨b', m', f', e, p1, p2, hm, hr'.setOther (a := ⟨b, i, none⟩) (by exact (row_ne hr hr' ht).symm) u, hf⟩
theorem Box.other {w : World} {b : Nat} {t : TypeId} {cs : Array Value} (X : Box w b t cs) {b' m : Nat} {t' : TypeId} {f : Nat → Value} (hr : w.rowIs b' t' m f) (ht : t ≠ t') (i : Nat) (u : Value) : Box (w.setCell ⟨b', i, none⟩ u) b t cs :=
  X.far (p := ⟨b', i, none⟩) (X.ne hr ht) u
end Go.Proofs.YtcchhbkbnbphhaaGreatDoor

/- Appending one element to a slice of the call's own; what such a slice is good for. -/
namespace Go.Proofs.YtcchhbkbnbphhaaGreatDoor
open Go.RowKit

structure Elem (P : Program) (e : TypeId) (z : Value) (size bytes : Nat) : Prop where
  info : ∃ i : TypeInfo, P.info? e = some i ∧ i.zero = some z ∧ i.size = size ∧ i.bytes = bytes
  cells : z.cells.size = size
  pos : 0 < size

abbrev RowV (w : World) (base : Nat) (e : TypeId) (size : Nat) (v : Value) (n : Nat) (xs : List Value) : Prop := w.ownsRow base e size v n xs

theorem rowv_ge {w : World} {base n : Nat} {e : TypeId} {size : Nat} {v : Value} {xs : List Value} (h : w.ownsRow base e size v n xs) : ∀ k, v.ownBlock = some k → base ≤ k := by
  intro k hk
  rcases h.2 with ⟨rfl, _⟩ | ⟨g, cap, cur, rfl, q1, q2⟩
  · simp [Value.ownBlock] at hk
  · simp [Value.ownBlock] at hk; omega
theorem rowv_keep {w w' : World} {base n : Nat} {e : TypeId} {size : Nat} {v : Value} {xs : List Value} (h : w.ownsRow base e size v n xs) (hk : ∀ k, base ≤ k → k < w.heap.size → w'.heap[k]? = w.heap[k]?) : w'.ownsRow base e size v n xs := by
  obtain ⟨h1, h0 | ⟨g, cap, cur, rfl, q1, q2, q3⟩⟩ := h
  · exact ⟨h1, .inl h0⟩
  · refine ⟨h1, .inr ⟨g, cap, cur, rfl, q1, ?_, q3⟩⟩
    have hlt : g < w.heap.size := by
      rcases Nat.lt_or_ge g w.heap.size with hlt | hge
      · exact hlt
      · rw [Array.getElem?_eq_none hge] at q2; cases q2
    rw [hk g q1 hlt]; exact q2
theorem rowv_below {w w' : World} {base n : Nat} {e : TypeId} {size : Nat} {v : Value} {xs : List Value} (h : w.ownsRow base e size v n xs) (hb : Below w.heap.size w w') : w'.ownsRow base e size v n xs := rowv_keep h (fun k _ hk => hb.block k hk)
theorem rowv_form {w : World} {base n : Nat} {e : TypeId} {size : Nat} {v : Value} {xs : List Value} (h : w.ownsRow base e size v n xs) : ∃ A cap, v = .slice A n cap ∧ n ≤ cap := by
  rcases h.2 with ⟨rfl, rfl⟩ | ⟨g, cap, cur, rfl, _, _, q, _⟩
  · exact ⟨none, 0, rfl, Nat.le_refl _⟩
  · exact ⟨_, cap, rfl, q⟩
theorem rowv_empty {w : World} {base g : Nat} {t : TypeId} {size : Nat} (hb : base ≤ g) (hg : Box w g t #[]) : w.ownsRow base t size (.slice (some ⟨g, 0, none⟩) 0 0) 0 [] :=
  ⟨by simp, .inr ⟨g, 0, #[], rfl, hb, hg, Nat.le_refl _, Nat.zero_le _, by simp, by simp⟩⟩

theorem wpList_app_one {P : Program} {w : World} {ops : Array Oper} {rest : List Oper} {o : Oper} {a : Act} {Q : Exit → Act → World → Prop} (hgd : o.guard = none) (s x : Operand) (t e : TypeId)
    (ho : o.op = .call { callee := .builtin .append, args := #[s, x], argTypes := #[t, t] }) (z : Value) (size bytes : Nat) (E : Elem P e z size bytes) (ht : P.underlying t = some (.slice e))
    (base : Nat) (v : Value) (n : Nat) (xs : List Value) (hs : a.eval s = v) (hown : w.ownsRow base e size v n xs)
    (b c : Nat) (hx : a.eval x = .slice (some ⟨b, 0, none⟩) 1 c) (news : List Value) (hl : news.length = size) (hnews : ∀ j u, news[j]? = some u → w.cell? ⟨b, j, none⟩ = some u) (h1 : ∀ u ∈ news, u.oneCell' = true)
    (h63 : n + 1 ≤ maxLen) (hby : (n + 1) * bytes ≤ 140737488355328) (hbase : base ≤ w.heap.size)
    (hK : ∀ A cap w', w'.ownsRow base e size (.slice A (n + 1) cap) (n + 1) (xs ++ news) → n + 1 ≤ cap → w.grownBy w' v.ownBlock → Below base w w' → wpList P ops Q rest (a.put o.dst (.slice A (n + 1) cap)) w') : wpList P ops Q (o :: rest) a w := by
  obtain ⟨i, hi, hz, hsz, hb⟩ := E.info
  refine wpList_append_own w hgd s x t ho base e i z size bytes ht hi hz hsz hb E.cells E.pos v n xs hs hown ⟨b, 0, none⟩ 1 c news hx (by rw [hl]; omega) (fun j u hj => ?_) h1 h63 hby hbase (fun v' w' h2 h3 _ => ?_)
  · have := hnews j u hj
    unfold Addr.add
    by_cases h0 : j = 0
    · subst h0; simpa using this
    · rw [if_neg h0]; simpa using this
  · obtain ⟨A, cap, rfl, hcap⟩ := rowv_form h2
    exact hK A cap w' h2 hcap h3 ((Below.refl base w).grown h3 hbase (rowv_ge hown))

theorem wpList_app_many {P : Program} {w : World} {ops : Array Oper} {rest : List Oper} {o : Oper} {a : Act} {Q : Exit → Act → World → Prop} (hgd : o.guard = none) (s x : Operand) (t e : TypeId)
    (ho : o.op = .call { callee := .builtin .append, args := #[s, x], argTypes := #[t, t] }) (z : Value) (size bytes : Nat) (E : Elem P e z size bytes) (ht : P.underlying t = some (.slice e))
    (base : Nat) (v : Value) (n : Nat) (xs : List Value) (hs : a.eval s = v) (hown : w.ownsRow base e size v n xs)
    (ad : Addr) (m c : Nat) (hx : a.eval x = .slice (some ad) m c) (news : List Value) (hl : news.length = m * size) (hnews : ∀ j u, news[j]? = some u → w.cell? (ad.add j) = some u) (h1 : ∀ u ∈ news, u.oneCell' = true)
    (h63 : n + m ≤ maxLen) (hby : (n + m) * bytes ≤ 140737488355328) (hbase : base ≤ w.heap.size)
    (hK : ∀ A cap w', w'.ownsRow base e size (.slice A (n + m) cap) (n + m) (xs ++ news) → n + m ≤ cap → w.grownBy w' v.ownBlock → Below base w w' → wpList P ops Q rest (a.put o.dst (.slice A (n + m) cap)) w') : wpList P ops Q (o :: rest) a w := by
  obtain ⟨i, hi, hz, hsz, hb⟩ := E.info
  refine wpList_append_own w hgd s x t ho base e i z size bytes ht hi hz hsz hb E.cells E.pos v n xs hs hown ad m c news hx hl hnews h1 h63 hby hbase (fun v' w' h2 h3 _ => ?_)
  obtain ⟨A, cap, rfl, hcap⟩ := rowv_form h2
  exact hK A cap w' h2 hcap h3 ((Below.refl base w).grown h3 hbase (rowv_ge hown))

theorem Box.grown {w w' : World} {b base n : Nat} {t e : TypeId} {cs : Array Value} {size : Nat} {v : Value} {xs : List Value} (h : Box w b t cs) (hr : w.ownsRow base e size v n xs) (ht : t ≠ e) (hg : w.grownBy w' v.ownBlock) : Box w' b t cs := by
  have hlt := h.lt
  refine (hg.block b hlt ?_).trans h
  rcases hr.2 with ⟨rfl, _⟩ | ⟨g, cap, cur, rfl, _, q2, _⟩
  · simp [Value.ownBlock]
  · simp only [Value.ownBlock, ne_eq, Option.some.injEq]
    rintro rfl
    unfold Box at h
    rw [h] at q2
    injection q2 with q2
    injection q2 with _ q3
    exact ht q3
theorem rowv_setBox {w : World} {base n b : Nat} {t e : TypeId} {cs : Array Value} {size : Nat} {v : Value} {xs : List Value} (h : w.ownsRow base e size v n xs) (X : Box w b t cs) (ht : t ≠ e) (i : Nat) (u : Value) : (w.setCell ⟨b, i, none⟩ u).ownsRow base e size v n xs := by
  obtain ⟨h1, h0 | ⟨g, cap, cur, rfl, q1, q2, q3⟩⟩ := h
  · exact ⟨h1, .inl h0⟩
  · refine ⟨h1, .inr ⟨g, cap, cur, rfl, q1, ?_, q3⟩⟩
    refine (Below.heap_setCell w ⟨b, i, none⟩ u g ?_).trans q2
    rintro rfl
    unfold Box at X
    rw [X] at q2
    injection q2 with q2
    injection q2 with _ q3
    exact ht q3
set_option maxRecDepth 100000 in
theorem elemInt : Elem Tryz.prog 3 (.int .i64 0) 1 8 := ⟨⟨_, rfl, rfl, rfl, rfl⟩, rfl, by decide⟩
def GroI (w : World) (base : Nat) (v : Value) (zs : List Int) : Prop := w.ownsRow base 3 1 v zs.length (zs.map (Value.int .i64))
def GroS (w : World) (base : Nat) (v : Value) (ss : List ByteArray) : Prop := w.ownsRow base 9 1 v ss.length (ss.map Value.string)
theorem GroI.own {w : World} {base lo : Nat} {A : Option Addr} {n c : Nat} {zs : List Int} (h : GroI w base (.slice A n c) zs) (hb : lo ≤ base) : OwnI w lo w.heap.size A zs := by
  obtain ⟨h1, ⟨h0, h2⟩ | ⟨g, cap, cur, hv, q1, q2, q3, q4, q5, q6⟩⟩ := h
  · exact .inl (List.eq_nil_of_length_eq_zero h2)
  · injection hv with hv1 hv2 hv3
    refine .inr ⟨g, cap, fun i => cur.getD i (.int .i64 0), hv1, by omega, (Array.getElem?_eq_some_iff.1 q2).1, q3, ⟨cur, q2, by omega, fun i hi => ?_⟩, fun i hi => ?_⟩
    · simp [Array.getElem?_eq_getElem (show i < cur.size by omega)]
    · have : (cur.toList.take (zs.length * 1))[i]? = (zs.map (Value.int .i64))[i]? := by rw [q6]
      rw [List.getElem?_take, if_pos (by omega), Array.getElem?_toList, List.getElem?_map, List.getElem?_eq_getElem hi] at this
      simp [this, List.getD_eq_getElem?_getD, List.getElem?_eq_getElem hi]
theorem GroS.own {w : World} {base lo : Nat} {A : Option Addr} {n c : Nat} {ss : List ByteArray} (h : GroS w base (.slice A n c) ss) (hb : lo ≤ base) : OwnS w lo w.heap.size A ss := by
  obtain ⟨h1, ⟨h0, h2⟩ | ⟨g, cap, cur, hv, q1, q2, q3, q4, q5, q6⟩⟩ := h
  · exact .inl (List.eq_nil_of_length_eq_zero h2)
  · injection hv with hv1 hv2 hv3
    refine .inr ⟨g, cap, fun i => cur.getD i (.int .i64 0), hv1, by omega, (Array.getElem?_eq_some_iff.1 q2).1, q3, ⟨cur, q2, by omega, fun i hi => ?_⟩, fun i hi => ?_⟩
    · simp [Array.getElem?_eq_getElem (show i < cur.size by omega)]
    · have : (cur.toList.take (ss.length * 1))[i]? = (ss.map Value.string)[i]? := by rw [q6]
      rw [List.getElem?_take, if_pos (by omega), Array.getElem?_toList, List.getElem?_map, List.getElem?_eq_getElem hi] at this
      simp [this, List.getD_eq_getElem?_getD, List.getElem?_eq_getElem hi]
theorem GroI.len {w : World} {base : Nat} {A : Option Addr} {n c : Nat} {zs : List Int} (h : GroI w base (.slice A n c) zs) : zs.length = n := by
  obtain ⟨A', cap, hv, _⟩ := rowv_form h
  injection hv with _ hv2 _; exact hv2.symm
theorem GroS.len {w : World} {base : Nat} {A : Option Addr} {n c : Nat} {ss : List ByteArray} (h : GroS w base (.slice A n c) ss) : ss.length = n := by
  obtain ⟨A', cap, hv, _⟩ := rowv_form h
  injection hv with _ hv2 _; exact hv2.symm
end Go.Proofs.YtcchhbkbnbphhaaGreatDoor
