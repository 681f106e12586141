/- Texts of this claim, one behind the other: Mem, EqDisk, Own, ToDisk, Ints, SzDisk, IntsMore, Mark, BoxDisk, Bools, OkDisk, GenA, GenB, GenC, GenInstr, OpTab, Quiet, OpOk, Digs, Wds, ReadExt. -/
import Derived.WalkKit
import Derived.WalkSpells
import Derived.Lib.Hide
import Derived.Below
import Derived.WalkSmall
import Derived.Test.YtcchhbkbnbphhaaDoorRows
import Derived.Deep.QuietTactic
import Derived.BigQuiet
import Derived.StillTailTactics
import Derived.Deep.OwnRows
import Derived.Deep.RegionHeld3
import Derived.Laws.IdiomStrings
/- Words for memory: slices of strings, of writes, of integers as lists; what keeps them. Nothing here is of one program. -/
namespace Go.Proofs.YtcchhbkbnbphhaaDoor
open Go.RowKit

def StrL (w : World) (A : Option Addr) (ss : List ByteArray) : Prop :=
  ∀ i, i < ss.length → ∃ b off, A = some ⟨b, off, none⟩ ∧ w.cell? ⟨b, off + i, none⟩ = some (.string (ss.getD i ByteArray.empty))
def WrL (w : World) (A : Option Addr) (ws : List (Int × ByteArray)) : Prop :=
  ∀ i, i < ws.length → ∃ b off, A = some ⟨b, off, none⟩ ∧ w.cell? ⟨b, off + i * 2, none⟩ = some (.int .i64 (ws.getD i (0, ByteArray.empty)).1) ∧
    w.cell? ⟨b, off + i * 2 + 1, none⟩ = some (.string (ws.getD i (0, ByteArray.empty)).2)
def IntL (w : World) (A : Option Addr) (zs : List Int) : Prop :=
  ∀ i, i < zs.length → ∃ b off, A = some ⟨b, off, none⟩ ∧ w.cell? ⟨b, off + i, none⟩ = some (.int .i64 (zs.getD i 0))

theorem cell_lt {w : World} {p : Addr} {v : Value} (h : w.cell? p = some v) : p.block < w.heap.size := by
  rcases Nat.lt_or_ge p.block w.heap.size with h1 | h1
  · exact h1
  · unfold World.cell? at h
    rw [Array.getElem?_eq_none h1] at h
    cases h

def Keep (keep : Nat → Prop) (w w' : World) : Prop := ∀ p : Addr, keep p.block → p.block < w.heap.size → w'.cell? p = w.cell? p

theorem Keep.of_below {B : Nat} {w w' : World} (h : Below B w w') : Keep (fun b => b < B) w w' := fun _ hp _ => h.cell hp

theorem StrL.below {w w' : World} {A : Option Addr} {ss : List ByteArray} (h : StrL w A ss) (hb : Below w.heap.size w w') : StrL w' A ss := fun i hi => by
  obtain ⟨b, off, e, hc⟩ := h i hi
  exact ⟨b, off, e, (hb.cell (cell_lt hc)).trans hc⟩
theorem WrL.below {w w' : World} {A : Option Addr} {ws : List (Int × ByteArray)} (h : WrL w A ws) (hb : Below w.heap.size w w') : WrL w' A ws := fun i hi => by
  obtain ⟨b, off, e, hc, hd⟩ := h i hi
  exact ⟨b, off, e, (hb.cell (cell_lt hc)).trans hc, (hb.cell (cell_lt hd)).trans hd⟩
theorem IntL.below {w w' : World} {A : Option Addr} {zs : List Int} (h : IntL w A zs) (hb : Below w.heap.size w w') : IntL w' A zs := fun i hi => by
  obtain ⟨b, off, e, hc⟩ := h i hi
  exact ⟨b, off, e, (hb.cell (cell_lt hc)).trans hc⟩

theorem bt {a b c : World} (h : Below a.heap.size a b) (k : Below b.heap.size b c) : Below a.heap.size a c := h.trans (k.mono h.size)

theorem ret_bool {a b : Bool} (h : a = b) : Ending.returned (.bool a) = .returned (.bool b) := by rw [h]
theorem ret_int {a b : Int} (h : a = b) : Ending.returned (.int .i64 a) = .returned (.int .i64 b) := by rw [h]

end Go.Proofs.YtcchhbkbnbphhaaDoor

/- Contracts of the comparisons: eqStringS, eqWrite, eqWriteS, eqDisk. -/
namespace Go.Proofs.YtcchhbkbnbphhaaDoor
open Go.RowKit

end Go.Proofs.YtcchhbkbnbphhaaDoor

/- Slices in memory of the call's own: rows between two block numbers; what a call that writes only there keeps. -/
namespace Go.Proofs.YtcchhbkbnbphhaaDoor
open Go.RowKit

structure Btw (lo hi : Nat) (w w' : World) : Prop where
  os : w'.os = w.os
  tape : w'.tape = w.tape
  output : w'.output = w.output
  size : w.heap.size ≤ w'.heap.size
  block : ∀ k, k < w.heap.size → k < lo ∨ hi ≤ k → w'.heap[k]? = w.heap[k]?

theorem Btw.refl (lo hi : Nat) (w : World) : Btw lo hi w w := ⟨rfl, rfl, rfl, Nat.le_refl _, fun _ _ _ => rfl⟩
theorem Btw.trans {lo hi : Nat} {a b c : World} (h : Btw lo hi a b) (k : Btw lo hi b c) : Btw lo hi a c :=
  ⟨k.os.trans h.os, k.tape.trans h.tape, k.output.trans h.output, Nat.le_trans h.size k.size, fun i hi' ho => (k.block i (Nat.lt_of_lt_of_le hi' h.size) ho).trans (h.block i hi' ho)⟩
theorem Btw.of_below {w w' : World} (h : Below w.heap.size w w') (lo hi : Nat) : Btw lo hi w w' := ⟨h.os, h.tape, h.output, h.size, fun k hk _ => h.block k hk⟩
theorem Btw.below {lo hi : Nat} {w w' : World} (h : Btw lo hi w w') (hl : lo ≤ w.heap.size) : Below lo w w' := ⟨h.os, h.tape, h.output, h.size, fun k hk => h.block k (Nat.lt_of_lt_of_le hk hl) (.inl hk)⟩
theorem Btw.wide {lo hi lo' hi' : Nat} {w w' : World} (h : Btw lo hi w w') (h1 : lo' ≤ lo) (h2 : hi ≤ hi') : Btw lo' hi' w w' :=
  ⟨h.os, h.tape, h.output, h.size, fun k hk ho => h.block k hk (by omega)⟩
theorem Btw.drewN {lo hi : Nat} {a w : World} (h : Btw lo hi a w) (n : Nat) : Btw lo hi a (w.drewN n) := ⟨h.os, h.tape, h.output, h.size, h.block⟩
theorem Btw.drew {lo hi : Nat} {a w : World} (h : Btw lo hi a w) : Btw lo hi a w.drew := ⟨h.os, h.tape, h.output, h.size, h.block⟩
theorem Btw.alloc {lo hi : Nat} {a w : World} (h : Btw lo hi a w) (o : Obj) : Btw lo hi a (w.alloc o) := h.trans (Btw.of_below ((Below.refl _ _).alloc (Nat.le_refl _) o) lo hi)
theorem Btw.setCell {lo hi : Nat} {a w : World} (h : Btw lo hi a w) {p : Addr} (h1 : lo ≤ p.block) (h2 : p.block < hi) (u : Value) : Btw lo hi a (w.setCell p u) :=
  ⟨h.os, h.tape, h.output, by simpa [World.setCell] using h.size, fun k hk ho => (Below.heap_setCell w p u k (by omega)).trans (h.block k hk ho)⟩
theorem Btw.put {b : Nat} {a w : World} (h : Btw b (b + 1) a w) {i : Nat} {v : Value} : Btw b (b + 1) a (w.setCell ⟨b, i, none⟩ v) := h.setCell (Nat.le_refl _) (Nat.lt_succ_self _) v
theorem Btw.cell {lo hi : Nat} {w w' : World} (h : Btw lo hi w w') {p : Addr} {v : Value} (hc : w.cell? p = some v) (ho : p.block < lo ∨ hi ≤ p.block) : w'.cell? p = some v :=
  (World.cell?_of_block (w := w) (h.block p.block (cell_lt hc) ho)).trans hc
theorem Btw.row {lo hi : Nat} {w w' : World} (h : Btw lo hi w w') {b : Nat} {t : TypeId} {n : Nat} {f : Nat → Value} (hr : w.rowIs b t n f) (ho : b < lo ∨ hi ≤ b) : w'.rowIs b t n f :=
  hr.of_block (h.block b hr.lt ho)
theorem row_below {B : Nat} {w w' : World} (h : Below B w w') {b : Nat} {t : TypeId} {n : Nat} {f : Nat → Value} (hr : w.rowIs b t n f) (ho : b < B) : w'.rowIs b t n f := hr.of_block (h.block b ho)
theorem row_ne {w : World} {b b' : Nat} {t t' : TypeId} {n n' : Nat} {f f' : Nat → Value} (h : w.rowIs b t n f) (h' : w.rowIs b' t' n' f') (ht : t ≠ t') : b ≠ b' := by
  rintro rfl
  obtain ⟨c, hc, _⟩ := h
  obtain ⟨c', hc', _⟩ := h'
  rw [hc] at hc'
  injection hc' with e
  injection e with _ e2
  exact ht e2

def OwnS (w : World) (lo hi : Nat) (A : Option Addr) (ss : List ByteArray) : Prop :=
  ss = [] ∨ ∃ b m f, A = some ⟨b, 0, none⟩ ∧ lo ≤ b ∧ b < hi ∧ ss.length ≤ m ∧ w.rowIs b 9 m f ∧ ∀ i, i < ss.length → f i = .string (ss.getD i ByteArray.empty)
def OwnI (w : World) (lo hi : Nat) (A : Option Addr) (zs : List Int) : Prop :=
  zs = [] ∨ ∃ b m f, A = some ⟨b, 0, none⟩ ∧ lo ≤ b ∧ b < hi ∧ zs.length ≤ m ∧ w.rowIs b 3 m f ∧ ∀ i, i < zs.length → f i = .int .i64 (zs.getD i 0)

theorem OwnS.reads {w : World} {lo hi : Nat} {A : Option Addr} {ss : List ByteArray} (h : OwnS w lo hi A ss) : StrL w A ss := fun i hi' => by
  rcases h with rfl | ⟨b, m, f, e, _, _, hm, hr, hf⟩
  · simp at hi'
  · exact ⟨b, 0, e, by rw [← hf i hi', Nat.zero_add]; exact hr.cell (by omega)⟩
theorem OwnI.reads {w : World} {lo hi : Nat} {A : Option Addr} {zs : List Int} (h : OwnI w lo hi A zs) : IntL w A zs := fun i hi' => by
  rcases h with rfl | ⟨b, m, f, e, _, _, hm, hr, hf⟩
  · simp at hi'
  · exact ⟨b, 0, e, by rw [← hf i hi', Nat.zero_add]; exact hr.cell (by omega)⟩
theorem OwnS.btw {w w' : World} {lo hi l h' : Nat} {A : Option Addr} {ss : List ByteArray} (h : OwnS w lo hi A ss) (hb : Btw l h' w w') (ho : hi ≤ l ∨ h' ≤ lo) : OwnS w' lo hi A ss := by
  rcases h with e | ⟨b, m, f, e, h1, h2, hm, hr, hf⟩
  · exact .inl e
  · exact .inr ⟨b, m, f, e, h1, h2, hm, hb.row hr (by omega), hf⟩
theorem OwnI.btw {w w' : World} {lo hi l h' : Nat} {A : Option Addr} {zs : List Int} (h : OwnI w lo hi A zs) (hb : Btw l h' w w') (ho : hi ≤ l ∨ h' ≤ lo) : OwnI w' lo hi A zs := by
  rcases h with e | ⟨b, m, f, e, h1, h2, hm, hr, hf⟩
  · exact .inl e
  · exact .inr ⟨b, m, f, e, h1, h2, hm, hb.row hr (by omega), hf⟩
theorem OwnS.below {w w' : World} {lo hi : Nat} {A : Option Addr} {ss : List ByteArray} (h : OwnS w lo hi A ss) (hb : Below w.heap.size w w') : OwnS w' lo hi A ss := h.btw (Btw.of_below hb hi hi) (.inl (Nat.le_refl _))
theorem OwnI.below {w w' : World} {lo hi : Nat} {A : Option Addr} {zs : List Int} (h : OwnI w lo hi A zs) (hb : Below w.heap.size w w') : OwnI w' lo hi A zs := h.btw (Btw.of_below hb hi hi) (.inl (Nat.le_refl _))
theorem StrL.btw {lo hi : Nat} {w w' : World} {A : Option Addr} {ss : List ByteArray} (h : StrL w A ss) (hb : Btw lo hi w w') (hB : w.heap.size ≤ lo) : StrL w' A ss := fun i hi' => by
  obtain ⟨b, off, e, hc⟩ := h i hi'
  exact ⟨b, off, e, hb.cell hc (.inl (Nat.lt_of_lt_of_le (cell_lt hc) hB))⟩

def Box (w : World) (b : Nat) (t : TypeId) (cs : Array Value) : Prop := w.heap[b]? = some (.cells cs t (0, 0))
theorem Box.cell {w : World} {b : Nat} {t : TypeId} {cs : Array Value} (h : Box w b t cs) (i : Nat) {v : Value} (hv : cs[i]? = some v) : w.cell? ⟨b, i, none⟩ = some v := by
  unfold Box at h; simp [World.cell?, h, hv]
theorem Box.frozen {w : World} {b : Nat} {t : TypeId} {cs : Array Value} (h : Box w b t cs) (i : Nat) : w.frozen? ⟨b, i, none⟩ = false := by
  unfold Box at h; simp [World.frozen?, h]
theorem Box.lt {w : World} {b : Nat} {t : TypeId} {cs : Array Value} (h : Box w b t cs) : b < w.heap.size := by
  obtain ⟨hlt, _⟩ := Array.getElem?_eq_some_iff.1 h
  exact hlt
theorem Box.below {w w' : World} {B b : Nat} {t : TypeId} {cs : Array Value} (h : Box w b t cs) (hb : Below B w w') (hB : b < B) : Box w' b t cs := (hb.block b hB).trans h
theorem Box.step {w w' : World} {b : Nat} {t : TypeId} {cs : Array Value} (h : Box w b t cs) (hb : Below w.heap.size w w') : Box w' b t cs := h.below hb h.lt
theorem Box.btw {w w' : World} {lo hi b : Nat} {t : TypeId} {cs : Array Value} (h : Box w b t cs) (hb : Btw lo hi w w') (ho : b < lo ∨ hi ≤ b) : Box w' b t cs := (hb.block b h.lt ho).trans h
theorem Box.new (w : World) (t : TypeId) (cs : Array Value) : Box (w.alloc (.cells cs t)) w.heap.size t cs := by
  show (w.heap.push _)[w.heap.size]? = _; simp
theorem Box.alloc {w : World} {b : Nat} {t : TypeId} {cs : Array Value} (h : Box w b t cs) (o : Obj) : Box (w.alloc o) b t cs := h.step ((Below.refl _ _).alloc (Nat.le_refl _) o)
theorem Box.set {w : World} {b : Nat} {t : TypeId} {cs : Array Value} (h : Box w b t cs) (i : Nat) (u : Value) : Box (w.setCell ⟨b, i, none⟩ u) b t (cs.setIfInBounds i u) := by
  unfold Box at h ⊢
  simp [World.setCell, Array.getElem?_modify, h]
theorem Box.far {w : World} {b : Nat} {t : TypeId} {cs : Array Value} (h : Box w b t cs) {p : Addr} (hp : b ≠ p.block) (u : Value) : Box (w.setCell p u) b t cs := (Below.heap_setCell w p u b hp).trans h
theorem Box.drewN {w : World} {b : Nat} {t : TypeId} {cs : Array Value} (h : Box w b t cs) (n : Nat) : Box (w.drewN n) b t cs := h
theorem Box.drew {w : World} {b : Nat} {t : TypeId} {cs : Array Value} (h : Box w b t cs) : Box w.drew b t cs := h
theorem Box.row {w : World} {b : Nat} {t : TypeId} {cs : Array Value} (h : Box w b t cs) (f : Nat → Value) (hf : ∀ i, i < cs.size → cs[i]? = some (f i)) : w.rowIs b t cs.size f := ⟨cs, h, rfl, hf⟩
theorem Box.ne {w : World} {b b' : Nat} {t t' : TypeId} {cs : Array Value} {n : Nat} {f : Nat → Value} (h : Box w b t cs) (h' : w.rowIs b' t' n f) (ht : t ≠ t') : b ≠ b' := by
  rintro rfl
  obtain ⟨c', hc', _⟩ := h'
  unfold Box at h
  rw [h] at hc'
  injection hc' with e
  injection e with _ e2
  exact ht e2
end Go.Proofs.YtcchhbkbnbphhaaDoor

/- Contracts of the copies: toStringS, toWrite, toWriteS, toDisk. -/
namespace Go.Proofs.YtcchhbkbnbphhaaDoor
open Go.RowKit

end Go.Proofs.YtcchhbkbnbphhaaDoor

/- Contracts of toIntS, eqIntS, markIntS. -/
namespace Go.Proofs.YtcchhbkbnbphhaaDoor
open Go.RowKit

set_option maxRecDepth 100000 in
theorem infoI : (Tryd.prog.info? 3).map (fun i => (i.zero, i.size, i.bytes)) = some (some (.int .i64 0), 1, 8) := by kernel_rfl

end Go.Proofs.YtcchhbkbnbphhaaDoor

/- Contracts of the measures: szStringS, szWrite, szWriteS, szDisk: what is left, or -1. -/
namespace Go.Proofs.YtcchhbkbnbphhaaDoor
open Go.RowKit

def Left (left : Int) (used : Nat) (w : World) (e : Ending) (w' : World) : Prop :=
  (e = .returned (.int .i64 (-1)) ∨ e = .returned (.int .i64 (left - used)) ∧ (used : Int) ≤ left) ∧ Below w.heap.size w w'

end Go.Proofs.YtcchhbkbnbphhaaDoor

/- Contracts of szIntS, of markIntS with what it leaves, of heldIntS. -/
namespace Go.Proofs.YtcchhbkbnbphhaaDoor
open Go.RowKit

def marksI (k n : Nat) : List Int := (List.range n).map fun i => ((k + i : Nat) : Int)
end Go.Proofs.YtcchhbkbnbphhaaDoor

/- Contracts of the marks: markText, markStringS, heldStringS, markWriteS, heldWriteS, markDisk, heldDisk. -/
namespace Go.Proofs.YtcchhbkbnbphhaaDoor
open Go.RowKit

def mkDig (j : Nat) : ByteArray := ⟨#[UInt8.ofNat (48 + j % 10)]⟩
def mkGo : Nat → Nat → ByteArray → ByteArray
  | 0, _, o => o
  | f + 1, j, o => if j = 0 then o else mkGo f (j / 10) (mkDig j ++ o)
def mkText (k : Nat) : ByteArray := ⟨#[109]⟩ ++ mkGo k k ByteArray.empty
def marksS (k n : Nat) : List ByteArray := (List.range n).map fun i => mkText (k + i)
theorem OwnS.wide {w : World} {lo hi lo' hi' : Nat} {A : Option Addr} {ss : List ByteArray} (h : OwnS w lo hi A ss) (h1 : lo' ≤ lo) (h2 : hi ≤ hi') : OwnS w lo' hi' A ss := by
  rcases h with e | ⟨b, m, f, e, q1, q2, q3, q4, q5⟩
  · exact .inl e
  · exact .inr ⟨b, m, f, e, by omega, by omega, q3, q4, q5⟩
theorem OwnS.apart {w w' : World} {lo hi l r : Nat} {A : Option Addr} {ss : List ByteArray} (h : OwnS w lo hi A ss) (hb : Btw l r w w') (ha : ∀ b n f, w.rowIs b 9 n f → b < l ∨ r ≤ b) : OwnS w' lo hi A ss := by
  rcases h with e | ⟨b, m, f, e, q1, q2, q3, q4, q5⟩
  · exact .inl e
  · exact .inr ⟨b, m, f, e, q1, q2, q3, hb.row q4 (ha b m f q4), q5⟩
end Go.Proofs.YtcchhbkbnbphhaaDoor

/- A disk of the call's own behind a box: kept over what is new, and over writes elsewhere. -/
namespace Go.Proofs.YtcchhbkbnbphhaaDoor
open Go.RowKit

section
variable {w w' : World} {b lo hi : Nat} {A : Option Addr} {n c : Nat} {C : Option Addr} {m d : Nat} {ss : List ByteArray} {ws : List (Int × ByteArray)}
end
theorem alloc_below (w : World) (o : Obj) : Below w.heap.size w (w.alloc o) := (Below.refl _ _).alloc (Nat.le_refl _) o
end Go.Proofs.YtcchhbkbnbphhaaDoor

/- Slices of booleans: as lists, of the call's own; contracts of szBoolS, toBoolS, eqBoolS, markBoolS, heldBoolS. -/
namespace Go.Proofs.YtcchhbkbnbphhaaDoor
open Go.RowKit

def BoolL (w : World) (A : Option Addr) (gs : List Bool) : Prop :=
  ∀ i, i < gs.length → ∃ b off, A = some ⟨b, off, none⟩ ∧ w.cell? ⟨b, off + i, none⟩ = some (.bool (gs.getD i false))
theorem BoolL.below {w w' : World} {A : Option Addr} {gs : List Bool} (h : BoolL w A gs) (hb : Below w.heap.size w w') : BoolL w' A gs := fun i hi => by
  obtain ⟨b, off, e, hc⟩ := h i hi
  exact ⟨b, off, e, (hb.cell (cell_lt hc)).trans hc⟩
def OwnB (w : World) (lo hi : Nat) (A : Option Addr) (gs : List Bool) : Prop :=
  gs = [] ∨ ∃ b m f, A = some ⟨b, 0, none⟩ ∧ lo ≤ b ∧ b < hi ∧ gs.length ≤ m ∧ w.rowIs b 4 m f ∧ ∀ i, i < gs.length → f i = .bool (gs.getD i false)
theorem OwnB.reads {w : World} {lo hi : Nat} {A : Option Addr} {gs : List Bool} (h : OwnB w lo hi A gs) : BoolL w A gs := fun i hi' => by
  rcases h with rfl | ⟨b, m, f, e, _, _, hm, hr, hf⟩
  · simp at hi'
  · exact ⟨b, 0, e, by rw [← hf i hi', Nat.zero_add]; exact hr.cell (by omega)⟩
theorem OwnB.btw {w w' : World} {lo hi l h' : Nat} {A : Option Addr} {gs : List Bool} (h : OwnB w lo hi A gs) (hb : Btw l h' w w') (ho : hi ≤ l ∨ h' ≤ lo) : OwnB w' lo hi A gs := by
  rcases h with e | ⟨b, m, f, e, h1, h2, hm, hr, hf⟩
  · exact .inl e
  · exact .inr ⟨b, m, f, e, h1, h2, hm, hb.row hr (by omega), hf⟩
theorem OwnB.below {w w' : World} {lo hi : Nat} {A : Option Addr} {gs : List Bool} (h : OwnB w lo hi A gs) (hb : Below w.heap.size w w') : OwnB w' lo hi A gs := h.btw (Btw.of_below hb hi hi) (.inl (Nat.le_refl _))
theorem OwnB.wide {w : World} {lo hi lo' hi' : Nat} {A : Option Addr} {gs : List Bool} (h : OwnB w lo hi A gs) (h1 : lo' ≤ lo) (h2 : hi ≤ hi') : OwnB w lo' hi' A gs := by
  rcases h with e | ⟨b, m, f, e, p1, p2, hm, hr, hf⟩
  · exact .inl e
  · exact .inr ⟨b, m, f, e, by omega, by omega, hm, hr, hf⟩
theorem OwnB.far {w : World} {lo hi : Nat} {A : Option Addr} {gs : List Bool} (h : OwnB w lo hi A gs) {b : Nat} {t : TypeId} {cs : Array Value} (X : Box w b t cs) (ht : t ≠ 4) (i : Nat) (u : Value) : OwnB (w.setCell ⟨b, i, none⟩ u) lo hi A gs := by
  rcases h with e | ⟨b', m, f, e, p1, p2, hm, hr, hf⟩
  · exact .inl e
  · exact .inr ⟨b', m, f, e, p1, p2, hm, hr.setOther (a := ⟨b, i, none⟩) (by exact (X.ne hr ht).symm) u, hf⟩
theorem OwnB.apart {w w' : World} {lo hi l r : Nat} {A : Option Addr} {gs : List Bool} (h : OwnB w lo hi A gs) (hb : Btw l r w w') (ha : ∀ b n f, w.rowIs b 4 n f → b < l ∨ r ≤ b) : OwnB w' lo hi A gs := by
  rcases h with e | ⟨b, m, f, e, q1, q2, q3, q4, q5⟩
  · exact .inl e
  · exact .inr ⟨b, m, f, e, q1, q2, q3, hb.row q4 (ha b m f q4), q5⟩
theorem OwnI.wideB {w : World} {lo hi lo' hi' : Nat} {A : Option Addr} {zs : List Int} (h : OwnI w lo hi A zs) (h1 : lo' ≤ lo) (h2 : hi ≤ hi') : OwnI w lo' hi' A zs := by
  rcases h with e | ⟨b, m, f, e, p1, p2, hm, hr, hf⟩
  · exact .inl e
  · exact .inr ⟨b, m, f, e, by omega, by omega, hm, hr, hf⟩
theorem OwnI.farB {w : World} {lo hi : Nat} {A : Option Addr} {zs : List Int} (h : OwnI w lo hi A zs) {b : Nat} {t : TypeId} {cs : Array Value} (X : Box w b t cs) (ht : t ≠ 3) (i : Nat) (u : Value) : OwnI (w.setCell ⟨b, i, none⟩ u) lo hi A zs := by
  rcases h with e | ⟨b', m, f, e, p1, p2, hm, hr, hf⟩
  · exact .inl e
  · exact .inr ⟨b', m, f, e, p1, p2, hm, hr.setOther (a := ⟨b, i, none⟩) (by exact (X.ne hr ht).symm) u, hf⟩

set_option maxRecDepth 100000 in
theorem infoB : (Tryd.prog.info? 4).map (fun i => (i.zero, i.size, i.bytes)) = some (some (.bool false), 1, 1) := by kernel_rfl

def marksB (k n : Nat) : List Bool := (List.range n).map fun i => decide ((k + i) % 3 = 0)
end Go.Proofs.YtcchhbkbnbphhaaDoor

/- Contracts of the tests: isSector, l01In, a write's and a disk's valid, both DiskOK. -/
namespace Go.Proofs.YtcchhbkbnbphhaaDoor
open Go.RowKit

theorem all_step {α : Type} (p : α → Bool) (l : List α) (d : α) (k : Nat) (h : k < l.length) : (l.drop k).all p = (p (l.getD k d) && (l.drop (k + 1)).all p) := by
  rw [List.drop_eq_getElem_cons h, List.all_cons, List.getD_eq_getElem?_getD, List.getElem?_eq_getElem h]
  rfl
theorem all_end {α : Type} (p : α → Bool) (l : List α) (k : Nat) (h : l.length ≤ k) : (l.drop k).all p = true := by
  rw [List.drop_of_length_le h]; rfl

def FitS (ss : List ByteArray) : Prop := ∀ s ∈ ss, s.size ≤ maxLen
def FitW (ws : List (Int × ByteArray)) : Prop := ∀ x ∈ ws, x.2.size ≤ maxLen
theorem FitS.at_ {ss : List ByteArray} (h : FitS ss) (k : Nat) (hk : k < ss.length) : (ss.getD k ByteArray.empty).size ≤ maxLen := h _ (by rw [List.getD_eq_getElem?_getD, List.getElem?_eq_getElem hk]; exact List.getElem_mem _)
theorem FitW.at_ {ws : List (Int × ByteArray)} (h : FitW ws) (k : Nat) (hk : k < ws.length) : (ws.getD k (0, ByteArray.empty)).2.size ≤ maxLen := h _ (by rw [List.getD_eq_getElem?_getD, List.getElem?_eq_getElem hk]; exact List.getElem_mem _)

end Go.Proofs.YtcchhbkbnbphhaaDoor

/- Leaves of Go values as data: what a value says, rows of the call's own, what a call that writes into some of them keeps. Nothing here is of one type of the program. -/
namespace Go.Proofs.YtcchhbkbnbphhaaDoor
open Go.RowKit

inductive Lf where
  | I (zs : List Int)
  | B (gs : List Bool)
  | S (ss : List ByteArray)
  | R (T : TypeId) (k : Nat) (hk : k ≤ 16) (rows : List (List Value))

def RowL (w : World) (A : Option Addr) (k : Nat) (rows : List (List Value)) : Prop :=
  ∀ i, i < rows.length → ∀ j, j < k → ∃ b off, A = some ⟨b, off, none⟩ ∧ w.cell? ⟨b, off + i * k + j, none⟩ = some ((rows.getD i []).getD j undef)
theorem RowL.below {w w' : World} {A : Option Addr} {k : Nat} {rows : List (List Value)} (h : RowL w A k rows) (hb : Below w.heap.size w w') : RowL w' A k rows := fun i hi j hj => by
  obtain ⟨b, off, e, hc⟩ := h i hi j hj
  exact ⟨b, off, e, (hb.cell (cell_lt hc)).trans hc⟩
def OwnR (w : World) (lo hi : Nat) (T : TypeId) (A : Option Addr) (k : Nat) (rows : List (List Value)) : Prop :=
  rows = [] ∨ ∃ b m f, A = some ⟨b, 0, none⟩ ∧ lo ≤ b ∧ b < hi ∧ rows.length * k ≤ m ∧ w.rowIs b T m f ∧ ∀ i, i < rows.length → ∀ j, j < k → f (i * k + j) = (rows.getD i []).getD j undef
theorem row_place {n k m i j : Nat} (hi : i < n) (hj : j < k) (h : n * k ≤ m) : i * k + j < m := by
  have h1 : (i + 1) * k ≤ n * k := Nat.mul_le_mul_right k hi
  have h2 : (i + 1) * k = i * k + k := Nat.succ_mul i k
  omega
theorem OwnR.reads {w : World} {lo hi : Nat} {T : TypeId} {A : Option Addr} {k : Nat} {rows : List (List Value)} (h : OwnR w lo hi T A k rows) : RowL w A k rows := fun i hi' j hj => by
  rcases h with rfl | ⟨b, m, f, e, _, _, hm, hr, hf⟩
  · simp at hi'
  · exact ⟨b, 0, e, by rw [← hf i hi' j hj, Nat.zero_add]; exact hr.cell (row_place hi' hj hm)⟩
theorem OwnR.btw {w w' : World} {lo hi l h' : Nat} {T : TypeId} {A : Option Addr} {k : Nat} {rows : List (List Value)} (h : OwnR w lo hi T A k rows) (hb : Btw l h' w w') (ho : hi ≤ l ∨ h' ≤ lo) : OwnR w' lo hi T A k rows := by
  rcases h with e | ⟨b, m, f, e, h1, h2, hm, hr, hf⟩
  · exact .inl e
  · exact .inr ⟨b, m, f, e, h1, h2, hm, hb.row hr (by omega), hf⟩
theorem OwnR.below {w w' : World} {lo hi : Nat} {T : TypeId} {A : Option Addr} {k : Nat} {rows : List (List Value)} (h : OwnR w lo hi T A k rows) (hb : Below w.heap.size w w') : OwnR w' lo hi T A k rows := h.btw (Btw.of_below hb hi hi) (.inl (Nat.le_refl _))
theorem OwnR.wide {w : World} {lo hi lo' hi' : Nat} {T : TypeId} {A : Option Addr} {k : Nat} {rows : List (List Value)} (h : OwnR w lo hi T A k rows) (h1 : lo' ≤ lo) (h2 : hi ≤ hi') : OwnR w lo' hi' T A k rows := by
  rcases h with e | ⟨b, m, f, e, p1, p2, hm, hr, hf⟩
  · exact .inl e
  · exact .inr ⟨b, m, f, e, by omega, by omega, hm, hr, hf⟩
def markV (k : Nat) : Value → Value
  | .int _ _ => .int .i64 (k : Int)
  | .bool _ => .bool (decide (k % 3 = 0))
  | .string _ => .string (mkText k)
  | v => v
def markRows (q k : Nat) (rows : List (List Value)) : List (List Value) :=
  (List.range rows.length).map fun i => (List.range k).map fun j => markV (q + i * k + j) ((rows.getD i []).getD j undef)
def Lf.len : Lf → Nat
  | .I zs => zs.length
  | .B gs => gs.length
  | .S ss => ss.length
  | .R _ k _ rows => rows.length * k
def Lf.slen : Lf → Nat
  | .I zs => zs.length
  | .B gs => gs.length
  | .S ss => ss.length
  | .R _ _ _ rows => rows.length
def Lf.marks (k : Nat) : Lf → Lf
  | .I zs => .I (marksI k zs.length)
  | .B gs => .B (marksB k gs.length)
  | .S ss => .S (marksS k ss.length)
  | .R T n hn rows => .R T n hn (markRows k n rows)
def Lf.fit : Lf → Prop
  | .I zs => zs.length ≤ maxLen
  | .B gs => gs.length ≤ maxLen
  | .S ss => ss.length ≤ maxLen ∧ FitS ss
  | .R _ _ _ rows => rows.length ≤ maxLen

def RepL (w : World) (v : Value) : Lf → Prop
  | .I zs => ∃ A c, v = .slice A zs.length c ∧ IntL w A zs
  | .B gs => ∃ A c, v = .slice A gs.length c ∧ BoolL w A gs
  | .S ss => ∃ A c, v = .slice A ss.length c ∧ StrL w A ss
  | .R _ k _ rows => ∃ A c, v = .slice A rows.length c ∧ RowL w A k rows
def OwnL (w : World) (lo hi : Nat) (v : Value) : Lf → Prop
  | .I zs => ∃ A c, v = .slice A zs.length c ∧ OwnI w lo hi A zs
  | .B gs => ∃ A c, v = .slice A gs.length c ∧ OwnB w lo hi A gs
  | .S ss => ∃ A c, v = .slice A ss.length c ∧ OwnS w lo hi A ss
  | .R T k _ rows => ∃ A c, v = .slice A rows.length c ∧ OwnR w lo hi T A k rows
def CapL (v : Value) : Prop := ∀ A n c, v = .slice A n c → n ≤ c
def blkL : Value → Option Nat
  | .slice (some a) n _ => if n = 0 then none else some a.block
  | _ => none
theorem blkL_some {b off : Nat} {n c : Nat} (h : 0 < n) : blkL (.slice (some ⟨b, off, none⟩) n c) = some b := by simp [blkL]; omega
theorem blkL_zero (A : Option Addr) (c : Nat) : blkL (.slice A 0 c) = none := by cases A <;> simp [blkL]

def AllA (P : Value → Lf → Prop) : List Value → List Lf → Prop
  | [], [] => True
  | v :: vs, d :: ds => P v d ∧ AllA P vs ds
  | _, _ => False
def RepA (w : World) (vs : List Value) (ds : List Lf) : Prop := AllA (RepL w) vs ds
def OwnA (w : World) (lo hi : Nat) (vs : List Value) (ds : List Lf) : Prop := AllA (OwnL w lo hi) vs ds ∧ (vs.filterMap blkL).Nodup

theorem AllA.imp {P Q : Value → Lf → Prop} : ∀ {vs : List Value} {ds : List Lf}, (∀ v d, v ∈ vs → P v d → Q v d) → AllA P vs ds → AllA Q vs ds
  | [], [], _, _ => trivial
  | v :: vs, d :: ds, h, ⟨h1, h2⟩ => ⟨h v d (by simp) h1, AllA.imp (fun v' d' hm => h v' d' (by simp [hm])) h2⟩
  | [], _ :: _, _, h => h.elim
  | _ :: _, [], _, h => h.elim

theorem RepL.below {w w' : World} {v : Value} : ∀ {d : Lf}, RepL w v d → Below w.heap.size w w' → RepL w' v d
  | .I _, ⟨A, c, e, h⟩, hb => ⟨A, c, e, h.below hb⟩
  | .B _, ⟨A, c, e, h⟩, hb => ⟨A, c, e, h.below hb⟩
  | .S _, ⟨A, c, e, h⟩, hb => ⟨A, c, e, h.below hb⟩
  | .R _ _ _ _, ⟨A, c, e, h⟩, hb => ⟨A, c, e, h.below hb⟩
theorem RepA.below {w w' : World} {vs : List Value} {ds : List Lf} (h : RepA w vs ds) (hb : Below w.heap.size w w') : RepA w' vs ds := AllA.imp (fun _ _ _ h => h.below hb) h
theorem OwnL.below {w w' : World} {lo hi : Nat} {v : Value} : ∀ {d : Lf}, OwnL w lo hi v d → Below w.heap.size w w' → OwnL w' lo hi v d
  | .I _, ⟨A, c, e, h⟩, hb => ⟨A, c, e, h.below hb⟩
  | .B _, ⟨A, c, e, h⟩, hb => ⟨A, c, e, h.below hb⟩
  | .S _, ⟨A, c, e, h⟩, hb => ⟨A, c, e, h.below hb⟩
  | .R _ _ _ _, ⟨A, c, e, h⟩, hb => ⟨A, c, e, h.below hb⟩
theorem OwnL.btw {w w' : World} {lo hi l r : Nat} {v : Value} : ∀ {d : Lf}, OwnL w lo hi v d → Btw l r w w' → (hi ≤ l ∨ r ≤ lo) → OwnL w' lo hi v d
  | .I _, ⟨A, c, e, h⟩, hb, ho => ⟨A, c, e, h.btw hb ho⟩
  | .B _, ⟨A, c, e, h⟩, hb, ho => ⟨A, c, e, h.btw hb ho⟩
  | .S _, ⟨A, c, e, h⟩, hb, ho => ⟨A, c, e, h.btw hb ho⟩
  | .R _ _ _ _, ⟨A, c, e, h⟩, hb, ho => ⟨A, c, e, h.btw hb ho⟩
theorem OwnL.wide {w : World} {lo hi lo' hi' : Nat} {v : Value} : ∀ {d : Lf}, OwnL w lo hi v d → lo' ≤ lo → hi ≤ hi' → OwnL w lo' hi' v d
  | .I _, ⟨A, c, e, h⟩, h1, h2 => ⟨A, c, e, h.wideB h1 h2⟩
  | .B _, ⟨A, c, e, h⟩, h1, h2 => ⟨A, c, e, h.wide h1 h2⟩
  | .S _, ⟨A, c, e, h⟩, h1, h2 => ⟨A, c, e, h.wide h1 h2⟩
  | .R _ _ _ _, ⟨A, c, e, h⟩, h1, h2 => ⟨A, c, e, h.wide h1 h2⟩
theorem OwnL.reads {w : World} {lo hi : Nat} {v : Value} : ∀ {d : Lf}, OwnL w lo hi v d → RepL w v d
  | .I _, ⟨A, c, e, h⟩ => ⟨A, c, e, h.reads⟩
  | .B _, ⟨A, c, e, h⟩ => ⟨A, c, e, h.reads⟩
  | .S _, ⟨A, c, e, h⟩ => ⟨A, c, e, h.reads⟩
  | .R _ _ _ _, ⟨A, c, e, h⟩ => ⟨A, c, e, h.reads⟩
theorem OwnL.form {w : World} {lo hi : Nat} {v : Value} : ∀ {d : Lf}, OwnL w lo hi v d → ∃ A c, v = .slice A d.slen c
  | .I _, ⟨A, c, e, _⟩ => ⟨A, c, e⟩
  | .B _, ⟨A, c, e, _⟩ => ⟨A, c, e⟩
  | .S _, ⟨A, c, e, _⟩ => ⟨A, c, e⟩
  | .R _ _ _ _, ⟨A, c, e, _⟩ => ⟨A, c, e⟩
theorem RepL.form {w : World} {v : Value} : ∀ {d : Lf}, RepL w v d → ∃ A c, v = .slice A d.slen c
  | .I _, ⟨A, c, e, _⟩ => ⟨A, c, e⟩
  | .B _, ⟨A, c, e, _⟩ => ⟨A, c, e⟩
  | .S _, ⟨A, c, e, _⟩ => ⟨A, c, e⟩
  | .R _ _ _ _, ⟨A, c, e, _⟩ => ⟨A, c, e⟩
theorem OwnA.below {w w' : World} {lo hi : Nat} {vs : List Value} {ds : List Lf} (h : OwnA w lo hi vs ds) (hb : Below w.heap.size w w') : OwnA w' lo hi vs ds := ⟨AllA.imp (fun _ _ _ h => h.below hb) h.1, h.2⟩
theorem OwnA.btw {w w' : World} {lo hi l r : Nat} {vs : List Value} {ds : List Lf} (h : OwnA w lo hi vs ds) (hb : Btw l r w w') (ho : hi ≤ l ∨ r ≤ lo) : OwnA w' lo hi vs ds := ⟨AllA.imp (fun _ _ _ h => h.btw hb ho) h.1, h.2⟩
theorem OwnA.wide {w : World} {lo hi lo' hi' : Nat} {vs : List Value} {ds : List Lf} (h : OwnA w lo hi vs ds) (h1 : lo' ≤ lo) (h2 : hi ≤ hi') : OwnA w lo' hi' vs ds := ⟨AllA.imp (fun _ _ _ h => h.wide h1 h2) h.1, h.2⟩
theorem OwnA.reads {w : World} {lo hi : Nat} {vs : List Value} {ds : List Lf} (h : OwnA w lo hi vs ds) : RepA w vs ds := AllA.imp (fun _ _ _ h => h.reads) h.1

structure Touch (vs : List Value) (w w' : World) : Prop where
  os : w'.os = w.os
  tape : w'.tape = w.tape
  output : w'.output = w.output
  size : w.heap.size ≤ w'.heap.size
  block : ∀ k, k < w.heap.size → k ∉ vs.filterMap blkL → w'.heap[k]? = w.heap[k]?
theorem Touch.refl (vs : List Value) (w : World) : Touch vs w w := ⟨rfl, rfl, rfl, Nat.le_refl _, fun _ _ _ => rfl⟩
theorem Touch.trans {vs us : List Value} {a b c : World} (h : Touch vs a b) (k : Touch us b c) : Touch (vs ++ us) a c :=
  ⟨k.os.trans h.os, k.tape.trans h.tape, k.output.trans h.output, Nat.le_trans h.size k.size, fun i hi hn => by
    rw [List.filterMap_append, List.mem_append] at hn
    exact (k.block i (Nat.lt_of_lt_of_le hi h.size) (fun h => hn (.inr h))).trans (h.block i hi (fun h => hn (.inl h)))⟩
theorem Touch.of_below {w w' : World} (h : Below w.heap.size w w') (vs : List Value) : Touch vs w w' := ⟨h.os, h.tape, h.output, h.size, fun k hk _ => h.block k hk⟩
theorem Touch.more {vs us : List Value} {w w' : World} (h : Touch vs w w') (hs : ∀ k, k ∈ vs.filterMap blkL → k ∈ us.filterMap blkL) : Touch us w w' := ⟨h.os, h.tape, h.output, h.size, fun k hk hn => h.block k hk (fun h => hn (hs k h))⟩
theorem OwnL.blk {w : World} {lo hi : Nat} {v : Value} {b : Nat} (hb : blkL v = some b) : ∀ {d : Lf}, OwnL w lo hi v d → lo ≤ b ∧ b < hi
  | .I zs, ⟨A, c, e, h⟩ => by
    subst e
    rcases h with rfl | ⟨g, m, f, rfl, h1, h2, _⟩
    · rw [List.length_nil, blkL_zero] at hb; cases hb
    · rcases Nat.eq_zero_or_pos zs.length with hz | hz
      · rw [hz, blkL_zero] at hb; cases hb
      · rw [blkL_some hz] at hb; injection hb with hb; subst hb; exact ⟨h1, h2⟩
  | .B zs, ⟨A, c, e, h⟩ => by
    subst e
    rcases h with rfl | ⟨g, m, f, rfl, h1, h2, _⟩
    · rw [List.length_nil, blkL_zero] at hb; cases hb
    · rcases Nat.eq_zero_or_pos zs.length with hz | hz
      · rw [hz, blkL_zero] at hb; cases hb
      · rw [blkL_some hz] at hb; injection hb with hb; subst hb; exact ⟨h1, h2⟩
  | .S zs, ⟨A, c, e, h⟩ => by
    subst e
    rcases h with rfl | ⟨g, m, f, rfl, h1, h2, _⟩
    · rw [List.length_nil, blkL_zero] at hb; cases hb
    · rcases Nat.eq_zero_or_pos zs.length with hz | hz
      · rw [hz, blkL_zero] at hb; cases hb
      · rw [blkL_some hz] at hb; injection hb with hb; subst hb; exact ⟨h1, h2⟩
  | .R _ _ _ zs, ⟨A, c, e, h⟩ => by
    subst e
    rcases h with rfl | ⟨g, m, f, rfl, h1, h2, _⟩
    · rw [List.length_nil, blkL_zero] at hb; cases hb
    · rcases Nat.eq_zero_or_pos zs.length with hz | hz
      · rw [hz, blkL_zero] at hb; cases hb
      · rw [blkL_some hz] at hb; injection hb with hb; subst hb; exact ⟨h1, h2⟩
theorem AllA.mem {P : Value → Lf → Prop} : ∀ {vs : List Value} {ds : List Lf} {v : Value}, AllA P vs ds → v ∈ vs → ∃ d, P v d
  | v :: vs, d :: ds, u, ⟨h1, h2⟩, hm => by
    rcases List.mem_cons.1 hm with rfl | hm
    · exact ⟨d, h1⟩
    · exact AllA.mem h2 hm
  | [], [], _, _, hm => by cases hm
theorem OwnA.blk {w : World} {lo hi : Nat} {vs : List Value} {ds : List Lf} (h : OwnA w lo hi vs ds) {b : Nat} (hb : b ∈ vs.filterMap blkL) : lo ≤ b ∧ b < hi := by
  obtain ⟨v, hv, he⟩ := List.mem_filterMap.1 hb
  obtain ⟨d, hd⟩ := h.1.mem hv
  exact hd.blk he
theorem Touch.btw {w w' : World} {lo hi : Nat} {vs : List Value} {ds : List Lf} (h : OwnA w lo hi vs ds) (t : Touch vs w w') : Btw lo hi w w' :=
  ⟨t.os, t.tape, t.output, t.size, fun k hk ho => t.block k hk (fun hm => by have := h.blk hm; omega)⟩
theorem OwnA.cons {w : World} {lo hi : Nat} {v : Value} {vs : List Value} {d : Lf} {ds : List Lf} (h1 : OwnL w lo hi v d) (h2 : OwnA w lo hi vs ds) (hn : ∀ b, blkL v = some b → b ∉ vs.filterMap blkL) : OwnA w lo hi (v :: vs) (d :: ds) := by
  refine ⟨⟨h1, h2.1⟩, ?_⟩
  rw [List.filterMap_cons]
  cases hb : blkL v with
  | none => exact h2.2
  | some b => exact List.nodup_cons.2 ⟨hn b hb, h2.2⟩
theorem OwnA.nil (w : World) (lo hi : Nat) : OwnA w lo hi [] [] := ⟨trivial, List.nodup_nil⟩
theorem OwnA.append {w : World} {lo hi lo' hi' L R : Nat} {vs us : List Value} {ds es : List Lf} (h : OwnA w lo hi vs ds) (k : OwnA w lo' hi' us es) (ho : hi ≤ lo' ∨ hi' ≤ lo) (h1 : L ≤ lo) (h2 : L ≤ lo') (h3 : hi ≤ R) (h4 : hi' ≤ R) : OwnA w L R (vs ++ us) (ds ++ es) := by
  have aux : ∀ {vs : List Value} {ds : List Lf}, AllA (OwnL w L R) vs ds → AllA (OwnL w L R) us es → AllA (OwnL w L R) (vs ++ us) (ds ++ es) := by
    intro vs
    induction vs with
    | nil => intro ds a b; cases ds with
      | nil => exact b
      | cons d ds => exact a.elim
    | cons v vs ih => intro ds a b; cases ds with
      | nil => exact a.elim
      | cons d ds => exact ⟨a.1, ih a.2 b⟩
  refine ⟨aux (h.wide h1 h3).1 (k.wide h2 h4).1, ?_⟩
  rw [List.filterMap_append, List.nodup_append]
  refine ⟨h.2, k.2, fun a ha b hb e => ?_⟩
  subst e
  have := h.blk ha
  have := k.blk hb
  omega
end Go.Proofs.YtcchhbkbnbphhaaDoor

/- The laws' own functions over []int, []bool, []string, on leaves. -/
namespace Go.Proofs.YtcchhbkbnbphhaaDoor
open Go.RowKit

end Go.Proofs.YtcchhbkbnbphhaaDoor

/- Lists of leaves: their sizes, marks and segments. -/
namespace Go.Proofs.YtcchhbkbnbphhaaDoor
open Go.RowKit

def FitA (ds : List Lf) : Prop := ∀ d ∈ ds, d.fit
def BndA (ds : List Lf) : Prop := ∀ d ∈ ds, d.len ≤ 4294967296
def CapA (vs : List Value) : Prop := ∀ v ∈ vs, CapL v
theorem CapA.cons {v : Value} {vs : List Value} (h : CapL v) (k : CapA vs) : CapA (v :: vs) := fun u hu => by
  rcases List.mem_cons.1 hu with rfl | hu
  · exact h
  · exact k u hu
theorem CapA.nil : CapA [] := fun _ h => by cases h
theorem CapA.sub {a b : List Value} (h : CapA a) (hs : ∀ v ∈ b, v ∈ a) : CapA b := fun u hu => h u (hs u hu)
theorem FitA.sub {a b : List Lf} (h : FitA a) (hs : ∀ d ∈ b, d ∈ a) : FitA b := fun u hu => h u (hs u hu)
theorem BndA.sub {a b : List Lf} (h : BndA a) (hs : ∀ d ∈ b, d ∈ a) : BndA b := fun u hu => h u (hs u hu)
theorem AllA.split {P : Value → Lf → Prop} : ∀ {a b : List Value} {da db : List Lf}, a.length = da.length → AllA P (a ++ b) (da ++ db) → AllA P a da ∧ AllA P b db
  | [], _, [], _, _, h => ⟨trivial, h⟩
  | _ :: _, _, _ :: _, _, hl, h => by
    have := AllA.split (by simpa using hl) h.2
    exact ⟨⟨h.1, this.1⟩, this.2⟩
  | [], _, _ :: _, _, hl, _ => by simp at hl
  | _ :: _, _, [], _, hl, _ => by simp at hl
theorem OwnA.one {w : World} {lo hi : Nat} {v : Value} {d : Lf} (h : OwnL w lo hi v d) : OwnA w lo hi [v] [d] := ⟨⟨h, trivial⟩, by
  cases hb : blkL v with
  | none => simp [hb]
  | some b => simp [hb]⟩
theorem OwnA.set {w : World} {lo hi : Nat} {vs : List Value} {ds : List Lf} (h : OwnA w lo hi vs ds) {p : Addr} (hp : p.block < lo) (u : Value) : OwnA (w.setCell p u) lo hi vs ds :=
  h.btw ((Btw.refl p.block (p.block + 1) w).setCell (Nat.le_refl _) (Nat.lt_succ_self _) u) (.inr hp)
theorem Touch.mem {m vs : List Value} {w w' : World} (h : Touch m w w') (hs : ∀ v ∈ m, v ∈ vs) : Touch vs w w' := h.more fun k hk => by
  obtain ⟨v, hv, he⟩ := List.mem_filterMap.1 hk
  exact List.mem_filterMap.2 ⟨v, hs v hv, he⟩
theorem Box.touch {w w' : World} {b lo hi : Nat} {t : TypeId} {cs : Array Value} {vs : List Value} {ds : List Lf} (X : Box w b t cs) (h : OwnA w lo hi vs ds) (k : Touch vs w w') (hb : b < lo ∨ hi ≤ b) : Box w' b t cs := X.btw (k.btw h) hb
theorem OwnA.len {w : World} {lo hi : Nat} {vs : List Value} {ds : List Lf} (h : OwnA w lo hi vs ds) : vs.length = ds.length := by
  have aux : ∀ {vs : List Value} {ds : List Lf}, AllA (OwnL w lo hi) vs ds → vs.length = ds.length := by
    intro vs
    induction vs with
    | nil => intro ds h; cases ds with
      | nil => rfl
      | cons => exact h.elim
    | cons v vs ih => intro ds h; cases ds with
      | nil => exact h.elim
      | cons d ds => simp [ih h.2]
  exact aux h.1
theorem OwnI.rowOf {w : World} {lo hi : Nat} {A : Option Addr} {zs : List Int} {c b : Nat} (h : OwnI w lo hi A zs) (hb : blkL (.slice A zs.length c) = some b) : ∃ m f, w.rowIs b 3 m f := by
  rcases h with rfl | ⟨g, m, f, rfl, _, _, _, hr, _⟩
  · rw [List.length_nil, blkL_zero] at hb; cases hb
  · rcases Nat.eq_zero_or_pos zs.length with hz | hz
    · rw [hz, blkL_zero] at hb; cases hb
    · rw [blkL_some hz] at hb; injection hb with hb; subst hb; exact ⟨m, f, hr⟩
theorem OwnB.rowOf {w : World} {lo hi : Nat} {A : Option Addr} {zs : List Bool} {c b : Nat} (h : OwnB w lo hi A zs) (hb : blkL (.slice A zs.length c) = some b) : ∃ m f, w.rowIs b 4 m f := by
  rcases h with rfl | ⟨g, m, f, rfl, _, _, _, hr, _⟩
  · rw [List.length_nil, blkL_zero] at hb; cases hb
  · rcases Nat.eq_zero_or_pos zs.length with hz | hz
    · rw [hz, blkL_zero] at hb; cases hb
    · rw [blkL_some hz] at hb; injection hb with hb; subst hb; exact ⟨m, f, hr⟩
theorem OwnS.rowOf {w : World} {lo hi : Nat} {A : Option Addr} {zs : List ByteArray} {c b : Nat} (h : OwnS w lo hi A zs) (hb : blkL (.slice A zs.length c) = some b) : ∃ m f, w.rowIs b 9 m f := by
  rcases h with rfl | ⟨g, m, f, rfl, _, _, _, hr, _⟩
  · rw [List.length_nil, blkL_zero] at hb; cases hb
  · rcases Nat.eq_zero_or_pos zs.length with hz | hz
    · rw [hz, blkL_zero] at hb; cases hb
    · rw [blkL_some hz] at hb; injection hb with hb; subst hb; exact ⟨m, f, hr⟩
theorem ownIB {w : World} {lo hi : Nat} {A C : Option Addr} {c d : Nat} {zs : List Int} {gs : List Bool} (h : OwnI w lo hi A zs) (g : OwnB w lo hi C gs) : OwnA w lo hi [.slice A zs.length c, .slice C gs.length d] [.I zs, .B gs] :=
  OwnA.cons ⟨A, c, rfl, h⟩ (OwnA.one ⟨C, d, rfl, g⟩) (fun b hb hm => by
    obtain ⟨m, f, hr⟩ := h.rowOf hb
    obtain ⟨v, hv, he⟩ := List.mem_filterMap.1 hm
    rw [List.mem_singleton] at hv
    subst hv
    obtain ⟨m', f', hr'⟩ := g.rowOf he
    exact row_ne hr hr' (by decide) rfl)
end Go.Proofs.YtcchhbkbnbphhaaDoor

/- The laws' own functions over Instr, on leaves. Written by gen_t.py. -/
namespace Go.Proofs.YtcchhbkbnbphhaaDoor
open Go.RowKit

end Go.Proofs.YtcchhbkbnbphhaaDoor

/- The table of operations: what its rows hold; the lengths and cycles of operations on both sides. -/
namespace Go.Proofs.YtcchhbkbnbphhaaDoor
open Go.RowKit

def opWords : List ByteArray := [⟨#[110, 111, 112]⟩, ⟨#[104, 97, 108, 116]⟩, ⟨#[114, 101, 116, 105]⟩, ⟨#[101, 105]⟩, ⟨#[100, 105]⟩, ⟨#[108, 100, 105]⟩, ⟨#[108, 100]⟩, ⟨#[115, 116]⟩, ⟨#[105, 110, 99]⟩, ⟨#[100, 101, 99]⟩, ⟨#[97, 100, 100]⟩, ⟨#[115, 117, 98]⟩, ⟨#[97, 110, 100]⟩, ⟨#[111, 114]⟩, ⟨#[120, 111, 114]⟩, ⟨#[106, 112]⟩, ⟨#[106, 122]⟩, ⟨#[106, 110, 122]⟩, ⟨#[99, 97, 108, 108]⟩, ⟨#[114, 101, 116]⟩, ⟨#[115, 119, 105]⟩, ⟨#[98, 97, 110, 107]⟩, ⟨#[]⟩]
def opWord (k : Nat) : ByteArray := opWords.getD k ByteArray.empty
def regT (k : Int) : Int := if 5 ≤ k ∧ k ≤ 14 then 3 else 0
def argT (k : Int) : Int := if k = 21 then 3 else if k = 5 ∨ k = 20 then 255 else if k = 6 ∨ k = 7 ∨ (15 ≤ k ∧ k ≤ 18) then 4095 else 0
def fixT (k : Int) : Int := if k = 18 ∨ k = 19 ∨ k = 2 then 8 else if k = 20 ∨ k = 22 then 12 else 0
def lenT (k : Int) : Int := if k = 5 ∨ k = 20 ∨ k = 21 then 2 else if k = 6 ∨ k = 7 ∨ (15 ≤ k ∧ k ≤ 18) then 3 else 1
def okIns (op reg arg : Int) : Bool := decide (0 ≤ op ∧ op ≤ 21 ∧ 0 ≤ reg ∧ reg ≤ regT op ∧ 0 ≤ arg ∧ arg ≤ argT op)
def lenA_ (a : Int) : Int := if 255 < a then 3 else if 0 < a then 2 else 1
theorem lenA_arg (k : Int) : lenA_ (argT k) = lenT k := by
  unfold lenA_ argT lenT
  repeat' split
  all_goals omega
theorem lenT_range (k : Int) : 1 ≤ lenT k ∧ lenT k ≤ 3 := by
  unfold lenT
  repeat' split
  all_goals omega
theorem regT_range (k : Int) : 0 ≤ regT k ∧ regT k ≤ 3 := by
  unfold regT
  split <;> omega
theorem argT_range (k : Int) : 0 ≤ argT k ∧ argT k ≤ 4095 := by
  unfold argT
  repeat' split
  all_goals omega
def OpsT (w : World) : Prop := ∀ k : Nat, k < 23 → w.cell? ⟨0, k * 4, none⟩ = some (.string (opWord k)) ∧ w.cell? ⟨0, k * 4 + 1, none⟩ = some (.int .i64 (regT k)) ∧ w.cell? ⟨0, k * 4 + 2, none⟩ = some (.int .i64 (argT k)) ∧ w.cell? ⟨0, k * 4 + 3, none⟩ = some (.int .i64 (fixT k))
theorem OpsT.lt {w : World} (h : OpsT w) : 0 < w.heap.size := cell_lt (h 0 (by omega)).1
theorem OpsT.below {w w' : World} (h : OpsT w) (hb : Below w.heap.size w w') : OpsT w' := fun k hk => by
  obtain ⟨h1, h2, h3, h4⟩ := h k hk
  exact ⟨(hb.cell (cell_lt h1)).trans h1, (hb.cell (cell_lt h2)).trans h2, (hb.cell (cell_lt h3)).trans h3, (hb.cell (cell_lt h4)).trans h4⟩

section
variable (s : ByteArray) (r a c : Int) (w : World)
set_option maxRecDepth 100000 in
theorem opLength : Calls Tryd.prog 28 #[.agg #[.string s, .int .i64 r, .int .i64 a, .int .i64 c]] w fun e w' => e = .returned (.int .i64 (lenA_ a)) ∧ Below w.heap.size w w' := by
  have hb0 := alloc_below w (.cells #[.string s, .int .i64 r, .int .i64 a, .int .i64 c] 57)
  obtain ⟨n, hn⟩ : ∃ n, lenA_ a = n := ⟨_, rfl⟩
  rw [hn]
  unfold lenA_ at hn
  by_cases h1 : 255 < a
  · rw [if_pos h1] at hn
    subst hn
    go_enter Tryd.func28, Tryd.ntmps28
    go_wp2
    go_ret
    exact ⟨rfl, hb0⟩
  · rw [if_neg h1] at hn
    by_cases h2 : 0 < a
    · rw [if_pos h2] at hn
      subst hn
      go_enter Tryd.func28, Tryd.ntmps28
      go_wp2
      go_ret
      exact ⟨rfl, hb0⟩
    · rw [if_neg h2] at hn
      subst hn
      go_enter Tryd.func28, Tryd.ntmps28
      go_wp2
      go_ret
      exact ⟨rfl, hb0⟩
end

end Go.Proofs.YtcchhbkbnbphhaaDoor

/- A contract of a callee that leaves the world alone, inside a region that only reads. -/
namespace Go.Proofs.YtcchhbkbnbphhaaDoor
open Go.RowKit
end Go.Proofs.YtcchhbkbnbphhaaDoor

/- Valid instructions, lengths and cycles: both sides. -/
namespace Go.Proofs.YtcchhbkbnbphhaaDoor
open Go.RowKit

def rngB (n lo hi : Int) : Bool := decide (lo ≤ n ∧ n ≤ hi)
theorem rngB_t {n lo hi : Int} (h : lo ≤ n ∧ n ≤ hi) : rngB n lo hi = true := by simp [rngB, h]
theorem rngB_f {n lo hi : Int} (h : ¬ (lo ≤ n ∧ n ≤ hi)) : rngB n lo hi = false := by simp only [rngB, decide_eq_false_iff_not]; exact h
set_option maxRecDepth 100000 in
theorem l01InA (n lo hi : Int) (w : World) : Calls Tryd.prog 47 #[.int .i64 n, .int .i64 lo, .int .i64 hi] w fun e w' => e = .returned (.bool (rngB n lo hi)) ∧ w = w' := by
  go_enter Tryd.func47, Tryd.ntmps47
  go_wp2
  all_goals go_ret
  all_goals (refine ⟨ret_bool ?_, rfl⟩)
  all_goals (unfold rngB; rw [Bool.eq_iff_iff]; simp; try omega)
set_option maxRecDepth 100000 in
theorem isUpToA (n l : Int) (w : World) : Calls Tryd.prog 46 #[.int .i64 n, .int .i64 l] w fun e w' => e = .returned (.bool (rngB n 0 l)) ∧ w = w' := by
  go_enter Tryd.func46, Tryd.ntmps46
  go_wp2
  all_goals go_ret
  all_goals (refine ⟨ret_bool ?_, rfl⟩)
  all_goals (unfold rngB; rw [Bool.eq_iff_iff]; simp; try omega)
set_option maxRecDepth 100000 in
theorem l07RegA (n : Int) (w : World) : Calls Tryd.prog 44 #[.int .i64 n] w fun e w' => e = .returned (.bool (rngB n 5 14)) ∧ w = w' := by
  go_enter Tryd.func44, Tryd.ntmps44
  go_wp2_with (go_at_call 47; refine (l01InA _ _ _ _).mono ?_; rintro e w' ⟨rfl, rfl⟩)
  go_ret
  exact ⟨rfl, rfl⟩
set_option maxRecDepth 100000 in
theorem l07LengthA (n : Int) (w : World) : Calls Tryd.prog 45 #[.int .i64 n] w fun e w' => e = .returned (.int .i64 (lenT n)) ∧ w = w' := by
  by_cases h5 : n = 5
  · subst h5
    have HL : Hid (lenT 5 = 2) := Lib.hid (by decide)
    generalize lenT 5 = z at HL
    go_enter Tryd.func45, Tryd.ntmps45
    go_wp2
    go_ret
    exact ⟨ret_int HL.out.symm, rfl⟩
  by_cases h20 : n = 20
  · subst h20
    have HL : Hid (lenT 20 = 2) := Lib.hid (by decide)
    generalize lenT 20 = z at HL
    go_enter Tryd.func45, Tryd.ntmps45
    go_wp2
    go_ret
    exact ⟨ret_int HL.out.symm, rfl⟩
  by_cases h21 : n = 21
  · subst h21
    have HL : Hid (lenT 21 = 2) := Lib.hid (by decide)
    generalize lenT 21 = z at HL
    go_enter Tryd.func45, Tryd.ntmps45
    go_wp2
    go_ret
    exact ⟨ret_int HL.out.symm, rfl⟩
  by_cases h6 : n = 6
  · subst h6
    have HL : Hid (lenT 6 = 3) := Lib.hid (by decide)
    generalize lenT 6 = z at HL
    go_enter Tryd.func45, Tryd.ntmps45
    go_wp2
    go_ret
    exact ⟨ret_int HL.out.symm, rfl⟩
  by_cases h7 : n = 7
  · subst h7
    have HL : Hid (lenT 7 = 3) := Lib.hid (by decide)
    generalize lenT 7 = z at HL
    go_enter Tryd.func45, Tryd.ntmps45
    go_wp2
    go_ret
    exact ⟨ret_int HL.out.symm, rfl⟩
  by_cases h15 : n = 15
  · subst h15
    have HL : Hid (lenT 15 = 3) := Lib.hid (by decide)
    generalize lenT 15 = z at HL
    go_enter Tryd.func45, Tryd.ntmps45
    go_wp2
    go_ret
    exact ⟨ret_int HL.out.symm, rfl⟩
  by_cases h16 : n = 16
  · subst h16
    have HL : Hid (lenT 16 = 3) := Lib.hid (by decide)
    generalize lenT 16 = z at HL
    go_enter Tryd.func45, Tryd.ntmps45
    go_wp2
    go_ret
    exact ⟨ret_int HL.out.symm, rfl⟩
  by_cases h17 : n = 17
  · subst h17
    have HL : Hid (lenT 17 = 3) := Lib.hid (by decide)
    generalize lenT 17 = z at HL
    go_enter Tryd.func45, Tryd.ntmps45
    go_wp2
    go_ret
    exact ⟨ret_int HL.out.symm, rfl⟩
  by_cases h18 : n = 18
  · subst h18
    have HL : Hid (lenT 18 = 3) := Lib.hid (by decide)
    generalize lenT 18 = z at HL
    go_enter Tryd.func45, Tryd.ntmps45
    go_wp2
    go_ret
    exact ⟨ret_int HL.out.symm, rfl⟩
  have HL : Hid (lenT n = 1) := Lib.hid (by unfold lenT; rw [if_neg (by omega), if_neg (by omega)])
  generalize lenT n = z at HL
  go_enter Tryd.func45, Tryd.ntmps45
  go_wp2
  go_ret
  exact ⟨ret_int HL.out.symm, rfl⟩
theorem okIns_op (op reg arg : Int) (h : ¬ (0 ≤ op ∧ op ≤ 21)) : okIns op reg arg = false := by unfold okIns; simp only [decide_eq_false_iff_not]; omega
theorem okIns_reg (op reg arg : Int) (h : ¬ (0 ≤ reg ∧ reg ≤ regT op)) : okIns op reg arg = false := by unfold okIns; simp only [decide_eq_false_iff_not]; omega
theorem okIns_arg (op reg arg : Int) (h0 : 0 ≤ op ∧ op ≤ 21) (h : 0 ≤ reg ∧ reg ≤ regT op) : okIns op reg arg = rngB arg 0 (argT op) := by
  unfold okIns rngB; rw [Bool.eq_iff_iff]; simp only [decide_eq_true_eq]; omega
theorem arg_len (op : Int) (h : ¬ op = 21) : argT op = (if lenT op = 1 then 0 else if lenT op = 2 then 255 else 4095) := by
  unfold argT lenT
  rw [if_neg h]
  by_cases h1 : op = 5 ∨ op = 20
  · rw [if_pos h1, if_pos (show op = 5 ∨ op = 20 ∨ op = 21 from by omega)]; rfl
  · rw [if_neg h1, if_neg (show ¬ (op = 5 ∨ op = 20 ∨ op = 21) from by omega)]
    split <;> rfl
section
variable (op reg arg : Int) (w : World)
set_option maxRecDepth 100000 in
set_option maxHeartbeats 2000000 in
theorem valid (ht : OpsT w) : Calls Tryd.prog 23 #[.agg #[.int .i64 op, .int .i64 reg, .int .i64 arg]] w fun e w' => e = .returned (.bool (okIns op reg arg)) ∧ Below w.heap.size w w' := by
  have hb0 := alloc_below w (.cells #[.int .i64 op, .int .i64 reg, .int .i64 arg] 24)
  have HV := Lib.hid (ht.below hb0)
  have hlt := ht.lt
  clear ht
  by_cases h0 : 0 ≤ op ∧ op ≤ 21
  · have HY := Lib.hid (okIns_arg op reg arg h0)
    have HN := Lib.hid (okIns_reg op reg arg)
    obtain ⟨k, rfl⟩ : ∃ k : Nat, op = k := ⟨op.toNat, by omega⟩
    obtain ⟨-, h02⟩ := h0
    have h03 : ¬ (22 : Int) ≤ (k : Int) := by omega
    obtain ⟨c1, c2, c3, c4⟩ := HV.out k (by omega)
    generalize okIns k reg arg = o at HY HN ⊢
    generalize opWord k = s at c1
    generalize regT k = r at c2 HY HN
    generalize argT k = a at c3 HY HN
    generalize fixT k = c at c4
    by_cases h1 : 0 ≤ reg ∧ reg ≤ r
    · have q1 := rngB_t h1
      have HY := Lib.hid (HY.out h1)
      clear HV HN
      by_cases h2 : 0 ≤ arg ∧ arg ≤ a
      · have q2 := rngB_t h2
        have HY := Lib.hid (HY.out.trans q2)
        clear h1 h2
        go_enter Tryd.func23, Tryd.ntmps23
        go_wp2_with (go_at_call 46; refine (isUpToA _ _ _).mono ?_; rintro e w' ⟨rfl, rfl⟩)
        go_ret
        exact ⟨ret_bool HY.out.symm, hb0.alloc (by simp) _⟩
      · have q2 := rngB_f h2
        have HY := Lib.hid (HY.out.trans q2)
        clear h1 h2
        go_enter Tryd.func23, Tryd.ntmps23
        go_wp2_with (go_at_call 46; refine (isUpToA _ _ _).mono ?_; rintro e w' ⟨rfl, rfl⟩)
        go_ret
        exact ⟨ret_bool HY.out.symm, hb0.alloc (by simp) _⟩
    · have q1 := rngB_f h1
      have HY := Lib.hid (HN.out h1)
      clear HV HN h1
      go_enter Tryd.func23, Tryd.ntmps23
      go_wp2_with (go_at_call 46; refine (isUpToA _ _ _).mono ?_; rintro e w' ⟨rfl, rfl⟩)
      go_ret
      exact ⟨ret_bool HY.out.symm, hb0.alloc (by simp) _⟩
  · have HY := Lib.hid (okIns_op op reg arg h0)
    clear HV
    by_cases h1 : op < 0
    · clear h0
      go_enter Tryd.func23, Tryd.ntmps23
      go_wp2
      go_ret
      exact ⟨ret_bool HY.out.symm, hb0⟩
    · have h2 : 22 ≤ op := by omega
      clear h0
      go_enter Tryd.func23, Tryd.ntmps23
      go_wp2
      go_ret
      exact ⟨ret_bool HY.out.symm, hb0⟩

end
end Go.Proofs.YtcchhbkbnbphhaaDoor

/- Digits of numbers, as lists of bytes. Nothing here walks. -/
namespace Go.Proofs.YtcchhbkbnbphhaaDoor

def dg (n : Nat) : UInt8 := UInt8.ofNat (48 + n % 10)
def decF : Nat → Nat → List UInt8
  | 0, _ => []
  | f + 1, n => if n < 10 then [dg n] else decF f (n / 10) ++ [dg n]
theorem decF_len : ∀ f n, (decF f n).length ≤ f
  | 0, _ => by simp [decF]
  | f + 1, n => by
    rw [decF]
    split
    · simp
    · have := decF_len f (n / 10)
      simp; omega
def bs (l : List UInt8) : ByteArray := ⟨l.toArray⟩
theorem bs_app (a b : List UInt8) : bs a ++ bs b = bs (a ++ b) := by
  apply ByteArray.ext
  simp [bs]
theorem bs_size (a : List UInt8) : (bs a).size = a.length := rfl
end Go.Proofs.YtcchhbkbnbphhaaDoor

/- Words of a text: maximal runs of bytes other than spaces. Nothing here walks. -/
namespace Go.Proofs.YtcchhbkbnbphhaaDoor

def wordsA (cur : List UInt8) : List UInt8 → List (List UInt8)
  | [] => if cur = [] then [] else [cur]
  | c :: r => if c = 32 then (if cur = [] then wordsA [] r else cur :: wordsA [] r) else wordsA (cur ++ [c]) r
def wordsB (s : ByteArray) : List ByteArray := (wordsA [] s.data.toList).map bs
theorem wordsA_trim : ∀ l : List UInt8, wordsA [] (l.dropWhile (· == 32)) = wordsA [] l
  | [] => rfl
  | c :: r => by
    by_cases h : c = 32
    · subst h
      rw [List.dropWhile_cons_of_pos (by simp), wordsA_trim r]
      simp [wordsA]
    · rw [List.dropWhile_cons_of_neg (by simpa using h)]
theorem wordsA_none : ∀ (l cur : List UInt8), (∀ k : Nat, l[k]? ≠ some 32) → wordsA cur l = if cur ++ l = [] then [] else [cur ++ l]
  | [], cur, _ => by simp [wordsA]
  | c :: r, cur, h => by
    have hc : c ≠ 32 := fun e => h 0 (by simp [e])
    rw [wordsA, if_neg hc, wordsA_none r (cur ++ [c]) (fun k => by have := h (k + 1); simpa using this)]
    simp
theorem wordsA_some : ∀ (l cur : List UInt8) (i : Nat), l[i]? = some 32 → (∀ k : Nat, k < i → l[k]? ≠ some 32) → wordsA cur l = if cur ++ l.take i = [] then wordsA [] (l.drop (i + 1)) else (cur ++ l.take i) :: wordsA [] (l.drop (i + 1))
  | [], cur, i, h, _ => by simp at h
  | c :: r, cur, 0, h, _ => by
    have hc : c = 32 := by simpa using h
    rw [wordsA, if_pos hc]
    simp
  | c :: r, cur, i + 1, h, hk => by
    have hc : c ≠ 32 := fun e => hk 0 (by omega) (by simp [e])
    rw [wordsA, if_neg hc, wordsA_some r (cur ++ [c]) i (by simpa using h) (fun k hki => by have := hk (k + 1) (by omega); simpa using this)]
    simp
theorem wordsA_mem : ∀ (l cur : List UInt8), ∀ x ∈ wordsA cur l, x ≠ [] ∧ x.length ≤ l.length + cur.length
  | [], cur => by
    intro x hx
    unfold wordsA at hx
    split at hx
    · cases hx
    · rename_i h
      simp at hx
      subst hx
      exact ⟨h, by omega⟩
  | c :: r, cur => by
    intro x hx
    unfold wordsA at hx
    split at hx
    · split at hx
      · have := wordsA_mem r [] x hx; simp at this ⊢; exact ⟨this.1, by omega⟩
      · rename_i h
        rcases List.mem_cons.1 hx with rfl | hx
        · exact ⟨h, by simp only [List.length_cons]; omega⟩
        · have := wordsA_mem r [] x hx; simp at this ⊢; exact ⟨this.1, by omega⟩
    · have := wordsA_mem r (cur ++ [c]) x hx; simp at this ⊢; exact ⟨this.1, by omega⟩
theorem bs_toList (l : List UInt8) : (bs l).data.toList = l := by simp [bs]
theorem bs_of (s : ByteArray) : bs s.data.toList = s := by cases s; simp [bs]
theorem wordsB_bs (l : List UInt8) : wordsB (bs l) = (wordsA [] l).map bs := by unfold wordsB; rw [bs_toList]
end Go.Proofs.YtcchhbkbnbphhaaDoor

/- A part of a text, as a list. -/
namespace Go.Proofs.YtcchhbkbnbphhaaDoor
theorem ext_list (t : ByteArray) (i j : Nat) : (t.extract i j).data.toList = (t.data.toList.drop i).take (j - i) := by
  rw [ByteArray.data_extract, Array.toList_extract, List.extract_eq_take_drop]
end Go.Proofs.YtcchhbkbnbphhaaDoor
