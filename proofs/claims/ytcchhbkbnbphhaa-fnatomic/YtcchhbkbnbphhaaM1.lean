/- Texts of this claim, one behind the other: Mem, EqDisk, Own, ToDisk, OkDisk, Mark, BoxDisk, Ints, SzDisk, IntsMore, Bools, AppFresh, AppNew. -/
import Derived.WalkKit
import Derived.WalkSpells
import Derived.Lib.Hide
import Derived.Below
import Derived.WalkSmall
import Derived.Test.YtcchhbkbnbphhaaRows
import Derived.Deep.QuietTactic
import Derived.BigQuiet
import Derived.StillTailTactics
import Derived.Deep.OwnRows
import Derived.Deep.RegionHeld3
import Derived.Laws.IdiomStrings
import Derived.Laws.AppendOwn
import Derived.OwnWalk
/- Words for memory: slices of strings, of writes, of integers as lists; what keeps them. Nothing here is of one program. -/
namespace Go.Proofs.Ytcchhbkbnbphhaa
open Go.RowKit

def StrL (w : World) (A : Option Addr) (ss : List ByteArray) : Prop :=
  ∀ i, i < ss.length → ∃ b off, A = some ⟨b, off, none⟩ ∧ w.cell? ⟨b, off + i, none⟩ = some (.string (ss.getD i ByteArray.empty))
def WrL (w : World) (A : Option Addr) (ws : List (Int × ByteArray)) : Prop :=
  ∀ i, i < ws.length → ∃ b off, A = some ⟨b, off, none⟩ ∧ w.cell? ⟨b, off + i * 2, none⟩ = some (.int .i64 (ws.getD i (0, ByteArray.empty)).1) ∧
    w.cell? ⟨b, off + i * 2 + 1, none⟩ = some (.string (ws.getD i (0, ByteArray.empty)).2)
def IntL (w : World) (A : Option Addr) (zs : List Int) : Prop :=
  ∀ i, i < zs.length → ∃ b off, A = some ⟨b, off, none⟩ ∧ w.cell? ⟨b, off + i, none⟩ = some (.int .i64 (zs.getD i 0))

theorem cell_lt {w : World} {p : Addr} {v : Value} (h : w.cell? p = some v) : p.block < w.heap.size := by
  rcases Nat.lt_or_ge p.block w.heap.size with h1 | h1
  · exact h1
  · unfold World.cell? at h
    rw [Array.getElem?_eq_none h1] at h
    cases h

def Keep (keep : Nat → Prop) (w w' : World) : Prop := ∀ p : Addr, keep p.block → p.block < w.heap.size → w'.cell? p = w.cell? p

theorem Keep.of_below {B : Nat} {w w' : World} (h : Below B w w') : Keep (fun b => b < B) w w' := fun _ hp _ => h.cell hp

theorem StrL.below {w w' : World} {A : Option Addr} {ss : List ByteArray} (h : StrL w A ss) (hb : Below w.heap.size w w') : StrL w' A ss := fun i hi => by
  obtain ⟨b, off, e, hc⟩ := h i hi
  exact ⟨b, off, e, (hb.cell (cell_lt hc)).trans hc⟩
theorem WrL.below {w w' : World} {A : Option Addr} {ws : List (Int × ByteArray)} (h : WrL w A ws) (hb : Below w.heap.size w w') : WrL w' A ws := fun i hi => by
  obtain ⟨b, off, e, hc, hd⟩ := h i hi
  exact ⟨b, off, e, (hb.cell (cell_lt hc)).trans hc, (hb.cell (cell_lt hd)).trans hd⟩
theorem IntL.below {w w' : World} {A : Option Addr} {zs : List Int} (h : IntL w A zs) (hb : Below w.heap.size w w') : IntL w' A zs := fun i hi => by
  obtain ⟨b, off, e, hc⟩ := h i hi
  exact ⟨b, off, e, (hb.cell (cell_lt hc)).trans hc⟩

theorem bt {a b c : World} (h : Below a.heap.size a b) (k : Below b.heap.size b c) : Below a.heap.size a c := h.trans (k.mono h.size)

theorem ret_bool {a b : Bool} (h : a = b) : Ending.returned (.bool a) = .returned (.bool b) := by rw [h]
theorem ret_int {a b : Int} (h : a = b) : Ending.returned (.int .i64 a) = .returned (.int .i64 b) := by rw [h]

theorem bytes_beq (a b : ByteArray) : (a.toList == b.toList) = decide (a = b) := by
  rw [ByteArray.toList_eq, ByteArray.toList_eq, Bool.eq_iff_iff]
  simp only [beq_iff_eq, decide_eq_true_eq]
  exact ⟨WideShapes.bytes_inj, fun h => by rw [h]⟩
end Go.Proofs.Ytcchhbkbnbphhaa

/- Contracts of the comparisons: eqStringS, eqWrite, eqWriteS, eqDisk. -/
namespace Go.Proofs.Ytcchhbkbnbphhaa
open Go.RowKit

end Go.Proofs.Ytcchhbkbnbphhaa

/- Slices in memory of the call's own: rows between two block numbers; what a call that writes only there keeps. -/
namespace Go.Proofs.Ytcchhbkbnbphhaa
open Go.RowKit

structure Btw (lo hi : Nat) (w w' : World) : Prop where
  os : w'.os = w.os
  tape : w'.tape = w.tape
  output : w'.output = w.output
  size : w.heap.size ≤ w'.heap.size
  block : ∀ k, k < w.heap.size → k < lo ∨ hi ≤ k → w'.heap[k]? = w.heap[k]?

theorem Btw.refl (lo hi : Nat) (w : World) : Btw lo hi w w := ⟨rfl, rfl, rfl, Nat.le_refl _, fun _ _ _ => rfl⟩
theorem Btw.trans {lo hi : Nat} {a b c : World} (h : Btw lo hi a b) (k : Btw lo hi b c) : Btw lo hi a c :=
  ⟨k.os.trans h.os, k.tape.trans h.tape, k.output.trans h.output, Nat.le_trans h.size k.size, fun i hi' ho => (k.block i (Nat.lt_of_lt_of_le hi' h.size) ho).trans (h.block i hi' ho)⟩
theorem Btw.of_below {w w' : World} (h : Below w.heap.size w w') (lo hi : Nat) : Btw lo hi w w' := ⟨h.os, h.tape, h.output, h.size, fun k hk _ => h.block k hk⟩
theorem Btw.below {lo hi : Nat} {w w' : World} (h : Btw lo hi w w') (hl : lo ≤ w.heap.size) : Below lo w w' := ⟨h.os, h.tape, h.output, h.size, fun k hk => h.block k (Nat.lt_of_lt_of_le hk hl) (.inl hk)⟩
theorem Btw.wide {lo hi lo' hi' : Nat} {w w' : World} (h : Btw lo hi w w') (h1 : lo' ≤ lo) (h2 : hi ≤ hi') : Btw lo' hi' w w' :=
  ⟨h.os, h.tape, h.output, h.size, fun k hk ho => h.block k hk (by omega)⟩
theorem Btw.drewN {lo hi : Nat} {a w : World} (h : Btw lo hi a w) (n : Nat) : Btw lo hi a (w.drewN n) := ⟨h.os, h.tape, h.output, h.size, h.block⟩
theorem Btw.drew {lo hi : Nat} {a w : World} (h : Btw lo hi a w) : Btw lo hi a w.drew := ⟨h.os, h.tape, h.output, h.size, h.block⟩
theorem Btw.alloc {lo hi : Nat} {a w : World} (h : Btw lo hi a w) (o : Obj) : Btw lo hi a (w.alloc o) := h.trans (Btw.of_below ((Below.refl _ _).alloc (Nat.le_refl _) o) lo hi)
theorem Btw.setCell {lo hi : Nat} {a w : World} (h : Btw lo hi a w) {p : Addr} (h1 : lo ≤ p.block) (h2 : p.block < hi) (u : Value) : Btw lo hi a (w.setCell p u) :=
  ⟨h.os, h.tape, h.output, by simpa [World.setCell] using h.size, fun k hk ho => (Below.heap_setCell w p u k (by omega)).trans (h.block k hk ho)⟩
theorem Btw.put {b : Nat} {a w : World} (h : Btw b (b + 1) a w) {i : Nat} {v : Value} : Btw b (b + 1) a (w.setCell ⟨b, i, none⟩ v) := h.setCell (Nat.le_refl _) (Nat.lt_succ_self _) v
theorem Btw.cell {lo hi : Nat} {w w' : World} (h : Btw lo hi w w') {p : Addr} {v : Value} (hc : w.cell? p = some v) (ho : p.block < lo ∨ hi ≤ p.block) : w'.cell? p = some v :=
  (World.cell?_of_block (w := w) (h.block p.block (cell_lt hc) ho)).trans hc
theorem Btw.row {lo hi : Nat} {w w' : World} (h : Btw lo hi w w') {b : Nat} {t : TypeId} {n : Nat} {f : Nat → Value} (hr : w.rowIs b t n f) (ho : b < lo ∨ hi ≤ b) : w'.rowIs b t n f :=
  hr.of_block (h.block b hr.lt ho)
theorem row_below {B : Nat} {w w' : World} (h : Below B w w') {b : Nat} {t : TypeId} {n : Nat} {f : Nat → Value} (hr : w.rowIs b t n f) (ho : b < B) : w'.rowIs b t n f := hr.of_block (h.block b ho)
theorem row_ne {w : World} {b b' : Nat} {t t' : TypeId} {n n' : Nat} {f f' : Nat → Value} (h : w.rowIs b t n f) (h' : w.rowIs b' t' n' f') (ht : t ≠ t') : b ≠ b' := by
  rintro rfl
  obtain ⟨c, hc, _⟩ := h
  obtain ⟨c', hc', _⟩ := h'
  rw [hc] at hc'
  injection hc' with e
  injection e with _ e2
  exact ht e2

def OwnS (w : World) (lo hi : Nat) (A : Option Addr) (ss : List ByteArray) : Prop :=
  ss = [] ∨ ∃ b m f, A = some ⟨b, 0, none⟩ ∧ lo ≤ b ∧ b < hi ∧ ss.length ≤ m ∧ w.rowIs b 9 m f ∧ ∀ i, i < ss.length → f i = .string (ss.getD i ByteArray.empty)
def OwnW (w : World) (lo hi : Nat) (A : Option Addr) (ws : List (Int × ByteArray)) : Prop :=
  ws = [] ∨ ∃ b m f, A = some ⟨b, 0, none⟩ ∧ lo ≤ b ∧ b < hi ∧ ws.length * 2 ≤ m ∧ w.rowIs b 67 m f ∧
    ∀ i, i < ws.length → f (i * 2) = .int .i64 (ws.getD i (0, ByteArray.empty)).1 ∧ f (i * 2 + 1) = .string (ws.getD i (0, ByteArray.empty)).2
def OwnI (w : World) (lo hi : Nat) (A : Option Addr) (zs : List Int) : Prop :=
  zs = [] ∨ ∃ b m f, A = some ⟨b, 0, none⟩ ∧ lo ≤ b ∧ b < hi ∧ zs.length ≤ m ∧ w.rowIs b 3 m f ∧ ∀ i, i < zs.length → f i = .int .i64 (zs.getD i 0)

theorem OwnS.reads {w : World} {lo hi : Nat} {A : Option Addr} {ss : List ByteArray} (h : OwnS w lo hi A ss) : StrL w A ss := fun i hi' => by
  rcases h with rfl | ⟨b, m, f, e, _, _, hm, hr, hf⟩
  · simp at hi'
  · exact ⟨b, 0, e, by rw [← hf i hi', Nat.zero_add]; exact hr.cell (by omega)⟩
theorem OwnW.reads {w : World} {lo hi : Nat} {A : Option Addr} {ws : List (Int × ByteArray)} (h : OwnW w lo hi A ws) : WrL w A ws := fun i hi' => by
  rcases h with rfl | ⟨b, m, f, e, _, _, hm, hr, hf⟩
  · simp at hi'
  · exact ⟨b, 0, e, by rw [← (hf i hi').1, Nat.zero_add]; exact hr.cell (by omega), by rw [← (hf i hi').2, Nat.zero_add]; exact hr.cell (by omega)⟩
theorem OwnI.reads {w : World} {lo hi : Nat} {A : Option Addr} {zs : List Int} (h : OwnI w lo hi A zs) : IntL w A zs := fun i hi' => by
  rcases h with rfl | ⟨b, m, f, e, _, _, hm, hr, hf⟩
  · simp at hi'
  · exact ⟨b, 0, e, by rw [← hf i hi', Nat.zero_add]; exact hr.cell (by omega)⟩
theorem OwnS.btw {w w' : World} {lo hi l h' : Nat} {A : Option Addr} {ss : List ByteArray} (h : OwnS w lo hi A ss) (hb : Btw l h' w w') (ho : hi ≤ l ∨ h' ≤ lo) : OwnS w' lo hi A ss := by
  rcases h with e | ⟨b, m, f, e, h1, h2, hm, hr, hf⟩
  · exact .inl e
  · exact .inr ⟨b, m, f, e, h1, h2, hm, hb.row hr (by omega), hf⟩
theorem OwnW.btw {w w' : World} {lo hi l h' : Nat} {A : Option Addr} {ws : List (Int × ByteArray)} (h : OwnW w lo hi A ws) (hb : Btw l h' w w') (ho : hi ≤ l ∨ h' ≤ lo) : OwnW w' lo hi A ws := by
  rcases h with e | ⟨b, m, f, e, h1, h2, hm, hr, hf⟩
  · exact .inl e
  · exact .inr ⟨b, m, f, e, h1, h2, hm, hb.row hr (by omega), hf⟩
theorem OwnI.btw {w w' : World} {lo hi l h' : Nat} {A : Option Addr} {zs : List Int} (h : OwnI w lo hi A zs) (hb : Btw l h' w w') (ho : hi ≤ l ∨ h' ≤ lo) : OwnI w' lo hi A zs := by
  rcases h with e | ⟨b, m, f, e, h1, h2, hm, hr, hf⟩
  · exact .inl e
  · exact .inr ⟨b, m, f, e, h1, h2, hm, hb.row hr (by omega), hf⟩
theorem OwnS.below {w w' : World} {lo hi : Nat} {A : Option Addr} {ss : List ByteArray} (h : OwnS w lo hi A ss) (hb : Below w.heap.size w w') : OwnS w' lo hi A ss := h.btw (Btw.of_below hb hi hi) (.inl (Nat.le_refl _))
theorem OwnW.below {w w' : World} {lo hi : Nat} {A : Option Addr} {ws : List (Int × ByteArray)} (h : OwnW w lo hi A ws) (hb : Below w.heap.size w w') : OwnW w' lo hi A ws := h.btw (Btw.of_below hb hi hi) (.inl (Nat.le_refl _))
theorem OwnI.below {w w' : World} {lo hi : Nat} {A : Option Addr} {zs : List Int} (h : OwnI w lo hi A zs) (hb : Below w.heap.size w w') : OwnI w' lo hi A zs := h.btw (Btw.of_below hb hi hi) (.inl (Nat.le_refl _))
theorem StrL.since {B : Nat} {w w' : World} {A : Option Addr} {ss : List ByteArray} (h : StrL w A ss) (hb : Below B w w') (hB : w.heap.size ≤ B) : StrL w' A ss := h.below (hb.mono hB)
theorem StrL.btw {lo hi : Nat} {w w' : World} {A : Option Addr} {ss : List ByteArray} (h : StrL w A ss) (hb : Btw lo hi w w') (hB : w.heap.size ≤ lo) : StrL w' A ss := fun i hi' => by
  obtain ⟨b, off, e, hc⟩ := h i hi'
  exact ⟨b, off, e, hb.cell hc (.inl (Nat.lt_of_lt_of_le (cell_lt hc) hB))⟩

def Box (w : World) (b : Nat) (t : TypeId) (cs : Array Value) : Prop := w.heap[b]? = some (.cells cs t (0, 0))
theorem Box.cell {w : World} {b : Nat} {t : TypeId} {cs : Array Value} (h : Box w b t cs) (i : Nat) {v : Value} (hv : cs[i]? = some v) : w.cell? ⟨b, i, none⟩ = some v := by
  unfold Box at h; simp [World.cell?, h, hv]
theorem Box.frozen {w : World} {b : Nat} {t : TypeId} {cs : Array Value} (h : Box w b t cs) (i : Nat) : w.frozen? ⟨b, i, none⟩ = false := by
  unfold Box at h; simp [World.frozen?, h]
theorem Box.lt {w : World} {b : Nat} {t : TypeId} {cs : Array Value} (h : Box w b t cs) : b < w.heap.size := by
  obtain ⟨hlt, _⟩ := Array.getElem?_eq_some_iff.1 h
  exact hlt
theorem Box.below {w w' : World} {B b : Nat} {t : TypeId} {cs : Array Value} (h : Box w b t cs) (hb : Below B w w') (hB : b < B) : Box w' b t cs := (hb.block b hB).trans h
theorem Box.step {w w' : World} {b : Nat} {t : TypeId} {cs : Array Value} (h : Box w b t cs) (hb : Below w.heap.size w w') : Box w' b t cs := h.below hb h.lt
theorem Box.btw {w w' : World} {lo hi b : Nat} {t : TypeId} {cs : Array Value} (h : Box w b t cs) (hb : Btw lo hi w w') (ho : b < lo ∨ hi ≤ b) : Box w' b t cs := (hb.block b h.lt ho).trans h
theorem Box.new (w : World) (t : TypeId) (cs : Array Value) : Box (w.alloc (.cells cs t)) w.heap.size t cs := by
  show (w.heap.push _)[w.heap.size]? = _; simp
theorem Box.alloc {w : World} {b : Nat} {t : TypeId} {cs : Array Value} (h : Box w b t cs) (o : Obj) : Box (w.alloc o) b t cs := h.step ((Below.refl _ _).alloc (Nat.le_refl _) o)
theorem Box.set {w : World} {b : Nat} {t : TypeId} {cs : Array Value} (h : Box w b t cs) (i : Nat) (u : Value) : Box (w.setCell ⟨b, i, none⟩ u) b t (cs.setIfInBounds i u) := by
  unfold Box at h ⊢
  simp [World.setCell, Array.getElem?_modify, h]
theorem Box.far {w : World} {b : Nat} {t : TypeId} {cs : Array Value} (h : Box w b t cs) {p : Addr} (hp : b ≠ p.block) (u : Value) : Box (w.setCell p u) b t cs := (Below.heap_setCell w p u b hp).trans h
theorem Box.drewN {w : World} {b : Nat} {t : TypeId} {cs : Array Value} (h : Box w b t cs) (n : Nat) : Box (w.drewN n) b t cs := h
theorem Box.drew {w : World} {b : Nat} {t : TypeId} {cs : Array Value} (h : Box w b t cs) : Box w.drew b t cs := h
theorem Box.row {w : World} {b : Nat} {t : TypeId} {cs : Array Value} (h : Box w b t cs) (f : Nat → Value) (hf : ∀ i, i < cs.size → cs[i]? = some (f i)) : w.rowIs b t cs.size f := ⟨cs, h, rfl, hf⟩
theorem Box.ne {w : World} {b b' : Nat} {t t' : TypeId} {cs : Array Value} {n : Nat} {f : Nat → Value} (h : Box w b t cs) (h' : w.rowIs b' t' n f) (ht : t ≠ t') : b ≠ b' := by
  rintro rfl
  obtain ⟨c', hc', _⟩ := h'
  unfold Box at h
  rw [h] at hc'
  injection hc' with e
  injection e with _ e2
  exact ht e2
end Go.Proofs.Ytcchhbkbnbphhaa

/- Contracts of the copies: toStringS, toWrite, toWriteS, toDisk. -/
namespace Go.Proofs.Ytcchhbkbnbphhaa
open Go.RowKit

set_option maxRecDepth 100000 in
theorem infoS : (Try.prog.info? 9).map (fun i => (i.zero, i.size, i.bytes)) = some (some (.string ByteArray.empty), 1, 16) := by kernel_rfl

set_option maxRecDepth 100000 in
theorem infoW : (Try.prog.info? 67).map (fun i => (i.zero, i.size, i.bytes)) = some (some (.agg #[.int .i64 0, .string ByteArray.empty]), 2, 24) := by kernel_rfl
set_option maxRecDepth 100000 in
theorem make_writes (n : Nat) (hn : n ≤ 1048576) (W : World) : (Instr.makeSlice 24 (.int .i64 (n : Int)) (.int .i64 (n : Int))).run Try.prog W = .ok (.slice (some ⟨W.heap.size, 0, none⟩) n n) (W.alloc (.cells (madeCells #[.int .i64 0, .string ByteArray.empty] (n * 2)) 67)) := by
  obtain ⟨i, hi, hzz⟩ := Option.map_eq_some_iff.1 infoW
  simp only [Prod.mk.injEq] at hzz
  obtain ⟨hz, hs, hb⟩ := hzz
  have hr := run_make (P := Try.prog) W 24 67 i _ Try.underlying24 hi hz .i64 .i64 n n (by omega) (Int.le_refl _) (by rw [hb]; omega) (by omega)
  simp only [Int.toNat_natCast, hs] at hr
  exact hr
theorem row_made2 (w : World) (z0 z1 : Value) (n : Nat) (t : TypeId) : (w.alloc (.cells (madeCells #[z0, z1] (n * 2)) t)).rowIs w.heap.size t (n * 2) (fun i => if i % 2 = 0 then z0 else z1) :=
  ⟨_, heap_alloc_new _ _, size_madeCells _ _, fun i hi => by
    have : i % 2 = 0 ∨ i % 2 = 1 := by omega
    rcases this with h | h <;> simp [madeCells, hi, h]⟩

def fillW (ws : List (Int × ByteArray)) (k : Nat) (j : Nat) : Value :=
  if j < k * 2 then (if j % 2 = 0 then .int .i64 (ws.getD (j / 2) (0, ByteArray.empty)).1 else .string (ws.getD (j / 2) (0, ByteArray.empty)).2) else (if j % 2 = 0 then .int .i64 0 else .string ByteArray.empty)
def GivesDisk (ss : List ByteArray) (ws : List (Int × ByteArray)) (w : World) (e : Ending) (w' : World) : Prop :=
  ∃ A n c C m d, e = .returned (.agg #[.slice A n c, .slice C m d]) ∧ Hid (ss.length = n) ∧ Hid (ws.length = m) ∧ Hid (OwnS w' w.heap.size w'.heap.size A ss) ∧ Hid (OwnW w' w.heap.size w'.heap.size C ws) ∧ Below w.heap.size w w'
def GivesDiskCode (ss : List ByteArray) (ws : List (Int × ByteArray)) (code : Int) (w : World) (e : Ending) (w' : World) : Prop :=
  ∃ A n c C m d, e = .returned (.tuple #[.agg #[.slice A n c, .slice C m d], .int .i64 code]) ∧ Hid (ss.length = n) ∧ Hid (ws.length = m) ∧ Hid (OwnS w' w.heap.size w'.heap.size A ss) ∧ Hid (OwnW w' w.heap.size w'.heap.size C ws) ∧ Below w.heap.size w w'

theorem own_of_rowS {w : World} {b n lo hi : Nat} {ss : List ByteArray} (hl : ss.length = n) (h : w.rowIs b 9 n (fun i => .string (ss.getD i ByteArray.empty))) (h1 : lo ≤ b) (h2 : b < hi) : OwnS w lo hi (some ⟨b, 0, none⟩) ss :=
  .inr ⟨b, n, _, rfl, h1, h2, by omega, h, fun _ _ => rfl⟩
end Go.Proofs.Ytcchhbkbnbphhaa

/- Contracts of the tests: isSector, l01In, a write's and a disk's valid, both DiskOK. -/
namespace Go.Proofs.Ytcchhbkbnbphhaa
open Go.RowKit

def secB (n : Int) : Bool := decide (0 ≤ n ∧ n ≤ 47)
def okWr (x : Int × ByteArray) : Bool := secB x.1 && decide (x.2.size ≤ 100)
def okSt (s : ByteArray) : Bool := decide (s.size ≤ 100)
def okDisk (ss : List ByteArray) (ws : List (Int × ByteArray)) : Bool := (decide (ss.length = 48) && decide (ws.length ≤ 60)) && (ss.all okSt && ws.all okWr)

theorem all_step {α : Type} (p : α → Bool) (l : List α) (d : α) (k : Nat) (h : k < l.length) : (l.drop k).all p = (p (l.getD k d) && (l.drop (k + 1)).all p) := by
  rw [List.drop_eq_getElem_cons h, List.all_cons, List.getD_eq_getElem?_getD, List.getElem?_eq_getElem h]
  rfl
theorem all_end {α : Type} (p : α → Bool) (l : List α) (k : Nat) (h : l.length ≤ k) : (l.drop k).all p = true := by
  rw [List.drop_of_length_le h]; rfl

theorem secB_range {a : Int} (h : secB a = true) : 0 ≤ a ∧ a ≤ 47 := by unfold secB at h; simpa using h

set_option maxRecDepth 100000 in
theorem isSector (n : Int) (w : World) : Calls Try.prog 83 #[.int .i64 n] w fun e w' => e = .returned (.bool (secB n)) ∧ w = w' := by
  go_enter Try.func83, Try.ntmps83
  go_wp2
  all_goals go_ret
  all_goals (refine ⟨ret_bool ?_, rfl⟩)
  all_goals (unfold secB; rw [Bool.eq_iff_iff]; simp; try omega)
set_option maxRecDepth 100000 in
theorem l01In47 (n : Int) (w : World) : Calls Try.prog 37 #[.int .i64 n, .int .i64 0, .int .i64 47] w fun e w' => e = .returned (.bool (secB n)) ∧ w = w' := by
  go_enter Try.func37, Try.ntmps37
  go_wp2
  all_goals go_ret
  all_goals (refine ⟨ret_bool ?_, rfl⟩)
  all_goals (unfold secB; rw [Bool.eq_iff_iff]; simp; try omega)

set_option maxRecDepth 100000 in
theorem writeValid (a : Int) (s : ByteArray) (w : World) (hs : s.size ≤ maxLen) : Calls Try.prog 57 #[.agg #[.int .i64 a, .string s]] w fun e w' => e = .returned (.bool (okWr (a, s))) ∧ Below w.heap.size w w' := by
  unfold maxLen at hs
  by_cases h : secB a = true
  · go_enter Try.func57, Try.ntmps57
    go_wp2_with (first | (go_at_call 83; refine (isSector _ _).mono ?_; rintro e w' ⟨rfl, rfl⟩))
    all_goals go_ret
    all_goals (refine ⟨ret_bool ?_, (Below.refl _ _).alloc (Nat.le_refl _) _⟩)
    all_goals (unfold okWr; rw [Bool.eq_iff_iff]; simp [h]; try omega)
  · have h' : secB a = false := by simpa using h
    clear h
    go_enter Try.func57, Try.ntmps57
    go_wp2_with (first | (go_at_call 83; refine (isSector _ _).mono ?_; rintro e w' ⟨rfl, rfl⟩))
    all_goals go_ret
    all_goals (refine ⟨ret_bool ?_, (Below.refl _ _).alloc (Nat.le_refl _) _⟩)
    all_goals (unfold okWr; simp [h'])

theorem okDisk_no1 (ss : List ByteArray) (ws : List (Int × ByteArray)) (h : ss.length ≠ 48) : okDisk ss ws = false := by unfold okDisk; simp [h]
theorem okDisk_no2 (ss : List ByteArray) (ws : List (Int × ByteArray)) (h : 60 < ws.length) : okDisk ss ws = false := by
  unfold okDisk
  have : decide (ws.length ≤ 60) = false := by simp; omega
  rw [this]; simp
theorem okDisk_yes (ss : List ByteArray) (ws : List (Int × ByteArray)) (h : ss.length = 48) (h2 : ws.length ≤ 60) : okDisk ss ws = (ss.all okSt && ws.all okWr) := by
  unfold okDisk; simp [h, h2]

def FitS (ss : List ByteArray) : Prop := ∀ s ∈ ss, s.size ≤ maxLen
def FitW (ws : List (Int × ByteArray)) : Prop := ∀ x ∈ ws, x.2.size ≤ maxLen
theorem FitS.at_ {ss : List ByteArray} (h : FitS ss) (k : Nat) (hk : k < ss.length) : (ss.getD k ByteArray.empty).size ≤ maxLen := h _ (by rw [List.getD_eq_getElem?_getD, List.getElem?_eq_getElem hk]; exact List.getElem_mem _)
theorem FitW.at_ {ws : List (Int × ByteArray)} (h : FitW ws) (k : Nat) (hk : k < ws.length) : (ws.getD k (0, ByteArray.empty)).2.size ≤ maxLen := h _ (by rw [List.getD_eq_getElem?_getD, List.getElem?_eq_getElem hk]; exact List.getElem_mem _)

set_option maxRecDepth 100000 in
set_option maxHeartbeats 2000000 in
theorem diskValid (A C : Option Addr) (n c m d : Nat) (ss : List ByteArray) (ws : List (Int × ByteArray)) (w : World) (hl : ss.length = n) (hm : ws.length = m) (hn : n ≤ maxLen) (hmm : m ≤ maxLen) (h : StrL w A ss) (g : WrL w C ws) (fs : FitS ss) (fw : FitW ws) :
    Calls Try.prog 27 #[.agg #[.slice A n c, .slice C m d]] w fun e w' => e = .returned (.bool (okDisk ss ws)) ∧ Below w.heap.size w w' := by
  unfold maxLen at hn hmm
  have HL := Lib.hid hl
  have HM := Lib.hid hm
  have H := Lib.hid h
  have G := Lib.hid g
  have FS := Lib.hid fs
  have FW := Lib.hid fw
  clear hl hm h g fs fw
  by_cases h48 : n = 48
  · by_cases h60 : m ≤ 60
    · have hb : ((n : Int) != 48) = false := by simp; omega
      have hb2 : decide ((60 : Int) < (m : Int)) = false := by simp; omega
      have HY := Lib.hid (okDisk_yes ss ws (by rw [HL.out]; exact h48) (by rw [HM.out]; exact h60))
      have HN := Lib.hid h48
      clear h48
      go_enter Try.func27, Try.ntmps27
      go_wp2
      go_loop [20] (fun i => ∃ k : Nat, k ≤ n ∧ i = .int .i64 k ∧ Hid (ss.all okSt = (ss.drop k).all okSt)) (fun i => n - (intOf i).toNat)
      case atStart => exact ⟨0, Nat.zero_le _, rfl, Lib.hid rfl⟩
      case round =>
        obtain ⟨k, hk, rfl, HT⟩ := hrel
        by_cases hlt : k < n
        · obtain ⟨b, off, rfl, hc⟩ := (H.out.below ((Below.refl _ _).alloc (Nat.le_refl _) (.cells #[.slice A n c, .slice C m d] 26))) k (by rw [HL.out]; exact hlt)
          have hx := FS.out.at_ k (by rw [HL.out]; exact hlt)
          have HS := Lib.hid (all_step okSt ss ByteArray.empty k (by rw [HL.out]; exact hlt))
          generalize ss.getD k ByteArray.empty = x at hc hx HS
          unfold maxLen at hx
          have hi : (k : Int) < (n : Int) := by omega
          by_cases hE : x.size ≤ 100
          · have hE' : ¬ (100 : Int) < (x.size : Int) := by omega
            go_wp2
            go_round
            case rel => exact ⟨k + 1, by omega, by go_num, Lib.hid (by rw [HT.out, HS.out]; simp [okSt, hE])⟩
            case measure => simp [intOf]; omega
          · have hE' : (100 : Int) < (x.size : Int) := by omega
            go_wp2
            go_ret
            exact ⟨ret_bool (by rw [HY.out, HT.out, HS.out]; simp [okSt, hE]), (Below.refl _ _).alloc (Nat.le_refl _) _⟩
        · have HT2 : Hid (ss.all okSt = true) := Lib.hid (by rw [HT.out]; exact all_end _ _ _ (by rw [HL.out]; omega))
          go_wp2
          go_loopw [31] (fun i wr => ∃ k : Nat, k ≤ m ∧ i = .int .i64 k ∧ Hid (ws.all okWr = (ws.drop k).all okWr) ∧ Below w.heap.size w wr) (fun i _ => m - (intOf i).toNat)
          case atStart => exact ⟨0, Nat.zero_le _, rfl, Lib.hid rfl, (Below.refl _ _).alloc (Nat.le_refl _) _⟩
          case round =>
            obtain ⟨j, hj, rfl, HU, hbw⟩ := hrel
            by_cases hjt : j < m
            · obtain ⟨b, off, rfl, hc, hd⟩ := (G.out.below hbw) j (by rw [HM.out]; exact hjt)
              have hx := FW.out.at_ j (by rw [HM.out]; exact hjt)
              have HS := Lib.hid (all_step okWr ws (0, ByteArray.empty) j (by rw [HM.out]; exact hjt))
              generalize ws.getD j (0, ByteArray.empty) = x at hc hd hx HS
              obtain ⟨x1, x2⟩ := x
              simp only at hx hc hd
              have hi : (j : Int) < (m : Int) := by omega
              have HC := Lib.hid (fun W => writeValid x1 x2 W hx)
              clear hx
              go_wp2_with fail
              refine (HC.out _).mono ?_
              rintro e w1 ⟨rfl, hb1⟩
              have hb3 : Below w.heap.size w w1 := bt (hbw.alloc hbw.size _) hb1
              by_cases hE : okWr (x1, x2) = true
              · rw [hE]
                have HE := Lib.hid hE
                clear hE
                go_wp2
                go_roundw
                case rel => exact ⟨j + 1, by omega, by go_num, Lib.hid (by rw [HU.out, HS.out, HE.out]; rfl), hb3⟩
                case measure => simp [intOf]; omega
              · have hE' : okWr (x1, x2) = false := by simpa using hE
                rw [hE']
                have HE := Lib.hid hE'
                clear hE hE'
                go_wp2
                go_ret
                exact ⟨ret_bool (by rw [HY.out, HT2.out, HU.out, HS.out, HE.out]; rfl), hb3⟩
            · have hU2 : Hid (ws.all okWr = true) := Lib.hid (by rw [HU.out]; exact all_end _ _ _ (by rw [HM.out]; omega))
              go_wp2
              go_ret
              exact ⟨ret_bool (by rw [HY.out, HT2.out, hU2.out]; rfl), hbw⟩
    · have hb : ((n : Int) != 48) = false := by simp; omega
      have hb2 : (60 : Int) < (m : Int) := by omega
      have HF := Lib.hid (okDisk_no2 ss ws (by rw [HM.out]; omega))
      clear h48
      go_enter Try.func27, Try.ntmps27
      go_wp2
      go_ret
      exact ⟨ret_bool HF.out.symm, (Below.refl _ _).alloc (Nat.le_refl _) _⟩
  · have hb : ((n : Int) != 48) = true := by simp; omega
    have HF := Lib.hid (okDisk_no1 ss ws (by rw [HL.out]; exact h48))
    clear h48
    go_enter Try.func27, Try.ntmps27
    go_wp2
    go_ret
    exact ⟨ret_bool HF.out.symm, (Below.refl _ _).alloc (Nat.le_refl _) _⟩

set_option maxRecDepth 100000 in
set_option maxHeartbeats 2000000 in
theorem specDiskOK (A C : Option Addr) (n c m d : Nat) (ss : List ByteArray) (ws : List (Int × ByteArray)) (w : World) (hl : ss.length = n) (hm : ws.length = m) (hn : n ≤ maxLen) (hmm : m ≤ maxLen) (h : StrL w A ss) (g : WrL w C ws) (fs : FitS ss) (fw : FitW ws) :
    Calls Try.prog 46 #[.agg #[.slice A n c, .slice C m d]] w fun e w' => e = .returned (.bool (okDisk ss ws)) ∧ Below w.heap.size w w' := by
  unfold maxLen at hn hmm
  have HL := Lib.hid hl
  have HM := Lib.hid hm
  have H := Lib.hid h
  have G := Lib.hid g
  have FS := Lib.hid fs
  have FW := Lib.hid fw
  clear hl hm h g fs fw
  by_cases h48 : n = 48
  · by_cases h60 : m ≤ 60
    · have hb : ((n : Int) != 48) = false := by simp; omega
      have hb2 : decide ((60 : Int) < (m : Int)) = false := by simp; omega
      have HY := Lib.hid (okDisk_yes ss ws (by rw [HL.out]; exact h48) (by rw [HM.out]; exact h60))
      clear h48
      go_enter Try.func46, Try.ntmps46
      go_wp2
      go_loop [3] (fun i => ∃ k : Nat, k ≤ n ∧ i = .int .i64 k ∧ Hid (ss.all okSt = (ss.drop k).all okSt)) (fun i => n - (intOf i).toNat)
      case atStart => exact ⟨0, Nat.zero_le _, rfl, Lib.hid rfl⟩
      case round =>
        obtain ⟨k, hk, rfl, HT⟩ := hrel
        by_cases hlt : k < n
        · obtain ⟨b, off, rfl, hc⟩ := (H.out.below ((Below.refl _ _).alloc (Nat.le_refl _) (.cells #[.slice A n c, .slice C m d] 26))) k (by rw [HL.out]; exact hlt)
          have hx := FS.out.at_ k (by rw [HL.out]; exact hlt)
          have HS := Lib.hid (all_step okSt ss ByteArray.empty k (by rw [HL.out]; exact hlt))
          generalize ss.getD k ByteArray.empty = x at hc hx HS
          unfold maxLen at hx
          have hi : (k : Int) < (n : Int) := by omega
          by_cases hE : x.size ≤ 100
          · have hE' : ¬ (100 : Int) < (x.size : Int) := by omega
            go_wp2
            go_round
            case rel => exact ⟨k + 1, by omega, by go_num, Lib.hid (by rw [HT.out, HS.out]; simp [okSt, hE])⟩
            case measure => simp [intOf]; omega
          · have hE' : (100 : Int) < (x.size : Int) := by omega
            go_wp2
            go_ret
            exact ⟨ret_bool (by rw [HY.out, HT.out, HS.out]; simp [okSt, hE]), (Below.refl _ _).alloc (Nat.le_refl _) _⟩
        · have HT2 : Hid (ss.all okSt = true) := Lib.hid (by rw [HT.out]; exact all_end _ _ _ (by rw [HL.out]; omega))
          go_wp2
          go_loop [4] (fun i => ∃ k : Nat, k ≤ m ∧ i = .int .i64 k ∧ Hid (ws.all okWr = (ws.drop k).all okWr)) (fun i => m - (intOf i).toNat)
          case atStart => exact ⟨0, Nat.zero_le _, rfl, Lib.hid rfl⟩
          case round =>
            obtain ⟨j, hj, rfl, HU⟩ := hrel
            by_cases hjt : j < m
            · obtain ⟨b, off, rfl, hc, hd⟩ := (G.out.below ((Below.refl _ _).alloc (Nat.le_refl _) (.cells #[.slice A n c, .slice C m d] 26))) j (by rw [HM.out]; exact hjt)
              have hx := FW.out.at_ j (by rw [HM.out]; exact hjt)
              have HS := Lib.hid (all_step okWr ws (0, ByteArray.empty) j (by rw [HM.out]; exact hjt))
              generalize ws.getD j (0, ByteArray.empty) = x at hc hd hx HS
              obtain ⟨x1, x2⟩ := x
              simp only at hx hc hd
              unfold maxLen at hx
              have hi : (j : Int) < (m : Int) := by omega
              have HC := Lib.hid (fun W => l01In47 x1 W)
              by_cases hs1 : secB x1 = true
              · by_cases hs2 : x2.size ≤ 100
                · have hE' : decide ((100 : Int) < (x2.size : Int)) = false := by simp; omega
                  have HE : Hid (okWr (x1, x2) = true) := Lib.hid (by simp [okWr, hs1, hs2])
                  go_wp2_with (first | (go_at_call 37; refine (HC.out _).mono ?_; rintro e w' ⟨rfl, rfl⟩))
                  go_round
                  case rel => exact ⟨j + 1, by omega, by go_num, Lib.hid (by rw [HU.out, HS.out, HE.out]; rfl)⟩
                  case measure => simp [intOf]; omega
                · have hE' : (100 : Int) < (x2.size : Int) := by omega
                  have HE : Hid (okWr (x1, x2) = false) := Lib.hid (by simp [okWr, hs2])
                  go_wp2_with (first | (go_at_call 37; refine (HC.out _).mono ?_; rintro e w' ⟨rfl, rfl⟩))
                  go_ret
                  exact ⟨ret_bool (by rw [HY.out, HT2.out, HU.out, HS.out, HE.out]; rfl), (Below.refl _ _).alloc (Nat.le_refl _) _⟩
              · have hs1' : secB x1 = false := by simpa using hs1
                clear hs1
                have HE : Hid (okWr (x1, x2) = false) := Lib.hid (by simp [okWr, hs1'])
                go_wp2_with (first | (go_at_call 37; refine (HC.out _).mono ?_; rintro e w' ⟨rfl, rfl⟩))
                go_ret
                exact ⟨ret_bool (by rw [HY.out, HT2.out, HU.out, HS.out, HE.out]; rfl), (Below.refl _ _).alloc (Nat.le_refl _) _⟩
            · have hU2 : Hid (ws.all okWr = true) := Lib.hid (by rw [HU.out]; exact all_end _ _ _ (by rw [HM.out]; omega))
              go_wp2
              go_ret
              exact ⟨ret_bool (by rw [HY.out, HT2.out, hU2.out]; rfl), (Below.refl _ _).alloc (Nat.le_refl _) _⟩
    · have hb : ((n : Int) != 48) = false := by simp; omega
      have hb2 : (60 : Int) < (m : Int) := by omega
      have HF := Lib.hid (okDisk_no2 ss ws (by rw [HM.out]; omega))
      clear h48
      go_enter Try.func46, Try.ntmps46
      go_wp2
      go_ret
      exact ⟨ret_bool HF.out.symm, (Below.refl _ _).alloc (Nat.le_refl _) _⟩
  · have hb : ((n : Int) != 48) = true := by simp; omega
    have HF := Lib.hid (okDisk_no1 ss ws (by rw [HL.out]; exact h48))
    clear h48
    go_enter Try.func46, Try.ntmps46
    go_wp2
    go_ret
    exact ⟨ret_bool HF.out.symm, (Below.refl _ _).alloc (Nat.le_refl _) _⟩
end Go.Proofs.Ytcchhbkbnbphhaa

/- Contracts of the marks: markText, markStringS, heldStringS, markWriteS, heldWriteS, markDisk, heldDisk. -/
namespace Go.Proofs.Ytcchhbkbnbphhaa
open Go.RowKit

theorem OwnS.wide {w : World} {lo hi lo' hi' : Nat} {A : Option Addr} {ss : List ByteArray} (h : OwnS w lo hi A ss) (h1 : lo' ≤ lo) (h2 : hi ≤ hi') : OwnS w lo' hi' A ss := by
  rcases h with e | ⟨b, m, f, e, q1, q2, q3, q4, q5⟩
  · exact .inl e
  · exact .inr ⟨b, m, f, e, by omega, by omega, q3, q4, q5⟩
theorem OwnW.wide {w : World} {lo hi lo' hi' : Nat} {A : Option Addr} {ws : List (Int × ByteArray)} (h : OwnW w lo hi A ws) (h1 : lo' ≤ lo) (h2 : hi ≤ hi') : OwnW w lo' hi' A ws := by
  rcases h with e | ⟨b, m, f, e, q1, q2, q3, q4, q5⟩
  · exact .inl e
  · exact .inr ⟨b, m, f, e, by omega, by omega, q3, q4, q5⟩
theorem OwnS.apart {w w' : World} {lo hi l r : Nat} {A : Option Addr} {ss : List ByteArray} (h : OwnS w lo hi A ss) (hb : Btw l r w w') (ha : ∀ b n f, w.rowIs b 9 n f → b < l ∨ r ≤ b) : OwnS w' lo hi A ss := by
  rcases h with e | ⟨b, m, f, e, q1, q2, q3, q4, q5⟩
  · exact .inl e
  · exact .inr ⟨b, m, f, e, q1, q2, q3, hb.row q4 (ha b m f q4), q5⟩
theorem OwnW.apart {w w' : World} {lo hi l r : Nat} {A : Option Addr} {ws : List (Int × ByteArray)} (h : OwnW w lo hi A ws) (hb : Btw l r w w') (ha : ∀ b n f, w.rowIs b 67 n f → b < l ∨ r ≤ b) : OwnW w' lo hi A ws := by
  rcases h with e | ⟨b, m, f, e, q1, q2, q3, q4, q5⟩
  · exact .inl e
  · exact .inr ⟨b, m, f, e, q1, q2, q3, hb.row q4 (ha b m f q4), q5⟩

end Go.Proofs.Ytcchhbkbnbphhaa

/- A disk of the call's own behind a box: kept over what is new, and over writes elsewhere. -/
namespace Go.Proofs.Ytcchhbkbnbphhaa
open Go.RowKit

structure BD (w : World) (b lo hi : Nat) (A : Option Addr) (n c : Nat) (C : Option Addr) (m d : Nat) (ss : List ByteArray) (ws : List (Int × ByteArray)) : Prop where
  box : Box w b 26 #[.slice A n c, .slice C m d]
  s : OwnS w lo hi A ss
  r : OwnW w lo hi C ws

section
variable {w w' : World} {b lo hi : Nat} {A : Option Addr} {n c : Nat} {C : Option Addr} {m d : Nat} {ss : List ByteArray} {ws : List (Int × ByteArray)}
theorem BD.step (h : BD w b lo hi A n c C m d ss ws) (hb : Below w.heap.size w w') : BD w' b lo hi A n c C m d ss ws := ⟨h.box.step hb, h.s.below hb, h.r.below hb⟩
theorem BD.btw {l r : Nat} (h : BD w b lo hi A n c C m d ss ws) (hb : Btw l r w w') (h1 : b < l ∨ r ≤ b) (h2 : hi ≤ l ∨ r ≤ lo) : BD w' b lo hi A n c C m d ss ws := ⟨h.box.btw hb h1, h.s.btw hb h2, h.r.btw hb h2⟩
theorem BD.new (hs : OwnS w lo hi A ss) (hr : OwnW w lo hi C ws) : BD (w.alloc (.cells #[.slice A n c, .slice C m d] 26)) w.heap.size lo hi A n c C m d ss ws :=
  have k := (Below.refl w.heap.size w).alloc (Nat.le_refl _) (.cells #[.slice A n c, .slice C m d] 26)
  ⟨Box.new _ _ _, hs.below k, hr.below k⟩
theorem BD.f0 (h : BD w b lo hi A n c C m d ss ws) : w.cell? ⟨b, 0, none⟩ = some (.slice A n c) := h.box.cell 0 rfl
theorem BD.f1 (h : BD w b lo hi A n c C m d ss ws) : w.cell? ⟨b, 1, none⟩ = some (.slice C m d) := h.box.cell 1 rfl
end
theorem alloc_below (w : World) (o : Obj) : Below w.heap.size w (w.alloc o) := (Below.refl _ _).alloc (Nat.le_refl _) o
end Go.Proofs.Ytcchhbkbnbphhaa

/- Contracts of toIntS, eqIntS, markIntS. -/
namespace Go.Proofs.Ytcchhbkbnbphhaa
open Go.RowKit

set_option maxRecDepth 100000 in
theorem infoI : (Try.prog.info? 3).map (fun i => (i.zero, i.size, i.bytes)) = some (some (.int .i64 0), 1, 8) := by kernel_rfl

def GivesInts (zs : List Int) (w : World) (e : Ending) (w' : World) : Prop :=
  ∃ A n c, e = .returned (.slice A n c) ∧ Hid (zs.length = n) ∧ Hid (OwnI w' w.heap.size w'.heap.size A zs) ∧ Below w.heap.size w w'

end Go.Proofs.Ytcchhbkbnbphhaa

/- Contracts of the measures: szStringS, szWrite, szWriteS, szDisk: what is left, or -1. -/
namespace Go.Proofs.Ytcchhbkbnbphhaa
open Go.RowKit

def Left (left : Int) (used : Nat) (w : World) (e : Ending) (w' : World) : Prop :=
  (e = .returned (.int .i64 (-1)) ∨ e = .returned (.int .i64 (left - used)) ∧ (used : Int) ≤ left) ∧ Below w.heap.size w w'

end Go.Proofs.Ytcchhbkbnbphhaa

/- Contracts of szIntS, of markIntS with what it leaves, of heldIntS. -/
namespace Go.Proofs.Ytcchhbkbnbphhaa
open Go.RowKit

end Go.Proofs.Ytcchhbkbnbphhaa

/- Slices of booleans: as lists, of the call's own; contracts of szBoolS, toBoolS, eqBoolS, markBoolS, heldBoolS. -/
namespace Go.Proofs.Ytcchhbkbnbphhaa
open Go.RowKit

def BoolL (w : World) (A : Option Addr) (gs : List Bool) : Prop :=
  ∀ i, i < gs.length → ∃ b off, A = some ⟨b, off, none⟩ ∧ w.cell? ⟨b, off + i, none⟩ = some (.bool (gs.getD i false))
theorem BoolL.below {w w' : World} {A : Option Addr} {gs : List Bool} (h : BoolL w A gs) (hb : Below w.heap.size w w') : BoolL w' A gs := fun i hi => by
  obtain ⟨b, off, e, hc⟩ := h i hi
  exact ⟨b, off, e, (hb.cell (cell_lt hc)).trans hc⟩
def OwnB (w : World) (lo hi : Nat) (A : Option Addr) (gs : List Bool) : Prop :=
  gs = [] ∨ ∃ b m f, A = some ⟨b, 0, none⟩ ∧ lo ≤ b ∧ b < hi ∧ gs.length ≤ m ∧ w.rowIs b 4 m f ∧ ∀ i, i < gs.length → f i = .bool (gs.getD i false)
theorem OwnB.reads {w : World} {lo hi : Nat} {A : Option Addr} {gs : List Bool} (h : OwnB w lo hi A gs) : BoolL w A gs := fun i hi' => by
  rcases h with rfl | ⟨b, m, f, e, _, _, hm, hr, hf⟩
  · simp at hi'
  · exact ⟨b, 0, e, by rw [← hf i hi', Nat.zero_add]; exact hr.cell (by omega)⟩
theorem OwnB.btw {w w' : World} {lo hi l h' : Nat} {A : Option Addr} {gs : List Bool} (h : OwnB w lo hi A gs) (hb : Btw l h' w w') (ho : hi ≤ l ∨ h' ≤ lo) : OwnB w' lo hi A gs := by
  rcases h with e | ⟨b, m, f, e, h1, h2, hm, hr, hf⟩
  · exact .inl e
  · exact .inr ⟨b, m, f, e, h1, h2, hm, hb.row hr (by omega), hf⟩
theorem OwnB.below {w w' : World} {lo hi : Nat} {A : Option Addr} {gs : List Bool} (h : OwnB w lo hi A gs) (hb : Below w.heap.size w w') : OwnB w' lo hi A gs := h.btw (Btw.of_below hb hi hi) (.inl (Nat.le_refl _))
theorem OwnB.wide {w : World} {lo hi lo' hi' : Nat} {A : Option Addr} {gs : List Bool} (h : OwnB w lo hi A gs) (h1 : lo' ≤ lo) (h2 : hi ≤ hi') : OwnB w lo' hi' A gs := by
  rcases h with e | ⟨b, m, f, e, p1, p2, hm, hr, hf⟩
  · exact .inl e
  · exact .inr ⟨b, m, f, e, by omega, by omega, hm, hr, hf⟩
theorem OwnB.far {w : World} {lo hi : Nat} {A : Option Addr} {gs : List Bool} (h : OwnB w lo hi A gs) {b : Nat} {t : TypeId} {cs : Array Value} (X : Box w b t cs) (ht : t ≠ 4) (i : Nat) (u : Value) : OwnB (w.setCell ⟨b, i, none⟩ u) lo hi A gs := by
  rcases h with e | ⟨b', m, f, e, p1, p2, hm, hr, hf⟩
  · exact .inl e
  · exact .inr ⟨b', m, f, e, p1, p2, hm, hr.setOther (a := ⟨b, i, none⟩) (by exact (X.ne hr ht).symm) u, hf⟩
theorem OwnB.apart {w w' : World} {lo hi l r : Nat} {A : Option Addr} {gs : List Bool} (h : OwnB w lo hi A gs) (hb : Btw l r w w') (ha : ∀ b n f, w.rowIs b 4 n f → b < l ∨ r ≤ b) : OwnB w' lo hi A gs := by
  rcases h with e | ⟨b, m, f, e, q1, q2, q3, q4, q5⟩
  · exact .inl e
  · exact .inr ⟨b, m, f, e, q1, q2, q3, hb.row q4 (ha b m f q4), q5⟩
end Go.Proofs.Ytcchhbkbnbphhaa

/- append of a whole row onto an empty literal. -/
namespace Go.Proofs.Ytcchhbkbnbphhaa
open Go.RowKit

theorem run_app_fresh {P : Program} (w : World) (t ty e : TypeId) (i : TypeInfo) (z : Value) (size bytes : Nat) (ht : P.underlying t = some (.slice e)) (hi : P.info? e = some i) (hz : i.zero = some z)
    (hsize : i.size = size) (hby : i.bytes = bytes) (hzs : z.cells.size = size) (hsz : 0 < size) (b : Addr)
    (A : Option Addr) (m c : Nat) (hm : 0 < m) (news : List Value) (hl : news.length = m * size) (hsrc : ∃ ad, A = some ad ∧ ∀ j u, news[j]? = some u → w.cell? (ad.add j) = some u)
    (h63 : m ≤ maxLen) (hbytes : m * bytes ≤ 140737488355328) :
    ∃ A' cap w', (Builtin.append_ #[t, t] ty #[.slice (some b) 0 0, .slice A m c]).run P w = .ok (.slice A' m cap) w' ∧ Below w.heap.size w w' ∧ w'.ownsRow w.heap.size e size (.slice A' m cap) m news := by
  obtain ⟨ad, rfl, hc⟩ := hsrc
  obtain ⟨v', w', hr, ho, hg⟩ := run_append_arg_grows (P := P) w t ty e i z size bytes ht hi hz hsize hby hzs hsz b 0 0 [] (by simp) (fun j u hj => by simp at hj) ad m c news hl hc (by omega) (by omega) (by rw [Nat.zero_add]; exact hbytes)
  rw [Nat.zero_add] at ho
  obtain ⟨hl', h0 | ⟨g, cap, cur, rfl, hrest⟩⟩ := ho
  · omega
  · exact ⟨_, cap, w', hr, (Below.refl _ _).grown hg (Nat.le_refl _) (fun k hk => by cases hk), hl', .inr ⟨g, cap, cur, rfl, hrest⟩⟩

theorem wpList_app_fresh {P : Program} {ops : Array Oper} {rest : List Oper} {o : Oper} {a : Act} {w : World} {Q : Exit → Act → World → Prop}
    (hg : o.guard = none) (s x : Operand) (t : TypeId) (hop : o.op = Op.call { callee := Callee.builtin Builtin.append, args := #[s, x], argTypes := #[t, t] })
    (e : TypeId) (z : Value) (size bytes : Nat) (ht : P.underlying t = some (.slice e)) (hi : ∃ i : TypeInfo, P.info? e = some i ∧ i.zero = some z ∧ i.size = size ∧ i.bytes = bytes) (hzs : z.cells.size = size) (hsz : 0 < size) (b : Addr) (hs : a.eval s = .slice (some b) 0 0)
    (A : Option Addr) (m c : Nat) (hm : 0 < m) (news : List Value) (hx : a.eval x = .slice A m c) (hl : news.length = m * size) (hsrc : ∃ ad, A = some ad ∧ ∀ j u, news[j]? = some u → w.cell? (ad.add j) = some u)
    (h63 : m ≤ maxLen) (hbytes : m * bytes ≤ 140737488355328)
    (h : ∀ A' cap w', Below w.heap.size w w' → Hid (w'.ownsRow w.heap.size e size (.slice A' m cap) m news) → wpList P ops Q rest (a.put o.dst (.slice A' m cap)) w') : wpList P ops Q (o :: rest) a w :=
  wpList_plain hg fun _ hK => by
    obtain ⟨i, hi, hz, hsize, hby⟩ := hi
    obtain ⟨A', cap, w', hr, h2, h3⟩ := run_app_fresh (P := P) w t o.type e i z size bytes ht hi hz hsize hby hzs hsz b A m c hm news hl hsrc h63 hbytes
    unfold Oper.wp execOp
    simp only [hop, resolve, invoke, builtin, Sem.run_bind, Sem.run_pure, Result.andThen_ok, List.map_toArray, List.map_cons, List.map_nil, hs, hx, hr]
    exact hK _ _ (h A' cap w' h2 (Lib.hid h3))
end Go.Proofs.Ytcchhbkbnbphhaa

/- append of a whole row onto an empty literal; lists as rows of one cell each. -/
namespace Go.Proofs.Ytcchhbkbnbphhaa
open Go.RowKit

theorem row_of_owns {α : Type} (mk : α → Value) (dflt : α) {w : World} {base n : Nat} {t : TypeId} {v : Value} {ss : List α} (h : w.ownsRow base t 1 v n (ss.map mk)) (hn : 0 < n) : ∃ g cap m f, v = .slice (some ⟨g, 0, none⟩) n cap ∧ base ≤ g ∧ n ≤ m ∧ ss.length = n ∧ w.rowIs g t m f ∧ ∀ i, i < n → f i = mk (ss.getD i dflt) := by
  obtain ⟨hl, h0 | ⟨g, cap, cur, rfl, hb, hg, hnc, _, hsz, htk⟩⟩ := h
  · omega
  · rw [List.length_map, Nat.mul_one] at hl
    rw [Nat.mul_one] at hsz htk
    refine ⟨g, cap, cap, fun i => cur.toList.getD i undef, rfl, hb, hnc, hl, ⟨cur, hg, hsz, fun i hi => ?_⟩, fun i hi => ?_⟩
    · have : i < cur.toList.length := by simp [hsz, hi]
      show cur[i]? = some (cur.toList.getD i undef)
      rw [List.getD_eq_getElem?_getD, List.getElem?_eq_getElem this, ← Array.getElem?_toList, List.getElem?_eq_getElem this]
      rfl
    · have h1 : (cur.toList.take n)[i]? = (ss.map mk)[i]? := by rw [htk]
      rw [List.getElem?_take, if_pos hi] at h1
      show cur.toList.getD i undef = _
      rw [List.getD_eq_getElem?_getD, h1, List.getElem?_map, List.getD_eq_getElem?_getD, List.getElem?_eq_getElem (by omega)]
      rfl

def cellsI (zs : List Int) : List Value := zs.map fun z => .int .i64 z
def cellsB (gs : List Bool) : List Value := gs.map Value.bool
theorem cellsI_len (zs : List Int) : (cellsI zs).length = zs.length := by simp [cellsI]
theorem cellsB_len (gs : List Bool) : (cellsB gs).length = gs.length := by simp [cellsB]
theorem ownI_fresh {w' : World} {A : Option Addr} {n cap lo base : Nat} {zs : List Int} (h : w'.ownsRow base 3 1 (.slice A n cap) n (cellsI zs)) (hn : 0 < n) (hlo : lo ≤ base) : OwnI w' lo w'.heap.size A zs := by
  obtain ⟨g, cap', m, f, e, q1, q2, q3, q4, q5⟩ := row_of_owns (fun z => Value.int .i64 z) 0 h hn
  injection e with e _ _
  subst e
  exact .inr ⟨g, m, f, rfl, by omega, q4.lt, by omega, q4, fun i hi => q5 i (by omega)⟩
theorem addr_add (b off j : Nat) : (⟨b, off, none⟩ : Addr).add j = ⟨b, off + j, none⟩ := by unfold Addr.add; split <;> simp_all
theorem IntL.src {w : World} {A : Option Addr} {zs : List Int} (h : IntL w A zs) (hn : 0 < zs.length) : ∃ ad, A = some ad ∧ ∀ j u, (cellsI zs)[j]? = some u → w.cell? (ad.add j) = some u := by
  obtain ⟨b, off, e, _⟩ := h 0 hn
  refine ⟨_, e, fun j u hj => ?_⟩
  have hj' : j < zs.length := by
    have := (List.getElem?_eq_some_iff.1 hj).1
    rwa [cellsI_len] at this
  obtain ⟨b', off', e', hc⟩ := h j hj'
  rw [e] at e'
  injection e' with e'
  injection e' with e1 e2 _
  subst e1 e2
  rw [addr_add, hc, ← hj]
  unfold cellsI
  rw [List.getElem?_map, List.getD_eq_getElem?_getD, List.getElem?_eq_getElem hj']
  rfl
theorem BoolL.src {w : World} {A : Option Addr} {gs : List Bool} (h : BoolL w A gs) (hn : 0 < gs.length) : ∃ ad, A = some ad ∧ ∀ j u, (cellsB gs)[j]? = some u → w.cell? (ad.add j) = some u := by
  obtain ⟨b, off, e, _⟩ := h 0 hn
  refine ⟨_, e, fun j u hj => ?_⟩
  have hj' : j < gs.length := by
    have := (List.getElem?_eq_some_iff.1 hj).1
    rwa [cellsB_len] at this
  obtain ⟨b', off', e', hc⟩ := h j hj'
  rw [e] at e'
  injection e' with e'
  injection e' with e1 e2 _
  subst e1 e2
  rw [addr_add, hc, ← hj]
  unfold cellsB
  rw [List.getElem?_map, List.getD_eq_getElem?_getD, List.getElem?_eq_getElem hj']
  rfl
set_option maxRecDepth 100000 in
theorem infoIx : ∃ i : TypeInfo, Try.prog.info? 3 = some i ∧ i.zero = some (.int .i64 0) ∧ i.size = 1 ∧ i.bytes = 8 := by
  obtain ⟨i, hi, hzz⟩ := Option.map_eq_some_iff.1 infoI
  simp only [Prod.mk.injEq] at hzz
  exact ⟨i, hi, hzz.1, hzz.2.1, hzz.2.2⟩
theorem OwnI.put {w : World} {lo hi : Nat} {A : Option Addr} {zs : List Int} (h : OwnI w lo hi A zs) (k : Nat) (hk : k < zs.length) :
    ∃ b m f, A = some ⟨b, 0, none⟩ ∧ w.cell? ⟨b, k, none⟩ = some (.int .i64 (zs.getD k 0)) ∧ w.frozen? ⟨b, k, none⟩ = false ∧ lo ≤ b ∧ b < hi ∧ w.rowIs b 3 m f ∧ ∀ x, OwnI (w.setCell ⟨b, k, none⟩ (.int .i64 x)) lo hi A (zs.set k x) := by
  rcases h with rfl | ⟨b, m, f, e, h1, h2, hm, hr, hf⟩
  · simp at hk
  · refine ⟨b, m, f, e, by rw [← hf k hk]; exact hr.cell (by omega), hr.frozen k, h1, h2, hr, fun x => .inr ⟨b, m, _, e, h1, h2, by simpa using hm, hr.set k (.int .i64 x), fun i hi' => ?_⟩⟩
    have hi2 : i < zs.length := by simpa using hi'
    show (if i = k then Value.int .i64 x else f i) = _
    by_cases q : i = k
    · subst q
      rw [if_pos rfl, List.getD_eq_getElem?_getD, List.getElem?_set_self hk]
      rfl
    · rw [if_neg q, hf i hi2, List.getD_eq_getElem?_getD, List.getD_eq_getElem?_getD, List.getElem?_set_ne (fun e => q e.symm)]
theorem OwnB.put {w : World} {lo hi : Nat} {A : Option Addr} {zs : List Bool} (h : OwnB w lo hi A zs) (k : Nat) (hk : k < zs.length) :
    ∃ b m f, A = some ⟨b, 0, none⟩ ∧ w.cell? ⟨b, k, none⟩ = some (.bool (zs.getD k false)) ∧ w.frozen? ⟨b, k, none⟩ = false ∧ lo ≤ b ∧ b < hi ∧ w.rowIs b 4 m f ∧ ∀ x, OwnB (w.setCell ⟨b, k, none⟩ (.bool x)) lo hi A (zs.set k x) := by
  rcases h with rfl | ⟨b, m, f, e, h1, h2, hm, hr, hf⟩
  · simp at hk
  · refine ⟨b, m, f, e, by rw [← hf k hk]; exact hr.cell (by omega), hr.frozen k, h1, h2, hr, fun x => .inr ⟨b, m, _, e, h1, h2, by simpa using hm, hr.set k (.bool x), fun i hi' => ?_⟩⟩
    have hi2 : i < zs.length := by simpa using hi'
    show (if i = k then Value.bool x else f i) = _
    by_cases q : i = k
    · subst q
      rw [if_pos rfl, List.getD_eq_getElem?_getD, List.getElem?_set_self hk]
      rfl
    · rw [if_neg q, hf i hi2, List.getD_eq_getElem?_getD, List.getD_eq_getElem?_getD, List.getElem?_set_ne (fun e => q e.symm)]
theorem OwnB.other {w : World} {lo hi : Nat} {A : Option Addr} {gs : List Bool} (h : OwnB w lo hi A gs) {b m : Nat} {t : TypeId} {f : Nat → Value} (hr : w.rowIs b t m f) (ht : t ≠ 4) (i : Nat) (u : Value) : OwnB (w.setCell ⟨b, i, none⟩ u) lo hi A gs := by
  rcases h with e | ⟨b', m', f', e, p1, p2, hm, hr', hf⟩
  · exact .inl e
  · exact .inr ⟨b', m', f', e, p1, p2, hm, hr'.setOther (a := ⟨b, i, none⟩) (by exact (row_ne hr hr' ht).symm) u, hf⟩
theorem OwnI.other {w : World} {lo hi : Nat} {A : Option Addr} {zs : List Int} (h : OwnI w lo hi A zs) {b m : Nat} {t : TypeId} {f : Nat → Value} (hr : w.rowIs b t m f) (ht : t ≠ 3) (i : Nat) (u : Value) : OwnI (w.setCell ⟨b, i, none⟩ u) lo hi A zs := by
  rcases h with e | ⟨b', m', f', e, p1, p2, hm, hr', hf⟩
  · exact .inl e
  · exact .inr ⟨b', m', f', e, p1, p2, hm, hr'.setOther (a := ⟨b, i, none⟩) (by exact (row_ne hr hr' ht).symm) u, hf⟩
theorem Box.other {w : World} {b : Nat} {t : TypeId} {cs : Array Value} (X : Box w b t cs) {b' m : Nat} {t' : TypeId} {f : Nat → Value} (hr : w.rowIs b' t' m f) (ht : t ≠ t') (i : Nat) (u : Value) : Box (w.setCell ⟨b', i, none⟩ u) b t cs :=
  X.far (p := ⟨b', i, none⟩) (X.ne hr ht) u
end Go.Proofs.Ytcchhbkbnbphhaa
