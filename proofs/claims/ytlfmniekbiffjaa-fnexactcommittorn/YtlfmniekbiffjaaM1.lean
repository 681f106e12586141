/- Texts of this claim, one behind the other: Mem, Own, App, PlanMath, EqDisk, ToDisk, Ints, SzDisk, IntsMore, Mark, BoxDisk, Root, Sets. -/
import Derived.WalkKit
import Derived.WalkSpells
import Derived.Lib.Hide
import Derived.Below
import Derived.WalkSmall
import Derived.Deep.OwnRows
import Derived.Test.YtlfmniekbiffjaaRows
import Derived.Laws.AppendOwn
import Derived.OwnWalk
import Derived.Deep.QuietTactic
import Derived.BigQuiet
import Derived.StillTailTactics
import Derived.Deep.RegionHeld3
import Derived.Laws.IdiomStrings
import Derived.Maps.Own
/- Words for memory: slices of strings, of writes, of integers as lists; what keeps them. Nothing here is of one program. -/
namespace Go.Proofs.Ytlfmniekbiffjaa
open Go.RowKit

/-- The slice at A holds these strings. -/
def StrL (w : World) (A : Option Addr) (ss : List ByteArray) : Prop :=
  ∀ i, i < ss.length → ∃ b off, A = some ⟨b, off, none⟩ ∧ w.cell? ⟨b, off + i, none⟩ = some (.string (ss.getD i ByteArray.empty))
/-- The slice at A holds these writes (a number and a string each). -/
def WrL (w : World) (A : Option Addr) (ws : List (Int × ByteArray)) : Prop :=
  ∀ i, i < ws.length → ∃ b off, A = some ⟨b, off, none⟩ ∧ w.cell? ⟨b, off + i * 2, none⟩ = some (.int .i64 (ws.getD i (0, ByteArray.empty)).1) ∧
    w.cell? ⟨b, off + i * 2 + 1, none⟩ = some (.string (ws.getD i (0, ByteArray.empty)).2)
/-- The slice at A holds these integers. -/
def IntL (w : World) (A : Option Addr) (zs : List Int) : Prop :=
  ∀ i, i < zs.length → ∃ b off, A = some ⟨b, off, none⟩ ∧ w.cell? ⟨b, off + i, none⟩ = some (.int .i64 (zs.getD i 0))

theorem cell_lt {w : World} {p : Addr} {v : Value} (h : w.cell? p = some v) : p.block < w.heap.size := by
  rcases Nat.lt_or_ge p.block w.heap.size with h1 | h1
  · exact h1
  · unfold World.cell? at h
    rw [Array.getElem?_eq_none h1] at h
    cases h

/-- Every cell of w is in w' as it was, where it lies in a block that keep lets. -/
def Keep (keep : Nat → Prop) (w w' : World) : Prop := ∀ p : Addr, keep p.block → p.block < w.heap.size → w'.cell? p = w.cell? p

theorem Keep.of_below {B : Nat} {w w' : World} (h : Below B w w') : Keep (fun b => b < B) w w' := fun _ hp _ => h.cell hp

theorem StrL.below {w w' : World} {A : Option Addr} {ss : List ByteArray} (h : StrL w A ss) (hb : Below w.heap.size w w') : StrL w' A ss := fun i hi => by
  obtain ⟨b, off, e, hc⟩ := h i hi
  exact ⟨b, off, e, (hb.cell (cell_lt hc)).trans hc⟩
theorem WrL.below {w w' : World} {A : Option Addr} {ws : List (Int × ByteArray)} (h : WrL w A ws) (hb : Below w.heap.size w w') : WrL w' A ws := fun i hi => by
  obtain ⟨b, off, e, hc, hd⟩ := h i hi
  exact ⟨b, off, e, (hb.cell (cell_lt hc)).trans hc, (hb.cell (cell_lt hd)).trans hd⟩
theorem IntL.below {w w' : World} {A : Option Addr} {zs : List Int} (h : IntL w A zs) (hb : Below w.heap.size w w') : IntL w' A zs := fun i hi => by
  obtain ⟨b, off, e, hc⟩ := h i hi
  exact ⟨b, off, e, (hb.cell (cell_lt hc)).trans hc⟩

/-- Below its own size, over two steps. -/
theorem bt {a b c : World} (h : Below a.heap.size a b) (k : Below b.heap.size b c) : Below a.heap.size a c := h.trans (k.mono h.size)

theorem ret_bool {a b : Bool} (h : a = b) : Ending.returned (.bool a) = .returned (.bool b) := by rw [h]
theorem ret_int {a b : Int} (h : a = b) : Ending.returned (.int .i64 a) = .returned (.int .i64 b) := by rw [h]

theorem bytes_beq (a b : ByteArray) : (a.toList == b.toList) = decide (a = b) := by
  rw [ByteArray.toList_eq, ByteArray.toList_eq, Bool.eq_iff_iff]
  simp only [beq_iff_eq, decide_eq_true_eq]
  exact ⟨WideShapes.bytes_inj, fun h => by rw [h]⟩
theorem bytes_bne (a b : ByteArray) : (a.toList != b.toList) = decide (a ≠ b) := by
  rw [bne, bytes_beq]; simp

/-- Two lists, equal so far. -/
theorem take_next {α : Type} {l m : List α} {k : Nat} (d : α) (h : l.take k = m.take k) (hl : k < l.length) (hm : k < m.length) (e : l.getD k d = m.getD k d) : l.take (k + 1) = m.take (k + 1) := by
  rw [List.take_succ_eq_append_getElem hl, List.take_succ_eq_append_getElem hm, h]
  simp only [List.getD_eq_getElem?_getD, List.getElem?_eq_getElem hl, List.getElem?_eq_getElem hm, Option.getD_some] at e
  rw [e]
theorem take_all {α : Type} {l m : List α} {k : Nat} (h : l.take k = m.take k) (hl : l.length ≤ k) (hm : m.length ≤ k) : l = m := by
  rwa [List.take_of_length_le hl, List.take_of_length_le hm] at h
theorem ne_of_at {α : Type} {l m : List α} {k : Nat} (d : α) (e : l.getD k d ≠ m.getD k d) : l ≠ m := fun h => e (by rw [h])
end Go.Proofs.Ytlfmniekbiffjaa

/- Slices in memory of the call's own: rows between two block numbers; what a call that writes only there keeps. -/
namespace Go.Proofs.Ytlfmniekbiffjaa
open Go.RowKit

/-- Of the old blocks only those from lo on and below hi may have turned. -/
structure Btw (lo hi : Nat) (w w' : World) : Prop where
  os : w'.os = w.os
  tape : w'.tape = w.tape
  output : w'.output = w.output
  size : w.heap.size ≤ w'.heap.size
  block : ∀ k, k < w.heap.size → k < lo ∨ hi ≤ k → w'.heap[k]? = w.heap[k]?

theorem Btw.refl (lo hi : Nat) (w : World) : Btw lo hi w w := ⟨rfl, rfl, rfl, Nat.le_refl _, fun _ _ _ => rfl⟩
theorem Btw.trans {lo hi : Nat} {a b c : World} (h : Btw lo hi a b) (k : Btw lo hi b c) : Btw lo hi a c :=
  ⟨k.os.trans h.os, k.tape.trans h.tape, k.output.trans h.output, Nat.le_trans h.size k.size, fun i hi' ho => (k.block i (Nat.lt_of_lt_of_le hi' h.size) ho).trans (h.block i hi' ho)⟩
theorem Btw.of_below {w w' : World} (h : Below w.heap.size w w') (lo hi : Nat) : Btw lo hi w w' := ⟨h.os, h.tape, h.output, h.size, fun k hk _ => h.block k hk⟩
theorem Btw.below {lo hi : Nat} {w w' : World} (h : Btw lo hi w w') (hl : lo ≤ w.heap.size) : Below lo w w' := ⟨h.os, h.tape, h.output, h.size, fun k hk => h.block k (Nat.lt_of_lt_of_le hk hl) (.inl hk)⟩
theorem Btw.wide {lo hi lo' hi' : Nat} {w w' : World} (h : Btw lo hi w w') (h1 : lo' ≤ lo) (h2 : hi ≤ hi') : Btw lo' hi' w w' :=
  ⟨h.os, h.tape, h.output, h.size, fun k hk ho => h.block k hk (by omega)⟩
theorem Btw.drewN {lo hi : Nat} {a w : World} (h : Btw lo hi a w) (n : Nat) : Btw lo hi a (w.drewN n) := ⟨h.os, h.tape, h.output, h.size, h.block⟩
theorem Btw.drew {lo hi : Nat} {a w : World} (h : Btw lo hi a w) : Btw lo hi a w.drew := ⟨h.os, h.tape, h.output, h.size, h.block⟩
theorem Btw.alloc {lo hi : Nat} {a w : World} (h : Btw lo hi a w) (o : Obj) : Btw lo hi a (w.alloc o) := h.trans (Btw.of_below ((Below.refl _ _).alloc (Nat.le_refl _) o) lo hi)
theorem Btw.setCell {lo hi : Nat} {a w : World} (h : Btw lo hi a w) {p : Addr} (h1 : lo ≤ p.block) (h2 : p.block < hi) (u : Value) : Btw lo hi a (w.setCell p u) :=
  ⟨h.os, h.tape, h.output, by simpa [World.setCell] using h.size, fun k hk ho => (Below.heap_setCell w p u k (by omega)).trans (h.block k hk ho)⟩
theorem Btw.cell {lo hi : Nat} {w w' : World} (h : Btw lo hi w w') {p : Addr} {v : Value} (hc : w.cell? p = some v) (ho : p.block < lo ∨ hi ≤ p.block) : w'.cell? p = some v :=
  (World.cell?_of_block (w := w) (h.block p.block (cell_lt hc) ho)).trans hc
theorem Btw.row {lo hi : Nat} {w w' : World} (h : Btw lo hi w w') {b : Nat} {t : TypeId} {n : Nat} {f : Nat → Value} (hr : w.rowIs b t n f) (ho : b < lo ∨ hi ≤ b) : w'.rowIs b t n f :=
  hr.of_block (h.block b hr.lt ho)
theorem row_below {B : Nat} {w w' : World} (h : Below B w w') {b : Nat} {t : TypeId} {n : Nat} {f : Nat → Value} (hr : w.rowIs b t n f) (ho : b < B) : w'.rowIs b t n f := hr.of_block (h.block b ho)
/-- Rows of two element types are two blocks. -/
theorem row_ne {w : World} {b b' : Nat} {t t' : TypeId} {n n' : Nat} {f f' : Nat → Value} (h : w.rowIs b t n f) (h' : w.rowIs b' t' n' f') (ht : t ≠ t') : b ≠ b' := by
  rintro rfl
  obtain ⟨c, hc, _⟩ := h
  obtain ⟨c', hc', _⟩ := h'
  rw [hc] at hc'
  injection hc' with e
  injection e with _ e2
  exact ht e2

/-- A []string of the call's own: its row lies in a block from lo on and below hi. -/
def OwnS (w : World) (lo hi : Nat) (A : Option Addr) (ss : List ByteArray) : Prop :=
  ss = [] ∨ ∃ b m f, A = some ⟨b, 0, none⟩ ∧ lo ≤ b ∧ b < hi ∧ ss.length ≤ m ∧ w.rowIs b 9 m f ∧ ∀ i, i < ss.length → f i = .string (ss.getD i ByteArray.empty)
/-- A []Write of the call's own. -/
def OwnW (w : World) (lo hi : Nat) (A : Option Addr) (ws : List (Int × ByteArray)) : Prop :=
  ws = [] ∨ ∃ b m f, A = some ⟨b, 0, none⟩ ∧ lo ≤ b ∧ b < hi ∧ ws.length * 2 ≤ m ∧ w.rowIs b 87 m f ∧
    ∀ i, i < ws.length → f (i * 2) = .int .i64 (ws.getD i (0, ByteArray.empty)).1 ∧ f (i * 2 + 1) = .string (ws.getD i (0, ByteArray.empty)).2
/-- A []int of the call's own. -/
def OwnI (w : World) (lo hi : Nat) (A : Option Addr) (zs : List Int) : Prop :=
  zs = [] ∨ ∃ b m f, A = some ⟨b, 0, none⟩ ∧ lo ≤ b ∧ b < hi ∧ zs.length ≤ m ∧ w.rowIs b 3 m f ∧ ∀ i, i < zs.length → f i = .int .i64 (zs.getD i 0)

theorem OwnS.reads {w : World} {lo hi : Nat} {A : Option Addr} {ss : List ByteArray} (h : OwnS w lo hi A ss) : StrL w A ss := fun i hi' => by
  rcases h with rfl | ⟨b, m, f, e, _, _, hm, hr, hf⟩
  · simp at hi'
  · exact ⟨b, 0, e, by rw [← hf i hi', Nat.zero_add]; exact hr.cell (by omega)⟩
theorem OwnW.reads {w : World} {lo hi : Nat} {A : Option Addr} {ws : List (Int × ByteArray)} (h : OwnW w lo hi A ws) : WrL w A ws := fun i hi' => by
  rcases h with rfl | ⟨b, m, f, e, _, _, hm, hr, hf⟩
  · simp at hi'
  · exact ⟨b, 0, e, by rw [← (hf i hi').1, Nat.zero_add]; exact hr.cell (by omega), by rw [← (hf i hi').2, Nat.zero_add]; exact hr.cell (by omega)⟩
theorem OwnI.reads {w : World} {lo hi : Nat} {A : Option Addr} {zs : List Int} (h : OwnI w lo hi A zs) : IntL w A zs := fun i hi' => by
  rcases h with rfl | ⟨b, m, f, e, _, _, hm, hr, hf⟩
  · simp at hi'
  · exact ⟨b, 0, e, by rw [← hf i hi', Nat.zero_add]; exact hr.cell (by omega)⟩
theorem OwnS.btw {w w' : World} {lo hi l h' : Nat} {A : Option Addr} {ss : List ByteArray} (h : OwnS w lo hi A ss) (hb : Btw l h' w w') (ho : hi ≤ l ∨ h' ≤ lo) : OwnS w' lo hi A ss := by
  rcases h with e | ⟨b, m, f, e, h1, h2, hm, hr, hf⟩
  · exact .inl e
  · exact .inr ⟨b, m, f, e, h1, h2, hm, hb.row hr (by omega), hf⟩
theorem OwnW.btw {w w' : World} {lo hi l h' : Nat} {A : Option Addr} {ws : List (Int × ByteArray)} (h : OwnW w lo hi A ws) (hb : Btw l h' w w') (ho : hi ≤ l ∨ h' ≤ lo) : OwnW w' lo hi A ws := by
  rcases h with e | ⟨b, m, f, e, h1, h2, hm, hr, hf⟩
  · exact .inl e
  · exact .inr ⟨b, m, f, e, h1, h2, hm, hb.row hr (by omega), hf⟩
theorem OwnI.btw {w w' : World} {lo hi l h' : Nat} {A : Option Addr} {zs : List Int} (h : OwnI w lo hi A zs) (hb : Btw l h' w w') (ho : hi ≤ l ∨ h' ≤ lo) : OwnI w' lo hi A zs := by
  rcases h with e | ⟨b, m, f, e, h1, h2, hm, hr, hf⟩
  · exact .inl e
  · exact .inr ⟨b, m, f, e, h1, h2, hm, hb.row hr (by omega), hf⟩
theorem OwnS.below {w w' : World} {lo hi : Nat} {A : Option Addr} {ss : List ByteArray} (h : OwnS w lo hi A ss) (hb : Below w.heap.size w w') : OwnS w' lo hi A ss := h.btw (Btw.of_below hb hi hi) (.inl (Nat.le_refl _))
theorem OwnW.below {w w' : World} {lo hi : Nat} {A : Option Addr} {ws : List (Int × ByteArray)} (h : OwnW w lo hi A ws) (hb : Below w.heap.size w w') : OwnW w' lo hi A ws := h.btw (Btw.of_below hb hi hi) (.inl (Nat.le_refl _))
theorem OwnI.below {w w' : World} {lo hi : Nat} {A : Option Addr} {zs : List Int} (h : OwnI w lo hi A zs) (hb : Below w.heap.size w w') : OwnI w' lo hi A zs := h.btw (Btw.of_below hb hi hi) (.inl (Nat.le_refl _))
/-- Anchored at an older world: whatever turns from that world's size on. -/
theorem StrL.since {B : Nat} {w w' : World} {A : Option Addr} {ss : List ByteArray} (h : StrL w A ss) (hb : Below B w w') (hB : w.heap.size ≤ B) : StrL w' A ss := h.below (hb.mono hB)
theorem StrL.btw {lo hi : Nat} {w w' : World} {A : Option Addr} {ss : List ByteArray} (h : StrL w A ss) (hb : Btw lo hi w w') (hB : w.heap.size ≤ lo) : StrL w' A ss := fun i hi' => by
  obtain ⟨b, off, e, hc⟩ := h i hi'
  exact ⟨b, off, e, hb.cell hc (.inl (Nat.lt_of_lt_of_le (cell_lt hc) hB))⟩

/-- Block b is just these cells, none frozen. -/
def Box (w : World) (b : Nat) (t : TypeId) (cs : Array Value) : Prop := w.heap[b]? = some (.cells cs t (0, 0))
theorem Box.cell {w : World} {b : Nat} {t : TypeId} {cs : Array Value} (h : Box w b t cs) (i : Nat) {v : Value} (hv : cs[i]? = some v) : w.cell? ⟨b, i, none⟩ = some v := by
  unfold Box at h; simp [World.cell?, h, hv]
theorem Box.frozen {w : World} {b : Nat} {t : TypeId} {cs : Array Value} (h : Box w b t cs) (i : Nat) : w.frozen? ⟨b, i, none⟩ = false := by
  unfold Box at h; simp [World.frozen?, h]
theorem Box.lt {w : World} {b : Nat} {t : TypeId} {cs : Array Value} (h : Box w b t cs) : b < w.heap.size := by
  obtain ⟨hlt, _⟩ := Array.getElem?_eq_some_iff.1 h
  exact hlt
theorem Box.below {w w' : World} {B b : Nat} {t : TypeId} {cs : Array Value} (h : Box w b t cs) (hb : Below B w w') (hB : b < B) : Box w' b t cs := (hb.block b hB).trans h
theorem Box.step {w w' : World} {b : Nat} {t : TypeId} {cs : Array Value} (h : Box w b t cs) (hb : Below w.heap.size w w') : Box w' b t cs := h.below hb h.lt
theorem Box.btw {w w' : World} {lo hi b : Nat} {t : TypeId} {cs : Array Value} (h : Box w b t cs) (hb : Btw lo hi w w') (ho : b < lo ∨ hi ≤ b) : Box w' b t cs := (hb.block b h.lt ho).trans h
theorem Box.new (w : World) (t : TypeId) (cs : Array Value) : Box (w.alloc (.cells cs t)) w.heap.size t cs := by
  show (w.heap.push _)[w.heap.size]? = _; simp
theorem Box.alloc {w : World} {b : Nat} {t : TypeId} {cs : Array Value} (h : Box w b t cs) (o : Obj) : Box (w.alloc o) b t cs := h.step ((Below.refl _ _).alloc (Nat.le_refl _) o)
theorem Box.set {w : World} {b : Nat} {t : TypeId} {cs : Array Value} (h : Box w b t cs) (i : Nat) (u : Value) : Box (w.setCell ⟨b, i, none⟩ u) b t (cs.setIfInBounds i u) := by
  unfold Box at h ⊢
  simp [World.setCell, Array.getElem?_modify, h]
theorem Box.far {w : World} {b : Nat} {t : TypeId} {cs : Array Value} (h : Box w b t cs) {p : Addr} (hp : b ≠ p.block) (u : Value) : Box (w.setCell p u) b t cs := (Below.heap_setCell w p u b hp).trans h
theorem Box.drewN {w : World} {b : Nat} {t : TypeId} {cs : Array Value} (h : Box w b t cs) (n : Nat) : Box (w.drewN n) b t cs := h
theorem Box.drew {w : World} {b : Nat} {t : TypeId} {cs : Array Value} (h : Box w b t cs) : Box w.drew b t cs := h
theorem Box.row {w : World} {b : Nat} {t : TypeId} {cs : Array Value} (h : Box w b t cs) (f : Nat → Value) (hf : ∀ i, i < cs.size → cs[i]? = some (f i)) : w.rowIs b t cs.size f := ⟨cs, h, rfl, hf⟩
theorem Box.ne {w : World} {b b' : Nat} {t t' : TypeId} {cs : Array Value} {n : Nat} {f : Nat → Value} (h : Box w b t cs) (h' : w.rowIs b' t' n f) (ht : t ≠ t') : b ≠ b' := by
  rintro rfl
  obtain ⟨c', hc', _⟩ := h'
  unfold Box at h
  rw [h] at hc'
  injection hc' with e
  injection e with _ e2
  exact ht e2
end Go.Proofs.Ytlfmniekbiffjaa

/- Appending one element to a slice of the call's own; what such a slice is good for. -/
namespace Go.Proofs.Ytlfmniekbiffjaa
open Go.RowKit

/-- An element type: its zero value, its cells, its bytes. -/
structure Elem (P : Program) (e : TypeId) (z : Value) (size bytes : Nat) : Prop where
  info : ∃ i : TypeInfo, P.info? e = some i ∧ i.zero = some z ∧ i.size = size ∧ i.bytes = bytes
  cells : z.cells.size = size
  pos : 0 < size

/-- The row v, of n elements with the cells xs, of the call's own: its block lies from base on. -/
abbrev RowV (w : World) (base : Nat) (e : TypeId) (size : Nat) (v : Value) (n : Nat) (xs : List Value) : Prop := w.ownsRow base e size v n xs

theorem rowv_ge {w : World} {base n : Nat} {e : TypeId} {size : Nat} {v : Value} {xs : List Value} (h : w.ownsRow base e size v n xs) : ∀ k, v.ownBlock = some k → base ≤ k := by
  intro k hk
  rcases h.2 with ⟨rfl, _⟩ | ⟨g, cap, cur, rfl, q1, q2⟩
  · simp [Value.ownBlock] at hk
  · simp [Value.ownBlock] at hk; omega
theorem rowv_keep {w w' : World} {base n : Nat} {e : TypeId} {size : Nat} {v : Value} {xs : List Value} (h : w.ownsRow base e size v n xs) (hk : ∀ k, base ≤ k → k < w.heap.size → w'.heap[k]? = w.heap[k]?) : w'.ownsRow base e size v n xs := by
  obtain ⟨h1, h0 | ⟨g, cap, cur, rfl, q1, q2, q3⟩⟩ := h
  · exact ⟨h1, .inl h0⟩
  · refine ⟨h1, .inr ⟨g, cap, cur, rfl, q1, ?_, q3⟩⟩
    have hlt : g < w.heap.size := by
      rcases Nat.lt_or_ge g w.heap.size with hlt | hge
      · exact hlt
      · rw [Array.getElem?_eq_none hge] at q2; cases q2
    rw [hk g q1 hlt]; exact q2
theorem rowv_below {w w' : World} {base n : Nat} {e : TypeId} {size : Nat} {v : Value} {xs : List Value} (h : w.ownsRow base e size v n xs) (hb : Below w.heap.size w w') : w'.ownsRow base e size v n xs := rowv_keep h (fun k _ hk => hb.block k hk)
theorem rowv_set {w : World} {base n : Nat} {e : TypeId} {size : Nat} {v : Value} {xs : List Value} (h : w.ownsRow base e size v n xs) {p : Addr} (hp : p.block < base) (u : Value) : (w.setCell p u).ownsRow base e size v n xs :=
  rowv_keep h (fun k hk _ => Below.heap_setCell w p u k (by omega))
theorem rowv_nil (w : World) (base : Nat) (e : TypeId) (size : Nat) : w.ownsRow base e size (.slice none 0 0) 0 [] := World.ownsRow_nil w base e size
theorem rowv_form {w : World} {base n : Nat} {e : TypeId} {size : Nat} {v : Value} {xs : List Value} (h : w.ownsRow base e size v n xs) : ∃ A cap, v = .slice A n cap ∧ n ≤ cap := by
  rcases h.2 with ⟨rfl, rfl⟩ | ⟨g, cap, cur, rfl, _, _, q, _⟩
  · exact ⟨none, 0, rfl, Nat.le_refl _⟩
  · exact ⟨_, cap, rfl, q⟩
theorem rowv_empty {w : World} {base g : Nat} {t : TypeId} {size : Nat} (hb : base ≤ g) (hg : Box w g t #[]) : w.ownsRow base t size (.slice (some ⟨g, 0, none⟩) 0 0) 0 [] :=
  ⟨by simp, .inr ⟨g, 0, #[], rfl, hb, hg, Nat.le_refl _, Nat.zero_le _, by simp, by simp⟩⟩

theorem wpList_app_one {P : Program} {w : World} {ops : Array Oper} {rest : List Oper} {o : Oper} {a : Act} {Q : Exit → Act → World → Prop} (hgd : o.guard = none) (s x : Operand) (t e : TypeId)
    (ho : o.op = .call { callee := .builtin .append, args := #[s, x], argTypes := #[t, t] }) (z : Value) (size bytes : Nat) (E : Elem P e z size bytes) (ht : P.underlying t = some (.slice e))
    (base : Nat) (v : Value) (n : Nat) (xs : List Value) (hs : a.eval s = v) (hown : w.ownsRow base e size v n xs)
    (b c : Nat) (hx : a.eval x = .slice (some ⟨b, 0, none⟩) 1 c) (news : List Value) (hl : news.length = size) (hnews : ∀ j u, news[j]? = some u → w.cell? ⟨b, j, none⟩ = some u) (h1 : ∀ u ∈ news, u.oneCell' = true)
    (h63 : n + 1 ≤ maxLen) (hby : (n + 1) * bytes ≤ 140737488355328) (hbase : base ≤ w.heap.size)
    (hK : ∀ A cap w', w'.ownsRow base e size (.slice A (n + 1) cap) (n + 1) (xs ++ news) → n + 1 ≤ cap → w.grownBy w' v.ownBlock → Below base w w' → wpList P ops Q rest (a.put o.dst (.slice A (n + 1) cap)) w') : wpList P ops Q (o :: rest) a w := by
  obtain ⟨i, hi, hz, hsz, hb⟩ := E.info
  refine wpList_append_own w hgd s x t ho base e i z size bytes ht hi hz hsz hb E.cells E.pos v n xs hs hown ⟨b, 0, none⟩ 1 c news hx (by rw [hl]; omega) (fun j u hj => ?_) h1 h63 hby hbase (fun v' w' h2 h3 _ => ?_)
  · have := hnews j u hj
    unfold Addr.add
    by_cases h0 : j = 0
    · subst h0; simpa using this
    · rw [if_neg h0]; simpa using this
  · obtain ⟨A, cap, rfl, hcap⟩ := rowv_form h2
    exact hK A cap w' h2 hcap h3 ((Below.refl base w).grown h3 hbase (rowv_ge hown))

theorem wpList_app_many {P : Program} {w : World} {ops : Array Oper} {rest : List Oper} {o : Oper} {a : Act} {Q : Exit → Act → World → Prop} (hgd : o.guard = none) (s x : Operand) (t e : TypeId)
    (ho : o.op = .call { callee := .builtin .append, args := #[s, x], argTypes := #[t, t] }) (z : Value) (size bytes : Nat) (E : Elem P e z size bytes) (ht : P.underlying t = some (.slice e))
    (base : Nat) (v : Value) (n : Nat) (xs : List Value) (hs : a.eval s = v) (hown : w.ownsRow base e size v n xs)
    (ad : Addr) (m c : Nat) (hx : a.eval x = .slice (some ad) m c) (news : List Value) (hl : news.length = m * size) (hnews : ∀ j u, news[j]? = some u → w.cell? (ad.add j) = some u) (h1 : ∀ u ∈ news, u.oneCell' = true)
    (h63 : n + m ≤ maxLen) (hby : (n + m) * bytes ≤ 140737488355328) (hbase : base ≤ w.heap.size)
    (hK : ∀ A cap w', w'.ownsRow base e size (.slice A (n + m) cap) (n + m) (xs ++ news) → n + m ≤ cap → w.grownBy w' v.ownBlock → Below base w w' → wpList P ops Q rest (a.put o.dst (.slice A (n + m) cap)) w') : wpList P ops Q (o :: rest) a w := by
  obtain ⟨i, hi, hz, hsz, hb⟩ := E.info
  refine wpList_append_own w hgd s x t ho base e i z size bytes ht hi hz hsz hb E.cells E.pos v n xs hs hown ad m c news hx hl hnews h1 h63 hby hbase (fun v' w' h2 h3 _ => ?_)
  obtain ⟨A, cap, rfl, hcap⟩ := rowv_form h2
  exact hK A cap w' h2 hcap h3 ((Below.refl base w).grown h3 hbase (rowv_ge hown))

theorem step_app_one {P : Program} {w : World} {ops : Array Oper} {o : Oper} {a : Act} {K : Act → World → Prop} {Q : Exit → Act → World → Prop} {X : Prop} (hgd : o.guard = none) (s x : Operand) (t e : TypeId)
    (ho : o.op = .call { callee := .builtin .append, args := #[s, x], argTypes := #[t, t] }) (z : Value) (size bytes : Nat) (E : Elem P e z size bytes) (ht : P.underlying t = some (.slice e))
    (base : Nat) (v : Value) (n : Nat) (xs : List Value) (hs : a.eval s = v) (hown : w.ownsRow base e size v n xs)
    (b c : Nat) (hx : a.eval x = .slice (some ⟨b, 0, none⟩) 1 c) (news : List Value) (hl : news.length = size) (hnews : ∀ j u, news[j]? = some u → w.cell? ⟨b, j, none⟩ = some u) (h1 : ∀ u ∈ news, u.oneCell' = true)
    (h63 : n + 1 ≤ maxLen) (hby : (n + 1) * bytes ≤ 140737488355328) (hbase : base ≤ w.heap.size)
    (hK : ∀ A cap w', w'.ownsRow base e size (.slice A (n + 1) cap) (n + 1) (xs ++ news) → n + 1 ≤ cap → w.grownBy w' v.ownBlock → Below base w w' → K (a.put o.dst (.slice A (n + 1) cap)) w') :
    if Region.wanted o (yielded ops a.tmps) = true then Oper.wp P o a w K Q else X := by
  have hw : Region.wanted o (yielded ops a.tmps) = true := by simp [Region.wanted, hgd]
  rw [if_pos hw]
  obtain ⟨i, hi, hz, hsz, hb⟩ := E.info
  refine wp_append_own w s x t ho base e i z size bytes ht hi hz hsz hb E.cells E.pos v n xs hs hown ⟨b, 0, none⟩ 1 c news hx (by rw [hl]; omega) (fun j u hj => ?_) h1 h63 hby hbase (fun v' w' h2 h3 _ => ?_)
  · have := hnews j u hj
    unfold Addr.add
    by_cases h0 : j = 0
    · subst h0; simpa using this
    · rw [if_neg h0]; simpa using this
  · obtain ⟨A, cap, rfl, hcap⟩ := rowv_form h2
    exact hK A cap w' h2 hcap h3 ((Below.refl base w).grown h3 hbase (rowv_ge hown))

/-- A box of another type than the row that grows is as it was. -/
theorem Box.grown {w w' : World} {b base n : Nat} {t e : TypeId} {cs : Array Value} {size : Nat} {v : Value} {xs : List Value} (h : Box w b t cs) (hr : w.ownsRow base e size v n xs) (ht : t ≠ e) (hg : w.grownBy w' v.ownBlock) : Box w' b t cs := by
  have hlt := h.lt
  refine (hg.block b hlt ?_).trans h
  rcases hr.2 with ⟨rfl, _⟩ | ⟨g, cap, cur, rfl, _, q2, _⟩
  · simp [Value.ownBlock]
  · simp only [Value.ownBlock, ne_eq, Option.some.injEq]
    rintro rfl
    unfold Box at h
    rw [h] at q2
    injection q2 with q2
    injection q2 with _ q3
    exact ht q3
theorem rowv_setBox {w : World} {base n b : Nat} {t e : TypeId} {cs : Array Value} {size : Nat} {v : Value} {xs : List Value} (h : w.ownsRow base e size v n xs) (X : Box w b t cs) (ht : t ≠ e) (i : Nat) (u : Value) : (w.setCell ⟨b, i, none⟩ u).ownsRow base e size v n xs := by
  obtain ⟨h1, h0 | ⟨g, cap, cur, rfl, q1, q2, q3⟩⟩ := h
  · exact ⟨h1, .inl h0⟩
  · refine ⟨h1, .inr ⟨g, cap, cur, rfl, q1, ?_, q3⟩⟩
    refine (Below.heap_setCell w ⟨b, i, none⟩ u g ?_).trans q2
    rintro rfl
    unfold Box at X
    rw [X] at q2
    injection q2 with q2
    injection q2 with _ q3
    exact ht q3
set_option maxRecDepth 100000 in
theorem elemInt : Elem Try.prog 3 (.int .i64 0) 1 8 := ⟨⟨_, rfl, rfl, rfl, rfl⟩, rfl, by decide⟩
set_option maxRecDepth 100000 in
theorem elemStr : Elem Try.prog 9 (.string ByteArray.empty) 1 16 := ⟨⟨_, rfl, rfl, rfl, rfl⟩, rfl, by decide⟩
set_option maxRecDepth 100000 in
theorem elemWr : Elem Try.prog 87 (.agg #[.int .i64 0, .string ByteArray.empty]) 2 24 := ⟨⟨_, rfl, rfl, rfl, rfl⟩, rfl, by decide⟩

/-- A []int of the call's own that grows. -/
def GroI (w : World) (base : Nat) (v : Value) (zs : List Int) : Prop := w.ownsRow base 3 1 v zs.length (zs.map (Value.int .i64))
def GroS (w : World) (base : Nat) (v : Value) (ss : List ByteArray) : Prop := w.ownsRow base 9 1 v ss.length (ss.map Value.string)
def GroW (w : World) (base : Nat) (v : Value) (ws : List (Int × ByteArray)) : Prop := w.ownsRow base 87 2 v ws.length (ws.flatMap fun x => [Value.int .i64 x.1, .string x.2])
theorem GroI.own {w : World} {base lo : Nat} {A : Option Addr} {n c : Nat} {zs : List Int} (h : GroI w base (.slice A n c) zs) (hb : lo ≤ base) : OwnI w lo w.heap.size A zs := by
  obtain ⟨h1, ⟨h0, h2⟩ | ⟨g, cap, cur, hv, q1, q2, q3, q4, q5, q6⟩⟩ := h
  · exact .inl (List.eq_nil_of_length_eq_zero h2)
  · injection hv with hv1 hv2 hv3
    refine .inr ⟨g, cap, fun i => cur.getD i (.int .i64 0), hv1, by omega, (Array.getElem?_eq_some_iff.1 q2).1, q3, ⟨cur, q2, by omega, fun i hi => ?_⟩, fun i hi => ?_⟩
    · simp [Array.getElem?_eq_getElem (show i < cur.size by omega)]
    · have : (cur.toList.take (zs.length * 1))[i]? = (zs.map (Value.int .i64))[i]? := by rw [q6]
      rw [List.getElem?_take, if_pos (by omega), Array.getElem?_toList, List.getElem?_map, List.getElem?_eq_getElem hi] at this
      simp [this, List.getD_eq_getElem?_getD, List.getElem?_eq_getElem hi]
theorem GroS.own {w : World} {base lo : Nat} {A : Option Addr} {n c : Nat} {ss : List ByteArray} (h : GroS w base (.slice A n c) ss) (hb : lo ≤ base) : OwnS w lo w.heap.size A ss := by
  obtain ⟨h1, ⟨h0, h2⟩ | ⟨g, cap, cur, hv, q1, q2, q3, q4, q5, q6⟩⟩ := h
  · exact .inl (List.eq_nil_of_length_eq_zero h2)
  · injection hv with hv1 hv2 hv3
    refine .inr ⟨g, cap, fun i => cur.getD i (.int .i64 0), hv1, by omega, (Array.getElem?_eq_some_iff.1 q2).1, q3, ⟨cur, q2, by omega, fun i hi => ?_⟩, fun i hi => ?_⟩
    · simp [Array.getElem?_eq_getElem (show i < cur.size by omega)]
    · have : (cur.toList.take (ss.length * 1))[i]? = (ss.map Value.string)[i]? := by rw [q6]
      rw [List.getElem?_take, if_pos (by omega), Array.getElem?_toList, List.getElem?_map, List.getElem?_eq_getElem hi] at this
      simp [this, List.getD_eq_getElem?_getD, List.getElem?_eq_getElem hi]
theorem GroI.len {w : World} {base : Nat} {A : Option Addr} {n c : Nat} {zs : List Int} (h : GroI w base (.slice A n c) zs) : zs.length = n := by
  obtain ⟨A', cap, hv, _⟩ := rowv_form h
  injection hv with _ hv2 _; exact hv2.symm
theorem GroS.len {w : World} {base : Nat} {A : Option Addr} {n c : Nat} {ss : List ByteArray} (h : GroS w base (.slice A n c) ss) : ss.length = n := by
  obtain ⟨A', cap, hv, _⟩ := rowv_form h
  injection hv with _ hv2 _; exact hv2.symm
end Go.Proofs.Ytlfmniekbiffjaa

/- The plan of a commit in plain words: the model's, page by page, and the program's, by places. -/
namespace Go.Proofs.Ytlfmniekbiffjaa

/-- The next table and the writes, after k pages. -/
def planN (zs free : List Int) (ld ps : List ByteArray) : Nat → List Int × List (Int × ByteArray)
  | 0 => (zs, [])
  | k + 1 =>
    let q := planN zs free ld ps k
    if ld.getD k ByteArray.empty = ps.getD k ByteArray.empty then q
    else (q.1.set k (free.getD q.2.length 0), q.2 ++ [(free.getD q.2.length 0, ps.getD k ByteArray.empty)])
/-- The places of pages that differ, of the first k. -/
def diffN (ps ld : List ByteArray) : Nat → List Int
  | 0 => []
  | k + 1 => if ps.getD k ByteArray.empty = ld.getD k ByteArray.empty then diffN ps ld k else diffN ps ld k ++ [(k : Int)]
def withN (zs places free : List Int) : Nat → List Int
  | 0 => zs
  | i + 1 => (withN zs places free i).set (places.getD i 0).toNat (free.getD i 0)
def writesN (places free : List Int) (ps : List ByteArray) : Nat → List (Int × ByteArray)
  | 0 => []
  | i + 1 => writesN places free ps i ++ [(free.getD i 0, ps.getD (places.getD i 0).toNat ByteArray.empty)]

theorem diffN_len (ps ld : List ByteArray) : ∀ k, (diffN ps ld k).length ≤ k
  | 0 => Nat.le_refl _
  | k + 1 => by
    have := diffN_len ps ld k
    unfold diffN; split
    · omega
    · rw [List.length_append]; simp; omega
theorem diffN_lt (ps ld : List ByteArray) : ∀ k, ∀ z ∈ diffN ps ld k, 0 ≤ z ∧ z < (k : Int)
  | 0, z, h => by cases h
  | k + 1, z, h => by
    have ih := diffN_lt ps ld k
    unfold diffN at h; split at h
    · have := ih z h; omega
    · rcases List.mem_append.1 h with h | h
      · have := ih z h; omega
      · simp at h; omega
theorem diffN_at (ps ld : List ByteArray) (k i : Nat) (h : i < (diffN ps ld k).length) : 0 ≤ (diffN ps ld k).getD i 0 ∧ (diffN ps ld k).getD i 0 < (k : Int) := by
  rw [List.getD_eq_getElem?_getD, List.getElem?_eq_getElem h]
  exact diffN_lt ps ld k _ (List.getElem_mem _)
theorem withN_len (zs places free : List Int) : ∀ i, (withN zs places free i).length = zs.length
  | 0 => rfl
  | i + 1 => by rw [withN, List.length_set, withN_len zs places free i]
theorem writesN_len (places free : List Int) (ps : List ByteArray) : ∀ i, (writesN places free ps i).length = i
  | 0 => rfl
  | i + 1 => by rw [writesN, List.length_append, writesN_len places free ps i]; rfl
theorem getD_left {α : Type} (l m : List α) (d : α) (i : Nat) (h : i < l.length) : (l ++ m).getD i d = l.getD i d := by
  rw [List.getD_eq_getElem?_getD, List.getD_eq_getElem?_getD, List.getElem?_append_left h]
theorem getD_last {α : Type} (l : List α) (x d : α) : (l ++ [x]).getD l.length d = x := by
  rw [List.getD_eq_getElem?_getD, List.getElem?_append_right (Nat.le_refl _), Nat.sub_self]; rfl
theorem withN_pre (zs l m free : List Int) : ∀ i, i ≤ l.length → withN zs (l ++ m) free i = withN zs l free i
  | 0, _ => rfl
  | i + 1, h => by rw [withN, withN, withN_pre zs l m free i (by omega), getD_left _ _ _ _ (by omega)]
theorem writesN_pre (l m free : List Int) (ps : List ByteArray) : ∀ i, i ≤ l.length → writesN (l ++ m) free ps i = writesN l free ps i
  | 0, _ => rfl
  | i + 1, h => by rw [writesN, writesN, writesN_pre l m free ps i (by omega), getD_left _ _ _ _ (by omega)]
theorem plan_eq (zs free : List Int) (ld ps : List ByteArray) : ∀ k, planN zs free ld ps k = (withN zs (diffN ps ld k) free (diffN ps ld k).length, writesN (diffN ps ld k) free ps (diffN ps ld k).length)
  | 0 => rfl
  | k + 1 => by
    have ih := plan_eq zs free ld ps k
    unfold planN diffN
    by_cases h : ld.getD k ByteArray.empty = ps.getD k ByteArray.empty
    · rw [if_pos h, if_pos h.symm, ih]
    · rw [if_neg h, if_neg (fun q => h q.symm), ih]
      simp only [writesN_len, List.length_append, List.length_cons, List.length_nil]
      rw [withN, writesN, withN_pre _ _ _ _ _ (Nat.le_refl _), writesN_pre _ _ _ _ _ (Nat.le_refl _), getD_last]
      simp
theorem planN_len (zs free : List Int) (ld ps : List ByteArray) (k : Nat) : (planN zs free ld ps k).2.length = (diffN ps ld k).length := by rw [plan_eq]; exact writesN_len _ _ _ _
theorem planN_tab (zs free : List Int) (ld ps : List ByteArray) (k : Nat) : (planN zs free ld ps k).1.length = zs.length := by rw [plan_eq]; exact withN_len _ _ _ _

theorem filter_or {α : Type} (p q r : α → Bool) (h : ∀ a, r a = true → p a = true ∨ q a = true) : ∀ l : List α, (l.filter r).length ≤ (l.filter p).length + (l.filter q).length
  | [] => by simp
  | a :: l => by
    have ih := filter_or p q r h l
    have ha := h a
    simp only [List.filter_cons]
    cases hr : r a <;> cases hp : p a <;> cases hq : q a <;> simp_all <;> omega
/-- How many numbers of a range a short list can hold. -/
theorem held_le (zs : List Int) : ∀ j : Nat, ((List.range j).filter fun i => decide (((i + 2 : Nat) : Int) ∈ zs)).length ≤ zs.length := by
  induction zs with
  | nil => intro j; simp
  | cons z zs ih =>
    intro j
    have h1 : ((List.range j).filter fun i => decide (((i + 2 : Nat) : Int) ∈ z :: zs)).length ≤ ((List.range j).filter fun i => decide (((i + 2 : Nat) : Int) ∈ zs)).length + ((List.range j).filter fun i => decide (((i + 2 : Nat) : Int) = z)).length := filter_or _ _ _ (fun a h => by
      have h := of_decide_eq_true h
      rcases List.mem_cons.1 h with h | h
      · exact .inr (decide_eq_true h)
      · exact .inl (decide_eq_true h)) _
    have h2 : ((List.range j).filter fun i => decide (((i + 2 : Nat) : Int) = z)).length ≤ 1 := by
      clear h1 ih
      induction j with
      | zero => simp
      | succ j ihj =>
        rw [List.range_succ, List.filter_append, List.length_append]
        by_cases p : ((j + 2 : Nat) : Int) = z
        · have : ((List.range j).filter fun i => decide (((i + 2 : Nat) : Int) = z)) = [] := by
            rw [List.filter_eq_nil_iff]
            intro a ha q
            have := List.mem_range.1 ha
            simp at q
            omega
          rw [this, List.length_nil, Nat.zero_add]
          exact List.length_filter_le _ [j]
        · rw [show ([j].filter fun i => decide (((i + 2 : Nat) : Int) = z)) = [] from by rw [List.filter_eq_nil_iff]; intro a ha q; simp only [List.mem_singleton] at ha; subst ha; exact p (of_decide_eq_true q)]
          simpa using ihj
    have := ih j
    simp only [List.length_cons]
    omega
end Go.Proofs.Ytlfmniekbiffjaa

/- Contracts of the comparisons: eqStringS, eqWrite, eqWriteS, eqDisk. -/
namespace Go.Proofs.Ytlfmniekbiffjaa
open Go.RowKit

set_option maxRecDepth 100000 in
set_option maxHeartbeats 1000000 in
theorem eqStringS (A A' : Option Addr) (n n' c c' : Nat) (ss ss' : List ByteArray) (w : World) (hl : ss.length = n) (hl' : ss'.length = n') (hn : n ≤ maxLen) (hn' : n' ≤ maxLen)
    (h : StrL w A ss) (h' : StrL w A' ss') :
    Calls Try.prog 16 #[.slice A n c, .slice A' n' c'] w fun e w' => e = .returned (.bool (decide (ss = ss'))) ∧ Below w.heap.size w w' := by
  unfold maxLen at hn hn'
  have HL := Lib.hid hl
  have HL' := Lib.hid hl'
  have H := Lib.hid h
  have H' := Lib.hid h'
  clear hl hl' h h'
  by_cases hne : n = n'
  · subst hne
    have hb : ((n : Int) != (n : Int)) = false := by simp
    go_enter Try.func16, Try.ntmps16
    go_wp2
    go_loopw [5] (fun i wr => ∃ k : Nat, k ≤ n ∧ i = .int .i64 k ∧ Hid (ss.take k = ss'.take k) ∧ Below w.heap.size w wr) (fun i _ => n - (intOf i).toNat)
    case atStart => exact ⟨0, Nat.zero_le _, rfl, Lib.hid rfl, Below.refl _ _⟩
    case round =>
      obtain ⟨k, hk, rfl, HT, hbw⟩ := hrel
      by_cases hlt : k < n
      · obtain ⟨b, off, rfl, hc⟩ := (H.out.below hbw) k (by rw [HL.out]; exact hlt)
        obtain ⟨b', off', rfl, hc'⟩ := (H'.out.below hbw) k (by rw [HL'.out]; exact hlt)
        have HN := Lib.hid (fun e => take_next ByteArray.empty HT.out (by rw [HL.out]; exact hlt) (by rw [HL'.out]; exact hlt) e)
        have HX := Lib.hid (fun e => ne_of_at (l := ss) (m := ss') (k := k) ByteArray.empty e)
        generalize ss.getD k ByteArray.empty = x at hc HN HX
        generalize ss'.getD k ByteArray.empty = y at hc' HN HX
        have hi : (k : Int) < (n : Int) := by omega
        have hq := bytes_beq x y
        by_cases hE : x = y
        · have hq1 : (x.toList == y.toList) = true := by rw [hq]; simp [hE]
          have HE := Lib.hid hE
          clear hq hE
          go_wp2
          go_quiet (fail)
          go_wp2
          go_roundw
          case rel => exact ⟨k + 1, by omega, by go_num, Lib.hid (HN.out HE.out), below_drewN hbw _⟩
          case measure => simp [intOf]; omega
        · have hq1 : (x.toList == y.toList) = false := by rw [hq]; simp [hE]
          have HE := Lib.hid hE
          clear hq hE
          go_wp2
          go_quiet (fail)
          go_wp2
          go_ret
          exact ⟨ret_bool (by simp [HX.out HE.out]), below_drewN hbw _⟩
      · go_wp2
        go_ret
        exact ⟨ret_bool (by simp [take_all HT.out (by rw [HL.out]; omega) (by rw [HL'.out]; omega)]), hbw⟩
  · have hb : ((n : Int) != (n' : Int)) = true := by simp; omega
    have HF : Hid (decide (ss = ss') = false) := Lib.hid (by simp; intro e; apply hne; rw [← HL.out, ← HL'.out, e])
    clear hne
    go_enter Try.func16, Try.ntmps16
    go_wp2
    go_ret
    exact ⟨ret_bool HF.out.symm, Below.refl _ _⟩

set_option maxRecDepth 100000 in
theorem eqWrite (a a' : Int) (s s' : ByteArray) (w : World) :
    Calls Try.prog 88 #[.agg #[.int .i64 a, .string s], .agg #[.int .i64 a', .string s']] w fun e w' => e = .returned (.bool (decide ((a, s) = (a', s')))) ∧ Below w.heap.size w w' := by
  have hq := bytes_beq s s'
  by_cases h1 : a = a'
  · subst h1
    have hb : (a == a) = true := by simp
    by_cases h2 : s = s'
    · have hq1 : (s.toList == s'.toList) = true := by rw [hq]; simp [h2]
      have HF : Hid (decide ((a, s) = (a, s')) = true) := Lib.hid (by simp [h2])
      clear hq h2
      go_enter Try.func88, Try.ntmps88
      go_wp2
      go_ret
      exact ⟨ret_bool HF.out.symm, ((Below.refl _ _).alloc (Nat.le_refl _) _).alloc (by simp) _⟩
    · have hq1 : (s.toList == s'.toList) = false := by rw [hq]; simp [h2]
      have HF : Hid (decide ((a, s) = (a, s')) = false) := Lib.hid (by simp [h2])
      clear hq h2
      go_enter Try.func88, Try.ntmps88
      go_wp2
      go_ret
      exact ⟨ret_bool HF.out.symm, ((Below.refl _ _).alloc (Nat.le_refl _) _).alloc (by simp) _⟩
  · have hb : (a == a') = false := by simp [h1]
    have hb2 : (a != a') = true := by simp [h1]
    have HF : Hid (decide ((a, s) = (a', s')) = false) := Lib.hid (by simp [h1])
    clear hq h1
    go_enter Try.func88, Try.ntmps88
    go_wp2
    go_ret
    exact ⟨ret_bool HF.out.symm, ((Below.refl _ _).alloc (Nat.le_refl _) _).alloc (by simp) _⟩

set_option maxRecDepth 100000 in
set_option maxHeartbeats 1000000 in
theorem eqWriteS (A A' : Option Addr) (n n' c c' : Nat) (ws ws' : List (Int × ByteArray)) (w : World) (hl : ws.length = n) (hl' : ws'.length = n') (hn : n ≤ maxLen) (hn' : n' ≤ maxLen)
    (h : WrL w A ws) (h' : WrL w A' ws') :
    Calls Try.prog 49 #[.slice A n c, .slice A' n' c'] w fun e w' => e = .returned (.bool (decide (ws = ws'))) ∧ Below w.heap.size w w' := by
  unfold maxLen at hn hn'
  have HL := Lib.hid hl
  have HL' := Lib.hid hl'
  have H := Lib.hid h
  have H' := Lib.hid h'
  clear hl hl' h h'
  by_cases hne : n = n'
  · subst hne
    have hb : ((n : Int) != (n : Int)) = false := by simp
    go_enter Try.func49, Try.ntmps49
    go_wp2
    go_loopw [5] (fun i wr => ∃ k : Nat, k ≤ n ∧ i = .int .i64 k ∧ Hid (ws.take k = ws'.take k) ∧ Below w.heap.size w wr) (fun i _ => n - (intOf i).toNat)
    case atStart => exact ⟨0, Nat.zero_le _, rfl, Lib.hid rfl, Below.refl _ _⟩
    case round =>
      obtain ⟨k, hk, rfl, HT, hbw⟩ := hrel
      by_cases hlt : k < n
      · obtain ⟨b, off, rfl, hc, hd⟩ := (H.out.below hbw) k (by rw [HL.out]; exact hlt)
        obtain ⟨b', off', rfl, hc', hd'⟩ := (H'.out.below hbw) k (by rw [HL'.out]; exact hlt)
        have HN := Lib.hid (fun e => take_next (0, ByteArray.empty) HT.out (by rw [HL.out]; exact hlt) (by rw [HL'.out]; exact hlt) e)
        have HX := Lib.hid (fun e => ne_of_at (l := ws) (m := ws') (k := k) (0, ByteArray.empty) e)
        generalize ws.getD k (0, ByteArray.empty) = x at hc hd HN HX
        generalize ws'.getD k (0, ByteArray.empty) = y at hc' hd' HN HX
        obtain ⟨x1, x2⟩ := x
        obtain ⟨y1, y2⟩ := y
        have hi : (k : Int) < (n : Int) := by omega
        have hcall := fun W => eqWrite x1 y1 x2 y2 W
        have HC := Lib.hid hcall
        clear hcall
        go_wp2
        go_still_tail 8, (by kernel_rfl)
        change wpList _ _ _ _ _ wr.drew
        clear hc hd hc' hd'
        have hbd := hbw.drew
        generalize wr.drew = wd at hbd ⊢
        go_wp2_with fail
        refine (HC.out _).mono ?_
        rintro e w1 ⟨rfl, hb1⟩
        by_cases hE : (x1, x2) = (y1, y2)
        · have hq1 : decide ((x1, x2) = (y1, y2)) = true := by simp only [hE, decide_true]
          have HE := Lib.hid hE
          clear hE
          rw [hq1]
          clear hq1
          go_wp2
          go_roundw
          case rel => exact ⟨k + 1, by omega, by go_num, Lib.hid (HN.out HE.out), hbd.trans (hb1.mono hbd.size)⟩
          case measure => simp [intOf]; omega
        · have hq1 : decide ((x1, x2) = (y1, y2)) = false := by simp only [hE, decide_false]
          have HE := Lib.hid hE
          clear hE
          rw [hq1]
          clear hq1
          go_wp2
          go_ret
          exact ⟨ret_bool (by simp [HX.out HE.out]), hbd.trans (hb1.mono hbd.size)⟩
      · go_wp2
        go_ret
        exact ⟨ret_bool (by simp [take_all HT.out (by rw [HL.out]; omega) (by rw [HL'.out]; omega)]), hbw⟩
  · have hb : ((n : Int) != (n' : Int)) = true := by simp; omega
    have HF : Hid (decide (ws = ws') = false) := Lib.hid (by simp; intro e; apply hne; rw [← HL.out, ← HL'.out, e])
    clear hne
    go_enter Try.func49, Try.ntmps49
    go_wp2
    go_ret
    exact ⟨ret_bool HF.out.symm, Below.refl _ _⟩

theorem bdecide {p : Prop} [Decidable p] : (decide p = true) = p := by simp

set_option maxRecDepth 100000 in
theorem eqDisk (A A' C C' : Option Addr) (n n' m m' c c' d d' : Nat) (ss ss' : List ByteArray) (ws ws' : List (Int × ByteArray)) (w : World)
    (hl : ss.length = n) (hl' : ss'.length = n') (hm : ws.length = m) (hm' : ws'.length = m') (hn : n ≤ maxLen) (hn' : n' ≤ maxLen) (gn : m ≤ maxLen) (gn' : m' ≤ maxLen)
    (h : StrL w A ss) (h' : StrL w A' ss') (g : WrL w C ws) (g' : WrL w C' ws') :
    Calls Try.prog 15 #[.agg #[.slice A n c, .slice C m d], .agg #[.slice A' n' c', .slice C' m' d']] w fun e w' => e = .returned (.bool (decide (ss = ss' ∧ ws = ws'))) ∧ Below w.heap.size w w' := by
  have H1 := Lib.hid (fun W hb => eqStringS A A' n n' c c' ss ss' W hl hl' hn hn' (h.below hb) (h'.below hb))
  have H2 := Lib.hid (fun W hb => eqWriteS C C' m m' d d' ws ws' W hm hm' gn gn' (g.below hb) (g'.below hb))
  clear hl hl' hm hm' hn hn' gn gn' h h' g g'
  go_enter Try.func15, Try.ntmps15
  go_wp2_with fail
  refine (H1.out _ (((Below.refl _ _).alloc (Nat.le_refl _) _).alloc (by simp) _)).mono ?_
  rintro e w1 ⟨rfl, hb1⟩
  have hb : Below w.heap.size w w1 := (((Below.refl _ _).alloc (Nat.le_refl _) _).alloc (by simp) _).trans (hb1.mono (by simp; omega))
  by_cases hE : ss = ss'
  · have hq1 : decide (ss = ss') = true := by simp only [hE, decide_true]
    have HE := Lib.hid hE
    clear hE
    rw [hq1]
    clear hq1
    have hc := hb1.cell (p := ⟨w.heap.size, 1, none⟩) (by simp; omega)
    have hd := hb1.cell (p := ⟨w.heap.size + 1, 1, none⟩) (by simp)
    simp at hc hd
    go_wp2_with fail
    refine (H2.out _ hb).mono ?_
    rintro e w2 ⟨rfl, hb2⟩
    by_cases hE2 : ws = ws'
    · have hq1 : decide (ws = ws') = true := by simp only [hE2, decide_true]
      have HE2 := Lib.hid hE2
      clear hE2
      rw [hq1]
      clear hq1
      go_wp2
      go_ret
      exact ⟨ret_bool (by simp [HE.out, HE2.out]), bt hb hb2⟩
    · have hq1 : decide (ws = ws') = false := by simp only [hE2, decide_false]
      have HE2 := Lib.hid hE2
      clear hE2
      rw [hq1]
      clear hq1
      go_wp2
      go_ret
      exact ⟨ret_bool (by simp [HE2.out]), bt hb hb2⟩
  · have hq1 : decide (ss = ss') = false := by simp only [hE, decide_false]
    have HE := Lib.hid hE
    clear hE
    rw [hq1]
    clear hq1
    go_wp2
    go_ret
    exact ⟨ret_bool (by simp [HE.out]), hb⟩

set_option maxRecDepth 100000 in
theorem eqDiskSame (A A' C C' : Option Addr) (n n' m m' c c' d d' : Nat) (ss : List ByteArray) (ws : List (Int × ByteArray)) (w : World)
    (hl : ss.length = n) (hl' : ss.length = n') (hm : ws.length = m) (hm' : ws.length = m') (hn : n ≤ maxLen) (gn : m ≤ maxLen)
    (h : StrL w A ss) (h' : StrL w A' ss) (g : WrL w C ws) (g' : WrL w C' ws) :
    Calls Try.prog 15 #[.agg #[.slice A n c, .slice C m d], .agg #[.slice A' n' c', .slice C' m' d']] w fun e w' => e = .returned (.bool true) ∧ Below w.heap.size w w' :=
  (eqDisk A A' C C' n n' m m' c c' d d' ss ss ws ws w hl hl' hm hm' hn (by omega) gn (by omega) h h' g g').mono fun e w' ⟨he, hb⟩ => ⟨by rw [he]; simp, hb⟩
end Go.Proofs.Ytlfmniekbiffjaa

/- Contracts of the copies: toStringS, toWrite, toWriteS, toDisk. -/
namespace Go.Proofs.Ytlfmniekbiffjaa
open Go.RowKit

set_option maxRecDepth 100000 in
theorem infoS : (Try.prog.info? 9).map (fun i => (i.zero, i.size, i.bytes)) = some (some (.string ByteArray.empty), 1, 16) := by kernel_rfl

set_option maxRecDepth 100000 in
set_option maxHeartbeats 1000000 in
theorem toStringS (A : Option Addr) (n c : Nat) (ss : List ByteArray) (w : World) (hl : ss.length = n) (hn : n ≤ 1048576) (h : StrL w A ss) :
    Calls Try.prog 13 #[.slice A n c] w fun e w' => e = .returned (.slice (some ⟨w.heap.size, 0, none⟩) n n) ∧ Below w.heap.size w w' ∧ w'.rowIs w.heap.size 9 n (fun i => .string (ss.getD i ByteArray.empty)) := by
  have HL := Lib.hid hl
  have H := Lib.hid h
  clear hl h
  have hmk := fun W => run_make_row' (P := Try.prog) 22 9 (.string ByteArray.empty) 16 Try.underlying22 infoS rfl .i64 .i64 n (by omega) (by omega) W
  go_enter Try.func13, Try.ntmps13
  go_wp2
  clear hmk
  have hrow := World.rowIs_made w (.string ByteArray.empty) n 9
  have hbel : Below w.heap.size w (w.alloc (.cells (madeCells #[.string ByteArray.empty] n) 9)) := (Below.refl _ _).alloc (Nat.le_refl _) _
  have HR := Lib.hid hrow
  clear hrow
  generalize w.alloc (.cells (madeCells #[.string ByteArray.empty] n) 9) = wa at hbel HR ⊢
  go_loopw [4] (fun i wr => ∃ k : Nat, k ≤ n ∧ i = .int .i64 k ∧ Below w.heap.size w wr ∧ wr.rowIs w.heap.size 9 n (fun j => if j < k then .string (ss.getD j ByteArray.empty) else .string ByteArray.empty)) (fun i _ => n - (intOf i).toNat)
  case atStart => exact ⟨0, Nat.zero_le _, rfl, hbel, HR.out.congr (fun i _ => by simp)⟩
  case round =>
    obtain ⟨k, hk, rfl, hbw, hrw⟩ := hrel
    by_cases hlt : k < n
    · obtain ⟨b, off, rfl, hc⟩ := (H.out.below hbw) k (by rw [HL.out]; exact hlt)
      have hcd := hrw.cell hlt
      have hfr := hrw.frozen k
      have HW := Lib.hid (hrw.set k (.string (ss.getD k ByteArray.empty)))
      simp only [Nat.lt_irrefl, if_false] at hcd
      clear hrw
      have HE : Hid (ss.getD k ByteArray.empty = ss.getD k ByteArray.empty) := Lib.hid rfl
      generalize hx : ss.getD k ByteArray.empty = x at hc HW
      have HX := Lib.hid hx
      clear hx HE
      have hi : (k : Int) < (n : Int) := by omega
      go_wp2
      go_roundw
      case rel =>
        refine ⟨k + 1, by omega, by go_num, hbw.setCell (Nat.le_refl _) _, HW.out.congr (fun i _ => ?_)⟩
        show (if i = k then Value.string x else if i < k then _ else _) = _
        by_cases e : i = k
        · subst e; rw [if_pos rfl, if_pos (by omega), HX.out]
        · rw [if_neg e]
          by_cases e2 : i < k
          · rw [if_pos e2, if_pos (by omega)]
          · rw [if_neg e2, if_neg (by omega)]
      case measure => simp [intOf]; omega
    · have HRW := Lib.hid hrw
      clear hrw
      go_wp2
      go_ret
      exact ⟨rfl, hbw, HRW.out.congr (fun i hi => by rw [if_pos (by omega)])⟩

set_option maxRecDepth 100000 in
theorem toWrite (a : Int) (s : ByteArray) (w : World) :
    Calls Try.prog 81 #[.agg #[.int .i64 a, .string s]] w fun e w' => e = .returned (.agg #[.int .i64 a, .string s]) ∧ Below w.heap.size w w' := by
  go_enter Try.func81, Try.ntmps81
  go_wp2
  exact bodyPost_ret (v := .agg #[.int .i64 a, .string s]) (by simp [results, Try.results81, go_sem]) rfl ⟨rfl, (((Below.refl _ _).alloc (Nat.le_refl _) _).alloc (by simp) _).alloc (by simp; omega) _⟩

set_option maxRecDepth 100000 in
theorem infoW : (Try.prog.info? 87).map (fun i => (i.zero, i.size, i.bytes)) = some (some (.agg #[.int .i64 0, .string ByteArray.empty]), 2, 24) := by kernel_rfl
set_option maxRecDepth 100000 in
theorem make_writes (n : Nat) (hn : n ≤ 1048576) (W : World) : (Instr.makeSlice 28 (.int .i64 (n : Int)) (.int .i64 (n : Int))).run Try.prog W = .ok (.slice (some ⟨W.heap.size, 0, none⟩) n n) (W.alloc (.cells (madeCells #[.int .i64 0, .string ByteArray.empty] (n * 2)) 87)) := by
  obtain ⟨i, hi, hzz⟩ := Option.map_eq_some_iff.1 infoW
  simp only [Prod.mk.injEq] at hzz
  obtain ⟨hz, hs, hb⟩ := hzz
  have hr := run_make (P := Try.prog) W 28 87 i _ Try.underlying28 hi hz .i64 .i64 n n (by omega) (Int.le_refl _) (by rw [hb]; omega) (by omega)
  simp only [Int.toNat_natCast, hs] at hr
  exact hr
theorem row_made2 (w : World) (z0 z1 : Value) (n : Nat) (t : TypeId) : (w.alloc (.cells (madeCells #[z0, z1] (n * 2)) t)).rowIs w.heap.size t (n * 2) (fun i => if i % 2 = 0 then z0 else z1) :=
  ⟨_, heap_alloc_new _ _, size_madeCells _ _, fun i hi => by
    have : i % 2 = 0 ∨ i % 2 = 1 := by omega
    rcases this with h | h <;> simp [madeCells, hi, h]⟩

/-- What the first k writes look like in a row of n of them. -/
def fillW (ws : List (Int × ByteArray)) (k : Nat) (j : Nat) : Value :=
  if j < k * 2 then (if j % 2 = 0 then .int .i64 (ws.getD (j / 2) (0, ByteArray.empty)).1 else .string (ws.getD (j / 2) (0, ByteArray.empty)).2) else (if j % 2 = 0 then .int .i64 0 else .string ByteArray.empty)
theorem fillW_next (ws : List (Int × ByteArray)) (k j : Nat) (a : Int) (s : ByteArray) (h : ws.getD k (0, ByteArray.empty) = (a, s)) :
    (if j = k * 2 + 1 then .string s else if j = k * 2 then .int .i64 a else fillW ws k j) = fillW ws (k + 1) j := by
  unfold fillW
  by_cases e1 : j = k * 2 + 1
  · subst e1
    rw [if_pos rfl, if_pos (by omega), if_neg (by omega), show (k * 2 + 1) / 2 = k by omega, h]
  · rw [if_neg e1]
    by_cases e2 : j = k * 2
    · subst e2
      rw [if_pos rfl, if_pos (by omega), if_pos (by omega), show (k * 2) / 2 = k by omega, h]
    · rw [if_neg e2]
      by_cases e3 : j < k * 2
      · have e4 : j < (k + 1) * 2 := by omega
        simp only [e3, e4, if_true]
      · have e4 : ¬ j < (k + 1) * 2 := by omega
        simp only [e3, e4, if_false]

set_option maxRecDepth 100000 in
set_option maxHeartbeats 1000000 in
theorem toWriteS (A : Option Addr) (n c : Nat) (ws : List (Int × ByteArray)) (w : World) (hl : ws.length = n) (hn : n ≤ 1048576) (h : WrL w A ws) :
    Calls Try.prog 43 #[.slice A n c] w fun e w' => e = .returned (.slice (some ⟨w.heap.size, 0, none⟩) n n) ∧ Below w.heap.size w w' ∧ w'.rowIs w.heap.size 87 (n * 2) (fillW ws n) := by
  have HL := Lib.hid hl
  have H := Lib.hid h
  clear hl h
  have hmk := make_writes n hn
  go_enter Try.func43, Try.ntmps43
  go_wp2
  clear hmk
  have hrow := row_made2 w (.int .i64 0) (.string ByteArray.empty) n 87
  have hbel : Below w.heap.size w (w.alloc (.cells (madeCells #[.int .i64 0, .string ByteArray.empty] (n * 2)) 87)) := (Below.refl _ _).alloc (Nat.le_refl _) _
  have HR := Lib.hid hrow
  clear hrow
  generalize w.alloc (.cells (madeCells #[.int .i64 0, .string ByteArray.empty] (n * 2)) 87) = wa at hbel HR ⊢
  go_loopw [4] (fun i wr => ∃ k : Nat, k ≤ n ∧ i = .int .i64 k ∧ Below w.heap.size w wr ∧ wr.rowIs w.heap.size 87 (n * 2) (fillW ws k)) (fun i _ => n - (intOf i).toNat)
  case atStart => exact ⟨0, Nat.zero_le _, rfl, hbel, HR.out.congr (fun i _ => by simp [fillW])⟩
  case round =>
    obtain ⟨k, hk, rfl, hbw, hrw⟩ := hrel
    by_cases hlt : k < n
    · obtain ⟨b, off, rfl, hc, hd⟩ := (H.out.below hbw) k (by rw [HL.out]; exact hlt)
      obtain ⟨x1, x2, hx⟩ : ∃ x1 x2, ws.getD k (0, ByteArray.empty) = (x1, x2) := ⟨_, _, rfl⟩
      rw [hx] at hc hd
      have HX := Lib.hid hx
      have HRW := Lib.hid hrw
      clear hrw hx
      have hi : (k : Int) < (n : Int) := by omega
      go_wp2_with fail
      refine (toWrite x1 x2 wr).mono ?_
      rintro e w1 ⟨rfl, hb1⟩
      have hr1 := row_below hb1 HRW.out HRW.out.lt
      have hcd := hr1.cell (i := k * 2) (by omega)
      have hcd2 := hr1.cell (i := k * 2 + 1) (by omega)
      have hfr := hr1.frozen (k * 2)
      have hfr2 := hr1.frozen (k * 2 + 1)
      have HW := Lib.hid ((hr1.set (k * 2) (.int .i64 x1)).set (k * 2 + 1) (.string x2))
      have hbe : Below w.heap.size w w1 := hbw.trans (hb1.mono hbw.size)
      clear hr1 hc hd
      generalize fillW ws k (k * 2) = y1 at hcd
      generalize fillW ws k (k * 2 + 1) = y2 at hcd2
      go_wp2
      go_roundw
      case rel =>
        exact ⟨k + 1, by omega, by go_num, (hbe.setCell (Nat.le_refl _) _).setCell (Nat.le_refl _) _, HW.out.congr (fun i _ => fillW_next ws k i x1 x2 HX.out)⟩
      case measure => simp [intOf]; omega
    · have HRW := Lib.hid hrw
      clear hrw
      go_wp2
      go_ret
      exact ⟨rfl, hbw, by have : k = n := by omega
                          subst this; exact HRW.out⟩

/-- The call hands back a disk of its own, with these sectors and these writes. -/
def GivesDisk (ss : List ByteArray) (ws : List (Int × ByteArray)) (w : World) (e : Ending) (w' : World) : Prop :=
  ∃ A n c C m d, e = .returned (.agg #[.slice A n c, .slice C m d]) ∧ Hid (ss.length = n) ∧ Hid (ws.length = m) ∧ Hid (OwnS w' w.heap.size w'.heap.size A ss) ∧ Hid (OwnW w' w.heap.size w'.heap.size C ws) ∧ Below w.heap.size w w'
/-- The same with a code. -/
def GivesDiskCode (ss : List ByteArray) (ws : List (Int × ByteArray)) (code : Int) (w : World) (e : Ending) (w' : World) : Prop :=
  ∃ A n c C m d, e = .returned (.tuple #[.agg #[.slice A n c, .slice C m d], .int .i64 code]) ∧ Hid (ss.length = n) ∧ Hid (ws.length = m) ∧ Hid (OwnS w' w.heap.size w'.heap.size A ss) ∧ Hid (OwnW w' w.heap.size w'.heap.size C ws) ∧ Below w.heap.size w w'

theorem own_of_rowS {w : World} {b n lo hi : Nat} {ss : List ByteArray} (hl : ss.length = n) (h : w.rowIs b 9 n (fun i => .string (ss.getD i ByteArray.empty))) (h1 : lo ≤ b) (h2 : b < hi) : OwnS w lo hi (some ⟨b, 0, none⟩) ss :=
  .inr ⟨b, n, _, rfl, h1, h2, by omega, h, fun _ _ => rfl⟩
theorem own_of_rowW {w : World} {b n lo hi : Nat} {ws : List (Int × ByteArray)} (hl : ws.length = n) (h : w.rowIs b 87 (n * 2) (fillW ws n)) (h1 : lo ≤ b) (h2 : b < hi) : OwnW w lo hi (some ⟨b, 0, none⟩) ws :=
  .inr ⟨b, n * 2, _, rfl, h1, h2, by omega, h, fun i hi' => by
    unfold fillW
    rw [if_pos (by omega), if_pos (by omega), if_pos (by omega), if_neg (by omega), show i * 2 / 2 = i by omega, show (i * 2 + 1) / 2 = i by omega]
    exact ⟨rfl, rfl⟩⟩

set_option maxRecDepth 100000 in
set_option maxHeartbeats 1000000 in
theorem toDisk (A C : Option Addr) (n c m d : Nat) (ss : List ByteArray) (ws : List (Int × ByteArray)) (w : World) (hl : ss.length = n) (hm : ws.length = m) (hn : n ≤ 1048576) (hmm : m ≤ 1048576) (h : StrL w A ss) (g : WrL w C ws) :
    Calls Try.prog 12 #[.agg #[.slice A n c, .slice C m d]] w (GivesDisk ss ws w) := by
  have HL := Lib.hid hl
  have HM := Lib.hid hm
  have H := Lib.hid h
  have G := Lib.hid g
  clear hl hm h g
  obtain ⟨b0, HB0⟩ : ∃ b0, Hid (b0 = w.heap.size) := ⟨_, Lib.hid rfl⟩
  go_enter Try.func12, Try.ntmps12
  go_wp2_with fail
  obtain ⟨W0, hW0⟩ : ∃ W0, W0 = (((w.alloc (.cells #[.slice A n c, .slice C m d] 25)).alloc (.cells #[.slice none 0 0, .slice none 0 0] 30)).alloc (.cells #[.slice none 0 0, .slice none 0 0] 30)) := ⟨_, rfl⟩
  have hs0 : W0.heap.size = w.heap.size + 1 + 1 + 1 := by rw [hW0]; simp
  have hb0 : Below w.heap.size w W0 := by rw [hW0]; exact (((Below.refl _ _).alloc (Nat.le_refl _) _).alloc (by simp) _).alloc (by simp; omega) _
  have X0 : Box W0 w.heap.size 25 #[.slice A n c, .slice C m d] := by rw [hW0]; exact ((Box.new _ _ _).alloc _).alloc _
  have X1 : Box W0 (w.heap.size + 1) 30 #[.slice none 0 0, .slice none 0 0] := by rw [hW0]; simpa using (Box.new (w.alloc (.cells #[.slice A n c, .slice C m d] 25)) 30 #[.slice none 0 0, .slice none 0 0]).alloc (.cells #[.slice none 0 0, .slice none 0 0] 30)
  have X2 : Box W0 (w.heap.size + 1 + 1) 30 #[.slice none 0 0, .slice none 0 0] := by rw [hW0]; simpa using Box.new ((w.alloc (.cells #[.slice A n c, .slice C m d] 25)).alloc (.cells #[.slice none 0 0, .slice none 0 0] 30)) 30 #[.slice none 0 0, .slice none 0 0]
  rw [← hW0]
  clear hW0
  refine (toStringS A n c ss W0 HL.out hn (H.out.below hb0)).mono ?_
  rintro e w1 ⟨rfl, hb1, hr1⟩
  have HR1 := Lib.hid hr1
  clear hr1
  have Y0 := X0.step hb1
  have Y1 := X1.step hb1
  have Y2 := X2.step hb1
  have HY := Lib.hid (And.intro Y0 (And.intro Y1 Y2))
  have f1 := Y0.cell 1 rfl
  have f2 := Y2.cell 0 rfl
  have f3 := Y2.frozen 0
  clear X0 X1 X2 Y0 Y1 Y2
  have HS0 := Lib.hid hs0
  clear hs0
  go_wp2_with fail
  have hbs : Below w.heap.size w w1 := bt hb0 hb1
  have hb2 : Below w.heap.size w (w1.setCell ⟨w.heap.size + 1 + 1, 0, none⟩ (.slice (some ⟨W0.heap.size, 0, none⟩) n n)) := hbs.setCell (by show w.heap.size ≤ w.heap.size + 1 + 1; omega) _
  have Z1 := HY.out.2.1.far (p := ⟨w.heap.size + 1 + 1, 0, none⟩) (by show w.heap.size + 1 ≠ w.heap.size + 1 + 1; omega) (.slice (some ⟨W0.heap.size, 0, none⟩) n n)
  have Z2 := HY.out.2.2.set 0 (.slice (some ⟨W0.heap.size, 0, none⟩) n n)
  have Z3 := HR1.out.setOther (a := ⟨w.heap.size + 1 + 1, 0, none⟩) (by show W0.heap.size ≠ w.heap.size + 1 + 1; rw [HS0.out]; omega) (.slice (some ⟨W0.heap.size, 0, none⟩) n n)
  generalize w1.setCell ⟨w.heap.size + 1 + 1, 0, none⟩ (.slice (some ⟨W0.heap.size, 0, none⟩) n n) = w2 at hb2 Z1 Z2 Z3 ⊢
  clear f1 f2 f3 HY HR1
  refine (toWriteS C m d ws w2 HM.out hmm (G.out.below hb2)).mono ?_
  rintro e w3 ⟨rfl, hb3, hr3⟩
  have HR3 := Lib.hid hr3
  have HZ3 := Lib.hid (row_below hb3 Z3 Z3.lt)
  have V1 := Z1.step hb3
  have V2 := Z2.step hb3
  have hlt : Hid (w2.heap.size < w3.heap.size) := Lib.hid hr3.lt
  have hz2 : Hid (W0.heap.size < w2.heap.size) := Lib.hid Z3.lt
  clear hr3 Z1 Z2 Z3
  have hb4 := bt hb2 hb3
  have g1 := V1.cell 0 rfl
  have g2 := V1.cell 1 rfl
  have g3 := V1.frozen 0
  have g4 := V1.frozen 1
  have g5 := V2.cell 0 rfl
  have g6 := V2.cell 1 rfl
  have g7 := V2.frozen 1
  clear V1 V2
  go_wp2
  refine bodyPost_ret (v := .agg #[.slice (some ⟨W0.heap.size, 0, none⟩) n n, .slice (some ⟨w2.heap.size, 0, none⟩) m m]) (by simp [results, Try.results12, go_sem, g1, g2]) rfl ?_
  refine ⟨_, _, _, _, _, _, rfl, HL, HM, ?_, ?_, ?_⟩
  · refine Lib.hid (own_of_rowS HL.out (((HZ3.out.setOther ?_ _).setOther ?_ _).setOther ?_ _) hb0.size ?_)
    · show W0.heap.size ≠ w.heap.size + 1 + 1; rw [HS0.out]; omega
    · show W0.heap.size ≠ w.heap.size + 1; rw [HS0.out]; omega
    · show W0.heap.size ≠ w.heap.size + 1; rw [HS0.out]; omega
    · have := hlt.out; have := hz2.out; simp [World.setCell]; omega
  · refine Lib.hid (own_of_rowW HM.out (((HR3.out.setOther ?_ _).setOther ?_ _).setOther ?_ _) hb2.size ?_)
    · show w2.heap.size ≠ w.heap.size + 1 + 1; have := hz2.out; rw [HS0.out] at this; omega
    · show w2.heap.size ≠ w.heap.size + 1; have := hz2.out; rw [HS0.out] at this; omega
    · show w2.heap.size ≠ w.heap.size + 1; have := hz2.out; rw [HS0.out] at this; omega
    · have := hlt.out; simp [World.setCell]; omega
  · exact ((hb4.setCell (by show w.heap.size ≤ w.heap.size + 1 + 1; omega) _).setCell (by show w.heap.size ≤ w.heap.size + 1; omega) _).setCell (by show w.heap.size ≤ w.heap.size + 1; omega) _
end Go.Proofs.Ytlfmniekbiffjaa

/- Contracts of toIntS, eqIntS, markIntS. -/
namespace Go.Proofs.Ytlfmniekbiffjaa
open Go.RowKit

set_option maxRecDepth 100000 in
theorem infoI : (Try.prog.info? 3).map (fun i => (i.zero, i.size, i.bytes)) = some (some (.int .i64 0), 1, 8) := by kernel_rfl

/-- The call hands back a []int of its own, and its capacity is no less than its length. -/
def GivesIntsC (zs : List Int) (w : World) (e : Ending) (w' : World) : Prop :=
  ∃ A n c, e = .returned (.slice A n c) ∧ Hid (zs.length = n) ∧ Hid (OwnI w' w.heap.size w'.heap.size A zs) ∧ n ≤ c ∧ Below w.heap.size w w'
/-- The call hands back a []int of its own. -/
def GivesInts (zs : List Int) (w : World) (e : Ending) (w' : World) : Prop :=
  ∃ A n c, e = .returned (.slice A n c) ∧ Hid (zs.length = n) ∧ Hid (OwnI w' w.heap.size w'.heap.size A zs) ∧ Below w.heap.size w w'

set_option maxRecDepth 100000 in
set_option maxHeartbeats 1000000 in
theorem toIntSc (A : Option Addr) (n c : Nat) (zs : List Int) (w : World) (hl : zs.length = n) (hn : n ≤ 1048576) (h : IntL w A zs) :
    Calls Try.prog 21 #[.slice A n c] w (GivesIntsC zs w) := by
  have HL := Lib.hid hl
  have H := Lib.hid h
  clear hl h
  have hmk := fun W => run_make_row' (P := Try.prog) 39 3 (.int .i64 0) 8 Try.underlying39 infoI rfl .i64 .i64 n (by omega) (by omega) W
  go_enter Try.func21, Try.ntmps21
  go_wp2
  clear hmk
  have hrow := World.rowIs_made w (.int .i64 0) n 3
  have hbel : Below w.heap.size w (w.alloc (.cells (madeCells #[.int .i64 0] n) 3)) := (Below.refl _ _).alloc (Nat.le_refl _) _
  have HR := Lib.hid hrow
  clear hrow
  generalize w.alloc (.cells (madeCells #[.int .i64 0] n) 3) = wa at hbel HR ⊢
  go_loopw [4] (fun i wr => ∃ k : Nat, k ≤ n ∧ i = .int .i64 k ∧ Below w.heap.size w wr ∧ wr.rowIs w.heap.size 3 n (fun j => if j < k then .int .i64 (zs.getD j 0) else .int .i64 0)) (fun i _ => n - (intOf i).toNat)
  case atStart => exact ⟨0, Nat.zero_le _, rfl, hbel, HR.out.congr (fun i _ => by simp)⟩
  case round =>
    obtain ⟨k, hk, rfl, hbw, hrw⟩ := hrel
    by_cases hlt : k < n
    · obtain ⟨b, off, rfl, hc⟩ := (H.out.below hbw) k (by rw [HL.out]; exact hlt)
      have hcd := hrw.cell hlt
      have hfr := hrw.frozen k
      have HW := Lib.hid (hrw.set k (.int .i64 (zs.getD k 0)))
      simp only [Nat.lt_irrefl, if_false] at hcd
      clear hrw
      generalize hx : zs.getD k 0 = x at hc HW
      have HX := Lib.hid hx
      clear hx
      have hi : (k : Int) < (n : Int) := by omega
      go_wp2
      go_roundw
      case rel =>
        refine ⟨k + 1, by omega, by go_num, hbw.setCell (Nat.le_refl _) _, HW.out.congr (fun i _ => ?_)⟩
        show (if i = k then Value.int .i64 x else if i < k then _ else _) = _
        by_cases e : i = k
        · subst e; rw [if_pos rfl, if_pos (by omega), HX.out]
        · rw [if_neg e]
          by_cases e2 : i < k
          · rw [if_pos e2, if_pos (by omega)]
          · rw [if_neg e2, if_neg (by omega)]
      case measure => simp [intOf]; omega
    · have HRW := Lib.hid hrw
      clear hrw
      go_wp2
      go_ret
      have ek : k = n := by omega
      subst ek
      exact ⟨_, _, _, rfl, HL, Lib.hid (.inr ⟨w.heap.size, k, _, rfl, Nat.le_refl _, HRW.out.lt, by rw [HL.out]; omega, HRW.out, fun i hi => by rw [if_pos (by rw [HL.out] at hi; exact hi)]⟩), Nat.le_refl _, hbw⟩
set_option maxRecDepth 100000 in
theorem toIntS (A : Option Addr) (n c : Nat) (zs : List Int) (w : World) (hl : zs.length = n) (hn : n ≤ 1048576) (h : IntL w A zs) :
    Calls Try.prog 21 #[.slice A n c] w (GivesInts zs w) :=
  (toIntSc A n c zs w hl hn h).mono fun _ _ ⟨A, n, c, h1, h2, h3, _, h5⟩ => ⟨A, n, c, h1, h2, h3, h5⟩

set_option maxRecDepth 100000 in
set_option maxHeartbeats 1000000 in
theorem eqIntSame (A A' : Option Addr) (n n' c c' : Nat) (zs : List Int) (w : World) (hl : zs.length = n) (hl' : zs.length = n') (hn : n ≤ maxLen) (h : IntL w A zs) (h' : IntL w A' zs) :
    Calls Try.prog 23 #[.slice A n c, .slice A' n' c'] w fun e w' => e = .returned (.bool true) ∧ Below w.heap.size w w' := by
  unfold maxLen at hn
  have HL := Lib.hid hl
  obtain rfl : n = n' := by omega
  have H := Lib.hid h
  have H' := Lib.hid h'
  clear hl hl' h h'
  have hb : ((n : Int) != (n : Int)) = false := by simp
  go_enter Try.func23, Try.ntmps23
  go_wp2
  go_loopw [5] (fun i wr => ∃ k : Nat, k ≤ n ∧ i = .int .i64 k ∧ Below w.heap.size w wr) (fun i _ => n - (intOf i).toNat)
  case atStart => exact ⟨0, Nat.zero_le _, rfl, Below.refl _ _⟩
  case round =>
    obtain ⟨k, hk, rfl, hbw⟩ := hrel
    by_cases hlt : k < n
    · obtain ⟨b, off, rfl, hc⟩ := (H.out.below hbw) k (by rw [HL.out]; exact hlt)
      obtain ⟨b', off', rfl, hc'⟩ := (H'.out.below hbw) k (by rw [HL.out]; exact hlt)
      generalize zs.getD k 0 = x at hc hc'
      have hi : (k : Int) < (n : Int) := by omega
      have hq1 : (x != x) = false := by simp
      have hq2 : (x == x) = true := by simp
      go_wp2
      go_quiet (fail)
      go_wp2
      go_roundw
      case rel => exact ⟨k + 1, by omega, by go_num, below_drewN hbw _⟩
      case measure => simp [intOf]; omega
    · go_wp2
      go_ret
      exact ⟨rfl, hbw⟩

def MarkedI (lo hi k n : Nat) (w : World) (e : Ending) (w' : World) : Prop := e = .returned (.int .i64 ((k + n : Nat) : Int)) ∧ Btw lo hi w w'

set_option maxRecDepth 100000 in
set_option maxHeartbeats 2000000 in
theorem markIntS (A : Option Addr) (n c k lo hi : Nat) (zs : List Int) (w : World) (hl : zs.length = n) (hk : 1 ≤ k) (hn : n ≤ 1099511627776) (hk2 : k + n ≤ 1099511627776) (h : OwnI w lo hi A zs) :
    Calls Try.prog 24 #[.slice A n c, .int .i64 k] w (MarkedI lo hi k n w) := by
  rcases h with rfl | ⟨b, m, f, rfl, h1, h2, hm, hr, hf⟩
  · obtain rfl : n = 0 := hl.symm
    go_enter Try.func24, Try.ntmps24
    go_wp2
    go_loop [5, 1] (fun i kk => i = .int .i64 0 ∧ kk = .int .i64 k) (fun _ _ => 0)
    case atStart => exact ⟨rfl, rfl⟩
    case round =>
      obtain ⟨rfl, rfl⟩ := hrel
      go_wp2
      go_ret
      exact ⟨rfl, Btw.refl _ _ _⟩
  · have HM : Hid (n ≤ m) := Lib.hid (by omega)
    have HR := Lib.hid hr
    clear hl hm hr hf
    go_enter Try.func24, Try.ntmps24
    go_wp2
    go_loopw [5, 1] (fun i kk wr => ∃ j : Nat, j ≤ n ∧ i = .int .i64 j ∧ kk = .int .i64 ((k + j : Nat) : Int) ∧ Btw lo hi w wr ∧ Hid (∃ f, wr.rowIs b 3 m f)) (fun i _ _ => n - (intOf i).toNat)
    case atStart => exact ⟨0, Nat.zero_le _, rfl, rfl, Btw.refl _ _ _, Lib.hid ⟨_, HR.out⟩⟩
    case round =>
      obtain ⟨j, hj, rfl, rfl, hbw, HW⟩ := hrel
      by_cases hlt : j < n
      · have hi' : (j : Int) < (n : Int) := by omega
        obtain ⟨f', hf'⟩ := HW.out
        have hc := hf'.cell (i := j) (by have := HM.out; omega)
        have hfz := hf'.frozen j
        generalize hz : k + j = z
        have HZ := Lib.hid hz
        have hz1 : z + 1 ≤ 1099511627776 := by omega
        have HS : Hid (∃ f, (wr.setCell ⟨b, j, none⟩ (.int .i64 (z : Int))).rowIs b 3 m f) := Lib.hid ⟨_, hf'.set j _⟩
        clear hf' HW hz
        generalize f' j = y at hc
        go_wp2
        go_roundw
        case rel => exact ⟨j + 1, by omega, by go_num, by have := HZ.out; congr 1; omega, hbw.setCell h1 h2 _, HS⟩
        case measure => simp [intOf]; omega
      · go_wp2
        go_ret
        have ej : j = n := by omega
        subst ej
        exact ⟨rfl, hbw⟩
end Go.Proofs.Ytlfmniekbiffjaa

/- Contracts of the measures: szStringS, szWrite, szWriteS, szDisk: what is left, or -1. -/
namespace Go.Proofs.Ytlfmniekbiffjaa
open Go.RowKit

/-- How many letters the strings hold. -/
def lenS (ss : List ByteArray) : Nat := (ss.map (·.size)).sum
def lenW (ws : List (Int × ByteArray)) : Nat := (ws.map (·.2.size)).sum

theorem lenS_take (ss : List ByteArray) (k : Nat) (h : k < ss.length) : lenS (ss.take (k + 1)) = lenS (ss.take k) + (ss.getD k ByteArray.empty).size := by
  unfold lenS
  rw [List.take_succ_eq_append_getElem h, List.map_append, List.sum_append, List.getD_eq_getElem?_getD, List.getElem?_eq_getElem h]
  simp
theorem lenW_take (ws : List (Int × ByteArray)) (k : Nat) (h : k < ws.length) : lenW (ws.take (k + 1)) = lenW (ws.take k) + (ws.getD k (0, ByteArray.empty)).2.size := by
  unfold lenW
  rw [List.take_succ_eq_append_getElem h, List.map_append, List.sum_append, List.getD_eq_getElem?_getD, List.getElem?_eq_getElem h]
  simp

/-- What a measure answers: a negative number, or what is left of the bound. -/
def Left (left : Int) (used : Nat) (w : World) (e : Ending) (w' : World) : Prop :=
  (e = .returned (.int .i64 (-1)) ∨ e = .returned (.int .i64 (left - used)) ∧ (used : Int) ≤ left) ∧ Below w.heap.size w w'

set_option maxRecDepth 100000 in
set_option maxHeartbeats 1000000 in
theorem szStringS (A : Option Addr) (n c : Nat) (ss : List ByteArray) (left : Int) (w : World) (hl : ss.length = n) (hn : n ≤ maxLen) (h0 : 0 ≤ left) (h1 : left ≤ 1048576) (h : StrL w A ss) (hs : ∀ s ∈ ss, s.size ≤ maxLen) :
    Calls Try.prog 10 #[.slice A n c, .int .i64 left] w (Left left (ss.length + lenS ss) w) := by
  unfold maxLen at hn
  have HL := Lib.hid hl
  have H := Lib.hid h
  have HS := Lib.hid hs
  clear hl h hs
  by_cases hb : left < n
  · have hb' : left - (n : Int) < 0 := by omega
    go_enter Try.func10, Try.ntmps10
    go_wp2
    go_ret
    exact ⟨.inl rfl, Below.refl _ _⟩
  · have hb' : ¬ left - (n : Int) < 0 := by omega
    go_enter Try.func10, Try.ntmps10
    go_wp2
    go_loop [5, 1] (fun i l => ∃ k : Nat, k ≤ n ∧ i = .int .i64 k ∧ l = .int .i64 (left - n - lenS (ss.take k)) ∧ 0 ≤ left - n - lenS (ss.take k)) (fun i _ => n - (intOf i).toNat)
    case atStart => exact ⟨0, Nat.zero_le _, rfl, by simp [lenS], by simp [lenS]; omega⟩
    case round =>
      obtain ⟨k, hk, rfl, rfl, hr⟩ := hrel
      by_cases hlt : k < n
      · obtain ⟨b, off, rfl, hc⟩ := H.out k (by rw [HL.out]; exact hlt)
        have hx : (ss.getD k ByteArray.empty).size ≤ maxLen := HS.out _ (by rw [List.getD_eq_getElem?_getD, List.getElem?_eq_getElem (by rw [HL.out]; exact hlt)]; exact List.getElem_mem _)
        have HK := Lib.hid (lenS_take ss k (by rw [HL.out]; exact hlt))
        generalize ss.getD k ByteArray.empty = x at hc HK hx
        unfold maxLen at hx
        generalize lenS (ss.take k) = u at HK hr
        have hi : (k : Int) < (n : Int) := by omega
        by_cases hE : left - n - u < x.size
        · have hE' : left - (n : Int) - (u : Int) - (x.size : Int) < 0 := by omega
          go_wp2
          go_ret
          exact ⟨.inl rfl, Below.refl _ _⟩
        · have hE' : ¬ left - (n : Int) - (u : Int) - (x.size : Int) < 0 := by omega
          go_wp2
          go_round
          case rel => exact ⟨k + 1, by omega, by go_num, by rw [HK.out]; congr 1; omega, by rw [HK.out]; omega⟩
          case measure => simp [intOf]; omega
      · go_wp2
        go_ret
        have ek : ss.take k = ss := List.take_of_length_le (by rw [HL.out]; omega)
        rw [ek] at hr ⊢
        exact ⟨.inr ⟨ret_int (by rw [HL.out]; omega), by rw [HL.out]; omega⟩, Below.refl _ _⟩

set_option maxRecDepth 100000 in
theorem szWrite (a : Int) (s : ByteArray) (left : Int) (w : World) (h0 : 0 ≤ left) (h1 : left ≤ 1048576) (hs : s.size ≤ maxLen) :
    Calls Try.prog 74 #[.agg #[.int .i64 a, .string s], .int .i64 left] w (Left left s.size w) := by
  unfold maxLen at hs
  by_cases hE : left < s.size
  · have hE' : left - (s.size : Int) < 0 := by omega
    go_enter Try.func74, Try.ntmps74
    go_wp2
    go_ret
    exact ⟨.inl rfl, (Below.refl _ _).alloc (Nat.le_refl _) _⟩
  · have hE' : ¬ left - (s.size : Int) < 0 := by omega
    go_enter Try.func74, Try.ntmps74
    go_wp2
    go_ret
    exact ⟨.inr ⟨rfl, by omega⟩, (Below.refl _ _).alloc (Nat.le_refl _) _⟩

set_option maxRecDepth 100000 in
set_option maxHeartbeats 1000000 in
theorem szWriteS (A : Option Addr) (n c : Nat) (ws : List (Int × ByteArray)) (left : Int) (w : World) (hl : ws.length = n) (hn : n ≤ maxLen) (h0 : 0 ≤ left) (h1 : left ≤ 1048576) (h : WrL w A ws) (hs : ∀ x ∈ ws, x.2.size ≤ maxLen) :
    Calls Try.prog 38 #[.slice A n c, .int .i64 left] w (Left left (ws.length + lenW ws) w) := by
  unfold maxLen at hn
  have HL := Lib.hid hl
  have H := Lib.hid h
  have HS := Lib.hid hs
  clear hl h hs
  by_cases hb : left < n
  · have hb' : left - (n : Int) < 0 := by omega
    go_enter Try.func38, Try.ntmps38
    go_wp2
    go_ret
    exact ⟨.inl rfl, Below.refl _ _⟩
  · have hb' : ¬ left - (n : Int) < 0 := by omega
    go_enter Try.func38, Try.ntmps38
    go_wp2
    go_loopw [5, 1] (fun i l wr => ∃ k : Nat, k ≤ n ∧ i = .int .i64 k ∧ l = .int .i64 (left - n - lenW (ws.take k)) ∧ 0 ≤ left - n - lenW (ws.take k) ∧ Below w.heap.size w wr) (fun i _ _ => n - (intOf i).toNat)
    case atStart => exact ⟨0, Nat.zero_le _, rfl, by simp [lenW], by simp [lenW]; omega, Below.refl _ _⟩
    case round =>
      obtain ⟨k, hk, rfl, rfl, hr, hbw⟩ := hrel
      by_cases hlt : k < n
      · obtain ⟨b, off, rfl, hc, hd⟩ := (H.out.below hbw) k (by rw [HL.out]; exact hlt)
        have hx : (ws.getD k (0, ByteArray.empty)).2.size ≤ maxLen := HS.out _ (by rw [List.getD_eq_getElem?_getD, List.getElem?_eq_getElem (by rw [HL.out]; exact hlt)]; exact List.getElem_mem _)
        have HK := Lib.hid (lenW_take ws k (by rw [HL.out]; exact hlt))
        generalize ws.getD k (0, ByteArray.empty) = x at hc hd HK hx
        obtain ⟨x1, x2⟩ := x
        simp only at hx
        generalize lenW (ws.take k) = u at HK hr
        have hi : (k : Int) < (n : Int) := by omega
        have HC := Lib.hid (fun W => szWrite x1 x2 (left - n - u) W (by omega) (by omega) hx)
        go_wp2_with fail
        refine (HC.out _).mono ?_
        rintro e w1 ⟨hres, hb1⟩
        rcases hres with rfl | ⟨rfl, hle⟩
        · go_wp2
          go_ret
          exact ⟨.inl rfl, bt hbw hb1⟩
        · have hE' : ¬ left - (n : Int) - (u : Int) - (x2.size : Int) < 0 := by omega
          go_wp2
          go_roundw
          case rel => exact ⟨k + 1, by omega, by go_num, by rw [HK.out]; congr 1; omega, by rw [HK.out]; omega, bt hbw hb1⟩
          case measure => simp [intOf]; omega
      · go_wp2
        go_ret
        have ek : ws.take k = ws := List.take_of_length_le (by rw [HL.out]; omega)
        rw [ek] at hr ⊢
        exact ⟨.inr ⟨ret_int (by rw [HL.out]; omega), by rw [HL.out]; omega⟩, hbw⟩

/-- The measure of a disk. -/
def szOf (ss : List ByteArray) (ws : List (Int × ByteArray)) : Nat := (ss.length + lenS ss) + (ws.length + lenW ws)

set_option maxRecDepth 100000 in
set_option maxHeartbeats 1000000 in
theorem szDisk (A C : Option Addr) (n c m d : Nat) (ss : List ByteArray) (ws : List (Int × ByteArray)) (left : Int) (w : World) (h0 : 0 ≤ left) (h1 : left ≤ 1048576) (hl : ss.length = n) (hm : ws.length = m) (hn : n ≤ maxLen) (hmm : m ≤ maxLen) (h : StrL w A ss) (g : WrL w C ws) (fs : ∀ s ∈ ss, s.size ≤ maxLen) (fw : ∀ x ∈ ws, x.2.size ≤ maxLen) :
    Calls Try.prog 9 #[.agg #[.slice A n c, .slice C m d], .int .i64 left] w (Left left (szOf ss ws) w) := by
  have hb0 : Below w.heap.size w (w.alloc (.cells #[.slice A n c, .slice C m d] 25)) := (Below.refl _ _).alloc (Nat.le_refl _) _
  have HC := Lib.hid (szStringS A n c ss left _ hl hn h0 h1 (h.below hb0) fs)
  have HD := Lib.hid (fun l W a b hb => szWriteS C m d ws l W hm hmm a b (g.below hb) fw)
  clear hl hm hn hmm h g fs fw
  go_enter Try.func9, Try.ntmps9
  go_wp2_with fail
  refine HC.out.mono ?_
  rintro e w1 ⟨hres, hb1⟩
  have X := (Box.new w 25 #[.slice A n c, .slice C m d]).step hb1
  have f1 := X.cell 1 rfl
  clear X
  rcases hres with rfl | ⟨rfl, hle⟩
  · go_wp2
    go_ret
    exact ⟨.inl rfl, bt hb0 hb1⟩
  · generalize hu : ss.length + lenS ss = u at hle
    have HU := Lib.hid hu
    clear hu
    have hp : ¬ left - (u : Int) < 0 := by omega
    have hb2 := bt hb0 hb1
    go_wp2_with fail
    refine (HD.out (left - (u : Int)) _ (by omega) (by omega) hb2).mono ?_
    rintro e w2 ⟨hres, hb3⟩
    rcases hres with rfl | ⟨rfl, hle2⟩
    · go_wp2
      go_ret
      exact ⟨.inl rfl, bt hb2 hb3⟩
    · generalize hu : ws.length + lenW ws = v at hle2
      have HV := Lib.hid hu
      clear hu
      have hp2 : ¬ left - (u : Int) - (v : Int) < 0 := by omega
      go_wp2
      go_ret
      have e : ((szOf ss ws : Nat) : Int) = (u : Int) + (v : Int) := by unfold szOf; rw [HU.out, HV.out]; omega
      exact ⟨.inr ⟨ret_int (by rw [e]; omega), by rw [e]; omega⟩, bt hb2 hb3⟩
end Go.Proofs.Ytlfmniekbiffjaa

/- Contracts of szIntS, of markIntS with what it leaves, of heldIntS. -/
namespace Go.Proofs.Ytlfmniekbiffjaa
open Go.RowKit

def marksI (k n : Nat) : List Int := (List.range n).map fun i => ((k + i : Nat) : Int)
theorem marksI_len (k n : Nat) : (marksI k n).length = n := by simp [marksI]
theorem marksI_at (k n i : Nat) (h : i < n) : (marksI k n).getD i 0 = ((k + i : Nat) : Int) := by simp [marksI, List.getD_eq_getElem?_getD, h]
def MarkedIs (lo hi : Nat) (A : Option Addr) (k n : Nat) (w : World) (e : Ending) (w' : World) : Prop :=
  e = .returned (.int .i64 ((k + n : Nat) : Int)) ∧ Hid (OwnI w' lo hi A (marksI k n)) ∧ Btw lo hi w w'

set_option maxRecDepth 100000 in
set_option maxHeartbeats 2000000 in
theorem markIntSs (A : Option Addr) (n c k lo hi : Nat) (zs : List Int) (w : World) (hl : zs.length = n) (hk : 1 ≤ k) (hn : n ≤ 1099511627776) (hk2 : k + n ≤ 1099511627776) (h : OwnI w lo hi A zs) :
    Calls Try.prog 24 #[.slice A n c, .int .i64 k] w (MarkedIs lo hi A k n w) := by
  rcases h with rfl | ⟨b, m, f, rfl, h1, h2, hm, hr, hf⟩
  · obtain rfl : n = 0 := hl.symm
    go_enter Try.func24, Try.ntmps24
    go_wp2
    go_loop [5, 1] (fun i kk => i = .int .i64 0 ∧ kk = .int .i64 k) (fun _ _ => 0)
    case atStart => exact ⟨rfl, rfl⟩
    case round =>
      obtain ⟨rfl, rfl⟩ := hrel
      go_wp2
      go_ret
      exact ⟨rfl, Lib.hid (.inl rfl), Btw.refl _ _ _⟩
  · have HM : Hid (n ≤ m) := Lib.hid (by omega)
    have HR := Lib.hid hr
    clear hl hm hr hf
    go_enter Try.func24, Try.ntmps24
    go_wp2
    go_loopw [5, 1] (fun i kk wr => ∃ j : Nat, j ≤ n ∧ i = .int .i64 j ∧ kk = .int .i64 ((k + j : Nat) : Int) ∧ Btw lo hi w wr ∧ Hid (wr.rowIs b 3 m (fun x => if x < j then .int .i64 ((k + x : Nat) : Int) else f x))) (fun i _ _ => n - (intOf i).toNat)
    case atStart => exact ⟨0, Nat.zero_le _, rfl, rfl, Btw.refl _ _ _, Lib.hid (HR.out.congr (fun i _ => by simp))⟩
    case round =>
      obtain ⟨j, hj, rfl, rfl, hbw, HW⟩ := hrel
      by_cases hlt : j < n
      · have hi' : (j : Int) < (n : Int) := by omega
        have hc := HW.out.cell (i := j) (by have := HM.out; omega)
        simp only [Nat.lt_irrefl, if_false] at hc
        have hfz := HW.out.frozen j
        generalize hz : k + j = z
        have HZ := Lib.hid hz
        have hz1 : z + 1 ≤ 1099511627776 := by omega
        have HS := Lib.hid (HW.out.set j (.int .i64 (z : Int)))
        clear HW hz
        generalize f j = y at hc
        go_wp2
        go_roundw
        case rel =>
          refine ⟨j + 1, by omega, by go_num, by have := HZ.out; congr 1; omega, hbw.setCell h1 h2 _, Lib.hid (HS.out.congr (fun x _ => ?_))⟩
          show (if x = j then Value.int .i64 (z : Int) else if x < j then _ else _) = _
          by_cases e : x = j
          · subst e; rw [if_pos rfl, if_pos (by omega), HZ.out]
          · rw [if_neg e]
            by_cases e2 : x < j
            · rw [if_pos e2, if_pos (by omega)]
            · rw [if_neg e2, if_neg (by omega)]
        case measure => simp [intOf]; omega
      · go_wp2
        go_ret
        have ej : j = n := by omega
        subst ej
        exact ⟨rfl, Lib.hid (.inr ⟨b, m, _, rfl, h1, h2, by rw [marksI_len]; exact HM.out, HW.out, fun i hi' => by rw [marksI_len] at hi'; rw [if_pos hi', marksI_at k j i hi']⟩), hbw⟩

end Go.Proofs.Ytlfmniekbiffjaa

/- Contracts of the marks: markText, markStringS, heldStringS, markWriteS, heldWriteS, markDisk, heldDisk. -/
namespace Go.Proofs.Ytlfmniekbiffjaa
open Go.RowKit

def mkDig (j : Nat) : ByteArray := ⟨#[UInt8.ofNat (48 + j % 10)]⟩
def mkGo : Nat → Nat → ByteArray → ByteArray
  | 0, _, o => o
  | f + 1, j, o => if j = 0 then o else mkGo f (j / 10) (mkDig j ++ o)
/-- The text of a mark. -/
def mkText (k : Nat) : ByteArray := ⟨#[109]⟩ ++ mkGo k k ByteArray.empty
theorem mkGo_zero (f : Nat) (o : ByteArray) : mkGo f 0 o = o := by cases f <;> simp [mkGo]
theorem mkGo_step (f j : Nat) (o : ByteArray) (h : 0 < j) (hf : j ≤ f) : ∃ f', j / 10 ≤ f' ∧ mkGo f j o = mkGo f' (j / 10) (mkDig j ++ o) := by
  obtain ⟨f', rfl⟩ : ∃ f', f = f' + 1 := ⟨f - 1, by omega⟩
  exact ⟨f', by omega, by rw [mkGo, if_neg (by omega)]⟩

set_option maxRecDepth 100000 in
theorem byte_string (V : World) (j : Nat) : (convert 45 9 (.slice (some ⟨V.heap.size, 0, none⟩) 1 1)).run Try.prog (V.alloc (.cells #[.int .u8 (48 + (j : Int) % 10)] 5)) = .ok (.string (mkDig j)) (V.alloc (.cells #[.int .u8 (48 + (j : Int) % 10)] 5)) := by
  have h : (UInt8.ofNat (48 + j % 10)).toNat = 48 + j % 10 := by
    rw [UInt8.toNat_ofNat']; omega
  exact run_convert_bytes_back (P := Try.prog) (V.alloc (.cells #[.int .u8 (48 + (j : Int) % 10)] 5)) 45 9 5 ⟨V.heap.size, 0, none⟩ 1 [UInt8.ofNat (48 + j % 10)] Try.underlying45 Try.underlying5 Try.underlying9 (fun i hi => by
    have hi' : i = 0 := by simpa using hi
    subst hi'
    simp only [List.getElem_cons_zero]
    rw [h]
    simp [Addr.add])

set_option maxRecDepth 100000 in
set_option maxHeartbeats 1000000 in
theorem markText (k : Nat) (w : World) (hk : 1 ≤ k) (hk2 : k ≤ 1099511627776) :
    Calls Try.prog 51 #[.int .i64 k] w fun e w' => e = .returned (.string (mkText k)) ∧ Below w.heap.size w w' := by
  have h0 : ¬ (k : Int) ≤ 0 := by omega
  have hcv := byte_string
  go_enter Try.func51, Try.ntmps51
  go_wp2
  go_loopw [0, 3] (fun a s wr => ∃ (j : Nat) (o : ByteArray), a = .int .i64 j ∧ s = .string o ∧ j + o.size ≤ k ∧ Hid (∃ f, j ≤ f ∧ mkGo k k ByteArray.empty = mkGo f j o) ∧ Below w.heap.size w wr) (fun a _ _ => (intOf a).toNat)
  case atStart => exact ⟨k, ByteArray.empty, rfl, rfl, by simp, Lib.hid ⟨k, Nat.le_refl _, rfl⟩, Below.refl _ _⟩
  case round =>
    obtain ⟨j, o, rfl, rfl, hj, HG, hbw⟩ := hrel
    by_cases hp : 0 < j
    · have hp' : (0 : Int) < (j : Int) := by omega
      have hd1 : (mkDig j).size ≤ 1 := Nat.le_refl _
      have hnl : ¬ 9223372036854775807 < (mkDig j).size + o.size := by omega
      clear hd1
      go_wp2
      go_roundw
      case rel =>
        refine ⟨j / 10, mkDig j ++ o, by go_num, rfl, ?_, ?_, (hbw.alloc hbw.size _)⟩
        · have : (mkDig j).size = 1 := rfl
          rw [ByteArray.size_append, this]; omega
        · obtain ⟨f, hf, e⟩ := HG.out
          obtain ⟨f', hf', e'⟩ := mkGo_step f j o hp hf
          exact Lib.hid ⟨f', hf', e.trans e'⟩
      case measure => simp [intOf]; omega
    · have hp' : ¬ (0 : Int) < (j : Int) := by omega
      go_wp2
      go_ret
      refine ⟨?_, hbw⟩
      obtain ⟨f, hf, e⟩ := HG.out
      have hj0 : j = 0 := by omega
      subst hj0
      rw [mkGo_zero] at e
      unfold mkText
      rw [e]
      rfl

def marksS (k n : Nat) : List ByteArray := (List.range n).map fun i => mkText (k + i)
def marksW (k n : Nat) : List (Int × ByteArray) := (List.range n).map fun i => (((k + i * 2 : Nat) : Int), mkText (k + i * 2 + 1))
theorem marksS_len (k n : Nat) : (marksS k n).length = n := by simp [marksS]
theorem marksW_len (k n : Nat) : (marksW k n).length = n := by simp [marksW]
theorem marksS_at (k n i : Nat) (h : i < n) : (marksS k n).getD i ByteArray.empty = mkText (k + i) := by simp [marksS, List.getD_eq_getElem?_getD, h]
theorem marksW_at (k n i : Nat) (h : i < n) : (marksW k n).getD i (0, ByteArray.empty) = (((k + i * 2 : Nat) : Int), mkText (k + i * 2 + 1)) := by simp [marksW, List.getD_eq_getElem?_getD, h]

/-- What the marks of a slice of strings leave. -/
def MarkedS (lo hi : Nat) (A : Option Addr) (k n : Nat) (w : World) (e : Ending) (w' : World) : Prop :=
  e = .returned (.int .i64 ((k + n : Nat) : Int)) ∧ Hid (OwnS w' lo hi A (marksS k n)) ∧ Btw lo hi w w'
def MarkedW (lo hi : Nat) (A : Option Addr) (k n : Nat) (w : World) (e : Ending) (w' : World) : Prop :=
  e = .returned (.int .i64 ((k + n * 2 : Nat) : Int)) ∧ Hid (OwnW w' lo hi A (marksW k n)) ∧ Btw lo hi w w'

set_option maxRecDepth 100000 in
set_option maxHeartbeats 2000000 in
theorem markStringS (A : Option Addr) (n c k lo hi : Nat) (ss : List ByteArray) (w : World) (hl : ss.length = n) (hk : 1 ≤ k) (hn : n ≤ 1099511627776) (hk2 : k + n ≤ 1099511627776) (h : OwnS w lo hi A ss) :
    Calls Try.prog 18 #[.slice A n c, .int .i64 k] w (MarkedS lo hi A k n w) := by
  rcases h with rfl | ⟨b, m, f, rfl, h1, h2, hm, hr, hf⟩
  · obtain rfl : n = 0 := hl.symm
    go_enter Try.func18, Try.ntmps18
    go_wp2
    go_loop [5, 1] (fun i kk => i = .int .i64 0 ∧ kk = .int .i64 k) (fun _ _ => 0)
    case atStart => exact ⟨rfl, rfl⟩
    case round =>
      obtain ⟨rfl, rfl⟩ := hrel
      go_wp2
      go_ret
      exact ⟨rfl, Lib.hid (.inl rfl), Btw.refl _ _ _⟩
  · have HM : Hid (n ≤ m) := Lib.hid (by omega)
    have HR := Lib.hid hr
    clear hl hm hr hf
    go_enter Try.func18, Try.ntmps18
    go_wp2
    go_loopw [5, 1] (fun i kk wr => ∃ j : Nat, j ≤ n ∧ i = .int .i64 j ∧ kk = .int .i64 ((k + j : Nat) : Int) ∧ Btw lo hi w wr ∧ Hid (wr.rowIs b 9 m (fun x => if x < j then .string (mkText (k + x)) else f x))) (fun i _ _ => n - (intOf i).toNat)
    case atStart => exact ⟨0, Nat.zero_le _, rfl, rfl, Btw.refl _ _ _, Lib.hid (HR.out.congr (fun i _ => by simp))⟩
    case round =>
      obtain ⟨j, hj, rfl, rfl, hbw, HW⟩ := hrel
      by_cases hlt : j < n
      · have hi' : (j : Int) < (n : Int) := by omega
        go_wp2_with fail
        refine (markText (k + j) wr (by omega) (by omega)).mono ?_
        rintro e w1 ⟨rfl, hb1⟩
        have R1 := row_below hb1 HW.out HW.out.lt
        have hc := R1.cell (i := j) (by have := HM.out; omega)
        simp only [Nat.lt_irrefl, if_false] at hc
        have hfz := R1.frozen j
        have HS := Lib.hid (R1.set j (.string (mkText (k + j))))
        have HBt := Lib.hid (hbw.trans (Btw.of_below hb1 lo hi))
        clear R1 HW hbw hb1
        generalize f j = y at hc
        go_wp2
        go_roundw
        case rel =>
          refine ⟨j + 1, by omega, by go_num, by go_num, HBt.out.setCell h1 h2 _, Lib.hid (HS.out.congr (fun x _ => ?_))⟩
          show (if x = j then Value.string (mkText (k + j)) else if x < j then _ else _) = _
          by_cases e : x = j
          · subst e; rw [if_pos rfl, if_pos (by omega)]
          · rw [if_neg e]
            by_cases e2 : x < j
            · rw [if_pos e2, if_pos (by omega)]
            · rw [if_neg e2, if_neg (by omega)]
        case measure => simp [intOf]; omega
      · go_wp2
        go_ret
        have ej : j = n := by omega
        subst ej
        exact ⟨rfl, Lib.hid (.inr ⟨b, m, _, rfl, h1, h2, by rw [marksS_len]; exact HM.out, HW.out, fun i hi' => by rw [marksS_len] at hi'; rw [if_pos hi', marksS_at k j i hi']⟩), hbw⟩

set_option maxRecDepth 100000 in
set_option maxHeartbeats 2000000 in
theorem heldStringS (A : Option Addr) (n c k : Nat) (w : World) (hk : 1 ≤ k) (hk2 : k + n ≤ 1099511627776) (h : StrL w A (marksS k n)) :
    Calls Try.prog 52 #[.slice A n c, .int .i64 k] w fun e w' => e = .returned (.int .i64 ((k + n : Nat) : Int)) ∧ Below w.heap.size w w' := by
  have H := Lib.hid h
  clear h
  go_enter Try.func52, Try.ntmps52
  go_wp2
  go_loopw [5, 1] (fun i kk wr => ∃ j : Nat, j ≤ n ∧ i = .int .i64 j ∧ kk = .int .i64 ((k + j : Nat) : Int) ∧ Below w.heap.size w wr) (fun i _ _ => n - (intOf i).toNat)
  case atStart => exact ⟨0, Nat.zero_le _, rfl, rfl, Below.refl _ _⟩
  case round =>
    obtain ⟨j, hj, rfl, rfl, hbw⟩ := hrel
    by_cases hlt : j < n
    · obtain ⟨b, off, rfl, hc⟩ := (H.out.below hbw) j (by rw [marksS_len]; exact hlt)
      rw [marksS_at k n j hlt] at hc
      have hi' : (j : Int) < (n : Int) := by omega
      have hi0 : (0 : Int) ≤ (j : Int) := by omega
      have HT := Lib.hid (markText (k + j))
      have HK := Lib.hid (fun W (hb : Below wr.heap.size wr W) => (hb.cell (cell_lt hc)).trans hc)
      have h6 : Below wr.heap.size wr wr.drew := (Below.refl _ _).drew
      generalize mkText (k + j) = t at hc HT HK
      have hq : (t.toList == t.toList) = true := by simp
      go_wp2
      go_region_held3 (fun W => W.cell? ⟨b, off + j, none⟩ = some (.string t))
        (first | exact HK.out _ h6 | exact HK.out _ (bt h6 hb1))
        (first | (go_at_call 51; refine (HT.out _ (by omega) (by omega)).mono ?_; rintro e w1 ⟨rfl, hb1⟩))
      go_wp2
      go_roundw
      case rel => exact ⟨j + 1, by omega, by go_num, by go_num, bt hbw (bt h6 hb1)⟩
      case measure => simp [intOf]; omega
    · go_wp2
      go_ret
      have ej : j = n := by omega
      subst ej
      exact ⟨rfl, hbw⟩

def markCell (k x : Nat) : Value := if x % 2 = 0 then .int .i64 ((k + x : Nat) : Int) else .string (mkText (k + x))

set_option maxRecDepth 100000 in
set_option maxHeartbeats 2000000 in
theorem markWriteS (A : Option Addr) (n c k lo hi : Nat) (ws : List (Int × ByteArray)) (w : World) (hl : ws.length = n) (hk : 1 ≤ k) (hn : n ≤ 1099511627776) (hk2 : k + n * 2 ≤ 1099511627776) (h : OwnW w lo hi A ws) :
    Calls Try.prog 50 #[.slice A n c, .int .i64 k] w (MarkedW lo hi A k n w) := by
  rcases h with rfl | ⟨b, m, f, rfl, h1, h2, hm, hr, hf⟩
  · obtain rfl : n = 0 := hl.symm
    go_enter Try.func50, Try.ntmps50
    go_wp2
    go_loop [5, 1] (fun i kk => i = .int .i64 0 ∧ kk = .int .i64 k) (fun _ _ => 0)
    case atStart => exact ⟨rfl, rfl⟩
    case round =>
      obtain ⟨rfl, rfl⟩ := hrel
      go_wp2
      go_ret
      exact ⟨by simp, Lib.hid (.inl rfl), Btw.refl _ _ _⟩
  · have HM : Hid (n * 2 ≤ m) := Lib.hid (by omega)
    have HR := Lib.hid hr
    clear hl hm hr hf
    go_enter Try.func50, Try.ntmps50
    go_wp2
    go_loopw [5, 1] (fun i kk wr => ∃ j : Nat, j ≤ n ∧ i = .int .i64 j ∧ kk = .int .i64 ((k + j * 2 : Nat) : Int) ∧ Btw lo hi w wr ∧ Hid (wr.rowIs b 87 m (fun x => if x < j * 2 then markCell k x else f x))) (fun i _ _ => n - (intOf i).toNat)
    case atStart => exact ⟨0, Nat.zero_le _, rfl, rfl, Btw.refl _ _ _, Lib.hid (HR.out.congr (fun i _ => by simp))⟩
    case round =>
      obtain ⟨j, hj, rfl, rfl, hbw, HW⟩ := hrel
      by_cases hlt : j < n
      · have hi' : (j : Int) < (n : Int) := by omega
        generalize hz : k + j * 2 = z
        have HZ := Lib.hid hz
        have hz1 : z + 2 ≤ 1099511627776 := by omega
        clear hz
        have hc := HW.out.cell (i := j * 2) (by have := HM.out; omega)
        rw [if_neg (by omega)] at hc
        have hfz := HW.out.frozen (j * 2)
        have HS := Lib.hid (HW.out.set (j * 2) (.int .i64 (z : Int)))
        have HBt := Lib.hid (hbw.setCell (p := ⟨b, j * 2, none⟩) h1 h2 (.int .i64 (z : Int)))
        generalize f (j * 2) = y at hc
        clear HW hbw
        go_wp2_with fail
        generalize wr.setCell ⟨b, j * 2, none⟩ (.int .i64 (z : Int)) = w0 at HS HBt ⊢
        clear hc hfz
        have HT := Lib.hid (markText (z + 1) w0 (by omega) (by omega))
        rw [show ((z + 1 : Nat) : Int) = (z : Int) + 1 from by omega] at HT
        refine HT.out.mono ?_
        rintro e w1 ⟨rfl, hb1⟩
        have R1 := row_below hb1 HS.out HS.out.lt
        have hc := R1.cell (i := j * 2 + 1) (by have := HM.out; omega)
        rw [if_neg (by omega), if_neg (by omega)] at hc
        have hfz := R1.frozen (j * 2 + 1)
        have HS2 := Lib.hid (R1.set (j * 2 + 1) (.string (mkText (z + 1))))
        have HBt2 := Lib.hid (HBt.out.trans (Btw.of_below hb1 lo hi))
        clear R1 HS HBt hb1 HT
        generalize f (j * 2 + 1) = y at hc
        go_wp2
        go_roundw
        case rel =>
          refine ⟨j + 1, by omega, by go_num, by have := HZ.out; congr 1; omega, HBt2.out.setCell h1 h2 _, Lib.hid (HS2.out.congr (fun x _ => ?_))⟩
          rw [← HZ.out]
          show (if x = j * 2 + 1 then Value.string (mkText (k + j * 2 + 1)) else if x = j * 2 then Value.int .i64 ((k + j * 2 : Nat) : Int) else if x < j * 2 then _ else _) = _
          by_cases e : x = j * 2 + 1
          · subst e
            rw [if_pos rfl, if_pos (by omega)]
            unfold markCell
            rw [if_neg (by omega)]
            rfl
          · rw [if_neg e]
            by_cases e1 : x = j * 2
            · subst e1
              rw [if_pos rfl, if_pos (by omega)]
              unfold markCell
              rw [if_pos (by omega)]
            · rw [if_neg e1]
              by_cases e2 : x < j * 2
              · rw [if_pos e2, if_pos (by omega)]
              · rw [if_neg e2, if_neg (by omega)]
        case measure => simp [intOf]; omega
      · go_wp2
        go_ret
        have ej : j = n := by omega
        subst ej
        refine ⟨rfl, Lib.hid (.inr ⟨b, m, _, rfl, h1, h2, by rw [marksW_len]; exact HM.out, HW.out, fun i hi' => ?_⟩), hbw⟩
        rw [marksW_len] at hi'
        rw [if_pos (by omega), if_pos (by omega), marksW_at k j i hi']
        unfold markCell
        rw [if_pos (by omega), if_neg (by omega)]
        exact ⟨rfl, rfl⟩

set_option maxRecDepth 100000 in
set_option maxHeartbeats 2000000 in
theorem heldWriteS (A : Option Addr) (n c k : Nat) (w : World) (hk : 1 ≤ k) (hk2 : k + n * 2 ≤ 1099511627776) (h : WrL w A (marksW k n)) :
    Calls Try.prog 53 #[.slice A n c, .int .i64 k] w fun e w' => e = .returned (.int .i64 ((k + n * 2 : Nat) : Int)) ∧ Below w.heap.size w w' := by
  have H := Lib.hid h
  clear h
  go_enter Try.func53, Try.ntmps53
  go_wp2
  go_loopw [5, 1] (fun i kk wr => ∃ j : Nat, j ≤ n ∧ i = .int .i64 j ∧ kk = .int .i64 ((k + j * 2 : Nat) : Int) ∧ Below w.heap.size w wr) (fun i _ _ => n - (intOf i).toNat)
  case atStart => exact ⟨0, Nat.zero_le _, rfl, rfl, Below.refl _ _⟩
  case round =>
    obtain ⟨j, hj, rfl, rfl, hbw⟩ := hrel
    by_cases hlt : j < n
    · obtain ⟨b, off, rfl, hc, hd⟩ := (H.out.below hbw) j (by rw [marksW_len]; exact hlt)
      rw [marksW_at k n j hlt] at hc hd
      simp only at hc hd
      have hi' : (j : Int) < (n : Int) := by omega
      have hi0 : (0 : Int) ≤ (j : Int) := by omega
      have HT := Lib.hid (markText (k + j * 2 + 1))
      have HK := Lib.hid (fun W (hb : Below wr.heap.size wr W) => (hb.cell (cell_lt hd)).trans hd)
      have h6 : Below wr.heap.size wr wr.drew := (Below.refl _ _).drew
      generalize mkText (k + j * 2 + 1) = t at hd HT HK
      have hq : (t.toList == t.toList) = true := by simp
      generalize hz : k + j * 2 = z at hc HT
      have HZ := Lib.hid hz
      have hz1 : z ≤ 1099511627776 := by omega
      have hz2 : 1 ≤ z + 1 := by omega
      have hz3 : z + 1 ≤ 1099511627776 := by omega
      have hqz : ((z : Int) != (z : Int)) = false := by simp
      have e1 : ((z + 1 : Nat) : Int) = (z : Int) + 1 := by omega
      rw [e1] at HT
      clear hz e1
      go_wp2
      go_region_held3 (fun W => W.cell? ⟨b, off + j * 2 + 1, none⟩ = some (.string t))
        (first | exact HK.out _ h6 | exact HK.out _ (bt h6 hb1))
        (first | (go_at_call 51; refine (HT.out _ hz2 hz3).mono ?_; rintro e w1 ⟨rfl, hb1⟩))
      go_wp2
      go_roundw
      case rel => exact ⟨j + 1, by omega, by go_num, by have := HZ.out; congr 1; omega, bt hbw (bt h6 hb1)⟩
      case measure => simp [intOf]; omega
    · go_wp2
      go_ret
      have ej : j = n := by omega
      subst ej
      exact ⟨rfl, hbw⟩

/-- What the marks of a disk leave. -/
def MarkedDisk (lo hi : Nat) (A C : Option Addr) (k n m : Nat) (w : World) (e : Ending) (w' : World) : Prop :=
  e = .returned (.int .i64 ((k + n + m * 2 : Nat) : Int)) ∧ Hid (OwnS w' lo hi A (marksS k n)) ∧ Hid (OwnW w' lo hi C (marksW (k + n) m)) ∧ Btw lo hi w w'


theorem OwnS.wide {w : World} {lo hi lo' hi' : Nat} {A : Option Addr} {ss : List ByteArray} (h : OwnS w lo hi A ss) (h1 : lo' ≤ lo) (h2 : hi ≤ hi') : OwnS w lo' hi' A ss := by
  rcases h with e | ⟨b, m, f, e, q1, q2, q3, q4, q5⟩
  · exact .inl e
  · exact .inr ⟨b, m, f, e, by omega, by omega, q3, q4, q5⟩
theorem OwnW.wide {w : World} {lo hi lo' hi' : Nat} {A : Option Addr} {ws : List (Int × ByteArray)} (h : OwnW w lo hi A ws) (h1 : lo' ≤ lo) (h2 : hi ≤ hi') : OwnW w lo' hi' A ws := by
  rcases h with e | ⟨b, m, f, e, q1, q2, q3, q4, q5⟩
  · exact .inl e
  · exact .inr ⟨b, m, f, e, by omega, by omega, q3, q4, q5⟩
/-- The one block that a slice of strings has; rows of another type lie elsewhere. -/
theorem OwnS.narrow {w : World} {lo hi : Nat} {A : Option Addr} {ss : List ByteArray} (h : OwnS w lo hi A ss) : ∃ l r, lo ≤ l ∧ r ≤ hi ∧ OwnS w l r A ss ∧ ∀ b n f, w.rowIs b 87 n f → b < l ∨ r ≤ b := by
  rcases h with e | ⟨b, m, f, e, q1, q2, q3, q4, q5⟩
  · exact ⟨lo, 0, Nat.le_refl _, Nat.zero_le _, .inl e, fun _ _ _ _ => .inr (Nat.zero_le _)⟩
  · refine ⟨b, b + 1, q1, by omega, .inr ⟨b, m, f, e, Nat.le_refl _, by omega, q3, q4, q5⟩, fun b' n' f' h' => ?_⟩
    have := row_ne q4 h' (by decide)
    omega
theorem OwnW.narrow {w : World} {lo hi : Nat} {A : Option Addr} {ws : List (Int × ByteArray)} (h : OwnW w lo hi A ws) : ∃ l r, lo ≤ l ∧ r ≤ hi ∧ OwnW w l r A ws ∧ ∀ b n f, w.rowIs b 9 n f → b < l ∨ r ≤ b := by
  rcases h with e | ⟨b, m, f, e, q1, q2, q3, q4, q5⟩
  · exact ⟨lo, 0, Nat.le_refl _, Nat.zero_le _, .inl e, fun _ _ _ _ => .inr (Nat.zero_le _)⟩
  · refine ⟨b, b + 1, q1, by omega, .inr ⟨b, m, f, e, Nat.le_refl _, by omega, q3, q4, q5⟩, fun b' n' f' h' => ?_⟩
    have := row_ne q4 h' (by decide)
    omega
theorem OwnS.apart {w w' : World} {lo hi l r : Nat} {A : Option Addr} {ss : List ByteArray} (h : OwnS w lo hi A ss) (hb : Btw l r w w') (ha : ∀ b n f, w.rowIs b 9 n f → b < l ∨ r ≤ b) : OwnS w' lo hi A ss := by
  rcases h with e | ⟨b, m, f, e, q1, q2, q3, q4, q5⟩
  · exact .inl e
  · exact .inr ⟨b, m, f, e, q1, q2, q3, hb.row q4 (ha b m f q4), q5⟩
theorem OwnW.apart {w w' : World} {lo hi l r : Nat} {A : Option Addr} {ws : List (Int × ByteArray)} (h : OwnW w lo hi A ws) (hb : Btw l r w w') (ha : ∀ b n f, w.rowIs b 87 n f → b < l ∨ r ≤ b) : OwnW w' lo hi A ws := by
  rcases h with e | ⟨b, m, f, e, q1, q2, q3, q4, q5⟩
  · exact .inl e
  · exact .inr ⟨b, m, f, e, q1, q2, q3, hb.row q4 (ha b m f q4), q5⟩

set_option maxRecDepth 100000 in
set_option maxHeartbeats 2000000 in
theorem markDisk (A C : Option Addr) (n c m d lo hi : Nat) (ss : List ByteArray) (ws : List (Int × ByteArray)) (w : World) (hl : ss.length = n) (hm : ws.length = m) (hn : n ≤ 4294967296) (hmm : m ≤ 4294967296) (h : OwnS w lo hi A ss) (g : OwnW w lo hi C ws) (hhi : hi ≤ w.heap.size) :
    Calls Try.prog 17 #[.agg #[.slice A n c, .slice C m d], .int .i64 1] w (MarkedDisk lo hi A C 1 n m w) := by
  have hb0 : Below w.heap.size w (w.alloc (.cells #[.slice A n c, .slice C m d] 30)) := (Below.refl _ _).alloc (Nat.le_refl _) _
  obtain ⟨l, r, q1, q2, h', q3⟩ := (h.below hb0).narrow
  have HC := Lib.hid (markStringS A n c 1 l r ss _ hl (by omega) (by omega) (by omega) h')
  have HD := Lib.hid (fun l r W (hw : OwnW W l r C ws) => markWriteS C m d (1 + n) l r ws W hm (by omega) (by omega) (by omega) hw)
  have X := Lib.hid (Box.new w 30 #[.slice A n c, .slice C m d])
  have G := Lib.hid (g.below hb0)
  have HT := Lib.hid (Btw.of_below hb0 lo hi)
  have HQ := Lib.hid q3
  clear hl hm h g hb0 h' q3
  go_enter Try.func17, Try.ntmps17
  go_wp2_with fail
  refine HC.out.mono ?_
  rintro e w1 ⟨rfl, HS1, hb1⟩
  have X1 := X.out.btw hb1 (by omega)
  have f1 : w1.cell? ⟨w.heap.size, 1, none⟩ = some (.slice C m d) := X1.cell 1 rfl
  have HG1 := Lib.hid (G.out.apart hb1 HQ.out)
  obtain ⟨l2, r2, p1, p2, g', p3⟩ := HG1.out.narrow
  have HB1 := Lib.hid (HT.out.trans (hb1.wide q1 q2))
  have HD2 := Lib.hid (HD.out l2 r2 w1 g')
  have HS2 := Lib.hid (HS1.out.wide q1 q2)
  have HP := Lib.hid p3
  rw [show ((1 + n : Nat) : Int) = 1 + (n : Int) from by omega] at HD2
  clear X1 HG1 g' p3 hb1 HS1 HC HD X G HT HQ
  go_wp2_with fail
  refine HD2.out.mono ?_
  rintro e w2 ⟨rfl, HW2, hb2⟩
  have HF := Lib.hid (HB1.out.trans (hb2.wide p1 p2))
  have HS3 := Lib.hid (HS2.out.apart hb2 HP.out)
  have HW3 := Lib.hid (HW2.out.wide p1 p2)
  clear hb2 HS2 HW2 HB1 HD2 HP f1
  go_wp2
  go_ret
  exact ⟨rfl, HS3, HW3, HF.out⟩

set_option maxRecDepth 100000 in
set_option maxHeartbeats 2000000 in
theorem heldDisk (A C : Option Addr) (n c m d : Nat) (w : World) (hn : n ≤ 4294967296) (hmm : m ≤ 4294967296) (h : StrL w A (marksS 1 n)) (g : WrL w C (marksW (1 + n) m)) :
    Calls Try.prog 19 #[.agg #[.slice A n c, .slice C m d], .int .i64 1] w fun e w' => e = .returned (.int .i64 ((1 + n + m * 2 : Nat) : Int)) ∧ Below w.heap.size w w' := by
  have hb0 : Below w.heap.size w (w.alloc (.cells #[.slice A n c, .slice C m d] 30)) := (Below.refl _ _).alloc (Nat.le_refl _) _
  have HC := Lib.hid (heldStringS A n c 1 _ (by omega) (by omega) (h.below hb0))
  have HD := Lib.hid (fun W (hb : Below w.heap.size w W) => heldWriteS C m d (1 + n) W (by omega) (by omega) (g.below hb))
  have X := Lib.hid (Box.new w 30 #[.slice A n c, .slice C m d])
  clear h g
  go_enter Try.func19, Try.ntmps19
  go_wp2_with fail
  refine HC.out.mono ?_
  rintro e w1 ⟨rfl, hb1⟩
  have f1 : w1.cell? ⟨w.heap.size, 1, none⟩ = some (.slice C m d) := (X.out.step hb1).cell 1 rfl
  have hb2 := bt hb0 hb1
  have hp : ¬ (1 : Int) + (n : Int) < 0 := by omega
  have HD2 := Lib.hid (HD.out w1 hb2)
  rw [show ((1 + n : Nat) : Int) = 1 + (n : Int) from by omega] at HD2
  clear HC HD X hb1 hb0
  go_wp2_with fail
  refine HD2.out.mono ?_
  rintro e w2 ⟨rfl, hb3⟩
  have hp2 : ¬ (1 : Int) + (n : Int) + (m : Int) * 2 < 0 := by omega
  go_wp2
  go_ret
  exact ⟨rfl, bt hb2 hb3⟩
end Go.Proofs.Ytlfmniekbiffjaa

/- A disk of the call's own behind a box: kept over what is new, and over writes elsewhere. -/
namespace Go.Proofs.Ytlfmniekbiffjaa
open Go.RowKit

/-- Block b holds this disk's two slices; their rows lie from lo on and below hi. -/
structure BD (w : World) (b lo hi : Nat) (A : Option Addr) (n c : Nat) (C : Option Addr) (m d : Nat) (ss : List ByteArray) (ws : List (Int × ByteArray)) : Prop where
  box : Box w b 30 #[.slice A n c, .slice C m d]
  s : OwnS w lo hi A ss
  r : OwnW w lo hi C ws

section
variable {w w' : World} {b lo hi : Nat} {A : Option Addr} {n c : Nat} {C : Option Addr} {m d : Nat} {ss : List ByteArray} {ws : List (Int × ByteArray)}
theorem BD.step (h : BD w b lo hi A n c C m d ss ws) (hb : Below w.heap.size w w') : BD w' b lo hi A n c C m d ss ws := ⟨h.box.step hb, h.s.below hb, h.r.below hb⟩
theorem BD.btw {l r : Nat} (h : BD w b lo hi A n c C m d ss ws) (hb : Btw l r w w') (h1 : b < l ∨ r ≤ b) (h2 : hi ≤ l ∨ r ≤ lo) : BD w' b lo hi A n c C m d ss ws := ⟨h.box.btw hb h1, h.s.btw hb h2, h.r.btw hb h2⟩
theorem BD.new (hs : OwnS w lo hi A ss) (hr : OwnW w lo hi C ws) : BD (w.alloc (.cells #[.slice A n c, .slice C m d] 30)) w.heap.size lo hi A n c C m d ss ws :=
  have k := (Below.refl w.heap.size w).alloc (Nat.le_refl _) (.cells #[.slice A n c, .slice C m d] 30)
  ⟨Box.new _ _ _, hs.below k, hr.below k⟩
theorem BD.f0 (h : BD w b lo hi A n c C m d ss ws) : w.cell? ⟨b, 0, none⟩ = some (.slice A n c) := h.box.cell 0 rfl
theorem BD.f1 (h : BD w b lo hi A n c C m d ss ws) : w.cell? ⟨b, 1, none⟩ = some (.slice C m d) := h.box.cell 1 rfl
end
theorem alloc_below (w : World) (o : Obj) : Below w.heap.size w (w.alloc o) := (Below.refl _ _).alloc (Nat.le_refl _) o
end Go.Proofs.Ytlfmniekbiffjaa

/- Contracts of szRoot, toRoot, eqRoot, markRoot, heldRoot; a root behind a box. -/
namespace Go.Proofs.Ytlfmniekbiffjaa
open Go.RowKit

/-- The call hands back a root of its own. -/
def GivesRoot (g : Int) (zs : List Int) (w : World) (e : Ending) (w' : World) : Prop :=
  ∃ A n c, e = .returned (.agg #[.int .i64 g, .slice A n c]) ∧ Hid (zs.length = n) ∧ Hid (OwnI w' w.heap.size w'.heap.size A zs) ∧ n ≤ c ∧ Below w.heap.size w w'

/-- Block b holds this root; its row lies from lo on and below hi. -/
structure BR (w : World) (b lo hi : Nat) (g : Int) (A : Option Addr) (n c : Nat) (zs : List Int) : Prop where
  box : Box w b 49 #[.int .i64 g, .slice A n c]
  s : OwnI w lo hi A zs
section
variable {w w' : World} {b lo hi : Nat} {g : Int} {A : Option Addr} {n c : Nat} {zs : List Int}
theorem BR.step (h : BR w b lo hi g A n c zs) (hb : Below w.heap.size w w') : BR w' b lo hi g A n c zs := ⟨h.box.step hb, h.s.below hb⟩
theorem BR.btw {l r : Nat} (h : BR w b lo hi g A n c zs) (hb : Btw l r w w') (h1 : b < l ∨ r ≤ b) (h2 : hi ≤ l ∨ r ≤ lo) : BR w' b lo hi g A n c zs := ⟨h.box.btw hb h1, h.s.btw hb h2⟩
theorem BR.new (hs : OwnI w lo hi A zs) : BR (w.alloc (.cells #[.int .i64 g, .slice A n c] 49)) w.heap.size lo hi g A n c zs :=
  ⟨Box.new _ _ _, hs.below (alloc_below w _)⟩
theorem BR.f0 (h : BR w b lo hi g A n c zs) : w.cell? ⟨b, 0, none⟩ = some (.int .i64 g) := h.box.cell 0 rfl
theorem BR.f1 (h : BR w b lo hi g A n c zs) : w.cell? ⟨b, 1, none⟩ = some (.slice A n c) := h.box.cell 1 rfl
end
theorem OwnI.wide {w : World} {lo hi lo' hi' : Nat} {A : Option Addr} {zs : List Int} (h : OwnI w lo hi A zs) (h1 : lo' ≤ lo) (h2 : hi ≤ hi') : OwnI w lo' hi' A zs := by
  rcases h with e | ⟨b, m, f, e, p1, p2, hm, hr, hf⟩
  · exact .inl e
  · exact .inr ⟨b, m, f, e, by omega, by omega, hm, hr, hf⟩
theorem OwnI.far {w : World} {lo hi : Nat} {A : Option Addr} {zs : List Int} (h : OwnI w lo hi A zs) {b : Nat} {t : TypeId} {cs : Array Value} (X : Box w b t cs) (ht : t ≠ 3) (i : Nat) (u : Value) : OwnI (w.setCell ⟨b, i, none⟩ u) lo hi A zs := by
  rcases h with e | ⟨b', m, f, e, p1, p2, hm, hr, hf⟩
  · exact .inl e
  · exact .inr ⟨b', m, f, e, p1, p2, hm, hr.setOther (a := ⟨b, i, none⟩) (by exact (X.ne hr ht).symm) u, hf⟩

end Go.Proofs.Ytlfmniekbiffjaa

/- A map[int]bool of the call's own whose values are all true: a set of integers, as the list of its keys. -/
namespace Go.Proofs.Ytlfmniekbiffjaa
open Go.RowKit

/-- Block b is a map with these keys, each with the value true. -/
def SetI (w : World) (b : Nat) (ks : List Int) : Prop :=
  ∃ es clock, w.heap[b]? = some (.map es clock) ∧ es.toList.map (·.key) = ks.map (Value.int .i64) ∧ ∀ x ∈ es.toList, x.val = .bool true
def addK (ks : List Int) (z : Int) : List Int := if z ∈ ks then ks else ks ++ [z]
/-- The keys behind the first of some numbers. -/
def keysOf (zs : List Int) : List Int := zs.foldl addK []

theorem SetI.lt {w : World} {b : Nat} {ks : List Int} (h : SetI w b ks) : b < w.heap.size := by
  obtain ⟨es, clock, hb, _⟩ := h
  exact (Array.getElem?_eq_some_iff.1 hb).1
theorem SetI.below {w w' : World} {b : Nat} {ks : List Int} (h : SetI w b ks) (hb : Below w.heap.size w w') : SetI w' b ks := by
  have hlt := h.lt
  obtain ⟨es, clock, h1, h2, h3⟩ := h
  exact ⟨es, clock, (hb.block b hlt).trans h1, h2, h3⟩
theorem SetI.made (w : World) : SetI (w.alloc (.map #[] 0)) w.heap.size [] := ⟨#[], 0, (MapKept.heap_alloc w _).1, by simp, by simp⟩

theorem find_set (z : Int) : ∀ (l : List MapEntry) (ks : List Int) (i : Nat), l.map (·.key) = ks.map (Value.int .i64) → (∀ x ∈ l, x.val = .bool true) →
    (z ∈ ks → ∃ j e0, Instr.findNow (.int .i64) (.int .i64 z) l i = some (some (i + j, .bool true)) ∧ l[j]? = some e0 ∧ e0.key = .int .i64 z) ∧
    (z ∉ ks → Instr.findNow (.int .i64) (.int .i64 z) l i = some none)
  | [], ks, i, hk, _ => by
    have : ks = [] := by cases ks with | nil => rfl | cons a r => simp at hk
    subst this
    exact ⟨fun h => by simp at h, fun _ => rfl⟩
  | e :: l, [], i, hk, _ => by simp at hk
  | e :: l, k :: ks, i, hk, hv => by
    simp only [List.map_cons, List.cons.injEq] at hk
    obtain ⟨hk1, hk2⟩ := hk
    have ih := find_set z l ks (i + 1) hk2 (fun x hx => hv x (by simp [hx]))
    by_cases hz : z = k
    · subst hz
      refine ⟨fun _ => ⟨0, e, ?_, by simp, hk1⟩, fun h => by simp at h⟩
      simp only [Instr.findNow, hk1, Instr.sameNow, if_true, beq_self_eq_true, Nat.add_zero]
      rw [hv e (by simp)]
    · have hs : (z == k) = false := by simpa using hz
      have hf : Instr.findNow (.int .i64) (.int .i64 z) (e :: l) i = Instr.findNow (.int .i64) (.int .i64 z) l (i + 1) := by
        simp only [Instr.findNow, hk1, Instr.sameNow, if_true, hs]
      constructor
      · intro h
        have h' : z ∈ ks := by simpa [hz] using h
        obtain ⟨j, e0, q1, q2, q3⟩ := ih.1 h'
        exact ⟨j + 1, e0, by rw [hf, q1]; congr 3; omega, by simpa using q2, q3⟩
      · intro h
        rw [hf]
        exact ih.2 (fun q => h (by simp [q]))

section
variable {P : Program} {t k e : TypeId}
theorem run_set_len {w : World} {b : Nat} {ks : List Int} (ht : P.underlying t = some (.map k e)) (h : SetI w b ks) (ty : TypeId) : (Builtin.len_ #[t] ty #[.map (some b)]).run P w = .ok (.int .i64 (ks.length : Int)) w := by
  obtain ⟨es, clock, hb, hk, _⟩ := h
  have e1 : es.size = ks.length := by have := congrArg List.length hk; simpa using this
  simp [Builtin.len_, run_underlying ht, MapKept.run_getObj_map hb, goInt, Result.andThen, e1]
theorem run_set_look {w : World} {b : Nat} {ks : List Int} (ht : P.underlying t = some (.map k e)) (hk : P.underlying k = some (.int .i64)) (hz : (zeroValue e).run P w = .ok (.bool false) w) (h : SetI w b ks) (z : Int) :
    (Instr.lookup t (.map (some b)) (.int .i64 z) false).run P w = .ok (.bool (decide (z ∈ ks))) w := by
  obtain ⟨es, clock, hb, hks, hv⟩ := h
  have hf := find_set z es.toList ks 0 hks hv
  by_cases hm : z ∈ ks
  · obtain ⟨j, e0, q1, _, _⟩ := hf.1 hm
    simp [Instr.lookup, run_underlying ht, MapKept.run_getObj_map hb, MapKept.run_checkKey (w := w) hk (show MapKept.IsKey (.int .i64) (.int .i64 z) from rfl) _ 9999, MapKept.run_findKey (w := w) hk q1, Result.andThen, hm]
  · have q1 := hf.2 hm
    simp [Instr.lookup, run_underlying ht, MapKept.run_getObj_map hb, MapKept.run_checkKey (w := w) hk (show MapKept.IsKey (.int .i64) (.int .i64 z) from rfl) _ 9999, MapKept.run_findKey (w := w) hk q1, hz, Result.andThen, hm]
theorem run_set_add {w : World} {b : Nat} {ks : List Int} (ht : P.underlying t = some (.map k e)) (hk : P.underlying k = some (.int .i64)) (h : SetI w b ks) (z : Int) :
    ∃ w', (Instr.mapUpdate t (.map (some b)) (.int .i64 z) (.bool true)).run P w = .ok () w' ∧ SetI w' b (addK ks z) ∧ w.grownBy w' (some b) := by
  obtain ⟨es, clock, hb, hks, hv⟩ := h
  have hf := find_set z es.toList ks 0 hks hv
  have hg : ∀ es' c', w.grownBy (ChangeMaps.setBlock w b (.map es' c')) (some b) := fun es' c' => ⟨rfl, rfl, rfl, by simp [ChangeMaps.setBlock], fun i _ hi => ChangeMaps.heap_setBlock_other hb _ (fun e => hi (by rw [e]))⟩
  by_cases hm : z ∈ ks
  · obtain ⟨j, e0, q1, q2, q3⟩ := hf.1 hm
    have q2' : es[j]? = some e0 := by simpa using q2
    refine ⟨ChangeMaps.setBlock w b (.map (es.modify j fun e => { e with key := .int .i64 z, val := .bool true }) clock), ?_, ⟨_, _, ChangeMaps.heap_setBlock_same hb _, ?_, ?_⟩, hg _ _⟩
    · simp [Instr.mapUpdate, run_underlying ht, MapKept.run_getObj_map hb, MapKept.run_checkKey (w := w) hk (show MapKept.IsKey (.int .i64) (.int .i64 z) from rfl) _ 9999, MapKept.run_findKey (w := w) hk q1, q2', q3, MapKept.run_keyThatStays (w := w) (show MapKept.IsKey (.int .i64) (.int .i64 z) from rfl), MapKept.run_setObj_map _ hb, Result.andThen, ChangeMaps.setBlock]
    · unfold addK
      rw [if_pos hm, ← hks]
      apply List.ext_getElem?
      intro i
      simp only [List.getElem?_map, Array.getElem?_toList, Array.getElem?_modify]
      by_cases hij : j = i
      · subst hij; simp [q2', q3]
      · simp [hij]
    · intro x hx
      obtain ⟨i, hi⟩ := List.getElem?_of_mem hx
      rw [Array.getElem?_toList, Array.getElem?_modify] at hi
      by_cases hij : j = i
      · subst hij; simp [q2'] at hi; rw [← hi]
      · simp [hij] at hi
        exact hv x (by rw [Array.mem_toList_iff]; exact Array.mem_of_getElem? hi)
  · have q1 := hf.2 hm
    refine ⟨ChangeMaps.setBlock w b (.map (es.push ⟨.int .i64 z, .bool true, clock⟩) (clock + 1)), ?_, ⟨_, _, ChangeMaps.heap_setBlock_same hb _, ?_, ?_⟩, hg _ _⟩
    · simp [Instr.mapUpdate, run_underlying ht, MapKept.run_getObj_map hb, MapKept.run_checkKey (w := w) hk (show MapKept.IsKey (.int .i64) (.int .i64 z) from rfl) _ 9999, MapKept.run_findKey (w := w) hk q1, MapKept.run_setObj_map _ hb, Result.andThen, ChangeMaps.setBlock]
    · unfold addK
      rw [if_neg hm]
      simp [hks]
    · intro x hx
      simp only [Array.toList_push, List.mem_append, List.mem_singleton] at hx
      rcases hx with hx | rfl
      · exact hv x hx
      · rfl
end

theorem wpList_set_add {P : Program} (w : World) {ops : Array Oper} {rest : List Oper} {o : Oper} {a : Act} {Q : Exit → Act → World → Prop}
    (hg : o.guard = none) (m x v : Operand) (t : TypeId) (hop : o.op = Op.mapUpdate t m x v) (k e : TypeId) (ht : P.underlying t = some (.map k e)) (hk : P.underlying k = some (.int .i64)) (b : Nat) (ks : List Int) (z : Int)
    (hm : a.eval m = .map (some b)) (hx : a.eval x = .int .i64 z) (hv : a.eval v = .bool true) (hown : SetI w b ks)
    (hK : ∀ w', SetI w' b (addK ks z) → w.grownBy w' (some b) → wpList P ops Q rest (a.put o.dst undef) w') :
    wpList P ops Q (o :: rest) a w := by
  refine wpList_plain hg fun K' hK' => ?_
  obtain ⟨w', hrun, r1, r2⟩ := run_set_add ht hk hown z
  unfold Oper.wp
  simp [execOp, hop, hm, hx, hv, hrun, Result.andThen]
  exact hK' _ _ (hK w' r1 r2)

theorem keysOf_step (zs : List Int) (k : Nat) (h : k < zs.length) : keysOf (zs.take (k + 1)) = addK (keysOf (zs.take k)) (zs.getD k 0) := by
  unfold keysOf
  rw [List.take_succ_eq_append_getElem h, List.foldl_append, List.getD_eq_getElem?_getD, List.getElem?_eq_getElem h]
  rfl

/- The pure side: the keys are the numbers, each once. -/
theorem fold_mem (z : Int) : ∀ (zs ks : List Int), z ∈ zs.foldl addK ks ↔ z ∈ ks ∨ z ∈ zs
  | [], ks => by simp
  | a :: zs, ks => by
    rw [List.foldl_cons, fold_mem z zs]
    unfold addK
    split
    · rename_i h
      constructor
      · rintro (q | q)
        · exact .inl q
        · exact .inr (by simp [q])
      · rintro (q | q)
        · exact .inl q
        · simp at q
          rcases q with rfl | q
          · exact .inl h
          · exact .inr q
    · simp [or_assoc]
theorem keysOf_mem (zs : List Int) (z : Int) : z ∈ keysOf zs ↔ z ∈ zs := by
  unfold keysOf; rw [fold_mem]; simp
theorem fold_len (zs : List Int) : ∀ ks : List Int, ks.Nodup → (zs.foldl addK ks).length ≤ ks.length + zs.length ∧ ((zs.foldl addK ks).length = ks.length + zs.length ↔ (ks ++ zs).Nodup) := by
  induction zs with
  | nil => intro ks h; simp [h]
  | cons a zs ih =>
    intro ks h
    rw [List.foldl_cons]
    by_cases hm : a ∈ ks
    · have e : addK ks a = ks := by unfold addK; rw [if_pos hm]
      rw [e]
      have := ih ks h
      refine ⟨by simp; omega, ?_⟩
      constructor
      · intro q; simp at q; omega
      · intro q
        exfalso
        rw [List.nodup_append] at q
        exact q.2.2 a hm a (by simp) rfl
    · have e : addK ks a = ks ++ [a] := by unfold addK; rw [if_neg hm]
      have hn : (ks ++ [a]).Nodup := by rw [List.nodup_append]; exact ⟨h, by simp, fun x hx y hy q => by simp at hy; subst hy; subst q; exact hm hx⟩
      rw [e]
      have := ih (ks ++ [a]) hn
      simp only [List.length_append, List.length_cons, List.length_nil, List.append_assoc, List.cons_append, List.nil_append] at this ⊢
      refine ⟨by omega, ?_⟩
      rw [← this.2]
      constructor <;> intro q <;> omega
theorem keysOf_len (zs : List Int) : (keysOf zs).length ≤ zs.length ∧ ((keysOf zs).length = zs.length ↔ zs.Nodup) := by
  have := fold_len zs [] (by simp)
  simpa [keysOf] using this
end Go.Proofs.Ytlfmniekbiffjaa
