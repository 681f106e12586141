/- Texts of this claim, one behind the other: Mem, Own, App, RegFacts, EqDisk, ToDisk, Ints, SzDisk, IntsMore, Mark, BoxDisk, Bools, Flash, OkDisk, FlashOk, FlashBits, AppFresh, AppNew, FlashSpec. -/
import Derived.WalkKit
import Derived.WalkSpells
import Derived.Lib.Hide
import Derived.Below
import Derived.WalkSmall
import Derived.Deep.OwnRows
import Derived.Test.YtagdclbpgkilgaaRows
import Derived.Laws.AppendOwn
import Derived.OwnWalk
import Derived.Deep.RegionHeld3
import Derived.Deep.QuietTactic
import Derived.BigQuiet
import Derived.StillTailTactics
import Derived.Laws.IdiomStrings
import Derived.Laws.BitsLemmas
/- Words for memory: slices of strings, of writes, of integers as lists; what keeps them. Nothing here is of one program. -/
namespace Go.Proofs.Ytagdclbpgkilgaa
open Go.RowKit

/-- The slice at A holds these strings. -/
def StrL (w : World) (A : Option Addr) (ss : List ByteArray) : Prop :=
  ∀ i, i < ss.length → ∃ b off, A = some ⟨b, off, none⟩ ∧ w.cell? ⟨b, off + i, none⟩ = some (.string (ss.getD i ByteArray.empty))
/-- The slice at A holds these writes (a number and a string each). -/
def WrL (w : World) (A : Option Addr) (ws : List (Int × ByteArray)) : Prop :=
  ∀ i, i < ws.length → ∃ b off, A = some ⟨b, off, none⟩ ∧ w.cell? ⟨b, off + i * 2, none⟩ = some (.int .i64 (ws.getD i (0, ByteArray.empty)).1) ∧
    w.cell? ⟨b, off + i * 2 + 1, none⟩ = some (.string (ws.getD i (0, ByteArray.empty)).2)
/-- The slice at A holds these integers. -/
def IntL (w : World) (A : Option Addr) (zs : List Int) : Prop :=
  ∀ i, i < zs.length → ∃ b off, A = some ⟨b, off, none⟩ ∧ w.cell? ⟨b, off + i, none⟩ = some (.int .i64 (zs.getD i 0))

theorem cell_lt {w : World} {p : Addr} {v : Value} (h : w.cell? p = some v) : p.block < w.heap.size := by
  rcases Nat.lt_or_ge p.block w.heap.size with h1 | h1
  · exact h1
  · unfold World.cell? at h
    rw [Array.getElem?_eq_none h1] at h
    cases h

/-- Every cell of w is in w' as it was, where it lies in a block that keep lets. -/
def Keep (keep : Nat → Prop) (w w' : World) : Prop := ∀ p : Addr, keep p.block → p.block < w.heap.size → w'.cell? p = w.cell? p

theorem Keep.of_below {B : Nat} {w w' : World} (h : Below B w w') : Keep (fun b => b < B) w w' := fun _ hp _ => h.cell hp

theorem StrL.below {w w' : World} {A : Option Addr} {ss : List ByteArray} (h : StrL w A ss) (hb : Below w.heap.size w w') : StrL w' A ss := fun i hi => by
  obtain ⟨b, off, e, hc⟩ := h i hi
  exact ⟨b, off, e, (hb.cell (cell_lt hc)).trans hc⟩
theorem WrL.below {w w' : World} {A : Option Addr} {ws : List (Int × ByteArray)} (h : WrL w A ws) (hb : Below w.heap.size w w') : WrL w' A ws := fun i hi => by
  obtain ⟨b, off, e, hc, hd⟩ := h i hi
  exact ⟨b, off, e, (hb.cell (cell_lt hc)).trans hc, (hb.cell (cell_lt hd)).trans hd⟩
theorem IntL.below {w w' : World} {A : Option Addr} {zs : List Int} (h : IntL w A zs) (hb : Below w.heap.size w w') : IntL w' A zs := fun i hi => by
  obtain ⟨b, off, e, hc⟩ := h i hi
  exact ⟨b, off, e, (hb.cell (cell_lt hc)).trans hc⟩

/-- Below its own size, over two steps. -/
theorem bt {a b c : World} (h : Below a.heap.size a b) (k : Below b.heap.size b c) : Below a.heap.size a c := h.trans (k.mono h.size)

theorem ret_bool {a b : Bool} (h : a = b) : Ending.returned (.bool a) = .returned (.bool b) := by rw [h]
theorem ret_int {a b : Int} (h : a = b) : Ending.returned (.int .i64 a) = .returned (.int .i64 b) := by rw [h]

theorem bytes_beq (a b : ByteArray) : (a.toList == b.toList) = decide (a = b) := by
  rw [ByteArray.toList_eq, ByteArray.toList_eq, Bool.eq_iff_iff]
  simp only [beq_iff_eq, decide_eq_true_eq]
  exact ⟨WideShapes.bytes_inj, fun h => by rw [h]⟩
theorem bytes_bne (a b : ByteArray) : (a.toList != b.toList) = decide (a ≠ b) := by
  rw [bne, bytes_beq]; simp

/-- Two lists, equal so far. -/
theorem take_next {α : Type} {l m : List α} {k : Nat} (d : α) (h : l.take k = m.take k) (hl : k < l.length) (hm : k < m.length) (e : l.getD k d = m.getD k d) : l.take (k + 1) = m.take (k + 1) := by
  rw [List.take_succ_eq_append_getElem hl, List.take_succ_eq_append_getElem hm, h]
  simp only [List.getD_eq_getElem?_getD, List.getElem?_eq_getElem hl, List.getElem?_eq_getElem hm, Option.getD_some] at e
  rw [e]
theorem take_all {α : Type} {l m : List α} {k : Nat} (h : l.take k = m.take k) (hl : l.length ≤ k) (hm : m.length ≤ k) : l = m := by
  rwa [List.take_of_length_le hl, List.take_of_length_le hm] at h
theorem ne_of_at {α : Type} {l m : List α} {k : Nat} (d : α) (e : l.getD k d ≠ m.getD k d) : l ≠ m := fun h => e (by rw [h])
end Go.Proofs.Ytagdclbpgkilgaa

/- Slices in memory of the call's own: rows between two block numbers; what a call that writes only there keeps. -/
namespace Go.Proofs.Ytagdclbpgkilgaa
open Go.RowKit

/-- Of the old blocks only those from lo on and below hi may have turned. -/
structure Btw (lo hi : Nat) (w w' : World) : Prop where
  os : w'.os = w.os
  tape : w'.tape = w.tape
  output : w'.output = w.output
  size : w.heap.size ≤ w'.heap.size
  block : ∀ k, k < w.heap.size → k < lo ∨ hi ≤ k → w'.heap[k]? = w.heap[k]?

theorem Btw.refl (lo hi : Nat) (w : World) : Btw lo hi w w := ⟨rfl, rfl, rfl, Nat.le_refl _, fun _ _ _ => rfl⟩
theorem Btw.trans {lo hi : Nat} {a b c : World} (h : Btw lo hi a b) (k : Btw lo hi b c) : Btw lo hi a c :=
  ⟨k.os.trans h.os, k.tape.trans h.tape, k.output.trans h.output, Nat.le_trans h.size k.size, fun i hi' ho => (k.block i (Nat.lt_of_lt_of_le hi' h.size) ho).trans (h.block i hi' ho)⟩
theorem Btw.of_below {w w' : World} (h : Below w.heap.size w w') (lo hi : Nat) : Btw lo hi w w' := ⟨h.os, h.tape, h.output, h.size, fun k hk _ => h.block k hk⟩
theorem Btw.below {lo hi : Nat} {w w' : World} (h : Btw lo hi w w') (hl : lo ≤ w.heap.size) : Below lo w w' := ⟨h.os, h.tape, h.output, h.size, fun k hk => h.block k (Nat.lt_of_lt_of_le hk hl) (.inl hk)⟩
theorem Btw.wide {lo hi lo' hi' : Nat} {w w' : World} (h : Btw lo hi w w') (h1 : lo' ≤ lo) (h2 : hi ≤ hi') : Btw lo' hi' w w' :=
  ⟨h.os, h.tape, h.output, h.size, fun k hk ho => h.block k hk (by omega)⟩
theorem Btw.drewN {lo hi : Nat} {a w : World} (h : Btw lo hi a w) (n : Nat) : Btw lo hi a (w.drewN n) := ⟨h.os, h.tape, h.output, h.size, h.block⟩
theorem Btw.drew {lo hi : Nat} {a w : World} (h : Btw lo hi a w) : Btw lo hi a w.drew := ⟨h.os, h.tape, h.output, h.size, h.block⟩
theorem Btw.alloc {lo hi : Nat} {a w : World} (h : Btw lo hi a w) (o : Obj) : Btw lo hi a (w.alloc o) := h.trans (Btw.of_below ((Below.refl _ _).alloc (Nat.le_refl _) o) lo hi)
theorem Btw.setCell {lo hi : Nat} {a w : World} (h : Btw lo hi a w) {p : Addr} (h1 : lo ≤ p.block) (h2 : p.block < hi) (u : Value) : Btw lo hi a (w.setCell p u) :=
  ⟨h.os, h.tape, h.output, by simpa [World.setCell] using h.size, fun k hk ho => (Below.heap_setCell w p u k (by omega)).trans (h.block k hk ho)⟩
theorem Btw.cell {lo hi : Nat} {w w' : World} (h : Btw lo hi w w') {p : Addr} {v : Value} (hc : w.cell? p = some v) (ho : p.block < lo ∨ hi ≤ p.block) : w'.cell? p = some v :=
  (World.cell?_of_block (w := w) (h.block p.block (cell_lt hc) ho)).trans hc
theorem Btw.row {lo hi : Nat} {w w' : World} (h : Btw lo hi w w') {b : Nat} {t : TypeId} {n : Nat} {f : Nat → Value} (hr : w.rowIs b t n f) (ho : b < lo ∨ hi ≤ b) : w'.rowIs b t n f :=
  hr.of_block (h.block b hr.lt ho)
theorem row_below {B : Nat} {w w' : World} (h : Below B w w') {b : Nat} {t : TypeId} {n : Nat} {f : Nat → Value} (hr : w.rowIs b t n f) (ho : b < B) : w'.rowIs b t n f := hr.of_block (h.block b ho)
/-- Rows of two element types are two blocks. -/
theorem row_ne {w : World} {b b' : Nat} {t t' : TypeId} {n n' : Nat} {f f' : Nat → Value} (h : w.rowIs b t n f) (h' : w.rowIs b' t' n' f') (ht : t ≠ t') : b ≠ b' := by
  rintro rfl
  obtain ⟨c, hc, _⟩ := h
  obtain ⟨c', hc', _⟩ := h'
  rw [hc] at hc'
  injection hc' with e
  injection e with _ e2
  exact ht e2

/-- A []string of the call's own: its row lies in a block from lo on and below hi. -/
def OwnS (w : World) (lo hi : Nat) (A : Option Addr) (ss : List ByteArray) : Prop :=
  ss = [] ∨ ∃ b m f, A = some ⟨b, 0, none⟩ ∧ lo ≤ b ∧ b < hi ∧ ss.length ≤ m ∧ w.rowIs b 9 m f ∧ ∀ i, i < ss.length → f i = .string (ss.getD i ByteArray.empty)
/-- A []int of the call's own. -/
def OwnI (w : World) (lo hi : Nat) (A : Option Addr) (zs : List Int) : Prop :=
  zs = [] ∨ ∃ b m f, A = some ⟨b, 0, none⟩ ∧ lo ≤ b ∧ b < hi ∧ zs.length ≤ m ∧ w.rowIs b 3 m f ∧ ∀ i, i < zs.length → f i = .int .i64 (zs.getD i 0)

theorem OwnS.reads {w : World} {lo hi : Nat} {A : Option Addr} {ss : List ByteArray} (h : OwnS w lo hi A ss) : StrL w A ss := fun i hi' => by
  rcases h with rfl | ⟨b, m, f, e, _, _, hm, hr, hf⟩
  · simp at hi'
  · exact ⟨b, 0, e, by rw [← hf i hi', Nat.zero_add]; exact hr.cell (by omega)⟩
theorem OwnI.reads {w : World} {lo hi : Nat} {A : Option Addr} {zs : List Int} (h : OwnI w lo hi A zs) : IntL w A zs := fun i hi' => by
  rcases h with rfl | ⟨b, m, f, e, _, _, hm, hr, hf⟩
  · simp at hi'
  · exact ⟨b, 0, e, by rw [← hf i hi', Nat.zero_add]; exact hr.cell (by omega)⟩
theorem OwnS.btw {w w' : World} {lo hi l h' : Nat} {A : Option Addr} {ss : List ByteArray} (h : OwnS w lo hi A ss) (hb : Btw l h' w w') (ho : hi ≤ l ∨ h' ≤ lo) : OwnS w' lo hi A ss := by
  rcases h with e | ⟨b, m, f, e, h1, h2, hm, hr, hf⟩
  · exact .inl e
  · exact .inr ⟨b, m, f, e, h1, h2, hm, hb.row hr (by omega), hf⟩
theorem OwnI.btw {w w' : World} {lo hi l h' : Nat} {A : Option Addr} {zs : List Int} (h : OwnI w lo hi A zs) (hb : Btw l h' w w') (ho : hi ≤ l ∨ h' ≤ lo) : OwnI w' lo hi A zs := by
  rcases h with e | ⟨b, m, f, e, h1, h2, hm, hr, hf⟩
  · exact .inl e
  · exact .inr ⟨b, m, f, e, h1, h2, hm, hb.row hr (by omega), hf⟩
theorem OwnS.below {w w' : World} {lo hi : Nat} {A : Option Addr} {ss : List ByteArray} (h : OwnS w lo hi A ss) (hb : Below w.heap.size w w') : OwnS w' lo hi A ss := h.btw (Btw.of_below hb hi hi) (.inl (Nat.le_refl _))
theorem OwnI.below {w w' : World} {lo hi : Nat} {A : Option Addr} {zs : List Int} (h : OwnI w lo hi A zs) (hb : Below w.heap.size w w') : OwnI w' lo hi A zs := h.btw (Btw.of_below hb hi hi) (.inl (Nat.le_refl _))
/-- Anchored at an older world: whatever turns from that world's size on. -/
theorem StrL.since {B : Nat} {w w' : World} {A : Option Addr} {ss : List ByteArray} (h : StrL w A ss) (hb : Below B w w') (hB : w.heap.size ≤ B) : StrL w' A ss := h.below (hb.mono hB)
theorem StrL.btw {lo hi : Nat} {w w' : World} {A : Option Addr} {ss : List ByteArray} (h : StrL w A ss) (hb : Btw lo hi w w') (hB : w.heap.size ≤ lo) : StrL w' A ss := fun i hi' => by
  obtain ⟨b, off, e, hc⟩ := h i hi'
  exact ⟨b, off, e, hb.cell hc (.inl (Nat.lt_of_lt_of_le (cell_lt hc) hB))⟩

/-- Block b is just these cells, none frozen. -/
def Box (w : World) (b : Nat) (t : TypeId) (cs : Array Value) : Prop := w.heap[b]? = some (.cells cs t (0, 0))
theorem Box.cell {w : World} {b : Nat} {t : TypeId} {cs : Array Value} (h : Box w b t cs) (i : Nat) {v : Value} (hv : cs[i]? = some v) : w.cell? ⟨b, i, none⟩ = some v := by
  unfold Box at h; simp [World.cell?, h, hv]
theorem Box.frozen {w : World} {b : Nat} {t : TypeId} {cs : Array Value} (h : Box w b t cs) (i : Nat) : w.frozen? ⟨b, i, none⟩ = false := by
  unfold Box at h; simp [World.frozen?, h]
theorem Box.lt {w : World} {b : Nat} {t : TypeId} {cs : Array Value} (h : Box w b t cs) : b < w.heap.size := by
  obtain ⟨hlt, _⟩ := Array.getElem?_eq_some_iff.1 h
  exact hlt
theorem Box.below {w w' : World} {B b : Nat} {t : TypeId} {cs : Array Value} (h : Box w b t cs) (hb : Below B w w') (hB : b < B) : Box w' b t cs := (hb.block b hB).trans h
theorem Box.step {w w' : World} {b : Nat} {t : TypeId} {cs : Array Value} (h : Box w b t cs) (hb : Below w.heap.size w w') : Box w' b t cs := h.below hb h.lt
theorem Box.btw {w w' : World} {lo hi b : Nat} {t : TypeId} {cs : Array Value} (h : Box w b t cs) (hb : Btw lo hi w w') (ho : b < lo ∨ hi ≤ b) : Box w' b t cs := (hb.block b h.lt ho).trans h
theorem Box.new (w : World) (t : TypeId) (cs : Array Value) : Box (w.alloc (.cells cs t)) w.heap.size t cs := by
  show (w.heap.push _)[w.heap.size]? = _; simp
theorem Box.alloc {w : World} {b : Nat} {t : TypeId} {cs : Array Value} (h : Box w b t cs) (o : Obj) : Box (w.alloc o) b t cs := h.step ((Below.refl _ _).alloc (Nat.le_refl _) o)
theorem Box.set {w : World} {b : Nat} {t : TypeId} {cs : Array Value} (h : Box w b t cs) (i : Nat) (u : Value) : Box (w.setCell ⟨b, i, none⟩ u) b t (cs.setIfInBounds i u) := by
  unfold Box at h ⊢
  simp [World.setCell, Array.getElem?_modify, h]
theorem Box.far {w : World} {b : Nat} {t : TypeId} {cs : Array Value} (h : Box w b t cs) {p : Addr} (hp : b ≠ p.block) (u : Value) : Box (w.setCell p u) b t cs := (Below.heap_setCell w p u b hp).trans h
theorem Box.drewN {w : World} {b : Nat} {t : TypeId} {cs : Array Value} (h : Box w b t cs) (n : Nat) : Box (w.drewN n) b t cs := h
theorem Box.drew {w : World} {b : Nat} {t : TypeId} {cs : Array Value} (h : Box w b t cs) : Box w.drew b t cs := h
theorem Box.row {w : World} {b : Nat} {t : TypeId} {cs : Array Value} (h : Box w b t cs) (f : Nat → Value) (hf : ∀ i, i < cs.size → cs[i]? = some (f i)) : w.rowIs b t cs.size f := ⟨cs, h, rfl, hf⟩
theorem Box.ne {w : World} {b b' : Nat} {t t' : TypeId} {cs : Array Value} {n : Nat} {f : Nat → Value} (h : Box w b t cs) (h' : w.rowIs b' t' n f) (ht : t ≠ t') : b ≠ b' := by
  rintro rfl
  obtain ⟨c', hc', _⟩ := h'
  unfold Box at h
  rw [h] at hc'
  injection hc' with e
  injection e with _ e2
  exact ht e2
end Go.Proofs.Ytagdclbpgkilgaa

/- Appending one element to a slice of the call's own; what such a slice is good for. -/
namespace Go.Proofs.Ytagdclbpgkilgaa
open Go.RowKit

/-- An element type: its zero value, its cells, its bytes. -/
structure Elem (P : Program) (e : TypeId) (z : Value) (size bytes : Nat) : Prop where
  info : ∃ i : TypeInfo, P.info? e = some i ∧ i.zero = some z ∧ i.size = size ∧ i.bytes = bytes
  cells : z.cells.size = size
  pos : 0 < size

/-- The row v, of n elements with the cells xs, of the call's own: its block lies from base on. -/
abbrev RowV (w : World) (base : Nat) (e : TypeId) (size : Nat) (v : Value) (n : Nat) (xs : List Value) : Prop := w.ownsRow base e size v n xs

theorem rowv_ge {w : World} {base n : Nat} {e : TypeId} {size : Nat} {v : Value} {xs : List Value} (h : w.ownsRow base e size v n xs) : ∀ k, v.ownBlock = some k → base ≤ k := by
  intro k hk
  rcases h.2 with ⟨rfl, _⟩ | ⟨g, cap, cur, rfl, q1, q2⟩
  · simp [Value.ownBlock] at hk
  · simp [Value.ownBlock] at hk; omega
theorem rowv_keep {w w' : World} {base n : Nat} {e : TypeId} {size : Nat} {v : Value} {xs : List Value} (h : w.ownsRow base e size v n xs) (hk : ∀ k, base ≤ k → k < w.heap.size → w'.heap[k]? = w.heap[k]?) : w'.ownsRow base e size v n xs := by
  obtain ⟨h1, h0 | ⟨g, cap, cur, rfl, q1, q2, q3⟩⟩ := h
  · exact ⟨h1, .inl h0⟩
  · refine ⟨h1, .inr ⟨g, cap, cur, rfl, q1, ?_, q3⟩⟩
    have hlt : g < w.heap.size := by
      rcases Nat.lt_or_ge g w.heap.size with hlt | hge
      · exact hlt
      · rw [Array.getElem?_eq_none hge] at q2; cases q2
    rw [hk g q1 hlt]; exact q2
theorem rowv_below {w w' : World} {base n : Nat} {e : TypeId} {size : Nat} {v : Value} {xs : List Value} (h : w.ownsRow base e size v n xs) (hb : Below w.heap.size w w') : w'.ownsRow base e size v n xs := rowv_keep h (fun k _ hk => hb.block k hk)
theorem rowv_set {w : World} {base n : Nat} {e : TypeId} {size : Nat} {v : Value} {xs : List Value} (h : w.ownsRow base e size v n xs) {p : Addr} (hp : p.block < base) (u : Value) : (w.setCell p u).ownsRow base e size v n xs :=
  rowv_keep h (fun k hk _ => Below.heap_setCell w p u k (by omega))
theorem rowv_nil (w : World) (base : Nat) (e : TypeId) (size : Nat) : w.ownsRow base e size (.slice none 0 0) 0 [] := World.ownsRow_nil w base e size
theorem rowv_form {w : World} {base n : Nat} {e : TypeId} {size : Nat} {v : Value} {xs : List Value} (h : w.ownsRow base e size v n xs) : ∃ A cap, v = .slice A n cap ∧ n ≤ cap := by
  rcases h.2 with ⟨rfl, rfl⟩ | ⟨g, cap, cur, rfl, _, _, q, _⟩
  · exact ⟨none, 0, rfl, Nat.le_refl _⟩
  · exact ⟨_, cap, rfl, q⟩
theorem rowv_empty {w : World} {base g : Nat} {t : TypeId} {size : Nat} (hb : base ≤ g) (hg : Box w g t #[]) : w.ownsRow base t size (.slice (some ⟨g, 0, none⟩) 0 0) 0 [] :=
  ⟨by simp, .inr ⟨g, 0, #[], rfl, hb, hg, Nat.le_refl _, Nat.zero_le _, by simp, by simp⟩⟩

theorem wpList_app_one {P : Program} {w : World} {ops : Array Oper} {rest : List Oper} {o : Oper} {a : Act} {Q : Exit → Act → World → Prop} (hgd : o.guard = none) (s x : Operand) (t e : TypeId)
    (ho : o.op = .call { callee := .builtin .append, args := #[s, x], argTypes := #[t, t] }) (z : Value) (size bytes : Nat) (E : Elem P e z size bytes) (ht : P.underlying t = some (.slice e))
    (base : Nat) (v : Value) (n : Nat) (xs : List Value) (hs : a.eval s = v) (hown : w.ownsRow base e size v n xs)
    (b c : Nat) (hx : a.eval x = .slice (some ⟨b, 0, none⟩) 1 c) (news : List Value) (hl : news.length = size) (hnews : ∀ j u, news[j]? = some u → w.cell? ⟨b, j, none⟩ = some u) (h1 : ∀ u ∈ news, u.oneCell' = true)
    (h63 : n + 1 ≤ maxLen) (hby : (n + 1) * bytes ≤ 140737488355328) (hbase : base ≤ w.heap.size)
    (hK : ∀ A cap w', w'.ownsRow base e size (.slice A (n + 1) cap) (n + 1) (xs ++ news) → n + 1 ≤ cap → w.grownBy w' v.ownBlock → Below base w w' → wpList P ops Q rest (a.put o.dst (.slice A (n + 1) cap)) w') : wpList P ops Q (o :: rest) a w := by
  obtain ⟨i, hi, hz, hsz, hb⟩ := E.info
  refine wpList_append_own w hgd s x t ho base e i z size bytes ht hi hz hsz hb E.cells E.pos v n xs hs hown ⟨b, 0, none⟩ 1 c news hx (by rw [hl]; omega) (fun j u hj => ?_) h1 h63 hby hbase (fun v' w' h2 h3 _ => ?_)
  · have := hnews j u hj
    unfold Addr.add
    by_cases h0 : j = 0
    · subst h0; simpa using this
    · rw [if_neg h0]; simpa using this
  · obtain ⟨A, cap, rfl, hcap⟩ := rowv_form h2
    exact hK A cap w' h2 hcap h3 ((Below.refl base w).grown h3 hbase (rowv_ge hown))

theorem wpList_app_many {P : Program} {w : World} {ops : Array Oper} {rest : List Oper} {o : Oper} {a : Act} {Q : Exit → Act → World → Prop} (hgd : o.guard = none) (s x : Operand) (t e : TypeId)
    (ho : o.op = .call { callee := .builtin .append, args := #[s, x], argTypes := #[t, t] }) (z : Value) (size bytes : Nat) (E : Elem P e z size bytes) (ht : P.underlying t = some (.slice e))
    (base : Nat) (v : Value) (n : Nat) (xs : List Value) (hs : a.eval s = v) (hown : w.ownsRow base e size v n xs)
    (ad : Addr) (m c : Nat) (hx : a.eval x = .slice (some ad) m c) (news : List Value) (hl : news.length = m * size) (hnews : ∀ j u, news[j]? = some u → w.cell? (ad.add j) = some u) (h1 : ∀ u ∈ news, u.oneCell' = true)
    (h63 : n + m ≤ maxLen) (hby : (n + m) * bytes ≤ 140737488355328) (hbase : base ≤ w.heap.size)
    (hK : ∀ A cap w', w'.ownsRow base e size (.slice A (n + m) cap) (n + m) (xs ++ news) → n + m ≤ cap → w.grownBy w' v.ownBlock → Below base w w' → wpList P ops Q rest (a.put o.dst (.slice A (n + m) cap)) w') : wpList P ops Q (o :: rest) a w := by
  obtain ⟨i, hi, hz, hsz, hb⟩ := E.info
  refine wpList_append_own w hgd s x t ho base e i z size bytes ht hi hz hsz hb E.cells E.pos v n xs hs hown ad m c news hx hl hnews h1 h63 hby hbase (fun v' w' h2 h3 _ => ?_)
  obtain ⟨A, cap, rfl, hcap⟩ := rowv_form h2
  exact hK A cap w' h2 hcap h3 ((Below.refl base w).grown h3 hbase (rowv_ge hown))

theorem step_app_one {P : Program} {w : World} {ops : Array Oper} {o : Oper} {a : Act} {K : Act → World → Prop} {Q : Exit → Act → World → Prop} {X : Prop} (hgd : o.guard = none) (s x : Operand) (t e : TypeId)
    (ho : o.op = .call { callee := .builtin .append, args := #[s, x], argTypes := #[t, t] }) (z : Value) (size bytes : Nat) (E : Elem P e z size bytes) (ht : P.underlying t = some (.slice e))
    (base : Nat) (v : Value) (n : Nat) (xs : List Value) (hs : a.eval s = v) (hown : w.ownsRow base e size v n xs)
    (b c : Nat) (hx : a.eval x = .slice (some ⟨b, 0, none⟩) 1 c) (news : List Value) (hl : news.length = size) (hnews : ∀ j u, news[j]? = some u → w.cell? ⟨b, j, none⟩ = some u) (h1 : ∀ u ∈ news, u.oneCell' = true)
    (h63 : n + 1 ≤ maxLen) (hby : (n + 1) * bytes ≤ 140737488355328) (hbase : base ≤ w.heap.size)
    (hK : ∀ A cap w', w'.ownsRow base e size (.slice A (n + 1) cap) (n + 1) (xs ++ news) → n + 1 ≤ cap → w.grownBy w' v.ownBlock → Below base w w' → K (a.put o.dst (.slice A (n + 1) cap)) w') :
    if Region.wanted o (yielded ops a.tmps) = true then Oper.wp P o a w K Q else X := by
  have hw : Region.wanted o (yielded ops a.tmps) = true := by simp [Region.wanted, hgd]
  rw [if_pos hw]
  obtain ⟨i, hi, hz, hsz, hb⟩ := E.info
  refine wp_append_own w s x t ho base e i z size bytes ht hi hz hsz hb E.cells E.pos v n xs hs hown ⟨b, 0, none⟩ 1 c news hx (by rw [hl]; omega) (fun j u hj => ?_) h1 h63 hby hbase (fun v' w' h2 h3 _ => ?_)
  · have := hnews j u hj
    unfold Addr.add
    by_cases h0 : j = 0
    · subst h0; simpa using this
    · rw [if_neg h0]; simpa using this
  · obtain ⟨A, cap, rfl, hcap⟩ := rowv_form h2
    exact hK A cap w' h2 hcap h3 ((Below.refl base w).grown h3 hbase (rowv_ge hown))

/-- A box of another type than the row that grows is as it was. -/
theorem Box.grown {w w' : World} {b base n : Nat} {t e : TypeId} {cs : Array Value} {size : Nat} {v : Value} {xs : List Value} (h : Box w b t cs) (hr : w.ownsRow base e size v n xs) (ht : t ≠ e) (hg : w.grownBy w' v.ownBlock) : Box w' b t cs := by
  have hlt := h.lt
  refine (hg.block b hlt ?_).trans h
  rcases hr.2 with ⟨rfl, _⟩ | ⟨g, cap, cur, rfl, _, q2, _⟩
  · simp [Value.ownBlock]
  · simp only [Value.ownBlock, ne_eq, Option.some.injEq]
    rintro rfl
    unfold Box at h
    rw [h] at q2
    injection q2 with q2
    injection q2 with _ q3
    exact ht q3
theorem rowv_setBox {w : World} {base n b : Nat} {t e : TypeId} {cs : Array Value} {size : Nat} {v : Value} {xs : List Value} (h : w.ownsRow base e size v n xs) (X : Box w b t cs) (ht : t ≠ e) (i : Nat) (u : Value) : (w.setCell ⟨b, i, none⟩ u).ownsRow base e size v n xs := by
  obtain ⟨h1, h0 | ⟨g, cap, cur, rfl, q1, q2, q3⟩⟩ := h
  · exact ⟨h1, .inl h0⟩
  · refine ⟨h1, .inr ⟨g, cap, cur, rfl, q1, ?_, q3⟩⟩
    refine (Below.heap_setCell w ⟨b, i, none⟩ u g ?_).trans q2
    rintro rfl
    unfold Box at X
    rw [X] at q2
    injection q2 with q2
    injection q2 with _ q3
    exact ht q3
set_option maxRecDepth 100000 in
theorem elemInt : Elem Try.prog 3 (.int .i64 0) 1 8 := ⟨⟨_, rfl, rfl, rfl, rfl⟩, rfl, by decide⟩
set_option maxRecDepth 100000 in
theorem elemStr : Elem Try.prog 9 (.string ByteArray.empty) 1 16 := ⟨⟨_, rfl, rfl, rfl, rfl⟩, rfl, by decide⟩
/-- A []int of the call's own that grows. -/
def GroI (w : World) (base : Nat) (v : Value) (zs : List Int) : Prop := w.ownsRow base 3 1 v zs.length (zs.map (Value.int .i64))
def GroS (w : World) (base : Nat) (v : Value) (ss : List ByteArray) : Prop := w.ownsRow base 9 1 v ss.length (ss.map Value.string)
theorem GroI.own {w : World} {base lo : Nat} {A : Option Addr} {n c : Nat} {zs : List Int} (h : GroI w base (.slice A n c) zs) (hb : lo ≤ base) : OwnI w lo w.heap.size A zs := by
  obtain ⟨h1, ⟨h0, h2⟩ | ⟨g, cap, cur, hv, q1, q2, q3, q4, q5, q6⟩⟩ := h
  · exact .inl (List.eq_nil_of_length_eq_zero h2)
  · injection hv with hv1 hv2 hv3
    refine .inr ⟨g, cap, fun i => cur.getD i (.int .i64 0), hv1, by omega, (Array.getElem?_eq_some_iff.1 q2).1, q3, ⟨cur, q2, by omega, fun i hi => ?_⟩, fun i hi => ?_⟩
    · simp [Array.getElem?_eq_getElem (show i < cur.size by omega)]
    · have : (cur.toList.take (zs.length * 1))[i]? = (zs.map (Value.int .i64))[i]? := by rw [q6]
      rw [List.getElem?_take, if_pos (by omega), Array.getElem?_toList, List.getElem?_map, List.getElem?_eq_getElem hi] at this
      simp [this, List.getD_eq_getElem?_getD, List.getElem?_eq_getElem hi]
theorem GroS.own {w : World} {base lo : Nat} {A : Option Addr} {n c : Nat} {ss : List ByteArray} (h : GroS w base (.slice A n c) ss) (hb : lo ≤ base) : OwnS w lo w.heap.size A ss := by
  obtain ⟨h1, ⟨h0, h2⟩ | ⟨g, cap, cur, hv, q1, q2, q3, q4, q5, q6⟩⟩ := h
  · exact .inl (List.eq_nil_of_length_eq_zero h2)
  · injection hv with hv1 hv2 hv3
    refine .inr ⟨g, cap, fun i => cur.getD i (.int .i64 0), hv1, by omega, (Array.getElem?_eq_some_iff.1 q2).1, q3, ⟨cur, q2, by omega, fun i hi => ?_⟩, fun i hi => ?_⟩
    · simp [Array.getElem?_eq_getElem (show i < cur.size by omega)]
    · have : (cur.toList.take (ss.length * 1))[i]? = (ss.map Value.string)[i]? := by rw [q6]
      rw [List.getElem?_take, if_pos (by omega), Array.getElem?_toList, List.getElem?_map, List.getElem?_eq_getElem hi] at this
      simp [this, List.getD_eq_getElem?_getD, List.getElem?_eq_getElem hi]
theorem GroI.len {w : World} {base : Nat} {A : Option Addr} {n c : Nat} {zs : List Int} (h : GroI w base (.slice A n c) zs) : zs.length = n := by
  obtain ⟨A', cap, hv, _⟩ := rowv_form h
  injection hv with _ hv2 _; exact hv2.symm
theorem GroS.len {w : World} {base : Nat} {A : Option Addr} {n c : Nat} {ss : List ByteArray} (h : GroS w base (.slice A n c) ss) : ss.length = n := by
  obtain ⟨A', cap, hv, _⟩ := rowv_form h
  injection hv with _ hv2 _; exact hv2.symm
end Go.Proofs.Ytagdclbpgkilgaa

/- A region that draws its order, walked once by facts: each operation, once carried out, has its fact; a fact is kept by whatever comes behind it. -/
namespace Go.Proofs.Ytagdclbpgkilgaa
open Go.RowKit

/-- The slots that a fact looks at. -/
def mask (l : List Nat) (T : Array Value) : Nat → Value := fun s => if l.contains s then T.getD s undef else undef
/-- 'bef': what must have come up before an operation (closed under itself); 'sup': the slots of its fact; 'base': slots that the region leaves alone. -/
def regOk (ops : Array Oper) (sup bef : List (List Nat)) (base : List Nat) : Bool :=
  ((List.range ops.size).all fun i => match ops[i]? with
    | none => false
    | some o => o.guard.isNone && ((o.after.all fun e => !Region.binds .any e || decide (e.on < i)) && (((bef.getD i []).all fun j => o.after.any fun e => Region.binds .any e && (e.on == j || (bef.getD e.on []).contains j)) &&
        ((sup.getD i []).all fun s => (List.range ops.size).all fun j => (match ops[j]? with | some oj => oj.dst != some s | none => true) || ((j == i) || (bef.getD i []).contains j))))) &&
  (base.all fun s => (List.range ops.size).all fun j => match ops[j]? with | some oj => oj.dst != some s | none => true)

section
variable {P : Program} {ops : Array Oper} {Q : Exit → Act → World → Prop} {sup bef : List (List Nat)} {base : List Nat} {a : Act}

/-- What one operation owes. -/
def StepF (P : Program) (Q : Exit → Act → World → Prop) (sup bef : List (List Nat)) (base : List Nat) (a : Act) (C : World → Prop) (F : Nat → (Nat → Value) → World → Prop) (i : Nat) (o : Oper) : Prop :=
  ∀ (T : Array Value) (W : World), T.size = a.tmps.size → (∀ s ∈ base, T.getD s undef = a.tmps.getD s undef) → C W → (∀ j ∈ bef.getD i [], F j (mask (sup.getD j []) T) W) →
    ∀ K : Act → World → Prop, Shut (∀ v W', C W' → (∀ j t, j ≠ i → F j t W → F j t W') → F i (mask (sup.getD i []) (Act.put { a with tmps := T } o.dst v).tmps) W' → K (Act.put { a with tmps := T } o.dst v) W') →
      Oper.wp P o { a with tmps := T } W K Q
def StepsF (P : Program) (Q : Exit → Act → World → Prop) (sup bef : List (List Nat)) (base : List Nat) (a : Act) (C : World → Prop) (F : Nat → (Nat → Value) → World → Prop) : Nat → List Oper → Prop
  | _, [] => True
  | i, o :: l => StepF P Q sup bef base a C F i o ∧ StepsF P Q sup bef base a C F (i + 1) l
theorem StepsF.get {C : World → Prop} {F : Nat → (Nat → Value) → World → Prop} : ∀ {l : List Oper} {i : Nat}, StepsF P Q sup bef base a C F i l → ∀ j o, l[j]? = some o → StepF P Q sup bef base a C F (i + j) o
  | [], _, _, j, o, h => by simp at h
  | o' :: l, i, hs, 0, o, h => by simp at h; subst h; exact hs.1
  | o' :: l, i, hs, j + 1, o, h => by
    have := StepsF.get hs.2 j o (by simpa using h)
    rwa [show i + 1 + j = i + (j + 1) by omega] at this

structure InvF (ops : Array Oper) (sup bef : List (List Nat)) (base : List Nat) (a : Act) (C : World → Prop) (F : Nat → (Nat → Value) → World → Prop) (L : Array Bool) (T : Array Value) (W : World) : Prop where
  size : T.size = a.tmps.size
  same : ∀ s ∈ base, T.getD s undef = a.tmps.getD s undef
  c : C W
  lsz : L.size = ops.size
  down : ∀ i, L.getD i false = true → ∀ j ∈ bef.getD i [], L.getD j false = true
  fact : ∀ i, L.getD i false = true → F i (mask (sup.getD i []) T) W

theorem getD_set_bool (L : Array Bool) (i j : Nat) (hi : i < L.size) : (L.setIfInBounds i true).getD j false = if j = i then true else L.getD j false := by
  simp only [Array.getD_eq_getD_getElem?]
  rw [Array.getElem?_setIfInBounds]
  by_cases h : i = j
  · subst h; simp [hi]
  · rw [if_neg h, if_neg (fun q => h q.symm)]
theorem getD_set_val (T : Array Value) (d s : Nat) (v : Value) (h : s ≠ d) : (T.setIfInBounds d v).getD s undef = T.getD s undef := by
  simp only [Array.getD_eq_getD_getElem?]
  rw [Array.getElem?_setIfInBounds, if_neg (fun q => h q.symm)]

theorem regOk_spec (h : regOk ops sup bef base = true) :
    (∀ (i : Nat) (o : Oper), ops[i]? = some o → o.guard = none ∧ (∀ e ∈ o.after, Region.binds .any e = true → e.on < i) ∧ (∀ j ∈ bef.getD i [], ∃ e ∈ o.after, Region.binds .any e = true ∧ (e.on = j ∨ j ∈ bef.getD e.on [])) ∧ (∀ s ∈ sup.getD i [], ∀ (j : Nat) (oj : Oper), ops[j]? = some oj → oj.dst = some s → j = i ∨ j ∈ bef.getD i [])) ∧
    (∀ s ∈ base, ∀ (j : Nat) (oj : Oper), ops[j]? = some oj → oj.dst ≠ some s) := by
  unfold regOk at h
  rw [Bool.and_eq_true, List.all_eq_true, List.all_eq_true] at h
  refine ⟨fun i o ho => ?_, fun s hs j oj hj hd => ?_⟩
  · have hi : i < ops.size := (Array.getElem?_eq_some_iff.1 ho).1
    have := h.1 i (List.mem_range.2 hi)
    rw [ho] at this
    simp only [Bool.and_eq_true, Array.all_eq_true_iff_forall_mem, List.all_eq_true, decide_eq_true_eq, Option.isNone_iff_eq_none] at this
    obtain ⟨h1, h2, h3, h4⟩ := this
    refine ⟨h1, fun e he hbd => ?_, fun j hj => ?_, fun s hs j oj hoj hd => ?_⟩
    · have := h2 e he
      rw [hbd] at this
      simpa using this
    · have := h3 j hj
      obtain ⟨e, he, hb⟩ := Array.any_eq_true'.1 this
      simp only [Bool.and_eq_true, Bool.or_eq_true, beq_iff_eq, List.contains_iff_mem] at hb
      exact ⟨e, he, hb⟩
    · have hj : j < ops.size := (Array.getElem?_eq_some_iff.1 hoj).1
      have := h4 s hs j (List.mem_range.2 hj)
      rw [hoj] at this
      simp only [hd, Bool.or_eq_true, bne_self_eq_false, beq_iff_eq, List.contains_iff_mem] at this
      simpa using this
  · have hj' : j < ops.size := (Array.getElem?_eq_some_iff.1 hj).1
    have := List.all_eq_true.1 (h.2 s hs) j (List.mem_range.2 hj')
    rw [hj] at this
    simp [hd] at this

theorem ready_nil_all {L : Array Bool} (hL : L.size = ops.size) (hlow : ∀ (i : Nat) (o : Oper), ops[i]? = some o → ∀ e ∈ o.after, Region.binds .any e = true → e.on < i) (h : Region.ready .any ops L = []) : ∀ i, i < ops.size → L.getD i false = true := by
  intro i
  induction i using Nat.strongRecOn with
  | ind i ih =>
    intro hi
    by_cases hl : L.getD i false = true
    · exact hl
    · exfalso
      have hm : i ∈ Region.ready .any ops L := mem_ready.2 ⟨by
        simp only [Array.getD_eq_getD_getElem?] at hl ⊢
        rw [Array.getElem?_eq_getElem (by omega)] at hl ⊢
        simpa using hl, ops[i], Array.getElem?_eq_getElem hi, fun e he hbd => ih e.on (hlow i _ (Array.getElem?_eq_getElem hi) e he hbd) (by have := hlow i _ (Array.getElem?_eq_getElem hi) e he hbd; omega)⟩
      rw [h] at hm
      cases hm

theorem wpAny_facts (hok : regOk ops sup bef base = true) (C : World → Prop) (F : Nat → (Nat → Value) → World → Prop)
    (hstep : StepsF P Q sup bef base a C F 0 ops.toList)
    (hend : ∀ T W, T.size = a.tmps.size → (∀ s ∈ base, T.getD s undef = a.tmps.getD s undef) → C W → (∀ i, i < ops.size → F i (mask (sup.getD i []) T) W) → Q .normal { a with tmps := T } W) :
    ∀ (fuel : Nat) (L : Array Bool) (T : Array Value) (W : World), InvF ops sup bef base a C F L T W → (L.toList.count false ≤ fuel) → wpAny P .any ops Q fuel L { a with tmps := T } W := by
  obtain ⟨hops, hbase⟩ := regOk_spec hok
  have hlow := fun i o ho => (hops i o ho).2.1
  have fin : ∀ L T W, InvF ops sup bef base a C F L T W → Region.ready .any ops L = [] → Q .normal { a with tmps := T } W := fun L T W I hr => hend T W I.size I.same I.c (fun i hi => I.fact i (ready_nil_all I.lsz hlow hr i hi))
  intro fuel
  induction fuel with
  | zero =>
    intro L T W I hf
    have hr : Region.ready .any ops L = [] := by
      apply List.eq_nil_iff_forall_not_mem.2
      intro j hj
      obtain ⟨h1, o, ho, _⟩ := mem_ready.1 hj
      have hjl : j < L.size := by rw [I.lsz]; exact (Array.getElem?_eq_some_iff.1 ho).1
      have : false ∈ L.toList := by
        simp only [Array.getD_eq_getD_getElem?] at h1
        rw [Array.getElem?_eq_getElem hjl] at h1
        simp only [Option.getD_some] at h1
        rw [← h1]
        simp
      have := List.count_pos_iff.2 this
      omega
    exact ⟨hr, fin L T W I hr⟩
  | succ fuel ih =>
    intro L T W I hf
    refine ⟨fin L T W I, fun i hi => ?_⟩
    obtain ⟨h1, o, ho, hall⟩ := mem_ready.1 hi
    have hil : i < L.size := by rw [I.lsz]; exact (Array.getElem?_eq_some_iff.1 ho).1
    have hlf : L.getD i false = false := by
      simp only [Array.getD_eq_getD_getElem?] at h1 ⊢
      rw [Array.getElem?_eq_getElem hil] at h1 ⊢
      simpa using h1
    obtain ⟨hg, hlo, hbf, hsp⟩ := hops i o ho
    have hbef : ∀ j ∈ bef.getD i [], L.getD j false = true := fun j hj => by
      obtain ⟨e, he, hb, q⟩ := hbf j hj
      have he' := hall e he hb
      rcases q with rfl | q
      · exact he'
      · exact I.down e.on he' j q
    have hs : StepF P Q sup bef base a C F i o := by
      have := hstep.get i o (by simpa using ho)
      simpa using this
    refine wpOp_step ho (fun K' hK => ?_)
    rw [if_pos (by simp [Region.wanted, hg])]
    refine hs T W I.size I.same I.c (fun j hj => I.fact j (hbef j hj)) K' (fun v W' hc hkeep hnew => hK _ _ ?_)
    have hnotin : ∀ k, L.getD k false = true → k ≠ i := fun k hk e => by subst e; rw [hlf] at hk; cases hk
    have hput : (Act.put { a with tmps := T } o.dst v) = { a with tmps := (Act.put { a with tmps := T } o.dst v).tmps } := by
      unfold Act.put; cases o.dst <;> rfl
    have hslot : ∀ s, o.dst ≠ some s → (Act.put { a with tmps := T } o.dst v).tmps.getD s undef = T.getD s undef := fun s hd => by
      cases hdd : o.dst with
      | none => rfl
      | some d => exact getD_set_val T d s v (fun e => hd (by rw [hdd, e]))
    rw [hput]
    refine ih _ _ W' ⟨?_, ?_, hc, by simpa using I.lsz, ?_, ?_⟩ ?_
    · rw [← I.size]; cases hdd : o.dst <;> simp [Act.put]
    · intro s hsb
      rw [hslot s (hbase s hsb i o ho)]
      exact I.same s hsb
    · intro k hk j hj
      rw [getD_set_bool L i k hil] at hk
      rw [getD_set_bool L i j hil]
      by_cases hki : k = i
      · subst hki
        rw [hbef j hj]; simp
      · rw [if_neg hki] at hk
        rw [I.down k hk j hj]; simp
    · intro k hk
      rw [getD_set_bool L i k hil] at hk
      by_cases hki : k = i
      · subst hki; exact hnew
      · rw [if_neg hki] at hk
        have hF := hkeep k _ hki (I.fact k hk)
        have hmk : mask (sup.getD k []) (Act.put { a with tmps := T } o.dst v).tmps = mask (sup.getD k []) T := by
          funext s
          unfold mask
          by_cases hsup : s ∈ sup.getD k []
          · rw [if_pos (List.contains_iff_mem.2 hsup), if_pos (List.contains_iff_mem.2 hsup)]
            refine hslot s (fun hd => ?_)
            have hko : k < ops.size := by
              rw [← I.lsz]
              apply Classical.byContradiction
              intro hn
              simp only [Array.getD_eq_getD_getElem?] at hk
              rw [Array.getElem?_eq_none (by omega)] at hk
              cases hk
            rcases (hops k _ (Array.getElem?_eq_getElem hko)).2.2.2 s hsup i o ho hd with q | q
            · exact hki q.symm
            · have := I.down k hk i q
              rw [hlf] at this
              cases this
          · rw [if_neg (fun q => hsup (List.contains_iff_mem.1 q)), if_neg (fun q => hsup (List.contains_iff_mem.1 q))]
        rw [hmk]; exact hF
    · have hset : (L.setIfInBounds i true).toList = L.toList.set i true := by simp
      rw [hset]
      have hct : (L.toList.set i true).count false + 1 = L.toList.count false := by
        have hx : L.toList[i]'(by simpa using hil) = false := by
          simp only [Array.getD_eq_getD_getElem?] at hlf
          rw [Array.getElem?_eq_getElem hil] at hlf
          simpa using hlf
        rw [List.count_set (by simpa using hil)]
        have hpos : 0 < L.toList.count false := List.count_pos_iff.2 (by rw [← hx]; exact List.getElem_mem _)
        rw [hx]
        simp only [beq_self_eq_true, if_true, show (true == false) = false from rfl, Bool.false_eq_true, if_false]
        omega
      omega

/-- The law. -/
theorem wp_region_facts {id : Nat} {w : World} (hm : P.follows .mixedOrders = true) (sup bef : List (List Nat)) (base : List Nat) (hok : regOk ops sup bef base = true) (C : World → Prop) (F : Nat → (Nat → Value) → World → Prop) (hC : C w.drew)
    (hstep : StepsF P Q sup bef base a C F 0 ops.toList)
    (hend : ∀ T W, T.size = a.tmps.size → (∀ s ∈ base, T.getD s undef = a.tmps.getD s undef) → C W → (∀ i, i < ops.size → F i (mask (sup.getD i []) T) W) → Q .normal { a with tmps := T } W) :
    (Code.region id ops true).wp P Q a w := by
  refine wp_region_any hm ?_
  have := wpAny_facts hok C F hstep hend ops.size (Array.replicate ops.size false) a.tmps w.drew ⟨rfl, fun _ _ => rfl, hC, by simp, fun i hi => ?_, fun i hi => ?_⟩ (by simp)
  · exact this
  all_goals (
    exfalso
    simp only [Array.getD_eq_getD_getElem?] at hi
    rw [Array.getElem?_replicate] at hi
    split at hi <;> simp at hi)
end
end Go.Proofs.Ytagdclbpgkilgaa

/- Contracts of the comparisons: eqStringS, eqWrite, eqWriteS, eqDisk. -/
namespace Go.Proofs.Ytagdclbpgkilgaa
open Go.RowKit

theorem bdecide {p : Prop} [Decidable p] : (decide p = true) = p := by simp

end Go.Proofs.Ytagdclbpgkilgaa

/- Contracts of the copies: toStringS, toWrite, toWriteS, toDisk. -/
namespace Go.Proofs.Ytagdclbpgkilgaa
open Go.RowKit

set_option maxRecDepth 100000 in
theorem infoS : (Try.prog.info? 9).map (fun i => (i.zero, i.size, i.bytes)) = some (some (.string ByteArray.empty), 1, 16) := by kernel_rfl

theorem row_made2 (w : World) (z0 z1 : Value) (n : Nat) (t : TypeId) : (w.alloc (.cells (madeCells #[z0, z1] (n * 2)) t)).rowIs w.heap.size t (n * 2) (fun i => if i % 2 = 0 then z0 else z1) :=
  ⟨_, heap_alloc_new _ _, size_madeCells _ _, fun i hi => by
    have : i % 2 = 0 ∨ i % 2 = 1 := by omega
    rcases this with h | h <;> simp [madeCells, hi, h]⟩

/-- What the first k writes look like in a row of n of them. -/
def fillW (ws : List (Int × ByteArray)) (k : Nat) (j : Nat) : Value :=
  if j < k * 2 then (if j % 2 = 0 then .int .i64 (ws.getD (j / 2) (0, ByteArray.empty)).1 else .string (ws.getD (j / 2) (0, ByteArray.empty)).2) else (if j % 2 = 0 then .int .i64 0 else .string ByteArray.empty)
theorem fillW_next (ws : List (Int × ByteArray)) (k j : Nat) (a : Int) (s : ByteArray) (h : ws.getD k (0, ByteArray.empty) = (a, s)) :
    (if j = k * 2 + 1 then .string s else if j = k * 2 then .int .i64 a else fillW ws k j) = fillW ws (k + 1) j := by
  unfold fillW
  by_cases e1 : j = k * 2 + 1
  · subst e1
    rw [if_pos rfl, if_pos (by omega), if_neg (by omega), show (k * 2 + 1) / 2 = k by omega, h]
  · rw [if_neg e1]
    by_cases e2 : j = k * 2
    · subst e2
      rw [if_pos rfl, if_pos (by omega), if_pos (by omega), show (k * 2) / 2 = k by omega, h]
    · rw [if_neg e2]
      by_cases e3 : j < k * 2
      · have e4 : j < (k + 1) * 2 := by omega
        simp only [e3, e4, if_true]
      · have e4 : ¬ j < (k + 1) * 2 := by omega
        simp only [e3, e4, if_false]

theorem own_of_rowS {w : World} {b n lo hi : Nat} {ss : List ByteArray} (hl : ss.length = n) (h : w.rowIs b 9 n (fun i => .string (ss.getD i ByteArray.empty))) (h1 : lo ≤ b) (h2 : b < hi) : OwnS w lo hi (some ⟨b, 0, none⟩) ss :=
  .inr ⟨b, n, _, rfl, h1, h2, by omega, h, fun _ _ => rfl⟩
end Go.Proofs.Ytagdclbpgkilgaa

/- Contracts of toIntS, eqIntS, markIntS. -/
namespace Go.Proofs.Ytagdclbpgkilgaa
open Go.RowKit

set_option maxRecDepth 100000 in
theorem infoI : (Try.prog.info? 3).map (fun i => (i.zero, i.size, i.bytes)) = some (some (.int .i64 0), 1, 8) := by kernel_rfl

/-- The call hands back a []int of its own, and its capacity is no less than its length. -/
def GivesIntsC (zs : List Int) (w : World) (e : Ending) (w' : World) : Prop :=
  ∃ A n c, e = .returned (.slice A n c) ∧ Hid (zs.length = n) ∧ Hid (OwnI w' w.heap.size w'.heap.size A zs) ∧ n ≤ c ∧ Below w.heap.size w w'
/-- The call hands back a []int of its own. -/
def GivesInts (zs : List Int) (w : World) (e : Ending) (w' : World) : Prop :=
  ∃ A n c, e = .returned (.slice A n c) ∧ Hid (zs.length = n) ∧ Hid (OwnI w' w.heap.size w'.heap.size A zs) ∧ Below w.heap.size w w'

set_option maxRecDepth 100000 in
set_option maxHeartbeats 1000000 in
theorem eqIntSame (A A' : Option Addr) (n n' c c' : Nat) (zs : List Int) (w : World) (hl : zs.length = n) (hl' : zs.length = n') (hn : n ≤ maxLen) (h : IntL w A zs) (h' : IntL w A' zs) :
    Calls Try.prog 35 #[.slice A n c, .slice A' n' c'] w fun e w' => e = .returned (.bool true) ∧ Below w.heap.size w w' := by
  unfold maxLen at hn
  have HL := Lib.hid hl
  obtain rfl : n = n' := by omega
  have H := Lib.hid h
  have H' := Lib.hid h'
  clear hl hl' h h'
  have hb : ((n : Int) != (n : Int)) = false := by simp
  go_enter Try.func35, Try.ntmps35
  go_wp2
  go_loopw [5] (fun i wr => ∃ k : Nat, k ≤ n ∧ i = .int .i64 k ∧ Below w.heap.size w wr) (fun i _ => n - (intOf i).toNat)
  case atStart => exact ⟨0, Nat.zero_le _, rfl, Below.refl _ _⟩
  case round =>
    obtain ⟨k, hk, rfl, hbw⟩ := hrel
    by_cases hlt : k < n
    · obtain ⟨b, off, rfl, hc⟩ := (H.out.below hbw) k (by rw [HL.out]; exact hlt)
      obtain ⟨b', off', rfl, hc'⟩ := (H'.out.below hbw) k (by rw [HL.out]; exact hlt)
      generalize zs.getD k 0 = x at hc hc'
      have hi : (k : Int) < (n : Int) := by omega
      have hq1 : (x != x) = false := by simp
      have hq2 : (x == x) = true := by simp
      go_wp2
      go_quiet (fail)
      go_wp2
      go_roundw
      case rel => exact ⟨k + 1, by omega, by go_num, below_drewN hbw _⟩
      case measure => simp [intOf]; omega
    · go_wp2
      go_ret
      exact ⟨rfl, hbw⟩

def MarkedI (lo hi k n : Nat) (w : World) (e : Ending) (w' : World) : Prop := e = .returned (.int .i64 ((k + n : Nat) : Int)) ∧ Btw lo hi w w'

set_option maxRecDepth 100000 in
set_option maxHeartbeats 2000000 in
theorem markIntS (A : Option Addr) (n c k lo hi : Nat) (zs : List Int) (w : World) (hl : zs.length = n) (hk : 1 ≤ k) (hn : n ≤ 1099511627776) (hk2 : k + n ≤ 1099511627776) (h : OwnI w lo hi A zs) :
    Calls Try.prog 36 #[.slice A n c, .int .i64 k] w (MarkedI lo hi k n w) := by
  rcases h with rfl | ⟨b, m, f, rfl, h1, h2, hm, hr, hf⟩
  · obtain rfl : n = 0 := hl.symm
    go_enter Try.func36, Try.ntmps36
    go_wp2
    go_loop [5, 1] (fun i kk => i = .int .i64 0 ∧ kk = .int .i64 k) (fun _ _ => 0)
    case atStart => exact ⟨rfl, rfl⟩
    case round =>
      obtain ⟨rfl, rfl⟩ := hrel
      go_wp2
      go_ret
      exact ⟨rfl, Btw.refl _ _ _⟩
  · have HM : Hid (n ≤ m) := Lib.hid (by omega)
    have HR := Lib.hid hr
    clear hl hm hr hf
    go_enter Try.func36, Try.ntmps36
    go_wp2
    go_loopw [5, 1] (fun i kk wr => ∃ j : Nat, j ≤ n ∧ i = .int .i64 j ∧ kk = .int .i64 ((k + j : Nat) : Int) ∧ Btw lo hi w wr ∧ Hid (∃ f, wr.rowIs b 3 m f)) (fun i _ _ => n - (intOf i).toNat)
    case atStart => exact ⟨0, Nat.zero_le _, rfl, rfl, Btw.refl _ _ _, Lib.hid ⟨_, HR.out⟩⟩
    case round =>
      obtain ⟨j, hj, rfl, rfl, hbw, HW⟩ := hrel
      by_cases hlt : j < n
      · have hi' : (j : Int) < (n : Int) := by omega
        obtain ⟨f', hf'⟩ := HW.out
        have hc := hf'.cell (i := j) (by have := HM.out; omega)
        have hfz := hf'.frozen j
        generalize hz : k + j = z
        have HZ := Lib.hid hz
        have hz1 : z + 1 ≤ 1099511627776 := by omega
        have HS : Hid (∃ f, (wr.setCell ⟨b, j, none⟩ (.int .i64 (z : Int))).rowIs b 3 m f) := Lib.hid ⟨_, hf'.set j _⟩
        clear hf' HW hz
        generalize f' j = y at hc
        go_wp2
        go_roundw
        case rel => exact ⟨j + 1, by omega, by go_num, by have := HZ.out; congr 1; omega, hbw.setCell h1 h2 _, HS⟩
        case measure => simp [intOf]; omega
      · go_wp2
        go_ret
        have ej : j = n := by omega
        subst ej
        exact ⟨rfl, hbw⟩
end Go.Proofs.Ytagdclbpgkilgaa

/- Contracts of the measures: szStringS, szWrite, szWriteS, szDisk: what is left, or -1. -/
namespace Go.Proofs.Ytagdclbpgkilgaa
open Go.RowKit

/-- How many letters the strings hold. -/
def lenS (ss : List ByteArray) : Nat := (ss.map (·.size)).sum
def lenW (ws : List (Int × ByteArray)) : Nat := (ws.map (·.2.size)).sum

theorem lenS_take (ss : List ByteArray) (k : Nat) (h : k < ss.length) : lenS (ss.take (k + 1)) = lenS (ss.take k) + (ss.getD k ByteArray.empty).size := by
  unfold lenS
  rw [List.take_succ_eq_append_getElem h, List.map_append, List.sum_append, List.getD_eq_getElem?_getD, List.getElem?_eq_getElem h]
  simp
theorem lenW_take (ws : List (Int × ByteArray)) (k : Nat) (h : k < ws.length) : lenW (ws.take (k + 1)) = lenW (ws.take k) + (ws.getD k (0, ByteArray.empty)).2.size := by
  unfold lenW
  rw [List.take_succ_eq_append_getElem h, List.map_append, List.sum_append, List.getD_eq_getElem?_getD, List.getElem?_eq_getElem h]
  simp

/-- What a measure answers: a negative number, or what is left of the bound. -/
def Left (left : Int) (used : Nat) (w : World) (e : Ending) (w' : World) : Prop :=
  (e = .returned (.int .i64 (-1)) ∨ e = .returned (.int .i64 (left - used)) ∧ (used : Int) ≤ left) ∧ Below w.heap.size w w'

/-- The measure of a disk. -/
def szOf (ss : List ByteArray) (ws : List (Int × ByteArray)) : Nat := (ss.length + lenS ss) + (ws.length + lenW ws)

end Go.Proofs.Ytagdclbpgkilgaa

/- Contracts of szIntS, of markIntS with what it leaves, of heldIntS. -/
namespace Go.Proofs.Ytagdclbpgkilgaa
open Go.RowKit

def marksI (k n : Nat) : List Int := (List.range n).map fun i => ((k + i : Nat) : Int)
theorem marksI_len (k n : Nat) : (marksI k n).length = n := by simp [marksI]
theorem marksI_at (k n i : Nat) (h : i < n) : (marksI k n).getD i 0 = ((k + i : Nat) : Int) := by simp [marksI, List.getD_eq_getElem?_getD, h]
def MarkedIs (lo hi : Nat) (A : Option Addr) (k n : Nat) (w : World) (e : Ending) (w' : World) : Prop :=
  e = .returned (.int .i64 ((k + n : Nat) : Int)) ∧ Hid (OwnI w' lo hi A (marksI k n)) ∧ Btw lo hi w w'

set_option maxRecDepth 100000 in
set_option maxHeartbeats 2000000 in
theorem markIntSs (A : Option Addr) (n c k lo hi : Nat) (zs : List Int) (w : World) (hl : zs.length = n) (hk : 1 ≤ k) (hn : n ≤ 1099511627776) (hk2 : k + n ≤ 1099511627776) (h : OwnI w lo hi A zs) :
    Calls Try.prog 36 #[.slice A n c, .int .i64 k] w (MarkedIs lo hi A k n w) := by
  rcases h with rfl | ⟨b, m, f, rfl, h1, h2, hm, hr, hf⟩
  · obtain rfl : n = 0 := hl.symm
    go_enter Try.func36, Try.ntmps36
    go_wp2
    go_loop [5, 1] (fun i kk => i = .int .i64 0 ∧ kk = .int .i64 k) (fun _ _ => 0)
    case atStart => exact ⟨rfl, rfl⟩
    case round =>
      obtain ⟨rfl, rfl⟩ := hrel
      go_wp2
      go_ret
      exact ⟨rfl, Lib.hid (.inl rfl), Btw.refl _ _ _⟩
  · have HM : Hid (n ≤ m) := Lib.hid (by omega)
    have HR := Lib.hid hr
    clear hl hm hr hf
    go_enter Try.func36, Try.ntmps36
    go_wp2
    go_loopw [5, 1] (fun i kk wr => ∃ j : Nat, j ≤ n ∧ i = .int .i64 j ∧ kk = .int .i64 ((k + j : Nat) : Int) ∧ Btw lo hi w wr ∧ Hid (wr.rowIs b 3 m (fun x => if x < j then .int .i64 ((k + x : Nat) : Int) else f x))) (fun i _ _ => n - (intOf i).toNat)
    case atStart => exact ⟨0, Nat.zero_le _, rfl, rfl, Btw.refl _ _ _, Lib.hid (HR.out.congr (fun i _ => by simp))⟩
    case round =>
      obtain ⟨j, hj, rfl, rfl, hbw, HW⟩ := hrel
      by_cases hlt : j < n
      · have hi' : (j : Int) < (n : Int) := by omega
        have hc := HW.out.cell (i := j) (by have := HM.out; omega)
        simp only [Nat.lt_irrefl, if_false] at hc
        have hfz := HW.out.frozen j
        generalize hz : k + j = z
        have HZ := Lib.hid hz
        have hz1 : z + 1 ≤ 1099511627776 := by omega
        have HS := Lib.hid (HW.out.set j (.int .i64 (z : Int)))
        clear HW hz
        generalize f j = y at hc
        go_wp2
        go_roundw
        case rel =>
          refine ⟨j + 1, by omega, by go_num, by have := HZ.out; congr 1; omega, hbw.setCell h1 h2 _, Lib.hid (HS.out.congr (fun x _ => ?_))⟩
          show (if x = j then Value.int .i64 (z : Int) else if x < j then _ else _) = _
          by_cases e : x = j
          · subst e; rw [if_pos rfl, if_pos (by omega), HZ.out]
          · rw [if_neg e]
            by_cases e2 : x < j
            · rw [if_pos e2, if_pos (by omega)]
            · rw [if_neg e2, if_neg (by omega)]
        case measure => simp [intOf]; omega
      · go_wp2
        go_ret
        have ej : j = n := by omega
        subst ej
        exact ⟨rfl, Lib.hid (.inr ⟨b, m, _, rfl, h1, h2, by rw [marksI_len]; exact HM.out, HW.out, fun i hi' => by rw [marksI_len] at hi'; rw [if_pos hi', marksI_at k j i hi']⟩), hbw⟩

set_option maxRecDepth 100000 in
set_option maxHeartbeats 2000000 in
theorem heldIntS (A : Option Addr) (n c k : Nat) (w : World) (hk : 1 ≤ k) (hk2 : k + n ≤ 1099511627776) (h : IntL w A (marksI k n)) :
    Calls Try.prog 37 #[.slice A n c, .int .i64 k] w fun e w' => e = .returned (.int .i64 ((k + n : Nat) : Int)) ∧ w = w' := by
  have H := Lib.hid h
  clear h
  go_enter Try.func37, Try.ntmps37
  go_wp2
  go_loop [5, 1] (fun i kk => ∃ j : Nat, j ≤ n ∧ i = .int .i64 j ∧ kk = .int .i64 ((k + j : Nat) : Int)) (fun i _ => n - (intOf i).toNat)
  case atStart => exact ⟨0, Nat.zero_le _, rfl, rfl⟩
  case round =>
    obtain ⟨j, hj, rfl, rfl⟩ := hrel
    by_cases hlt : j < n
    · obtain ⟨b, off, rfl, hc⟩ := H.out j (by rw [marksI_len]; exact hlt)
      rw [marksI_at k n j hlt] at hc
      have hi' : (j : Int) < (n : Int) := by omega
      generalize hz : k + j = z at hc
      have HZ := Lib.hid hz
      have hz1 : z + 1 ≤ 1099511627776 := by omega
      have hq : ((z : Int) != (z : Int)) = false := by simp
      clear hz
      go_wp2
      go_round
      case rel => exact ⟨j + 1, by omega, by go_num, by have := HZ.out; congr 1; omega⟩
      case measure => simp [intOf]; omega
    · go_wp2
      go_ret
      have ej : j = n := by omega
      subst ej
      exact ⟨rfl, rfl⟩
end Go.Proofs.Ytagdclbpgkilgaa

/- Contracts of the marks: markText, markStringS, heldStringS, markWriteS, heldWriteS, markDisk, heldDisk. -/
namespace Go.Proofs.Ytagdclbpgkilgaa
open Go.RowKit

def mkDig (j : Nat) : ByteArray := ⟨#[UInt8.ofNat (48 + j % 10)]⟩
def mkGo : Nat → Nat → ByteArray → ByteArray
  | 0, _, o => o
  | f + 1, j, o => if j = 0 then o else mkGo f (j / 10) (mkDig j ++ o)
/-- The text of a mark. -/
def mkText (k : Nat) : ByteArray := ⟨#[109]⟩ ++ mkGo k k ByteArray.empty
theorem mkGo_zero (f : Nat) (o : ByteArray) : mkGo f 0 o = o := by cases f <;> simp [mkGo]
theorem mkGo_step (f j : Nat) (o : ByteArray) (h : 0 < j) (hf : j ≤ f) : ∃ f', j / 10 ≤ f' ∧ mkGo f j o = mkGo f' (j / 10) (mkDig j ++ o) := by
  obtain ⟨f', rfl⟩ : ∃ f', f = f' + 1 := ⟨f - 1, by omega⟩
  exact ⟨f', by omega, by rw [mkGo, if_neg (by omega)]⟩

set_option maxRecDepth 100000 in
theorem byte_string (V : World) (j : Nat) : (convert 22 9 (.slice (some ⟨V.heap.size, 0, none⟩) 1 1)).run Try.prog (V.alloc (.cells #[.int .u8 (48 + (j : Int) % 10)] 5)) = .ok (.string (mkDig j)) (V.alloc (.cells #[.int .u8 (48 + (j : Int) % 10)] 5)) := by
  have h : (UInt8.ofNat (48 + j % 10)).toNat = 48 + j % 10 := by
    rw [UInt8.toNat_ofNat']; omega
  exact run_convert_bytes_back (P := Try.prog) (V.alloc (.cells #[.int .u8 (48 + (j : Int) % 10)] 5)) 22 9 5 ⟨V.heap.size, 0, none⟩ 1 [UInt8.ofNat (48 + j % 10)] Try.underlying22 Try.underlying5 Try.underlying9 (fun i hi => by
    have hi' : i = 0 := by simpa using hi
    subst hi'
    simp only [List.getElem_cons_zero]
    rw [h]
    simp [Addr.add])

def marksS (k n : Nat) : List ByteArray := (List.range n).map fun i => mkText (k + i)
def marksW (k n : Nat) : List (Int × ByteArray) := (List.range n).map fun i => (((k + i * 2 : Nat) : Int), mkText (k + i * 2 + 1))
theorem marksS_len (k n : Nat) : (marksS k n).length = n := by simp [marksS]
theorem marksW_len (k n : Nat) : (marksW k n).length = n := by simp [marksW]
theorem marksS_at (k n i : Nat) (h : i < n) : (marksS k n).getD i ByteArray.empty = mkText (k + i) := by simp [marksS, List.getD_eq_getElem?_getD, h]
theorem marksW_at (k n i : Nat) (h : i < n) : (marksW k n).getD i (0, ByteArray.empty) = (((k + i * 2 : Nat) : Int), mkText (k + i * 2 + 1)) := by simp [marksW, List.getD_eq_getElem?_getD, h]

/-- What the marks of a slice of strings leave. -/
def MarkedS (lo hi : Nat) (A : Option Addr) (k n : Nat) (w : World) (e : Ending) (w' : World) : Prop :=
  e = .returned (.int .i64 ((k + n : Nat) : Int)) ∧ Hid (OwnS w' lo hi A (marksS k n)) ∧ Btw lo hi w w'
def markCell (k x : Nat) : Value := if x % 2 = 0 then .int .i64 ((k + x : Nat) : Int) else .string (mkText (k + x))

theorem OwnS.wide {w : World} {lo hi lo' hi' : Nat} {A : Option Addr} {ss : List ByteArray} (h : OwnS w lo hi A ss) (h1 : lo' ≤ lo) (h2 : hi ≤ hi') : OwnS w lo' hi' A ss := by
  rcases h with e | ⟨b, m, f, e, q1, q2, q3, q4, q5⟩
  · exact .inl e
  · exact .inr ⟨b, m, f, e, by omega, by omega, q3, q4, q5⟩
theorem OwnS.apart {w w' : World} {lo hi l r : Nat} {A : Option Addr} {ss : List ByteArray} (h : OwnS w lo hi A ss) (hb : Btw l r w w') (ha : ∀ b n f, w.rowIs b 9 n f → b < l ∨ r ≤ b) : OwnS w' lo hi A ss := by
  rcases h with e | ⟨b, m, f, e, q1, q2, q3, q4, q5⟩
  · exact .inl e
  · exact .inr ⟨b, m, f, e, q1, q2, q3, hb.row q4 (ha b m f q4), q5⟩
end Go.Proofs.Ytagdclbpgkilgaa

/- A disk of the call's own behind a box: kept over what is new, and over writes elsewhere. -/
namespace Go.Proofs.Ytagdclbpgkilgaa
open Go.RowKit

section
variable {w w' : World} {b lo hi : Nat} {A : Option Addr} {n c : Nat} {C : Option Addr} {m d : Nat} {ss : List ByteArray} {ws : List (Int × ByteArray)}
end
theorem alloc_below (w : World) (o : Obj) : Below w.heap.size w (w.alloc o) := (Below.refl _ _).alloc (Nat.le_refl _) o
end Go.Proofs.Ytagdclbpgkilgaa

/- Slices of booleans: as lists, of the call's own; contracts of szBoolS, toBoolS, eqBoolS, markBoolS, heldBoolS. -/
namespace Go.Proofs.Ytagdclbpgkilgaa
open Go.RowKit

/-- The slice at A holds these booleans. -/
def BoolL (w : World) (A : Option Addr) (gs : List Bool) : Prop :=
  ∀ i, i < gs.length → ∃ b off, A = some ⟨b, off, none⟩ ∧ w.cell? ⟨b, off + i, none⟩ = some (.bool (gs.getD i false))
theorem BoolL.below {w w' : World} {A : Option Addr} {gs : List Bool} (h : BoolL w A gs) (hb : Below w.heap.size w w') : BoolL w' A gs := fun i hi => by
  obtain ⟨b, off, e, hc⟩ := h i hi
  exact ⟨b, off, e, (hb.cell (cell_lt hc)).trans hc⟩
/-- A []bool of the call's own. -/
def OwnB (w : World) (lo hi : Nat) (A : Option Addr) (gs : List Bool) : Prop :=
  gs = [] ∨ ∃ b m f, A = some ⟨b, 0, none⟩ ∧ lo ≤ b ∧ b < hi ∧ gs.length ≤ m ∧ w.rowIs b 4 m f ∧ ∀ i, i < gs.length → f i = .bool (gs.getD i false)
theorem OwnB.reads {w : World} {lo hi : Nat} {A : Option Addr} {gs : List Bool} (h : OwnB w lo hi A gs) : BoolL w A gs := fun i hi' => by
  rcases h with rfl | ⟨b, m, f, e, _, _, hm, hr, hf⟩
  · simp at hi'
  · exact ⟨b, 0, e, by rw [← hf i hi', Nat.zero_add]; exact hr.cell (by omega)⟩
theorem OwnB.btw {w w' : World} {lo hi l h' : Nat} {A : Option Addr} {gs : List Bool} (h : OwnB w lo hi A gs) (hb : Btw l h' w w') (ho : hi ≤ l ∨ h' ≤ lo) : OwnB w' lo hi A gs := by
  rcases h with e | ⟨b, m, f, e, h1, h2, hm, hr, hf⟩
  · exact .inl e
  · exact .inr ⟨b, m, f, e, h1, h2, hm, hb.row hr (by omega), hf⟩
theorem OwnB.below {w w' : World} {lo hi : Nat} {A : Option Addr} {gs : List Bool} (h : OwnB w lo hi A gs) (hb : Below w.heap.size w w') : OwnB w' lo hi A gs := h.btw (Btw.of_below hb hi hi) (.inl (Nat.le_refl _))
theorem OwnB.wide {w : World} {lo hi lo' hi' : Nat} {A : Option Addr} {gs : List Bool} (h : OwnB w lo hi A gs) (h1 : lo' ≤ lo) (h2 : hi ≤ hi') : OwnB w lo' hi' A gs := by
  rcases h with e | ⟨b, m, f, e, p1, p2, hm, hr, hf⟩
  · exact .inl e
  · exact .inr ⟨b, m, f, e, by omega, by omega, hm, hr, hf⟩
theorem OwnB.far {w : World} {lo hi : Nat} {A : Option Addr} {gs : List Bool} (h : OwnB w lo hi A gs) {b : Nat} {t : TypeId} {cs : Array Value} (X : Box w b t cs) (ht : t ≠ 4) (i : Nat) (u : Value) : OwnB (w.setCell ⟨b, i, none⟩ u) lo hi A gs := by
  rcases h with e | ⟨b', m, f, e, p1, p2, hm, hr, hf⟩
  · exact .inl e
  · exact .inr ⟨b', m, f, e, p1, p2, hm, hr.setOther (a := ⟨b, i, none⟩) (by exact (X.ne hr ht).symm) u, hf⟩
/-- The block of this row alone. -/
theorem OwnB.narrow {w : World} {lo hi : Nat} {A : Option Addr} {gs : List Bool} (h : OwnB w lo hi A gs) : ∃ l r, lo ≤ l ∧ r ≤ hi ∧ OwnB w l r A gs ∧ ∀ b n f, w.rowIs b 3 n f → b < l ∨ r ≤ b := by
  rcases h with e | ⟨b, m, f, e, q1, q2, q3, q4, q5⟩
  · exact ⟨lo, 0, Nat.le_refl _, Nat.zero_le _, .inl e, fun _ _ _ _ => .inr (Nat.zero_le _)⟩
  · refine ⟨b, b + 1, q1, by omega, .inr ⟨b, m, f, e, Nat.le_refl _, by omega, q3, q4, q5⟩, fun b' n' f' h' => ?_⟩
    have := row_ne q4 h' (by decide)
    omega
theorem OwnB.apart {w w' : World} {lo hi l r : Nat} {A : Option Addr} {gs : List Bool} (h : OwnB w lo hi A gs) (hb : Btw l r w w') (ha : ∀ b n f, w.rowIs b 4 n f → b < l ∨ r ≤ b) : OwnB w' lo hi A gs := by
  rcases h with e | ⟨b, m, f, e, q1, q2, q3, q4, q5⟩
  · exact .inl e
  · exact .inr ⟨b, m, f, e, q1, q2, q3, hb.row q4 (ha b m f q4), q5⟩
/-- The same of a []int against a []bool. -/
theorem OwnI.narrowB {w : World} {lo hi : Nat} {A : Option Addr} {zs : List Int} (h : OwnI w lo hi A zs) : ∃ l r, lo ≤ l ∧ r ≤ hi ∧ OwnI w l r A zs ∧ ∀ b n f, w.rowIs b 4 n f → b < l ∨ r ≤ b := by
  rcases h with e | ⟨b, m, f, e, q1, q2, q3, q4, q5⟩
  · exact ⟨lo, 0, Nat.le_refl _, Nat.zero_le _, .inl e, fun _ _ _ _ => .inr (Nat.zero_le _)⟩
  · refine ⟨b, b + 1, q1, by omega, .inr ⟨b, m, f, e, Nat.le_refl _, by omega, q3, q4, q5⟩, fun b' n' f' h' => ?_⟩
    have := row_ne q4 h' (by decide)
    omega
theorem OwnI.apartB {w w' : World} {lo hi l r : Nat} {A : Option Addr} {zs : List Int} (h : OwnI w lo hi A zs) (hb : Btw l r w w') (ha : ∀ b n f, w.rowIs b 3 n f → b < l ∨ r ≤ b) : OwnI w' lo hi A zs := by
  rcases h with e | ⟨b, m, f, e, q1, q2, q3, q4, q5⟩
  · exact .inl e
  · exact .inr ⟨b, m, f, e, q1, q2, q3, hb.row q4 (ha b m f q4), q5⟩
theorem OwnI.wideB {w : World} {lo hi lo' hi' : Nat} {A : Option Addr} {zs : List Int} (h : OwnI w lo hi A zs) (h1 : lo' ≤ lo) (h2 : hi ≤ hi') : OwnI w lo' hi' A zs := by
  rcases h with e | ⟨b, m, f, e, p1, p2, hm, hr, hf⟩
  · exact .inl e
  · exact .inr ⟨b, m, f, e, by omega, by omega, hm, hr, hf⟩
theorem OwnI.farB {w : World} {lo hi : Nat} {A : Option Addr} {zs : List Int} (h : OwnI w lo hi A zs) {b : Nat} {t : TypeId} {cs : Array Value} (X : Box w b t cs) (ht : t ≠ 3) (i : Nat) (u : Value) : OwnI (w.setCell ⟨b, i, none⟩ u) lo hi A zs := by
  rcases h with e | ⟨b', m, f, e, p1, p2, hm, hr, hf⟩
  · exact .inl e
  · exact .inr ⟨b', m, f, e, p1, p2, hm, hr.setOther (a := ⟨b, i, none⟩) (by exact (X.ne hr ht).symm) u, hf⟩

set_option maxRecDepth 100000 in
theorem infoB : (Try.prog.info? 4).map (fun i => (i.zero, i.size, i.bytes)) = some (some (.bool false), 1, 1) := by kernel_rfl

/-- The call hands back a []bool of its own. -/
def GivesBools (gs : List Bool) (w : World) (e : Ending) (w' : World) : Prop :=
  ∃ A n c, e = .returned (.slice A n c) ∧ Hid (gs.length = n) ∧ Hid (OwnB w' w.heap.size w'.heap.size A gs) ∧ n ≤ c ∧ Below w.heap.size w w'

def marksB (k n : Nat) : List Bool := (List.range n).map fun i => decide ((k + i) % 3 = 0)
theorem marksB_len (k n : Nat) : (marksB k n).length = n := by simp [marksB]
theorem marksB_at (k n i : Nat) (h : i < n) : (marksB k n).getD i false = decide ((k + i) % 3 = 0) := by simp [marksB, List.getD_eq_getElem?_getD, h]
def MarkedBs (lo hi : Nat) (A : Option Addr) (k n : Nat) (w : World) (e : Ending) (w' : World) : Prop :=
  e = .returned (.int .i64 ((k + n : Nat) : Int)) ∧ Hid (OwnB w' lo hi A (marksB k n)) ∧ Btw lo hi w w'
theorem rem3 (z : Nat) : ((z : Int) % 3 == 0) = decide (z % 3 = 0) := by
  rw [Bool.eq_iff_iff]
  simp only [beq_iff_eq, decide_eq_true_eq]
  omega

end Go.Proofs.Ytagdclbpgkilgaa

/- Contracts of szFlash, toFlash, eqFlash, markFlash, heldFlash; a flash behind a box. -/
namespace Go.Proofs.Ytagdclbpgkilgaa
open Go.RowKit

/-- Block b holds this flash; its rows lie from lo on and below hi. -/
structure BF (w : World) (b lo hi : Nat) (A : Option Addr) (n c : Nat) (C : Option Addr) (m d : Nat) (st : Int) (zs : List Int) (gs : List Bool) : Prop where
  box : Box w b 26 #[.slice A n c, .slice C m d, .int .i64 st]
  s : OwnI w lo hi A zs
  r : OwnB w lo hi C gs
section
variable {w w' : World} {b lo hi : Nat} {A : Option Addr} {n c : Nat} {C : Option Addr} {m d : Nat} {st : Int} {zs : List Int} {gs : List Bool}
theorem BF.step (h : BF w b lo hi A n c C m d st zs gs) (hb : Below w.heap.size w w') : BF w' b lo hi A n c C m d st zs gs := ⟨h.box.step hb, h.s.below hb, h.r.below hb⟩
theorem BF.btw {l r : Nat} (h : BF w b lo hi A n c C m d st zs gs) (hb : Btw l r w w') (h1 : b < l ∨ r ≤ b) (h2 : hi ≤ l ∨ r ≤ lo) : BF w' b lo hi A n c C m d st zs gs := ⟨h.box.btw hb h1, h.s.btw hb h2, h.r.btw hb h2⟩
theorem BF.new (hs : OwnI w lo hi A zs) (hr : OwnB w lo hi C gs) : BF (w.alloc (.cells #[.slice A n c, .slice C m d, .int .i64 st] 26)) w.heap.size lo hi A n c C m d st zs gs :=
  ⟨Box.new _ _ _, hs.below (alloc_below w _), hr.below (alloc_below w _)⟩
theorem BF.f0 (h : BF w b lo hi A n c C m d st zs gs) : w.cell? ⟨b, 0, none⟩ = some (.slice A n c) := h.box.cell 0 rfl
theorem BF.f1 (h : BF w b lo hi A n c C m d st zs gs) : w.cell? ⟨b, 1, none⟩ = some (.slice C m d) := h.box.cell 1 rfl
theorem BF.f2 (h : BF w b lo hi A n c C m d st zs gs) : w.cell? ⟨b, 2, none⟩ = some (.int .i64 st) := h.box.cell 2 rfl
end

/-- The call hands back a flash of its own. -/
def GivesFlash (zs : List Int) (gs : List Bool) (st : Int) (w : World) (e : Ending) (w' : World) : Prop :=
  ∃ A n c C m d, e = .returned (.agg #[.slice A n c, .slice C m d, .int .i64 st]) ∧ Hid (zs.length = n) ∧ Hid (gs.length = m) ∧ Hid (OwnI w' w.heap.size w'.heap.size A zs) ∧ Hid (OwnB w' w.heap.size w'.heap.size C gs) ∧ Below w.heap.size w w'
/-- The same, and the capacity of its cells is no less than their number. -/
def GivesFlashC (zs : List Int) (gs : List Bool) (st : Int) (w : World) (e : Ending) (w' : World) : Prop :=
  ∃ A n c C m d, e = .returned (.agg #[.slice A n c, .slice C m d, .int .i64 st]) ∧ Hid (zs.length = n) ∧ Hid (gs.length = m) ∧ Hid (OwnI w' w.heap.size w'.heap.size A zs) ∧ Hid (OwnB w' w.heap.size w'.heap.size C gs) ∧ Hid (n ≤ c) ∧ Below w.heap.size w w'
theorem GivesFlashC.plain {zs : List Int} {gs : List Bool} {st : Int} {w : World} {e : Ending} {w' : World} : GivesFlashC zs gs st w e w' → GivesFlash zs gs st w e w' := by
  rintro ⟨A, n, c, C, m, d, h, L, M, S, R, _, hb⟩
  exact ⟨A, n, c, C, m, d, h, L, M, S, R, hb⟩
/-- The call hands back a flash of its own and a code. -/
def GivesFlashCode (zs : List Int) (gs : List Bool) (st code : Int) (w : World) (e : Ending) (w' : World) : Prop :=
  ∃ A n c C m d, e = .returned (.tuple #[.agg #[.slice A n c, .slice C m d, .int .i64 st], .int .i64 code]) ∧ Hid (zs.length = n) ∧ Hid (gs.length = m) ∧ Hid (OwnI w' w.heap.size w'.heap.size A zs) ∧ Hid (OwnB w' w.heap.size w'.heap.size C gs) ∧ Below w.heap.size w w'

/-- What the marks of a flash leave. -/
def MarkedFlash (lo hi : Nat) (A C : Option Addr) (k n m : Nat) (w : World) (e : Ending) (w' : World) : Prop :=
  e = .returned (.int .i64 ((k + n + m : Nat) : Int)) ∧ Hid (OwnI w' lo hi A (marksI k n)) ∧ Hid (OwnB w' lo hi C (marksB (k + n) m)) ∧ Btw lo hi w w'

end Go.Proofs.Ytagdclbpgkilgaa

/- Contracts of the tests: isSector, l01In, a write's and a disk's valid, both DiskOK. -/
namespace Go.Proofs.Ytagdclbpgkilgaa
open Go.RowKit

def secB (n : Int) : Bool := decide (0 ≤ n ∧ n ≤ 47)
def okWr (x : Int × ByteArray) : Bool := secB x.1 && decide (x.2.size ≤ 100)
def okSt (s : ByteArray) : Bool := decide (s.size ≤ 100)
def okDisk (ss : List ByteArray) (ws : List (Int × ByteArray)) : Bool := (decide (ss.length = 48) && decide (ws.length ≤ 60)) && (ss.all okSt && ws.all okWr)

theorem all_step {α : Type} (p : α → Bool) (l : List α) (d : α) (k : Nat) (h : k < l.length) : (l.drop k).all p = (p (l.getD k d) && (l.drop (k + 1)).all p) := by
  rw [List.drop_eq_getElem_cons h, List.all_cons, List.getD_eq_getElem?_getD, List.getElem?_eq_getElem h]
  rfl
theorem all_end {α : Type} (p : α → Bool) (l : List α) (k : Nat) (h : l.length ≤ k) : (l.drop k).all p = true := by
  rw [List.drop_of_length_le h]; rfl

theorem secB_range {a : Int} (h : secB a = true) : 0 ≤ a ∧ a ≤ 47 := by unfold secB at h; simpa using h

set_option maxRecDepth 100000 in
theorem l01In47 (n : Int) (w : World) : Calls Try.prog 51 #[.int .i64 n, .int .i64 0, .int .i64 47] w fun e w' => e = .returned (.bool (secB n)) ∧ w = w' := by
  go_enter Try.func51, Try.ntmps51
  go_wp2
  all_goals go_ret
  all_goals (refine ⟨ret_bool ?_, rfl⟩)
  all_goals (unfold secB; rw [Bool.eq_iff_iff]; simp; try omega)

theorem okDisk_no1 (ss : List ByteArray) (ws : List (Int × ByteArray)) (h : ss.length ≠ 48) : okDisk ss ws = false := by unfold okDisk; simp [h]
theorem okDisk_no2 (ss : List ByteArray) (ws : List (Int × ByteArray)) (h : 60 < ws.length) : okDisk ss ws = false := by
  unfold okDisk
  have : decide (ws.length ≤ 60) = false := by simp; omega
  rw [this]; simp
theorem okDisk_yes (ss : List ByteArray) (ws : List (Int × ByteArray)) (h : ss.length = 48) (h2 : ws.length ≤ 60) : okDisk ss ws = (ss.all okSt && ws.all okWr) := by
  unfold okDisk; simp [h, h2]

/-- Each string of the disk is of a size that strings have. -/
def FitS (ss : List ByteArray) : Prop := ∀ s ∈ ss, s.size ≤ maxLen
def FitW (ws : List (Int × ByteArray)) : Prop := ∀ x ∈ ws, x.2.size ≤ maxLen
theorem FitS.at_ {ss : List ByteArray} (h : FitS ss) (k : Nat) (hk : k < ss.length) : (ss.getD k ByteArray.empty).size ≤ maxLen := h _ (by rw [List.getD_eq_getElem?_getD, List.getElem?_eq_getElem hk]; exact List.getElem_mem _)
theorem FitW.at_ {ws : List (Int × ByteArray)} (h : FitW ws) (k : Nat) (hk : k < ws.length) : (ws.getD k (0, ByteArray.empty)).2.size ≤ maxLen := h _ (by rw [List.getD_eq_getElem?_getD, List.getElem?_eq_getElem hk]; exact List.getElem_mem _)

end Go.Proofs.Ytagdclbpgkilgaa

/- Contracts of the tests of a flash: isByte, isOffset, isBlock, blockOf, l01In, l03At, allBytes, Flash.valid, both FlashOK, checkCell, checkBlock, l03Ask. -/
namespace Go.Proofs.Ytagdclbpgkilgaa
open Go.RowKit

def byB (n : Int) : Bool := decide (0 ≤ n ∧ n ≤ 255)
def blkB (n : Int) : Bool := decide (0 ≤ n ∧ n ≤ 15)
def stB (n : Int) : Bool := decide (0 ≤ n ∧ n ≤ 8)
def okFlash (zs : List Int) (gs : List Bool) (st : Int) : Bool := (decide (zs.length = 256) && decide (gs.length = 16)) && (stB st && zs.all byB)
def codeIf (f ok : Bool) : Int := if f then (if ok then 0 else 4) else 1

theorem byB_range {a : Int} (h : byB a = true) : 0 ≤ a ∧ a ≤ 255 := by unfold byB at h; simpa using h
theorem blkB_range {a : Int} (h : blkB a = true) : 0 ≤ a ∧ a ≤ 15 := by unfold blkB at h; simpa using h
theorem stB_range {a : Int} (h : stB a = true) : 0 ≤ a ∧ a ≤ 8 := by unfold stB at h; simpa using h
theorem okFlash_len {zs : List Int} {gs : List Bool} {st : Int} (h : okFlash zs gs st = true) : zs.length = 256 ∧ gs.length = 16 ∧ (0 ≤ st ∧ st ≤ 8) ∧ ∀ z ∈ zs, 0 ≤ z ∧ z ≤ 255 := by
  unfold okFlash at h
  simp only [Bool.and_eq_true, decide_eq_true_eq, List.all_eq_true] at h
  exact ⟨h.1.1, h.1.2, stB_range h.2.1, fun z hz => byB_range (h.2.2 z hz)⟩
theorem okFlash_mk {zs : List Int} {gs : List Bool} {st : Int} (h1 : zs.length = 256) (h2 : gs.length = 16) (h3 : 0 ≤ st ∧ st ≤ 8) (h4 : ∀ z ∈ zs, 0 ≤ z ∧ z ≤ 255) : okFlash zs gs st = true := by
  unfold okFlash
  simp only [Bool.and_eq_true, decide_eq_true_eq, List.all_eq_true]
  exact ⟨⟨h1, h2⟩, by unfold stB; simpa using h3, fun z hz => by unfold byB; simpa using h4 z hz⟩

set_option maxRecDepth 100000 in
theorem isByte (n : Int) (w : World) : Calls Try.prog 71 #[.int .i64 n] w fun e w' => e = .returned (.bool (byB n)) ∧ w = w' := by
  go_enter Try.func71, Try.ntmps71
  go_wp2
  all_goals go_ret
  all_goals (refine ⟨ret_bool ?_, rfl⟩)
  all_goals (unfold byB; rw [Bool.eq_iff_iff]; simp; try omega)
set_option maxRecDepth 100000 in
theorem l01In255 (n : Int) (w : World) : Calls Try.prog 51 #[.int .i64 n, .int .i64 0, .int .i64 255] w fun e w' => e = .returned (.bool (byB n)) ∧ w = w' := by
  go_enter Try.func51, Try.ntmps51
  go_wp2
  all_goals go_ret
  all_goals (refine ⟨ret_bool ?_, rfl⟩)
  all_goals (unfold byB; rw [Bool.eq_iff_iff]; simp; try omega)
set_option maxRecDepth 100000 in
theorem l01In15 (n : Int) (w : World) : Calls Try.prog 51 #[.int .i64 n, .int .i64 0, .int .i64 15] w fun e w' => e = .returned (.bool (blkB n)) ∧ w = w' := by
  go_enter Try.func51, Try.ntmps51
  go_wp2
  all_goals go_ret
  all_goals (refine ⟨ret_bool ?_, rfl⟩)
  all_goals (unfold blkB; rw [Bool.eq_iff_iff]; simp; try omega)
set_option maxRecDepth 100000 in
theorem l01In8 (n : Int) (w : World) : Calls Try.prog 51 #[.int .i64 n, .int .i64 0, .int .i64 8] w fun e w' => e = .returned (.bool (stB n)) ∧ w = w' := by
  go_enter Try.func51, Try.ntmps51
  go_wp2
  all_goals go_ret
  all_goals (refine ⟨ret_bool ?_, rfl⟩)
  all_goals (unfold stB; rw [Bool.eq_iff_iff]; simp; try omega)
set_option maxRecDepth 100000 in
theorem blockOf (n : Nat) (hn : n ≤ 255) (w : World) : Calls Try.prog 135 #[.int .i64 n] w fun e w' => e = .returned (.int .i64 ((n / 16 : Nat) : Int)) ∧ w = w' := by
  go_enter Try.func135, Try.ntmps135
  go_wp2
  go_ret
  exact ⟨rfl, rfl⟩

set_option maxRecDepth 100000 in
set_option maxHeartbeats 1000000 in
theorem allBytes (A : Option Addr) (n c : Nat) (zs : List Int) (w : World) (hl : zs.length = n) (hn : n ≤ maxLen) (h : IntL w A zs) :
    Calls Try.prog 93 #[.slice A n c] w fun e w' => e = .returned (.bool (zs.all byB)) ∧ w = w' := by
  unfold maxLen at hn
  have HL := Lib.hid hl
  have H := Lib.hid h
  clear hl h
  go_enter Try.func93, Try.ntmps93
  go_wp2
  go_loop [7] (fun i => ∃ k : Nat, k ≤ n ∧ i = .int .i64 k ∧ Hid (zs.all byB = (zs.drop k).all byB)) (fun i => n - (intOf i).toNat)
  case atStart => exact ⟨0, Nat.zero_le _, rfl, Lib.hid rfl⟩
  case round =>
    obtain ⟨k, hk, rfl, HT⟩ := hrel
    by_cases hlt : k < n
    · obtain ⟨b, off, rfl, hc⟩ := H.out k (by rw [HL.out]; exact hlt)
      have HS := Lib.hid (all_step byB zs 0 k (by rw [HL.out]; exact hlt))
      generalize zs.getD k 0 = x at hc HS
      have hi : (k : Int) < (n : Int) := by omega
      by_cases hE : byB x = true
      · go_wp2_with (first | (go_at_call 71; refine (isByte _ _).mono ?_; rintro e w' ⟨rfl, rfl⟩; rw [hE]))
        go_round
        case rel => exact ⟨k + 1, by omega, by go_num, Lib.hid (by rw [HT.out, HS.out, hE]; rfl)⟩
        case measure => simp [intOf]; omega
      · have hE' : byB x = false := by simpa using hE
        clear hE
        go_wp2_with (first | (go_at_call 71; refine (isByte _ _).mono ?_; rintro e w' ⟨rfl, rfl⟩; rw [hE']))
        go_ret
        exact ⟨ret_bool (by rw [HT.out, HS.out, hE']; rfl), rfl⟩
    · have HT2 : Hid (zs.all byB = true) := Lib.hid (by rw [HT.out]; exact all_end _ _ _ (by rw [HL.out]; omega))
      go_wp2
      go_ret
      exact ⟨ret_bool HT2.out.symm, rfl⟩

theorem okFlash_no1 (zs : List Int) (gs : List Bool) (st : Int) (h : zs.length ≠ 256) : okFlash zs gs st = false := by unfold okFlash; simp [h]
theorem okFlash_no2 (zs : List Int) (gs : List Bool) (st : Int) (h : gs.length ≠ 16) : okFlash zs gs st = false := by unfold okFlash; simp [h]
theorem okFlash_no3 (zs : List Int) (gs : List Bool) (st : Int) (h : stB st = false) : okFlash zs gs st = false := by unfold okFlash; simp [h]
theorem okFlash_yes (zs : List Int) (gs : List Bool) (st : Int) (h : zs.length = 256) (h2 : gs.length = 16) (h3 : stB st = true) : okFlash zs gs st = zs.all byB := by unfold okFlash; simp [h, h2, h3]

set_option maxRecDepth 100000 in
set_option maxHeartbeats 2000000 in
theorem flashValid (A C : Option Addr) (n c m d : Nat) (st : Int) (zs : List Int) (gs : List Bool) (w : World) (hl : zs.length = n) (hm : gs.length = m) (hn : n ≤ maxLen) (_hmm : m ≤ maxLen) (h : IntL w A zs) :
    Calls Try.prog 94 #[.agg #[.slice A n c, .slice C m d, .int .i64 st]] w fun e w' => e = .returned (.bool (okFlash zs gs st)) ∧ Below w.heap.size w w' := by
  have hb0 := alloc_below w (.cells #[.slice A n c, .slice C m d, .int .i64 st] 26)
  have HB := Lib.hid (allBytes A n c zs _ hl hn (h.below hb0))
  unfold maxLen at hn _hmm
  have HL := Lib.hid hl
  have HM := Lib.hid hm
  clear hl hm h
  by_cases h1 : n = 256
  · have q1 : ((n : Int) == 256) = true := by simp; omega
    by_cases h2 : m = 16
    · have q2 : ((m : Int) == 16) = true := by simp; omega
      by_cases h3 : 0 ≤ st
      · by_cases h4 : st ≤ 8
        · have HY := Lib.hid (okFlash_yes zs gs st (by rw [HL.out]; exact h1) (by rw [HM.out]; exact h2) (by unfold stB; simp; omega))
          generalize okFlash zs gs st = r at HY
          generalize zs.all byB = ab at HB HY
          clear h1 h2
          go_enter Try.func94, Try.ntmps94
          go_wp2_with (first | (go_at_call 93; refine HB.out.mono ?_; rintro e w' ⟨rfl, rfl⟩))
          all_goals go_ret
          all_goals exact ⟨ret_bool HY.out.symm, hb0⟩
        · have HF := Lib.hid (okFlash_no3 zs gs st (by unfold stB; simp; omega))
          clear h1 h2
          go_enter Try.func94, Try.ntmps94
          go_wp2
          all_goals go_ret
          all_goals exact ⟨ret_bool HF.out.symm, hb0⟩
      · have HF := Lib.hid (okFlash_no3 zs gs st (by unfold stB; simp; omega))
        clear h1 h2
        go_enter Try.func94, Try.ntmps94
        go_wp2
        all_goals go_ret
        all_goals exact ⟨ret_bool HF.out.symm, hb0⟩
    · have q2 : ((m : Int) == 16) = false := by simp; omega
      have HF := Lib.hid (okFlash_no2 zs gs st (by rw [HM.out]; exact h2))
      clear h1 h2
      go_enter Try.func94, Try.ntmps94
      go_wp2
      all_goals go_ret
      all_goals exact ⟨ret_bool HF.out.symm, hb0⟩
  · have q1 : ((n : Int) == 256) = false := by simp; omega
    have HF := Lib.hid (okFlash_no1 zs gs st (by rw [HL.out]; exact h1))
    clear h1
    go_enter Try.func94, Try.ntmps94
    go_wp2
    all_goals go_ret
    all_goals exact ⟨ret_bool HF.out.symm, hb0⟩

set_option maxRecDepth 100000 in
set_option maxHeartbeats 2000000 in
theorem specFlashOK (A C : Option Addr) (n c m d : Nat) (st : Int) (zs : List Int) (gs : List Bool) (w : World) (hl : zs.length = n) (hm : gs.length = m) (hn : n ≤ maxLen) (_hmm : m ≤ maxLen) (h : IntL w A zs) :
    Calls Try.prog 81 #[.agg #[.slice A n c, .slice C m d, .int .i64 st]] w fun e w' => e = .returned (.bool (okFlash zs gs st)) ∧ Below w.heap.size w w' := by
  have hb0 := alloc_below w (.cells #[.slice A n c, .slice C m d, .int .i64 st] 26)
  have H := Lib.hid (h.below hb0)
  unfold maxLen at hn _hmm
  have HL := Lib.hid hl
  have HM := Lib.hid hm
  clear hl hm h
  by_cases h1 : n = 256
  · have q1 : ((n : Int) != 256) = false := by simp; omega
    by_cases h2 : m = 16
    · have q2 : ((m : Int) != 16) = false := by simp; omega
      by_cases h3 : stB st = true
      · have HY := Lib.hid (okFlash_yes zs gs st (by rw [HL.out]; exact h1) (by rw [HM.out]; exact h2) h3)
        generalize okFlash zs gs st = r at HY
        have H3 := Lib.hid h3
        clear h1 h2 h3
        go_enter Try.func81, Try.ntmps81
        go_wp2_with (first | (go_at_call 51; refine (l01In8 _ _).mono ?_; rintro e w' ⟨rfl, rfl⟩; rw [H3.out]))
        go_loop [3] (fun i => ∃ k : Nat, k ≤ n ∧ i = .int .i64 k ∧ Hid (zs.all byB = (zs.drop k).all byB)) (fun i => n - (intOf i).toNat)
        case atStart => exact ⟨0, Nat.zero_le _, rfl, Lib.hid rfl⟩
        case round =>
          obtain ⟨k, hk, rfl, HT⟩ := hrel
          by_cases hlt : k < n
          · obtain ⟨b, off, rfl, hc⟩ := H.out k (by rw [HL.out]; exact hlt)
            have HS := Lib.hid (all_step byB zs 0 k (by rw [HL.out]; exact hlt))
            generalize zs.getD k 0 = x at hc HS
            have hi : (k : Int) < (n : Int) := by omega
            by_cases hE : byB x = true
            · go_wp2_with (first | (go_at_call 51; refine (l01In255 _ _).mono ?_; rintro e w' ⟨rfl, rfl⟩; rw [hE]))
              go_round
              case rel => exact ⟨k + 1, by omega, by go_num, Lib.hid (by rw [HT.out, HS.out, hE]; rfl)⟩
              case measure => simp [intOf]; omega
            · have hE' : byB x = false := by simpa using hE
              clear hE
              go_wp2_with (first | (go_at_call 51; refine (l01In255 _ _).mono ?_; rintro e w' ⟨rfl, rfl⟩; rw [hE']))
              go_ret
              exact ⟨ret_bool (by rw [HY.out, HT.out, HS.out, hE']; rfl), hb0⟩
          · have HT2 : Hid (zs.all byB = true) := Lib.hid (by rw [HT.out]; exact all_end _ _ _ (by rw [HL.out]; omega))
            go_wp2
            go_ret
            exact ⟨ret_bool (by rw [HY.out, HT2.out]), hb0⟩
      · have h3' : stB st = false := by simpa using h3
        have HF := Lib.hid (okFlash_no3 zs gs st h3')
        have H3 := Lib.hid h3'
        clear h1 h2 h3 h3'
        go_enter Try.func81, Try.ntmps81
        go_wp2_with (first | (go_at_call 51; refine (l01In8 _ _).mono ?_; rintro e w' ⟨rfl, rfl⟩; rw [H3.out]))
        go_ret
        exact ⟨ret_bool HF.out.symm, hb0⟩
    · have q2 : ((m : Int) != 16) = true := by simp; omega
      have HF := Lib.hid (okFlash_no2 zs gs st (by rw [HM.out]; exact h2))
      clear h1 h2
      go_enter Try.func81, Try.ntmps81
      go_wp2
      all_goals go_ret
      all_goals exact ⟨ret_bool HF.out.symm, hb0⟩
  · have q1 : ((n : Int) != 256) = true := by simp; omega
    have HF := Lib.hid (okFlash_no1 zs gs st (by rw [HL.out]; exact h1))
    clear h1
    go_enter Try.func81, Try.ntmps81
    go_wp2
    all_goals go_ret
    all_goals exact ⟨ret_bool HF.out.symm, hb0⟩

end Go.Proofs.Ytagdclbpgkilgaa

/- The bits of bytes: 'and' as the language has it, and as a natural number. -/
namespace Go.Proofs.Ytagdclbpgkilgaa
open Go.RowKit

theorem wrap8 (n : Int) (h0 : 0 ≤ n) (h1 : n < 2 ^ 8) : IntKind.u8.wrap n = n := by
  have e : n % 2 ^ 8 = n := Int.emod_eq_of_lt h0 h1
  simp only [IntKind.wrap, IntKind.bits, IntKind.signed, e]
  simp
theorem wrap64 (n : Int) (h0 : 0 ≤ n) (h1 : n < 2 ^ 8) : IntKind.i64.wrap n = n := by
  have e : n % 2 ^ 64 = n := Int.emod_eq_of_lt h0 (by omega)
  simp only [IntKind.wrap, IntKind.bits, IntKind.signed, e]
  rw [if_neg]
  simp
  omega
theorem and_u8 (a b : Nat) (ha : a < 256) (hb : b < 256) : bits .and .u8 (a : Int) (b : Int) = ((a &&& b : Nat) : Int) := (bits_nat .u8 8 (by decide) wrap8 a b ha hb).1
theorem and_i64 (a b : Nat) (ha : a < 256) (hb : b < 256) : bits .and .i64 (a : Int) (b : Int) = ((a &&& b : Nat) : Int) := (bits_nat .i64 8 (by decide) wrap64 a b ha hb).1
theorem and_3 (a : Nat) (ha : a < 256) : bits .and .i64 (a : Int) 3 = ((a % 4 : Nat) : Int) := by
  have := and_i64 a 3 ha (by omega)
  rw [show a &&& 3 = a % 4 from Nat.and_two_pow_sub_one_eq_mod a 2] at this
  exact this
theorem and_lt (a b : Nat) (ha : a < 256) : a &&& b < 256 := Nat.lt_of_le_of_lt Nat.and_le_left ha
end Go.Proofs.Ytagdclbpgkilgaa

/- append of a whole row onto an empty literal. -/
namespace Go.Proofs.Ytagdclbpgkilgaa
open Go.RowKit

/-- append onto an empty row without room, something: a new row. -/
theorem run_app_fresh {P : Program} (w : World) (t ty e : TypeId) (i : TypeInfo) (z : Value) (size bytes : Nat) (ht : P.underlying t = some (.slice e)) (hi : P.info? e = some i) (hz : i.zero = some z)
    (hsize : i.size = size) (hby : i.bytes = bytes) (hzs : z.cells.size = size) (hsz : 0 < size) (b : Addr)
    (A : Option Addr) (m c : Nat) (hm : 0 < m) (news : List Value) (hl : news.length = m * size) (hsrc : ∃ ad, A = some ad ∧ ∀ j u, news[j]? = some u → w.cell? (ad.add j) = some u)
    (h63 : m ≤ maxLen) (hbytes : m * bytes ≤ 140737488355328) :
    ∃ A' cap w', (Builtin.append_ #[t, t] ty #[.slice (some b) 0 0, .slice A m c]).run P w = .ok (.slice A' m cap) w' ∧ Below w.heap.size w w' ∧ w'.ownsRow w.heap.size e size (.slice A' m cap) m news := by
  obtain ⟨ad, rfl, hc⟩ := hsrc
  obtain ⟨v', w', hr, ho, hg⟩ := run_append_arg_grows (P := P) w t ty e i z size bytes ht hi hz hsize hby hzs hsz b 0 0 [] (by simp) (fun j u hj => by simp at hj) ad m c news hl hc (by omega) (by omega) (by rw [Nat.zero_add]; exact hbytes)
  rw [Nat.zero_add] at ho
  obtain ⟨hl', h0 | ⟨g, cap, cur, rfl, hrest⟩⟩ := ho
  · omega
  · exact ⟨_, cap, w', hr, (Below.refl _ _).grown hg (Nat.le_refl _) (fun k hk => by cases hk), hl', .inr ⟨g, cap, cur, rfl, hrest⟩⟩

theorem wpList_app_fresh {P : Program} {ops : Array Oper} {rest : List Oper} {o : Oper} {a : Act} {w : World} {Q : Exit → Act → World → Prop}
    (hg : o.guard = none) (s x : Operand) (t : TypeId) (hop : o.op = Op.call { callee := Callee.builtin Builtin.append, args := #[s, x], argTypes := #[t, t] })
    (e : TypeId) (z : Value) (size bytes : Nat) (ht : P.underlying t = some (.slice e)) (hi : ∃ i : TypeInfo, P.info? e = some i ∧ i.zero = some z ∧ i.size = size ∧ i.bytes = bytes) (hzs : z.cells.size = size) (hsz : 0 < size) (b : Addr) (hs : a.eval s = .slice (some b) 0 0)
    (A : Option Addr) (m c : Nat) (hm : 0 < m) (news : List Value) (hx : a.eval x = .slice A m c) (hl : news.length = m * size) (hsrc : ∃ ad, A = some ad ∧ ∀ j u, news[j]? = some u → w.cell? (ad.add j) = some u)
    (h63 : m ≤ maxLen) (hbytes : m * bytes ≤ 140737488355328)
    (h : ∀ A' cap w', Below w.heap.size w w' → Hid (w'.ownsRow w.heap.size e size (.slice A' m cap) m news) → wpList P ops Q rest (a.put o.dst (.slice A' m cap)) w') : wpList P ops Q (o :: rest) a w :=
  wpList_plain hg fun _ hK => by
    obtain ⟨i, hi, hz, hsize, hby⟩ := hi
    obtain ⟨A', cap, w', hr, h2, h3⟩ := run_app_fresh (P := P) w t o.type e i z size bytes ht hi hz hsize hby hzs hsz b A m c hm news hl hsrc h63 hbytes
    unfold Oper.wp execOp
    simp only [hop, resolve, invoke, builtin, Sem.run_bind, Sem.run_pure, Result.andThen_ok, List.map_toArray, List.map_cons, List.map_nil, hs, hx, hr]
    exact hK _ _ (h A' cap w' h2 (Lib.hid h3))
end Go.Proofs.Ytagdclbpgkilgaa

/- append of a whole row onto an empty literal; lists as rows of one cell each. -/
namespace Go.Proofs.Ytagdclbpgkilgaa
open Go.RowKit

theorem row_of_owns {α : Type} (mk : α → Value) (dflt : α) {w : World} {base n : Nat} {t : TypeId} {v : Value} {ss : List α} (h : w.ownsRow base t 1 v n (ss.map mk)) (hn : 0 < n) : ∃ g cap m f, v = .slice (some ⟨g, 0, none⟩) n cap ∧ base ≤ g ∧ n ≤ m ∧ ss.length = n ∧ w.rowIs g t m f ∧ ∀ i, i < n → f i = mk (ss.getD i dflt) := by
  obtain ⟨hl, h0 | ⟨g, cap, cur, rfl, hb, hg, hnc, _, hsz, htk⟩⟩ := h
  · omega
  · rw [List.length_map, Nat.mul_one] at hl
    rw [Nat.mul_one] at hsz htk
    refine ⟨g, cap, cap, fun i => cur.toList.getD i undef, rfl, hb, hnc, hl, ⟨cur, hg, hsz, fun i hi => ?_⟩, fun i hi => ?_⟩
    · have : i < cur.toList.length := by simp [hsz, hi]
      show cur[i]? = some (cur.toList.getD i undef)
      rw [List.getD_eq_getElem?_getD, List.getElem?_eq_getElem this, ← Array.getElem?_toList, List.getElem?_eq_getElem this]
      rfl
    · have h1 : (cur.toList.take n)[i]? = (ss.map mk)[i]? := by rw [htk]
      rw [List.getElem?_take, if_pos hi] at h1
      show cur.toList.getD i undef = _
      rw [List.getD_eq_getElem?_getD, h1, List.getElem?_map, List.getD_eq_getElem?_getD, List.getElem?_eq_getElem (by omega)]
      rfl

def cellsI (zs : List Int) : List Value := zs.map fun z => .int .i64 z
def cellsB (gs : List Bool) : List Value := gs.map Value.bool
theorem cellsI_len (zs : List Int) : (cellsI zs).length = zs.length := by simp [cellsI]
theorem cellsB_len (gs : List Bool) : (cellsB gs).length = gs.length := by simp [cellsB]
theorem ownI_fresh {w' : World} {A : Option Addr} {n cap lo base : Nat} {zs : List Int} (h : w'.ownsRow base 3 1 (.slice A n cap) n (cellsI zs)) (hn : 0 < n) (hlo : lo ≤ base) : OwnI w' lo w'.heap.size A zs := by
  obtain ⟨g, cap', m, f, e, q1, q2, q3, q4, q5⟩ := row_of_owns (fun z => Value.int .i64 z) 0 h hn
  injection e with e _ _
  subst e
  exact .inr ⟨g, m, f, rfl, by omega, q4.lt, by omega, q4, fun i hi => q5 i (by omega)⟩
theorem ownB_fresh {w' : World} {A : Option Addr} {n cap lo base : Nat} {gs : List Bool} (h : w'.ownsRow base 4 1 (.slice A n cap) n (cellsB gs)) (hn : 0 < n) (hlo : lo ≤ base) : OwnB w' lo w'.heap.size A gs := by
  obtain ⟨g, cap', m, f, e, q1, q2, q3, q4, q5⟩ := row_of_owns Value.bool false h hn
  injection e with e _ _
  subst e
  exact .inr ⟨g, m, f, rfl, by omega, q4.lt, by omega, q4, fun i hi => q5 i (by omega)⟩
theorem addr_add (b off j : Nat) : (⟨b, off, none⟩ : Addr).add j = ⟨b, off + j, none⟩ := by unfold Addr.add; split <;> simp_all
theorem IntL.src {w : World} {A : Option Addr} {zs : List Int} (h : IntL w A zs) (hn : 0 < zs.length) : ∃ ad, A = some ad ∧ ∀ j u, (cellsI zs)[j]? = some u → w.cell? (ad.add j) = some u := by
  obtain ⟨b, off, e, _⟩ := h 0 hn
  refine ⟨_, e, fun j u hj => ?_⟩
  have hj' : j < zs.length := by
    have := (List.getElem?_eq_some_iff.1 hj).1
    rwa [cellsI_len] at this
  obtain ⟨b', off', e', hc⟩ := h j hj'
  rw [e] at e'
  injection e' with e'
  injection e' with e1 e2 _
  subst e1 e2
  rw [addr_add, hc, ← hj]
  unfold cellsI
  rw [List.getElem?_map, List.getD_eq_getElem?_getD, List.getElem?_eq_getElem hj']
  rfl
theorem BoolL.src {w : World} {A : Option Addr} {gs : List Bool} (h : BoolL w A gs) (hn : 0 < gs.length) : ∃ ad, A = some ad ∧ ∀ j u, (cellsB gs)[j]? = some u → w.cell? (ad.add j) = some u := by
  obtain ⟨b, off, e, _⟩ := h 0 hn
  refine ⟨_, e, fun j u hj => ?_⟩
  have hj' : j < gs.length := by
    have := (List.getElem?_eq_some_iff.1 hj).1
    rwa [cellsB_len] at this
  obtain ⟨b', off', e', hc⟩ := h j hj'
  rw [e] at e'
  injection e' with e'
  injection e' with e1 e2 _
  subst e1 e2
  rw [addr_add, hc, ← hj]
  unfold cellsB
  rw [List.getElem?_map, List.getD_eq_getElem?_getD, List.getElem?_eq_getElem hj']
  rfl
set_option maxRecDepth 100000 in
theorem infoIx : ∃ i : TypeInfo, Try.prog.info? 3 = some i ∧ i.zero = some (.int .i64 0) ∧ i.size = 1 ∧ i.bytes = 8 := by
  obtain ⟨i, hi, hzz⟩ := Option.map_eq_some_iff.1 infoI
  simp only [Prod.mk.injEq] at hzz
  exact ⟨i, hi, hzz.1, hzz.2.1, hzz.2.2⟩
set_option maxRecDepth 100000 in
theorem infoBx : ∃ i : TypeInfo, Try.prog.info? 4 = some i ∧ i.zero = some (.bool false) ∧ i.size = 1 ∧ i.bytes = 1 := by
  obtain ⟨i, hi, hzz⟩ := Option.map_eq_some_iff.1 infoB
  simp only [Prod.mk.injEq] at hzz
  exact ⟨i, hi, hzz.1, hzz.2.1, hzz.2.2⟩

/-- One element of a row of the call's own is written. -/
theorem OwnI.put {w : World} {lo hi : Nat} {A : Option Addr} {zs : List Int} (h : OwnI w lo hi A zs) (k : Nat) (hk : k < zs.length) :
    ∃ b m f, A = some ⟨b, 0, none⟩ ∧ w.cell? ⟨b, k, none⟩ = some (.int .i64 (zs.getD k 0)) ∧ w.frozen? ⟨b, k, none⟩ = false ∧ lo ≤ b ∧ b < hi ∧ w.rowIs b 3 m f ∧ ∀ x, OwnI (w.setCell ⟨b, k, none⟩ (.int .i64 x)) lo hi A (zs.set k x) := by
  rcases h with rfl | ⟨b, m, f, e, h1, h2, hm, hr, hf⟩
  · simp at hk
  · refine ⟨b, m, f, e, by rw [← hf k hk]; exact hr.cell (by omega), hr.frozen k, h1, h2, hr, fun x => .inr ⟨b, m, _, e, h1, h2, by simpa using hm, hr.set k (.int .i64 x), fun i hi' => ?_⟩⟩
    have hi2 : i < zs.length := by simpa using hi'
    show (if i = k then Value.int .i64 x else f i) = _
    by_cases q : i = k
    · subst q
      rw [if_pos rfl, List.getD_eq_getElem?_getD, List.getElem?_set_self hk]
      rfl
    · rw [if_neg q, hf i hi2, List.getD_eq_getElem?_getD, List.getD_eq_getElem?_getD, List.getElem?_set_ne (fun e => q e.symm)]
theorem OwnB.put {w : World} {lo hi : Nat} {A : Option Addr} {zs : List Bool} (h : OwnB w lo hi A zs) (k : Nat) (hk : k < zs.length) :
    ∃ b m f, A = some ⟨b, 0, none⟩ ∧ w.cell? ⟨b, k, none⟩ = some (.bool (zs.getD k false)) ∧ w.frozen? ⟨b, k, none⟩ = false ∧ lo ≤ b ∧ b < hi ∧ w.rowIs b 4 m f ∧ ∀ x, OwnB (w.setCell ⟨b, k, none⟩ (.bool x)) lo hi A (zs.set k x) := by
  rcases h with rfl | ⟨b, m, f, e, h1, h2, hm, hr, hf⟩
  · simp at hk
  · refine ⟨b, m, f, e, by rw [← hf k hk]; exact hr.cell (by omega), hr.frozen k, h1, h2, hr, fun x => .inr ⟨b, m, _, e, h1, h2, by simpa using hm, hr.set k (.bool x), fun i hi' => ?_⟩⟩
    have hi2 : i < zs.length := by simpa using hi'
    show (if i = k then Value.bool x else f i) = _
    by_cases q : i = k
    · subst q
      rw [if_pos rfl, List.getD_eq_getElem?_getD, List.getElem?_set_self hk]
      rfl
    · rw [if_neg q, hf i hi2, List.getD_eq_getElem?_getD, List.getD_eq_getElem?_getD, List.getElem?_set_ne (fun e => q e.symm)]
/-- A write into a row of another type leaves it. -/
theorem OwnB.other {w : World} {lo hi : Nat} {A : Option Addr} {gs : List Bool} (h : OwnB w lo hi A gs) {b m : Nat} {t : TypeId} {f : Nat → Value} (hr : w.rowIs b t m f) (ht : t ≠ 4) (i : Nat) (u : Value) : OwnB (w.setCell ⟨b, i, none⟩ u) lo hi A gs := by
  rcases h with e | ⟨b', m', f', e, p1, p2, hm, hr', hf⟩
  · exact .inl e
  · exact .inr ⟨b', m', f', e, p1, p2, hm, hr'.setOther (a := ⟨b, i, none⟩) (by exact (row_ne hr hr' ht).symm) u, hf⟩
theorem OwnI.other {w : World} {lo hi : Nat} {A : Option Addr} {zs : List Int} (h : OwnI w lo hi A zs) {b m : Nat} {t : TypeId} {f : Nat → Value} (hr : w.rowIs b t m f) (ht : t ≠ 3) (i : Nat) (u : Value) : OwnI (w.setCell ⟨b, i, none⟩ u) lo hi A zs := by
  rcases h with e | ⟨b', m', f', e, p1, p2, hm, hr', hf⟩
  · exact .inl e
  · exact .inr ⟨b', m', f', e, p1, p2, hm, hr'.setOther (a := ⟨b, i, none⟩) (by exact (row_ne hr hr' ht).symm) u, hf⟩
theorem Box.other {w : World} {b : Nat} {t : TypeId} {cs : Array Value} (X : Box w b t cs) {b' m : Nat} {t' : TypeId} {f : Nat → Value} (hr : w.rowIs b' t' m f) (ht : t ≠ t') (i : Nat) (u : Value) : Box (w.setCell ⟨b', i, none⟩ u) b t cs :=
  X.far (p := ⟨b', i, none⟩) (X.ne hr ht) u
end Go.Proofs.Ytagdclbpgkilgaa

/- The model's own copy of a flash, and what it does to one: l03Own, l03Program, l03Erase, l03Guard. -/
namespace Go.Proofs.Ytagdclbpgkilgaa
open Go.RowKit

theorem ext_getD {α : Type} (d : α) {l m : List α} (hl : l.length = m.length) (h : ∀ i, i < l.length → l.getD i d = m.getD i d) : l = m := by
  apply List.ext_getElem hl
  intro i h1 h2
  have := h i h1
  rw [List.getD_eq_getElem?_getD, List.getD_eq_getElem?_getD, List.getElem?_eq_getElem h1, List.getElem?_eq_getElem h2] at this
  exact this
/-- The cells from a on and below b are 255. -/
def fillR (zs : List Int) (a b : Nat) : List Int := (List.range zs.length).map fun i => if a ≤ i ∧ i < b then 255 else zs.getD i 0
theorem fillR_len (zs : List Int) (a b : Nat) : (fillR zs a b).length = zs.length := by simp [fillR]
theorem fillR_at (zs : List Int) (a b i : Nat) (h : i < zs.length) : (fillR zs a b).getD i 0 = if a ≤ i ∧ i < b then 255 else zs.getD i 0 := by
  unfold fillR
  rw [List.getD_eq_getElem?_getD, List.getElem?_map, List.getElem?_range h]
  rfl
theorem fillR_none (zs : List Int) (a : Nat) : fillR zs a a = zs := by
  apply ext_getD 0 (fillR_len _ _ _)
  intro i hi
  rw [fillR_len] at hi
  rw [fillR_at _ _ _ _ hi, if_neg (by omega)]
theorem fillR_next (zs : List Int) (a b : Nat) (hab : a ≤ b) (hb : b < zs.length) : (fillR zs a b).set b 255 = fillR zs a (b + 1) := by
  apply ext_getD 0 (by simp [fillR_len])
  intro i hi
  have hi' : i < zs.length := by simpa [fillR_len] using hi
  rw [fillR_at _ _ _ _ hi']
  by_cases e : i = b
  · subst e
    rw [List.getD_eq_getElem?_getD, List.getElem?_set_self (by rw [fillR_len]; exact hb), if_pos ⟨hab, by omega⟩]
    rfl
  · rw [List.getD_eq_getElem?_getD, List.getElem?_set_ne (fun q => e q.symm), ← List.getD_eq_getElem?_getD, fillR_at _ _ _ _ hi']
    by_cases q : a ≤ i ∧ i < b
    · rw [if_pos q, if_pos (by omega)]
    · rw [if_neg q, if_neg (by omega)]
def progL (zs : List Int) (gs : List Bool) (k v : Nat) : List Int := if gs.getD (k / 16) false then zs else zs.set k (((zs.getD k 0).toNat &&& v : Nat) : Int)
def eraseL (zs : List Int) (gs : List Bool) (b : Nat) : List Int := if gs.getD b false then zs else fillR zs (b * 16) (b * 16 + 16)
theorem progL_len (zs : List Int) (gs : List Bool) (k v : Nat) : (progL zs gs k v).length = zs.length := by unfold progL; split <;> simp
theorem eraseL_len (zs : List Int) (gs : List Bool) (b : Nat) : (eraseL zs gs b).length = zs.length := by unfold eraseL; split <;> simp [fillR_len]

set_option maxRecDepth 100000 in
set_option maxHeartbeats 4000000 in
theorem l03OwnC (A C : Option Addr) (n c m d : Nat) (st : Int) (zs : List Int) (gs : List Bool) (w : World) (hl : zs.length = n) (hm : gs.length = m) (hn : n = 256) (hmm : m = 16) (h : IntL w A zs) (g : BoolL w C gs) :
    Calls Try.prog 85 #[.agg #[.slice A n c, .slice C m d, .int .i64 st]] w (GivesFlashC zs gs st w) := by
  obtain ⟨W0, hW0⟩ : ∃ W0, W0 = ((w.alloc (.cells #[.slice A n c, .slice C m d, .int .i64 st] 26)).alloc (.cells #[.slice none 0 0, .slice none 0 0, .int .i64 0] 26)) := ⟨_, rfl⟩
  have hb0 : Below w.heap.size w W0 := by rw [hW0]; exact bt (alloc_below _ _) (alloc_below _ _)
  have X0 : Box W0 w.heap.size 26 #[.slice A n c, .slice C m d, .int .i64 st] := by rw [hW0]; exact (Box.new _ _ _).alloc _
  have Y0 : Box W0 (w.heap.size + 1) 26 #[.slice none 0 0, .slice none 0 0, .int .i64 0] := by rw [hW0]; simpa using Box.new (w.alloc (.cells #[.slice A n c, .slice C m d, .int .i64 st] 26)) 26 #[.slice none 0 0, .slice none 0 0, .int .i64 0]
  have HL := Lib.hid (And.intro hl hm)
  have HSi := Lib.hid (fun W (hb : Below w.heap.size w W) => (h.below hb).src (by omega))
  have HSb := Lib.hid (fun W (hb : Below w.heap.size w W) => (g.below hb).src (by omega))
  have HCi : Hid ((cellsI zs).length = n * 1) := Lib.hid (by rw [cellsI_len]; omega)
  have HCb : Hid ((cellsB gs).length = m * 1) := Lib.hid (by rw [cellsB_len]; omega)
  have hn1 : 0 < n := by omega
  have hm1 : 0 < m := by omega
  have hn2 : n ≤ 256 := by omega
  have hm2 : m ≤ 16 := by omega
  have HW0 := Lib.hid hW0
  have f0 := X0.cell 0 rfl
  have HX := Lib.hid (And.intro X0 Y0)
  have hba := bt hb0 (alloc_below W0 (.cells #[] 3))
  clear hl hm h g hW0 X0 Y0 hn hmm
  go_enter Try.func85, Try.ntmps85
  go_wp2_with (first | (rw [← HW0.out]; with_reducible refine wpList_app_fresh rfl (.tmp 3) (.tmp 5) 23 rfl 3 (.int .i64 0) 1 8 Try.underlying23 infoIx rfl (by decide) _ rfl A n c hn1 (cellsI zs) rfl HCi.out (HSi.out _ hba) (by unfold maxLen; omega) (by omega) ?_))
  intro A1 c1 w1 hb1 O1
  have hk1 := (alloc_below W0 (.cells #[] 3)).trans (hb1.mono (by omega))
  have X1 := HX.out.1.step hk1
  have Y1 := HX.out.2.step hk1
  have KC : Hid (n ≤ c1) := Lib.hid (by obtain ⟨A', cap, hv, hle⟩ := rowv_form O1.out; injection hv with _ _ e3; omega)
  have S1 := Lib.hid (ownI_fresh (lo := w.heap.size) O1.out hn1 (by have := hb0.size; omega))
  have g0 := X1.cell 0 rfl
  have g0z := X1.frozen 0
  have g1 : ((w1.setCell ⟨w.heap.size, 0, none⟩ (.slice A1 n c1)).alloc (.cells #[] 4)).cell? ⟨w.heap.size, 1, none⟩ = some (.slice C m d) := ((X1.set 0 _).alloc _).cell 1 rfl
  have hb2 : Below w.heap.size w (w1.setCell ⟨w.heap.size, 0, none⟩ (.slice A1 n c1)) := (bt hb0 hk1).setCell (Nat.le_refl _) _
  have S2 := Lib.hid (S1.out.farB X1 (by decide) 0 (.slice A1 n c1))
  have HE : Hid (w1.heap.size = (w1.setCell ⟨w.heap.size, 0, none⟩ (.slice A1 n c1)).heap.size) := Lib.hid (by simp [World.setCell])
  rw [HE.out] at S2
  have HX2 := Lib.hid (And.intro (X1.set 0 (.slice A1 n c1)) (Y1.far (p := ⟨w.heap.size, 0, none⟩) (by show w.heap.size + 1 ≠ w.heap.size; omega) (.slice A1 n c1)))
  clear f0 HX hb0 hb1 O1 hk1 X1 Y1 S1 HE hba HSi HCi
  obtain ⟨w2, hw2⟩ : ∃ w2, w2 = w1.setCell ⟨w.heap.size, 0, none⟩ (.slice A1 n c1) := ⟨_, rfl⟩
  rw [← hw2] at hb2 S2 HX2
  have HW2 := Lib.hid hw2
  clear hw2
  have hbb := bt hb2 (alloc_below w2 (.cells #[] 4))
  go_wp2_with (first | (rw [← HW2.out]; with_reducible refine wpList_app_fresh rfl (.tmp 8) (.tmp 10) 24 rfl 4 (.bool false) 1 1 Try.underlying24 infoBx rfl (by decide) _ rfl C m d hm1 (cellsB gs) rfl HCb.out (HSb.out _ hbb) (by unfold maxLen; omega) (by omega) ?_))
  intro A3 c3 w3 hb3 O3
  have hk3 := (alloc_below w2 (.cells #[] 4)).trans (hb3.mono (by omega))
  have V1 := HX2.out.1.step hk3
  have V2 := HX2.out.2.step hk3
  have S3 := Lib.hid (ownB_fresh (lo := w.heap.size) O3.out hm1 (by have := hb2.size; omega))
  have S4 := Lib.hid ((S2.out.below hk3).wideB (Nat.le_refl _) hk3.size)
  have k0 : w3.cell? ⟨w.heap.size, 0, none⟩ = some (.slice A1 n c1) := V1.cell 0 rfl
  have k1 : w3.cell? ⟨w.heap.size, 1, none⟩ = some (.slice C m d) := V1.cell 1 rfl
  have k2 : w3.cell? ⟨w.heap.size, 2, none⟩ = some (.int .i64 st) := V1.cell 2 rfl
  have k1z := V1.frozen 1
  have e0 : w3.cell? ⟨w.heap.size + 1, 0, none⟩ = some (.slice none 0 0) := V2.cell 0 rfl
  have e1 : w3.cell? ⟨w.heap.size + 1, 1, none⟩ = some (.slice none 0 0) := V2.cell 1 rfl
  have e2 : w3.cell? ⟨w.heap.size + 1, 2, none⟩ = some (.int .i64 0) := V2.cell 2 rfl
  have e0z := V2.frozen 0
  have e1z := V2.frozen 1
  have e2z := V2.frozen 2
  have hb4 := bt hb2 hk3
  have HV := Lib.hid (And.intro V1 V2)
  clear g0 g0z g1 HX2 hb2 hb3 hk3 O3 V1 V2 S2 hbb HSb HCb HW2
  go_wp2
  refine bodyPost_ret (v := .agg #[.slice A1 n c1, .slice A3 m c3, .int .i64 st]) (by simp [results, Try.results85, go_sem, e0, e1, e2]) rfl ?_
  have v1 := HV.out.1
  have v2 := HV.out.2.far (p := ⟨w.heap.size, 1, none⟩) (by show w.heap.size + 1 ≠ w.heap.size; omega) (.slice A3 m c3)
  refine ⟨_, _, _, _, _, _, rfl, Lib.hid HL.out.1, Lib.hid HL.out.2, Lib.hid ?_, Lib.hid ?_, KC, ?_⟩
  · have q := S4.out.farB v1 (by decide) 1 (.slice A3 m c3)
    exact (((q.farB v2 (by decide) 0 _).farB (v2.set 0 _) (by decide) 1 _).farB ((v2.set 0 _).set 1 _) (by decide) 2 _).wideB (Nat.le_refl _) (by simp [World.setCell])
  · have q := S3.out.far v1 (by decide) 1 (.slice A3 m c3)
    exact (((q.far v2 (by decide) 0 _).far (v2.set 0 _) (by decide) 1 _).far ((v2.set 0 _).set 1 _) (by decide) 2 _).wide (Nat.le_refl _) (by simp [World.setCell])
  · exact (((hb4.setCell (Nat.le_refl _) _).setCell (by show w.heap.size ≤ w.heap.size + 1; omega) _).setCell (by show w.heap.size ≤ w.heap.size + 1; omega) _).setCell (by show w.heap.size ≤ w.heap.size + 1; omega) _

set_option maxRecDepth 100000 in
theorem l03Own (A C : Option Addr) (n c m d : Nat) (st : Int) (zs : List Int) (gs : List Bool) (w : World) (hl : zs.length = n) (hm : gs.length = m) (hn : n = 256) (hmm : m = 16) (h : IntL w A zs) (g : BoolL w C gs) :
    Calls Try.prog 85 #[.agg #[.slice A n c, .slice C m d, .int .i64 st]] w (GivesFlash zs gs st w) :=
  (l03OwnC A C n c m d st zs gs w hl hm hn hmm h g).mono fun _ _ h => h.plain

theorem at256 {zs : List Int} (h : ∀ z ∈ zs, 0 ≤ z ∧ z ≤ 255) (k : Nat) (hk : k < zs.length) : ∃ z : Nat, zs.getD k 0 = z ∧ z < 256 := by
  have := h (zs.getD k 0) (by rw [List.getD_eq_getElem?_getD, List.getElem?_eq_getElem hk]; exact List.getElem_mem _)
  exact ⟨(zs.getD k 0).toNat, by omega, by omega⟩

/-- A box that holds a flash, after the three stores of another. -/
theorem Box.flash3 {w : World} {b : Nat} {cs : Array Value} (X : Box w b 26 cs) (hs : cs.size = 3) (u0 u1 u2 : Value) :
    Box (((w.setCell ⟨b, 0, none⟩ u0).setCell ⟨b, 1, none⟩ u1).setCell ⟨b, 2, none⟩ u2) b 26 #[u0, u1, u2] := by
  have := ((X.set 0 u0).set 1 u1).set 2 u2
  rw [show ((cs.setIfInBounds 0 u0).setIfInBounds 1 u1).setIfInBounds 2 u2 = #[u0, u1, u2] from by
    match cs, hs with
    | ⟨[a, b, c]⟩, _ => rfl] at this
  exact this
theorem Box.far3 {w : World} {b b' : Nat} {t : TypeId} {cs : Array Value} (X : Box w b t cs) (hb : b ≠ b') (u0 u1 u2 : Value) :
    Box (((w.setCell ⟨b', 0, none⟩ u0).setCell ⟨b', 1, none⟩ u1).setCell ⟨b', 2, none⟩ u2) b t cs := ((X.far (p := ⟨b', 0, none⟩) hb u0).far (p := ⟨b', 1, none⟩) hb u1).far (p := ⟨b', 2, none⟩) hb u2
theorem OwnI.far3 {w : World} {lo hi : Nat} {A : Option Addr} {zs : List Int} (h : OwnI w lo hi A zs) {b : Nat} {cs : Array Value} (X : Box w b 26 cs) (u0 u1 u2 : Value) : OwnI (((w.setCell ⟨b, 0, none⟩ u0).setCell ⟨b, 1, none⟩ u1).setCell ⟨b, 2, none⟩ u2) lo hi A zs :=
  ((h.farB X (by decide) 0 u0).farB (X.set 0 u0) (by decide) 1 u1).farB ((X.set 0 u0).set 1 u1) (by decide) 2 u2
theorem OwnB.far3 {w : World} {lo hi : Nat} {A : Option Addr} {gs : List Bool} (h : OwnB w lo hi A gs) {b : Nat} {cs : Array Value} (X : Box w b 26 cs) (u0 u1 u2 : Value) : OwnB (((w.setCell ⟨b, 0, none⟩ u0).setCell ⟨b, 1, none⟩ u1).setCell ⟨b, 2, none⟩ u2) lo hi A gs :=
  ((h.far X (by decide) 0 u0).far (X.set 0 u0) (by decide) 1 u1).far ((X.set 0 u0).set 1 u1) (by decide) 2 u2
theorem below3 {w0 w : World} {b : Nat} (h : Below w0.heap.size w0 w) (hb : w0.heap.size ≤ b) (u0 u1 u2 : Value) : Below w0.heap.size w0 (((w.setCell ⟨b, 0, none⟩ u0).setCell ⟨b, 1, none⟩ u1).setCell ⟨b, 2, none⟩ u2) :=
  ((h.setCell (p := ⟨b, 0, none⟩) hb u0).setCell (p := ⟨b, 1, none⟩) hb u1).setCell (p := ⟨b, 2, none⟩) hb u2
theorem size3 (w : World) (b : Nat) (u0 u1 u2 : Value) : (((w.setCell ⟨b, 0, none⟩ u0).setCell ⟨b, 1, none⟩ u1).setCell ⟨b, 2, none⟩ u2).heap.size = w.heap.size := by simp [World.setCell]

set_option maxRecDepth 100000 in
set_option maxHeartbeats 4000000 in
theorem l03Program (A C : Option Addr) (n c m d k v : Nat) (st : Int) (zs : List Int) (gs : List Bool) (w : World) (hl : zs.length = n) (hm : gs.length = m) (hn : n = 256) (hmm : m = 16) (hk : k < 256) (hv : v < 256) (hz : ∀ z ∈ zs, 0 ≤ z ∧ z ≤ 255) (h : IntL w A zs) (g : BoolL w C gs) :
    Calls Try.prog 101 #[.agg #[.slice A n c, .slice C m d, .int .i64 st], .int .i64 k, .int .i64 v] w (GivesFlash (progL zs gs k v) gs st w) := by
  obtain ⟨W0, hW0⟩ : ∃ W0, W0 = ((w.alloc (.cells #[.slice A n c, .slice C m d, .int .i64 st] 26)).alloc (.cells #[.slice none 0 0, .slice none 0 0, .int .i64 0] 26)) := ⟨_, rfl⟩
  have hb0 : Below w.heap.size w W0 := by rw [hW0]; exact bt (alloc_below _ _) (alloc_below _ _)
  have X0 : Box W0 w.heap.size 26 #[.slice A n c, .slice C m d, .int .i64 st] := by rw [hW0]; exact (Box.new _ _ _).alloc _
  have Y0 : Box W0 (w.heap.size + 1) 26 #[.slice none 0 0, .slice none 0 0, .int .i64 0] := by rw [hW0]; simpa using Box.new (w.alloc (.cells #[.slice A n c, .slice C m d, .int .i64 st] 26)) 26 #[.slice none 0 0, .slice none 0 0, .int .i64 0]
  have HO := Lib.hid (l03Own A C n c m d st zs gs W0 hl hm hn hmm (h.below hb0) (g.below hb0))
  have HLen : Hid ((progL zs gs k v).length = n ∧ zs.length = 256 ∧ gs.length = 16) := Lib.hid ⟨by rw [progL_len]; exact hl, by omega, by omega⟩
  obtain ⟨z, hzk, hz2⟩ := at256 hz k (by omega)
  obtain ⟨x, hx⟩ : ∃ x, bits .and .i64 (z : Int) (v : Int) = x := ⟨_, rfl⟩
  have HP : Hid (∀ q, gs.getD (k / 16) false = q → progL zs gs k v = if q then zs else zs.set k x) := Lib.hid (by
    intro q hq
    unfold progL
    rw [hq, hzk, ← hx, and_i64 z v hz2 hv]
    rfl)
  have HZ := Lib.hid hzk
  have HX := Lib.hid (And.intro X0 Y0)
  have HW0 := Lib.hid hW0
  generalize progL zs gs k v = r at HP HLen
  have HN := Lib.hid (And.intro hn hmm)
  clear hl hm h g hW0 X0 Y0 hz hzk hn hmm
  have hkd : ((k / 16 : Nat) : Int) < 16 := by omega
  have hki : (k : Int) < 256 := by omega
  go_enter Try.func101, Try.ntmps101
  go_wp2_with fail
  rw [← HW0.out]
  refine HO.out.mono ?_
  rintro e w1 ⟨A1, n1, c1, C1, m1, d1, rfl, L1, M1, S1, R1, hb1⟩
  obtain rfl : n1 = 256 := by have := L1.out; have := HLen.out; omega
  obtain rfl : m1 = 16 := by have := M1.out; have := HLen.out; omega
  have X1 := HX.out.1.step hb1
  have Y1 := HX.out.2.step hb1
  have a0 := X1.cell 0 rfl
  have a1 := X1.cell 1 rfl
  have a2 := X1.cell 2 rfl
  have a0z := X1.frozen 0
  have a1z := X1.frozen 1
  have a2z := X1.frozen 2
  obtain ⟨w2, hw2⟩ : ∃ w2, w2 = ((w1.setCell ⟨w.heap.size, 0, none⟩ (.slice A1 256 c1)).setCell ⟨w.heap.size, 1, none⟩ (.slice C1 16 d1)).setCell ⟨w.heap.size, 2, none⟩ (.int .i64 st) := ⟨_, rfl⟩
  have X2 : Box w2 w.heap.size 26 #[.slice A1 256 c1, .slice C1 16 d1, .int .i64 st] := by rw [hw2]; exact X1.flash3 rfl _ _ _
  have Y2 : Box w2 (w.heap.size + 1) 26 #[.slice none 0 0, .slice none 0 0, .int .i64 0] := by rw [hw2]; exact Y1.far3 (by omega) _ _ _
  have S2 : Hid (OwnI w2 w.heap.size w2.heap.size A1 zs) := Lib.hid (by rw [hw2]; exact (S1.out.far3 X1 _ _ _).wideB hb0.size (by rw [size3]; exact Nat.le_refl _))
  have R2 : Hid (OwnB w2 w.heap.size w2.heap.size C1 gs) := Lib.hid (by rw [hw2]; exact (R1.out.far3 X1 _ _ _).wide hb0.size (by rw [size3]; exact Nat.le_refl _))
  have hb2 : Below w.heap.size w w2 := by rw [hw2]; exact below3 (bt hb0 hb1) (Nat.le_refl _) _ _ _
  obtain ⟨bg, mg, fg, rfl, hcg, -, -, -, -, -⟩ := R2.out.put (k / 16) (by have := HLen.out; omega)
  obtain ⟨ba, ma, fa, rfl, hca, hfa, hlo, hhi, hra, hput⟩ := S2.out.put k (by have := HLen.out; omega)
  rw [HZ.out] at hca
  have HP2 := Lib.hid (HP.out _ rfl)
  generalize gs.getD (k / 16) false = q at hcg HP2
  have HPut := Lib.hid (And.intro hlo hput)
  have x0 := X2.cell 0 rfl
  have x1 := X2.cell 1 rfl
  have x2 := X2.cell 2 rfl
  have y0 := Y2.cell 0 rfl
  have y1 := Y2.cell 1 rfl
  have y2 := Y2.cell 2 rfl
  have y0z := Y2.frozen 0
  have y1z := Y2.frozen 1
  have y2z := Y2.frozen 2
  have X3 := X2.other hra (by decide) k (.int .i64 x)
  have Y3 := Y2.other hra (by decide) k (.int .i64 x)
  have R3 := Lib.hid (R2.out.other hra (by decide) k (.int .i64 x))
  have u0 := X3.cell 0 rfl
  have u1 := X3.cell 1 rfl
  have u2 := X3.cell 2 rfl
  have t0 := Y3.cell 0 rfl
  have t1 := Y3.cell 1 rfl
  have t2 := Y3.cell 2 rfl
  have t0z := Y3.frozen 0
  have t1z := Y3.frozen 1
  have t2z := Y3.frozen 2
  have HYs := Lib.hid (And.intro Y2 Y3)
  have HB2 := Lib.hid (And.intro hb2 hw2)
  rw [hw2] at hcg hca hfa x0 x1 x2 y0 y1 y2 y0z y1z y2z u0 u1 u2 t0 t1 t2 t0z t1z t2z
  clear X1 Y1 S1 R1 hb0 hb1 hw2 X2 Y2 hb2 hlo hhi hra hput X3 Y3 HP HO HX HW0 fg fa
  cases q
  · have HE : Hid (r = zs.set k x) := Lib.hid (by rw [HP2.out]; rfl)
    go_wp2
    refine bodyPost_ret (v := .agg #[.slice (some ⟨ba, 0, none⟩) 256 c1, .slice (some ⟨bg, 0, none⟩) 16 d1, .int .i64 st]) (by simp [results, Try.results101, go_sem, t0, t1, t2]) rfl ?_
    rw [← HB2.out.2, HE.out]
    refine ⟨_, _, _, _, _, _, rfl, Lib.hid (by rw [← HE.out, HLen.out.1]; exact HN.out.1), Lib.hid HLen.out.2.2, Lib.hid ?_, Lib.hid ?_, ?_⟩
    · exact ((HPut.out.2 x).far3 HYs.out.2 _ _ _).wideB (Nat.le_refl _) (by rw [size3]; simp [World.setCell])
    · exact (R3.out.far3 HYs.out.2 _ _ _).wide (Nat.le_refl _) (by rw [size3]; simp [World.setCell])
    · exact below3 (HB2.out.1.setCell (p := ⟨ba, k, none⟩) HPut.out.1 _) (by omega) _ _ _
  · have HE : Hid (r = zs) := Lib.hid (by rw [HP2.out]; rfl)
    go_wp2
    refine bodyPost_ret (v := .agg #[.slice (some ⟨ba, 0, none⟩) 256 c1, .slice (some ⟨bg, 0, none⟩) 16 d1, .int .i64 st]) (by simp [results, Try.results101, go_sem, y0, y1, y2]) rfl ?_
    rw [← HB2.out.2, HE.out]
    refine ⟨_, _, _, _, _, _, rfl, Lib.hid HLen.out.2.1, Lib.hid HLen.out.2.2, Lib.hid ?_, Lib.hid ?_, ?_⟩
    · exact (S2.out.far3 HYs.out.1 _ _ _).wideB (Nat.le_refl _) (by rw [size3]; exact Nat.le_refl _)
    · exact (R2.out.far3 HYs.out.1 _ _ _).wide (Nat.le_refl _) (by rw [size3]; exact Nat.le_refl _)
    · exact below3 HB2.out.1 (by omega) _ _ _
end Go.Proofs.Ytagdclbpgkilgaa
