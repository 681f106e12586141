/- Texts of this claim, one behind the other: Mem, EqDisk, Own, ToDisk, Ints, SzDisk, IntsMore, Mark, BoxDisk, Bools, Flash, OkDisk, FlashOk, FlashBits, AppFresh, AppNew, App, FlashSpec, Chip, ChipOps, ChipOf, GenA, GenB. -/
import Derived.WalkKit
import Derived.WalkSpells
import Derived.Lib.Hide
import Derived.Below
import Derived.WalkSmall
import Derived.Test.YtamfapmkdojhcaaRows
import Derived.Deep.QuietTactic
import Derived.BigQuiet
import Derived.StillTailTactics
import Derived.Deep.OwnRows
import Derived.Deep.RegionHeld3
import Derived.Laws.IdiomStrings
import Derived.Laws.BitsLemmas
import Derived.Laws.AppendOwn
import Derived.OwnWalk
import Derived.Deep.MidRow
import Derived.Laws.CopyOwn
/- Words for memory: slices of strings, of writes, of integers as lists; what keeps them. Nothing here is of one program. -/
namespace Go.Proofs.Ytamfapmkdojhcaa
open Go.RowKit

/-- The slice at A holds these strings. -/
def StrL (w : World) (A : Option Addr) (ss : List ByteArray) : Prop :=
  ∀ i, i < ss.length → ∃ b off, A = some ⟨b, off, none⟩ ∧ w.cell? ⟨b, off + i, none⟩ = some (.string (ss.getD i ByteArray.empty))
/-- The slice at A holds these writes (a number and a string each). -/
def WrL (w : World) (A : Option Addr) (ws : List (Int × ByteArray)) : Prop :=
  ∀ i, i < ws.length → ∃ b off, A = some ⟨b, off, none⟩ ∧ w.cell? ⟨b, off + i * 2, none⟩ = some (.int .i64 (ws.getD i (0, ByteArray.empty)).1) ∧
    w.cell? ⟨b, off + i * 2 + 1, none⟩ = some (.string (ws.getD i (0, ByteArray.empty)).2)
/-- The slice at A holds these integers. -/
def IntL (w : World) (A : Option Addr) (zs : List Int) : Prop :=
  ∀ i, i < zs.length → ∃ b off, A = some ⟨b, off, none⟩ ∧ w.cell? ⟨b, off + i, none⟩ = some (.int .i64 (zs.getD i 0))

theorem cell_lt {w : World} {p : Addr} {v : Value} (h : w.cell? p = some v) : p.block < w.heap.size := by
  rcases Nat.lt_or_ge p.block w.heap.size with h1 | h1
  · exact h1
  · unfold World.cell? at h
    rw [Array.getElem?_eq_none h1] at h
    cases h

/-- Every cell of w is in w' as it was, where it lies in a block that keep lets. -/
def Keep (keep : Nat → Prop) (w w' : World) : Prop := ∀ p : Addr, keep p.block → p.block < w.heap.size → w'.cell? p = w.cell? p

theorem Keep.of_below {B : Nat} {w w' : World} (h : Below B w w') : Keep (fun b => b < B) w w' := fun _ hp _ => h.cell hp

theorem StrL.below {w w' : World} {A : Option Addr} {ss : List ByteArray} (h : StrL w A ss) (hb : Below w.heap.size w w') : StrL w' A ss := fun i hi => by
  obtain ⟨b, off, e, hc⟩ := h i hi
  exact ⟨b, off, e, (hb.cell (cell_lt hc)).trans hc⟩
theorem WrL.below {w w' : World} {A : Option Addr} {ws : List (Int × ByteArray)} (h : WrL w A ws) (hb : Below w.heap.size w w') : WrL w' A ws := fun i hi => by
  obtain ⟨b, off, e, hc, hd⟩ := h i hi
  exact ⟨b, off, e, (hb.cell (cell_lt hc)).trans hc, (hb.cell (cell_lt hd)).trans hd⟩
theorem IntL.below {w w' : World} {A : Option Addr} {zs : List Int} (h : IntL w A zs) (hb : Below w.heap.size w w') : IntL w' A zs := fun i hi => by
  obtain ⟨b, off, e, hc⟩ := h i hi
  exact ⟨b, off, e, (hb.cell (cell_lt hc)).trans hc⟩

/-- Below its own size, over two steps. -/
theorem bt {a b c : World} (h : Below a.heap.size a b) (k : Below b.heap.size b c) : Below a.heap.size a c := h.trans (k.mono h.size)

theorem ret_bool {a b : Bool} (h : a = b) : Ending.returned (.bool a) = .returned (.bool b) := by rw [h]
theorem ret_int {a b : Int} (h : a = b) : Ending.returned (.int .i64 a) = .returned (.int .i64 b) := by rw [h]

theorem bytes_beq (a b : ByteArray) : (a.toList == b.toList) = decide (a = b) := by
  rw [ByteArray.toList_eq, ByteArray.toList_eq, Bool.eq_iff_iff]
  simp only [beq_iff_eq, decide_eq_true_eq]
  exact ⟨WideShapes.bytes_inj, fun h => by rw [h]⟩
theorem bytes_bne (a b : ByteArray) : (a.toList != b.toList) = decide (a ≠ b) := by
  rw [bne, bytes_beq]; simp

/-- Two lists, equal so far. -/
theorem take_next {α : Type} {l m : List α} {k : Nat} (d : α) (h : l.take k = m.take k) (hl : k < l.length) (hm : k < m.length) (e : l.getD k d = m.getD k d) : l.take (k + 1) = m.take (k + 1) := by
  rw [List.take_succ_eq_append_getElem hl, List.take_succ_eq_append_getElem hm, h]
  simp only [List.getD_eq_getElem?_getD, List.getElem?_eq_getElem hl, List.getElem?_eq_getElem hm, Option.getD_some] at e
  rw [e]
theorem take_all {α : Type} {l m : List α} {k : Nat} (h : l.take k = m.take k) (hl : l.length ≤ k) (hm : m.length ≤ k) : l = m := by
  rwa [List.take_of_length_le hl, List.take_of_length_le hm] at h
theorem ne_of_at {α : Type} {l m : List α} {k : Nat} (d : α) (e : l.getD k d ≠ m.getD k d) : l ≠ m := fun h => e (by rw [h])
end Go.Proofs.Ytamfapmkdojhcaa

/- Contracts of the comparisons: eqStringS, eqWrite, eqWriteS, eqDisk. -/
namespace Go.Proofs.Ytamfapmkdojhcaa
open Go.RowKit

theorem bdecide {p : Prop} [Decidable p] : (decide p = true) = p := by simp

end Go.Proofs.Ytamfapmkdojhcaa

/- Slices in memory of the call's own: rows between two block numbers; what a call that writes only there keeps. -/
namespace Go.Proofs.Ytamfapmkdojhcaa
open Go.RowKit

/-- Of the old blocks only those from lo on and below hi may have turned. -/
structure Btw (lo hi : Nat) (w w' : World) : Prop where
  os : w'.os = w.os
  tape : w'.tape = w.tape
  output : w'.output = w.output
  size : w.heap.size ≤ w'.heap.size
  block : ∀ k, k < w.heap.size → k < lo ∨ hi ≤ k → w'.heap[k]? = w.heap[k]?

theorem Btw.refl (lo hi : Nat) (w : World) : Btw lo hi w w := ⟨rfl, rfl, rfl, Nat.le_refl _, fun _ _ _ => rfl⟩
theorem Btw.trans {lo hi : Nat} {a b c : World} (h : Btw lo hi a b) (k : Btw lo hi b c) : Btw lo hi a c :=
  ⟨k.os.trans h.os, k.tape.trans h.tape, k.output.trans h.output, Nat.le_trans h.size k.size, fun i hi' ho => (k.block i (Nat.lt_of_lt_of_le hi' h.size) ho).trans (h.block i hi' ho)⟩
theorem Btw.of_below {w w' : World} (h : Below w.heap.size w w') (lo hi : Nat) : Btw lo hi w w' := ⟨h.os, h.tape, h.output, h.size, fun k hk _ => h.block k hk⟩
theorem Btw.below {lo hi : Nat} {w w' : World} (h : Btw lo hi w w') (hl : lo ≤ w.heap.size) : Below lo w w' := ⟨h.os, h.tape, h.output, h.size, fun k hk => h.block k (Nat.lt_of_lt_of_le hk hl) (.inl hk)⟩
theorem Btw.wide {lo hi lo' hi' : Nat} {w w' : World} (h : Btw lo hi w w') (h1 : lo' ≤ lo) (h2 : hi ≤ hi') : Btw lo' hi' w w' :=
  ⟨h.os, h.tape, h.output, h.size, fun k hk ho => h.block k hk (by omega)⟩
theorem Btw.drewN {lo hi : Nat} {a w : World} (h : Btw lo hi a w) (n : Nat) : Btw lo hi a (w.drewN n) := ⟨h.os, h.tape, h.output, h.size, h.block⟩
theorem Btw.drew {lo hi : Nat} {a w : World} (h : Btw lo hi a w) : Btw lo hi a w.drew := ⟨h.os, h.tape, h.output, h.size, h.block⟩
theorem Btw.alloc {lo hi : Nat} {a w : World} (h : Btw lo hi a w) (o : Obj) : Btw lo hi a (w.alloc o) := h.trans (Btw.of_below ((Below.refl _ _).alloc (Nat.le_refl _) o) lo hi)
theorem Btw.setCell {lo hi : Nat} {a w : World} (h : Btw lo hi a w) {p : Addr} (h1 : lo ≤ p.block) (h2 : p.block < hi) (u : Value) : Btw lo hi a (w.setCell p u) :=
  ⟨h.os, h.tape, h.output, by simpa [World.setCell] using h.size, fun k hk ho => (Below.heap_setCell w p u k (by omega)).trans (h.block k hk ho)⟩
theorem Btw.cell {lo hi : Nat} {w w' : World} (h : Btw lo hi w w') {p : Addr} {v : Value} (hc : w.cell? p = some v) (ho : p.block < lo ∨ hi ≤ p.block) : w'.cell? p = some v :=
  (World.cell?_of_block (w := w) (h.block p.block (cell_lt hc) ho)).trans hc
theorem Btw.row {lo hi : Nat} {w w' : World} (h : Btw lo hi w w') {b : Nat} {t : TypeId} {n : Nat} {f : Nat → Value} (hr : w.rowIs b t n f) (ho : b < lo ∨ hi ≤ b) : w'.rowIs b t n f :=
  hr.of_block (h.block b hr.lt ho)
theorem row_below {B : Nat} {w w' : World} (h : Below B w w') {b : Nat} {t : TypeId} {n : Nat} {f : Nat → Value} (hr : w.rowIs b t n f) (ho : b < B) : w'.rowIs b t n f := hr.of_block (h.block b ho)
/-- Rows of two element types are two blocks. -/
theorem row_ne {w : World} {b b' : Nat} {t t' : TypeId} {n n' : Nat} {f f' : Nat → Value} (h : w.rowIs b t n f) (h' : w.rowIs b' t' n' f') (ht : t ≠ t') : b ≠ b' := by
  rintro rfl
  obtain ⟨c, hc, _⟩ := h
  obtain ⟨c', hc', _⟩ := h'
  rw [hc] at hc'
  injection hc' with e
  injection e with _ e2
  exact ht e2

/-- A []string of the call's own: its row lies in a block from lo on and below hi. -/
def OwnS (w : World) (lo hi : Nat) (A : Option Addr) (ss : List ByteArray) : Prop :=
  ss = [] ∨ ∃ b m f, A = some ⟨b, 0, none⟩ ∧ lo ≤ b ∧ b < hi ∧ ss.length ≤ m ∧ w.rowIs b 9 m f ∧ ∀ i, i < ss.length → f i = .string (ss.getD i ByteArray.empty)
/-- A []int of the call's own. -/
def OwnI (w : World) (lo hi : Nat) (A : Option Addr) (zs : List Int) : Prop :=
  zs = [] ∨ ∃ b m f, A = some ⟨b, 0, none⟩ ∧ lo ≤ b ∧ b < hi ∧ zs.length ≤ m ∧ w.rowIs b 3 m f ∧ ∀ i, i < zs.length → f i = .int .i64 (zs.getD i 0)

theorem OwnS.reads {w : World} {lo hi : Nat} {A : Option Addr} {ss : List ByteArray} (h : OwnS w lo hi A ss) : StrL w A ss := fun i hi' => by
  rcases h with rfl | ⟨b, m, f, e, _, _, hm, hr, hf⟩
  · simp at hi'
  · exact ⟨b, 0, e, by rw [← hf i hi', Nat.zero_add]; exact hr.cell (by omega)⟩
theorem OwnI.reads {w : World} {lo hi : Nat} {A : Option Addr} {zs : List Int} (h : OwnI w lo hi A zs) : IntL w A zs := fun i hi' => by
  rcases h with rfl | ⟨b, m, f, e, _, _, hm, hr, hf⟩
  · simp at hi'
  · exact ⟨b, 0, e, by rw [← hf i hi', Nat.zero_add]; exact hr.cell (by omega)⟩
theorem OwnS.btw {w w' : World} {lo hi l h' : Nat} {A : Option Addr} {ss : List ByteArray} (h : OwnS w lo hi A ss) (hb : Btw l h' w w') (ho : hi ≤ l ∨ h' ≤ lo) : OwnS w' lo hi A ss := by
  rcases h with e | ⟨b, m, f, e, h1, h2, hm, hr, hf⟩
  · exact .inl e
  · exact .inr ⟨b, m, f, e, h1, h2, hm, hb.row hr (by omega), hf⟩
theorem OwnI.btw {w w' : World} {lo hi l h' : Nat} {A : Option Addr} {zs : List Int} (h : OwnI w lo hi A zs) (hb : Btw l h' w w') (ho : hi ≤ l ∨ h' ≤ lo) : OwnI w' lo hi A zs := by
  rcases h with e | ⟨b, m, f, e, h1, h2, hm, hr, hf⟩
  · exact .inl e
  · exact .inr ⟨b, m, f, e, h1, h2, hm, hb.row hr (by omega), hf⟩
theorem OwnS.below {w w' : World} {lo hi : Nat} {A : Option Addr} {ss : List ByteArray} (h : OwnS w lo hi A ss) (hb : Below w.heap.size w w') : OwnS w' lo hi A ss := h.btw (Btw.of_below hb hi hi) (.inl (Nat.le_refl _))
theorem OwnI.below {w w' : World} {lo hi : Nat} {A : Option Addr} {zs : List Int} (h : OwnI w lo hi A zs) (hb : Below w.heap.size w w') : OwnI w' lo hi A zs := h.btw (Btw.of_below hb hi hi) (.inl (Nat.le_refl _))
/-- Anchored at an older world: whatever turns from that world's size on. -/
theorem StrL.since {B : Nat} {w w' : World} {A : Option Addr} {ss : List ByteArray} (h : StrL w A ss) (hb : Below B w w') (hB : w.heap.size ≤ B) : StrL w' A ss := h.below (hb.mono hB)
theorem StrL.btw {lo hi : Nat} {w w' : World} {A : Option Addr} {ss : List ByteArray} (h : StrL w A ss) (hb : Btw lo hi w w') (hB : w.heap.size ≤ lo) : StrL w' A ss := fun i hi' => by
  obtain ⟨b, off, e, hc⟩ := h i hi'
  exact ⟨b, off, e, hb.cell hc (.inl (Nat.lt_of_lt_of_le (cell_lt hc) hB))⟩

/-- Block b is just these cells, none frozen. -/
def Box (w : World) (b : Nat) (t : TypeId) (cs : Array Value) : Prop := w.heap[b]? = some (.cells cs t (0, 0))
theorem Box.cell {w : World} {b : Nat} {t : TypeId} {cs : Array Value} (h : Box w b t cs) (i : Nat) {v : Value} (hv : cs[i]? = some v) : w.cell? ⟨b, i, none⟩ = some v := by
  unfold Box at h; simp [World.cell?, h, hv]
theorem Box.frozen {w : World} {b : Nat} {t : TypeId} {cs : Array Value} (h : Box w b t cs) (i : Nat) : w.frozen? ⟨b, i, none⟩ = false := by
  unfold Box at h; simp [World.frozen?, h]
theorem Box.lt {w : World} {b : Nat} {t : TypeId} {cs : Array Value} (h : Box w b t cs) : b < w.heap.size := by
  obtain ⟨hlt, _⟩ := Array.getElem?_eq_some_iff.1 h
  exact hlt
theorem Box.below {w w' : World} {B b : Nat} {t : TypeId} {cs : Array Value} (h : Box w b t cs) (hb : Below B w w') (hB : b < B) : Box w' b t cs := (hb.block b hB).trans h
theorem Box.step {w w' : World} {b : Nat} {t : TypeId} {cs : Array Value} (h : Box w b t cs) (hb : Below w.heap.size w w') : Box w' b t cs := h.below hb h.lt
theorem Box.btw {w w' : World} {lo hi b : Nat} {t : TypeId} {cs : Array Value} (h : Box w b t cs) (hb : Btw lo hi w w') (ho : b < lo ∨ hi ≤ b) : Box w' b t cs := (hb.block b h.lt ho).trans h
theorem Box.new (w : World) (t : TypeId) (cs : Array Value) : Box (w.alloc (.cells cs t)) w.heap.size t cs := by
  show (w.heap.push _)[w.heap.size]? = _; simp
theorem Box.alloc {w : World} {b : Nat} {t : TypeId} {cs : Array Value} (h : Box w b t cs) (o : Obj) : Box (w.alloc o) b t cs := h.step ((Below.refl _ _).alloc (Nat.le_refl _) o)
theorem Box.set {w : World} {b : Nat} {t : TypeId} {cs : Array Value} (h : Box w b t cs) (i : Nat) (u : Value) : Box (w.setCell ⟨b, i, none⟩ u) b t (cs.setIfInBounds i u) := by
  unfold Box at h ⊢
  simp [World.setCell, Array.getElem?_modify, h]
theorem Box.far {w : World} {b : Nat} {t : TypeId} {cs : Array Value} (h : Box w b t cs) {p : Addr} (hp : b ≠ p.block) (u : Value) : Box (w.setCell p u) b t cs := (Below.heap_setCell w p u b hp).trans h
theorem Box.drewN {w : World} {b : Nat} {t : TypeId} {cs : Array Value} (h : Box w b t cs) (n : Nat) : Box (w.drewN n) b t cs := h
theorem Box.drew {w : World} {b : Nat} {t : TypeId} {cs : Array Value} (h : Box w b t cs) : Box w.drew b t cs := h
theorem Box.row {w : World} {b : Nat} {t : TypeId} {cs : Array Value} (h : Box w b t cs) (f : Nat → Value) (hf : ∀ i, i < cs.size → cs[i]? = some (f i)) : w.rowIs b t cs.size f := ⟨cs, h, rfl, hf⟩
theorem Box.ne {w : World} {b b' : Nat} {t t' : TypeId} {cs : Array Value} {n : Nat} {f : Nat → Value} (h : Box w b t cs) (h' : w.rowIs b' t' n f) (ht : t ≠ t') : b ≠ b' := by
  rintro rfl
  obtain ⟨c', hc', _⟩ := h'
  unfold Box at h
  rw [h] at hc'
  injection hc' with e
  injection e with _ e2
  exact ht e2
end Go.Proofs.Ytamfapmkdojhcaa

/- Contracts of the copies: toStringS, toWrite, toWriteS, toDisk. -/
namespace Go.Proofs.Ytamfapmkdojhcaa
open Go.RowKit

set_option maxRecDepth 100000 in
theorem infoS : (Try.prog.info? 9).map (fun i => (i.zero, i.size, i.bytes)) = some (some (.string ByteArray.empty), 1, 16) := by kernel_rfl

theorem row_made2 (w : World) (z0 z1 : Value) (n : Nat) (t : TypeId) : (w.alloc (.cells (madeCells #[z0, z1] (n * 2)) t)).rowIs w.heap.size t (n * 2) (fun i => if i % 2 = 0 then z0 else z1) :=
  ⟨_, heap_alloc_new _ _, size_madeCells _ _, fun i hi => by
    have : i % 2 = 0 ∨ i % 2 = 1 := by omega
    rcases this with h | h <;> simp [madeCells, hi, h]⟩

/-- What the first k writes look like in a row of n of them. -/
def fillW (ws : List (Int × ByteArray)) (k : Nat) (j : Nat) : Value :=
  if j < k * 2 then (if j % 2 = 0 then .int .i64 (ws.getD (j / 2) (0, ByteArray.empty)).1 else .string (ws.getD (j / 2) (0, ByteArray.empty)).2) else (if j % 2 = 0 then .int .i64 0 else .string ByteArray.empty)
theorem fillW_next (ws : List (Int × ByteArray)) (k j : Nat) (a : Int) (s : ByteArray) (h : ws.getD k (0, ByteArray.empty) = (a, s)) :
    (if j = k * 2 + 1 then .string s else if j = k * 2 then .int .i64 a else fillW ws k j) = fillW ws (k + 1) j := by
  unfold fillW
  by_cases e1 : j = k * 2 + 1
  · subst e1
    rw [if_pos rfl, if_pos (by omega), if_neg (by omega), show (k * 2 + 1) / 2 = k by omega, h]
  · rw [if_neg e1]
    by_cases e2 : j = k * 2
    · subst e2
      rw [if_pos rfl, if_pos (by omega), if_pos (by omega), show (k * 2) / 2 = k by omega, h]
    · rw [if_neg e2]
      by_cases e3 : j < k * 2
      · have e4 : j < (k + 1) * 2 := by omega
        simp only [e3, e4, if_true]
      · have e4 : ¬ j < (k + 1) * 2 := by omega
        simp only [e3, e4, if_false]

theorem own_of_rowS {w : World} {b n lo hi : Nat} {ss : List ByteArray} (hl : ss.length = n) (h : w.rowIs b 9 n (fun i => .string (ss.getD i ByteArray.empty))) (h1 : lo ≤ b) (h2 : b < hi) : OwnS w lo hi (some ⟨b, 0, none⟩) ss :=
  .inr ⟨b, n, _, rfl, h1, h2, by omega, h, fun _ _ => rfl⟩
end Go.Proofs.Ytamfapmkdojhcaa

/- Contracts of toIntS, eqIntS, markIntS. -/
namespace Go.Proofs.Ytamfapmkdojhcaa
open Go.RowKit

set_option maxRecDepth 100000 in
theorem infoI : (Try.prog.info? 3).map (fun i => (i.zero, i.size, i.bytes)) = some (some (.int .i64 0), 1, 8) := by kernel_rfl

/-- The call hands back a []int of its own, and its capacity is no less than its length. -/
def GivesIntsC (zs : List Int) (w : World) (e : Ending) (w' : World) : Prop :=
  ∃ A n c, e = .returned (.slice A n c) ∧ Hid (zs.length = n) ∧ Hid (OwnI w' w.heap.size w'.heap.size A zs) ∧ n ≤ c ∧ Below w.heap.size w w'
/-- The call hands back a []int of its own. -/
def GivesInts (zs : List Int) (w : World) (e : Ending) (w' : World) : Prop :=
  ∃ A n c, e = .returned (.slice A n c) ∧ Hid (zs.length = n) ∧ Hid (OwnI w' w.heap.size w'.heap.size A zs) ∧ Below w.heap.size w w'

set_option maxRecDepth 100000 in
set_option maxHeartbeats 1000000 in
theorem toIntSc (A : Option Addr) (n c : Nat) (zs : List Int) (w : World) (hl : zs.length = n) (hn : n ≤ 1048576) (h : IntL w A zs) :
    Calls Try.prog 48 #[.slice A n c] w (GivesIntsC zs w) := by
  have HL := Lib.hid hl
  have H := Lib.hid h
  clear hl h
  have hmk := fun W => run_make_row' (P := Try.prog) 23 3 (.int .i64 0) 8 Try.underlying23 infoI rfl .i64 .i64 n (by omega) (by omega) W
  go_enter Try.func48, Try.ntmps48
  go_wp2
  clear hmk
  have hrow := World.rowIs_made w (.int .i64 0) n 3
  have hbel : Below w.heap.size w (w.alloc (.cells (madeCells #[.int .i64 0] n) 3)) := (Below.refl _ _).alloc (Nat.le_refl _) _
  have HR := Lib.hid hrow
  clear hrow
  generalize w.alloc (.cells (madeCells #[.int .i64 0] n) 3) = wa at hbel HR ⊢
  go_loopw [4] (fun i wr => ∃ k : Nat, k ≤ n ∧ i = .int .i64 k ∧ Below w.heap.size w wr ∧ wr.rowIs w.heap.size 3 n (fun j => if j < k then .int .i64 (zs.getD j 0) else .int .i64 0)) (fun i _ => n - (intOf i).toNat)
  case atStart => exact ⟨0, Nat.zero_le _, rfl, hbel, HR.out.congr (fun i _ => by simp)⟩
  case round =>
    obtain ⟨k, hk, rfl, hbw, hrw⟩ := hrel
    by_cases hlt : k < n
    · obtain ⟨b, off, rfl, hc⟩ := (H.out.below hbw) k (by rw [HL.out]; exact hlt)
      have hcd := hrw.cell hlt
      have hfr := hrw.frozen k
      have HW := Lib.hid (hrw.set k (.int .i64 (zs.getD k 0)))
      simp only [Nat.lt_irrefl, if_false] at hcd
      clear hrw
      generalize hx : zs.getD k 0 = x at hc HW
      have HX := Lib.hid hx
      clear hx
      have hi : (k : Int) < (n : Int) := by omega
      go_wp2
      go_roundw
      case rel =>
        refine ⟨k + 1, by omega, by go_num, hbw.setCell (Nat.le_refl _) _, HW.out.congr (fun i _ => ?_)⟩
        show (if i = k then Value.int .i64 x else if i < k then _ else _) = _
        by_cases e : i = k
        · subst e; rw [if_pos rfl, if_pos (by omega), HX.out]
        · rw [if_neg e]
          by_cases e2 : i < k
          · rw [if_pos e2, if_pos (by omega)]
          · rw [if_neg e2, if_neg (by omega)]
      case measure => simp [intOf]; omega
    · have HRW := Lib.hid hrw
      clear hrw
      go_wp2
      go_ret
      have ek : k = n := by omega
      subst ek
      exact ⟨_, _, _, rfl, HL, Lib.hid (.inr ⟨w.heap.size, k, _, rfl, Nat.le_refl _, HRW.out.lt, by rw [HL.out]; omega, HRW.out, fun i hi => by rw [if_pos (by rw [HL.out] at hi; exact hi)]⟩), Nat.le_refl _, hbw⟩
set_option maxRecDepth 100000 in
theorem toIntS (A : Option Addr) (n c : Nat) (zs : List Int) (w : World) (hl : zs.length = n) (hn : n ≤ 1048576) (h : IntL w A zs) :
    Calls Try.prog 48 #[.slice A n c] w (GivesInts zs w) :=
  (toIntSc A n c zs w hl hn h).mono fun _ _ ⟨A, n, c, h1, h2, h3, _, h5⟩ => ⟨A, n, c, h1, h2, h3, h5⟩

set_option maxRecDepth 100000 in
set_option maxHeartbeats 1000000 in
theorem eqIntSame (A A' : Option Addr) (n n' c c' : Nat) (zs : List Int) (w : World) (hl : zs.length = n) (hl' : zs.length = n') (hn : n ≤ maxLen) (h : IntL w A zs) (h' : IntL w A' zs) :
    Calls Try.prog 40 #[.slice A n c, .slice A' n' c'] w fun e w' => e = .returned (.bool true) ∧ Below w.heap.size w w' := by
  unfold maxLen at hn
  have HL := Lib.hid hl
  obtain rfl : n = n' := by omega
  have H := Lib.hid h
  have H' := Lib.hid h'
  clear hl hl' h h'
  have hb : ((n : Int) != (n : Int)) = false := by simp
  go_enter Try.func40, Try.ntmps40
  go_wp2
  go_loopw [5] (fun i wr => ∃ k : Nat, k ≤ n ∧ i = .int .i64 k ∧ Below w.heap.size w wr) (fun i _ => n - (intOf i).toNat)
  case atStart => exact ⟨0, Nat.zero_le _, rfl, Below.refl _ _⟩
  case round =>
    obtain ⟨k, hk, rfl, hbw⟩ := hrel
    by_cases hlt : k < n
    · obtain ⟨b, off, rfl, hc⟩ := (H.out.below hbw) k (by rw [HL.out]; exact hlt)
      obtain ⟨b', off', rfl, hc'⟩ := (H'.out.below hbw) k (by rw [HL.out]; exact hlt)
      generalize zs.getD k 0 = x at hc hc'
      have hi : (k : Int) < (n : Int) := by omega
      have hq1 : (x != x) = false := by simp
      have hq2 : (x == x) = true := by simp
      go_wp2
      go_quiet (fail)
      go_wp2
      go_roundw
      case rel => exact ⟨k + 1, by omega, by go_num, below_drewN hbw _⟩
      case measure => simp [intOf]; omega
    · go_wp2
      go_ret
      exact ⟨rfl, hbw⟩

def MarkedI (lo hi k n : Nat) (w : World) (e : Ending) (w' : World) : Prop := e = .returned (.int .i64 ((k + n : Nat) : Int)) ∧ Btw lo hi w w'

set_option maxRecDepth 100000 in
set_option maxHeartbeats 2000000 in
theorem markIntS (A : Option Addr) (n c k lo hi : Nat) (zs : List Int) (w : World) (hl : zs.length = n) (hk : 1 ≤ k) (hn : n ≤ 1099511627776) (hk2 : k + n ≤ 1099511627776) (h : OwnI w lo hi A zs) :
    Calls Try.prog 42 #[.slice A n c, .int .i64 k] w (MarkedI lo hi k n w) := by
  rcases h with rfl | ⟨b, m, f, rfl, h1, h2, hm, hr, hf⟩
  · obtain rfl : n = 0 := hl.symm
    go_enter Try.func42, Try.ntmps42
    go_wp2
    go_loop [5, 1] (fun i kk => i = .int .i64 0 ∧ kk = .int .i64 k) (fun _ _ => 0)
    case atStart => exact ⟨rfl, rfl⟩
    case round =>
      obtain ⟨rfl, rfl⟩ := hrel
      go_wp2
      go_ret
      exact ⟨rfl, Btw.refl _ _ _⟩
  · have HM : Hid (n ≤ m) := Lib.hid (by omega)
    have HR := Lib.hid hr
    clear hl hm hr hf
    go_enter Try.func42, Try.ntmps42
    go_wp2
    go_loopw [5, 1] (fun i kk wr => ∃ j : Nat, j ≤ n ∧ i = .int .i64 j ∧ kk = .int .i64 ((k + j : Nat) : Int) ∧ Btw lo hi w wr ∧ Hid (∃ f, wr.rowIs b 3 m f)) (fun i _ _ => n - (intOf i).toNat)
    case atStart => exact ⟨0, Nat.zero_le _, rfl, rfl, Btw.refl _ _ _, Lib.hid ⟨_, HR.out⟩⟩
    case round =>
      obtain ⟨j, hj, rfl, rfl, hbw, HW⟩ := hrel
      by_cases hlt : j < n
      · have hi' : (j : Int) < (n : Int) := by omega
        obtain ⟨f', hf'⟩ := HW.out
        have hc := hf'.cell (i := j) (by have := HM.out; omega)
        have hfz := hf'.frozen j
        generalize hz : k + j = z
        have HZ := Lib.hid hz
        have hz1 : z + 1 ≤ 1099511627776 := by omega
        have HS : Hid (∃ f, (wr.setCell ⟨b, j, none⟩ (.int .i64 (z : Int))).rowIs b 3 m f) := Lib.hid ⟨_, hf'.set j _⟩
        clear hf' HW hz
        generalize f' j = y at hc
        go_wp2
        go_roundw
        case rel => exact ⟨j + 1, by omega, by go_num, by have := HZ.out; congr 1; omega, hbw.setCell h1 h2 _, HS⟩
        case measure => simp [intOf]; omega
      · go_wp2
        go_ret
        have ej : j = n := by omega
        subst ej
        exact ⟨rfl, hbw⟩
end Go.Proofs.Ytamfapmkdojhcaa

/- Contracts of the measures: szStringS, szWrite, szWriteS, szDisk: what is left, or -1. -/
namespace Go.Proofs.Ytamfapmkdojhcaa
open Go.RowKit

/-- How many letters the strings hold. -/
def lenS (ss : List ByteArray) : Nat := (ss.map (·.size)).sum
def lenW (ws : List (Int × ByteArray)) : Nat := (ws.map (·.2.size)).sum

theorem lenS_take (ss : List ByteArray) (k : Nat) (h : k < ss.length) : lenS (ss.take (k + 1)) = lenS (ss.take k) + (ss.getD k ByteArray.empty).size := by
  unfold lenS
  rw [List.take_succ_eq_append_getElem h, List.map_append, List.sum_append, List.getD_eq_getElem?_getD, List.getElem?_eq_getElem h]
  simp
theorem lenW_take (ws : List (Int × ByteArray)) (k : Nat) (h : k < ws.length) : lenW (ws.take (k + 1)) = lenW (ws.take k) + (ws.getD k (0, ByteArray.empty)).2.size := by
  unfold lenW
  rw [List.take_succ_eq_append_getElem h, List.map_append, List.sum_append, List.getD_eq_getElem?_getD, List.getElem?_eq_getElem h]
  simp

/-- What a measure answers: a negative number, or what is left of the bound. -/
def Left (left : Int) (used : Nat) (w : World) (e : Ending) (w' : World) : Prop :=
  (e = .returned (.int .i64 (-1)) ∨ e = .returned (.int .i64 (left - used)) ∧ (used : Int) ≤ left) ∧ Below w.heap.size w w'

/-- The measure of a disk. -/
def szOf (ss : List ByteArray) (ws : List (Int × ByteArray)) : Nat := (ss.length + lenS ss) + (ws.length + lenW ws)

end Go.Proofs.Ytamfapmkdojhcaa

/- Contracts of szIntS, of markIntS with what it leaves, of heldIntS. -/
namespace Go.Proofs.Ytamfapmkdojhcaa
open Go.RowKit

set_option maxRecDepth 100000 in
theorem szIntS (A : Option Addr) (n c : Nat) (left : Int) (w : World) (hn : n ≤ maxLen) (h0 : 0 ≤ left) (h1 : left ≤ 1048576) :
    Calls Try.prog 46 #[.slice A n c, .int .i64 left] w (Left left n w) := by
  unfold maxLen at hn
  by_cases hb : left < n
  · have hb' : left - (n : Int) < 0 := by omega
    go_enter Try.func46, Try.ntmps46
    go_wp2
    go_ret
    exact ⟨.inl rfl, Below.refl _ _⟩
  · have hb' : ¬ left - (n : Int) < 0 := by omega
    go_enter Try.func46, Try.ntmps46
    go_wp2
    go_ret
    exact ⟨.inr ⟨rfl, by omega⟩, Below.refl _ _⟩

def marksI (k n : Nat) : List Int := (List.range n).map fun i => ((k + i : Nat) : Int)
theorem marksI_len (k n : Nat) : (marksI k n).length = n := by simp [marksI]
theorem marksI_at (k n i : Nat) (h : i < n) : (marksI k n).getD i 0 = ((k + i : Nat) : Int) := by simp [marksI, List.getD_eq_getElem?_getD, h]
def MarkedIs (lo hi : Nat) (A : Option Addr) (k n : Nat) (w : World) (e : Ending) (w' : World) : Prop :=
  e = .returned (.int .i64 ((k + n : Nat) : Int)) ∧ Hid (OwnI w' lo hi A (marksI k n)) ∧ Btw lo hi w w'

set_option maxRecDepth 100000 in
set_option maxHeartbeats 2000000 in
theorem markIntSs (A : Option Addr) (n c k lo hi : Nat) (zs : List Int) (w : World) (hl : zs.length = n) (hk : 1 ≤ k) (hn : n ≤ 1099511627776) (hk2 : k + n ≤ 1099511627776) (h : OwnI w lo hi A zs) :
    Calls Try.prog 42 #[.slice A n c, .int .i64 k] w (MarkedIs lo hi A k n w) := by
  rcases h with rfl | ⟨b, m, f, rfl, h1, h2, hm, hr, hf⟩
  · obtain rfl : n = 0 := hl.symm
    go_enter Try.func42, Try.ntmps42
    go_wp2
    go_loop [5, 1] (fun i kk => i = .int .i64 0 ∧ kk = .int .i64 k) (fun _ _ => 0)
    case atStart => exact ⟨rfl, rfl⟩
    case round =>
      obtain ⟨rfl, rfl⟩ := hrel
      go_wp2
      go_ret
      exact ⟨rfl, Lib.hid (.inl rfl), Btw.refl _ _ _⟩
  · have HM : Hid (n ≤ m) := Lib.hid (by omega)
    have HR := Lib.hid hr
    clear hl hm hr hf
    go_enter Try.func42, Try.ntmps42
    go_wp2
    go_loopw [5, 1] (fun i kk wr => ∃ j : Nat, j ≤ n ∧ i = .int .i64 j ∧ kk = .int .i64 ((k + j : Nat) : Int) ∧ Btw lo hi w wr ∧ Hid (wr.rowIs b 3 m (fun x => if x < j then .int .i64 ((k + x : Nat) : Int) else f x))) (fun i _ _ => n - (intOf i).toNat)
    case atStart => exact ⟨0, Nat.zero_le _, rfl, rfl, Btw.refl _ _ _, Lib.hid (HR.out.congr (fun i _ => by simp))⟩
    case round =>
      obtain ⟨j, hj, rfl, rfl, hbw, HW⟩ := hrel
      by_cases hlt : j < n
      · have hi' : (j : Int) < (n : Int) := by omega
        have hc := HW.out.cell (i := j) (by have := HM.out; omega)
        simp only [Nat.lt_irrefl, if_false] at hc
        have hfz := HW.out.frozen j
        generalize hz : k + j = z
        have HZ := Lib.hid hz
        have hz1 : z + 1 ≤ 1099511627776 := by omega
        have HS := Lib.hid (HW.out.set j (.int .i64 (z : Int)))
        clear HW hz
        generalize f j = y at hc
        go_wp2
        go_roundw
        case rel =>
          refine ⟨j + 1, by omega, by go_num, by have := HZ.out; congr 1; omega, hbw.setCell h1 h2 _, Lib.hid (HS.out.congr (fun x _ => ?_))⟩
          show (if x = j then Value.int .i64 (z : Int) else if x < j then _ else _) = _
          by_cases e : x = j
          · subst e; rw [if_pos rfl, if_pos (by omega), HZ.out]
          · rw [if_neg e]
            by_cases e2 : x < j
            · rw [if_pos e2, if_pos (by omega)]
            · rw [if_neg e2, if_neg (by omega)]
        case measure => simp [intOf]; omega
      · go_wp2
        go_ret
        have ej : j = n := by omega
        subst ej
        exact ⟨rfl, Lib.hid (.inr ⟨b, m, _, rfl, h1, h2, by rw [marksI_len]; exact HM.out, HW.out, fun i hi' => by rw [marksI_len] at hi'; rw [if_pos hi', marksI_at k j i hi']⟩), hbw⟩

set_option maxRecDepth 100000 in
set_option maxHeartbeats 2000000 in
theorem heldIntS (A : Option Addr) (n c k : Nat) (w : World) (hk : 1 ≤ k) (hk2 : k + n ≤ 1099511627776) (h : IntL w A (marksI k n)) :
    Calls Try.prog 44 #[.slice A n c, .int .i64 k] w fun e w' => e = .returned (.int .i64 ((k + n : Nat) : Int)) ∧ w = w' := by
  have H := Lib.hid h
  clear h
  go_enter Try.func44, Try.ntmps44
  go_wp2
  go_loop [5, 1] (fun i kk => ∃ j : Nat, j ≤ n ∧ i = .int .i64 j ∧ kk = .int .i64 ((k + j : Nat) : Int)) (fun i _ => n - (intOf i).toNat)
  case atStart => exact ⟨0, Nat.zero_le _, rfl, rfl⟩
  case round =>
    obtain ⟨j, hj, rfl, rfl⟩ := hrel
    by_cases hlt : j < n
    · obtain ⟨b, off, rfl, hc⟩ := H.out j (by rw [marksI_len]; exact hlt)
      rw [marksI_at k n j hlt] at hc
      have hi' : (j : Int) < (n : Int) := by omega
      generalize hz : k + j = z at hc
      have HZ := Lib.hid hz
      have hz1 : z + 1 ≤ 1099511627776 := by omega
      have hq : ((z : Int) != (z : Int)) = false := by simp
      clear hz
      go_wp2
      go_round
      case rel => exact ⟨j + 1, by omega, by go_num, by have := HZ.out; congr 1; omega⟩
      case measure => simp [intOf]; omega
    · go_wp2
      go_ret
      have ej : j = n := by omega
      subst ej
      exact ⟨rfl, rfl⟩
end Go.Proofs.Ytamfapmkdojhcaa

/- Contracts of the marks: markText, markStringS, heldStringS, markWriteS, heldWriteS, markDisk, heldDisk. -/
namespace Go.Proofs.Ytamfapmkdojhcaa
open Go.RowKit

def mkDig (j : Nat) : ByteArray := ⟨#[UInt8.ofNat (48 + j % 10)]⟩
def mkGo : Nat → Nat → ByteArray → ByteArray
  | 0, _, o => o
  | f + 1, j, o => if j = 0 then o else mkGo f (j / 10) (mkDig j ++ o)
/-- The text of a mark. -/
def mkText (k : Nat) : ByteArray := ⟨#[109]⟩ ++ mkGo k k ByteArray.empty
theorem mkGo_zero (f : Nat) (o : ByteArray) : mkGo f 0 o = o := by cases f <;> simp [mkGo]
theorem mkGo_step (f j : Nat) (o : ByteArray) (h : 0 < j) (hf : j ≤ f) : ∃ f', j / 10 ≤ f' ∧ mkGo f j o = mkGo f' (j / 10) (mkDig j ++ o) := by
  obtain ⟨f', rfl⟩ : ∃ f', f = f' + 1 := ⟨f - 1, by omega⟩
  exact ⟨f', by omega, by rw [mkGo, if_neg (by omega)]⟩

set_option maxRecDepth 100000 in
theorem byte_string (V : World) (j : Nat) : (convert 22 9 (.slice (some ⟨V.heap.size, 0, none⟩) 1 1)).run Try.prog (V.alloc (.cells #[.int .u8 (48 + (j : Int) % 10)] 5)) = .ok (.string (mkDig j)) (V.alloc (.cells #[.int .u8 (48 + (j : Int) % 10)] 5)) := by
  have h : (UInt8.ofNat (48 + j % 10)).toNat = 48 + j % 10 := by
    rw [UInt8.toNat_ofNat']; omega
  exact run_convert_bytes_back (P := Try.prog) (V.alloc (.cells #[.int .u8 (48 + (j : Int) % 10)] 5)) 22 9 5 ⟨V.heap.size, 0, none⟩ 1 [UInt8.ofNat (48 + j % 10)] Try.underlying22 Try.underlying5 Try.underlying9 (fun i hi => by
    have hi' : i = 0 := by simpa using hi
    subst hi'
    simp only [List.getElem_cons_zero]
    rw [h]
    simp [Addr.add])

def marksS (k n : Nat) : List ByteArray := (List.range n).map fun i => mkText (k + i)
def marksW (k n : Nat) : List (Int × ByteArray) := (List.range n).map fun i => (((k + i * 2 : Nat) : Int), mkText (k + i * 2 + 1))
theorem marksS_len (k n : Nat) : (marksS k n).length = n := by simp [marksS]
theorem marksW_len (k n : Nat) : (marksW k n).length = n := by simp [marksW]
theorem marksS_at (k n i : Nat) (h : i < n) : (marksS k n).getD i ByteArray.empty = mkText (k + i) := by simp [marksS, List.getD_eq_getElem?_getD, h]
theorem marksW_at (k n i : Nat) (h : i < n) : (marksW k n).getD i (0, ByteArray.empty) = (((k + i * 2 : Nat) : Int), mkText (k + i * 2 + 1)) := by simp [marksW, List.getD_eq_getElem?_getD, h]

/-- What the marks of a slice of strings leave. -/
def MarkedS (lo hi : Nat) (A : Option Addr) (k n : Nat) (w : World) (e : Ending) (w' : World) : Prop :=
  e = .returned (.int .i64 ((k + n : Nat) : Int)) ∧ Hid (OwnS w' lo hi A (marksS k n)) ∧ Btw lo hi w w'
def markCell (k x : Nat) : Value := if x % 2 = 0 then .int .i64 ((k + x : Nat) : Int) else .string (mkText (k + x))

theorem OwnS.wide {w : World} {lo hi lo' hi' : Nat} {A : Option Addr} {ss : List ByteArray} (h : OwnS w lo hi A ss) (h1 : lo' ≤ lo) (h2 : hi ≤ hi') : OwnS w lo' hi' A ss := by
  rcases h with e | ⟨b, m, f, e, q1, q2, q3, q4, q5⟩
  · exact .inl e
  · exact .inr ⟨b, m, f, e, by omega, by omega, q3, q4, q5⟩
theorem OwnS.apart {w w' : World} {lo hi l r : Nat} {A : Option Addr} {ss : List ByteArray} (h : OwnS w lo hi A ss) (hb : Btw l r w w') (ha : ∀ b n f, w.rowIs b 9 n f → b < l ∨ r ≤ b) : OwnS w' lo hi A ss := by
  rcases h with e | ⟨b, m, f, e, q1, q2, q3, q4, q5⟩
  · exact .inl e
  · exact .inr ⟨b, m, f, e, q1, q2, q3, hb.row q4 (ha b m f q4), q5⟩
end Go.Proofs.Ytamfapmkdojhcaa

/- A disk of the call's own behind a box: kept over what is new, and over writes elsewhere. -/
namespace Go.Proofs.Ytamfapmkdojhcaa
open Go.RowKit

theorem alloc_below (w : World) (o : Obj) : Below w.heap.size w (w.alloc o) := (Below.refl _ _).alloc (Nat.le_refl _) o
end Go.Proofs.Ytamfapmkdojhcaa

/- Slices of booleans: as lists, of the call's own; contracts of szBoolS, toBoolS, eqBoolS, markBoolS, heldBoolS. -/
namespace Go.Proofs.Ytamfapmkdojhcaa
open Go.RowKit

/-- The slice at A holds these booleans. -/
def BoolL (w : World) (A : Option Addr) (gs : List Bool) : Prop :=
  ∀ i, i < gs.length → ∃ b off, A = some ⟨b, off, none⟩ ∧ w.cell? ⟨b, off + i, none⟩ = some (.bool (gs.getD i false))
theorem BoolL.below {w w' : World} {A : Option Addr} {gs : List Bool} (h : BoolL w A gs) (hb : Below w.heap.size w w') : BoolL w' A gs := fun i hi => by
  obtain ⟨b, off, e, hc⟩ := h i hi
  exact ⟨b, off, e, (hb.cell (cell_lt hc)).trans hc⟩
/-- A []bool of the call's own. -/
def OwnB (w : World) (lo hi : Nat) (A : Option Addr) (gs : List Bool) : Prop :=
  gs = [] ∨ ∃ b m f, A = some ⟨b, 0, none⟩ ∧ lo ≤ b ∧ b < hi ∧ gs.length ≤ m ∧ w.rowIs b 4 m f ∧ ∀ i, i < gs.length → f i = .bool (gs.getD i false)
theorem OwnB.reads {w : World} {lo hi : Nat} {A : Option Addr} {gs : List Bool} (h : OwnB w lo hi A gs) : BoolL w A gs := fun i hi' => by
  rcases h with rfl | ⟨b, m, f, e, _, _, hm, hr, hf⟩
  · simp at hi'
  · exact ⟨b, 0, e, by rw [← hf i hi', Nat.zero_add]; exact hr.cell (by omega)⟩
theorem OwnB.btw {w w' : World} {lo hi l h' : Nat} {A : Option Addr} {gs : List Bool} (h : OwnB w lo hi A gs) (hb : Btw l h' w w') (ho : hi ≤ l ∨ h' ≤ lo) : OwnB w' lo hi A gs := by
  rcases h with e | ⟨b, m, f, e, h1, h2, hm, hr, hf⟩
  · exact .inl e
  · exact .inr ⟨b, m, f, e, h1, h2, hm, hb.row hr (by omega), hf⟩
theorem OwnB.below {w w' : World} {lo hi : Nat} {A : Option Addr} {gs : List Bool} (h : OwnB w lo hi A gs) (hb : Below w.heap.size w w') : OwnB w' lo hi A gs := h.btw (Btw.of_below hb hi hi) (.inl (Nat.le_refl _))
theorem OwnB.wide {w : World} {lo hi lo' hi' : Nat} {A : Option Addr} {gs : List Bool} (h : OwnB w lo hi A gs) (h1 : lo' ≤ lo) (h2 : hi ≤ hi') : OwnB w lo' hi' A gs := by
  rcases h with e | ⟨b, m, f, e, p1, p2, hm, hr, hf⟩
  · exact .inl e
  · exact .inr ⟨b, m, f, e, by omega, by omega, hm, hr, hf⟩
theorem OwnB.far {w : World} {lo hi : Nat} {A : Option Addr} {gs : List Bool} (h : OwnB w lo hi A gs) {b : Nat} {t : TypeId} {cs : Array Value} (X : Box w b t cs) (ht : t ≠ 4) (i : Nat) (u : Value) : OwnB (w.setCell ⟨b, i, none⟩ u) lo hi A gs := by
  rcases h with e | ⟨b', m, f, e, p1, p2, hm, hr, hf⟩
  · exact .inl e
  · exact .inr ⟨b', m, f, e, p1, p2, hm, hr.setOther (a := ⟨b, i, none⟩) (by exact (X.ne hr ht).symm) u, hf⟩
/-- The block of this row alone. -/
theorem OwnB.narrow {w : World} {lo hi : Nat} {A : Option Addr} {gs : List Bool} (h : OwnB w lo hi A gs) : ∃ l r, lo ≤ l ∧ r ≤ hi ∧ OwnB w l r A gs ∧ ∀ b n f, w.rowIs b 3 n f → b < l ∨ r ≤ b := by
  rcases h with e | ⟨b, m, f, e, q1, q2, q3, q4, q5⟩
  · exact ⟨lo, 0, Nat.le_refl _, Nat.zero_le _, .inl e, fun _ _ _ _ => .inr (Nat.zero_le _)⟩
  · refine ⟨b, b + 1, q1, by omega, .inr ⟨b, m, f, e, Nat.le_refl _, by omega, q3, q4, q5⟩, fun b' n' f' h' => ?_⟩
    have := row_ne q4 h' (by decide)
    omega
theorem OwnB.apart {w w' : World} {lo hi l r : Nat} {A : Option Addr} {gs : List Bool} (h : OwnB w lo hi A gs) (hb : Btw l r w w') (ha : ∀ b n f, w.rowIs b 4 n f → b < l ∨ r ≤ b) : OwnB w' lo hi A gs := by
  rcases h with e | ⟨b, m, f, e, q1, q2, q3, q4, q5⟩
  · exact .inl e
  · exact .inr ⟨b, m, f, e, q1, q2, q3, hb.row q4 (ha b m f q4), q5⟩
/-- The same of a []int against a []bool. -/
theorem OwnI.narrowB {w : World} {lo hi : Nat} {A : Option Addr} {zs : List Int} (h : OwnI w lo hi A zs) : ∃ l r, lo ≤ l ∧ r ≤ hi ∧ OwnI w l r A zs ∧ ∀ b n f, w.rowIs b 4 n f → b < l ∨ r ≤ b := by
  rcases h with e | ⟨b, m, f, e, q1, q2, q3, q4, q5⟩
  · exact ⟨lo, 0, Nat.le_refl _, Nat.zero_le _, .inl e, fun _ _ _ _ => .inr (Nat.zero_le _)⟩
  · refine ⟨b, b + 1, q1, by omega, .inr ⟨b, m, f, e, Nat.le_refl _, by omega, q3, q4, q5⟩, fun b' n' f' h' => ?_⟩
    have := row_ne q4 h' (by decide)
    omega
theorem OwnI.apartB {w w' : World} {lo hi l r : Nat} {A : Option Addr} {zs : List Int} (h : OwnI w lo hi A zs) (hb : Btw l r w w') (ha : ∀ b n f, w.rowIs b 3 n f → b < l ∨ r ≤ b) : OwnI w' lo hi A zs := by
  rcases h with e | ⟨b, m, f, e, q1, q2, q3, q4, q5⟩
  · exact .inl e
  · exact .inr ⟨b, m, f, e, q1, q2, q3, hb.row q4 (ha b m f q4), q5⟩
theorem OwnI.wideB {w : World} {lo hi lo' hi' : Nat} {A : Option Addr} {zs : List Int} (h : OwnI w lo hi A zs) (h1 : lo' ≤ lo) (h2 : hi ≤ hi') : OwnI w lo' hi' A zs := by
  rcases h with e | ⟨b, m, f, e, p1, p2, hm, hr, hf⟩
  · exact .inl e
  · exact .inr ⟨b, m, f, e, by omega, by omega, hm, hr, hf⟩
theorem OwnI.farB {w : World} {lo hi : Nat} {A : Option Addr} {zs : List Int} (h : OwnI w lo hi A zs) {b : Nat} {t : TypeId} {cs : Array Value} (X : Box w b t cs) (ht : t ≠ 3) (i : Nat) (u : Value) : OwnI (w.setCell ⟨b, i, none⟩ u) lo hi A zs := by
  rcases h with e | ⟨b', m, f, e, p1, p2, hm, hr, hf⟩
  · exact .inl e
  · exact .inr ⟨b', m, f, e, p1, p2, hm, hr.setOther (a := ⟨b, i, none⟩) (by exact (X.ne hr ht).symm) u, hf⟩

set_option maxRecDepth 100000 in
theorem szBoolS (A : Option Addr) (n c : Nat) (left : Int) (w : World) (hn : n ≤ maxLen) (h0 : 0 ≤ left) (h1 : left ≤ 1048576) :
    Calls Try.prog 47 #[.slice A n c, .int .i64 left] w (Left left n w) := by
  unfold maxLen at hn
  by_cases hb : left < n
  · have hb' : left - (n : Int) < 0 := by omega
    go_enter Try.func47, Try.ntmps47
    go_wp2
    go_ret
    exact ⟨.inl rfl, Below.refl _ _⟩
  · have hb' : ¬ left - (n : Int) < 0 := by omega
    go_enter Try.func47, Try.ntmps47
    go_wp2
    go_ret
    exact ⟨.inr ⟨rfl, by omega⟩, Below.refl _ _⟩

set_option maxRecDepth 100000 in
theorem infoB : (Try.prog.info? 4).map (fun i => (i.zero, i.size, i.bytes)) = some (some (.bool false), 1, 1) := by kernel_rfl

/-- The call hands back a []bool of its own. -/
def GivesBools (gs : List Bool) (w : World) (e : Ending) (w' : World) : Prop :=
  ∃ A n c, e = .returned (.slice A n c) ∧ Hid (gs.length = n) ∧ Hid (OwnB w' w.heap.size w'.heap.size A gs) ∧ n ≤ c ∧ Below w.heap.size w w'

set_option maxRecDepth 100000 in
set_option maxHeartbeats 1000000 in
theorem toBoolS (A : Option Addr) (n c : Nat) (zs : List Bool) (w : World) (hl : zs.length = n) (hn : n ≤ 1048576) (h : BoolL w A zs) :
    Calls Try.prog 49 #[.slice A n c] w (GivesBools zs w) := by
  have HL := Lib.hid hl
  have H := Lib.hid h
  clear hl h
  have hmk := fun W => run_make_row' (P := Try.prog) 24 4 (.bool false) 1 Try.underlying24 infoB rfl .i64 .i64 n (by omega) (by omega) W
  go_enter Try.func49, Try.ntmps49
  go_wp2
  clear hmk
  have hrow := World.rowIs_made w (.bool false) n 4
  have hbel : Below w.heap.size w (w.alloc (.cells (madeCells #[.bool false] n) 4)) := (Below.refl _ _).alloc (Nat.le_refl _) _
  have HR := Lib.hid hrow
  clear hrow
  generalize w.alloc (.cells (madeCells #[.bool false] n) 4) = wa at hbel HR ⊢
  go_loopw [4] (fun i wr => ∃ k : Nat, k ≤ n ∧ i = .int .i64 k ∧ Below w.heap.size w wr ∧ wr.rowIs w.heap.size 4 n (fun j => if j < k then .bool (zs.getD j false) else .bool false)) (fun i _ => n - (intOf i).toNat)
  case atStart => exact ⟨0, Nat.zero_le _, rfl, hbel, HR.out.congr (fun i _ => by simp)⟩
  case round =>
    obtain ⟨k, hk, rfl, hbw, hrw⟩ := hrel
    by_cases hlt : k < n
    · obtain ⟨b, off, rfl, hc⟩ := (H.out.below hbw) k (by rw [HL.out]; exact hlt)
      have hcd := hrw.cell hlt
      have hfr := hrw.frozen k
      have HW := Lib.hid (hrw.set k (.bool (zs.getD k false)))
      simp only [Nat.lt_irrefl, if_false] at hcd
      clear hrw
      generalize hx : zs.getD k false = x at hc HW
      have HX := Lib.hid hx
      clear hx
      have hi : (k : Int) < (n : Int) := by omega
      go_wp2
      go_roundw
      case rel =>
        refine ⟨k + 1, by omega, by go_num, hbw.setCell (Nat.le_refl _) _, HW.out.congr (fun i _ => ?_)⟩
        show (if i = k then Value.bool x else if i < k then _ else _) = _
        by_cases e : i = k
        · subst e; rw [if_pos rfl, if_pos (by omega), HX.out]
        · rw [if_neg e]
          by_cases e2 : i < k
          · rw [if_pos e2, if_pos (by omega)]
          · rw [if_neg e2, if_neg (by omega)]
      case measure => simp [intOf]; omega
    · have HRW := Lib.hid hrw
      clear hrw
      go_wp2
      go_ret
      have ek : k = n := by omega
      subst ek
      exact ⟨_, _, _, rfl, HL, Lib.hid (.inr ⟨w.heap.size, k, _, rfl, Nat.le_refl _, HRW.out.lt, by rw [HL.out]; omega, HRW.out, fun i hi => by rw [if_pos (by rw [HL.out] at hi; exact hi)]⟩), Nat.le_refl _, hbw⟩

set_option maxRecDepth 100000 in
set_option maxHeartbeats 1000000 in
theorem eqBoolSame (A A' : Option Addr) (n n' c c' : Nat) (zs : List Bool) (w : World) (hl : zs.length = n) (hl' : zs.length = n') (hn : n ≤ maxLen) (h : BoolL w A zs) (h' : BoolL w A' zs) :
    Calls Try.prog 41 #[.slice A n c, .slice A' n' c'] w fun e w' => e = .returned (.bool true) ∧ Below w.heap.size w w' := by
  unfold maxLen at hn
  have HL := Lib.hid hl
  obtain rfl : n = n' := by omega
  have H := Lib.hid h
  have H' := Lib.hid h'
  clear hl hl' h h'
  have hb : ((n : Int) != (n : Int)) = false := by simp
  go_enter Try.func41, Try.ntmps41
  go_wp2
  go_loopw [5] (fun i wr => ∃ k : Nat, k ≤ n ∧ i = .int .i64 k ∧ Below w.heap.size w wr) (fun i _ => n - (intOf i).toNat)
  case atStart => exact ⟨0, Nat.zero_le _, rfl, Below.refl _ _⟩
  case round =>
    obtain ⟨k, hk, rfl, hbw⟩ := hrel
    by_cases hlt : k < n
    · obtain ⟨b, off, rfl, hc⟩ := (H.out.below hbw) k (by rw [HL.out]; exact hlt)
      obtain ⟨b', off', rfl, hc'⟩ := (H'.out.below hbw) k (by rw [HL.out]; exact hlt)
      generalize zs.getD k false = x at hc hc'
      have hi : (k : Int) < (n : Int) := by omega
      have hq1 : (x != x) = false := by simp
      have hq2 : (x == x) = true := by simp
      go_wp2
      go_quiet (fail)
      go_wp2
      go_roundw
      case rel => exact ⟨k + 1, by omega, by go_num, below_drewN hbw _⟩
      case measure => simp [intOf]; omega
    · go_wp2
      go_ret
      exact ⟨rfl, hbw⟩

def marksB (k n : Nat) : List Bool := (List.range n).map fun i => decide ((k + i) % 3 = 0)
theorem marksB_len (k n : Nat) : (marksB k n).length = n := by simp [marksB]
theorem marksB_at (k n i : Nat) (h : i < n) : (marksB k n).getD i false = decide ((k + i) % 3 = 0) := by simp [marksB, List.getD_eq_getElem?_getD, h]
def MarkedBs (lo hi : Nat) (A : Option Addr) (k n : Nat) (w : World) (e : Ending) (w' : World) : Prop :=
  e = .returned (.int .i64 ((k + n : Nat) : Int)) ∧ Hid (OwnB w' lo hi A (marksB k n)) ∧ Btw lo hi w w'
theorem rem3 (z : Nat) : ((z : Int) % 3 == 0) = decide (z % 3 = 0) := by
  rw [Bool.eq_iff_iff]
  simp only [beq_iff_eq, decide_eq_true_eq]
  omega

set_option maxRecDepth 100000 in
set_option maxHeartbeats 2000000 in
theorem markBoolS (A : Option Addr) (n c k lo hi : Nat) (zs : List Bool) (w : World) (hl : zs.length = n) (hk : 1 ≤ k) (hn : n ≤ 1099511627776) (hk2 : k + n ≤ 1099511627776) (h : OwnB w lo hi A zs) :
    Calls Try.prog 43 #[.slice A n c, .int .i64 k] w (MarkedBs lo hi A k n w) := by
  rcases h with rfl | ⟨b, m, f, rfl, h1, h2, hm, hr, hf⟩
  · obtain rfl : n = 0 := hl.symm
    go_enter Try.func43, Try.ntmps43
    go_wp2
    go_loop [5, 1] (fun i kk => i = .int .i64 0 ∧ kk = .int .i64 k) (fun _ _ => 0)
    case atStart => exact ⟨rfl, rfl⟩
    case round =>
      obtain ⟨rfl, rfl⟩ := hrel
      go_wp2
      go_ret
      exact ⟨rfl, Lib.hid (.inl rfl), Btw.refl _ _ _⟩
  · have HM : Hid (n ≤ m) := Lib.hid (by omega)
    have HR := Lib.hid hr
    clear hl hm hr hf
    go_enter Try.func43, Try.ntmps43
    go_wp2
    go_loopw [5, 1] (fun i kk wr => ∃ j : Nat, j ≤ n ∧ i = .int .i64 j ∧ kk = .int .i64 ((k + j : Nat) : Int) ∧ Btw lo hi w wr ∧ Hid (wr.rowIs b 4 m (fun x => if x < j then .bool (decide ((k + x) % 3 = 0)) else f x))) (fun i _ _ => n - (intOf i).toNat)
    case atStart => exact ⟨0, Nat.zero_le _, rfl, rfl, Btw.refl _ _ _, Lib.hid (HR.out.congr (fun i _ => by simp))⟩
    case round =>
      obtain ⟨j, hj, rfl, rfl, hbw, HW⟩ := hrel
      by_cases hlt : j < n
      · have hi' : (j : Int) < (n : Int) := by omega
        have hc := HW.out.cell (i := j) (by have := HM.out; omega)
        simp only [Nat.lt_irrefl, if_false] at hc
        have hfz := HW.out.frozen j
        generalize hz : k + j = z
        have HZ := Lib.hid hz
        have hz1 : z + 1 ≤ 1099511627776 := by omega
        have h3 := rem3 z
        have HS := Lib.hid (HW.out.set j (.bool (decide (z % 3 = 0))))
        generalize hq : decide (z % 3 = 0) = q at h3 HS
        have HQ := Lib.hid hq
        clear HW hz hq
        generalize f j = y at hc
        go_wp2
        go_roundw
        case rel =>
          refine ⟨j + 1, by omega, by go_num, by have := HZ.out; congr 1; omega, hbw.setCell h1 h2 _, Lib.hid (HS.out.congr (fun x _ => ?_))⟩
          show (if x = j then Value.bool q else if x < j then _ else _) = _
          by_cases e : x = j
          · subst e; rw [if_pos rfl, if_pos (by omega), HZ.out, HQ.out]
          · rw [if_neg e]
            by_cases e2 : x < j
            · rw [if_pos e2, if_pos (by omega)]
            · rw [if_neg e2, if_neg (by omega)]
        case measure => simp [intOf]; omega
      · go_wp2
        go_ret
        have ej : j = n := by omega
        subst ej
        exact ⟨rfl, Lib.hid (.inr ⟨b, m, _, rfl, h1, h2, by rw [marksB_len]; exact HM.out, HW.out, fun i hi' => by rw [marksB_len] at hi'; rw [if_pos hi', marksB_at k j i hi']⟩), hbw⟩

set_option maxRecDepth 100000 in
set_option maxHeartbeats 2000000 in
theorem heldBoolS (A : Option Addr) (n c k : Nat) (w : World) (hk : 1 ≤ k) (hk2 : k + n ≤ 1099511627776) (h : BoolL w A (marksB k n)) :
    Calls Try.prog 45 #[.slice A n c, .int .i64 k] w fun e w' => e = .returned (.int .i64 ((k + n : Nat) : Int)) ∧ w = w' := by
  have H := Lib.hid h
  clear h
  go_enter Try.func45, Try.ntmps45
  go_wp2
  go_loop [5, 1] (fun i kk => ∃ j : Nat, j ≤ n ∧ i = .int .i64 j ∧ kk = .int .i64 ((k + j : Nat) : Int)) (fun i _ => n - (intOf i).toNat)
  case atStart => exact ⟨0, Nat.zero_le _, rfl, rfl⟩
  case round =>
    obtain ⟨j, hj, rfl, rfl⟩ := hrel
    by_cases hlt : j < n
    · obtain ⟨b, off, rfl, hc⟩ := H.out j (by rw [marksB_len]; exact hlt)
      rw [marksB_at k n j hlt] at hc
      have hi' : (j : Int) < (n : Int) := by omega
      generalize hz : k + j = z at hc
      have HZ := Lib.hid hz
      have hz1 : z + 1 ≤ 1099511627776 := by omega
      have h3 := rem3 z
      generalize decide (z % 3 = 0) = q at h3 hc
      have hq : (q != q) = false := by simp
      clear hz
      go_wp2
      go_round
      case rel => exact ⟨j + 1, by omega, by go_num, by have := HZ.out; congr 1; omega⟩
      case measure => simp [intOf]; omega
    · go_wp2
      go_ret
      have ej : j = n := by omega
      subst ej
      exact ⟨rfl, rfl⟩
end Go.Proofs.Ytamfapmkdojhcaa

/- Contracts of szFlash, toFlash, eqFlash, markFlash, heldFlash; a flash behind a box. -/
namespace Go.Proofs.Ytamfapmkdojhcaa
open Go.RowKit

/-- The call hands back a flash of its own. -/
def GivesFlash (zs : List Int) (gs : List Bool) (st : Int) (w : World) (e : Ending) (w' : World) : Prop :=
  ∃ A n c C m d, e = .returned (.agg #[.slice A n c, .slice C m d, .int .i64 st]) ∧ Hid (zs.length = n) ∧ Hid (gs.length = m) ∧ Hid (OwnI w' w.heap.size w'.heap.size A zs) ∧ Hid (OwnB w' w.heap.size w'.heap.size C gs) ∧ Below w.heap.size w w'
/-- The same, and the capacity of its cells is no less than their number. -/
def GivesFlashC (zs : List Int) (gs : List Bool) (st : Int) (w : World) (e : Ending) (w' : World) : Prop :=
  ∃ A n c C m d, e = .returned (.agg #[.slice A n c, .slice C m d, .int .i64 st]) ∧ Hid (zs.length = n) ∧ Hid (gs.length = m) ∧ Hid (OwnI w' w.heap.size w'.heap.size A zs) ∧ Hid (OwnB w' w.heap.size w'.heap.size C gs) ∧ Hid (n ≤ c) ∧ Below w.heap.size w w'
theorem GivesFlashC.plain {zs : List Int} {gs : List Bool} {st : Int} {w : World} {e : Ending} {w' : World} : GivesFlashC zs gs st w e w' → GivesFlash zs gs st w e w' := by
  rintro ⟨A, n, c, C, m, d, h, L, M, S, R, _, hb⟩
  exact ⟨A, n, c, C, m, d, h, L, M, S, R, hb⟩
/-- The call hands back a flash of its own and a code. -/
def GivesFlashCode (zs : List Int) (gs : List Bool) (st code : Int) (w : World) (e : Ending) (w' : World) : Prop :=
  ∃ A n c C m d, e = .returned (.tuple #[.agg #[.slice A n c, .slice C m d, .int .i64 st], .int .i64 code]) ∧ Hid (zs.length = n) ∧ Hid (gs.length = m) ∧ Hid (OwnI w' w.heap.size w'.heap.size A zs) ∧ Hid (OwnB w' w.heap.size w'.heap.size C gs) ∧ Below w.heap.size w w'

/-- What the marks of a flash leave. -/
def MarkedFlash (lo hi : Nat) (A C : Option Addr) (k n m : Nat) (w : World) (e : Ending) (w' : World) : Prop :=
  e = .returned (.int .i64 ((k + n + m : Nat) : Int)) ∧ Hid (OwnI w' lo hi A (marksI k n)) ∧ Hid (OwnB w' lo hi C (marksB (k + n) m)) ∧ Btw lo hi w w'

end Go.Proofs.Ytamfapmkdojhcaa

/- Contracts of the tests: isSector, l01In, a write's and a disk's valid, both DiskOK. -/
namespace Go.Proofs.Ytamfapmkdojhcaa
open Go.RowKit

def secB (n : Int) : Bool := decide (0 ≤ n ∧ n ≤ 47)
def okWr (x : Int × ByteArray) : Bool := secB x.1 && decide (x.2.size ≤ 100)
def okSt (s : ByteArray) : Bool := decide (s.size ≤ 100)
def okDisk (ss : List ByteArray) (ws : List (Int × ByteArray)) : Bool := (decide (ss.length = 48) && decide (ws.length ≤ 60)) && (ss.all okSt && ws.all okWr)

theorem all_step {α : Type} (p : α → Bool) (l : List α) (d : α) (k : Nat) (h : k < l.length) : (l.drop k).all p = (p (l.getD k d) && (l.drop (k + 1)).all p) := by
  rw [List.drop_eq_getElem_cons h, List.all_cons, List.getD_eq_getElem?_getD, List.getElem?_eq_getElem h]
  rfl
theorem all_end {α : Type} (p : α → Bool) (l : List α) (k : Nat) (h : l.length ≤ k) : (l.drop k).all p = true := by
  rw [List.drop_of_length_le h]; rfl

theorem secB_range {a : Int} (h : secB a = true) : 0 ≤ a ∧ a ≤ 47 := by unfold secB at h; simpa using h

set_option maxRecDepth 100000 in
theorem l01In47 (n : Int) (w : World) : Calls Try.prog 35 #[.int .i64 n, .int .i64 0, .int .i64 47] w fun e w' => e = .returned (.bool (secB n)) ∧ w = w' := by
  go_enter Try.func35, Try.ntmps35
  go_wp2
  all_goals go_ret
  all_goals (refine ⟨ret_bool ?_, rfl⟩)
  all_goals (unfold secB; rw [Bool.eq_iff_iff]; simp; try omega)

theorem okDisk_no1 (ss : List ByteArray) (ws : List (Int × ByteArray)) (h : ss.length ≠ 48) : okDisk ss ws = false := by unfold okDisk; simp [h]
theorem okDisk_no2 (ss : List ByteArray) (ws : List (Int × ByteArray)) (h : 60 < ws.length) : okDisk ss ws = false := by
  unfold okDisk
  have : decide (ws.length ≤ 60) = false := by simp; omega
  rw [this]; simp
theorem okDisk_yes (ss : List ByteArray) (ws : List (Int × ByteArray)) (h : ss.length = 48) (h2 : ws.length ≤ 60) : okDisk ss ws = (ss.all okSt && ws.all okWr) := by
  unfold okDisk; simp [h, h2]

/-- Each string of the disk is of a size that strings have. -/
def FitS (ss : List ByteArray) : Prop := ∀ s ∈ ss, s.size ≤ maxLen
def FitW (ws : List (Int × ByteArray)) : Prop := ∀ x ∈ ws, x.2.size ≤ maxLen
theorem FitS.at_ {ss : List ByteArray} (h : FitS ss) (k : Nat) (hk : k < ss.length) : (ss.getD k ByteArray.empty).size ≤ maxLen := h _ (by rw [List.getD_eq_getElem?_getD, List.getElem?_eq_getElem hk]; exact List.getElem_mem _)
theorem FitW.at_ {ws : List (Int × ByteArray)} (h : FitW ws) (k : Nat) (hk : k < ws.length) : (ws.getD k (0, ByteArray.empty)).2.size ≤ maxLen := h _ (by rw [List.getD_eq_getElem?_getD, List.getElem?_eq_getElem hk]; exact List.getElem_mem _)

end Go.Proofs.Ytamfapmkdojhcaa

/- Contracts of the tests of a flash: isByte, isOffset, isBlock, blockOf, l01In, l03At, allBytes, Flash.valid, both FlashOK, checkCell, checkBlock, l03Ask. -/
namespace Go.Proofs.Ytamfapmkdojhcaa
open Go.RowKit

def byB (n : Int) : Bool := decide (0 ≤ n ∧ n ≤ 255)
def blkB (n : Int) : Bool := decide (0 ≤ n ∧ n ≤ 15)
def stB (n : Int) : Bool := decide (0 ≤ n ∧ n ≤ 8)
def okFlash (zs : List Int) (gs : List Bool) (st : Int) : Bool := (decide (zs.length = 256) && decide (gs.length = 16)) && (stB st && zs.all byB)
def codeIf (f ok : Bool) : Int := if f then (if ok then 0 else 4) else 1

theorem byB_range {a : Int} (h : byB a = true) : 0 ≤ a ∧ a ≤ 255 := by unfold byB at h; simpa using h
theorem blkB_range {a : Int} (h : blkB a = true) : 0 ≤ a ∧ a ≤ 15 := by unfold blkB at h; simpa using h
theorem stB_range {a : Int} (h : stB a = true) : 0 ≤ a ∧ a ≤ 8 := by unfold stB at h; simpa using h
theorem okFlash_len {zs : List Int} {gs : List Bool} {st : Int} (h : okFlash zs gs st = true) : zs.length = 256 ∧ gs.length = 16 ∧ (0 ≤ st ∧ st ≤ 8) ∧ ∀ z ∈ zs, 0 ≤ z ∧ z ≤ 255 := by
  unfold okFlash at h
  simp only [Bool.and_eq_true, decide_eq_true_eq, List.all_eq_true] at h
  exact ⟨h.1.1, h.1.2, stB_range h.2.1, fun z hz => byB_range (h.2.2 z hz)⟩
theorem okFlash_mk {zs : List Int} {gs : List Bool} {st : Int} (h1 : zs.length = 256) (h2 : gs.length = 16) (h3 : 0 ≤ st ∧ st ≤ 8) (h4 : ∀ z ∈ zs, 0 ≤ z ∧ z ≤ 255) : okFlash zs gs st = true := by
  unfold okFlash
  simp only [Bool.and_eq_true, decide_eq_true_eq, List.all_eq_true]
  exact ⟨⟨h1, h2⟩, by unfold stB; simpa using h3, fun z hz => by unfold byB; simpa using h4 z hz⟩

set_option maxRecDepth 100000 in
theorem l01In255 (n : Int) (w : World) : Calls Try.prog 35 #[.int .i64 n, .int .i64 0, .int .i64 255] w fun e w' => e = .returned (.bool (byB n)) ∧ w = w' := by
  go_enter Try.func35, Try.ntmps35
  go_wp2
  all_goals go_ret
  all_goals (refine ⟨ret_bool ?_, rfl⟩)
  all_goals (unfold byB; rw [Bool.eq_iff_iff]; simp; try omega)
set_option maxRecDepth 100000 in
theorem l01In15 (n : Int) (w : World) : Calls Try.prog 35 #[.int .i64 n, .int .i64 0, .int .i64 15] w fun e w' => e = .returned (.bool (blkB n)) ∧ w = w' := by
  go_enter Try.func35, Try.ntmps35
  go_wp2
  all_goals go_ret
  all_goals (refine ⟨ret_bool ?_, rfl⟩)
  all_goals (unfold blkB; rw [Bool.eq_iff_iff]; simp; try omega)
set_option maxRecDepth 100000 in
theorem l01In8 (n : Int) (w : World) : Calls Try.prog 35 #[.int .i64 n, .int .i64 0, .int .i64 8] w fun e w' => e = .returned (.bool (stB n)) ∧ w = w' := by
  go_enter Try.func35, Try.ntmps35
  go_wp2
  all_goals go_ret
  all_goals (refine ⟨ret_bool ?_, rfl⟩)
  all_goals (unfold stB; rw [Bool.eq_iff_iff]; simp; try omega)
theorem okFlash_no1 (zs : List Int) (gs : List Bool) (st : Int) (h : zs.length ≠ 256) : okFlash zs gs st = false := by unfold okFlash; simp [h]
theorem okFlash_no2 (zs : List Int) (gs : List Bool) (st : Int) (h : gs.length ≠ 16) : okFlash zs gs st = false := by unfold okFlash; simp [h]
theorem okFlash_no3 (zs : List Int) (gs : List Bool) (st : Int) (h : stB st = false) : okFlash zs gs st = false := by unfold okFlash; simp [h]
theorem okFlash_yes (zs : List Int) (gs : List Bool) (st : Int) (h : zs.length = 256) (h2 : gs.length = 16) (h3 : stB st = true) : okFlash zs gs st = zs.all byB := by unfold okFlash; simp [h, h2, h3]

end Go.Proofs.Ytamfapmkdojhcaa

/- The bits of bytes: 'and' as the language has it, and as a natural number. -/
namespace Go.Proofs.Ytamfapmkdojhcaa
open Go.RowKit

theorem wrap8 (n : Int) (h0 : 0 ≤ n) (h1 : n < 2 ^ 8) : IntKind.u8.wrap n = n := by
  have e : n % 2 ^ 8 = n := Int.emod_eq_of_lt h0 h1
  simp only [IntKind.wrap, IntKind.bits, IntKind.signed, e]
  simp
theorem wrap64 (n : Int) (h0 : 0 ≤ n) (h1 : n < 2 ^ 8) : IntKind.i64.wrap n = n := by
  have e : n % 2 ^ 64 = n := Int.emod_eq_of_lt h0 (by omega)
  simp only [IntKind.wrap, IntKind.bits, IntKind.signed, e]
  rw [if_neg]
  simp
  omega
theorem and_u8 (a b : Nat) (ha : a < 256) (hb : b < 256) : bits .and .u8 (a : Int) (b : Int) = ((a &&& b : Nat) : Int) := (bits_nat .u8 8 (by decide) wrap8 a b ha hb).1
theorem and_i64 (a b : Nat) (ha : a < 256) (hb : b < 256) : bits .and .i64 (a : Int) (b : Int) = ((a &&& b : Nat) : Int) := (bits_nat .i64 8 (by decide) wrap64 a b ha hb).1
theorem and_3 (a : Nat) (ha : a < 256) : bits .and .i64 (a : Int) 3 = ((a % 4 : Nat) : Int) := by
  have := and_i64 a 3 ha (by omega)
  rw [show a &&& 3 = a % 4 from Nat.and_two_pow_sub_one_eq_mod a 2] at this
  exact this
theorem and_lt (a b : Nat) (ha : a < 256) : a &&& b < 256 := Nat.lt_of_le_of_lt Nat.and_le_left ha
end Go.Proofs.Ytamfapmkdojhcaa

/- append of a whole row onto an empty literal. -/
namespace Go.Proofs.Ytamfapmkdojhcaa
open Go.RowKit

/-- append onto an empty row without room, something: a new row. -/
theorem run_app_fresh {P : Program} (w : World) (t ty e : TypeId) (i : TypeInfo) (z : Value) (size bytes : Nat) (ht : P.underlying t = some (.slice e)) (hi : P.info? e = some i) (hz : i.zero = some z)
    (hsize : i.size = size) (hby : i.bytes = bytes) (hzs : z.cells.size = size) (hsz : 0 < size) (b : Addr)
    (A : Option Addr) (m c : Nat) (hm : 0 < m) (news : List Value) (hl : news.length = m * size) (hsrc : ∃ ad, A = some ad ∧ ∀ j u, news[j]? = some u → w.cell? (ad.add j) = some u)
    (h63 : m ≤ maxLen) (hbytes : m * bytes ≤ 140737488355328) :
    ∃ A' cap w', (Builtin.append_ #[t, t] ty #[.slice (some b) 0 0, .slice A m c]).run P w = .ok (.slice A' m cap) w' ∧ Below w.heap.size w w' ∧ w'.ownsRow w.heap.size e size (.slice A' m cap) m news := by
  obtain ⟨ad, rfl, hc⟩ := hsrc
  obtain ⟨v', w', hr, ho, hg⟩ := run_append_arg_grows (P := P) w t ty e i z size bytes ht hi hz hsize hby hzs hsz b 0 0 [] (by simp) (fun j u hj => by simp at hj) ad m c news hl hc (by omega) (by omega) (by rw [Nat.zero_add]; exact hbytes)
  rw [Nat.zero_add] at ho
  obtain ⟨hl', h0 | ⟨g, cap, cur, rfl, hrest⟩⟩ := ho
  · omega
  · exact ⟨_, cap, w', hr, (Below.refl _ _).grown hg (Nat.le_refl _) (fun k hk => by cases hk), hl', .inr ⟨g, cap, cur, rfl, hrest⟩⟩

theorem wpList_app_fresh {P : Program} {ops : Array Oper} {rest : List Oper} {o : Oper} {a : Act} {w : World} {Q : Exit → Act → World → Prop}
    (hg : o.guard = none) (s x : Operand) (t : TypeId) (hop : o.op = Op.call { callee := Callee.builtin Builtin.append, args := #[s, x], argTypes := #[t, t] })
    (e : TypeId) (z : Value) (size bytes : Nat) (ht : P.underlying t = some (.slice e)) (hi : ∃ i : TypeInfo, P.info? e = some i ∧ i.zero = some z ∧ i.size = size ∧ i.bytes = bytes) (hzs : z.cells.size = size) (hsz : 0 < size) (b : Addr) (hs : a.eval s = .slice (some b) 0 0)
    (A : Option Addr) (m c : Nat) (hm : 0 < m) (news : List Value) (hx : a.eval x = .slice A m c) (hl : news.length = m * size) (hsrc : ∃ ad, A = some ad ∧ ∀ j u, news[j]? = some u → w.cell? (ad.add j) = some u)
    (h63 : m ≤ maxLen) (hbytes : m * bytes ≤ 140737488355328)
    (h : ∀ A' cap w', Below w.heap.size w w' → Hid (w'.ownsRow w.heap.size e size (.slice A' m cap) m news) → wpList P ops Q rest (a.put o.dst (.slice A' m cap)) w') : wpList P ops Q (o :: rest) a w :=
  wpList_plain hg fun _ hK => by
    obtain ⟨i, hi, hz, hsize, hby⟩ := hi
    obtain ⟨A', cap, w', hr, h2, h3⟩ := run_app_fresh (P := P) w t o.type e i z size bytes ht hi hz hsize hby hzs hsz b A m c hm news hl hsrc h63 hbytes
    unfold Oper.wp execOp
    simp only [hop, resolve, invoke, builtin, Sem.run_bind, Sem.run_pure, Result.andThen_ok, List.map_toArray, List.map_cons, List.map_nil, hs, hx, hr]
    exact hK _ _ (h A' cap w' h2 (Lib.hid h3))
end Go.Proofs.Ytamfapmkdojhcaa

/- append of a whole row onto an empty literal; lists as rows of one cell each. -/
namespace Go.Proofs.Ytamfapmkdojhcaa
open Go.RowKit

theorem row_of_owns {α : Type} (mk : α → Value) (dflt : α) {w : World} {base n : Nat} {t : TypeId} {v : Value} {ss : List α} (h : w.ownsRow base t 1 v n (ss.map mk)) (hn : 0 < n) : ∃ g cap m f, v = .slice (some ⟨g, 0, none⟩) n cap ∧ base ≤ g ∧ n ≤ m ∧ ss.length = n ∧ w.rowIs g t m f ∧ ∀ i, i < n → f i = mk (ss.getD i dflt) := by
  obtain ⟨hl, h0 | ⟨g, cap, cur, rfl, hb, hg, hnc, _, hsz, htk⟩⟩ := h
  · omega
  · rw [List.length_map, Nat.mul_one] at hl
    rw [Nat.mul_one] at hsz htk
    refine ⟨g, cap, cap, fun i => cur.toList.getD i undef, rfl, hb, hnc, hl, ⟨cur, hg, hsz, fun i hi => ?_⟩, fun i hi => ?_⟩
    · have : i < cur.toList.length := by simp [hsz, hi]
      show cur[i]? = some (cur.toList.getD i undef)
      rw [List.getD_eq_getElem?_getD, List.getElem?_eq_getElem this, ← Array.getElem?_toList, List.getElem?_eq_getElem this]
      rfl
    · have h1 : (cur.toList.take n)[i]? = (ss.map mk)[i]? := by rw [htk]
      rw [List.getElem?_take, if_pos hi] at h1
      show cur.toList.getD i undef = _
      rw [List.getD_eq_getElem?_getD, h1, List.getElem?_map, List.getD_eq_getElem?_getD, List.getElem?_eq_getElem (by omega)]
      rfl

def cellsI (zs : List Int) : List Value := zs.map fun z => .int .i64 z
def cellsB (gs : List Bool) : List Value := gs.map Value.bool
theorem cellsI_len (zs : List Int) : (cellsI zs).length = zs.length := by simp [cellsI]
theorem cellsB_len (gs : List Bool) : (cellsB gs).length = gs.length := by simp [cellsB]
theorem ownI_fresh {w' : World} {A : Option Addr} {n cap lo base : Nat} {zs : List Int} (h : w'.ownsRow base 3 1 (.slice A n cap) n (cellsI zs)) (hn : 0 < n) (hlo : lo ≤ base) : OwnI w' lo w'.heap.size A zs := by
  obtain ⟨g, cap', m, f, e, q1, q2, q3, q4, q5⟩ := row_of_owns (fun z => Value.int .i64 z) 0 h hn
  injection e with e _ _
  subst e
  exact .inr ⟨g, m, f, rfl, by omega, q4.lt, by omega, q4, fun i hi => q5 i (by omega)⟩
theorem ownB_fresh {w' : World} {A : Option Addr} {n cap lo base : Nat} {gs : List Bool} (h : w'.ownsRow base 4 1 (.slice A n cap) n (cellsB gs)) (hn : 0 < n) (hlo : lo ≤ base) : OwnB w' lo w'.heap.size A gs := by
  obtain ⟨g, cap', m, f, e, q1, q2, q3, q4, q5⟩ := row_of_owns Value.bool false h hn
  injection e with e _ _
  subst e
  exact .inr ⟨g, m, f, rfl, by omega, q4.lt, by omega, q4, fun i hi => q5 i (by omega)⟩
theorem addr_add (b off j : Nat) : (⟨b, off, none⟩ : Addr).add j = ⟨b, off + j, none⟩ := by unfold Addr.add; split <;> simp_all
theorem IntL.src {w : World} {A : Option Addr} {zs : List Int} (h : IntL w A zs) (hn : 0 < zs.length) : ∃ ad, A = some ad ∧ ∀ j u, (cellsI zs)[j]? = some u → w.cell? (ad.add j) = some u := by
  obtain ⟨b, off, e, _⟩ := h 0 hn
  refine ⟨_, e, fun j u hj => ?_⟩
  have hj' : j < zs.length := by
    have := (List.getElem?_eq_some_iff.1 hj).1
    rwa [cellsI_len] at this
  obtain ⟨b', off', e', hc⟩ := h j hj'
  rw [e] at e'
  injection e' with e'
  injection e' with e1 e2 _
  subst e1 e2
  rw [addr_add, hc, ← hj]
  unfold cellsI
  rw [List.getElem?_map, List.getD_eq_getElem?_getD, List.getElem?_eq_getElem hj']
  rfl
theorem BoolL.src {w : World} {A : Option Addr} {gs : List Bool} (h : BoolL w A gs) (hn : 0 < gs.length) : ∃ ad, A = some ad ∧ ∀ j u, (cellsB gs)[j]? = some u → w.cell? (ad.add j) = some u := by
  obtain ⟨b, off, e, _⟩ := h 0 hn
  refine ⟨_, e, fun j u hj => ?_⟩
  have hj' : j < gs.length := by
    have := (List.getElem?_eq_some_iff.1 hj).1
    rwa [cellsB_len] at this
  obtain ⟨b', off', e', hc⟩ := h j hj'
  rw [e] at e'
  injection e' with e'
  injection e' with e1 e2 _
  subst e1 e2
  rw [addr_add, hc, ← hj]
  unfold cellsB
  rw [List.getElem?_map, List.getD_eq_getElem?_getD, List.getElem?_eq_getElem hj']
  rfl
set_option maxRecDepth 100000 in
theorem infoIx : ∃ i : TypeInfo, Try.prog.info? 3 = some i ∧ i.zero = some (.int .i64 0) ∧ i.size = 1 ∧ i.bytes = 8 := by
  obtain ⟨i, hi, hzz⟩ := Option.map_eq_some_iff.1 infoI
  simp only [Prod.mk.injEq] at hzz
  exact ⟨i, hi, hzz.1, hzz.2.1, hzz.2.2⟩
set_option maxRecDepth 100000 in
theorem infoBx : ∃ i : TypeInfo, Try.prog.info? 4 = some i ∧ i.zero = some (.bool false) ∧ i.size = 1 ∧ i.bytes = 1 := by
  obtain ⟨i, hi, hzz⟩ := Option.map_eq_some_iff.1 infoB
  simp only [Prod.mk.injEq] at hzz
  exact ⟨i, hi, hzz.1, hzz.2.1, hzz.2.2⟩

/-- One element of a row of the call's own is written. -/
theorem OwnI.put {w : World} {lo hi : Nat} {A : Option Addr} {zs : List Int} (h : OwnI w lo hi A zs) (k : Nat) (hk : k < zs.length) :
    ∃ b m f, A = some ⟨b, 0, none⟩ ∧ w.cell? ⟨b, k, none⟩ = some (.int .i64 (zs.getD k 0)) ∧ w.frozen? ⟨b, k, none⟩ = false ∧ lo ≤ b ∧ b < hi ∧ w.rowIs b 3 m f ∧ ∀ x, OwnI (w.setCell ⟨b, k, none⟩ (.int .i64 x)) lo hi A (zs.set k x) := by
  rcases h with rfl | ⟨b, m, f, e, h1, h2, hm, hr, hf⟩
  · simp at hk
  · refine ⟨b, m, f, e, by rw [← hf k hk]; exact hr.cell (by omega), hr.frozen k, h1, h2, hr, fun x => .inr ⟨b, m, _, e, h1, h2, by simpa using hm, hr.set k (.int .i64 x), fun i hi' => ?_⟩⟩
    have hi2 : i < zs.length := by simpa using hi'
    show (if i = k then Value.int .i64 x else f i) = _
    by_cases q : i = k
    · subst q
      rw [if_pos rfl, List.getD_eq_getElem?_getD, List.getElem?_set_self hk]
      rfl
    · rw [if_neg q, hf i hi2, List.getD_eq_getElem?_getD, List.getD_eq_getElem?_getD, List.getElem?_set_ne (fun e => q e.symm)]
theorem OwnB.put {w : World} {lo hi : Nat} {A : Option Addr} {zs : List Bool} (h : OwnB w lo hi A zs) (k : Nat) (hk : k < zs.length) :
    ∃ b m f, A = some ⟨b, 0, none⟩ ∧ w.cell? ⟨b, k, none⟩ = some (.bool (zs.getD k false)) ∧ w.frozen? ⟨b, k, none⟩ = false ∧ lo ≤ b ∧ b < hi ∧ w.rowIs b 4 m f ∧ ∀ x, OwnB (w.setCell ⟨b, k, none⟩ (.bool x)) lo hi A (zs.set k x) := by
  rcases h with rfl | ⟨b, m, f, e, h1, h2, hm, hr, hf⟩
  · simp at hk
  · refine ⟨b, m, f, e, by rw [← hf k hk]; exact hr.cell (by omega), hr.frozen k, h1, h2, hr, fun x => .inr ⟨b, m, _, e, h1, h2, by simpa using hm, hr.set k (.bool x), fun i hi' => ?_⟩⟩
    have hi2 : i < zs.length := by simpa using hi'
    show (if i = k then Value.bool x else f i) = _
    by_cases q : i = k
    · subst q
      rw [if_pos rfl, List.getD_eq_getElem?_getD, List.getElem?_set_self hk]
      rfl
    · rw [if_neg q, hf i hi2, List.getD_eq_getElem?_getD, List.getD_eq_getElem?_getD, List.getElem?_set_ne (fun e => q e.symm)]
/-- A write into a row of another type leaves it. -/
theorem OwnB.other {w : World} {lo hi : Nat} {A : Option Addr} {gs : List Bool} (h : OwnB w lo hi A gs) {b m : Nat} {t : TypeId} {f : Nat → Value} (hr : w.rowIs b t m f) (ht : t ≠ 4) (i : Nat) (u : Value) : OwnB (w.setCell ⟨b, i, none⟩ u) lo hi A gs := by
  rcases h with e | ⟨b', m', f', e, p1, p2, hm, hr', hf⟩
  · exact .inl e
  · exact .inr ⟨b', m', f', e, p1, p2, hm, hr'.setOther (a := ⟨b, i, none⟩) (by exact (row_ne hr hr' ht).symm) u, hf⟩
theorem OwnI.other {w : World} {lo hi : Nat} {A : Option Addr} {zs : List Int} (h : OwnI w lo hi A zs) {b m : Nat} {t : TypeId} {f : Nat → Value} (hr : w.rowIs b t m f) (ht : t ≠ 3) (i : Nat) (u : Value) : OwnI (w.setCell ⟨b, i, none⟩ u) lo hi A zs := by
  rcases h with e | ⟨b', m', f', e, p1, p2, hm, hr', hf⟩
  · exact .inl e
  · exact .inr ⟨b', m', f', e, p1, p2, hm, hr'.setOther (a := ⟨b, i, none⟩) (by exact (row_ne hr hr' ht).symm) u, hf⟩
theorem Box.other {w : World} {b : Nat} {t : TypeId} {cs : Array Value} (X : Box w b t cs) {b' m : Nat} {t' : TypeId} {f : Nat → Value} (hr : w.rowIs b' t' m f) (ht : t ≠ t') (i : Nat) (u : Value) : Box (w.setCell ⟨b', i, none⟩ u) b t cs :=
  X.far (p := ⟨b', i, none⟩) (X.ne hr ht) u
end Go.Proofs.Ytamfapmkdojhcaa

/- Appending one element to a slice of the call's own; what such a slice is good for. -/
namespace Go.Proofs.Ytamfapmkdojhcaa
open Go.RowKit

/-- An element type: its zero value, its cells, its bytes. -/
structure Elem (P : Program) (e : TypeId) (z : Value) (size bytes : Nat) : Prop where
  info : ∃ i : TypeInfo, P.info? e = some i ∧ i.zero = some z ∧ i.size = size ∧ i.bytes = bytes
  cells : z.cells.size = size
  pos : 0 < size

/-- The row v, of n elements with the cells xs, of the call's own: its block lies from base on. -/
abbrev RowV (w : World) (base : Nat) (e : TypeId) (size : Nat) (v : Value) (n : Nat) (xs : List Value) : Prop := w.ownsRow base e size v n xs

theorem rowv_ge {w : World} {base n : Nat} {e : TypeId} {size : Nat} {v : Value} {xs : List Value} (h : w.ownsRow base e size v n xs) : ∀ k, v.ownBlock = some k → base ≤ k := by
  intro k hk
  rcases h.2 with ⟨rfl, _⟩ | ⟨g, cap, cur, rfl, q1, q2⟩
  · simp [Value.ownBlock] at hk
  · simp [Value.ownBlock] at hk; omega
theorem rowv_keep {w w' : World} {base n : Nat} {e : TypeId} {size : Nat} {v : Value} {xs : List Value} (h : w.ownsRow base e size v n xs) (hk : ∀ k, base ≤ k → k < w.heap.size → w'.heap[k]? = w.heap[k]?) : w'.ownsRow base e size v n xs := by
  obtain ⟨h1, h0 | ⟨g, cap, cur, rfl, q1, q2, q3⟩⟩ := h
  · exact ⟨h1, .inl h0⟩
  · refine ⟨h1, .inr ⟨g, cap, cur, rfl, q1, ?_, q3⟩⟩
    have hlt : g < w.heap.size := by
      rcases Nat.lt_or_ge g w.heap.size with hlt | hge
      · exact hlt
      · rw [Array.getElem?_eq_none hge] at q2; cases q2
    rw [hk g q1 hlt]; exact q2
theorem rowv_below {w w' : World} {base n : Nat} {e : TypeId} {size : Nat} {v : Value} {xs : List Value} (h : w.ownsRow base e size v n xs) (hb : Below w.heap.size w w') : w'.ownsRow base e size v n xs := rowv_keep h (fun k _ hk => hb.block k hk)
theorem rowv_set {w : World} {base n : Nat} {e : TypeId} {size : Nat} {v : Value} {xs : List Value} (h : w.ownsRow base e size v n xs) {p : Addr} (hp : p.block < base) (u : Value) : (w.setCell p u).ownsRow base e size v n xs :=
  rowv_keep h (fun k hk _ => Below.heap_setCell w p u k (by omega))
theorem rowv_nil (w : World) (base : Nat) (e : TypeId) (size : Nat) : w.ownsRow base e size (.slice none 0 0) 0 [] := World.ownsRow_nil w base e size
theorem rowv_form {w : World} {base n : Nat} {e : TypeId} {size : Nat} {v : Value} {xs : List Value} (h : w.ownsRow base e size v n xs) : ∃ A cap, v = .slice A n cap ∧ n ≤ cap := by
  rcases h.2 with ⟨rfl, rfl⟩ | ⟨g, cap, cur, rfl, _, _, q, _⟩
  · exact ⟨none, 0, rfl, Nat.le_refl _⟩
  · exact ⟨_, cap, rfl, q⟩
theorem rowv_empty {w : World} {base g : Nat} {t : TypeId} {size : Nat} (hb : base ≤ g) (hg : Box w g t #[]) : w.ownsRow base t size (.slice (some ⟨g, 0, none⟩) 0 0) 0 [] :=
  ⟨by simp, .inr ⟨g, 0, #[], rfl, hb, hg, Nat.le_refl _, Nat.zero_le _, by simp, by simp⟩⟩

theorem wpList_app_one {P : Program} {w : World} {ops : Array Oper} {rest : List Oper} {o : Oper} {a : Act} {Q : Exit → Act → World → Prop} (hgd : o.guard = none) (s x : Operand) (t e : TypeId)
    (ho : o.op = .call { callee := .builtin .append, args := #[s, x], argTypes := #[t, t] }) (z : Value) (size bytes : Nat) (E : Elem P e z size bytes) (ht : P.underlying t = some (.slice e))
    (base : Nat) (v : Value) (n : Nat) (xs : List Value) (hs : a.eval s = v) (hown : w.ownsRow base e size v n xs)
    (b c : Nat) (hx : a.eval x = .slice (some ⟨b, 0, none⟩) 1 c) (news : List Value) (hl : news.length = size) (hnews : ∀ j u, news[j]? = some u → w.cell? ⟨b, j, none⟩ = some u) (h1 : ∀ u ∈ news, u.oneCell' = true)
    (h63 : n + 1 ≤ maxLen) (hby : (n + 1) * bytes ≤ 140737488355328) (hbase : base ≤ w.heap.size)
    (hK : ∀ A cap w', w'.ownsRow base e size (.slice A (n + 1) cap) (n + 1) (xs ++ news) → n + 1 ≤ cap → w.grownBy w' v.ownBlock → Below base w w' → wpList P ops Q rest (a.put o.dst (.slice A (n + 1) cap)) w') : wpList P ops Q (o :: rest) a w := by
  obtain ⟨i, hi, hz, hsz, hb⟩ := E.info
  refine wpList_append_own w hgd s x t ho base e i z size bytes ht hi hz hsz hb E.cells E.pos v n xs hs hown ⟨b, 0, none⟩ 1 c news hx (by rw [hl]; omega) (fun j u hj => ?_) h1 h63 hby hbase (fun v' w' h2 h3 _ => ?_)
  · have := hnews j u hj
    unfold Addr.add
    by_cases h0 : j = 0
    · subst h0; simpa using this
    · rw [if_neg h0]; simpa using this
  · obtain ⟨A, cap, rfl, hcap⟩ := rowv_form h2
    exact hK A cap w' h2 hcap h3 ((Below.refl base w).grown h3 hbase (rowv_ge hown))

theorem wpList_app_many {P : Program} {w : World} {ops : Array Oper} {rest : List Oper} {o : Oper} {a : Act} {Q : Exit → Act → World → Prop} (hgd : o.guard = none) (s x : Operand) (t e : TypeId)
    (ho : o.op = .call { callee := .builtin .append, args := #[s, x], argTypes := #[t, t] }) (z : Value) (size bytes : Nat) (E : Elem P e z size bytes) (ht : P.underlying t = some (.slice e))
    (base : Nat) (v : Value) (n : Nat) (xs : List Value) (hs : a.eval s = v) (hown : w.ownsRow base e size v n xs)
    (ad : Addr) (m c : Nat) (hx : a.eval x = .slice (some ad) m c) (news : List Value) (hl : news.length = m * size) (hnews : ∀ j u, news[j]? = some u → w.cell? (ad.add j) = some u) (h1 : ∀ u ∈ news, u.oneCell' = true)
    (h63 : n + m ≤ maxLen) (hby : (n + m) * bytes ≤ 140737488355328) (hbase : base ≤ w.heap.size)
    (hK : ∀ A cap w', w'.ownsRow base e size (.slice A (n + m) cap) (n + m) (xs ++ news) → n + m ≤ cap → w.grownBy w' v.ownBlock → Below base w w' → wpList P ops Q rest (a.put o.dst (.slice A (n + m) cap)) w') : wpList P ops Q (o :: rest) a w := by
  obtain ⟨i, hi, hz, hsz, hb⟩ := E.info
  refine wpList_append_own w hgd s x t ho base e i z size bytes ht hi hz hsz hb E.cells E.pos v n xs hs hown ad m c news hx hl hnews h1 h63 hby hbase (fun v' w' h2 h3 _ => ?_)
  obtain ⟨A, cap, rfl, hcap⟩ := rowv_form h2
  exact hK A cap w' h2 hcap h3 ((Below.refl base w).grown h3 hbase (rowv_ge hown))

theorem step_app_one {P : Program} {w : World} {ops : Array Oper} {o : Oper} {a : Act} {K : Act → World → Prop} {Q : Exit → Act → World → Prop} {X : Prop} (hgd : o.guard = none) (s x : Operand) (t e : TypeId)
    (ho : o.op = .call { callee := .builtin .append, args := #[s, x], argTypes := #[t, t] }) (z : Value) (size bytes : Nat) (E : Elem P e z size bytes) (ht : P.underlying t = some (.slice e))
    (base : Nat) (v : Value) (n : Nat) (xs : List Value) (hs : a.eval s = v) (hown : w.ownsRow base e size v n xs)
    (b c : Nat) (hx : a.eval x = .slice (some ⟨b, 0, none⟩) 1 c) (news : List Value) (hl : news.length = size) (hnews : ∀ j u, news[j]? = some u → w.cell? ⟨b, j, none⟩ = some u) (h1 : ∀ u ∈ news, u.oneCell' = true)
    (h63 : n + 1 ≤ maxLen) (hby : (n + 1) * bytes ≤ 140737488355328) (hbase : base ≤ w.heap.size)
    (hK : ∀ A cap w', w'.ownsRow base e size (.slice A (n + 1) cap) (n + 1) (xs ++ news) → n + 1 ≤ cap → w.grownBy w' v.ownBlock → Below base w w' → K (a.put o.dst (.slice A (n + 1) cap)) w') :
    if Region.wanted o (yielded ops a.tmps) = true then Oper.wp P o a w K Q else X := by
  have hw : Region.wanted o (yielded ops a.tmps) = true := by simp [Region.wanted, hgd]
  rw [if_pos hw]
  obtain ⟨i, hi, hz, hsz, hb⟩ := E.info
  refine wp_append_own w s x t ho base e i z size bytes ht hi hz hsz hb E.cells E.pos v n xs hs hown ⟨b, 0, none⟩ 1 c news hx (by rw [hl]; omega) (fun j u hj => ?_) h1 h63 hby hbase (fun v' w' h2 h3 _ => ?_)
  · have := hnews j u hj
    unfold Addr.add
    by_cases h0 : j = 0
    · subst h0; simpa using this
    · rw [if_neg h0]; simpa using this
  · obtain ⟨A, cap, rfl, hcap⟩ := rowv_form h2
    exact hK A cap w' h2 hcap h3 ((Below.refl base w).grown h3 hbase (rowv_ge hown))

/-- A box of another type than the row that grows is as it was. -/
theorem Box.grown {w w' : World} {b base n : Nat} {t e : TypeId} {cs : Array Value} {size : Nat} {v : Value} {xs : List Value} (h : Box w b t cs) (hr : w.ownsRow base e size v n xs) (ht : t ≠ e) (hg : w.grownBy w' v.ownBlock) : Box w' b t cs := by
  have hlt := h.lt
  refine (hg.block b hlt ?_).trans h
  rcases hr.2 with ⟨rfl, _⟩ | ⟨g, cap, cur, rfl, _, q2, _⟩
  · simp [Value.ownBlock]
  · simp only [Value.ownBlock, ne_eq, Option.some.injEq]
    rintro rfl
    unfold Box at h
    rw [h] at q2
    injection q2 with q2
    injection q2 with _ q3
    exact ht q3
theorem rowv_setBox {w : World} {base n b : Nat} {t e : TypeId} {cs : Array Value} {size : Nat} {v : Value} {xs : List Value} (h : w.ownsRow base e size v n xs) (X : Box w b t cs) (ht : t ≠ e) (i : Nat) (u : Value) : (w.setCell ⟨b, i, none⟩ u).ownsRow base e size v n xs := by
  obtain ⟨h1, h0 | ⟨g, cap, cur, rfl, q1, q2, q3⟩⟩ := h
  · exact ⟨h1, .inl h0⟩
  · refine ⟨h1, .inr ⟨g, cap, cur, rfl, q1, ?_, q3⟩⟩
    refine (Below.heap_setCell w ⟨b, i, none⟩ u g ?_).trans q2
    rintro rfl
    unfold Box at X
    rw [X] at q2
    injection q2 with q2
    injection q2 with _ q3
    exact ht q3
set_option maxRecDepth 100000 in
theorem elemInt : Elem Try.prog 3 (.int .i64 0) 1 8 := ⟨⟨_, rfl, rfl, rfl, rfl⟩, rfl, by decide⟩
set_option maxRecDepth 100000 in
theorem elemStr : Elem Try.prog 9 (.string ByteArray.empty) 1 16 := ⟨⟨_, rfl, rfl, rfl, rfl⟩, rfl, by decide⟩
/-- A []int of the call's own that grows. -/
def GroI (w : World) (base : Nat) (v : Value) (zs : List Int) : Prop := w.ownsRow base 3 1 v zs.length (zs.map (Value.int .i64))
def GroS (w : World) (base : Nat) (v : Value) (ss : List ByteArray) : Prop := w.ownsRow base 9 1 v ss.length (ss.map Value.string)
theorem GroI.own {w : World} {base lo : Nat} {A : Option Addr} {n c : Nat} {zs : List Int} (h : GroI w base (.slice A n c) zs) (hb : lo ≤ base) : OwnI w lo w.heap.size A zs := by
  obtain ⟨h1, ⟨h0, h2⟩ | ⟨g, cap, cur, hv, q1, q2, q3, q4, q5, q6⟩⟩ := h
  · exact .inl (List.eq_nil_of_length_eq_zero h2)
  · injection hv with hv1 hv2 hv3
    refine .inr ⟨g, cap, fun i => cur.getD i (.int .i64 0), hv1, by omega, (Array.getElem?_eq_some_iff.1 q2).1, q3, ⟨cur, q2, by omega, fun i hi => ?_⟩, fun i hi => ?_⟩
    · simp [Array.getElem?_eq_getElem (show i < cur.size by omega)]
    · have : (cur.toList.take (zs.length * 1))[i]? = (zs.map (Value.int .i64))[i]? := by rw [q6]
      rw [List.getElem?_take, if_pos (by omega), Array.getElem?_toList, List.getElem?_map, List.getElem?_eq_getElem hi] at this
      simp [this, List.getD_eq_getElem?_getD, List.getElem?_eq_getElem hi]
theorem GroS.own {w : World} {base lo : Nat} {A : Option Addr} {n c : Nat} {ss : List ByteArray} (h : GroS w base (.slice A n c) ss) (hb : lo ≤ base) : OwnS w lo w.heap.size A ss := by
  obtain ⟨h1, ⟨h0, h2⟩ | ⟨g, cap, cur, hv, q1, q2, q3, q4, q5, q6⟩⟩ := h
  · exact .inl (List.eq_nil_of_length_eq_zero h2)
  · injection hv with hv1 hv2 hv3
    refine .inr ⟨g, cap, fun i => cur.getD i (.int .i64 0), hv1, by omega, (Array.getElem?_eq_some_iff.1 q2).1, q3, ⟨cur, q2, by omega, fun i hi => ?_⟩, fun i hi => ?_⟩
    · simp [Array.getElem?_eq_getElem (show i < cur.size by omega)]
    · have : (cur.toList.take (ss.length * 1))[i]? = (ss.map Value.string)[i]? := by rw [q6]
      rw [List.getElem?_take, if_pos (by omega), Array.getElem?_toList, List.getElem?_map, List.getElem?_eq_getElem hi] at this
      simp [this, List.getD_eq_getElem?_getD, List.getElem?_eq_getElem hi]
theorem GroI.len {w : World} {base : Nat} {A : Option Addr} {n c : Nat} {zs : List Int} (h : GroI w base (.slice A n c) zs) : zs.length = n := by
  obtain ⟨A', cap, hv, _⟩ := rowv_form h
  injection hv with _ hv2 _; exact hv2.symm
theorem GroS.len {w : World} {base : Nat} {A : Option Addr} {n c : Nat} {ss : List ByteArray} (h : GroS w base (.slice A n c) ss) : ss.length = n := by
  obtain ⟨A', cap, hv, _⟩ := rowv_form h
  injection hv with _ hv2 _; exact hv2.symm
end Go.Proofs.Ytamfapmkdojhcaa

/- The model's own copy of a flash, and what it does to one: l03Own, l03Program, l03Erase, l03Guard. -/
namespace Go.Proofs.Ytamfapmkdojhcaa
open Go.RowKit

theorem ext_getD {α : Type} (d : α) {l m : List α} (hl : l.length = m.length) (h : ∀ i, i < l.length → l.getD i d = m.getD i d) : l = m := by
  apply List.ext_getElem hl
  intro i h1 h2
  have := h i h1
  rw [List.getD_eq_getElem?_getD, List.getD_eq_getElem?_getD, List.getElem?_eq_getElem h1, List.getElem?_eq_getElem h2] at this
  exact this
/-- The cells from a on and below b are 255. -/
def fillR (zs : List Int) (a b : Nat) : List Int := (List.range zs.length).map fun i => if a ≤ i ∧ i < b then 255 else zs.getD i 0
theorem fillR_len (zs : List Int) (a b : Nat) : (fillR zs a b).length = zs.length := by simp [fillR]
theorem fillR_at (zs : List Int) (a b i : Nat) (h : i < zs.length) : (fillR zs a b).getD i 0 = if a ≤ i ∧ i < b then 255 else zs.getD i 0 := by
  unfold fillR
  rw [List.getD_eq_getElem?_getD, List.getElem?_map, List.getElem?_range h]
  rfl
theorem fillR_none (zs : List Int) (a : Nat) : fillR zs a a = zs := by
  apply ext_getD 0 (fillR_len _ _ _)
  intro i hi
  rw [fillR_len] at hi
  rw [fillR_at _ _ _ _ hi, if_neg (by omega)]
theorem fillR_next (zs : List Int) (a b : Nat) (hab : a ≤ b) (hb : b < zs.length) : (fillR zs a b).set b 255 = fillR zs a (b + 1) := by
  apply ext_getD 0 (by simp [fillR_len])
  intro i hi
  have hi' : i < zs.length := by simpa [fillR_len] using hi
  rw [fillR_at _ _ _ _ hi']
  by_cases e : i = b
  · subst e
    rw [List.getD_eq_getElem?_getD, List.getElem?_set_self (by rw [fillR_len]; exact hb), if_pos ⟨hab, by omega⟩]
    rfl
  · rw [List.getD_eq_getElem?_getD, List.getElem?_set_ne (fun q => e q.symm), ← List.getD_eq_getElem?_getD, fillR_at _ _ _ _ hi']
    by_cases q : a ≤ i ∧ i < b
    · rw [if_pos q, if_pos (by omega)]
    · rw [if_neg q, if_neg (by omega)]
def progL (zs : List Int) (gs : List Bool) (k v : Nat) : List Int := if gs.getD (k / 16) false then zs else zs.set k (((zs.getD k 0).toNat &&& v : Nat) : Int)
def eraseL (zs : List Int) (gs : List Bool) (b : Nat) : List Int := if gs.getD b false then zs else fillR zs (b * 16) (b * 16 + 16)
theorem progL_len (zs : List Int) (gs : List Bool) (k v : Nat) : (progL zs gs k v).length = zs.length := by unfold progL; split <;> simp
theorem eraseL_len (zs : List Int) (gs : List Bool) (b : Nat) : (eraseL zs gs b).length = zs.length := by unfold eraseL; split <;> simp [fillR_len]

theorem at256 {zs : List Int} (h : ∀ z ∈ zs, 0 ≤ z ∧ z ≤ 255) (k : Nat) (hk : k < zs.length) : ∃ z : Nat, zs.getD k 0 = z ∧ z < 256 := by
  have := h (zs.getD k 0) (by rw [List.getD_eq_getElem?_getD, List.getElem?_eq_getElem hk]; exact List.getElem_mem _)
  exact ⟨(zs.getD k 0).toNat, by omega, by omega⟩

theorem Box.far3 {w : World} {b b' : Nat} {t : TypeId} {cs : Array Value} (X : Box w b t cs) (hb : b ≠ b') (u0 u1 u2 : Value) :
    Box (((w.setCell ⟨b', 0, none⟩ u0).setCell ⟨b', 1, none⟩ u1).setCell ⟨b', 2, none⟩ u2) b t cs := ((X.far (p := ⟨b', 0, none⟩) hb u0).far (p := ⟨b', 1, none⟩) hb u1).far (p := ⟨b', 2, none⟩) hb u2
theorem below3 {w0 w : World} {b : Nat} (h : Below w0.heap.size w0 w) (hb : w0.heap.size ≤ b) (u0 u1 u2 : Value) : Below w0.heap.size w0 (((w.setCell ⟨b, 0, none⟩ u0).setCell ⟨b, 1, none⟩ u1).setCell ⟨b, 2, none⟩ u2) :=
  ((h.setCell (p := ⟨b, 0, none⟩) hb u0).setCell (p := ⟨b, 1, none⟩) hb u1).setCell (p := ⟨b, 2, none⟩) hb u2
theorem size3 (w : World) (b : Nat) (u0 u1 u2 : Value) : (((w.setCell ⟨b, 0, none⟩ u0).setCell ⟨b, 1, none⟩ u1).setCell ⟨b, 2, none⟩ u2).heap.size = w.heap.size := by simp [World.setCell]

end Go.Proofs.Ytamfapmkdojhcaa

/- A chip's value: 256 bytes, 16 booleans, a state, one cell each; contracts of chip.protect, chip.program, chip.erase. -/
namespace Go.Proofs.Ytamfapmkdojhcaa
open Go.RowKit

def chipC (zs : List Int) (gs : List Bool) (st : Int) : List Value := zs.map (fun z => Value.int .u8 z) ++ (gs.map Value.bool ++ [Value.int .i64 st])
theorem chipC_len (zs : List Int) (gs : List Bool) (st : Int) : (chipC zs gs st).length = zs.length + (gs.length + 1) := by simp [chipC]
theorem chipC_cell {zs : List Int} {gs : List Bool} {st : Int} (k : Nat) (hk : k < zs.length) : (chipC zs gs st)[k]? = some (.int .u8 (zs.getD k 0)) := by
  unfold chipC
  rw [List.getElem?_append_left (by simpa using hk), List.getElem?_map, List.getD_eq_getElem?_getD, List.getElem?_eq_getElem hk]
  rfl
theorem chipC_guard {zs : List Int} {gs : List Bool} {st : Int} (hz : zs.length = 256) (k : Nat) (hk : k < gs.length) : (chipC zs gs st)[256 + k]? = some (.bool (gs.getD k false)) := by
  unfold chipC
  rw [List.getElem?_append_right (by simp [hz]), List.length_map, hz, Nat.add_sub_cancel_left, List.getElem?_append_left (by simpa using hk), List.getElem?_map, List.getD_eq_getElem?_getD, List.getElem?_eq_getElem hk]
  rfl
theorem chipC_state {zs : List Int} {gs : List Bool} {st : Int} (hz : zs.length = 256) (hg : gs.length = 16) : (chipC zs gs st)[272]? = some (.int .i64 st) := by
  unfold chipC
  rw [List.getElem?_append_right (by simp [hz]), List.length_map, hz, List.getElem?_append_right (by simp [hg]), List.length_map, hg]
  rfl
theorem chipC_setCell {zs : List Int} {gs : List Bool} {st : Int} (k : Nat) (x : Int) (hk : k < zs.length) : (chipC zs gs st).set k (.int .u8 x) = chipC (zs.set k x) gs st := by
  unfold chipC
  rw [List.set_append_left _ _ (by simpa using hk), List.map_set]
theorem chipC_setGuard {zs : List Int} {gs : List Bool} {st : Int} (hz : zs.length = 256) (k : Nat) (x : Bool) (hk : k < gs.length) : (chipC zs gs st).set (256 + k) (.bool x) = chipC zs (gs.set k x) st := by
  unfold chipC
  rw [List.set_append_right _ _ (by simp [hz]), List.length_map, hz, Nat.add_sub_cancel_left, List.set_append_left _ _ (by simpa using hk), List.map_set]
theorem chipC_setState {zs : List Int} {gs : List Bool} {st : Int} (hz : zs.length = 256) (hg : gs.length = 16) (x : Int) : (chipC zs gs st).set 272 (.int .i64 x) = chipC zs gs x := by
  unfold chipC
  rw [List.set_append_right _ _ (by simp [hz]), List.length_map, hz, List.set_append_right _ _ (by simp [hg]), List.length_map, hg]
  rfl
theorem chipC_one (zs : List Int) (gs : List Bool) (st : Int) : ∀ v ∈ chipC zs gs st, v.oneCell' = true := by
  intro v hv
  unfold chipC at hv
  simp only [List.mem_append, List.mem_map, List.mem_singleton] at hv
  rcases hv with ⟨z, _, rfl⟩ | ⟨z, _, rfl⟩ | rfl <;> rfl

theorem setCells_far {w : World} {b b' : Nat} {t : TypeId} {cs : Array Value} (h : Box w b t cs) (hb : b ≠ b') : ∀ (o : Nat) (vs : List Value), Box (w.setCells b' o vs) b t cs := by
  intro o vs
  induction vs generalizing w o with
  | nil => exact h
  | cons v vs ih => exact ih (h.far (p := ⟨b', o, none⟩) hb v) (o + 1)
theorem setCells_size (w : World) (b : Nat) : ∀ (o : Nat) (vs : List Value), (w.setCells b o vs).heap.size = w.heap.size := by
  intro o vs
  induction vs generalizing w o with
  | nil => rfl
  | cons v vs ih => show ((w.setCell ⟨b, o, none⟩ v).setCells b (o + 1) vs).heap.size = _; rw [ih]; simp [World.setCell]
theorem setCells_list {w : World} {b : Nat} {t : TypeId} : ∀ (vs pre : List Value) (l : List Value), Box w b t (pre ++ l).toArray → l.length = vs.length → Box (w.setCells b pre.length vs) b t (pre ++ vs).toArray := by
  intro vs
  induction vs generalizing w with
  | nil => intro pre l h hl; rw [List.length_eq_zero_iff.1 hl] at h; exact h
  | cons v vs ih =>
    intro pre l h hl
    match l, hl with
    | x :: l, hl =>
      have h2 := h.set pre.length v
      rw [List.setIfInBounds_toArray, show (pre ++ x :: l).set pre.length v = (pre ++ [v]) ++ l from by rw [List.set_append_right _ _ (Nat.le_refl _), Nat.sub_self]; simp] at h2
      have := ih (w := w.setCell ⟨b, pre.length, none⟩ v) (pre ++ [v]) l h2 (by simpa using hl)
      rw [show (pre ++ [v]).length = pre.length + 1 from by simp, show pre ++ [v] ++ vs = pre ++ v :: vs from by simp] at this
      exact this
theorem below_setCellsC {w0 w : World} {b : Nat} (h : Below w0.heap.size w0 w) (hb : w0.heap.size ≤ b) : ∀ (o : Nat) (cs : List Value), Below w0.heap.size w0 (w.setCells b o cs) := by
  intro o cs
  induction cs generalizing w o with
  | nil => exact h
  | cons v vs ih => exact ih (h.setCell (p := ⟨b, o, none⟩) hb v) (o + 1)
theorem results_cellC {P : Program} {fn : Func} {tmps : Array Value} {w : World} {a : Nat} {t : TypeId} {p : Addr} {v : Value} (h : fn.results = #[.cell a t]) (hp : tmps.getD a undef = .pointer (some p)) (hv : (loadVar t p).run P w = .ok v w) : (results fn tmps).run P w = .ok v w := by
  unfold results
  rw [h]
  simp only [List.mapM_toArray, List.mapM_cons, List.mapM_nil, hp]
  simp [asAddr, hv]

def zZ : List Int := List.replicate 256 0
def zG : List Bool := List.replicate 16 false
theorem zZ_len : zZ.length = 256 := List.length_replicate
theorem zG_len : zG.length = 16 := List.length_replicate
def zC : List Value := chipC zZ zG 0
theorem chipC_273 {zs : List Int} {gs : List Bool} (hz : zs.length = 256) (hg : gs.length = 16) (st : Int) : (chipC zs gs st).length = 273 := by rw [chipC_len, hz, hg]
theorem wpList_alloc_big {P : Program} {ops : Array Oper} {rest : List Oper} {op : Oper} {a : Act} {w : World} {Q : Exit → Act → World → Prop} (hgd : op.guard = none) (t : TypeId) (ho : op.op = .alloc t) (C : Array Value)
    (hz : ∃ i : TypeInfo, P.info? t = some i ∧ i.zero = some (.agg C)) (h : wpList P ops Q rest (a.put op.dst (.pointer (some ⟨w.heap.size, 0, none⟩))) (w.alloc (.cells C t))) : wpList P ops Q (op :: rest) a w :=
  wpList_plain hgd fun _ hK => by
    obtain ⟨i, hi, hz⟩ := hz
    have hr : (Instr.alloc t true (.tuple #[])).run P w = .ok (.pointer (some ⟨w.heap.size, 0, none⟩)) (w.alloc (.cells C t)) := by
      simp [Instr.alloc, zeroValue, typeInfo, hi, hz, newVar, newRow, newObj, Value.cells]
      rfl
    unfold Oper.wp execOp
    simp only [ho, Sem.run_bind, Sem.run_pure, Result.andThen_ok, hr]
    exact hK _ _ h
theorem wpList_alloc_at {P : Program} {ops : Array Oper} {rest : List Oper} {op : Oper} {a : Act} {w : World} {Q : Exit → Act → World → Prop} (hgd : op.guard = none) (t : TypeId) (ho : op.op = .alloc t) (C : Array Value)
    (hz : ∃ i : TypeInfo, P.info? t = some i ∧ i.zero = some (.agg C)) (b : Nat) (hb : w.heap.size = b) (h : wpList P ops Q rest (a.put op.dst (.pointer (some ⟨b, 0, none⟩))) (w.alloc (.cells C t))) : wpList P ops Q (op :: rest) a w :=
  wpList_alloc_big hgd t ho C hz (by rw [hb]; exact h)
end Go.Proofs.Ytamfapmkdojhcaa

/- Contracts of chip.protect, chip.program, chip.erase. -/
namespace Go.Proofs.Ytamfapmkdojhcaa
open Go.RowKit

/-- The call hands back this chip. -/
def GivesChip (zs : List Int) (gs : List Bool) (st : Int) (w : World) (e : Ending) (w' : World) : Prop := e = .returned (.agg (chipC zs gs st).toArray) ∧ Below w.heap.size w w'

end Go.Proofs.Ytamfapmkdojhcaa

/- The contract of chipOf: a flash as a chip. -/
namespace Go.Proofs.Ytamfapmkdojhcaa
open Go.RowKit

/-- The first j of zs, then zeros. -/
def takeZ (zs : List Int) (j : Nat) : List Int := (List.range 256).map fun i => if i < j then zs.getD i 0 else 0
theorem takeZ_len (zs : List Int) (j : Nat) : (takeZ zs j).length = 256 := by simp [takeZ]
theorem takeZ_at (zs : List Int) (j i : Nat) (h : i < 256) : (takeZ zs j).getD i 0 = if i < j then zs.getD i 0 else 0 := by
  unfold takeZ
  rw [List.getD_eq_getElem?_getD, List.getElem?_map, List.getElem?_range h]
  rfl
theorem takeZ_zero (zs : List Int) : takeZ zs 0 = zZ := by
  apply ext_getD 0 (by rw [takeZ_len, zZ_len])
  intro i hi
  rw [takeZ_len] at hi
  rw [takeZ_at _ _ _ hi, if_neg (by omega)]
  unfold zZ
  rw [List.getD_eq_getElem?_getD, List.getElem?_replicate, if_pos hi]
  rfl
theorem takeZ_all (zs : List Int) (h : zs.length = 256) : takeZ zs 256 = zs := by
  apply ext_getD 0 (by rw [takeZ_len, h])
  intro i hi
  rw [takeZ_len] at hi
  rw [takeZ_at _ _ _ hi, if_pos hi]
theorem takeZ_next (zs : List Int) (j : Nat) (hj : j < 256) : (takeZ zs j).set j (zs.getD j 0) = takeZ zs (j + 1) := by
  apply ext_getD 0 (by simp [takeZ_len])
  intro i hi
  have hi' : i < 256 := by simpa [takeZ_len] using hi
  rw [takeZ_at _ _ _ hi']
  by_cases e : i = j
  · subst e
    rw [List.getD_eq_getElem?_getD, List.getElem?_set_self (by rw [takeZ_len]; exact hj), if_pos (by omega)]
    rfl
  · rw [List.getD_eq_getElem?_getD, List.getElem?_set_ne (fun q => e q.symm), ← List.getD_eq_getElem?_getD, takeZ_at _ _ _ hi']
    by_cases q : i < j
    · rw [if_pos q, if_pos (by omega)]
    · rw [if_neg q, if_neg (by omega)]
theorem splice_guard (zs : List Int) (gs gs' : List Bool) (st : Int) (hz : zs.length = 256) (hg : gs.length = gs'.length) : splice (chipC zs gs st) 256 (cellsB gs') = chipC zs gs' st := by
  unfold splice chipC
  rw [List.take_append_of_le_length (by simp [hz]), List.take_of_length_le (by simp [hz]), List.drop_append, List.drop_of_length_le (by simp [hz]), cellsB_len, List.nil_append, List.length_map, hz, show 256 + gs'.length - 256 = gs'.length by omega, List.drop_append, List.drop_of_length_le (by simp [hg]), List.nil_append, List.length_map, hg, Nat.sub_self]
  rfl
set_option maxRecDepth 100000 in
theorem szBool : (Try.prog.info? 4).map (·.size) = some 1 := by kernel_rfl
theorem zC_len : zC.length = 273 := chipC_273 zZ_len zG_len 0
theorem zC_set (st : Int) : zC.set 272 (.int .i64 st) = chipC zZ zG st := chipC_setState zZ_len zG_len st
theorem wpList_build_chip {P : Program} {ops : Array Oper} {rest : List Oper} {op : Oper} {a : Act} {w : World} {Q : Exit → Act → World → Prop} {t : TypeId} (hgd : op.guard = none) (x : Operand) (v : Value) (cs : List Value) (ho : op.op = .build t #[(2, x)]) (hx : a.eval x = v)
    (hr : (Instr.build t #[(2, v)]).run P w = .ok (.agg cs.toArray) w)
    (h : wpList P ops Q rest (a.put op.dst (.agg cs.toArray)) w) : wpList P ops Q (op :: rest) a w :=
  wpList_plain hgd fun _ hK => by
    unfold Oper.wp execOp
    simp only [ho, Sem.run_bind, Sem.run_pure, Result.andThen_ok, List.map_toArray, List.map_cons, List.map_nil, hx, hr]
    exact hK _ _ h

end Go.Proofs.Ytamfapmkdojhcaa

/- Leaves of Go values as data: what a value says, rows of the call's own, what a call that writes into some of them keeps. Nothing here is of one type of the program. -/
namespace Go.Proofs.Ytamfapmkdojhcaa
open Go.RowKit

/-- What a leaf of a struct that is a slice says. -/
inductive Lf where
  | I (zs : List Int)
  | B (gs : List Bool)
  | S (ss : List ByteArray)

def Lf.len : Lf → Nat
  | .I zs => zs.length
  | .B gs => gs.length
  | .S ss => ss.length
/-- The size that the laws count. -/
def Lf.sz : Lf → Nat
  | .I zs => zs.length
  | .B gs => gs.length
  | .S ss => ss.length + lenS ss
def Lf.marks (k : Nat) : Lf → Lf
  | .I zs => .I (marksI k zs.length)
  | .B gs => .B (marksB k gs.length)
  | .S ss => .S (marksS k ss.length)
theorem Lf.marks_len (k : Nat) (d : Lf) : (d.marks k).len = d.len := by cases d <;> simp [Lf.marks, Lf.len, marksI, marksB, marksS]
theorem Lf.len_le (d : Lf) : d.len ≤ d.sz := by cases d <;> simp [Lf.len, Lf.sz]
/-- Its strings are no longer than strings can be, its length no greater than lengths. -/
def Lf.fit : Lf → Prop
  | .I zs => zs.length ≤ maxLen
  | .B gs => gs.length ≤ maxLen
  | .S ss => ss.length ≤ maxLen ∧ FitS ss

def RepL (w : World) (v : Value) : Lf → Prop
  | .I zs => ∃ A c, v = .slice A zs.length c ∧ IntL w A zs
  | .B gs => ∃ A c, v = .slice A gs.length c ∧ BoolL w A gs
  | .S ss => ∃ A c, v = .slice A ss.length c ∧ StrL w A ss
def OwnL (w : World) (lo hi : Nat) (v : Value) : Lf → Prop
  | .I zs => ∃ A c, v = .slice A zs.length c ∧ OwnI w lo hi A zs
  | .B gs => ∃ A c, v = .slice A gs.length c ∧ OwnB w lo hi A gs
  | .S ss => ∃ A c, v = .slice A ss.length c ∧ OwnS w lo hi A ss
/-- A slice's capacity is no less than its length. -/
def CapL (v : Value) : Prop := ∀ A n c, v = .slice A n c → n ≤ c
/-- The block of a slice that holds something. -/
def blkL : Value → Option Nat
  | .slice (some a) n _ => if n = 0 then none else some a.block
  | _ => none
theorem blkL_some {b off : Nat} {n c : Nat} (h : 0 < n) : blkL (.slice (some ⟨b, off, none⟩) n c) = some b := by simp [blkL]; omega
theorem blkL_zero (A : Option Addr) (c : Nat) : blkL (.slice A 0 c) = none := by cases A <;> simp [blkL]

def AllA (P : Value → Lf → Prop) : List Value → List Lf → Prop
  | [], [] => True
  | v :: vs, d :: ds => P v d ∧ AllA P vs ds
  | _, _ => False
def RepA (w : World) (vs : List Value) (ds : List Lf) : Prop := AllA (RepL w) vs ds
def OwnA (w : World) (lo hi : Nat) (vs : List Value) (ds : List Lf) : Prop := AllA (OwnL w lo hi) vs ds ∧ (vs.filterMap blkL).Nodup

theorem AllA.imp {P Q : Value → Lf → Prop} : ∀ {vs : List Value} {ds : List Lf}, (∀ v d, v ∈ vs → P v d → Q v d) → AllA P vs ds → AllA Q vs ds
  | [], [], _, _ => trivial
  | v :: vs, d :: ds, h, ⟨h1, h2⟩ => ⟨h v d (by simp) h1, AllA.imp (fun v' d' hm => h v' d' (by simp [hm])) h2⟩
  | [], _ :: _, _, h => h.elim
  | _ :: _, [], _, h => h.elim

theorem RepL.below {w w' : World} {v : Value} : ∀ {d : Lf}, RepL w v d → Below w.heap.size w w' → RepL w' v d
  | .I _, ⟨A, c, e, h⟩, hb => ⟨A, c, e, h.below hb⟩
  | .B _, ⟨A, c, e, h⟩, hb => ⟨A, c, e, h.below hb⟩
  | .S _, ⟨A, c, e, h⟩, hb => ⟨A, c, e, h.below hb⟩
theorem RepA.below {w w' : World} {vs : List Value} {ds : List Lf} (h : RepA w vs ds) (hb : Below w.heap.size w w') : RepA w' vs ds := AllA.imp (fun _ _ _ h => h.below hb) h
theorem OwnL.below {w w' : World} {lo hi : Nat} {v : Value} : ∀ {d : Lf}, OwnL w lo hi v d → Below w.heap.size w w' → OwnL w' lo hi v d
  | .I _, ⟨A, c, e, h⟩, hb => ⟨A, c, e, h.below hb⟩
  | .B _, ⟨A, c, e, h⟩, hb => ⟨A, c, e, h.below hb⟩
  | .S _, ⟨A, c, e, h⟩, hb => ⟨A, c, e, h.below hb⟩
theorem OwnL.btw {w w' : World} {lo hi l r : Nat} {v : Value} : ∀ {d : Lf}, OwnL w lo hi v d → Btw l r w w' → (hi ≤ l ∨ r ≤ lo) → OwnL w' lo hi v d
  | .I _, ⟨A, c, e, h⟩, hb, ho => ⟨A, c, e, h.btw hb ho⟩
  | .B _, ⟨A, c, e, h⟩, hb, ho => ⟨A, c, e, h.btw hb ho⟩
  | .S _, ⟨A, c, e, h⟩, hb, ho => ⟨A, c, e, h.btw hb ho⟩
theorem OwnL.wide {w : World} {lo hi lo' hi' : Nat} {v : Value} : ∀ {d : Lf}, OwnL w lo hi v d → lo' ≤ lo → hi ≤ hi' → OwnL w lo' hi' v d
  | .I _, ⟨A, c, e, h⟩, h1, h2 => ⟨A, c, e, h.wideB h1 h2⟩
  | .B _, ⟨A, c, e, h⟩, h1, h2 => ⟨A, c, e, h.wide h1 h2⟩
  | .S _, ⟨A, c, e, h⟩, h1, h2 => ⟨A, c, e, h.wide h1 h2⟩
theorem OwnL.reads {w : World} {lo hi : Nat} {v : Value} : ∀ {d : Lf}, OwnL w lo hi v d → RepL w v d
  | .I _, ⟨A, c, e, h⟩ => ⟨A, c, e, h.reads⟩
  | .B _, ⟨A, c, e, h⟩ => ⟨A, c, e, h.reads⟩
  | .S _, ⟨A, c, e, h⟩ => ⟨A, c, e, h.reads⟩
theorem OwnL.form {w : World} {lo hi : Nat} {v : Value} : ∀ {d : Lf}, OwnL w lo hi v d → ∃ A c, v = .slice A d.len c
  | .I _, ⟨A, c, e, _⟩ => ⟨A, c, e⟩
  | .B _, ⟨A, c, e, _⟩ => ⟨A, c, e⟩
  | .S _, ⟨A, c, e, _⟩ => ⟨A, c, e⟩
theorem RepL.form {w : World} {v : Value} : ∀ {d : Lf}, RepL w v d → ∃ A c, v = .slice A d.len c
  | .I _, ⟨A, c, e, _⟩ => ⟨A, c, e⟩
  | .B _, ⟨A, c, e, _⟩ => ⟨A, c, e⟩
  | .S _, ⟨A, c, e, _⟩ => ⟨A, c, e⟩
theorem OwnA.below {w w' : World} {lo hi : Nat} {vs : List Value} {ds : List Lf} (h : OwnA w lo hi vs ds) (hb : Below w.heap.size w w') : OwnA w' lo hi vs ds := ⟨AllA.imp (fun _ _ _ h => h.below hb) h.1, h.2⟩
theorem OwnA.btw {w w' : World} {lo hi l r : Nat} {vs : List Value} {ds : List Lf} (h : OwnA w lo hi vs ds) (hb : Btw l r w w') (ho : hi ≤ l ∨ r ≤ lo) : OwnA w' lo hi vs ds := ⟨AllA.imp (fun _ _ _ h => h.btw hb ho) h.1, h.2⟩
theorem OwnA.wide {w : World} {lo hi lo' hi' : Nat} {vs : List Value} {ds : List Lf} (h : OwnA w lo hi vs ds) (h1 : lo' ≤ lo) (h2 : hi ≤ hi') : OwnA w lo' hi' vs ds := ⟨AllA.imp (fun _ _ _ h => h.wide h1 h2) h.1, h.2⟩
theorem OwnA.reads {w : World} {lo hi : Nat} {vs : List Value} {ds : List Lf} (h : OwnA w lo hi vs ds) : RepA w vs ds := AllA.imp (fun _ _ _ h => h.reads) h.1

/-- A leaf's own block alone has turned. -/
structure Touch (vs : List Value) (w w' : World) : Prop where
  os : w'.os = w.os
  tape : w'.tape = w.tape
  output : w'.output = w.output
  size : w.heap.size ≤ w'.heap.size
  block : ∀ k, k < w.heap.size → k ∉ vs.filterMap blkL → w'.heap[k]? = w.heap[k]?
theorem Touch.refl (vs : List Value) (w : World) : Touch vs w w := ⟨rfl, rfl, rfl, Nat.le_refl _, fun _ _ _ => rfl⟩
theorem Touch.trans {vs us : List Value} {a b c : World} (h : Touch vs a b) (k : Touch us b c) : Touch (vs ++ us) a c :=
  ⟨k.os.trans h.os, k.tape.trans h.tape, k.output.trans h.output, Nat.le_trans h.size k.size, fun i hi hn => by
    rw [List.filterMap_append, List.mem_append] at hn
    exact (k.block i (Nat.lt_of_lt_of_le hi h.size) (fun h => hn (.inr h))).trans (h.block i hi (fun h => hn (.inl h)))⟩
theorem Touch.of_below {w w' : World} (h : Below w.heap.size w w') (vs : List Value) : Touch vs w w' := ⟨h.os, h.tape, h.output, h.size, fun k hk _ => h.block k hk⟩
theorem Touch.more {vs us : List Value} {w w' : World} (h : Touch vs w w') (hs : ∀ k, k ∈ vs.filterMap blkL → k ∈ us.filterMap blkL) : Touch us w w' := ⟨h.os, h.tape, h.output, h.size, fun k hk hn => h.block k hk (fun h => hn (hs k h))⟩
theorem OwnL.blk {w : World} {lo hi : Nat} {v : Value} {b : Nat} (hb : blkL v = some b) : ∀ {d : Lf}, OwnL w lo hi v d → lo ≤ b ∧ b < hi
  | .I zs, ⟨A, c, e, h⟩ => by
    subst e
    rcases h with rfl | ⟨g, m, f, rfl, h1, h2, _⟩
    · rw [List.length_nil, blkL_zero] at hb; cases hb
    · rcases Nat.eq_zero_or_pos zs.length with hz | hz
      · rw [hz, blkL_zero] at hb; cases hb
      · rw [blkL_some hz] at hb; injection hb with hb; subst hb; exact ⟨h1, h2⟩
  | .B zs, ⟨A, c, e, h⟩ => by
    subst e
    rcases h with rfl | ⟨g, m, f, rfl, h1, h2, _⟩
    · rw [List.length_nil, blkL_zero] at hb; cases hb
    · rcases Nat.eq_zero_or_pos zs.length with hz | hz
      · rw [hz, blkL_zero] at hb; cases hb
      · rw [blkL_some hz] at hb; injection hb with hb; subst hb; exact ⟨h1, h2⟩
  | .S zs, ⟨A, c, e, h⟩ => by
    subst e
    rcases h with rfl | ⟨g, m, f, rfl, h1, h2, _⟩
    · rw [List.length_nil, blkL_zero] at hb; cases hb
    · rcases Nat.eq_zero_or_pos zs.length with hz | hz
      · rw [hz, blkL_zero] at hb; cases hb
      · rw [blkL_some hz] at hb; injection hb with hb; subst hb; exact ⟨h1, h2⟩
theorem AllA.mem {P : Value → Lf → Prop} : ∀ {vs : List Value} {ds : List Lf} {v : Value}, AllA P vs ds → v ∈ vs → ∃ d, P v d
  | v :: vs, d :: ds, u, ⟨h1, h2⟩, hm => by
    rcases List.mem_cons.1 hm with rfl | hm
    · exact ⟨d, h1⟩
    · exact AllA.mem h2 hm
  | [], [], _, _, hm => by cases hm
theorem OwnA.blk {w : World} {lo hi : Nat} {vs : List Value} {ds : List Lf} (h : OwnA w lo hi vs ds) {b : Nat} (hb : b ∈ vs.filterMap blkL) : lo ≤ b ∧ b < hi := by
  obtain ⟨v, hv, he⟩ := List.mem_filterMap.1 hb
  obtain ⟨d, hd⟩ := h.1.mem hv
  exact hd.blk he
theorem Touch.btw {w w' : World} {lo hi : Nat} {vs : List Value} {ds : List Lf} (h : OwnA w lo hi vs ds) (t : Touch vs w w') : Btw lo hi w w' :=
  ⟨t.os, t.tape, t.output, t.size, fun k hk ho => t.block k hk (fun hm => by have := h.blk hm; omega)⟩
/-- An owned leaf whose block is not among those that turned is as it was. -/
theorem OwnL.away {w w' : World} {lo hi : Nat} {v : Value} {us : List Value} (t : Touch us w w') (hn : ∀ b, blkL v = some b → b ∉ us.filterMap blkL) : ∀ {d : Lf}, OwnL w lo hi v d → OwnL w' lo hi v d
  | .I zs, ⟨A, c, e, h⟩ => by
    refine ⟨A, c, e, ?_⟩
    rcases h with h | ⟨g, m, f, rfl, h1, h2, hm, hr, hf⟩
    · exact .inl h
    · by_cases hz : zs = []
      · exact .inl hz
      · exact .inr ⟨g, m, f, rfl, h1, h2, hm, hr.of_block (t.block g hr.lt (hn g (by rw [e]; exact blkL_some (List.length_pos_iff.2 hz)))), hf⟩
  | .B zs, ⟨A, c, e, h⟩ => by
    refine ⟨A, c, e, ?_⟩
    rcases h with h | ⟨g, m, f, rfl, h1, h2, hm, hr, hf⟩
    · exact .inl h
    · by_cases hz : zs = []
      · exact .inl hz
      · exact .inr ⟨g, m, f, rfl, h1, h2, hm, hr.of_block (t.block g hr.lt (hn g (by rw [e]; exact blkL_some (List.length_pos_iff.2 hz)))), hf⟩
  | .S zs, ⟨A, c, e, h⟩ => by
    refine ⟨A, c, e, ?_⟩
    rcases h with h | ⟨g, m, f, rfl, h1, h2, hm, hr, hf⟩
    · exact .inl h
    · by_cases hz : zs = []
      · exact .inl hz
      · exact .inr ⟨g, m, f, rfl, h1, h2, hm, hr.of_block (t.block g hr.lt (hn g (by rw [e]; exact blkL_some (List.length_pos_iff.2 hz)))), hf⟩
theorem OwnA.away {w w' : World} {lo hi : Nat} {vs us : List Value} {ds : List Lf} (t : Touch us w w') (hn : ∀ b, b ∈ vs.filterMap blkL → b ∉ us.filterMap blkL) (h : OwnA w lo hi vs ds) : OwnA w' lo hi vs ds :=
  ⟨AllA.imp (fun v _ hv h => h.away t (fun b hb => hn b (List.mem_filterMap.2 ⟨v, hv, hb⟩))) h.1, h.2⟩
theorem OwnA.cons {w : World} {lo hi : Nat} {v : Value} {vs : List Value} {d : Lf} {ds : List Lf} (h1 : OwnL w lo hi v d) (h2 : OwnA w lo hi vs ds) (hn : ∀ b, blkL v = some b → b ∉ vs.filterMap blkL) : OwnA w lo hi (v :: vs) (d :: ds) := by
  refine ⟨⟨h1, h2.1⟩, ?_⟩
  rw [List.filterMap_cons]
  cases hb : blkL v with
  | none => exact h2.2
  | some b => exact List.nodup_cons.2 ⟨hn b hb, h2.2⟩
theorem OwnA.uncons {w : World} {lo hi : Nat} {v : Value} {vs : List Value} {d : Lf} {ds : List Lf} (h : OwnA w lo hi (v :: vs) (d :: ds)) : OwnL w lo hi v d ∧ OwnA w lo hi vs ds ∧ ∀ b, blkL v = some b → b ∉ vs.filterMap blkL := by
  obtain ⟨⟨h1, h2⟩, h3⟩ := h
  rw [List.filterMap_cons] at h3
  cases hb : blkL v with
  | none => rw [hb] at h3; exact ⟨h1, ⟨h2, h3⟩, fun b hb' => by cases hb'⟩
  | some b => rw [hb] at h3; exact ⟨h1, ⟨h2, (List.nodup_cons.1 h3).2⟩, fun b' hb' => by injection hb' with e; subst e; exact (List.nodup_cons.1 h3).1⟩
theorem OwnA.nil (w : World) (lo hi : Nat) : OwnA w lo hi [] [] := ⟨trivial, List.nodup_nil⟩
/-- Rows of two ranges are of two blocks. -/
theorem OwnA.append {w : World} {lo hi lo' hi' L R : Nat} {vs us : List Value} {ds es : List Lf} (h : OwnA w lo hi vs ds) (k : OwnA w lo' hi' us es) (ho : hi ≤ lo' ∨ hi' ≤ lo) (h1 : L ≤ lo) (h2 : L ≤ lo') (h3 : hi ≤ R) (h4 : hi' ≤ R) : OwnA w L R (vs ++ us) (ds ++ es) := by
  have aux : ∀ {vs : List Value} {ds : List Lf}, AllA (OwnL w L R) vs ds → AllA (OwnL w L R) us es → AllA (OwnL w L R) (vs ++ us) (ds ++ es) := by
    intro vs
    induction vs with
    | nil => intro ds a b; cases ds with
      | nil => exact b
      | cons d ds => exact a.elim
    | cons v vs ih => intro ds a b; cases ds with
      | nil => exact a.elim
      | cons d ds => exact ⟨a.1, ih a.2 b⟩
  refine ⟨aux (h.wide h1 h3).1 (k.wide h2 h4).1, ?_⟩
  rw [List.filterMap_append, List.nodup_append]
  refine ⟨h.2, k.2, fun a ha b hb e => ?_⟩
  subst e
  have := h.blk ha
  have := k.blk hb
  omega
end Go.Proofs.Ytamfapmkdojhcaa

/- The laws' own functions over []int, []bool, []string, on leaves. -/
namespace Go.Proofs.Ytamfapmkdojhcaa
open Go.RowKit

/-- The call hands back a slice of its own. -/
def GivesL (n : Nat) (d : Lf) (w : World) (e : Ending) (w' : World) : Prop := ∃ A c, e = .returned (.slice A n c) ∧ Hid (OwnL w' w.heap.size w'.heap.size (.slice A n c) d) ∧ Hid (CapL (.slice A n c)) ∧ Below w.heap.size w w'
/-- The call has marked a slice. -/
def MarkedL (lo hi : Nat) (v : Value) (d : Lf) (k : Nat) (w : World) (e : Ending) (w' : World) : Prop := e = .returned (.int .i64 ((k + d.len : Nat) : Int)) ∧ Hid (OwnL w' lo hi v (d.marks k)) ∧ Touch [v] w w'
theorem capL {A : Option Addr} {n c : Nat} (h : n ≤ c) : CapL (.slice A n c) := fun A' n' c' e => by injection e with _ e2 e3; omega
theorem touch_none {w w' : World} {A : Option Addr} {c : Nat} (h : Btw 0 0 w w') : Touch [.slice A 0 c] w w' := ⟨h.os, h.tape, h.output, h.size, fun k hk _ => h.block k hk (.inr (Nat.zero_le _))⟩
theorem touch_blk {w w' : World} {g n c : Nat} (hn : 0 < n) (h : Btw g (g + 1) w w') : Touch [.slice (some ⟨g, 0, none⟩) n c] w w' := ⟨h.os, h.tape, h.output, h.size, fun k hk hm => h.block k hk (by
  have : k ≠ g := by rintro rfl; exact hm (by simp [blkL_some hn])
  omega)⟩

set_option maxRecDepth 100000 in
theorem szLI (v : Value) (zs : List Int) (left : Int) (w : World) (h : RepL w v (.I zs)) (hf : (Lf.I zs).fit) (h0 : 0 ≤ left) (h1 : left ≤ 1048576) :
    Calls Try.prog 46 #[v, .int .i64 left] w (Left left (Lf.sz (.I zs)) w) := by
  obtain ⟨A, c, rfl, hr⟩ := h
  exact szIntS A zs.length c left w hf h0 h1
set_option maxRecDepth 100000 in
theorem toLI (v : Value) (zs : List Int) (w : World) (h : RepL w v (.I zs)) (hn : zs.length ≤ 1048576) :
    Calls Try.prog 48 #[v] w (GivesL zs.length (.I zs) w) := by
  obtain ⟨A, c, rfl, hr⟩ := h
  refine (toIntSc A zs.length c zs w rfl hn hr).mono ?_
  rintro e w' ⟨A1, n1, c1, rfl, L1, S1, K1, hb1⟩
  have := L1.out
  subst this
  exact ⟨_, _, rfl, Lib.hid ⟨A1, c1, rfl, S1.out⟩, Lib.hid (capL K1), hb1⟩
set_option maxRecDepth 100000 in
theorem eqLI (v v' : Value) (zs : List Int) (w : World) (h : RepL w v (.I zs)) (h' : RepL w v' (.I zs)) (hn : zs.length ≤ maxLen) :
    Calls Try.prog 40 #[v, v'] w fun e w' => e = .returned (.bool true) ∧ Below w.heap.size w w' := by
  obtain ⟨A, c, rfl, hr⟩ := h
  obtain ⟨A', c', rfl, hr'⟩ := h'
  exact eqIntSame A A' zs.length zs.length c c' zs w rfl rfl hn hr hr'
set_option maxRecDepth 100000 in
theorem markLI (v : Value) (zs : List Int) (k lo hi : Nat) (w : World) (h : OwnL w lo hi v (.I zs)) (hk : 1 ≤ k) (hn : zs.length ≤ 4294967296) (hk2 : k ≤ 549755813888) :
    Calls Try.prog 42 #[v, .int .i64 (k : Int)] w (MarkedL lo hi v (.I zs) k w) := by
  obtain ⟨A, c, rfl, ho⟩ := h
  rcases Nat.eq_zero_or_pos zs.length with hz | hz
  · have hz' : zs = [] := List.eq_nil_of_length_eq_zero hz
    subst hz'
    refine (markIntSs A 0 c k 0 0 [] w rfl hk (by omega) (by omega) (.inl rfl)).mono ?_
    rintro e w' ⟨rfl, S, hb⟩
    exact ⟨rfl, Lib.hid ⟨A, c, rfl, .inl rfl⟩, touch_none hb⟩
  · rcases ho with rfl | ⟨b, m, f, rfl, h1, h2, hm, hr, hf⟩
    · simp at hz
    · refine (markIntSs _ zs.length c k b (b + 1) zs w rfl hk (by omega) (by omega) (.inr ⟨b, m, f, rfl, Nat.le_refl _, Nat.lt_succ_self _, hm, hr, hf⟩)).mono ?_
      rintro e w' ⟨rfl, S, hb⟩
      exact ⟨rfl, Lib.hid ⟨_, c, by simp [marksI], S.out.wideB h1 h2⟩, touch_blk hz hb⟩
set_option maxRecDepth 100000 in
theorem heldLI (v : Value) (zs : List Int) (k : Nat) (w : World) (h : RepL w v ((Lf.I zs).marks k)) (hk : 1 ≤ k) (hn : zs.length ≤ 4294967296) (hk2 : k ≤ 549755813888) :
    Calls Try.prog 44 #[v, .int .i64 (k : Int)] w fun e w' => e = .returned (.int .i64 ((k + (Lf.I zs).len : Nat) : Int)) ∧ Below w.heap.size w w' := by
  obtain ⟨A, c, rfl, hr⟩ := h
  have hl : (marksI k zs.length).length = zs.length := by simp [marksI]
  rw [hl]
  refine (heldIntS A zs.length c k w hk (by omega) hr).mono ?_
  rintro e w' ⟨rfl, hb⟩
  exact ⟨rfl, hb ▸ Below.refl _ _⟩
set_option maxRecDepth 100000 in
theorem szLB (v : Value) (zs : List Bool) (left : Int) (w : World) (h : RepL w v (.B zs)) (hf : (Lf.B zs).fit) (h0 : 0 ≤ left) (h1 : left ≤ 1048576) :
    Calls Try.prog 47 #[v, .int .i64 left] w (Left left (Lf.sz (.B zs)) w) := by
  obtain ⟨A, c, rfl, hr⟩ := h
  exact szBoolS A zs.length c left w hf h0 h1
set_option maxRecDepth 100000 in
theorem toLB (v : Value) (zs : List Bool) (w : World) (h : RepL w v (.B zs)) (hn : zs.length ≤ 1048576) :
    Calls Try.prog 49 #[v] w (GivesL zs.length (.B zs) w) := by
  obtain ⟨A, c, rfl, hr⟩ := h
  refine (toBoolS A zs.length c zs w rfl hn hr).mono ?_
  rintro e w' ⟨A1, n1, c1, rfl, L1, S1, K1, hb1⟩
  have := L1.out
  subst this
  exact ⟨_, _, rfl, Lib.hid ⟨A1, c1, rfl, S1.out⟩, Lib.hid (capL K1), hb1⟩
set_option maxRecDepth 100000 in
theorem eqLB (v v' : Value) (zs : List Bool) (w : World) (h : RepL w v (.B zs)) (h' : RepL w v' (.B zs)) (hn : zs.length ≤ maxLen) :
    Calls Try.prog 41 #[v, v'] w fun e w' => e = .returned (.bool true) ∧ Below w.heap.size w w' := by
  obtain ⟨A, c, rfl, hr⟩ := h
  obtain ⟨A', c', rfl, hr'⟩ := h'
  exact eqBoolSame A A' zs.length zs.length c c' zs w rfl rfl hn hr hr'
set_option maxRecDepth 100000 in
theorem markLB (v : Value) (zs : List Bool) (k lo hi : Nat) (w : World) (h : OwnL w lo hi v (.B zs)) (hk : 1 ≤ k) (hn : zs.length ≤ 4294967296) (hk2 : k ≤ 549755813888) :
    Calls Try.prog 43 #[v, .int .i64 (k : Int)] w (MarkedL lo hi v (.B zs) k w) := by
  obtain ⟨A, c, rfl, ho⟩ := h
  rcases Nat.eq_zero_or_pos zs.length with hz | hz
  · have hz' : zs = [] := List.eq_nil_of_length_eq_zero hz
    subst hz'
    refine (markBoolS A 0 c k 0 0 [] w rfl hk (by omega) (by omega) (.inl rfl)).mono ?_
    rintro e w' ⟨rfl, S, hb⟩
    exact ⟨rfl, Lib.hid ⟨A, c, rfl, .inl rfl⟩, touch_none hb⟩
  · rcases ho with rfl | ⟨b, m, f, rfl, h1, h2, hm, hr, hf⟩
    · simp at hz
    · refine (markBoolS _ zs.length c k b (b + 1) zs w rfl hk (by omega) (by omega) (.inr ⟨b, m, f, rfl, Nat.le_refl _, Nat.lt_succ_self _, hm, hr, hf⟩)).mono ?_
      rintro e w' ⟨rfl, S, hb⟩
      exact ⟨rfl, Lib.hid ⟨_, c, by simp [marksB], S.out.wide h1 h2⟩, touch_blk hz hb⟩
set_option maxRecDepth 100000 in
theorem heldLB (v : Value) (zs : List Bool) (k : Nat) (w : World) (h : RepL w v ((Lf.B zs).marks k)) (hk : 1 ≤ k) (hn : zs.length ≤ 4294967296) (hk2 : k ≤ 549755813888) :
    Calls Try.prog 45 #[v, .int .i64 (k : Int)] w fun e w' => e = .returned (.int .i64 ((k + (Lf.B zs).len : Nat) : Int)) ∧ Below w.heap.size w w' := by
  obtain ⟨A, c, rfl, hr⟩ := h
  have hl : (marksB k zs.length).length = zs.length := by simp [marksB]
  rw [hl]
  refine (heldBoolS A zs.length c k w hk (by omega) hr).mono ?_
  rintro e w' ⟨rfl, hb⟩
  exact ⟨rfl, hb ▸ Below.refl _ _⟩
end Go.Proofs.Ytamfapmkdojhcaa
