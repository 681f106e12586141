/- Texts of this claim, one behind the other: Mem, EqDisk, Own, ToDisk, Ints, SzDisk, IntsMore, Mark, BoxDisk, Bools, Flash, OkDisk, FlashOk, Digs, Hex, HexRead. -/
import Derived.WalkKit
import Derived.WalkSpells
import Derived.Lib.Hide
import Derived.Below
import Derived.WalkSmall
import Derived.Test.YthobepmlopegbaaRows
import Derived.Deep.QuietTactic
import Derived.BigQuiet
import Derived.StillTailTactics
import Derived.Deep.OwnRows
import Derived.Deep.RegionHeld3
import Derived.Laws.IdiomStrings
import Derived.IntWalk
import Derived.Laws.RangeAny
import Derived.Lib.OthersKept
/- Words for memory: slices of strings, of writes, of integers as lists; what keeps them. Nothing here is of one program. -/
namespace Go.Proofs.Ythobepmlopegbaa
open Go.RowKit

/-- The slice at A holds these strings. -/
def StrL (w : World) (A : Option Addr) (ss : List ByteArray) : Prop :=
  ∀ i, i < ss.length → ∃ b off, A = some ⟨b, off, none⟩ ∧ w.cell? ⟨b, off + i, none⟩ = some (.string (ss.getD i ByteArray.empty))
/-- The slice at A holds these writes (a number and a string each). -/
def WrL (w : World) (A : Option Addr) (ws : List (Int × ByteArray)) : Prop :=
  ∀ i, i < ws.length → ∃ b off, A = some ⟨b, off, none⟩ ∧ w.cell? ⟨b, off + i * 2, none⟩ = some (.int .i64 (ws.getD i (0, ByteArray.empty)).1) ∧
    w.cell? ⟨b, off + i * 2 + 1, none⟩ = some (.string (ws.getD i (0, ByteArray.empty)).2)
/-- The slice at A holds these integers. -/
def IntL (w : World) (A : Option Addr) (zs : List Int) : Prop :=
  ∀ i, i < zs.length → ∃ b off, A = some ⟨b, off, none⟩ ∧ w.cell? ⟨b, off + i, none⟩ = some (.int .i64 (zs.getD i 0))

theorem cell_lt {w : World} {p : Addr} {v : Value} (h : w.cell? p = some v) : p.block < w.heap.size := by
  rcases Nat.lt_or_ge p.block w.heap.size with h1 | h1
  · exact h1
  · unfold World.cell? at h
    rw [Array.getElem?_eq_none h1] at h
    cases h

/-- Every cell of w is in w' as it was, where it lies in a block that keep lets. -/
def Keep (keep : Nat → Prop) (w w' : World) : Prop := ∀ p : Addr, keep p.block → p.block < w.heap.size → w'.cell? p = w.cell? p

theorem Keep.of_below {B : Nat} {w w' : World} (h : Below B w w') : Keep (fun b => b < B) w w' := fun _ hp _ => h.cell hp

theorem StrL.below {w w' : World} {A : Option Addr} {ss : List ByteArray} (h : StrL w A ss) (hb : Below w.heap.size w w') : StrL w' A ss := fun i hi => by
  obtain ⟨b, off, e, hc⟩ := h i hi
  exact ⟨b, off, e, (hb.cell (cell_lt hc)).trans hc⟩
theorem WrL.below {w w' : World} {A : Option Addr} {ws : List (Int × ByteArray)} (h : WrL w A ws) (hb : Below w.heap.size w w') : WrL w' A ws := fun i hi => by
  obtain ⟨b, off, e, hc, hd⟩ := h i hi
  exact ⟨b, off, e, (hb.cell (cell_lt hc)).trans hc, (hb.cell (cell_lt hd)).trans hd⟩
theorem IntL.below {w w' : World} {A : Option Addr} {zs : List Int} (h : IntL w A zs) (hb : Below w.heap.size w w') : IntL w' A zs := fun i hi => by
  obtain ⟨b, off, e, hc⟩ := h i hi
  exact ⟨b, off, e, (hb.cell (cell_lt hc)).trans hc⟩

/-- Below its own size, over two steps. -/
theorem bt {a b c : World} (h : Below a.heap.size a b) (k : Below b.heap.size b c) : Below a.heap.size a c := h.trans (k.mono h.size)

theorem ret_bool {a b : Bool} (h : a = b) : Ending.returned (.bool a) = .returned (.bool b) := by rw [h]
theorem ret_int {a b : Int} (h : a = b) : Ending.returned (.int .i64 a) = .returned (.int .i64 b) := by rw [h]

theorem bytes_beq (a b : ByteArray) : (a.toList == b.toList) = decide (a = b) := by
  rw [ByteArray.toList_eq, ByteArray.toList_eq, Bool.eq_iff_iff]
  simp only [beq_iff_eq, decide_eq_true_eq]
  exact ⟨WideShapes.bytes_inj, fun h => by rw [h]⟩
theorem bytes_bne (a b : ByteArray) : (a.toList != b.toList) = decide (a ≠ b) := by
  rw [bne, bytes_beq]; simp

/-- Two lists, equal so far. -/
theorem take_next {α : Type} {l m : List α} {k : Nat} (d : α) (h : l.take k = m.take k) (hl : k < l.length) (hm : k < m.length) (e : l.getD k d = m.getD k d) : l.take (k + 1) = m.take (k + 1) := by
  rw [List.take_succ_eq_append_getElem hl, List.take_succ_eq_append_getElem hm, h]
  simp only [List.getD_eq_getElem?_getD, List.getElem?_eq_getElem hl, List.getElem?_eq_getElem hm, Option.getD_some] at e
  rw [e]
theorem take_all {α : Type} {l m : List α} {k : Nat} (h : l.take k = m.take k) (hl : l.length ≤ k) (hm : m.length ≤ k) : l = m := by
  rwa [List.take_of_length_le hl, List.take_of_length_le hm] at h
theorem ne_of_at {α : Type} {l m : List α} {k : Nat} (d : α) (e : l.getD k d ≠ m.getD k d) : l ≠ m := fun h => e (by rw [h])
end Go.Proofs.Ythobepmlopegbaa

/- Contracts of the comparisons: eqStringS, eqWrite, eqWriteS, eqDisk. -/
namespace Go.Proofs.Ythobepmlopegbaa
open Go.RowKit

set_option maxRecDepth 100000 in
set_option maxHeartbeats 1000000 in
theorem eqStringS (A A' : Option Addr) (n n' c c' : Nat) (ss ss' : List ByteArray) (w : World) (hl : ss.length = n) (hl' : ss'.length = n') (hn : n ≤ maxLen) (hn' : n' ≤ maxLen)
    (h : StrL w A ss) (h' : StrL w A' ss') :
    Calls Try.prog 25 #[.slice A n c, .slice A' n' c'] w fun e w' => e = .returned (.bool (decide (ss = ss'))) ∧ Below w.heap.size w w' := by
  unfold maxLen at hn hn'
  have HL := Lib.hid hl
  have HL' := Lib.hid hl'
  have H := Lib.hid h
  have H' := Lib.hid h'
  clear hl hl' h h'
  by_cases hne : n = n'
  · subst hne
    have hb : ((n : Int) != (n : Int)) = false := by simp
    go_enter Try.func25, Try.ntmps25
    go_wp2
    go_loopw [5] (fun i wr => ∃ k : Nat, k ≤ n ∧ i = .int .i64 k ∧ Hid (ss.take k = ss'.take k) ∧ Below w.heap.size w wr) (fun i _ => n - (intOf i).toNat)
    case atStart => exact ⟨0, Nat.zero_le _, rfl, Lib.hid rfl, Below.refl _ _⟩
    case round =>
      obtain ⟨k, hk, rfl, HT, hbw⟩ := hrel
      by_cases hlt : k < n
      · obtain ⟨b, off, rfl, hc⟩ := (H.out.below hbw) k (by rw [HL.out]; exact hlt)
        obtain ⟨b', off', rfl, hc'⟩ := (H'.out.below hbw) k (by rw [HL'.out]; exact hlt)
        have HN := Lib.hid (fun e => take_next ByteArray.empty HT.out (by rw [HL.out]; exact hlt) (by rw [HL'.out]; exact hlt) e)
        have HX := Lib.hid (fun e => ne_of_at (l := ss) (m := ss') (k := k) ByteArray.empty e)
        generalize ss.getD k ByteArray.empty = x at hc HN HX
        generalize ss'.getD k ByteArray.empty = y at hc' HN HX
        have hi : (k : Int) < (n : Int) := by omega
        have hq := bytes_beq x y
        by_cases hE : x = y
        · have hq1 : (x.toList == y.toList) = true := by rw [hq]; simp [hE]
          have HE := Lib.hid hE
          clear hq hE
          go_wp2
          go_quiet (fail)
          go_wp2
          go_roundw
          case rel => exact ⟨k + 1, by omega, by go_num, Lib.hid (HN.out HE.out), below_drewN hbw _⟩
          case measure => simp [intOf]; omega
        · have hq1 : (x.toList == y.toList) = false := by rw [hq]; simp [hE]
          have HE := Lib.hid hE
          clear hq hE
          go_wp2
          go_quiet (fail)
          go_wp2
          go_ret
          exact ⟨ret_bool (by simp [HX.out HE.out]), below_drewN hbw _⟩
      · go_wp2
        go_ret
        exact ⟨ret_bool (by simp [take_all HT.out (by rw [HL.out]; omega) (by rw [HL'.out]; omega)]), hbw⟩
  · have hb : ((n : Int) != (n' : Int)) = true := by simp; omega
    have HF : Hid (decide (ss = ss') = false) := Lib.hid (by simp; intro e; apply hne; rw [← HL.out, ← HL'.out, e])
    clear hne
    go_enter Try.func25, Try.ntmps25
    go_wp2
    go_ret
    exact ⟨ret_bool HF.out.symm, Below.refl _ _⟩

theorem bdecide {p : Prop} [Decidable p] : (decide p = true) = p := by simp

end Go.Proofs.Ythobepmlopegbaa

/- Slices in memory of the call's own: rows between two block numbers; what a call that writes only there keeps. -/
namespace Go.Proofs.Ythobepmlopegbaa
open Go.RowKit

/-- Of the old blocks only those from lo on and below hi may have turned. -/
structure Btw (lo hi : Nat) (w w' : World) : Prop where
  os : w'.os = w.os
  tape : w'.tape = w.tape
  output : w'.output = w.output
  size : w.heap.size ≤ w'.heap.size
  block : ∀ k, k < w.heap.size → k < lo ∨ hi ≤ k → w'.heap[k]? = w.heap[k]?

theorem Btw.refl (lo hi : Nat) (w : World) : Btw lo hi w w := ⟨rfl, rfl, rfl, Nat.le_refl _, fun _ _ _ => rfl⟩
theorem Btw.trans {lo hi : Nat} {a b c : World} (h : Btw lo hi a b) (k : Btw lo hi b c) : Btw lo hi a c :=
  ⟨k.os.trans h.os, k.tape.trans h.tape, k.output.trans h.output, Nat.le_trans h.size k.size, fun i hi' ho => (k.block i (Nat.lt_of_lt_of_le hi' h.size) ho).trans (h.block i hi' ho)⟩
theorem Btw.of_below {w w' : World} (h : Below w.heap.size w w') (lo hi : Nat) : Btw lo hi w w' := ⟨h.os, h.tape, h.output, h.size, fun k hk _ => h.block k hk⟩
theorem Btw.below {lo hi : Nat} {w w' : World} (h : Btw lo hi w w') (hl : lo ≤ w.heap.size) : Below lo w w' := ⟨h.os, h.tape, h.output, h.size, fun k hk => h.block k (Nat.lt_of_lt_of_le hk hl) (.inl hk)⟩
theorem Btw.wide {lo hi lo' hi' : Nat} {w w' : World} (h : Btw lo hi w w') (h1 : lo' ≤ lo) (h2 : hi ≤ hi') : Btw lo' hi' w w' :=
  ⟨h.os, h.tape, h.output, h.size, fun k hk ho => h.block k hk (by omega)⟩
theorem Btw.drewN {lo hi : Nat} {a w : World} (h : Btw lo hi a w) (n : Nat) : Btw lo hi a (w.drewN n) := ⟨h.os, h.tape, h.output, h.size, h.block⟩
theorem Btw.drew {lo hi : Nat} {a w : World} (h : Btw lo hi a w) : Btw lo hi a w.drew := ⟨h.os, h.tape, h.output, h.size, h.block⟩
theorem Btw.alloc {lo hi : Nat} {a w : World} (h : Btw lo hi a w) (o : Obj) : Btw lo hi a (w.alloc o) := h.trans (Btw.of_below ((Below.refl _ _).alloc (Nat.le_refl _) o) lo hi)
theorem Btw.setCell {lo hi : Nat} {a w : World} (h : Btw lo hi a w) {p : Addr} (h1 : lo ≤ p.block) (h2 : p.block < hi) (u : Value) : Btw lo hi a (w.setCell p u) :=
  ⟨h.os, h.tape, h.output, by simpa [World.setCell] using h.size, fun k hk ho => (Below.heap_setCell w p u k (by omega)).trans (h.block k hk ho)⟩
theorem Btw.cell {lo hi : Nat} {w w' : World} (h : Btw lo hi w w') {p : Addr} {v : Value} (hc : w.cell? p = some v) (ho : p.block < lo ∨ hi ≤ p.block) : w'.cell? p = some v :=
  (World.cell?_of_block (w := w) (h.block p.block (cell_lt hc) ho)).trans hc
theorem Btw.row {lo hi : Nat} {w w' : World} (h : Btw lo hi w w') {b : Nat} {t : TypeId} {n : Nat} {f : Nat → Value} (hr : w.rowIs b t n f) (ho : b < lo ∨ hi ≤ b) : w'.rowIs b t n f :=
  hr.of_block (h.block b hr.lt ho)
theorem row_below {B : Nat} {w w' : World} (h : Below B w w') {b : Nat} {t : TypeId} {n : Nat} {f : Nat → Value} (hr : w.rowIs b t n f) (ho : b < B) : w'.rowIs b t n f := hr.of_block (h.block b ho)
/-- Rows of two element types are two blocks. -/
theorem row_ne {w : World} {b b' : Nat} {t t' : TypeId} {n n' : Nat} {f f' : Nat → Value} (h : w.rowIs b t n f) (h' : w.rowIs b' t' n' f') (ht : t ≠ t') : b ≠ b' := by
  rintro rfl
  obtain ⟨c, hc, _⟩ := h
  obtain ⟨c', hc', _⟩ := h'
  rw [hc] at hc'
  injection hc' with e
  injection e with _ e2
  exact ht e2

/-- A []string of the call's own: its row lies in a block from lo on and below hi. -/
def OwnS (w : World) (lo hi : Nat) (A : Option Addr) (ss : List ByteArray) : Prop :=
  ss = [] ∨ ∃ b m f, A = some ⟨b, 0, none⟩ ∧ lo ≤ b ∧ b < hi ∧ ss.length ≤ m ∧ w.rowIs b 9 m f ∧ ∀ i, i < ss.length → f i = .string (ss.getD i ByteArray.empty)
/-- A []int of the call's own. -/
def OwnI (w : World) (lo hi : Nat) (A : Option Addr) (zs : List Int) : Prop :=
  zs = [] ∨ ∃ b m f, A = some ⟨b, 0, none⟩ ∧ lo ≤ b ∧ b < hi ∧ zs.length ≤ m ∧ w.rowIs b 3 m f ∧ ∀ i, i < zs.length → f i = .int .i64 (zs.getD i 0)

theorem OwnS.reads {w : World} {lo hi : Nat} {A : Option Addr} {ss : List ByteArray} (h : OwnS w lo hi A ss) : StrL w A ss := fun i hi' => by
  rcases h with rfl | ⟨b, m, f, e, _, _, hm, hr, hf⟩
  · simp at hi'
  · exact ⟨b, 0, e, by rw [← hf i hi', Nat.zero_add]; exact hr.cell (by omega)⟩
theorem OwnI.reads {w : World} {lo hi : Nat} {A : Option Addr} {zs : List Int} (h : OwnI w lo hi A zs) : IntL w A zs := fun i hi' => by
  rcases h with rfl | ⟨b, m, f, e, _, _, hm, hr, hf⟩
  · simp at hi'
  · exact ⟨b, 0, e, by rw [← hf i hi', Nat.zero_add]; exact hr.cell (by omega)⟩
theorem OwnS.btw {w w' : World} {lo hi l h' : Nat} {A : Option Addr} {ss : List ByteArray} (h : OwnS w lo hi A ss) (hb : Btw l h' w w') (ho : hi ≤ l ∨ h' ≤ lo) : OwnS w' lo hi A ss := by
  rcases h with e | ⟨b, m, f, e, h1, h2, hm, hr, hf⟩
  · exact .inl e
  · exact .inr ⟨b, m, f, e, h1, h2, hm, hb.row hr (by omega), hf⟩
theorem OwnI.btw {w w' : World} {lo hi l h' : Nat} {A : Option Addr} {zs : List Int} (h : OwnI w lo hi A zs) (hb : Btw l h' w w') (ho : hi ≤ l ∨ h' ≤ lo) : OwnI w' lo hi A zs := by
  rcases h with e | ⟨b, m, f, e, h1, h2, hm, hr, hf⟩
  · exact .inl e
  · exact .inr ⟨b, m, f, e, h1, h2, hm, hb.row hr (by omega), hf⟩
theorem OwnS.below {w w' : World} {lo hi : Nat} {A : Option Addr} {ss : List ByteArray} (h : OwnS w lo hi A ss) (hb : Below w.heap.size w w') : OwnS w' lo hi A ss := h.btw (Btw.of_below hb hi hi) (.inl (Nat.le_refl _))
theorem OwnI.below {w w' : World} {lo hi : Nat} {A : Option Addr} {zs : List Int} (h : OwnI w lo hi A zs) (hb : Below w.heap.size w w') : OwnI w' lo hi A zs := h.btw (Btw.of_below hb hi hi) (.inl (Nat.le_refl _))
/-- Anchored at an older world: whatever turns from that world's size on. -/
theorem StrL.since {B : Nat} {w w' : World} {A : Option Addr} {ss : List ByteArray} (h : StrL w A ss) (hb : Below B w w') (hB : w.heap.size ≤ B) : StrL w' A ss := h.below (hb.mono hB)
theorem StrL.btw {lo hi : Nat} {w w' : World} {A : Option Addr} {ss : List ByteArray} (h : StrL w A ss) (hb : Btw lo hi w w') (hB : w.heap.size ≤ lo) : StrL w' A ss := fun i hi' => by
  obtain ⟨b, off, e, hc⟩ := h i hi'
  exact ⟨b, off, e, hb.cell hc (.inl (Nat.lt_of_lt_of_le (cell_lt hc) hB))⟩

/-- Block b is just these cells, none frozen. -/
def Box (w : World) (b : Nat) (t : TypeId) (cs : Array Value) : Prop := w.heap[b]? = some (.cells cs t (0, 0))
theorem Box.cell {w : World} {b : Nat} {t : TypeId} {cs : Array Value} (h : Box w b t cs) (i : Nat) {v : Value} (hv : cs[i]? = some v) : w.cell? ⟨b, i, none⟩ = some v := by
  unfold Box at h; simp [World.cell?, h, hv]
theorem Box.frozen {w : World} {b : Nat} {t : TypeId} {cs : Array Value} (h : Box w b t cs) (i : Nat) : w.frozen? ⟨b, i, none⟩ = false := by
  unfold Box at h; simp [World.frozen?, h]
theorem Box.lt {w : World} {b : Nat} {t : TypeId} {cs : Array Value} (h : Box w b t cs) : b < w.heap.size := by
  obtain ⟨hlt, _⟩ := Array.getElem?_eq_some_iff.1 h
  exact hlt
theorem Box.below {w w' : World} {B b : Nat} {t : TypeId} {cs : Array Value} (h : Box w b t cs) (hb : Below B w w') (hB : b < B) : Box w' b t cs := (hb.block b hB).trans h
theorem Box.step {w w' : World} {b : Nat} {t : TypeId} {cs : Array Value} (h : Box w b t cs) (hb : Below w.heap.size w w') : Box w' b t cs := h.below hb h.lt
theorem Box.btw {w w' : World} {lo hi b : Nat} {t : TypeId} {cs : Array Value} (h : Box w b t cs) (hb : Btw lo hi w w') (ho : b < lo ∨ hi ≤ b) : Box w' b t cs := (hb.block b h.lt ho).trans h
theorem Box.new (w : World) (t : TypeId) (cs : Array Value) : Box (w.alloc (.cells cs t)) w.heap.size t cs := by
  show (w.heap.push _)[w.heap.size]? = _; simp
theorem Box.alloc {w : World} {b : Nat} {t : TypeId} {cs : Array Value} (h : Box w b t cs) (o : Obj) : Box (w.alloc o) b t cs := h.step ((Below.refl _ _).alloc (Nat.le_refl _) o)
theorem Box.set {w : World} {b : Nat} {t : TypeId} {cs : Array Value} (h : Box w b t cs) (i : Nat) (u : Value) : Box (w.setCell ⟨b, i, none⟩ u) b t (cs.setIfInBounds i u) := by
  unfold Box at h ⊢
  simp [World.setCell, Array.getElem?_modify, h]
theorem Box.far {w : World} {b : Nat} {t : TypeId} {cs : Array Value} (h : Box w b t cs) {p : Addr} (hp : b ≠ p.block) (u : Value) : Box (w.setCell p u) b t cs := (Below.heap_setCell w p u b hp).trans h
theorem Box.drewN {w : World} {b : Nat} {t : TypeId} {cs : Array Value} (h : Box w b t cs) (n : Nat) : Box (w.drewN n) b t cs := h
theorem Box.drew {w : World} {b : Nat} {t : TypeId} {cs : Array Value} (h : Box w b t cs) : Box w.drew b t cs := h
theorem Box.row {w : World} {b : Nat} {t : TypeId} {cs : Array Value} (h : Box w b t cs) (f : Nat → Value) (hf : ∀ i, i < cs.size → cs[i]? = some (f i)) : w.rowIs b t cs.size f := ⟨cs, h, rfl, hf⟩
theorem Box.ne {w : World} {b b' : Nat} {t t' : TypeId} {cs : Array Value} {n : Nat} {f : Nat → Value} (h : Box w b t cs) (h' : w.rowIs b' t' n f) (ht : t ≠ t') : b ≠ b' := by
  rintro rfl
  obtain ⟨c', hc', _⟩ := h'
  unfold Box at h
  rw [h] at hc'
  injection hc' with e
  injection e with _ e2
  exact ht e2
end Go.Proofs.Ythobepmlopegbaa

/- Contracts of the copies: toStringS, toWrite, toWriteS, toDisk. -/
namespace Go.Proofs.Ythobepmlopegbaa
open Go.RowKit

set_option maxRecDepth 100000 in
theorem infoS : (Try.prog.info? 9).map (fun i => (i.zero, i.size, i.bytes)) = some (some (.string ByteArray.empty), 1, 16) := by kernel_rfl

set_option maxRecDepth 100000 in
set_option maxHeartbeats 1000000 in
theorem toStringS (A : Option Addr) (n c : Nat) (ss : List ByteArray) (w : World) (hl : ss.length = n) (hn : n ≤ 1048576) (h : StrL w A ss) :
    Calls Try.prog 31 #[.slice A n c] w fun e w' => e = .returned (.slice (some ⟨w.heap.size, 0, none⟩) n n) ∧ Below w.heap.size w w' ∧ w'.rowIs w.heap.size 9 n (fun i => .string (ss.getD i ByteArray.empty)) := by
  have HL := Lib.hid hl
  have H := Lib.hid h
  clear hl h
  have hmk := fun W => run_make_row' (P := Try.prog) 28 9 (.string ByteArray.empty) 16 Try.underlying28 infoS rfl .i64 .i64 n (by omega) (by omega) W
  go_enter Try.func31, Try.ntmps31
  go_wp2
  clear hmk
  have hrow := World.rowIs_made w (.string ByteArray.empty) n 9
  have hbel : Below w.heap.size w (w.alloc (.cells (madeCells #[.string ByteArray.empty] n) 9)) := (Below.refl _ _).alloc (Nat.le_refl _) _
  have HR := Lib.hid hrow
  clear hrow
  generalize w.alloc (.cells (madeCells #[.string ByteArray.empty] n) 9) = wa at hbel HR ⊢
  go_loopw [4] (fun i wr => ∃ k : Nat, k ≤ n ∧ i = .int .i64 k ∧ Below w.heap.size w wr ∧ wr.rowIs w.heap.size 9 n (fun j => if j < k then .string (ss.getD j ByteArray.empty) else .string ByteArray.empty)) (fun i _ => n - (intOf i).toNat)
  case atStart => exact ⟨0, Nat.zero_le _, rfl, hbel, HR.out.congr (fun i _ => by simp)⟩
  case round =>
    obtain ⟨k, hk, rfl, hbw, hrw⟩ := hrel
    by_cases hlt : k < n
    · obtain ⟨b, off, rfl, hc⟩ := (H.out.below hbw) k (by rw [HL.out]; exact hlt)
      have hcd := hrw.cell hlt
      have hfr := hrw.frozen k
      have HW := Lib.hid (hrw.set k (.string (ss.getD k ByteArray.empty)))
      simp only [Nat.lt_irrefl, if_false] at hcd
      clear hrw
      have HE : Hid (ss.getD k ByteArray.empty = ss.getD k ByteArray.empty) := Lib.hid rfl
      generalize hx : ss.getD k ByteArray.empty = x at hc HW
      have HX := Lib.hid hx
      clear hx HE
      have hi : (k : Int) < (n : Int) := by omega
      go_wp2
      go_roundw
      case rel =>
        refine ⟨k + 1, by omega, by go_num, hbw.setCell (Nat.le_refl _) _, HW.out.congr (fun i _ => ?_)⟩
        show (if i = k then Value.string x else if i < k then _ else _) = _
        by_cases e : i = k
        · subst e; rw [if_pos rfl, if_pos (by omega), HX.out]
        · rw [if_neg e]
          by_cases e2 : i < k
          · rw [if_pos e2, if_pos (by omega)]
          · rw [if_neg e2, if_neg (by omega)]
      case measure => simp [intOf]; omega
    · have HRW := Lib.hid hrw
      clear hrw
      go_wp2
      go_ret
      exact ⟨rfl, hbw, HRW.out.congr (fun i hi => by rw [if_pos (by omega)])⟩

theorem row_made2 (w : World) (z0 z1 : Value) (n : Nat) (t : TypeId) : (w.alloc (.cells (madeCells #[z0, z1] (n * 2)) t)).rowIs w.heap.size t (n * 2) (fun i => if i % 2 = 0 then z0 else z1) :=
  ⟨_, heap_alloc_new _ _, size_madeCells _ _, fun i hi => by
    have : i % 2 = 0 ∨ i % 2 = 1 := by omega
    rcases this with h | h <;> simp [madeCells, hi, h]⟩

/-- What the first k writes look like in a row of n of them. -/
def fillW (ws : List (Int × ByteArray)) (k : Nat) (j : Nat) : Value :=
  if j < k * 2 then (if j % 2 = 0 then .int .i64 (ws.getD (j / 2) (0, ByteArray.empty)).1 else .string (ws.getD (j / 2) (0, ByteArray.empty)).2) else (if j % 2 = 0 then .int .i64 0 else .string ByteArray.empty)
theorem fillW_next (ws : List (Int × ByteArray)) (k j : Nat) (a : Int) (s : ByteArray) (h : ws.getD k (0, ByteArray.empty) = (a, s)) :
    (if j = k * 2 + 1 then .string s else if j = k * 2 then .int .i64 a else fillW ws k j) = fillW ws (k + 1) j := by
  unfold fillW
  by_cases e1 : j = k * 2 + 1
  · subst e1
    rw [if_pos rfl, if_pos (by omega), if_neg (by omega), show (k * 2 + 1) / 2 = k by omega, h]
  · rw [if_neg e1]
    by_cases e2 : j = k * 2
    · subst e2
      rw [if_pos rfl, if_pos (by omega), if_pos (by omega), show (k * 2) / 2 = k by omega, h]
    · rw [if_neg e2]
      by_cases e3 : j < k * 2
      · have e4 : j < (k + 1) * 2 := by omega
        simp only [e3, e4, if_true]
      · have e4 : ¬ j < (k + 1) * 2 := by omega
        simp only [e3, e4, if_false]

theorem own_of_rowS {w : World} {b n lo hi : Nat} {ss : List ByteArray} (hl : ss.length = n) (h : w.rowIs b 9 n (fun i => .string (ss.getD i ByteArray.empty))) (h1 : lo ≤ b) (h2 : b < hi) : OwnS w lo hi (some ⟨b, 0, none⟩) ss :=
  .inr ⟨b, n, _, rfl, h1, h2, by omega, h, fun _ _ => rfl⟩
end Go.Proofs.Ythobepmlopegbaa

/- Contracts of toIntS, eqIntS, markIntS. -/
namespace Go.Proofs.Ythobepmlopegbaa
open Go.RowKit

set_option maxRecDepth 100000 in
theorem infoI : (Try.prog.info? 3).map (fun i => (i.zero, i.size, i.bytes)) = some (some (.int .i64 0), 1, 8) := by kernel_rfl

/-- The call hands back a []int of its own, and its capacity is no less than its length. -/
def GivesIntsC (zs : List Int) (w : World) (e : Ending) (w' : World) : Prop :=
  ∃ A n c, e = .returned (.slice A n c) ∧ Hid (zs.length = n) ∧ Hid (OwnI w' w.heap.size w'.heap.size A zs) ∧ n ≤ c ∧ Below w.heap.size w w'
/-- The call hands back a []int of its own. -/
def GivesInts (zs : List Int) (w : World) (e : Ending) (w' : World) : Prop :=
  ∃ A n c, e = .returned (.slice A n c) ∧ Hid (zs.length = n) ∧ Hid (OwnI w' w.heap.size w'.heap.size A zs) ∧ Below w.heap.size w w'

set_option maxRecDepth 100000 in
set_option maxHeartbeats 1000000 in
theorem toIntSc (A : Option Addr) (n c : Nat) (zs : List Int) (w : World) (hl : zs.length = n) (hn : n ≤ 1048576) (h : IntL w A zs) :
    Calls Try.prog 52 #[.slice A n c] w (GivesIntsC zs w) := by
  have HL := Lib.hid hl
  have H := Lib.hid h
  clear hl h
  have hmk := fun W => run_make_row' (P := Try.prog) 23 3 (.int .i64 0) 8 Try.underlying23 infoI rfl .i64 .i64 n (by omega) (by omega) W
  go_enter Try.func52, Try.ntmps52
  go_wp2
  clear hmk
  have hrow := World.rowIs_made w (.int .i64 0) n 3
  have hbel : Below w.heap.size w (w.alloc (.cells (madeCells #[.int .i64 0] n) 3)) := (Below.refl _ _).alloc (Nat.le_refl _) _
  have HR := Lib.hid hrow
  clear hrow
  generalize w.alloc (.cells (madeCells #[.int .i64 0] n) 3) = wa at hbel HR ⊢
  go_loopw [4] (fun i wr => ∃ k : Nat, k ≤ n ∧ i = .int .i64 k ∧ Below w.heap.size w wr ∧ wr.rowIs w.heap.size 3 n (fun j => if j < k then .int .i64 (zs.getD j 0) else .int .i64 0)) (fun i _ => n - (intOf i).toNat)
  case atStart => exact ⟨0, Nat.zero_le _, rfl, hbel, HR.out.congr (fun i _ => by simp)⟩
  case round =>
    obtain ⟨k, hk, rfl, hbw, hrw⟩ := hrel
    by_cases hlt : k < n
    · obtain ⟨b, off, rfl, hc⟩ := (H.out.below hbw) k (by rw [HL.out]; exact hlt)
      have hcd := hrw.cell hlt
      have hfr := hrw.frozen k
      have HW := Lib.hid (hrw.set k (.int .i64 (zs.getD k 0)))
      simp only [Nat.lt_irrefl, if_false] at hcd
      clear hrw
      generalize hx : zs.getD k 0 = x at hc HW
      have HX := Lib.hid hx
      clear hx
      have hi : (k : Int) < (n : Int) := by omega
      go_wp2
      go_roundw
      case rel =>
        refine ⟨k + 1, by omega, by go_num, hbw.setCell (Nat.le_refl _) _, HW.out.congr (fun i _ => ?_)⟩
        show (if i = k then Value.int .i64 x else if i < k then _ else _) = _
        by_cases e : i = k
        · subst e; rw [if_pos rfl, if_pos (by omega), HX.out]
        · rw [if_neg e]
          by_cases e2 : i < k
          · rw [if_pos e2, if_pos (by omega)]
          · rw [if_neg e2, if_neg (by omega)]
      case measure => simp [intOf]; omega
    · have HRW := Lib.hid hrw
      clear hrw
      go_wp2
      go_ret
      have ek : k = n := by omega
      subst ek
      exact ⟨_, _, _, rfl, HL, Lib.hid (.inr ⟨w.heap.size, k, _, rfl, Nat.le_refl _, HRW.out.lt, by rw [HL.out]; omega, HRW.out, fun i hi => by rw [if_pos (by rw [HL.out] at hi; exact hi)]⟩), Nat.le_refl _, hbw⟩
set_option maxRecDepth 100000 in
theorem toIntS (A : Option Addr) (n c : Nat) (zs : List Int) (w : World) (hl : zs.length = n) (hn : n ≤ 1048576) (h : IntL w A zs) :
    Calls Try.prog 52 #[.slice A n c] w (GivesInts zs w) :=
  (toIntSc A n c zs w hl hn h).mono fun _ _ ⟨A, n, c, h1, h2, h3, _, h5⟩ => ⟨A, n, c, h1, h2, h3, h5⟩

set_option maxRecDepth 100000 in
set_option maxHeartbeats 1000000 in
theorem eqIntSame (A A' : Option Addr) (n n' c c' : Nat) (zs : List Int) (w : World) (hl : zs.length = n) (hl' : zs.length = n') (hn : n ≤ maxLen) (h : IntL w A zs) (h' : IntL w A' zs) :
    Calls Try.prog 54 #[.slice A n c, .slice A' n' c'] w fun e w' => e = .returned (.bool true) ∧ Below w.heap.size w w' := by
  unfold maxLen at hn
  have HL := Lib.hid hl
  obtain rfl : n = n' := by omega
  have H := Lib.hid h
  have H' := Lib.hid h'
  clear hl hl' h h'
  have hb : ((n : Int) != (n : Int)) = false := by simp
  go_enter Try.func54, Try.ntmps54
  go_wp2
  go_loopw [5] (fun i wr => ∃ k : Nat, k ≤ n ∧ i = .int .i64 k ∧ Below w.heap.size w wr) (fun i _ => n - (intOf i).toNat)
  case atStart => exact ⟨0, Nat.zero_le _, rfl, Below.refl _ _⟩
  case round =>
    obtain ⟨k, hk, rfl, hbw⟩ := hrel
    by_cases hlt : k < n
    · obtain ⟨b, off, rfl, hc⟩ := (H.out.below hbw) k (by rw [HL.out]; exact hlt)
      obtain ⟨b', off', rfl, hc'⟩ := (H'.out.below hbw) k (by rw [HL.out]; exact hlt)
      generalize zs.getD k 0 = x at hc hc'
      have hi : (k : Int) < (n : Int) := by omega
      have hq1 : (x != x) = false := by simp
      have hq2 : (x == x) = true := by simp
      go_wp2
      go_quiet (fail)
      go_wp2
      go_roundw
      case rel => exact ⟨k + 1, by omega, by go_num, below_drewN hbw _⟩
      case measure => simp [intOf]; omega
    · go_wp2
      go_ret
      exact ⟨rfl, hbw⟩

def MarkedI (lo hi k n : Nat) (w : World) (e : Ending) (w' : World) : Prop := e = .returned (.int .i64 ((k + n : Nat) : Int)) ∧ Btw lo hi w w'

set_option maxRecDepth 100000 in
set_option maxHeartbeats 2000000 in
theorem markIntS (A : Option Addr) (n c k lo hi : Nat) (zs : List Int) (w : World) (hl : zs.length = n) (hk : 1 ≤ k) (hn : n ≤ 1099511627776) (hk2 : k + n ≤ 1099511627776) (h : OwnI w lo hi A zs) :
    Calls Try.prog 56 #[.slice A n c, .int .i64 k] w (MarkedI lo hi k n w) := by
  rcases h with rfl | ⟨b, m, f, rfl, h1, h2, hm, hr, hf⟩
  · obtain rfl : n = 0 := hl.symm
    go_enter Try.func56, Try.ntmps56
    go_wp2
    go_loop [5, 1] (fun i kk => i = .int .i64 0 ∧ kk = .int .i64 k) (fun _ _ => 0)
    case atStart => exact ⟨rfl, rfl⟩
    case round =>
      obtain ⟨rfl, rfl⟩ := hrel
      go_wp2
      go_ret
      exact ⟨rfl, Btw.refl _ _ _⟩
  · have HM : Hid (n ≤ m) := Lib.hid (by omega)
    have HR := Lib.hid hr
    clear hl hm hr hf
    go_enter Try.func56, Try.ntmps56
    go_wp2
    go_loopw [5, 1] (fun i kk wr => ∃ j : Nat, j ≤ n ∧ i = .int .i64 j ∧ kk = .int .i64 ((k + j : Nat) : Int) ∧ Btw lo hi w wr ∧ Hid (∃ f, wr.rowIs b 3 m f)) (fun i _ _ => n - (intOf i).toNat)
    case atStart => exact ⟨0, Nat.zero_le _, rfl, rfl, Btw.refl _ _ _, Lib.hid ⟨_, HR.out⟩⟩
    case round =>
      obtain ⟨j, hj, rfl, rfl, hbw, HW⟩ := hrel
      by_cases hlt : j < n
      · have hi' : (j : Int) < (n : Int) := by omega
        obtain ⟨f', hf'⟩ := HW.out
        have hc := hf'.cell (i := j) (by have := HM.out; omega)
        have hfz := hf'.frozen j
        generalize hz : k + j = z
        have HZ := Lib.hid hz
        have hz1 : z + 1 ≤ 1099511627776 := by omega
        have HS : Hid (∃ f, (wr.setCell ⟨b, j, none⟩ (.int .i64 (z : Int))).rowIs b 3 m f) := Lib.hid ⟨_, hf'.set j _⟩
        clear hf' HW hz
        generalize f' j = y at hc
        go_wp2
        go_roundw
        case rel => exact ⟨j + 1, by omega, by go_num, by have := HZ.out; congr 1; omega, hbw.setCell h1 h2 _, HS⟩
        case measure => simp [intOf]; omega
      · go_wp2
        go_ret
        have ej : j = n := by omega
        subst ej
        exact ⟨rfl, hbw⟩
end Go.Proofs.Ythobepmlopegbaa

/- Contracts of the measures: szStringS, szWrite, szWriteS, szDisk: what is left, or -1. -/
namespace Go.Proofs.Ythobepmlopegbaa
open Go.RowKit

/-- How many letters the strings hold. -/
def lenS (ss : List ByteArray) : Nat := (ss.map (·.size)).sum
def lenW (ws : List (Int × ByteArray)) : Nat := (ws.map (·.2.size)).sum

theorem lenS_take (ss : List ByteArray) (k : Nat) (h : k < ss.length) : lenS (ss.take (k + 1)) = lenS (ss.take k) + (ss.getD k ByteArray.empty).size := by
  unfold lenS
  rw [List.take_succ_eq_append_getElem h, List.map_append, List.sum_append, List.getD_eq_getElem?_getD, List.getElem?_eq_getElem h]
  simp
theorem lenW_take (ws : List (Int × ByteArray)) (k : Nat) (h : k < ws.length) : lenW (ws.take (k + 1)) = lenW (ws.take k) + (ws.getD k (0, ByteArray.empty)).2.size := by
  unfold lenW
  rw [List.take_succ_eq_append_getElem h, List.map_append, List.sum_append, List.getD_eq_getElem?_getD, List.getElem?_eq_getElem h]
  simp

/-- What a measure answers: a negative number, or what is left of the bound. -/
def Left (left : Int) (used : Nat) (w : World) (e : Ending) (w' : World) : Prop :=
  (e = .returned (.int .i64 (-1)) ∨ e = .returned (.int .i64 (left - used)) ∧ (used : Int) ≤ left) ∧ Below w.heap.size w w'

set_option maxRecDepth 100000 in
set_option maxHeartbeats 1000000 in
theorem szStringS (A : Option Addr) (n c : Nat) (ss : List ByteArray) (left : Int) (w : World) (hl : ss.length = n) (hn : n ≤ maxLen) (h0 : 0 ≤ left) (h1 : left ≤ 1048576) (h : StrL w A ss) (hs : ∀ s ∈ ss, s.size ≤ maxLen) :
    Calls Try.prog 29 #[.slice A n c, .int .i64 left] w (Left left (ss.length + lenS ss) w) := by
  unfold maxLen at hn
  have HL := Lib.hid hl
  have H := Lib.hid h
  have HS := Lib.hid hs
  clear hl h hs
  by_cases hb : left < n
  · have hb' : left - (n : Int) < 0 := by omega
    go_enter Try.func29, Try.ntmps29
    go_wp2
    go_ret
    exact ⟨.inl rfl, Below.refl _ _⟩
  · have hb' : ¬ left - (n : Int) < 0 := by omega
    go_enter Try.func29, Try.ntmps29
    go_wp2
    go_loop [5, 1] (fun i l => ∃ k : Nat, k ≤ n ∧ i = .int .i64 k ∧ l = .int .i64 (left - n - lenS (ss.take k)) ∧ 0 ≤ left - n - lenS (ss.take k)) (fun i _ => n - (intOf i).toNat)
    case atStart => exact ⟨0, Nat.zero_le _, rfl, by simp [lenS], by simp [lenS]; omega⟩
    case round =>
      obtain ⟨k, hk, rfl, rfl, hr⟩ := hrel
      by_cases hlt : k < n
      · obtain ⟨b, off, rfl, hc⟩ := H.out k (by rw [HL.out]; exact hlt)
        have hx : (ss.getD k ByteArray.empty).size ≤ maxLen := HS.out _ (by rw [List.getD_eq_getElem?_getD, List.getElem?_eq_getElem (by rw [HL.out]; exact hlt)]; exact List.getElem_mem _)
        have HK := Lib.hid (lenS_take ss k (by rw [HL.out]; exact hlt))
        generalize ss.getD k ByteArray.empty = x at hc HK hx
        unfold maxLen at hx
        generalize lenS (ss.take k) = u at HK hr
        have hi : (k : Int) < (n : Int) := by omega
        by_cases hE : left - n - u < x.size
        · have hE' : left - (n : Int) - (u : Int) - (x.size : Int) < 0 := by omega
          go_wp2
          go_ret
          exact ⟨.inl rfl, Below.refl _ _⟩
        · have hE' : ¬ left - (n : Int) - (u : Int) - (x.size : Int) < 0 := by omega
          go_wp2
          go_round
          case rel => exact ⟨k + 1, by omega, by go_num, by rw [HK.out]; congr 1; omega, by rw [HK.out]; omega⟩
          case measure => simp [intOf]; omega
      · go_wp2
        go_ret
        have ek : ss.take k = ss := List.take_of_length_le (by rw [HL.out]; omega)
        rw [ek] at hr ⊢
        exact ⟨.inr ⟨ret_int (by rw [HL.out]; omega), by rw [HL.out]; omega⟩, Below.refl _ _⟩

/-- The measure of a disk. -/
def szOf (ss : List ByteArray) (ws : List (Int × ByteArray)) : Nat := (ss.length + lenS ss) + (ws.length + lenW ws)

end Go.Proofs.Ythobepmlopegbaa

/- Contracts of szIntS, of markIntS with what it leaves, of heldIntS. -/
namespace Go.Proofs.Ythobepmlopegbaa
open Go.RowKit

set_option maxRecDepth 100000 in
theorem szIntS (A : Option Addr) (n c : Nat) (left : Int) (w : World) (hn : n ≤ maxLen) (h0 : 0 ≤ left) (h1 : left ≤ 1048576) :
    Calls Try.prog 50 #[.slice A n c, .int .i64 left] w (Left left n w) := by
  unfold maxLen at hn
  by_cases hb : left < n
  · have hb' : left - (n : Int) < 0 := by omega
    go_enter Try.func50, Try.ntmps50
    go_wp2
    go_ret
    exact ⟨.inl rfl, Below.refl _ _⟩
  · have hb' : ¬ left - (n : Int) < 0 := by omega
    go_enter Try.func50, Try.ntmps50
    go_wp2
    go_ret
    exact ⟨.inr ⟨rfl, by omega⟩, Below.refl _ _⟩

def marksI (k n : Nat) : List Int := (List.range n).map fun i => ((k + i : Nat) : Int)
theorem marksI_len (k n : Nat) : (marksI k n).length = n := by simp [marksI]
theorem marksI_at (k n i : Nat) (h : i < n) : (marksI k n).getD i 0 = ((k + i : Nat) : Int) := by simp [marksI, List.getD_eq_getElem?_getD, h]
def MarkedIs (lo hi : Nat) (A : Option Addr) (k n : Nat) (w : World) (e : Ending) (w' : World) : Prop :=
  e = .returned (.int .i64 ((k + n : Nat) : Int)) ∧ Hid (OwnI w' lo hi A (marksI k n)) ∧ Btw lo hi w w'

set_option maxRecDepth 100000 in
set_option maxHeartbeats 2000000 in
theorem markIntSs (A : Option Addr) (n c k lo hi : Nat) (zs : List Int) (w : World) (hl : zs.length = n) (hk : 1 ≤ k) (hn : n ≤ 1099511627776) (hk2 : k + n ≤ 1099511627776) (h : OwnI w lo hi A zs) :
    Calls Try.prog 56 #[.slice A n c, .int .i64 k] w (MarkedIs lo hi A k n w) := by
  rcases h with rfl | ⟨b, m, f, rfl, h1, h2, hm, hr, hf⟩
  · obtain rfl : n = 0 := hl.symm
    go_enter Try.func56, Try.ntmps56
    go_wp2
    go_loop [5, 1] (fun i kk => i = .int .i64 0 ∧ kk = .int .i64 k) (fun _ _ => 0)
    case atStart => exact ⟨rfl, rfl⟩
    case round =>
      obtain ⟨rfl, rfl⟩ := hrel
      go_wp2
      go_ret
      exact ⟨rfl, Lib.hid (.inl rfl), Btw.refl _ _ _⟩
  · have HM : Hid (n ≤ m) := Lib.hid (by omega)
    have HR := Lib.hid hr
    clear hl hm hr hf
    go_enter Try.func56, Try.ntmps56
    go_wp2
    go_loopw [5, 1] (fun i kk wr => ∃ j : Nat, j ≤ n ∧ i = .int .i64 j ∧ kk = .int .i64 ((k + j : Nat) : Int) ∧ Btw lo hi w wr ∧ Hid (wr.rowIs b 3 m (fun x => if x < j then .int .i64 ((k + x : Nat) : Int) else f x))) (fun i _ _ => n - (intOf i).toNat)
    case atStart => exact ⟨0, Nat.zero_le _, rfl, rfl, Btw.refl _ _ _, Lib.hid (HR.out.congr (fun i _ => by simp))⟩
    case round =>
      obtain ⟨j, hj, rfl, rfl, hbw, HW⟩ := hrel
      by_cases hlt : j < n
      · have hi' : (j : Int) < (n : Int) := by omega
        have hc := HW.out.cell (i := j) (by have := HM.out; omega)
        simp only [Nat.lt_irrefl, if_false] at hc
        have hfz := HW.out.frozen j
        generalize hz : k + j = z
        have HZ := Lib.hid hz
        have hz1 : z + 1 ≤ 1099511627776 := by omega
        have HS := Lib.hid (HW.out.set j (.int .i64 (z : Int)))
        clear HW hz
        generalize f j = y at hc
        go_wp2
        go_roundw
        case rel =>
          refine ⟨j + 1, by omega, by go_num, by have := HZ.out; congr 1; omega, hbw.setCell h1 h2 _, Lib.hid (HS.out.congr (fun x _ => ?_))⟩
          show (if x = j then Value.int .i64 (z : Int) else if x < j then _ else _) = _
          by_cases e : x = j
          · subst e; rw [if_pos rfl, if_pos (by omega), HZ.out]
          · rw [if_neg e]
            by_cases e2 : x < j
            · rw [if_pos e2, if_pos (by omega)]
            · rw [if_neg e2, if_neg (by omega)]
        case measure => simp [intOf]; omega
      · go_wp2
        go_ret
        have ej : j = n := by omega
        subst ej
        exact ⟨rfl, Lib.hid (.inr ⟨b, m, _, rfl, h1, h2, by rw [marksI_len]; exact HM.out, HW.out, fun i hi' => by rw [marksI_len] at hi'; rw [if_pos hi', marksI_at k j i hi']⟩), hbw⟩

set_option maxRecDepth 100000 in
set_option maxHeartbeats 2000000 in
theorem heldIntS (A : Option Addr) (n c k : Nat) (w : World) (hk : 1 ≤ k) (hk2 : k + n ≤ 1099511627776) (h : IntL w A (marksI k n)) :
    Calls Try.prog 61 #[.slice A n c, .int .i64 k] w fun e w' => e = .returned (.int .i64 ((k + n : Nat) : Int)) ∧ w = w' := by
  have H := Lib.hid h
  clear h
  go_enter Try.func61, Try.ntmps61
  go_wp2
  go_loop [5, 1] (fun i kk => ∃ j : Nat, j ≤ n ∧ i = .int .i64 j ∧ kk = .int .i64 ((k + j : Nat) : Int)) (fun i _ => n - (intOf i).toNat)
  case atStart => exact ⟨0, Nat.zero_le _, rfl, rfl⟩
  case round =>
    obtain ⟨j, hj, rfl, rfl⟩ := hrel
    by_cases hlt : j < n
    · obtain ⟨b, off, rfl, hc⟩ := H.out j (by rw [marksI_len]; exact hlt)
      rw [marksI_at k n j hlt] at hc
      have hi' : (j : Int) < (n : Int) := by omega
      generalize hz : k + j = z at hc
      have HZ := Lib.hid hz
      have hz1 : z + 1 ≤ 1099511627776 := by omega
      have hq : ((z : Int) != (z : Int)) = false := by simp
      clear hz
      go_wp2
      go_round
      case rel => exact ⟨j + 1, by omega, by go_num, by have := HZ.out; congr 1; omega⟩
      case measure => simp [intOf]; omega
    · go_wp2
      go_ret
      have ej : j = n := by omega
      subst ej
      exact ⟨rfl, rfl⟩
end Go.Proofs.Ythobepmlopegbaa

/- Contracts of the marks: markText, markStringS, heldStringS, markWriteS, heldWriteS, markDisk, heldDisk. -/
namespace Go.Proofs.Ythobepmlopegbaa
open Go.RowKit

def mkDig (j : Nat) : ByteArray := ⟨#[UInt8.ofNat (48 + j % 10)]⟩
def mkGo : Nat → Nat → ByteArray → ByteArray
  | 0, _, o => o
  | f + 1, j, o => if j = 0 then o else mkGo f (j / 10) (mkDig j ++ o)
/-- The text of a mark. -/
def mkText (k : Nat) : ByteArray := ⟨#[109]⟩ ++ mkGo k k ByteArray.empty
theorem mkGo_zero (f : Nat) (o : ByteArray) : mkGo f 0 o = o := by cases f <;> simp [mkGo]
theorem mkGo_step (f j : Nat) (o : ByteArray) (h : 0 < j) (hf : j ≤ f) : ∃ f', j / 10 ≤ f' ∧ mkGo f j o = mkGo f' (j / 10) (mkDig j ++ o) := by
  obtain ⟨f', rfl⟩ : ∃ f', f = f' + 1 := ⟨f - 1, by omega⟩
  exact ⟨f', by omega, by rw [mkGo, if_neg (by omega)]⟩

set_option maxRecDepth 100000 in
theorem byte_string (V : World) (j : Nat) : (convert 22 9 (.slice (some ⟨V.heap.size, 0, none⟩) 1 1)).run Try.prog (V.alloc (.cells #[.int .u8 (48 + (j : Int) % 10)] 5)) = .ok (.string (mkDig j)) (V.alloc (.cells #[.int .u8 (48 + (j : Int) % 10)] 5)) := by
  have h : (UInt8.ofNat (48 + j % 10)).toNat = 48 + j % 10 := by
    rw [UInt8.toNat_ofNat']; omega
  exact run_convert_bytes_back (P := Try.prog) (V.alloc (.cells #[.int .u8 (48 + (j : Int) % 10)] 5)) 22 9 5 ⟨V.heap.size, 0, none⟩ 1 [UInt8.ofNat (48 + j % 10)] Try.underlying22 Try.underlying5 Try.underlying9 (fun i hi => by
    have hi' : i = 0 := by simpa using hi
    subst hi'
    simp only [List.getElem_cons_zero]
    rw [h]
    simp [Addr.add])

set_option maxRecDepth 100000 in
set_option maxHeartbeats 1000000 in
theorem markText (k : Nat) (w : World) (hk : 1 ≤ k) (hk2 : k ≤ 1099511627776) :
    Calls Try.prog 58 #[.int .i64 k] w fun e w' => e = .returned (.string (mkText k)) ∧ Below w.heap.size w w' := by
  have h0 : ¬ (k : Int) ≤ 0 := by omega
  have hcv := byte_string
  go_enter Try.func58, Try.ntmps58
  go_wp2
  go_loopw [0, 3] (fun a s wr => ∃ (j : Nat) (o : ByteArray), a = .int .i64 j ∧ s = .string o ∧ j + o.size ≤ k ∧ Hid (∃ f, j ≤ f ∧ mkGo k k ByteArray.empty = mkGo f j o) ∧ Below w.heap.size w wr) (fun a _ _ => (intOf a).toNat)
  case atStart => exact ⟨k, ByteArray.empty, rfl, rfl, by simp, Lib.hid ⟨k, Nat.le_refl _, rfl⟩, Below.refl _ _⟩
  case round =>
    obtain ⟨j, o, rfl, rfl, hj, HG, hbw⟩ := hrel
    by_cases hp : 0 < j
    · have hp' : (0 : Int) < (j : Int) := by omega
      have hd1 : (mkDig j).size ≤ 1 := Nat.le_refl _
      have hnl : ¬ 9223372036854775807 < (mkDig j).size + o.size := by omega
      clear hd1
      go_wp2
      go_roundw
      case rel =>
        refine ⟨j / 10, mkDig j ++ o, by go_num, rfl, ?_, ?_, (hbw.alloc hbw.size _)⟩
        · have : (mkDig j).size = 1 := rfl
          rw [ByteArray.size_append, this]; omega
        · obtain ⟨f, hf, e⟩ := HG.out
          obtain ⟨f', hf', e'⟩ := mkGo_step f j o hp hf
          exact Lib.hid ⟨f', hf', e.trans e'⟩
      case measure => simp [intOf]; omega
    · have hp' : ¬ (0 : Int) < (j : Int) := by omega
      go_wp2
      go_ret
      refine ⟨?_, hbw⟩
      obtain ⟨f, hf, e⟩ := HG.out
      have hj0 : j = 0 := by omega
      subst hj0
      rw [mkGo_zero] at e
      unfold mkText
      rw [e]
      rfl

def marksS (k n : Nat) : List ByteArray := (List.range n).map fun i => mkText (k + i)
def marksW (k n : Nat) : List (Int × ByteArray) := (List.range n).map fun i => (((k + i * 2 : Nat) : Int), mkText (k + i * 2 + 1))
theorem marksS_len (k n : Nat) : (marksS k n).length = n := by simp [marksS]
theorem marksW_len (k n : Nat) : (marksW k n).length = n := by simp [marksW]
theorem marksS_at (k n i : Nat) (h : i < n) : (marksS k n).getD i ByteArray.empty = mkText (k + i) := by simp [marksS, List.getD_eq_getElem?_getD, h]
theorem marksW_at (k n i : Nat) (h : i < n) : (marksW k n).getD i (0, ByteArray.empty) = (((k + i * 2 : Nat) : Int), mkText (k + i * 2 + 1)) := by simp [marksW, List.getD_eq_getElem?_getD, h]

/-- What the marks of a slice of strings leave. -/
def MarkedS (lo hi : Nat) (A : Option Addr) (k n : Nat) (w : World) (e : Ending) (w' : World) : Prop :=
  e = .returned (.int .i64 ((k + n : Nat) : Int)) ∧ Hid (OwnS w' lo hi A (marksS k n)) ∧ Btw lo hi w w'
set_option maxRecDepth 100000 in
set_option maxHeartbeats 2000000 in
theorem markStringS (A : Option Addr) (n c k lo hi : Nat) (ss : List ByteArray) (w : World) (hl : ss.length = n) (hk : 1 ≤ k) (hn : n ≤ 1099511627776) (hk2 : k + n ≤ 1099511627776) (h : OwnS w lo hi A ss) :
    Calls Try.prog 27 #[.slice A n c, .int .i64 k] w (MarkedS lo hi A k n w) := by
  rcases h with rfl | ⟨b, m, f, rfl, h1, h2, hm, hr, hf⟩
  · obtain rfl : n = 0 := hl.symm
    go_enter Try.func27, Try.ntmps27
    go_wp2
    go_loop [5, 1] (fun i kk => i = .int .i64 0 ∧ kk = .int .i64 k) (fun _ _ => 0)
    case atStart => exact ⟨rfl, rfl⟩
    case round =>
      obtain ⟨rfl, rfl⟩ := hrel
      go_wp2
      go_ret
      exact ⟨rfl, Lib.hid (.inl rfl), Btw.refl _ _ _⟩
  · have HM : Hid (n ≤ m) := Lib.hid (by omega)
    have HR := Lib.hid hr
    clear hl hm hr hf
    go_enter Try.func27, Try.ntmps27
    go_wp2
    go_loopw [5, 1] (fun i kk wr => ∃ j : Nat, j ≤ n ∧ i = .int .i64 j ∧ kk = .int .i64 ((k + j : Nat) : Int) ∧ Btw lo hi w wr ∧ Hid (wr.rowIs b 9 m (fun x => if x < j then .string (mkText (k + x)) else f x))) (fun i _ _ => n - (intOf i).toNat)
    case atStart => exact ⟨0, Nat.zero_le _, rfl, rfl, Btw.refl _ _ _, Lib.hid (HR.out.congr (fun i _ => by simp))⟩
    case round =>
      obtain ⟨j, hj, rfl, rfl, hbw, HW⟩ := hrel
      by_cases hlt : j < n
      · have hi' : (j : Int) < (n : Int) := by omega
        go_wp2_with fail
        refine (markText (k + j) wr (by omega) (by omega)).mono ?_
        rintro e w1 ⟨rfl, hb1⟩
        have R1 := row_below hb1 HW.out HW.out.lt
        have hc := R1.cell (i := j) (by have := HM.out; omega)
        simp only [Nat.lt_irrefl, if_false] at hc
        have hfz := R1.frozen j
        have HS := Lib.hid (R1.set j (.string (mkText (k + j))))
        have HBt := Lib.hid (hbw.trans (Btw.of_below hb1 lo hi))
        clear R1 HW hbw hb1
        generalize f j = y at hc
        go_wp2
        go_roundw
        case rel =>
          refine ⟨j + 1, by omega, by go_num, by go_num, HBt.out.setCell h1 h2 _, Lib.hid (HS.out.congr (fun x _ => ?_))⟩
          show (if x = j then Value.string (mkText (k + j)) else if x < j then _ else _) = _
          by_cases e : x = j
          · subst e; rw [if_pos rfl, if_pos (by omega)]
          · rw [if_neg e]
            by_cases e2 : x < j
            · rw [if_pos e2, if_pos (by omega)]
            · rw [if_neg e2, if_neg (by omega)]
        case measure => simp [intOf]; omega
      · go_wp2
        go_ret
        have ej : j = n := by omega
        subst ej
        exact ⟨rfl, Lib.hid (.inr ⟨b, m, _, rfl, h1, h2, by rw [marksS_len]; exact HM.out, HW.out, fun i hi' => by rw [marksS_len] at hi'; rw [if_pos hi', marksS_at k j i hi']⟩), hbw⟩

set_option maxRecDepth 100000 in
set_option maxHeartbeats 2000000 in
theorem heldStringS (A : Option Addr) (n c k : Nat) (w : World) (hk : 1 ≤ k) (hk2 : k + n ≤ 1099511627776) (h : StrL w A (marksS k n)) :
    Calls Try.prog 28 #[.slice A n c, .int .i64 k] w fun e w' => e = .returned (.int .i64 ((k + n : Nat) : Int)) ∧ Below w.heap.size w w' := by
  have H := Lib.hid h
  clear h
  go_enter Try.func28, Try.ntmps28
  go_wp2
  go_loopw [5, 1] (fun i kk wr => ∃ j : Nat, j ≤ n ∧ i = .int .i64 j ∧ kk = .int .i64 ((k + j : Nat) : Int) ∧ Below w.heap.size w wr) (fun i _ _ => n - (intOf i).toNat)
  case atStart => exact ⟨0, Nat.zero_le _, rfl, rfl, Below.refl _ _⟩
  case round =>
    obtain ⟨j, hj, rfl, rfl, hbw⟩ := hrel
    by_cases hlt : j < n
    · obtain ⟨b, off, rfl, hc⟩ := (H.out.below hbw) j (by rw [marksS_len]; exact hlt)
      rw [marksS_at k n j hlt] at hc
      have hi' : (j : Int) < (n : Int) := by omega
      have hi0 : (0 : Int) ≤ (j : Int) := by omega
      have HT := Lib.hid (markText (k + j))
      have HK := Lib.hid (fun W (hb : Below wr.heap.size wr W) => (hb.cell (cell_lt hc)).trans hc)
      have h6 : Below wr.heap.size wr wr.drew := (Below.refl _ _).drew
      generalize mkText (k + j) = t at hc HT HK
      have hq : (t.toList == t.toList) = true := by simp
      go_wp2
      go_region_held3 (fun W => W.cell? ⟨b, off + j, none⟩ = some (.string t))
        (first | exact HK.out _ h6 | exact HK.out _ (bt h6 hb1))
        (first | (go_at_call 58; refine (HT.out _ (by omega) (by omega)).mono ?_; rintro e w1 ⟨rfl, hb1⟩))
      go_wp2
      go_roundw
      case rel => exact ⟨j + 1, by omega, by go_num, by go_num, bt hbw (bt h6 hb1)⟩
      case measure => simp [intOf]; omega
    · go_wp2
      go_ret
      have ej : j = n := by omega
      subst ej
      exact ⟨rfl, hbw⟩

def markCell (k x : Nat) : Value := if x % 2 = 0 then .int .i64 ((k + x : Nat) : Int) else .string (mkText (k + x))

theorem OwnS.wide {w : World} {lo hi lo' hi' : Nat} {A : Option Addr} {ss : List ByteArray} (h : OwnS w lo hi A ss) (h1 : lo' ≤ lo) (h2 : hi ≤ hi') : OwnS w lo' hi' A ss := by
  rcases h with e | ⟨b, m, f, e, q1, q2, q3, q4, q5⟩
  · exact .inl e
  · exact .inr ⟨b, m, f, e, by omega, by omega, q3, q4, q5⟩
theorem OwnS.apart {w w' : World} {lo hi l r : Nat} {A : Option Addr} {ss : List ByteArray} (h : OwnS w lo hi A ss) (hb : Btw l r w w') (ha : ∀ b n f, w.rowIs b 9 n f → b < l ∨ r ≤ b) : OwnS w' lo hi A ss := by
  rcases h with e | ⟨b, m, f, e, q1, q2, q3, q4, q5⟩
  · exact .inl e
  · exact .inr ⟨b, m, f, e, q1, q2, q3, hb.row q4 (ha b m f q4), q5⟩
end Go.Proofs.Ythobepmlopegbaa

/- A disk of the call's own behind a box: kept over what is new, and over writes elsewhere. -/
namespace Go.Proofs.Ythobepmlopegbaa
open Go.RowKit

theorem alloc_below (w : World) (o : Obj) : Below w.heap.size w (w.alloc o) := (Below.refl _ _).alloc (Nat.le_refl _) o
end Go.Proofs.Ythobepmlopegbaa

/- Slices of booleans: as lists, of the call's own; contracts of szBoolS, toBoolS, eqBoolS, markBoolS, heldBoolS. -/
namespace Go.Proofs.Ythobepmlopegbaa
open Go.RowKit

/-- The slice at A holds these booleans. -/
def BoolL (w : World) (A : Option Addr) (gs : List Bool) : Prop :=
  ∀ i, i < gs.length → ∃ b off, A = some ⟨b, off, none⟩ ∧ w.cell? ⟨b, off + i, none⟩ = some (.bool (gs.getD i false))
theorem BoolL.below {w w' : World} {A : Option Addr} {gs : List Bool} (h : BoolL w A gs) (hb : Below w.heap.size w w') : BoolL w' A gs := fun i hi => by
  obtain ⟨b, off, e, hc⟩ := h i hi
  exact ⟨b, off, e, (hb.cell (cell_lt hc)).trans hc⟩
/-- A []bool of the call's own. -/
def OwnB (w : World) (lo hi : Nat) (A : Option Addr) (gs : List Bool) : Prop :=
  gs = [] ∨ ∃ b m f, A = some ⟨b, 0, none⟩ ∧ lo ≤ b ∧ b < hi ∧ gs.length ≤ m ∧ w.rowIs b 4 m f ∧ ∀ i, i < gs.length → f i = .bool (gs.getD i false)
theorem OwnB.reads {w : World} {lo hi : Nat} {A : Option Addr} {gs : List Bool} (h : OwnB w lo hi A gs) : BoolL w A gs := fun i hi' => by
  rcases h with rfl | ⟨b, m, f, e, _, _, hm, hr, hf⟩
  · simp at hi'
  · exact ⟨b, 0, e, by rw [← hf i hi', Nat.zero_add]; exact hr.cell (by omega)⟩
theorem OwnB.btw {w w' : World} {lo hi l h' : Nat} {A : Option Addr} {gs : List Bool} (h : OwnB w lo hi A gs) (hb : Btw l h' w w') (ho : hi ≤ l ∨ h' ≤ lo) : OwnB w' lo hi A gs := by
  rcases h with e | ⟨b, m, f, e, h1, h2, hm, hr, hf⟩
  · exact .inl e
  · exact .inr ⟨b, m, f, e, h1, h2, hm, hb.row hr (by omega), hf⟩
theorem OwnB.below {w w' : World} {lo hi : Nat} {A : Option Addr} {gs : List Bool} (h : OwnB w lo hi A gs) (hb : Below w.heap.size w w') : OwnB w' lo hi A gs := h.btw (Btw.of_below hb hi hi) (.inl (Nat.le_refl _))
theorem OwnB.wide {w : World} {lo hi lo' hi' : Nat} {A : Option Addr} {gs : List Bool} (h : OwnB w lo hi A gs) (h1 : lo' ≤ lo) (h2 : hi ≤ hi') : OwnB w lo' hi' A gs := by
  rcases h with e | ⟨b, m, f, e, p1, p2, hm, hr, hf⟩
  · exact .inl e
  · exact .inr ⟨b, m, f, e, by omega, by omega, hm, hr, hf⟩
theorem OwnB.far {w : World} {lo hi : Nat} {A : Option Addr} {gs : List Bool} (h : OwnB w lo hi A gs) {b : Nat} {t : TypeId} {cs : Array Value} (X : Box w b t cs) (ht : t ≠ 4) (i : Nat) (u : Value) : OwnB (w.setCell ⟨b, i, none⟩ u) lo hi A gs := by
  rcases h with e | ⟨b', m, f, e, p1, p2, hm, hr, hf⟩
  · exact .inl e
  · exact .inr ⟨b', m, f, e, p1, p2, hm, hr.setOther (a := ⟨b, i, none⟩) (by exact (X.ne hr ht).symm) u, hf⟩
/-- The block of this row alone. -/
theorem OwnB.narrow {w : World} {lo hi : Nat} {A : Option Addr} {gs : List Bool} (h : OwnB w lo hi A gs) : ∃ l r, lo ≤ l ∧ r ≤ hi ∧ OwnB w l r A gs ∧ ∀ b n f, w.rowIs b 3 n f → b < l ∨ r ≤ b := by
  rcases h with e | ⟨b, m, f, e, q1, q2, q3, q4, q5⟩
  · exact ⟨lo, 0, Nat.le_refl _, Nat.zero_le _, .inl e, fun _ _ _ _ => .inr (Nat.zero_le _)⟩
  · refine ⟨b, b + 1, q1, by omega, .inr ⟨b, m, f, e, Nat.le_refl _, by omega, q3, q4, q5⟩, fun b' n' f' h' => ?_⟩
    have := row_ne q4 h' (by decide)
    omega
theorem OwnB.apart {w w' : World} {lo hi l r : Nat} {A : Option Addr} {gs : List Bool} (h : OwnB w lo hi A gs) (hb : Btw l r w w') (ha : ∀ b n f, w.rowIs b 4 n f → b < l ∨ r ≤ b) : OwnB w' lo hi A gs := by
  rcases h with e | ⟨b, m, f, e, q1, q2, q3, q4, q5⟩
  · exact .inl e
  · exact .inr ⟨b, m, f, e, q1, q2, q3, hb.row q4 (ha b m f q4), q5⟩
/-- The same of a []int against a []bool. -/
theorem OwnI.narrowB {w : World} {lo hi : Nat} {A : Option Addr} {zs : List Int} (h : OwnI w lo hi A zs) : ∃ l r, lo ≤ l ∧ r ≤ hi ∧ OwnI w l r A zs ∧ ∀ b n f, w.rowIs b 4 n f → b < l ∨ r ≤ b := by
  rcases h with e | ⟨b, m, f, e, q1, q2, q3, q4, q5⟩
  · exact ⟨lo, 0, Nat.le_refl _, Nat.zero_le _, .inl e, fun _ _ _ _ => .inr (Nat.zero_le _)⟩
  · refine ⟨b, b + 1, q1, by omega, .inr ⟨b, m, f, e, Nat.le_refl _, by omega, q3, q4, q5⟩, fun b' n' f' h' => ?_⟩
    have := row_ne q4 h' (by decide)
    omega
theorem OwnI.apartB {w w' : World} {lo hi l r : Nat} {A : Option Addr} {zs : List Int} (h : OwnI w lo hi A zs) (hb : Btw l r w w') (ha : ∀ b n f, w.rowIs b 3 n f → b < l ∨ r ≤ b) : OwnI w' lo hi A zs := by
  rcases h with e | ⟨b, m, f, e, q1, q2, q3, q4, q5⟩
  · exact .inl e
  · exact .inr ⟨b, m, f, e, q1, q2, q3, hb.row q4 (ha b m f q4), q5⟩
theorem OwnI.wideB {w : World} {lo hi lo' hi' : Nat} {A : Option Addr} {zs : List Int} (h : OwnI w lo hi A zs) (h1 : lo' ≤ lo) (h2 : hi ≤ hi') : OwnI w lo' hi' A zs := by
  rcases h with e | ⟨b, m, f, e, p1, p2, hm, hr, hf⟩
  · exact .inl e
  · exact .inr ⟨b, m, f, e, by omega, by omega, hm, hr, hf⟩
theorem OwnI.farB {w : World} {lo hi : Nat} {A : Option Addr} {zs : List Int} (h : OwnI w lo hi A zs) {b : Nat} {t : TypeId} {cs : Array Value} (X : Box w b t cs) (ht : t ≠ 3) (i : Nat) (u : Value) : OwnI (w.setCell ⟨b, i, none⟩ u) lo hi A zs := by
  rcases h with e | ⟨b', m, f, e, p1, p2, hm, hr, hf⟩
  · exact .inl e
  · exact .inr ⟨b', m, f, e, p1, p2, hm, hr.setOther (a := ⟨b, i, none⟩) (by exact (X.ne hr ht).symm) u, hf⟩

set_option maxRecDepth 100000 in
theorem szBoolS (A : Option Addr) (n c : Nat) (left : Int) (w : World) (hn : n ≤ maxLen) (h0 : 0 ≤ left) (h1 : left ≤ 1048576) :
    Calls Try.prog 51 #[.slice A n c, .int .i64 left] w (Left left n w) := by
  unfold maxLen at hn
  by_cases hb : left < n
  · have hb' : left - (n : Int) < 0 := by omega
    go_enter Try.func51, Try.ntmps51
    go_wp2
    go_ret
    exact ⟨.inl rfl, Below.refl _ _⟩
  · have hb' : ¬ left - (n : Int) < 0 := by omega
    go_enter Try.func51, Try.ntmps51
    go_wp2
    go_ret
    exact ⟨.inr ⟨rfl, by omega⟩, Below.refl _ _⟩

set_option maxRecDepth 100000 in
theorem infoB : (Try.prog.info? 4).map (fun i => (i.zero, i.size, i.bytes)) = some (some (.bool false), 1, 1) := by kernel_rfl

/-- The call hands back a []bool of its own. -/
def GivesBools (gs : List Bool) (w : World) (e : Ending) (w' : World) : Prop :=
  ∃ A n c, e = .returned (.slice A n c) ∧ Hid (gs.length = n) ∧ Hid (OwnB w' w.heap.size w'.heap.size A gs) ∧ n ≤ c ∧ Below w.heap.size w w'

set_option maxRecDepth 100000 in
set_option maxHeartbeats 1000000 in
theorem toBoolS (A : Option Addr) (n c : Nat) (zs : List Bool) (w : World) (hl : zs.length = n) (hn : n ≤ 1048576) (h : BoolL w A zs) :
    Calls Try.prog 53 #[.slice A n c] w (GivesBools zs w) := by
  have HL := Lib.hid hl
  have H := Lib.hid h
  clear hl h
  have hmk := fun W => run_make_row' (P := Try.prog) 24 4 (.bool false) 1 Try.underlying24 infoB rfl .i64 .i64 n (by omega) (by omega) W
  go_enter Try.func53, Try.ntmps53
  go_wp2
  clear hmk
  have hrow := World.rowIs_made w (.bool false) n 4
  have hbel : Below w.heap.size w (w.alloc (.cells (madeCells #[.bool false] n) 4)) := (Below.refl _ _).alloc (Nat.le_refl _) _
  have HR := Lib.hid hrow
  clear hrow
  generalize w.alloc (.cells (madeCells #[.bool false] n) 4) = wa at hbel HR ⊢
  go_loopw [4] (fun i wr => ∃ k : Nat, k ≤ n ∧ i = .int .i64 k ∧ Below w.heap.size w wr ∧ wr.rowIs w.heap.size 4 n (fun j => if j < k then .bool (zs.getD j false) else .bool false)) (fun i _ => n - (intOf i).toNat)
  case atStart => exact ⟨0, Nat.zero_le _, rfl, hbel, HR.out.congr (fun i _ => by simp)⟩
  case round =>
    obtain ⟨k, hk, rfl, hbw, hrw⟩ := hrel
    by_cases hlt : k < n
    · obtain ⟨b, off, rfl, hc⟩ := (H.out.below hbw) k (by rw [HL.out]; exact hlt)
      have hcd := hrw.cell hlt
      have hfr := hrw.frozen k
      have HW := Lib.hid (hrw.set k (.bool (zs.getD k false)))
      simp only [Nat.lt_irrefl, if_false] at hcd
      clear hrw
      generalize hx : zs.getD k false = x at hc HW
      have HX := Lib.hid hx
      clear hx
      have hi : (k : Int) < (n : Int) := by omega
      go_wp2
      go_roundw
      case rel =>
        refine ⟨k + 1, by omega, by go_num, hbw.setCell (Nat.le_refl _) _, HW.out.congr (fun i _ => ?_)⟩
        show (if i = k then Value.bool x else if i < k then _ else _) = _
        by_cases e : i = k
        · subst e; rw [if_pos rfl, if_pos (by omega), HX.out]
        · rw [if_neg e]
          by_cases e2 : i < k
          · rw [if_pos e2, if_pos (by omega)]
          · rw [if_neg e2, if_neg (by omega)]
      case measure => simp [intOf]; omega
    · have HRW := Lib.hid hrw
      clear hrw
      go_wp2
      go_ret
      have ek : k = n := by omega
      subst ek
      exact ⟨_, _, _, rfl, HL, Lib.hid (.inr ⟨w.heap.size, k, _, rfl, Nat.le_refl _, HRW.out.lt, by rw [HL.out]; omega, HRW.out, fun i hi => by rw [if_pos (by rw [HL.out] at hi; exact hi)]⟩), Nat.le_refl _, hbw⟩

set_option maxRecDepth 100000 in
set_option maxHeartbeats 1000000 in
theorem eqBoolSame (A A' : Option Addr) (n n' c c' : Nat) (zs : List Bool) (w : World) (hl : zs.length = n) (hl' : zs.length = n') (hn : n ≤ maxLen) (h : BoolL w A zs) (h' : BoolL w A' zs) :
    Calls Try.prog 55 #[.slice A n c, .slice A' n' c'] w fun e w' => e = .returned (.bool true) ∧ Below w.heap.size w w' := by
  unfold maxLen at hn
  have HL := Lib.hid hl
  obtain rfl : n = n' := by omega
  have H := Lib.hid h
  have H' := Lib.hid h'
  clear hl hl' h h'
  have hb : ((n : Int) != (n : Int)) = false := by simp
  go_enter Try.func55, Try.ntmps55
  go_wp2
  go_loopw [5] (fun i wr => ∃ k : Nat, k ≤ n ∧ i = .int .i64 k ∧ Below w.heap.size w wr) (fun i _ => n - (intOf i).toNat)
  case atStart => exact ⟨0, Nat.zero_le _, rfl, Below.refl _ _⟩
  case round =>
    obtain ⟨k, hk, rfl, hbw⟩ := hrel
    by_cases hlt : k < n
    · obtain ⟨b, off, rfl, hc⟩ := (H.out.below hbw) k (by rw [HL.out]; exact hlt)
      obtain ⟨b', off', rfl, hc'⟩ := (H'.out.below hbw) k (by rw [HL.out]; exact hlt)
      generalize zs.getD k false = x at hc hc'
      have hi : (k : Int) < (n : Int) := by omega
      have hq1 : (x != x) = false := by simp
      have hq2 : (x == x) = true := by simp
      go_wp2
      go_quiet (fail)
      go_wp2
      go_roundw
      case rel => exact ⟨k + 1, by omega, by go_num, below_drewN hbw _⟩
      case measure => simp [intOf]; omega
    · go_wp2
      go_ret
      exact ⟨rfl, hbw⟩

def marksB (k n : Nat) : List Bool := (List.range n).map fun i => decide ((k + i) % 3 = 0)
theorem marksB_len (k n : Nat) : (marksB k n).length = n := by simp [marksB]
theorem marksB_at (k n i : Nat) (h : i < n) : (marksB k n).getD i false = decide ((k + i) % 3 = 0) := by simp [marksB, List.getD_eq_getElem?_getD, h]
def MarkedBs (lo hi : Nat) (A : Option Addr) (k n : Nat) (w : World) (e : Ending) (w' : World) : Prop :=
  e = .returned (.int .i64 ((k + n : Nat) : Int)) ∧ Hid (OwnB w' lo hi A (marksB k n)) ∧ Btw lo hi w w'
theorem rem3 (z : Nat) : ((z : Int) % 3 == 0) = decide (z % 3 = 0) := by
  rw [Bool.eq_iff_iff]
  simp only [beq_iff_eq, decide_eq_true_eq]
  omega

set_option maxRecDepth 100000 in
set_option maxHeartbeats 2000000 in
theorem markBoolS (A : Option Addr) (n c k lo hi : Nat) (zs : List Bool) (w : World) (hl : zs.length = n) (hk : 1 ≤ k) (hn : n ≤ 1099511627776) (hk2 : k + n ≤ 1099511627776) (h : OwnB w lo hi A zs) :
    Calls Try.prog 57 #[.slice A n c, .int .i64 k] w (MarkedBs lo hi A k n w) := by
  rcases h with rfl | ⟨b, m, f, rfl, h1, h2, hm, hr, hf⟩
  · obtain rfl : n = 0 := hl.symm
    go_enter Try.func57, Try.ntmps57
    go_wp2
    go_loop [5, 1] (fun i kk => i = .int .i64 0 ∧ kk = .int .i64 k) (fun _ _ => 0)
    case atStart => exact ⟨rfl, rfl⟩
    case round =>
      obtain ⟨rfl, rfl⟩ := hrel
      go_wp2
      go_ret
      exact ⟨rfl, Lib.hid (.inl rfl), Btw.refl _ _ _⟩
  · have HM : Hid (n ≤ m) := Lib.hid (by omega)
    have HR := Lib.hid hr
    clear hl hm hr hf
    go_enter Try.func57, Try.ntmps57
    go_wp2
    go_loopw [5, 1] (fun i kk wr => ∃ j : Nat, j ≤ n ∧ i = .int .i64 j ∧ kk = .int .i64 ((k + j : Nat) : Int) ∧ Btw lo hi w wr ∧ Hid (wr.rowIs b 4 m (fun x => if x < j then .bool (decide ((k + x) % 3 = 0)) else f x))) (fun i _ _ => n - (intOf i).toNat)
    case atStart => exact ⟨0, Nat.zero_le _, rfl, rfl, Btw.refl _ _ _, Lib.hid (HR.out.congr (fun i _ => by simp))⟩
    case round =>
      obtain ⟨j, hj, rfl, rfl, hbw, HW⟩ := hrel
      by_cases hlt : j < n
      · have hi' : (j : Int) < (n : Int) := by omega
        have hc := HW.out.cell (i := j) (by have := HM.out; omega)
        simp only [Nat.lt_irrefl, if_false] at hc
        have hfz := HW.out.frozen j
        generalize hz : k + j = z
        have HZ := Lib.hid hz
        have hz1 : z + 1 ≤ 1099511627776 := by omega
        have h3 := rem3 z
        have HS := Lib.hid (HW.out.set j (.bool (decide (z % 3 = 0))))
        generalize hq : decide (z % 3 = 0) = q at h3 HS
        have HQ := Lib.hid hq
        clear HW hz hq
        generalize f j = y at hc
        go_wp2
        go_roundw
        case rel =>
          refine ⟨j + 1, by omega, by go_num, by have := HZ.out; congr 1; omega, hbw.setCell h1 h2 _, Lib.hid (HS.out.congr (fun x _ => ?_))⟩
          show (if x = j then Value.bool q else if x < j then _ else _) = _
          by_cases e : x = j
          · subst e; rw [if_pos rfl, if_pos (by omega), HZ.out, HQ.out]
          · rw [if_neg e]
            by_cases e2 : x < j
            · rw [if_pos e2, if_pos (by omega)]
            · rw [if_neg e2, if_neg (by omega)]
        case measure => simp [intOf]; omega
      · go_wp2
        go_ret
        have ej : j = n := by omega
        subst ej
        exact ⟨rfl, Lib.hid (.inr ⟨b, m, _, rfl, h1, h2, by rw [marksB_len]; exact HM.out, HW.out, fun i hi' => by rw [marksB_len] at hi'; rw [if_pos hi', marksB_at k j i hi']⟩), hbw⟩

set_option maxRecDepth 100000 in
set_option maxHeartbeats 2000000 in
theorem heldBoolS (A : Option Addr) (n c k : Nat) (w : World) (hk : 1 ≤ k) (hk2 : k + n ≤ 1099511627776) (h : BoolL w A (marksB k n)) :
    Calls Try.prog 62 #[.slice A n c, .int .i64 k] w fun e w' => e = .returned (.int .i64 ((k + n : Nat) : Int)) ∧ w = w' := by
  have H := Lib.hid h
  clear h
  go_enter Try.func62, Try.ntmps62
  go_wp2
  go_loop [5, 1] (fun i kk => ∃ j : Nat, j ≤ n ∧ i = .int .i64 j ∧ kk = .int .i64 ((k + j : Nat) : Int)) (fun i _ => n - (intOf i).toNat)
  case atStart => exact ⟨0, Nat.zero_le _, rfl, rfl⟩
  case round =>
    obtain ⟨j, hj, rfl, rfl⟩ := hrel
    by_cases hlt : j < n
    · obtain ⟨b, off, rfl, hc⟩ := H.out j (by rw [marksB_len]; exact hlt)
      rw [marksB_at k n j hlt] at hc
      have hi' : (j : Int) < (n : Int) := by omega
      generalize hz : k + j = z at hc
      have HZ := Lib.hid hz
      have hz1 : z + 1 ≤ 1099511627776 := by omega
      have h3 := rem3 z
      generalize decide (z % 3 = 0) = q at h3 hc
      have hq : (q != q) = false := by simp
      clear hz
      go_wp2
      go_round
      case rel => exact ⟨j + 1, by omega, by go_num, by have := HZ.out; congr 1; omega⟩
      case measure => simp [intOf]; omega
    · go_wp2
      go_ret
      have ej : j = n := by omega
      subst ej
      exact ⟨rfl, rfl⟩
end Go.Proofs.Ythobepmlopegbaa

/- Contracts of szFlash, toFlash, eqFlash, markFlash, heldFlash; a flash behind a box. -/
namespace Go.Proofs.Ythobepmlopegbaa
open Go.RowKit

/-- Block b holds this flash; its rows lie from lo on and below hi. -/
structure BF (w : World) (b lo hi : Nat) (A : Option Addr) (n c : Nat) (C : Option Addr) (m d : Nat) (st : Int) (zs : List Int) (gs : List Bool) : Prop where
  box : Box w b 26 #[.slice A n c, .slice C m d, .int .i64 st]
  s : OwnI w lo hi A zs
  r : OwnB w lo hi C gs
section
variable {w w' : World} {b lo hi : Nat} {A : Option Addr} {n c : Nat} {C : Option Addr} {m d : Nat} {st : Int} {zs : List Int} {gs : List Bool}
theorem BF.step (h : BF w b lo hi A n c C m d st zs gs) (hb : Below w.heap.size w w') : BF w' b lo hi A n c C m d st zs gs := ⟨h.box.step hb, h.s.below hb, h.r.below hb⟩
theorem BF.btw {l r : Nat} (h : BF w b lo hi A n c C m d st zs gs) (hb : Btw l r w w') (h1 : b < l ∨ r ≤ b) (h2 : hi ≤ l ∨ r ≤ lo) : BF w' b lo hi A n c C m d st zs gs := ⟨h.box.btw hb h1, h.s.btw hb h2, h.r.btw hb h2⟩
theorem BF.new (hs : OwnI w lo hi A zs) (hr : OwnB w lo hi C gs) : BF (w.alloc (.cells #[.slice A n c, .slice C m d, .int .i64 st] 26)) w.heap.size lo hi A n c C m d st zs gs :=
  ⟨Box.new _ _ _, hs.below (alloc_below w _), hr.below (alloc_below w _)⟩
theorem BF.f0 (h : BF w b lo hi A n c C m d st zs gs) : w.cell? ⟨b, 0, none⟩ = some (.slice A n c) := h.box.cell 0 rfl
theorem BF.f1 (h : BF w b lo hi A n c C m d st zs gs) : w.cell? ⟨b, 1, none⟩ = some (.slice C m d) := h.box.cell 1 rfl
theorem BF.f2 (h : BF w b lo hi A n c C m d st zs gs) : w.cell? ⟨b, 2, none⟩ = some (.int .i64 st) := h.box.cell 2 rfl
end

/-- The call hands back a flash of its own. -/
def GivesFlash (zs : List Int) (gs : List Bool) (st : Int) (w : World) (e : Ending) (w' : World) : Prop :=
  ∃ A n c C m d, e = .returned (.agg #[.slice A n c, .slice C m d, .int .i64 st]) ∧ Hid (zs.length = n) ∧ Hid (gs.length = m) ∧ Hid (OwnI w' w.heap.size w'.heap.size A zs) ∧ Hid (OwnB w' w.heap.size w'.heap.size C gs) ∧ Below w.heap.size w w'
/-- The same, and the capacity of its cells is no less than their number. -/
def GivesFlashC (zs : List Int) (gs : List Bool) (st : Int) (w : World) (e : Ending) (w' : World) : Prop :=
  ∃ A n c C m d, e = .returned (.agg #[.slice A n c, .slice C m d, .int .i64 st]) ∧ Hid (zs.length = n) ∧ Hid (gs.length = m) ∧ Hid (OwnI w' w.heap.size w'.heap.size A zs) ∧ Hid (OwnB w' w.heap.size w'.heap.size C gs) ∧ Hid (n ≤ c) ∧ Below w.heap.size w w'
theorem GivesFlashC.plain {zs : List Int} {gs : List Bool} {st : Int} {w : World} {e : Ending} {w' : World} : GivesFlashC zs gs st w e w' → GivesFlash zs gs st w e w' := by
  rintro ⟨A, n, c, C, m, d, h, L, M, S, R, _, hb⟩
  exact ⟨A, n, c, C, m, d, h, L, M, S, R, hb⟩
/-- The call hands back a flash of its own and a code. -/
def GivesFlashCode (zs : List Int) (gs : List Bool) (st code : Int) (w : World) (e : Ending) (w' : World) : Prop :=
  ∃ A n c C m d, e = .returned (.tuple #[.agg #[.slice A n c, .slice C m d, .int .i64 st], .int .i64 code]) ∧ Hid (zs.length = n) ∧ Hid (gs.length = m) ∧ Hid (OwnI w' w.heap.size w'.heap.size A zs) ∧ Hid (OwnB w' w.heap.size w'.heap.size C gs) ∧ Below w.heap.size w w'

set_option maxRecDepth 100000 in
theorem szFlash (A C : Option Addr) (n c m d : Nat) (st left : Int) (w : World) (hn : n ≤ maxLen) (hmm : m ≤ maxLen) (h0 : 0 ≤ left) (h1 : left ≤ 1048576) :
    Calls Try.prog 20 #[.agg #[.slice A n c, .slice C m d, .int .i64 st], .int .i64 left] w (Left left (n + m) w) := by
  have HS := Lib.hid (fun W => szIntS A n c left W hn h0 h1)
  have HT := Lib.hid (fun l W h0 h1 => szBoolS C m d l W hmm h0 h1)
  have hb0 := alloc_below w (.cells #[.slice A n c, .slice C m d, .int .i64 st] 42)
  have X := Lib.hid (Box.new w 42 #[.slice A n c, .slice C m d, .int .i64 st])
  clear hn hmm
  go_enter Try.func20, Try.ntmps20
  go_wp2_with fail
  refine (HS.out _).mono ?_
  rintro e w1 ⟨hres, hb1⟩
  have f1 := (X.out.step hb1).cell 1 rfl
  have hb := bt hb0 hb1
  clear hb1 X hb0
  rcases hres with rfl | ⟨rfl, hle⟩
  · go_wp2
    go_ret
    exact ⟨.inl rfl, hb⟩
  · have hp : ¬ left - (n : Int) < 0 := by omega
    go_wp2_with fail
    refine (HT.out _ _ (by omega) (by omega)).mono ?_
    rintro e w2 ⟨hres, hb2⟩
    have hb3 := bt hb hb2
    clear hb hb2 f1
    rcases hres with rfl | ⟨rfl, hle2⟩
    · go_wp2
      go_ret
      exact ⟨.inl rfl, hb3⟩
    · have hp2 : ¬ left - (n : Int) - (m : Int) < 0 := by omega
      go_wp2
      go_ret
      exact ⟨.inr ⟨ret_int (by omega), by omega⟩, hb3⟩

set_option maxRecDepth 100000 in
set_option maxHeartbeats 2000000 in
theorem toFlashC (A C : Option Addr) (n c m d : Nat) (st : Int) (zs : List Int) (gs : List Bool) (w : World) (hl : zs.length = n) (hm : gs.length = m) (hn : n ≤ 1048576) (hmm : m ≤ 1048576) (h : IntL w A zs) (g : BoolL w C gs) :
    Calls Try.prog 22 #[.agg #[.slice A n c, .slice C m d, .int .i64 st]] w (GivesFlashC zs gs st w) := by
  obtain ⟨W0, hW0⟩ : ∃ W0, W0 = (((w.alloc (.cells #[.slice A n c, .slice C m d, .int .i64 st] 42)).alloc (.cells #[.slice none 0 0, .slice none 0 0, .int .i64 0] 26)).alloc (.cells #[.slice none 0 0, .slice none 0 0, .int .i64 0] 26)) := ⟨_, rfl⟩
  have hs0 : W0.heap.size = w.heap.size + 1 + 1 + 1 := by rw [hW0]; simp
  have hb0 : Below w.heap.size w W0 := by rw [hW0]; exact (((Below.refl _ _).alloc (Nat.le_refl _) _).alloc (by simp) _).alloc (by simp; omega) _
  have X0 : Box W0 w.heap.size 42 #[.slice A n c, .slice C m d, .int .i64 st] := by rw [hW0]; exact ((Box.new _ _ _).alloc _).alloc _
  have X1 : Box W0 (w.heap.size + 1) 26 #[.slice none 0 0, .slice none 0 0, .int .i64 0] := by
    rw [hW0]
    simpa using (Box.new (w.alloc (.cells #[.slice A n c, .slice C m d, .int .i64 st] 42)) 26 #[.slice none 0 0, .slice none 0 0, .int .i64 0]).alloc (.cells #[.slice none 0 0, .slice none 0 0, .int .i64 0] 26)
  have X2 : Box W0 (w.heap.size + 1 + 1) 26 #[.slice none 0 0, .slice none 0 0, .int .i64 0] := by
    rw [hW0]
    simpa using Box.new ((w.alloc (.cells #[.slice A n c, .slice C m d, .int .i64 st] 42)).alloc (.cells #[.slice none 0 0, .slice none 0 0, .int .i64 0] 26)) 26 #[.slice none 0 0, .slice none 0 0, .int .i64 0]
  have HT := Lib.hid (toIntSc A n c zs W0 hl hn (h.below hb0))
  have HU := Lib.hid (fun W (hb : Below w.heap.size w W) => toBoolS C m d gs W hm hmm (g.below hb))
  have HX := Lib.hid (And.intro X0 (And.intro X1 X2))
  have HW0 := Lib.hid hW0
  have HS0 := Lib.hid hs0
  clear hl hm hn hmm h g X0 X1 X2 hW0 hs0
  go_enter Try.func22, Try.ntmps22
  go_wp2_with fail
  rw [← HW0.out]
  refine HT.out.mono ?_
  rintro e w1 ⟨A1, n1, c1, rfl, L1, S1, K1, hb1⟩
  have KC := Lib.hid K1
  clear K1
  have Y0 := HX.out.1.step hb1
  have Y1 := HX.out.2.1.step hb1
  have Y2 := HX.out.2.2.step hb1
  have f1 := Y0.cell 1 rfl
  have f2 := Y2.cell 0 rfl
  have f3 := Y2.frozen 0
  have HZ := Lib.hid (And.intro (Y0.far (p := ⟨w.heap.size + 1 + 1, 0, none⟩) (by show w.heap.size ≠ w.heap.size + 1 + 1; omega) (.slice A1 n1 c1)) (And.intro (Y1.far (p := ⟨w.heap.size + 1 + 1, 0, none⟩) (by show w.heap.size + 1 ≠ w.heap.size + 1 + 1; omega) (.slice A1 n1 c1)) (Y2.set 0 (.slice A1 n1 c1))))
  have HS2 := Lib.hid ((S1.out.wideB hb0.size (Nat.le_refl _)).farB Y2 (by decide) 0 (.slice A1 n1 c1))
  have hb2 : Below w.heap.size w (w1.setCell ⟨w.heap.size + 1 + 1, 0, none⟩ (.slice A1 n1 c1)) := (bt hb0 hb1).setCell (by show w.heap.size ≤ w.heap.size + 1 + 1; omega) _
  have HE1 : Hid (w1.heap.size = (w1.setCell ⟨w.heap.size + 1 + 1, 0, none⟩ (.slice A1 n1 c1)).heap.size) := Lib.hid (by simp [World.setCell])
  rw [HE1.out] at HS2
  clear HX HT HW0 Y0 Y1 Y2 S1 HE1 hb0 hb1
  go_wp2_with fail
  generalize w1.setCell ⟨w.heap.size + 1 + 1, 0, none⟩ (.slice A1 n1 c1) = w2 at HZ HS2 hb2 ⊢
  refine (HU.out w2 hb2).mono ?_
  rintro e w3 ⟨A3, n3, c3, rfl, L3, S3, _, hb3⟩
  have V0 := HZ.out.1.step hb3
  have V1 := HZ.out.2.1.step hb3
  have V2 := HZ.out.2.2.step hb3
  have g0 : w3.cell? ⟨w.heap.size, 2, none⟩ = some (.int .i64 st) := V0.cell 2 rfl
  have g1 : w3.cell? ⟨w.heap.size + 1, 0, none⟩ = some (.slice none 0 0) := V1.cell 0 rfl
  have g2 : w3.cell? ⟨w.heap.size + 1, 1, none⟩ = some (.slice none 0 0) := V1.cell 1 rfl
  have g2' : w3.cell? ⟨w.heap.size + 1, 2, none⟩ = some (.int .i64 0) := V1.cell 2 rfl
  have g3 := V1.frozen 0
  have g4 := V1.frozen 1
  have g4' := V1.frozen 2
  have g5 : w3.cell? ⟨w.heap.size + 1 + 1, 0, none⟩ = some (.slice A1 n1 c1) := V2.cell 0 rfl
  have g6 : w3.cell? ⟨w.heap.size + 1 + 1, 1, none⟩ = some (.slice none 0 0) := V2.cell 1 rfl
  have g6' : w3.cell? ⟨w.heap.size + 1 + 1, 2, none⟩ = some (.int .i64 0) := V2.cell 2 rfl
  have g7 := V2.frozen 1
  have g7' := V2.frozen 2
  have HV := Lib.hid (And.intro V1 V2)
  have HS4 := Lib.hid ((HS2.out.below hb3).wideB (Nat.le_refl _) hb3.size)
  have HS5 := Lib.hid (S3.out.wide hb2.size (Nat.le_refl _))
  have hb4 := bt hb2 hb3
  clear HZ HS2 S3 V0 V1 V2 hb2 hb3 f1 f2 f3
  go_wp2
  refine bodyPost_ret (v := .agg #[.slice A1 n1 c1, .slice A3 n3 c3, .int .i64 st]) (by simp [results, Try.results22, go_sem, g1, g2, g2']) rfl ?_
  have v2 := HV.out.2.set 1 (.slice A3 n3 c3)
  have v1 := (HV.out.1.far (p := ⟨w.heap.size + 1 + 1, 1, none⟩) (by show w.heap.size + 1 ≠ w.heap.size + 1 + 1; omega) (.slice A3 n3 c3)).far (p := ⟨w.heap.size + 1 + 1, 2, none⟩) (by show w.heap.size + 1 ≠ w.heap.size + 1 + 1; omega) (.int .i64 st)
  refine ⟨_, _, _, _, _, _, rfl, L1, L3, Lib.hid ?_, Lib.hid ?_, KC, ?_⟩
  · have q := (HS4.out.farB HV.out.2 (by decide) 1 (.slice A3 n3 c3)).farB v2 (by decide) 2 (.int .i64 st)
    exact (((q.farB v1 (by decide) 0 _).farB (v1.set 0 _) (by decide) 1 _).farB ((v1.set 0 _).set 1 _) (by decide) 2 _).wideB (Nat.le_refl _) (by simp [World.setCell])
  · have q := (HS5.out.far HV.out.2 (by decide) 1 (.slice A3 n3 c3)).far v2 (by decide) 2 (.int .i64 st)
    exact (((q.far v1 (by decide) 0 _).far (v1.set 0 _) (by decide) 1 _).far ((v1.set 0 _).set 1 _) (by decide) 2 _).wide (Nat.le_refl _) (by simp [World.setCell])
  · exact ((((hb4.setCell (by show w.heap.size ≤ w.heap.size + 1 + 1; omega) _).setCell (by show w.heap.size ≤ w.heap.size + 1 + 1; omega) _).setCell (by show w.heap.size ≤ w.heap.size + 1; omega) _).setCell (by show w.heap.size ≤ w.heap.size + 1; omega) _).setCell (by show w.heap.size ≤ w.heap.size + 1; omega) _

set_option maxRecDepth 100000 in
theorem toFlash (A C : Option Addr) (n c m d : Nat) (st : Int) (zs : List Int) (gs : List Bool) (w : World) (hl : zs.length = n) (hm : gs.length = m) (hn : n ≤ 1048576) (hmm : m ≤ 1048576) (h : IntL w A zs) (g : BoolL w C gs) :
    Calls Try.prog 22 #[.agg #[.slice A n c, .slice C m d, .int .i64 st]] w (GivesFlash zs gs st w) :=
  (toFlashC A C n c m d st zs gs w hl hm hn hmm h g).mono fun _ _ h => h.plain

set_option maxRecDepth 100000 in
theorem eqFlashSame (A A' C C' : Option Addr) (n n' m m' c c' d d' : Nat) (st : Int) (zs : List Int) (gs : List Bool) (w : World)
    (hl : zs.length = n) (hl' : zs.length = n') (hm : gs.length = m) (hm' : gs.length = m') (hn : n ≤ maxLen) (gn : m ≤ maxLen)
    (h : IntL w A zs) (h' : IntL w A' zs) (g : BoolL w C gs) (g' : BoolL w C' gs) :
    Calls Try.prog 24 #[.agg #[.slice A n c, .slice C m d, .int .i64 st], .agg #[.slice A' n' c', .slice C' m' d', .int .i64 st]] w fun e w' => e = .returned (.bool true) ∧ Below w.heap.size w w' := by
  have H1 := Lib.hid (fun W hb => eqIntSame A A' n n' c c' zs W hl hl' hn (h.below hb) (h'.below hb))
  have H2 := Lib.hid (fun W hb => eqBoolSame C C' m m' d d' gs W hm hm' gn (g.below hb) (g'.below hb))
  obtain ⟨W0, hW0⟩ : ∃ W0, W0 = ((w.alloc (.cells #[.slice A n c, .slice C m d, .int .i64 st] 26)).alloc (.cells #[.slice A' n' c', .slice C' m' d', .int .i64 st] 26)) := ⟨_, rfl⟩
  have hb0 : Below w.heap.size w W0 := by rw [hW0]; exact ((Below.refl _ _).alloc (Nat.le_refl _) _).alloc (by simp) _
  have X0 : Hid (Box W0 w.heap.size 26 #[.slice A n c, .slice C m d, .int .i64 st]) := Lib.hid (by rw [hW0]; exact (Box.new _ _ _).alloc _)
  have Y0 : Hid (Box W0 (w.heap.size + 1) 26 #[.slice A' n' c', .slice C' m' d', .int .i64 st]) := Lib.hid (by rw [hW0]; simpa using Box.new (w.alloc (.cells #[.slice A n c, .slice C m d, .int .i64 st] 26)) 26 #[.slice A' n' c', .slice C' m' d', .int .i64 st])
  have HW0 := Lib.hid hW0
  have hq : (st != st) = false := by simp
  clear hl hl' hm hm' hn gn h h' g g' hW0
  go_enter Try.func24, Try.ntmps24
  go_wp2_with fail
  rw [← HW0.out]
  refine (H1.out _ hb0).mono ?_
  rintro e w1 ⟨rfl, hb1⟩
  have X1 := Lib.hid (X0.out.step hb1)
  have Y1 := Lib.hid (Y0.out.step hb1)
  have f1 := X1.out.cell 1 rfl
  have f2 := Y1.out.cell 1 rfl
  have hb := bt hb0 hb1
  clear X0 Y0 HW0 hb0 hb1 H1
  go_wp2_with fail
  refine (H2.out _ hb).mono ?_
  rintro e w2 ⟨rfl, hb2⟩
  have k1 := (X1.out.step hb2).cell 2 rfl
  have k2 := (Y1.out.step hb2).cell 2 rfl
  have hb3 := bt hb hb2
  clear X1 Y1 H2 f1 f2 hb hb2
  go_wp2
  go_ret
  exact ⟨rfl, hb3⟩

/-- What the marks of a flash leave. -/
def MarkedFlash (lo hi : Nat) (A C : Option Addr) (k n m : Nat) (w : World) (e : Ending) (w' : World) : Prop :=
  e = .returned (.int .i64 ((k + n + m : Nat) : Int)) ∧ Hid (OwnI w' lo hi A (marksI k n)) ∧ Hid (OwnB w' lo hi C (marksB (k + n) m)) ∧ Btw lo hi w w'

set_option maxRecDepth 100000 in
set_option maxHeartbeats 2000000 in
theorem markFlash (A C : Option Addr) (n c m d lo hi : Nat) (st : Int) (zs : List Int) (gs : List Bool) (w : World) (hl : zs.length = n) (hm : gs.length = m) (hn : n ≤ 4294967296) (hmm : m ≤ 4294967296) (h : OwnI w lo hi A zs) (g : OwnB w lo hi C gs) (hhi : hi ≤ w.heap.size) :
    Calls Try.prog 26 #[.agg #[.slice A n c, .slice C m d, .int .i64 st], .int .i64 1] w (MarkedFlash lo hi A C 1 n m w) := by
  have hb0 := alloc_below w (.cells #[.slice A n c, .slice C m d, .int .i64 st] 26)
  obtain ⟨l, r, q1, q2, h', q3⟩ := (h.below hb0).narrowB
  have HC := Lib.hid (markIntSs A n c 1 l r zs _ hl (by omega) (by omega) (by omega) h')
  have HD := Lib.hid (fun l r W (hw : OwnB W l r C gs) => markBoolS C m d (1 + n) l r gs W hm (by omega) (by omega) (by omega) hw)
  have X := Lib.hid (Box.new w 26 #[.slice A n c, .slice C m d, .int .i64 st])
  have G := Lib.hid (g.below hb0)
  have HT := Lib.hid (Btw.of_below hb0 lo hi)
  have HQ := Lib.hid q3
  clear hl hm h g hb0 h' q3
  go_enter Try.func26, Try.ntmps26
  go_wp2_with fail
  refine HC.out.mono ?_
  rintro e w1 ⟨rfl, HS1, hb1⟩
  have X1 := X.out.btw hb1 (by omega)
  have f1 : w1.cell? ⟨w.heap.size, 1, none⟩ = some (.slice C m d) := X1.cell 1 rfl
  have HG1 := Lib.hid (G.out.apart hb1 HQ.out)
  obtain ⟨l2, r2, p1, p2, g', p3⟩ := HG1.out.narrow
  have HB1 := Lib.hid (HT.out.trans (hb1.wide q1 q2))
  have HD2 := Lib.hid (HD.out l2 r2 w1 g')
  have HS2 := Lib.hid (HS1.out.wideB q1 q2)
  have HP := Lib.hid p3
  rw [show ((1 + n : Nat) : Int) = 1 + (n : Int) from by omega] at HD2
  clear X1 HG1 g' p3 hb1 HS1 HC HD X G HT HQ
  go_wp2_with fail
  refine HD2.out.mono ?_
  rintro e w2 ⟨rfl, HW2, hb2⟩
  have HF := Lib.hid (HB1.out.trans (hb2.wide p1 p2))
  have HS3 := Lib.hid (HS2.out.apartB hb2 HP.out)
  have HW3 := Lib.hid (HW2.out.wide p1 p2)
  clear hb2 HS2 HW2 HB1 HD2 HP f1
  go_wp2
  go_ret
  exact ⟨rfl, HS3, HW3, HF.out⟩

set_option maxRecDepth 100000 in
set_option maxHeartbeats 2000000 in
theorem heldFlash (A C : Option Addr) (n c m d : Nat) (st : Int) (w : World) (hn : n ≤ 4294967296) (hmm : m ≤ 4294967296) (h : IntL w A (marksI 1 n)) (g : BoolL w C (marksB (1 + n) m)) :
    Calls Try.prog 32 #[.agg #[.slice A n c, .slice C m d, .int .i64 st], .int .i64 1] w fun e w' => e = .returned (.int .i64 ((1 + n + m : Nat) : Int)) ∧ Below w.heap.size w w' := by
  have hb0 := alloc_below w (.cells #[.slice A n c, .slice C m d, .int .i64 st] 26)
  have HC := Lib.hid (heldIntS A n c 1 _ (by omega) (by omega) (h.below hb0))
  have HD := Lib.hid (fun W (hb : Below w.heap.size w W) => heldBoolS C m d (1 + n) W (by omega) (by omega) (g.below hb))
  clear h g
  go_enter Try.func32, Try.ntmps32
  go_wp2_with fail
  refine HC.out.mono ?_
  rintro e w1 ⟨rfl, rfl⟩
  have hp : ¬ (1 : Int) + (n : Int) < 0 := by omega
  have HD2 := Lib.hid (HD.out _ hb0)
  rw [show ((1 + n : Nat) : Int) = 1 + (n : Int) from by omega] at HD2
  clear HC HD
  go_wp2_with fail
  refine HD2.out.mono ?_
  rintro e w2 ⟨rfl, rfl⟩
  have hp2 : ¬ (1 : Int) + (n : Int) + (m : Int) < 0 := by omega
  go_wp2
  go_ret
  exact ⟨rfl, hb0⟩
end Go.Proofs.Ythobepmlopegbaa

/- Contracts of the tests: isSector, l01In, a write's and a disk's valid, both DiskOK. -/
namespace Go.Proofs.Ythobepmlopegbaa
open Go.RowKit

def secB (n : Int) : Bool := decide (0 ≤ n ∧ n ≤ 47)
def okWr (x : Int × ByteArray) : Bool := secB x.1 && decide (x.2.size ≤ 100)
def okSt (s : ByteArray) : Bool := decide (s.size ≤ 100)
def okDisk (ss : List ByteArray) (ws : List (Int × ByteArray)) : Bool := (decide (ss.length = 48) && decide (ws.length ≤ 60)) && (ss.all okSt && ws.all okWr)

theorem all_step {α : Type} (p : α → Bool) (l : List α) (d : α) (k : Nat) (h : k < l.length) : (l.drop k).all p = (p (l.getD k d) && (l.drop (k + 1)).all p) := by
  rw [List.drop_eq_getElem_cons h, List.all_cons, List.getD_eq_getElem?_getD, List.getElem?_eq_getElem h]
  rfl
theorem all_end {α : Type} (p : α → Bool) (l : List α) (k : Nat) (h : l.length ≤ k) : (l.drop k).all p = true := by
  rw [List.drop_of_length_le h]; rfl

theorem secB_range {a : Int} (h : secB a = true) : 0 ≤ a ∧ a ≤ 47 := by unfold secB at h; simpa using h

set_option maxRecDepth 100000 in
theorem l01In47 (n : Int) (w : World) : Calls Try.prog 63 #[.int .i64 n, .int .i64 0, .int .i64 47] w fun e w' => e = .returned (.bool (secB n)) ∧ w = w' := by
  go_enter Try.func63, Try.ntmps63
  go_wp2
  all_goals go_ret
  all_goals (refine ⟨ret_bool ?_, rfl⟩)
  all_goals (unfold secB; rw [Bool.eq_iff_iff]; simp; try omega)

theorem okDisk_no1 (ss : List ByteArray) (ws : List (Int × ByteArray)) (h : ss.length ≠ 48) : okDisk ss ws = false := by unfold okDisk; simp [h]
theorem okDisk_no2 (ss : List ByteArray) (ws : List (Int × ByteArray)) (h : 60 < ws.length) : okDisk ss ws = false := by
  unfold okDisk
  have : decide (ws.length ≤ 60) = false := by simp; omega
  rw [this]; simp
theorem okDisk_yes (ss : List ByteArray) (ws : List (Int × ByteArray)) (h : ss.length = 48) (h2 : ws.length ≤ 60) : okDisk ss ws = (ss.all okSt && ws.all okWr) := by
  unfold okDisk; simp [h, h2]

/-- Each string of the disk is of a size that strings have. -/
def FitS (ss : List ByteArray) : Prop := ∀ s ∈ ss, s.size ≤ maxLen
def FitW (ws : List (Int × ByteArray)) : Prop := ∀ x ∈ ws, x.2.size ≤ maxLen
theorem FitS.at_ {ss : List ByteArray} (h : FitS ss) (k : Nat) (hk : k < ss.length) : (ss.getD k ByteArray.empty).size ≤ maxLen := h _ (by rw [List.getD_eq_getElem?_getD, List.getElem?_eq_getElem hk]; exact List.getElem_mem _)
theorem FitW.at_ {ws : List (Int × ByteArray)} (h : FitW ws) (k : Nat) (hk : k < ws.length) : (ws.getD k (0, ByteArray.empty)).2.size ≤ maxLen := h _ (by rw [List.getD_eq_getElem?_getD, List.getElem?_eq_getElem hk]; exact List.getElem_mem _)

end Go.Proofs.Ythobepmlopegbaa

/- Contracts of the tests of a flash: isByte, isOffset, isBlock, blockOf, l01In, l03At, allBytes, Flash.valid, both FlashOK, checkCell, checkBlock, l03Ask. -/
namespace Go.Proofs.Ythobepmlopegbaa
open Go.RowKit

def byB (n : Int) : Bool := decide (0 ≤ n ∧ n ≤ 255)
def blkB (n : Int) : Bool := decide (0 ≤ n ∧ n ≤ 15)
def stB (n : Int) : Bool := decide (0 ≤ n ∧ n ≤ 8)
def okFlash (zs : List Int) (gs : List Bool) (st : Int) : Bool := (decide (zs.length = 256) && decide (gs.length = 16)) && (stB st && zs.all byB)
def codeIf (f ok : Bool) : Int := if f then (if ok then 0 else 4) else 1

theorem byB_range {a : Int} (h : byB a = true) : 0 ≤ a ∧ a ≤ 255 := by unfold byB at h; simpa using h
theorem blkB_range {a : Int} (h : blkB a = true) : 0 ≤ a ∧ a ≤ 15 := by unfold blkB at h; simpa using h
theorem stB_range {a : Int} (h : stB a = true) : 0 ≤ a ∧ a ≤ 8 := by unfold stB at h; simpa using h
theorem okFlash_len {zs : List Int} {gs : List Bool} {st : Int} (h : okFlash zs gs st = true) : zs.length = 256 ∧ gs.length = 16 ∧ (0 ≤ st ∧ st ≤ 8) ∧ ∀ z ∈ zs, 0 ≤ z ∧ z ≤ 255 := by
  unfold okFlash at h
  simp only [Bool.and_eq_true, decide_eq_true_eq, List.all_eq_true] at h
  exact ⟨h.1.1, h.1.2, stB_range h.2.1, fun z hz => byB_range (h.2.2 z hz)⟩
theorem okFlash_mk {zs : List Int} {gs : List Bool} {st : Int} (h1 : zs.length = 256) (h2 : gs.length = 16) (h3 : 0 ≤ st ∧ st ≤ 8) (h4 : ∀ z ∈ zs, 0 ≤ z ∧ z ≤ 255) : okFlash zs gs st = true := by
  unfold okFlash
  simp only [Bool.and_eq_true, decide_eq_true_eq, List.all_eq_true]
  exact ⟨⟨h1, h2⟩, by unfold stB; simpa using h3, fun z hz => by unfold byB; simpa using h4 z hz⟩

set_option maxRecDepth 100000 in
theorem isByte (n : Int) (w : World) : Calls Try.prog 47 #[.int .i64 n] w fun e w' => e = .returned (.bool (byB n)) ∧ w = w' := by
  go_enter Try.func47, Try.ntmps47
  go_wp2
  all_goals go_ret
  all_goals (refine ⟨ret_bool ?_, rfl⟩)
  all_goals (unfold byB; rw [Bool.eq_iff_iff]; simp; try omega)
set_option maxRecDepth 100000 in
theorem l01In255 (n : Int) (w : World) : Calls Try.prog 63 #[.int .i64 n, .int .i64 0, .int .i64 255] w fun e w' => e = .returned (.bool (byB n)) ∧ w = w' := by
  go_enter Try.func63, Try.ntmps63
  go_wp2
  all_goals go_ret
  all_goals (refine ⟨ret_bool ?_, rfl⟩)
  all_goals (unfold byB; rw [Bool.eq_iff_iff]; simp; try omega)
set_option maxRecDepth 100000 in
theorem l01In15 (n : Int) (w : World) : Calls Try.prog 63 #[.int .i64 n, .int .i64 0, .int .i64 15] w fun e w' => e = .returned (.bool (blkB n)) ∧ w = w' := by
  go_enter Try.func63, Try.ntmps63
  go_wp2
  all_goals go_ret
  all_goals (refine ⟨ret_bool ?_, rfl⟩)
  all_goals (unfold blkB; rw [Bool.eq_iff_iff]; simp; try omega)
set_option maxRecDepth 100000 in
theorem l01In8 (n : Int) (w : World) : Calls Try.prog 63 #[.int .i64 n, .int .i64 0, .int .i64 8] w fun e w' => e = .returned (.bool (stB n)) ∧ w = w' := by
  go_enter Try.func63, Try.ntmps63
  go_wp2
  all_goals go_ret
  all_goals (refine ⟨ret_bool ?_, rfl⟩)
  all_goals (unfold stB; rw [Bool.eq_iff_iff]; simp; try omega)
set_option maxRecDepth 100000 in
set_option maxHeartbeats 1000000 in
theorem allBytes (A : Option Addr) (n c : Nat) (zs : List Int) (w : World) (hl : zs.length = n) (hn : n ≤ maxLen) (h : IntL w A zs) :
    Calls Try.prog 72 #[.slice A n c] w fun e w' => e = .returned (.bool (zs.all byB)) ∧ w = w' := by
  unfold maxLen at hn
  have HL := Lib.hid hl
  have H := Lib.hid h
  clear hl h
  go_enter Try.func72, Try.ntmps72
  go_wp2
  go_loop [7] (fun i => ∃ k : Nat, k ≤ n ∧ i = .int .i64 k ∧ Hid (zs.all byB = (zs.drop k).all byB)) (fun i => n - (intOf i).toNat)
  case atStart => exact ⟨0, Nat.zero_le _, rfl, Lib.hid rfl⟩
  case round =>
    obtain ⟨k, hk, rfl, HT⟩ := hrel
    by_cases hlt : k < n
    · obtain ⟨b, off, rfl, hc⟩ := H.out k (by rw [HL.out]; exact hlt)
      have HS := Lib.hid (all_step byB zs 0 k (by rw [HL.out]; exact hlt))
      generalize zs.getD k 0 = x at hc HS
      have hi : (k : Int) < (n : Int) := by omega
      by_cases hE : byB x = true
      · go_wp2_with (first | (go_at_call 47; refine (isByte _ _).mono ?_; rintro e w' ⟨rfl, rfl⟩; rw [hE]))
        go_round
        case rel => exact ⟨k + 1, by omega, by go_num, Lib.hid (by rw [HT.out, HS.out, hE]; rfl)⟩
        case measure => simp [intOf]; omega
      · have hE' : byB x = false := by simpa using hE
        clear hE
        go_wp2_with (first | (go_at_call 47; refine (isByte _ _).mono ?_; rintro e w' ⟨rfl, rfl⟩; rw [hE']))
        go_ret
        exact ⟨ret_bool (by rw [HT.out, HS.out, hE']; rfl), rfl⟩
    · have HT2 : Hid (zs.all byB = true) := Lib.hid (by rw [HT.out]; exact all_end _ _ _ (by rw [HL.out]; omega))
      go_wp2
      go_ret
      exact ⟨ret_bool HT2.out.symm, rfl⟩

theorem okFlash_no1 (zs : List Int) (gs : List Bool) (st : Int) (h : zs.length ≠ 256) : okFlash zs gs st = false := by unfold okFlash; simp [h]
theorem okFlash_no2 (zs : List Int) (gs : List Bool) (st : Int) (h : gs.length ≠ 16) : okFlash zs gs st = false := by unfold okFlash; simp [h]
theorem okFlash_no3 (zs : List Int) (gs : List Bool) (st : Int) (h : stB st = false) : okFlash zs gs st = false := by unfold okFlash; simp [h]
theorem okFlash_yes (zs : List Int) (gs : List Bool) (st : Int) (h : zs.length = 256) (h2 : gs.length = 16) (h3 : stB st = true) : okFlash zs gs st = zs.all byB := by unfold okFlash; simp [h, h2, h3]

set_option maxRecDepth 100000 in
set_option maxHeartbeats 2000000 in
theorem flashValid (A C : Option Addr) (n c m d : Nat) (st : Int) (zs : List Int) (gs : List Bool) (w : World) (hl : zs.length = n) (hm : gs.length = m) (hn : n ≤ maxLen) (_hmm : m ≤ maxLen) (h : IntL w A zs) :
    Calls Try.prog 37 #[.agg #[.slice A n c, .slice C m d, .int .i64 st]] w fun e w' => e = .returned (.bool (okFlash zs gs st)) ∧ Below w.heap.size w w' := by
  have hb0 := alloc_below w (.cells #[.slice A n c, .slice C m d, .int .i64 st] 26)
  have HB := Lib.hid (allBytes A n c zs _ hl hn (h.below hb0))
  unfold maxLen at hn _hmm
  have HL := Lib.hid hl
  have HM := Lib.hid hm
  clear hl hm h
  by_cases h1 : n = 256
  · have q1 : ((n : Int) == 256) = true := by simp; omega
    by_cases h2 : m = 16
    · have q2 : ((m : Int) == 16) = true := by simp; omega
      by_cases h3 : 0 ≤ st
      · by_cases h4 : st ≤ 8
        · have HY := Lib.hid (okFlash_yes zs gs st (by rw [HL.out]; exact h1) (by rw [HM.out]; exact h2) (by unfold stB; simp; omega))
          generalize okFlash zs gs st = r at HY
          generalize zs.all byB = ab at HB HY
          clear h1 h2
          go_enter Try.func37, Try.ntmps37
          go_wp2_with (first | (go_at_call 72; refine HB.out.mono ?_; rintro e w' ⟨rfl, rfl⟩))
          all_goals go_ret
          all_goals exact ⟨ret_bool HY.out.symm, hb0⟩
        · have HF := Lib.hid (okFlash_no3 zs gs st (by unfold stB; simp; omega))
          clear h1 h2
          go_enter Try.func37, Try.ntmps37
          go_wp2
          all_goals go_ret
          all_goals exact ⟨ret_bool HF.out.symm, hb0⟩
      · have HF := Lib.hid (okFlash_no3 zs gs st (by unfold stB; simp; omega))
        clear h1 h2
        go_enter Try.func37, Try.ntmps37
        go_wp2
        all_goals go_ret
        all_goals exact ⟨ret_bool HF.out.symm, hb0⟩
    · have q2 : ((m : Int) == 16) = false := by simp; omega
      have HF := Lib.hid (okFlash_no2 zs gs st (by rw [HM.out]; exact h2))
      clear h1 h2
      go_enter Try.func37, Try.ntmps37
      go_wp2
      all_goals go_ret
      all_goals exact ⟨ret_bool HF.out.symm, hb0⟩
  · have q1 : ((n : Int) == 256) = false := by simp; omega
    have HF := Lib.hid (okFlash_no1 zs gs st (by rw [HL.out]; exact h1))
    clear h1
    go_enter Try.func37, Try.ntmps37
    go_wp2
    all_goals go_ret
    all_goals exact ⟨ret_bool HF.out.symm, hb0⟩

set_option maxRecDepth 100000 in
set_option maxHeartbeats 2000000 in
theorem specFlashOK (A C : Option Addr) (n c m d : Nat) (st : Int) (zs : List Int) (gs : List Bool) (w : World) (hl : zs.length = n) (hm : gs.length = m) (hn : n ≤ maxLen) (_hmm : m ≤ maxLen) (h : IntL w A zs) :
    Calls Try.prog 40 #[.agg #[.slice A n c, .slice C m d, .int .i64 st]] w fun e w' => e = .returned (.bool (okFlash zs gs st)) ∧ Below w.heap.size w w' := by
  have hb0 := alloc_below w (.cells #[.slice A n c, .slice C m d, .int .i64 st] 26)
  have H := Lib.hid (h.below hb0)
  unfold maxLen at hn _hmm
  have HL := Lib.hid hl
  have HM := Lib.hid hm
  clear hl hm h
  by_cases h1 : n = 256
  · have q1 : ((n : Int) != 256) = false := by simp; omega
    by_cases h2 : m = 16
    · have q2 : ((m : Int) != 16) = false := by simp; omega
      by_cases h3 : stB st = true
      · have HY := Lib.hid (okFlash_yes zs gs st (by rw [HL.out]; exact h1) (by rw [HM.out]; exact h2) h3)
        generalize okFlash zs gs st = r at HY
        have H3 := Lib.hid h3
        clear h1 h2 h3
        go_enter Try.func40, Try.ntmps40
        go_wp2_with (first | (go_at_call 63; refine (l01In8 _ _).mono ?_; rintro e w' ⟨rfl, rfl⟩; rw [H3.out]))
        go_loop [3] (fun i => ∃ k : Nat, k ≤ n ∧ i = .int .i64 k ∧ Hid (zs.all byB = (zs.drop k).all byB)) (fun i => n - (intOf i).toNat)
        case atStart => exact ⟨0, Nat.zero_le _, rfl, Lib.hid rfl⟩
        case round =>
          obtain ⟨k, hk, rfl, HT⟩ := hrel
          by_cases hlt : k < n
          · obtain ⟨b, off, rfl, hc⟩ := H.out k (by rw [HL.out]; exact hlt)
            have HS := Lib.hid (all_step byB zs 0 k (by rw [HL.out]; exact hlt))
            generalize zs.getD k 0 = x at hc HS
            have hi : (k : Int) < (n : Int) := by omega
            by_cases hE : byB x = true
            · go_wp2_with (first | (go_at_call 63; refine (l01In255 _ _).mono ?_; rintro e w' ⟨rfl, rfl⟩; rw [hE]))
              go_round
              case rel => exact ⟨k + 1, by omega, by go_num, Lib.hid (by rw [HT.out, HS.out, hE]; rfl)⟩
              case measure => simp [intOf]; omega
            · have hE' : byB x = false := by simpa using hE
              clear hE
              go_wp2_with (first | (go_at_call 63; refine (l01In255 _ _).mono ?_; rintro e w' ⟨rfl, rfl⟩; rw [hE']))
              go_ret
              exact ⟨ret_bool (by rw [HY.out, HT.out, HS.out, hE']; rfl), hb0⟩
          · have HT2 : Hid (zs.all byB = true) := Lib.hid (by rw [HT.out]; exact all_end _ _ _ (by rw [HL.out]; omega))
            go_wp2
            go_ret
            exact ⟨ret_bool (by rw [HY.out, HT2.out]), hb0⟩
      · have h3' : stB st = false := by simpa using h3
        have HF := Lib.hid (okFlash_no3 zs gs st h3')
        have H3 := Lib.hid h3'
        clear h1 h2 h3 h3'
        go_enter Try.func40, Try.ntmps40
        go_wp2_with (first | (go_at_call 63; refine (l01In8 _ _).mono ?_; rintro e w' ⟨rfl, rfl⟩; rw [H3.out]))
        go_ret
        exact ⟨ret_bool HF.out.symm, hb0⟩
    · have q2 : ((m : Int) != 16) = true := by simp; omega
      have HF := Lib.hid (okFlash_no2 zs gs st (by rw [HM.out]; exact h2))
      clear h1 h2
      go_enter Try.func40, Try.ntmps40
      go_wp2
      all_goals go_ret
      all_goals exact ⟨ret_bool HF.out.symm, hb0⟩
  · have q1 : ((n : Int) != 256) = true := by simp; omega
    have HF := Lib.hid (okFlash_no1 zs gs st (by rw [HL.out]; exact h1))
    clear h1
    go_enter Try.func40, Try.ntmps40
    go_wp2
    all_goals go_ret
    all_goals exact ⟨ret_bool HF.out.symm, hb0⟩

end Go.Proofs.Ythobepmlopegbaa

/- Digits of numbers, as lists of bytes. Nothing here walks. -/
namespace Go.Proofs.Ythobepmlopegbaa

def dg (n : Nat) : UInt8 := UInt8.ofNat (48 + n % 10)
/-- The last w digits of n. -/
def digs : Nat → Nat → List UInt8
  | 0, _ => []
  | w + 1, n => digs w (n / 10) ++ [dg n]
theorem digs_len : ∀ w n, (digs w n).length = w
  | 0, _ => rfl
  | w + 1, n => by simp [digs, digs_len w]
theorem digs_front : ∀ w n, digs (w + 1) n = dg (n / 10 ^ w) :: digs w n
  | 0, n => by simp [digs]
  | w + 1, n => by
    rw [digs, digs_front w (n / 10), digs, Nat.div_div_eq_div_mul, Nat.pow_succ, Nat.mul_comm (10 ^ w) 10]
    rfl
/-- The digits of n, of which there are at most f. -/
def decF : Nat → Nat → List UInt8
  | 0, _ => []
  | f + 1, n => if n < 10 then [dg n] else decF f (n / 10) ++ [dg n]
theorem digs_zero : ∀ w, digs w 0 = List.replicate w 48
  | 0 => rfl
  | w + 1 => by rw [digs, digs_zero w]; rw [List.replicate_succ']; rfl
theorem decF_len : ∀ f n, (decF f n).length ≤ f
  | 0, _ => by simp [decF]
  | f + 1, n => by
    rw [decF]
    split
    · simp
    · have := decF_len f (n / 10)
      simp; omega
theorem pad_dec : ∀ f n, n < 10 ^ (f + 1) → List.replicate (f + 1 - (decF (f + 1) n).length) 48 ++ decF (f + 1) n = digs (f + 1) n
  | f, n, h => by
    rw [decF, digs]
    by_cases hn : n < 10
    · rw [if_pos hn]
      rw [show n / 10 = 0 by omega, digs_zero]
      simp
    · rw [if_neg hn]
      match f with
      | 0 => exact absurd h (by simp; omega)
      | f + 1 =>
        have ih := pad_dec f (n / 10) (by rw [Nat.pow_succ] at h; omega)
        rw [← ih]
        have := decF_len (f + 1) (n / 10)
        simp only [List.length_append, List.length_cons, List.length_nil, List.append_assoc]
        rw [show f + 1 + 1 - ((decF (f + 1) (n / 10)).length + (0 + 1)) = f + 1 - (decF (f + 1) (n / 10)).length by omega]
def bs (l : List UInt8) : ByteArray := ⟨l.toArray⟩
theorem bs_app (a b : List UInt8) : bs a ++ bs b = bs (a ++ b) := by
  apply ByteArray.ext
  simp [bs]
theorem bs_size (a : List UInt8) : (bs a).size = a.length := rfl
theorem dg_nat (n : Nat) : (dg n).toNat = 48 + n % 10 := by
  unfold dg
  rw [UInt8.toNat_ofNat']; omega
end Go.Proofs.Ythobepmlopegbaa

/- Contracts of hexText, l04Hex and both HexByte: two hexadecimal digits. -/
namespace Go.Proofs.Ythobepmlopegbaa
open Go.RowKit

/-- The digit of a number below 16. -/
def hx (k : Nat) : UInt8 := if k < 10 then UInt8.ofNat (48 + k) else UInt8.ofNat (87 + k)
/-- A byte's two digits. -/
def hex2 (n : Nat) : ByteArray := bs [hx (n / 16), hx (n % 16)]
theorem hex2_size (n : Nat) : (hex2 n).size = 2 := rfl
theorem hx_tab : ∀ k, k < 16 → (⟨#[48, 49, 50, 51, 52, 53, 54, 55, 56, 57, 97, 98, 99, 100, 101, 102]⟩ : ByteArray)[k]? = some (hx k) := by decide +kernel
set_option maxRecDepth 100000 in
theorem idx_hex (w : World) (k : Nat) (h : k < 16) :
    (Instr.index 9 (.string ⟨#[48, 49, 50, 51, 52, 53, 54, 55, 56, 57, 97, 98, 99, 100, 101, 102]⟩) (.int .i64 (k : Int))).run Try.prog w = .ok (.int .u8 ((hx k).toNat : Int)) w := by
  have hs : (⟨#[48, 49, 50, 51, 52, 53, 54, 55, 56, 57, 97, 98, 99, 100, 101, 102]⟩ : ByteArray).size = 16 := rfl
  rw [run_index_string w 9 _ .i64 (k : Int) Try.underlying9, dif_pos ⟨by omega, by rw [hs]; omega⟩]
  have h2 := hx_tab k h
  have h3 : (⟨#[48, 49, 50, 51, 52, 53, 54, 55, 56, 57, 97, 98, 99, 100, 101, 102]⟩ : ByteArray)[((k : Int)).toNat]'(by rw [hs]; omega) = hx k := by
    have e : ((k : Int)).toNat = k := by omega
    have h4 : (⟨#[48, 49, 50, 51, 52, 53, 54, 55, 56, 57, 97, 98, 99, 100, 101, 102]⟩ : ByteArray)[k]'(by rw [hs]; omega) = hx k := by
      rw [ByteArray.getElem?_lt' _ _ (by rw [hs]; omega)] at h2
      exact Option.some.inj h2
    simp only [e]
    exact h4
  rw [h3]
theorem and_15 (n : Int) : bits .and .i64 n 15 = n % 16 := by
  have h15 : (BitVec.ofInt 64 15).toNat = 2 ^ 4 - 1 := by decide
  have key : (BitVec.ofInt 64 n &&& BitVec.ofInt 64 15).toNat = (n % ((2 ^ 64 : Nat) : Int)).toNat % 2 ^ 4 := by
    rw [BitVec.toNat_and, BitVec.toNat_ofInt, h15, Nat.and_two_pow_sub_one_eq_mod]
  show IntKind.i64.wrap ((BitVec.ofInt 64 n &&& BitVec.ofInt 64 15).toNat : Nat) = n % 16
  rw [key, IntKind.wrap_i64]
  omega
set_option maxRecDepth 100000 in
theorem conv2 (W : World) (b : Nat) (x y : UInt8) (h0 : W.cell? ⟨b, 0, none⟩ = some (.int .u8 (x.toNat : Int))) (h1 : W.cell? ⟨b, 1, none⟩ = some (.int .u8 (y.toNat : Int))) :
    (convert 22 9 (.slice (some ⟨b, 0, none⟩) 2 2)).run Try.prog W = .ok (.string (bs [x, y])) W :=
  run_convert_bytes_back (P := Try.prog) W 22 9 5 ⟨b, 0, none⟩ 2 [x, y] Try.underlying22 Try.underlying5 Try.underlying9 (fun i hi => by
    have hi' : i = 0 ∨ i = 1 := by simp at hi; omega
    rcases hi' with rfl | rfl
    · simpa [Addr.add] using h0
    · simpa [Addr.add] using h1)

set_option maxRecDepth 100000 in
set_option maxHeartbeats 1000000 in
theorem hexText (n : Nat) (hn : n ≤ 255) (w : World) : Calls Try.prog 48 #[.int .i64 (n : Int)] w fun e w' => e = .returned (.string (hex2 n)) ∧ Below w.heap.size w w' := by
  have i1 := fun W => idx_hex W (n / 16) (by omega)
  have i2 := fun W => idx_hex W (n % 16) (by omega)
  have HC := Lib.hid (fun (V : World) => conv2 (V.alloc (.cells #[.int .u8 ((hx (n / 16)).toNat : Int), .int .u8 ((hx (n % 16)).toNat : Int)] 5)) V.heap.size (hx (n / 16)) (hx (n % 16)) ((Box.new V 5 _).cell 0 rfl) ((Box.new V 5 _).cell 1 rfl))
  rw [show ((n / 16 : Nat) : Int) = (n : Int) / 16 by omega] at i1
  rw [show ((n % 16 : Nat) : Int) = (n : Int) % 16 by omega] at i2
  have HH : Hid (hex2 n = bs [hx (n / 16), hx (n % 16)]) := Lib.hid rfl
  generalize hx (n / 16) = x at i1 HC HH
  generalize hx (n % 16) = y at i2 HC HH
  have e2 : (n : Int).tmod 16 = (n : Int) % 16 := Int.tmod_eq_emod_of_nonneg (by omega)
  have e1 : (n : Int).tdiv 16 = (n : Int) / 16 := Int.tdiv_eq_ediv_of_nonneg (by omega)
  have e3 : IntKind.i64.wrap ((n : Int) / 16) = (n : Int) / 16 := IntWalk.i64_in _ (by omega)
  go_enter Try.func48, Try.ntmps48
  go_wp2
  go_still_tail 6, (by kernel_rfl)
  change wpList _ _ _ _ _ w.drew
  have hb : Below w.heap.size w w.drew := (Below.refl _ _).drew
  generalize w.drew = w2 at hb
  have hcv := HC.out w2
  go_wp2
  go_ret
  exact ⟨by rw [HH.out]; rfl, bt hb (alloc_below _ _)⟩

set_option maxRecDepth 100000 in
set_option maxHeartbeats 1000000 in
theorem l04Hex (n : Nat) (hn : n ≤ 255) (w : World) : Calls Try.prog 64 #[.int .i64 (n : Int)] w fun e w' => e = .returned (.string (hex2 n)) ∧ Below w.heap.size w w' := by
  have i1 := fun W => idx_hex W (n / 16) (by omega)
  have i2 := fun W => idx_hex W (n % 16) (by omega)
  have HC := Lib.hid (fun (V : World) => conv2 (V.alloc (.cells #[.int .u8 ((hx (n / 16)).toNat : Int), .int .u8 ((hx (n % 16)).toNat : Int)] 5)) V.heap.size (hx (n / 16)) (hx (n % 16)) ((Box.new V 5 _).cell 0 rfl) ((Box.new V 5 _).cell 1 rfl))
  rw [show ((n / 16 : Nat) : Int) = (n : Int) / 16 by omega] at i1
  rw [show ((n % 16 : Nat) : Int) = (n : Int) % 16 by omega] at i2
  have HH : Hid (hex2 n = bs [hx (n / 16), hx (n % 16)]) := Lib.hid rfl
  generalize hx (n / 16) = x at i1 HC HH
  generalize hx (n % 16) = y at i2 HC HH
  have e2 := and_15 (n : Int)
  go_enter Try.func64, Try.ntmps64
  go_wp2
  go_still_tail 6, (by kernel_rfl)
  change wpList _ _ _ _ _ w.drew
  have hb : Below w.heap.size w w.drew := (Below.refl _ _).drew
  generalize w.drew = w2 at hb
  have hcv := HC.out w2
  go_wp2
  go_ret
  exact ⟨by rw [HH.out]; rfl, bt hb (alloc_below _ _)⟩

/-- What HexByte answers. -/
def hexOf (n : Int) : ByteArray × Int := if byB n then (hex2 n.toNat, 0) else (ByteArray.empty, 4)

set_option maxRecDepth 100000 in
theorem implHexByte (n : Int) (w : World) : Calls Try.prog 16 #[.int .i64 n] w fun e w' => e = .returned (.tuple #[.string (hexOf n).1, .int .i64 (hexOf n).2]) ∧ Below w.heap.size w w' := by
  by_cases ha : byB n = true
  · obtain ⟨k, rfl⟩ : ∃ k : Nat, n = k := ⟨n.toNat, by have := byB_range ha; omega⟩
    have hk : k ≤ 255 := by have := byB_range ha; omega
    have HE : Hid (hexOf k = (hex2 k, 0)) := Lib.hid (by unfold hexOf; rw [if_pos ha]; rfl)
    have HX := Lib.hid (fun W => hexText k hk W)
    generalize hexOf k = r at HE
    generalize hex2 k = t at HE HX
    go_enter Try.func16, Try.ntmps16
    go_wp2_with (first | (go_at_call 47; refine (isByte _ _).mono ?_; rintro e w' ⟨rfl, rfl⟩; rw [ha]) | (go_at_call 48; refine (HX.out _).mono ?_; rintro e w1 ⟨rfl, hb1⟩))
    refine bodyPost_ret (v := .tuple #[.string t, .int .i64 0]) (by simp [results, Try.results16, go_sem]) rfl ?_
    exact ⟨by rw [HE.out], hb1⟩
  · have ha' : byB n = false := by simpa using ha
    have HE : Hid (hexOf n = (ByteArray.empty, 4)) := Lib.hid (by unfold hexOf; simp [ha'])
    generalize hexOf n = r at HE
    go_enter Try.func16, Try.ntmps16
    go_wp2_with (first | (go_at_call 47; refine (isByte _ _).mono ?_; rintro e w' ⟨rfl, rfl⟩; rw [ha']))
    refine bodyPost_ret (v := .tuple #[.string ByteArray.empty, .int .i64 4]) (by simp [results, Try.results16, go_sem]; rfl) rfl ?_
    exact ⟨by rw [HE.out], Below.refl _ _⟩

set_option maxRecDepth 100000 in
theorem specHexByte (n : Int) (w : World) : Calls Try.prog 33 #[.int .i64 n] w fun e w' => e = .returned (.tuple #[.string (hexOf n).1, .int .i64 (hexOf n).2]) ∧ Below w.heap.size w w' := by
  by_cases ha : byB n = true
  · obtain ⟨k, rfl⟩ : ∃ k : Nat, n = k := ⟨n.toNat, by have := byB_range ha; omega⟩
    have hk : k ≤ 255 := by have := byB_range ha; omega
    have HE : Hid (hexOf k = (hex2 k, 0)) := Lib.hid (by unfold hexOf; rw [if_pos ha]; rfl)
    have HX := Lib.hid (fun W => l04Hex k hk W)
    generalize hexOf k = r at HE
    generalize hex2 k = t at HE HX
    go_enter Try.func33, Try.ntmps33
    go_wp2_with (first | (go_at_call 63; refine (l01In255 _ _).mono ?_; rintro e w' ⟨rfl, rfl⟩; rw [ha]) | (go_at_call 64; refine (HX.out _).mono ?_; rintro e w1 ⟨rfl, hb1⟩))
    refine bodyPost_ret (v := .tuple #[.string t, .int .i64 0]) (by simp [results, Try.results33, go_sem]) rfl ?_
    exact ⟨by rw [HE.out], hb1⟩
  · have ha' : byB n = false := by simpa using ha
    have HE : Hid (hexOf n = (ByteArray.empty, 4)) := Lib.hid (by unfold hexOf; simp [ha'])
    generalize hexOf n = r at HE
    go_enter Try.func33, Try.ntmps33
    go_wp2_with (first | (go_at_call 63; refine (l01In255 _ _).mono ?_; rintro e w' ⟨rfl, rfl⟩; rw [ha']))
    refine bodyPost_ret (v := .tuple #[.string ByteArray.empty, .int .i64 4]) (by simp [results, Try.results33, go_sem]; rfl) rfl ?_
    exact ⟨by rw [HE.out], Below.refl _ _⟩
end Go.Proofs.Ythobepmlopegbaa

/- Contracts of digitValue, digitReader and its function: digits of an alphabet read as a number. -/
namespace Go.Proofs.Ythobepmlopegbaa
open Go.RowKit

/-- The place of a character among the digits. -/
def digI (ds : List UInt8) (c : Int) : Option Nat := ds.findIdx? (fun b => decide ((b.toNat : Int) = c))
def dvV : Option Nat → Int
  | some v => (v : Int)
  | none => 0
theorem digI_nil (c : Int) : digI [] c = none := rfl
theorem digI_hit (b : UInt8) (l : List UInt8) (c : Int) (h : (b.toNat : Int) = c) : digI (b :: l) c = some 0 := by
  unfold digI; rw [List.findIdx?_cons]; simp [h]
theorem digI_miss (b : UInt8) (l : List UInt8) (c : Int) (h : (b.toNat : Int) ≠ c) : digI (b :: l) c = (digI l c).map (· + 1) := by
  unfold digI; rw [List.findIdx?_cons]; simp [h]
theorem digI_lt {ds : List UInt8} {c : Int} {v : Nat} (h : digI ds c = some v) : v < ds.length := by
  unfold digI at h
  obtain ⟨h1, _⟩ := List.findIdx?_eq_some_iff_getElem.1 h
  exact h1
theorem digI_high {ds : List UInt8} (ha : ∀ b ∈ ds, b.toNat < 128) {c : Int} (hc : 128 ≤ c) : digI ds c = none := by
  unfold digI
  rw [List.findIdx?_eq_none_iff]
  intro b hb
  have := ha b hb
  simp
  omega
theorem drop_byte (s : ByteArray) (k : Nat) (h : k < s.size) : s.data.toList.drop k = s[k] :: s.data.toList.drop (k + 1) := by
  have h' : k < s.data.toList.length := by simpa using h
  rw [List.drop_eq_getElem_cons h']
  rfl

theorem iter_below (w : World) (s : ByteArray) (pos : Nat) : Below w.heap.size w (w.iter s pos) := (Below.refl _ _).alloc (Nat.le_refl _) _

set_option maxRecDepth 100000 in
set_option maxHeartbeats 1000000 in
theorem digitValue (ds : ByteArray) (c : Int) (w : World) (ha : ∀ b ∈ ds.data.toList, b.toNat < 128) (hs : ds.size ≤ 16) :
    Calls Try.prog 78 #[.string ds, .int .i32 c] w fun e w' => e = .returned (.tuple #[.int .i64 (dvV (digI ds.data.toList c)), .bool (digI ds.data.toList c).isSome]) ∧ Below w.heap.size w w' := by
  have HA := Lib.hid ha
  have HS := Lib.hid hs
  clear ha hs
  generalize hr : digI ds.data.toList c = r
  have HR := Lib.hid hr
  clear hr
  go_enter Try.func78, Try.ntmps78
  go_wp2
  go_loopw [6] (fun _ wr => ∃ pos, pos ≤ ds.size ∧ wr = w.iter ds pos ∧ Hid (r = (digI (ds.data.toList.drop pos) c).map (· + pos))) (fun _ wr => ds.size - wr.iterPos w.heap.size)
  case atStart => exact ⟨0, Nat.zero_le _, rfl, Lib.hid (by rw [← HR.out]; simp)⟩
  case round =>
    obtain ⟨pos, hle, rfl, HT⟩ := hrel
    by_cases hp : pos < ds.size
    · have hb : (ds[pos]'hp).toNat < 128 := HA.out _ (by
        have := drop_byte ds pos hp
        exact List.mem_of_mem_drop (i := pos) (by rw [this]; simp))
      have hnx : ∀ ty, (Instr.next (.pointer (some ⟨w.heap.size, 0, none⟩)) true ty).run Try.prog (w.iter ds pos) = _ := fun ty => run_next_ascii w ds pos ty hp hb
      have HD := Lib.hid (drop_byte ds pos hp)
      generalize ds[pos]'hp = b at hb hnx HD
      by_cases hE : (b.toNat : Int) = c
      · have hq : ((b.toNat : Int) == c) = true := by simp [hE]
        have HF : Hid (r = some pos) := Lib.hid (by rw [HT.out, HD.out, digI_hit _ _ _ hE]; simp)
        clear hE
        go_wp2
        refine bodyPost_ret (v := .tuple #[.int .i64 (pos : Int), .bool true]) (by simp [results, Try.results78, go_sem]) rfl ?_
        exact ⟨by rw [HF.out]; rfl, iter_below _ _ _⟩
      · have hq : ((b.toNat : Int) == c) = false := by simp [hE]
        have HF : Hid (r = (digI (ds.data.toList.drop (pos + 1)) c).map (· + (pos + 1))) := Lib.hid (by
          rw [HT.out, HD.out, digI_miss _ _ _ hE, Option.map_map]
          congr 1
          funext x
          show x + 1 + pos = x + (pos + 1)
          omega)
        clear hE
        go_wp2
        go_roundw
        case rel => exact ⟨pos + 1, by omega, rfl, HF⟩
        case measure => simp; omega
    · have hnx : ∀ ty, (Instr.next (.pointer (some ⟨w.heap.size, 0, none⟩)) true ty).run Try.prog (w.iter ds pos) = _ := fun ty => run_next_end w ds pos ty hp
      have HF : Hid (r = none) := Lib.hid (by
        rw [HT.out, List.drop_eq_nil_of_le (by simp; have : ds.data.size = ds.size := rfl; omega), digI_nil]; rfl)
      go_wp2
      refine bodyPost_ret (v := .tuple #[.int .i64 0, .bool false]) (by simp [results, Try.results78, go_sem]) rfl ?_
      exact ⟨by rw [HF.out]; rfl, iter_below _ _ _⟩

/-- A number read digit by digit, behind acc. -/
def readNum (ds : List UInt8) : Nat → List UInt8 → Option Nat
  | acc, [] => some acc
  | acc, b :: l => match digI ds (b.toNat : Int) with
    | none => none
    | some v => readNum ds (acc * ds.length + v) l

set_option maxRecDepth 100000 in
set_option maxHeartbeats 1000000 in
theorem digitRead (t ds : ByteArray) (wd pw pd : Nat) (w : World) (ha : ∀ b ∈ ds.data.toList, b.toNat < 128) (hs : ds.size ≤ 16) (h1 : wd ≤ 2)
    (f1 : w.cell? ⟨pw, 0, none⟩ = some (.int .i64 (wd : Int))) (f2 : w.cell? ⟨pd, 0, none⟩ = some (.string ds)) :
    Calls Try.prog 77 #[.string t, .pointer (some ⟨pw, 0, none⟩), .pointer (some ⟨pd, 0, none⟩)] w fun e w' =>
      e = .returned (.tuple #[.int .i64 (dvV (if t.size = wd then readNum ds.data.toList 0 t.data.toList else none)), .bool (if t.size = wd then readNum ds.data.toList 0 t.data.toList else none).isSome]) ∧ Below w.heap.size w w' := by
  have HA := Lib.hid ha
  have HS := Lib.hid hs
  have HV := Lib.hid (fun c W => digitValue ds c W ha hs)
  have hl : ds.data.toList.length = ds.size := by simp
  generalize hr : (if t.size = wd then readNum ds.data.toList 0 t.data.toList else none) = r
  have HR := Lib.hid hr
  have HF := Lib.hid (And.intro f1 f2)
  have HLn := Lib.hid hl
  clear ha hr hl
  by_cases hw : t.size = wd
  · have hq : ((t.size : Int) != (wd : Int)) = false := by simp; omega
    have HW := Lib.hid hw
    clear hw
    go_enter Try.func77, Try.ntmps77
    go_wp2
    go_loopw [6] (fun n wr => ∃ pos acc : Nat, pos ≤ t.size ∧ n = .int .i64 (acc : Int) ∧ Hid (wr.heap[w.heap.size]? = some (.stringIter t pos)) ∧ Hid (acc < 16 ^ pos) ∧ Hid (r = readNum ds.data.toList acc (t.data.toList.drop pos)) ∧ Below w.heap.size w wr) (fun _ wr => t.size - wr.iterPos w.heap.size)
    case atStart => exact ⟨0, 0, Nat.zero_le _, rfl, Lib.hid (World.iter_heap _ _ _), Lib.hid (by omega), Lib.hid (by rw [← HR.out, if_pos HW.out]; rfl), iter_below _ _ _⟩
    case round =>
      clear f1 f2
      obtain ⟨pos, acc, hle, rfl, HK, HB, HT, hbw⟩ := hrel
      have f1 := (hbw.cell (cell_lt HF.out.1)).trans HF.out.1
      have f2 := (hbw.cell (cell_lt HF.out.2)).trans HF.out.2
      have HKo := HK
      by_cases hp : pos < t.size
      · have hp2 : pos < 2 := by have := HW.out; omega
        have ha16 : acc < 16 := by
          have := HB.out
          have : 16 ^ pos ≤ 16 ^ 1 := Nat.pow_le_pow_right (by omega) (by omega)
          omega
        have hmul : acc * ds.size ≤ 15 * 16 := Nat.mul_le_mul (by omega) HS.out
        obtain ⟨w2, hw2⟩ : ∃ w2, w2 = wr.iterAt w.heap.size t (pos + (Utf8.decode t pos).2) := ⟨_, rfl⟩
        have hnx : ∀ ty, (Instr.next (.pointer (some ⟨w.heap.size, 0, none⟩)) true ty).run Try.prog wr = _ := fun ty => Lib.run_next_any_at wr w.heap.size t pos ty HK.out hp
        rw [← hw2] at hnx
        have hb2 : Below w.heap.size w w2 := by rw [hw2]; exact Lib.below_iterAt hbw (Nat.le_refl _) _ _
        have HK2 : Hid (w2.heap[w.heap.size]? = some (.stringIter t (pos + (Utf8.decode t pos).2))) := Lib.hid (by rw [hw2]; exact Lib.iterAt_heap _ _ _ _ _ HK.out)
        have f3 := (hb2.cell (cell_lt HF.out.1)).trans HF.out.1
        have f4 := (hb2.cell (cell_lt HF.out.2)).trans HF.out.2
        have HDr := Lib.hid (drop_byte t pos hp)
        have HAs := Lib.hid (fun h => decode_ascii t pos hp h)
        have HHi := Lib.hid (fun h => (decode_high t pos hp h).1)
        generalize t[pos]'hp = b at HDr HAs HHi
        clear hw2 hbw f1 f2
        by_cases hb : b.toNat < 128
        · have e := HAs.out hb
          rw [e] at hnx HK2
          have HN : Hid (readNum ds.data.toList acc (t.data.toList.drop pos) = match digI ds.data.toList (b.toNat : Int) with | none => none | some v => readNum ds.data.toList (acc * ds.data.toList.length + v) (t.data.toList.drop (pos + 1))) := Lib.hid (by rw [HDr.out]; rfl)
          clear e HAs HHi HDr HK
          go_wp2_with fail
          refine (HV.out _ _).mono ?_
          rintro e w3 ⟨rfl, hb3⟩
          have f5 := (hb3.cell (cell_lt f4)).trans f4
          have hb4 := hb2.trans (hb3.mono hb2.size)
          have HK3 : Hid (w3.heap[w.heap.size]? = some (.stringIter t (pos + 1))) := Lib.hid ((hb3.block _ (by have := HK2.out; exact (Array.getElem?_eq_some_iff.1 this).1)).trans HK2.out)
          cases hv : digI ds.data.toList (b.toNat : Int) with
          | none =>
            have HF2 : Hid (r = none) := Lib.hid (by rw [HT.out, HN.out, hv])
            clear hv
            go_wp2
            refine bodyPost_ret (v := .tuple #[.int .i64 0, .bool false]) (by simp [results, Try.results77, go_sem]) rfl ?_
            exact ⟨by rw [HF2.out]; rfl, hb4⟩
          | some v =>
            have hvl : v < 16 := by have := digI_lt hv; have := HLn.out; have := HS.out; omega
            have HF2 : Hid (r = readNum ds.data.toList (acc * ds.size + v) (t.data.toList.drop (pos + 1))) := Lib.hid (by rw [HT.out, HN.out, hv]; simp only; rw [HLn.out])
            have HB2 : Hid (acc * ds.size + v < 16 ^ (pos + 1)) := Lib.hid (by
              rw [Nat.pow_succ]
              have h1 := HB.out
              have h2 : acc * ds.size ≤ acc * 16 := Nat.mul_le_mul (Nat.le_refl _) HS.out
              omega)
            have e1 : IntKind.i64.wrap ((acc : Int) * (ds.size : Int)) = (acc : Int) * (ds.size : Int) := IntWalk.i64_in _ (by
              have : ((acc * ds.size : Nat) : Int) = (acc : Int) * (ds.size : Int) := Int.natCast_mul _ _
              omega)
            have e2 : IntKind.i64.wrap ((acc : Int) * (ds.size : Int) + (v : Int)) = (acc : Int) * (ds.size : Int) + (v : Int) := IntWalk.i64_in _ (by
              have : ((acc * ds.size : Nat) : Int) = (acc : Int) * (ds.size : Int) := Int.natCast_mul _ _
              omega)
            clear hv hmul
            simp only [dvV, Option.isSome_some]
            go_wp2
            go_roundw
            case rel => exact ⟨pos + 1, acc * ds.size + v, by omega, by simp, HK3, HB2, HF2, hb4⟩
            case measure =>
              have h1 : wr.iterPos w.heap.size = pos := by unfold World.iterPos; rw [HKo.out]
              have h2 : w3.iterPos w.heap.size = pos + 1 := by unfold World.iterPos; rw [HK3.out]
              rw [h1, h2]; omega
        · have hge := HHi.out (by omega)
          have HF2 : Hid (r = none) := Lib.hid (by
            rw [HT.out, HDr.out]
            show (match digI ds.data.toList (b.toNat : Int) with | none => none | some v => _) = none
            rw [digI_high HA.out (by omega)])
          have HZ : Hid (digI ds.data.toList ((Utf8.decode t pos).1 : Int) = none) := Lib.hid (digI_high HA.out (by omega))
          generalize (Utf8.decode t pos).1 = dc at hnx HZ
          clear HAs HHi HDr HK
          go_wp2_with fail
          refine (HV.out _ _).mono ?_
          rintro e w3 ⟨rfl, hb3⟩
          rw [HZ.out]
          simp only [dvV, Option.isSome_none]
          have hb4 := hb2.trans (hb3.mono hb2.size)
          go_wp2
          refine bodyPost_ret (v := .tuple #[.int .i64 0, .bool false]) (by simp [results, Try.results77, go_sem]) rfl ?_
          exact ⟨by rw [HF2.out]; rfl, hb4⟩
      · have hnx : ∀ ty, (Instr.next (.pointer (some ⟨w.heap.size, 0, none⟩)) true ty).run Try.prog wr = _ := fun ty => Lib.run_next_end_at wr w.heap.size t pos ty HK.out hp
        have HF2 : Hid (r = some acc) := Lib.hid (by
          rw [HT.out, List.drop_eq_nil_of_le (by simp; have : t.data.size = t.size := rfl; omega)]; rfl)
        go_wp2
        refine bodyPost_ret (v := .tuple #[.int .i64 (acc : Int), .bool true]) (by simp [results, Try.results77, go_sem]) rfl ?_
        exact ⟨by rw [HF2.out]; rfl, hbw⟩
  · have hq : ((t.size : Int) != (wd : Int)) = true := by simp; omega
    have HF2 : Hid (r = none) := Lib.hid (by rw [← HR.out, if_neg hw])
    clear hw
    go_enter Try.func77, Try.ntmps77
    go_wp2
    refine bodyPost_ret (v := .tuple #[.int .i64 0, .bool false]) (by simp [results, Try.results77, go_sem]) rfl ?_
    exact ⟨by rw [HF2.out]; rfl, Below.refl _ _⟩
end Go.Proofs.Ythobepmlopegbaa
