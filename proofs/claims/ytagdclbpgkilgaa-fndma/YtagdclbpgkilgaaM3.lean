/- Texts of this claim, one behind the other: GenA, GenB, GenC, GenInstr, OpTab, Quiet, OpOk, OpLen, OpDec, CpuMath, Kit8, GenFlash, GenMem, MemOk, CloneI. -/
import Derived.BigQuiet
import Derived.Deep.QuietTactic
import Derived.WalkKit
import Derived.Laws.Tables
import Derived.Lib.SliceRun
import Derived.Test.YtagdclbpgkilgaaM2
/- Leaves of Go values as data: what a value says, rows of the call's own, what a call that writes into some of them keeps. Nothing here is of one type of the program. -/
namespace Go.Proofs.Ytagdclbpgkilgaa
open Go.RowKit

/-- What a leaf of a struct that is a slice says. -/
inductive Lf where
  | I (zs : List Int)
  | B (gs : List Bool)
  | S (ss : List ByteArray)
  | R (T : TypeId) (k : Nat) (hk : k ≤ 16) (rows : List (List Value))

/-- A row of structs, k cells each. -/
def RowL (w : World) (A : Option Addr) (k : Nat) (rows : List (List Value)) : Prop :=
  ∀ i, i < rows.length → ∀ j, j < k → ∃ b off, A = some ⟨b, off, none⟩ ∧ w.cell? ⟨b, off + i * k + j, none⟩ = some ((rows.getD i []).getD j undef)
theorem RowL.below {w w' : World} {A : Option Addr} {k : Nat} {rows : List (List Value)} (h : RowL w A k rows) (hb : Below w.heap.size w w') : RowL w' A k rows := fun i hi j hj => by
  obtain ⟨b, off, e, hc⟩ := h i hi j hj
  exact ⟨b, off, e, (hb.cell (cell_lt hc)).trans hc⟩
/-- A row of structs of the call's own. -/
def OwnR (w : World) (lo hi : Nat) (T : TypeId) (A : Option Addr) (k : Nat) (rows : List (List Value)) : Prop :=
  rows = [] ∨ ∃ b m f, A = some ⟨b, 0, none⟩ ∧ lo ≤ b ∧ b < hi ∧ rows.length * k ≤ m ∧ w.rowIs b T m f ∧ ∀ i, i < rows.length → ∀ j, j < k → f (i * k + j) = (rows.getD i []).getD j undef
theorem row_place {n k m i j : Nat} (hi : i < n) (hj : j < k) (h : n * k ≤ m) : i * k + j < m := by
  have h1 : (i + 1) * k ≤ n * k := Nat.mul_le_mul_right k hi
  have h2 : (i + 1) * k = i * k + k := Nat.succ_mul i k
  omega
theorem OwnR.reads {w : World} {lo hi : Nat} {T : TypeId} {A : Option Addr} {k : Nat} {rows : List (List Value)} (h : OwnR w lo hi T A k rows) : RowL w A k rows := fun i hi' j hj => by
  rcases h with rfl | ⟨b, m, f, e, _, _, hm, hr, hf⟩
  · simp at hi'
  · exact ⟨b, 0, e, by rw [← hf i hi' j hj, Nat.zero_add]; exact hr.cell (row_place hi' hj hm)⟩
theorem OwnR.btw {w w' : World} {lo hi l h' : Nat} {T : TypeId} {A : Option Addr} {k : Nat} {rows : List (List Value)} (h : OwnR w lo hi T A k rows) (hb : Btw l h' w w') (ho : hi ≤ l ∨ h' ≤ lo) : OwnR w' lo hi T A k rows := by
  rcases h with e | ⟨b, m, f, e, h1, h2, hm, hr, hf⟩
  · exact .inl e
  · exact .inr ⟨b, m, f, e, h1, h2, hm, hb.row hr (by omega), hf⟩
theorem OwnR.below {w w' : World} {lo hi : Nat} {T : TypeId} {A : Option Addr} {k : Nat} {rows : List (List Value)} (h : OwnR w lo hi T A k rows) (hb : Below w.heap.size w w') : OwnR w' lo hi T A k rows := h.btw (Btw.of_below hb hi hi) (.inl (Nat.le_refl _))
theorem OwnR.wide {w : World} {lo hi lo' hi' : Nat} {T : TypeId} {A : Option Addr} {k : Nat} {rows : List (List Value)} (h : OwnR w lo hi T A k rows) (h1 : lo' ≤ lo) (h2 : hi ≤ hi') : OwnR w lo' hi' T A k rows := by
  rcases h with e | ⟨b, m, f, e, p1, p2, hm, hr, hf⟩
  · exact .inl e
  · exact .inr ⟨b, m, f, e, by omega, by omega, hm, hr, hf⟩
/-- What a mark makes of a cell. -/
def markV (k : Nat) : Value → Value
  | .int _ _ => .int .i64 (k : Int)
  | .bool _ => .bool (decide (k % 3 = 0))
  | .string _ => .string (mkText k)
  | v => v
def markRows (q k : Nat) (rows : List (List Value)) : List (List Value) :=
  (List.range rows.length).map fun i => (List.range k).map fun j => markV (q + i * k + j) ((rows.getD i []).getD j undef)
theorem markRows_len (q k : Nat) (rows : List (List Value)) : (markRows q k rows).length = rows.length := by simp [markRows]

def Lf.len : Lf → Nat
  | .I zs => zs.length
  | .B gs => gs.length
  | .S ss => ss.length
  | .R _ k _ rows => rows.length * k
/-- How many elements a slice has. -/
def Lf.slen : Lf → Nat
  | .I zs => zs.length
  | .B gs => gs.length
  | .S ss => ss.length
  | .R _ _ _ rows => rows.length
/-- The size that the laws count. -/
def Lf.sz : Lf → Nat
  | .I zs => zs.length
  | .B gs => gs.length
  | .S ss => ss.length + lenS ss
  | .R _ _ _ rows => rows.length
def Lf.marks (k : Nat) : Lf → Lf
  | .I zs => .I (marksI k zs.length)
  | .B gs => .B (marksB k gs.length)
  | .S ss => .S (marksS k ss.length)
  | .R T n hn rows => .R T n hn (markRows k n rows)
theorem Lf.marks_len (k : Nat) (d : Lf) : (d.marks k).len = d.len := by cases d <;> simp [Lf.marks, Lf.len, marksI, marksB, marksS, markRows_len]
theorem Lf.marks_slen (k : Nat) (d : Lf) : (d.marks k).slen = d.slen := by cases d <;> simp [Lf.marks, Lf.slen, marksI, marksB, marksS, markRows_len]
theorem Lf.len_le (d : Lf) : d.len ≤ 16 * d.sz := by
  cases d with
  | I zs => simp only [Lf.len, Lf.sz]; omega
  | B zs => simp only [Lf.len, Lf.sz]; omega
  | S zs => simp only [Lf.len, Lf.sz]; omega
  | R T k hk rows =>
    simp only [Lf.len, Lf.sz]
    have := Nat.mul_le_mul_left rows.length hk
    omega
/-- Its strings are no longer than strings can be, its length no greater than lengths. -/
def Lf.fit : Lf → Prop
  | .I zs => zs.length ≤ maxLen
  | .B gs => gs.length ≤ maxLen
  | .S ss => ss.length ≤ maxLen ∧ FitS ss
  | .R _ _ _ rows => rows.length ≤ maxLen

def RepL (w : World) (v : Value) : Lf → Prop
  | .I zs => ∃ A c, v = .slice A zs.length c ∧ IntL w A zs
  | .B gs => ∃ A c, v = .slice A gs.length c ∧ BoolL w A gs
  | .S ss => ∃ A c, v = .slice A ss.length c ∧ StrL w A ss
  | .R _ k _ rows => ∃ A c, v = .slice A rows.length c ∧ RowL w A k rows
def OwnL (w : World) (lo hi : Nat) (v : Value) : Lf → Prop
  | .I zs => ∃ A c, v = .slice A zs.length c ∧ OwnI w lo hi A zs
  | .B gs => ∃ A c, v = .slice A gs.length c ∧ OwnB w lo hi A gs
  | .S ss => ∃ A c, v = .slice A ss.length c ∧ OwnS w lo hi A ss
  | .R T k _ rows => ∃ A c, v = .slice A rows.length c ∧ OwnR w lo hi T A k rows
/-- A slice's capacity is no less than its length. -/
def CapL (v : Value) : Prop := ∀ A n c, v = .slice A n c → n ≤ c
/-- The block of a slice that holds something. -/
def blkL : Value → Option Nat
  | .slice (some a) n _ => if n = 0 then none else some a.block
  | _ => none
theorem blkL_some {b off : Nat} {n c : Nat} (h : 0 < n) : blkL (.slice (some ⟨b, off, none⟩) n c) = some b := by simp [blkL]; omega
theorem blkL_zero (A : Option Addr) (c : Nat) : blkL (.slice A 0 c) = none := by cases A <;> simp [blkL]

def AllA (P : Value → Lf → Prop) : List Value → List Lf → Prop
  | [], [] => True
  | v :: vs, d :: ds => P v d ∧ AllA P vs ds
  | _, _ => False
def RepA (w : World) (vs : List Value) (ds : List Lf) : Prop := AllA (RepL w) vs ds
def OwnA (w : World) (lo hi : Nat) (vs : List Value) (ds : List Lf) : Prop := AllA (OwnL w lo hi) vs ds ∧ (vs.filterMap blkL).Nodup

theorem AllA.imp {P Q : Value → Lf → Prop} : ∀ {vs : List Value} {ds : List Lf}, (∀ v d, v ∈ vs → P v d → Q v d) → AllA P vs ds → AllA Q vs ds
  | [], [], _, _ => trivial
  | v :: vs, d :: ds, h, ⟨h1, h2⟩ => ⟨h v d (by simp) h1, AllA.imp (fun v' d' hm => h v' d' (by simp [hm])) h2⟩
  | [], _ :: _, _, h => h.elim
  | _ :: _, [], _, h => h.elim

theorem RepL.below {w w' : World} {v : Value} : ∀ {d : Lf}, RepL w v d → Below w.heap.size w w' → RepL w' v d
  | .I _, ⟨A, c, e, h⟩, hb => ⟨A, c, e, h.below hb⟩
  | .B _, ⟨A, c, e, h⟩, hb => ⟨A, c, e, h.below hb⟩
  | .S _, ⟨A, c, e, h⟩, hb => ⟨A, c, e, h.below hb⟩
  | .R _ _ _ _, ⟨A, c, e, h⟩, hb => ⟨A, c, e, h.below hb⟩
theorem RepA.below {w w' : World} {vs : List Value} {ds : List Lf} (h : RepA w vs ds) (hb : Below w.heap.size w w') : RepA w' vs ds := AllA.imp (fun _ _ _ h => h.below hb) h
theorem OwnL.below {w w' : World} {lo hi : Nat} {v : Value} : ∀ {d : Lf}, OwnL w lo hi v d → Below w.heap.size w w' → OwnL w' lo hi v d
  | .I _, ⟨A, c, e, h⟩, hb => ⟨A, c, e, h.below hb⟩
  | .B _, ⟨A, c, e, h⟩, hb => ⟨A, c, e, h.below hb⟩
  | .S _, ⟨A, c, e, h⟩, hb => ⟨A, c, e, h.below hb⟩
  | .R _ _ _ _, ⟨A, c, e, h⟩, hb => ⟨A, c, e, h.below hb⟩
theorem OwnL.btw {w w' : World} {lo hi l r : Nat} {v : Value} : ∀ {d : Lf}, OwnL w lo hi v d → Btw l r w w' → (hi ≤ l ∨ r ≤ lo) → OwnL w' lo hi v d
  | .I _, ⟨A, c, e, h⟩, hb, ho => ⟨A, c, e, h.btw hb ho⟩
  | .B _, ⟨A, c, e, h⟩, hb, ho => ⟨A, c, e, h.btw hb ho⟩
  | .S _, ⟨A, c, e, h⟩, hb, ho => ⟨A, c, e, h.btw hb ho⟩
  | .R _ _ _ _, ⟨A, c, e, h⟩, hb, ho => ⟨A, c, e, h.btw hb ho⟩
theorem OwnL.wide {w : World} {lo hi lo' hi' : Nat} {v : Value} : ∀ {d : Lf}, OwnL w lo hi v d → lo' ≤ lo → hi ≤ hi' → OwnL w lo' hi' v d
  | .I _, ⟨A, c, e, h⟩, h1, h2 => ⟨A, c, e, h.wideB h1 h2⟩
  | .B _, ⟨A, c, e, h⟩, h1, h2 => ⟨A, c, e, h.wide h1 h2⟩
  | .S _, ⟨A, c, e, h⟩, h1, h2 => ⟨A, c, e, h.wide h1 h2⟩
  | .R _ _ _ _, ⟨A, c, e, h⟩, h1, h2 => ⟨A, c, e, h.wide h1 h2⟩
theorem OwnL.reads {w : World} {lo hi : Nat} {v : Value} : ∀ {d : Lf}, OwnL w lo hi v d → RepL w v d
  | .I _, ⟨A, c, e, h⟩ => ⟨A, c, e, h.reads⟩
  | .B _, ⟨A, c, e, h⟩ => ⟨A, c, e, h.reads⟩
  | .S _, ⟨A, c, e, h⟩ => ⟨A, c, e, h.reads⟩
  | .R _ _ _ _, ⟨A, c, e, h⟩ => ⟨A, c, e, h.reads⟩
theorem OwnL.form {w : World} {lo hi : Nat} {v : Value} : ∀ {d : Lf}, OwnL w lo hi v d → ∃ A c, v = .slice A d.slen c
  | .I _, ⟨A, c, e, _⟩ => ⟨A, c, e⟩
  | .B _, ⟨A, c, e, _⟩ => ⟨A, c, e⟩
  | .S _, ⟨A, c, e, _⟩ => ⟨A, c, e⟩
  | .R _ _ _ _, ⟨A, c, e, _⟩ => ⟨A, c, e⟩
theorem RepL.form {w : World} {v : Value} : ∀ {d : Lf}, RepL w v d → ∃ A c, v = .slice A d.slen c
  | .I _, ⟨A, c, e, _⟩ => ⟨A, c, e⟩
  | .B _, ⟨A, c, e, _⟩ => ⟨A, c, e⟩
  | .S _, ⟨A, c, e, _⟩ => ⟨A, c, e⟩
  | .R _ _ _ _, ⟨A, c, e, _⟩ => ⟨A, c, e⟩
theorem OwnA.below {w w' : World} {lo hi : Nat} {vs : List Value} {ds : List Lf} (h : OwnA w lo hi vs ds) (hb : Below w.heap.size w w') : OwnA w' lo hi vs ds := ⟨AllA.imp (fun _ _ _ h => h.below hb) h.1, h.2⟩
theorem OwnA.btw {w w' : World} {lo hi l r : Nat} {vs : List Value} {ds : List Lf} (h : OwnA w lo hi vs ds) (hb : Btw l r w w') (ho : hi ≤ l ∨ r ≤ lo) : OwnA w' lo hi vs ds := ⟨AllA.imp (fun _ _ _ h => h.btw hb ho) h.1, h.2⟩
theorem OwnA.wide {w : World} {lo hi lo' hi' : Nat} {vs : List Value} {ds : List Lf} (h : OwnA w lo hi vs ds) (h1 : lo' ≤ lo) (h2 : hi ≤ hi') : OwnA w lo' hi' vs ds := ⟨AllA.imp (fun _ _ _ h => h.wide h1 h2) h.1, h.2⟩
theorem OwnA.reads {w : World} {lo hi : Nat} {vs : List Value} {ds : List Lf} (h : OwnA w lo hi vs ds) : RepA w vs ds := AllA.imp (fun _ _ _ h => h.reads) h.1

/-- A leaf's own block alone has turned. -/
structure Touch (vs : List Value) (w w' : World) : Prop where
  os : w'.os = w.os
  tape : w'.tape = w.tape
  output : w'.output = w.output
  size : w.heap.size ≤ w'.heap.size
  block : ∀ k, k < w.heap.size → k ∉ vs.filterMap blkL → w'.heap[k]? = w.heap[k]?
theorem Touch.refl (vs : List Value) (w : World) : Touch vs w w := ⟨rfl, rfl, rfl, Nat.le_refl _, fun _ _ _ => rfl⟩
theorem Touch.trans {vs us : List Value} {a b c : World} (h : Touch vs a b) (k : Touch us b c) : Touch (vs ++ us) a c :=
  ⟨k.os.trans h.os, k.tape.trans h.tape, k.output.trans h.output, Nat.le_trans h.size k.size, fun i hi hn => by
    rw [List.filterMap_append, List.mem_append] at hn
    exact (k.block i (Nat.lt_of_lt_of_le hi h.size) (fun h => hn (.inr h))).trans (h.block i hi (fun h => hn (.inl h)))⟩
theorem Touch.of_below {w w' : World} (h : Below w.heap.size w w') (vs : List Value) : Touch vs w w' := ⟨h.os, h.tape, h.output, h.size, fun k hk _ => h.block k hk⟩
theorem Touch.more {vs us : List Value} {w w' : World} (h : Touch vs w w') (hs : ∀ k, k ∈ vs.filterMap blkL → k ∈ us.filterMap blkL) : Touch us w w' := ⟨h.os, h.tape, h.output, h.size, fun k hk hn => h.block k hk (fun h => hn (hs k h))⟩
theorem OwnL.blk {w : World} {lo hi : Nat} {v : Value} {b : Nat} (hb : blkL v = some b) : ∀ {d : Lf}, OwnL w lo hi v d → lo ≤ b ∧ b < hi
  | .I zs, ⟨A, c, e, h⟩ => by
    subst e
    rcases h with rfl | ⟨g, m, f, rfl, h1, h2, _⟩
    · rw [List.length_nil, blkL_zero] at hb; cases hb
    · rcases Nat.eq_zero_or_pos zs.length with hz | hz
      · rw [hz, blkL_zero] at hb; cases hb
      · rw [blkL_some hz] at hb; injection hb with hb; subst hb; exact ⟨h1, h2⟩
  | .B zs, ⟨A, c, e, h⟩ => by
    subst e
    rcases h with rfl | ⟨g, m, f, rfl, h1, h2, _⟩
    · rw [List.length_nil, blkL_zero] at hb; cases hb
    · rcases Nat.eq_zero_or_pos zs.length with hz | hz
      · rw [hz, blkL_zero] at hb; cases hb
      · rw [blkL_some hz] at hb; injection hb with hb; subst hb; exact ⟨h1, h2⟩
  | .S zs, ⟨A, c, e, h⟩ => by
    subst e
    rcases h with rfl | ⟨g, m, f, rfl, h1, h2, _⟩
    · rw [List.length_nil, blkL_zero] at hb; cases hb
    · rcases Nat.eq_zero_or_pos zs.length with hz | hz
      · rw [hz, blkL_zero] at hb; cases hb
      · rw [blkL_some hz] at hb; injection hb with hb; subst hb; exact ⟨h1, h2⟩
  | .R _ _ _ zs, ⟨A, c, e, h⟩ => by
    subst e
    rcases h with rfl | ⟨g, m, f, rfl, h1, h2, _⟩
    · rw [List.length_nil, blkL_zero] at hb; cases hb
    · rcases Nat.eq_zero_or_pos zs.length with hz | hz
      · rw [hz, blkL_zero] at hb; cases hb
      · rw [blkL_some hz] at hb; injection hb with hb; subst hb; exact ⟨h1, h2⟩
theorem AllA.mem {P : Value → Lf → Prop} : ∀ {vs : List Value} {ds : List Lf} {v : Value}, AllA P vs ds → v ∈ vs → ∃ d, P v d
  | v :: vs, d :: ds, u, ⟨h1, h2⟩, hm => by
    rcases List.mem_cons.1 hm with rfl | hm
    · exact ⟨d, h1⟩
    · exact AllA.mem h2 hm
  | [], [], _, _, hm => by cases hm
theorem OwnA.blk {w : World} {lo hi : Nat} {vs : List Value} {ds : List Lf} (h : OwnA w lo hi vs ds) {b : Nat} (hb : b ∈ vs.filterMap blkL) : lo ≤ b ∧ b < hi := by
  obtain ⟨v, hv, he⟩ := List.mem_filterMap.1 hb
  obtain ⟨d, hd⟩ := h.1.mem hv
  exact hd.blk he
theorem Touch.btw {w w' : World} {lo hi : Nat} {vs : List Value} {ds : List Lf} (h : OwnA w lo hi vs ds) (t : Touch vs w w') : Btw lo hi w w' :=
  ⟨t.os, t.tape, t.output, t.size, fun k hk ho => t.block k hk (fun hm => by have := h.blk hm; omega)⟩
/-- An owned leaf whose block is not among those that turned is as it was. -/
theorem OwnL.away {w w' : World} {lo hi : Nat} {v : Value} {us : List Value} (t : Touch us w w') (hn : ∀ b, blkL v = some b → b ∉ us.filterMap blkL) : ∀ {d : Lf}, OwnL w lo hi v d → OwnL w' lo hi v d
  | .I zs, ⟨A, c, e, h⟩ => by
    refine ⟨A, c, e, ?_⟩
    rcases h with h | ⟨g, m, f, rfl, h1, h2, hm, hr, hf⟩
    · exact .inl h
    · by_cases hz : zs = []
      · exact .inl hz
      · exact .inr ⟨g, m, f, rfl, h1, h2, hm, hr.of_block (t.block g hr.lt (hn g (by rw [e]; exact blkL_some (List.length_pos_iff.2 hz)))), hf⟩
  | .B zs, ⟨A, c, e, h⟩ => by
    refine ⟨A, c, e, ?_⟩
    rcases h with h | ⟨g, m, f, rfl, h1, h2, hm, hr, hf⟩
    · exact .inl h
    · by_cases hz : zs = []
      · exact .inl hz
      · exact .inr ⟨g, m, f, rfl, h1, h2, hm, hr.of_block (t.block g hr.lt (hn g (by rw [e]; exact blkL_some (List.length_pos_iff.2 hz)))), hf⟩
  | .S zs, ⟨A, c, e, h⟩ => by
    refine ⟨A, c, e, ?_⟩
    rcases h with h | ⟨g, m, f, rfl, h1, h2, hm, hr, hf⟩
    · exact .inl h
    · by_cases hz : zs = []
      · exact .inl hz
      · exact .inr ⟨g, m, f, rfl, h1, h2, hm, hr.of_block (t.block g hr.lt (hn g (by rw [e]; exact blkL_some (List.length_pos_iff.2 hz)))), hf⟩
  | .R _ _ _ zs, ⟨A, c, e, h⟩ => by
    refine ⟨A, c, e, ?_⟩
    rcases h with h | ⟨g, m, f, rfl, h1, h2, hm, hr, hf⟩
    · exact .inl h
    · by_cases hz : zs = []
      · exact .inl hz
      · exact .inr ⟨g, m, f, rfl, h1, h2, hm, hr.of_block (t.block g hr.lt (hn g (by rw [e]; exact blkL_some (List.length_pos_iff.2 hz)))), hf⟩
theorem OwnA.away {w w' : World} {lo hi : Nat} {vs us : List Value} {ds : List Lf} (t : Touch us w w') (hn : ∀ b, b ∈ vs.filterMap blkL → b ∉ us.filterMap blkL) (h : OwnA w lo hi vs ds) : OwnA w' lo hi vs ds :=
  ⟨AllA.imp (fun v _ hv h => h.away t (fun b hb => hn b (List.mem_filterMap.2 ⟨v, hv, hb⟩))) h.1, h.2⟩
theorem OwnA.cons {w : World} {lo hi : Nat} {v : Value} {vs : List Value} {d : Lf} {ds : List Lf} (h1 : OwnL w lo hi v d) (h2 : OwnA w lo hi vs ds) (hn : ∀ b, blkL v = some b → b ∉ vs.filterMap blkL) : OwnA w lo hi (v :: vs) (d :: ds) := by
  refine ⟨⟨h1, h2.1⟩, ?_⟩
  rw [List.filterMap_cons]
  cases hb : blkL v with
  | none => exact h2.2
  | some b => exact List.nodup_cons.2 ⟨hn b hb, h2.2⟩
theorem OwnA.uncons {w : World} {lo hi : Nat} {v : Value} {vs : List Value} {d : Lf} {ds : List Lf} (h : OwnA w lo hi (v :: vs) (d :: ds)) : OwnL w lo hi v d ∧ OwnA w lo hi vs ds ∧ ∀ b, blkL v = some b → b ∉ vs.filterMap blkL := by
  obtain ⟨⟨h1, h2⟩, h3⟩ := h
  rw [List.filterMap_cons] at h3
  cases hb : blkL v with
  | none => rw [hb] at h3; exact ⟨h1, ⟨h2, h3⟩, fun b hb' => by cases hb'⟩
  | some b => rw [hb] at h3; exact ⟨h1, ⟨h2, (List.nodup_cons.1 h3).2⟩, fun b' hb' => by injection hb' with e; subst e; exact (List.nodup_cons.1 h3).1⟩
theorem OwnA.nil (w : World) (lo hi : Nat) : OwnA w lo hi [] [] := ⟨trivial, List.nodup_nil⟩
/-- Rows of two ranges are of two blocks. -/
theorem OwnA.append {w : World} {lo hi lo' hi' L R : Nat} {vs us : List Value} {ds es : List Lf} (h : OwnA w lo hi vs ds) (k : OwnA w lo' hi' us es) (ho : hi ≤ lo' ∨ hi' ≤ lo) (h1 : L ≤ lo) (h2 : L ≤ lo') (h3 : hi ≤ R) (h4 : hi' ≤ R) : OwnA w L R (vs ++ us) (ds ++ es) := by
  have aux : ∀ {vs : List Value} {ds : List Lf}, AllA (OwnL w L R) vs ds → AllA (OwnL w L R) us es → AllA (OwnL w L R) (vs ++ us) (ds ++ es) := by
    intro vs
    induction vs with
    | nil => intro ds a b; cases ds with
      | nil => exact b
      | cons d ds => exact a.elim
    | cons v vs ih => intro ds a b; cases ds with
      | nil => exact a.elim
      | cons d ds => exact ⟨a.1, ih a.2 b⟩
  refine ⟨aux (h.wide h1 h3).1 (k.wide h2 h4).1, ?_⟩
  rw [List.filterMap_append, List.nodup_append]
  refine ⟨h.2, k.2, fun a ha b hb e => ?_⟩
  subst e
  have := h.blk ha
  have := k.blk hb
  omega
end Go.Proofs.Ytagdclbpgkilgaa

/- The laws' own functions over []int, []bool, []string, on leaves. -/
namespace Go.Proofs.Ytagdclbpgkilgaa
open Go.RowKit

/-- The call hands back a slice of its own. -/
def GivesL (n : Nat) (d : Lf) (w : World) (e : Ending) (w' : World) : Prop := ∃ A c, e = .returned (.slice A n c) ∧ Hid (OwnL w' w.heap.size w'.heap.size (.slice A n c) d) ∧ Hid (CapL (.slice A n c)) ∧ Below w.heap.size w w'
/-- The call has marked a slice. -/
def MarkedL (lo hi : Nat) (v : Value) (d : Lf) (k : Nat) (w : World) (e : Ending) (w' : World) : Prop := e = .returned (.int .i64 ((k + d.len : Nat) : Int)) ∧ Hid (OwnL w' lo hi v (d.marks k)) ∧ Touch [v] w w'
theorem capL {A : Option Addr} {n c : Nat} (h : n ≤ c) : CapL (.slice A n c) := fun A' n' c' e => by injection e with _ e2 e3; omega
theorem touch_none {w w' : World} {A : Option Addr} {c : Nat} (h : Btw 0 0 w w') : Touch [.slice A 0 c] w w' := ⟨h.os, h.tape, h.output, h.size, fun k hk _ => h.block k hk (.inr (Nat.zero_le _))⟩
theorem touch_blk {w w' : World} {g n c : Nat} (hn : 0 < n) (h : Btw g (g + 1) w w') : Touch [.slice (some ⟨g, 0, none⟩) n c] w w' := ⟨h.os, h.tape, h.output, h.size, fun k hk hm => h.block k hk (by
  have : k ≠ g := by rintro rfl; exact hm (by simp [blkL_some hn])
  omega)⟩

set_option maxRecDepth 100000 in
theorem eqLI (v v' : Value) (zs : List Int) (w : World) (h : RepL w v (.I zs)) (h' : RepL w v' (.I zs)) (hn : zs.length ≤ maxLen) :
    Calls Try.prog 35 #[v, v'] w fun e w' => e = .returned (.bool true) ∧ Below w.heap.size w w' := by
  obtain ⟨A, c, rfl, hr⟩ := h
  obtain ⟨A', c', rfl, hr'⟩ := h'
  exact eqIntSame A A' zs.length zs.length c c' zs w rfl rfl hn hr hr'
set_option maxRecDepth 100000 in
theorem markLI (v : Value) (zs : List Int) (k lo hi : Nat) (w : World) (h : OwnL w lo hi v (.I zs)) (hk : 1 ≤ k) (hn : zs.length ≤ 4294967296) (hk2 : k ≤ 549755813888) :
    Calls Try.prog 36 #[v, .int .i64 (k : Int)] w (MarkedL lo hi v (.I zs) k w) := by
  obtain ⟨A, c, rfl, ho⟩ := h
  rcases Nat.eq_zero_or_pos zs.length with hz | hz
  · have hz' : zs = [] := List.eq_nil_of_length_eq_zero hz
    subst hz'
    refine (markIntSs A 0 c k 0 0 [] w rfl hk (by omega) (by omega) (.inl rfl)).mono ?_
    rintro e w' ⟨rfl, S, hb⟩
    exact ⟨rfl, Lib.hid ⟨A, c, rfl, .inl rfl⟩, touch_none hb⟩
  · rcases ho with rfl | ⟨b, m, f, rfl, h1, h2, hm, hr, hf⟩
    · simp at hz
    · refine (markIntSs _ zs.length c k b (b + 1) zs w rfl hk (by omega) (by omega) (.inr ⟨b, m, f, rfl, Nat.le_refl _, Nat.lt_succ_self _, hm, hr, hf⟩)).mono ?_
      rintro e w' ⟨rfl, S, hb⟩
      exact ⟨rfl, Lib.hid ⟨_, c, by simp [marksI], S.out.wideB h1 h2⟩, touch_blk hz hb⟩
set_option maxRecDepth 100000 in
theorem heldLI (v : Value) (zs : List Int) (k : Nat) (w : World) (h : RepL w v ((Lf.I zs).marks k)) (hk : 1 ≤ k) (hn : zs.length ≤ 4294967296) (hk2 : k ≤ 549755813888) :
    Calls Try.prog 37 #[v, .int .i64 (k : Int)] w fun e w' => e = .returned (.int .i64 ((k + (Lf.I zs).len : Nat) : Int)) ∧ Below w.heap.size w w' := by
  obtain ⟨A, c, rfl, hr⟩ := h
  have hl : (marksI k zs.length).length = zs.length := by simp [marksI]
  rw [hl]
  refine (heldIntS A zs.length c k w hk (by omega) hr).mono ?_
  rintro e w' ⟨rfl, hb⟩
  exact ⟨rfl, hb ▸ Below.refl _ _⟩
end Go.Proofs.Ytagdclbpgkilgaa

/- Lists of leaves: their sizes, marks and segments. -/
namespace Go.Proofs.Ytagdclbpgkilgaa
open Go.RowKit

def lenA : List Lf → Nat
  | [] => 0
  | d :: ds => d.len + lenA ds
def szA : List Lf → Nat
  | [] => 0
  | d :: ds => d.sz + szA ds
def marksA : Nat → List Lf → List Lf
  | _, [] => []
  | k, d :: ds => d.marks k :: marksA (k + d.len) ds
def FitA (ds : List Lf) : Prop := ∀ d ∈ ds, d.fit
def BndA (ds : List Lf) : Prop := ∀ d ∈ ds, d.len ≤ 4294967296
def CapA (vs : List Value) : Prop := ∀ v ∈ vs, CapL v
theorem lenA_app (a b : List Lf) : lenA (a ++ b) = lenA a + lenA b := by
  induction a with
  | nil => simp [lenA]
  | cons d ds ih => simp [lenA, ih]; omega
theorem marksA_app (k : Nat) (a b : List Lf) : marksA k (a ++ b) = marksA k a ++ marksA (k + lenA a) b := by
  induction a generalizing k with
  | nil => simp [marksA, lenA]
  | cons d ds ih => simp [marksA, lenA, ih, Nat.add_assoc]
theorem szA_len (ds : List Lf) : lenA ds ≤ 16 * szA ds := by
  induction ds with
  | nil => simp [lenA, szA]
  | cons d ds ih => have := d.len_le; simp [lenA, szA]; omega
theorem lenA_mem {ds : List Lf} {d : Lf} (h : d ∈ ds) : d.len ≤ lenA ds := by
  induction ds with
  | nil => cases h
  | cons e ds ih =>
    rcases List.mem_cons.1 h with rfl | h
    · simp [lenA]
    · have := ih h; simp [lenA]; omega
theorem CapA.cons {v : Value} {vs : List Value} (h : CapL v) (k : CapA vs) : CapA (v :: vs) := fun u hu => by
  rcases List.mem_cons.1 hu with rfl | hu
  · exact h
  · exact k u hu
theorem CapA.nil : CapA [] := fun _ h => by cases h
theorem CapA.app {a b : List Value} (h : CapA a) (k : CapA b) : CapA (a ++ b) := fun u hu => by
  rcases List.mem_append.1 hu with hu | hu
  · exact h u hu
  · exact k u hu
theorem CapA.sub {a b : List Value} (h : CapA a) (hs : ∀ v ∈ b, v ∈ a) : CapA b := fun u hu => h u (hs u hu)
theorem FitA.sub {a b : List Lf} (h : FitA a) (hs : ∀ d ∈ b, d ∈ a) : FitA b := fun u hu => h u (hs u hu)
theorem BndA.sub {a b : List Lf} (h : BndA a) (hs : ∀ d ∈ b, d ∈ a) : BndA b := fun u hu => h u (hs u hu)
theorem BndA.of_len {ds : List Lf} (h : lenA ds ≤ 4294967296) : BndA ds := fun _ hd => Nat.le_trans (lenA_mem hd) h

theorem AllA.split {P : Value → Lf → Prop} : ∀ {a b : List Value} {da db : List Lf}, a.length = da.length → AllA P (a ++ b) (da ++ db) → AllA P a da ∧ AllA P b db
  | [], _, [], _, _, h => ⟨trivial, h⟩
  | _ :: _, _, _ :: _, _, hl, h => by
    have := AllA.split (by simpa using hl) h.2
    exact ⟨⟨h.1, this.1⟩, this.2⟩
  | [], _, _ :: _, _, hl, _ => by simp at hl
  | _ :: _, _, [], _, hl, _ => by simp at hl
theorem AllA.join {P : Value → Lf → Prop} : ∀ {a b : List Value} {da db : List Lf}, AllA P a da → AllA P b db → AllA P (a ++ b) (da ++ db)
  | [], _, [], _, _, k => k
  | _ :: _, _, _ :: _, _, h, k => ⟨h.1, AllA.join h.2 k⟩
  | [], _, _ :: _, _, h, _ => h.elim
  | _ :: _, _, [], _, h, _ => h.elim
theorem RepA.seg {w : World} {a m b : List Value} {da dm db : List Lf} (h : RepA w (a ++ (m ++ b)) (da ++ (dm ++ db))) (h1 : a.length = da.length) (h2 : m.length = dm.length) : RepA w m dm :=
  (AllA.split h2 (AllA.split h1 h).2).1
theorem OwnA.seg {w : World} {lo hi : Nat} {a m b : List Value} {da dm db : List Lf} (h : OwnA w lo hi (a ++ (m ++ b)) (da ++ (dm ++ db))) (h1 : a.length = da.length) (h2 : m.length = dm.length) : OwnA w lo hi m dm := by
  refine ⟨(AllA.split h2 (AllA.split h1 h.1).2).1, ?_⟩
  have := h.2
  rw [List.filterMap_append, List.filterMap_append, List.nodup_append] at this
  exact (List.nodup_append.1 this.2.1).1
/-- A segment was written anew, and nothing else. -/
theorem OwnA.reseg {w w' : World} {lo hi : Nat} {a m b : List Value} {da dm dm' db : List Lf} (h : OwnA w lo hi (a ++ (m ++ b)) (da ++ (dm ++ db))) (h1 : a.length = da.length) (h2 : m.length = dm.length) (k : OwnA w' lo hi m dm') (t : Touch m w w') : OwnA w' lo hi (a ++ (m ++ b)) (da ++ (dm' ++ db)) := by
  obtain ⟨ha, hmb⟩ := AllA.split h1 h.1
  obtain ⟨_, hb⟩ := AllA.split h2 hmb
  have hn := h.2
  rw [List.filterMap_append, List.filterMap_append, List.nodup_append] at hn
  obtain ⟨_, n2, n3⟩ := hn
  obtain ⟨_, _, n5⟩ := List.nodup_append.1 n2
  refine ⟨AllA.join (AllA.imp (fun v _ hv h => h.away t (fun x hx hm => ?_)) ha) (AllA.join k.1 (AllA.imp (fun v _ hv h => h.away t (fun x hx hm => ?_)) hb)), h.2⟩
  · exact n3 x (List.mem_filterMap.2 ⟨v, hv, hx⟩) x (List.mem_append.2 (.inl hm)) rfl
  · exact n5 x hm x (List.mem_filterMap.2 ⟨v, hv, hx⟩) rfl
theorem OwnA.one {w : World} {lo hi : Nat} {v : Value} {d : Lf} (h : OwnL w lo hi v d) : OwnA w lo hi [v] [d] := ⟨⟨h, trivial⟩, by
  cases hb : blkL v with
  | none => simp [hb]
  | some b => simp [hb]⟩
theorem OwnA.set {w : World} {lo hi : Nat} {vs : List Value} {ds : List Lf} (h : OwnA w lo hi vs ds) {p : Addr} (hp : p.block < lo) (u : Value) : OwnA (w.setCell p u) lo hi vs ds :=
  h.btw ((Btw.refl p.block (p.block + 1) w).setCell (Nat.le_refl _) (Nat.lt_succ_self _) u) (.inr hp)
theorem Touch.mem {m vs : List Value} {w w' : World} (h : Touch m w w') (hs : ∀ v ∈ m, v ∈ vs) : Touch vs w w' := h.more fun k hk => by
  obtain ⟨v, hv, he⟩ := List.mem_filterMap.1 hk
  exact List.mem_filterMap.2 ⟨v, hs v hv, he⟩
theorem Touch.chain {vs : List Value} {a b c : World} (h : Touch vs a b) (k : Touch vs b c) : Touch vs a c := (h.trans k).more fun x hx => by
  rw [List.filterMap_append, List.mem_append] at hx
  rcases hx with h | h <;> exact h
theorem Box.touch {w w' : World} {b lo hi : Nat} {t : TypeId} {cs : Array Value} {vs : List Value} {ds : List Lf} (X : Box w b t cs) (h : OwnA w lo hi vs ds) (k : Touch vs w w') (hb : b < lo ∨ hi ≤ b) : Box w' b t cs := X.btw (k.btw h) hb
theorem OwnA.len {w : World} {lo hi : Nat} {vs : List Value} {ds : List Lf} (h : OwnA w lo hi vs ds) : vs.length = ds.length := by
  have aux : ∀ {vs : List Value} {ds : List Lf}, AllA (OwnL w lo hi) vs ds → vs.length = ds.length := by
    intro vs
    induction vs with
    | nil => intro ds h; cases ds with
      | nil => rfl
      | cons => exact h.elim
    | cons v vs ih => intro ds h; cases ds with
      | nil => exact h.elim
      | cons d ds => simp [ih h.2]
  exact aux h.1
theorem repI {w : World} {A : Option Addr} {c : Nat} {zs : List Int} (h : RepL w (.slice A zs.length c) (.I zs)) : IntL w A zs := by
  obtain ⟨A', c', e, h⟩ := h
  injection e with e1 e2 e3
  subst e1
  exact h
theorem repB {w : World} {A : Option Addr} {c : Nat} {zs : List Bool} (h : RepL w (.slice A zs.length c) (.B zs)) : BoolL w A zs := by
  obtain ⟨A', c', e, h⟩ := h
  injection e with e1 e2 e3
  subst e1
  exact h
theorem repS {w : World} {A : Option Addr} {c : Nat} {zs : List ByteArray} (h : RepL w (.slice A zs.length c) (.S zs)) : StrL w A zs := by
  obtain ⟨A', c', e, h⟩ := h
  injection e with e1 e2 e3
  subst e1
  exact h
theorem lenS_mem {ss : List ByteArray} {s : ByteArray} (h : s ∈ ss) : s.size ≤ lenS ss := by
  induction ss with
  | nil => cases h
  | cons x ss ih =>
    have e : lenS (x :: ss) = x.size + lenS ss := by simp [lenS]
    rcases List.mem_cons.1 h with rfl | h
    · omega
    · have := ih h; omega
theorem fit_of_sz {ss : List ByteArray} (h : szA [.S ss] ≤ 1048576) : FitS ss := fun s hs => by
  have := lenS_mem hs
  simp only [szA, Lf.sz] at h
  unfold maxLen; omega
theorem OwnI.rowOf {w : World} {lo hi : Nat} {A : Option Addr} {zs : List Int} {c b : Nat} (h : OwnI w lo hi A zs) (hb : blkL (.slice A zs.length c) = some b) : ∃ m f, w.rowIs b 3 m f := by
  rcases h with rfl | ⟨g, m, f, rfl, _, _, _, hr, _⟩
  · rw [List.length_nil, blkL_zero] at hb; cases hb
  · rcases Nat.eq_zero_or_pos zs.length with hz | hz
    · rw [hz, blkL_zero] at hb; cases hb
    · rw [blkL_some hz] at hb; injection hb with hb; subst hb; exact ⟨m, f, hr⟩
theorem OwnB.rowOf {w : World} {lo hi : Nat} {A : Option Addr} {zs : List Bool} {c b : Nat} (h : OwnB w lo hi A zs) (hb : blkL (.slice A zs.length c) = some b) : ∃ m f, w.rowIs b 4 m f := by
  rcases h with rfl | ⟨g, m, f, rfl, _, _, _, hr, _⟩
  · rw [List.length_nil, blkL_zero] at hb; cases hb
  · rcases Nat.eq_zero_or_pos zs.length with hz | hz
    · rw [hz, blkL_zero] at hb; cases hb
    · rw [blkL_some hz] at hb; injection hb with hb; subst hb; exact ⟨m, f, hr⟩
theorem OwnS.rowOf {w : World} {lo hi : Nat} {A : Option Addr} {zs : List ByteArray} {c b : Nat} (h : OwnS w lo hi A zs) (hb : blkL (.slice A zs.length c) = some b) : ∃ m f, w.rowIs b 9 m f := by
  rcases h with rfl | ⟨g, m, f, rfl, _, _, _, hr, _⟩
  · rw [List.length_nil, blkL_zero] at hb; cases hb
  · rcases Nat.eq_zero_or_pos zs.length with hz | hz
    · rw [hz, blkL_zero] at hb; cases hb
    · rw [blkL_some hz] at hb; injection hb with hb; subst hb; exact ⟨m, f, hr⟩
/-- A []int and a []bool of the call's own are of two blocks. -/
theorem ownIB {w : World} {lo hi : Nat} {A C : Option Addr} {c d : Nat} {zs : List Int} {gs : List Bool} (h : OwnI w lo hi A zs) (g : OwnB w lo hi C gs) : OwnA w lo hi [.slice A zs.length c, .slice C gs.length d] [.I zs, .B gs] :=
  OwnA.cons ⟨A, c, rfl, h⟩ (OwnA.one ⟨C, d, rfl, g⟩) (fun b hb hm => by
    obtain ⟨m, f, hr⟩ := h.rowOf hb
    obtain ⟨v, hv, he⟩ := List.mem_filterMap.1 hm
    rw [List.mem_singleton] at hv
    subst hv
    obtain ⟨m', f', hr'⟩ := g.rowOf he
    exact row_ne hr hr' (by decide) rfl)
end Go.Proofs.Ytagdclbpgkilgaa

/- The laws' own functions over Instr, on leaves. Written by gen_t.py. -/
namespace Go.Proofs.Ytagdclbpgkilgaa
open Go.RowKit

end Go.Proofs.Ytagdclbpgkilgaa

/- The table of operations: what its rows hold; the lengths and cycles of operations on both sides. -/
namespace Go.Proofs.Ytagdclbpgkilgaa
open Go.RowKit

def opWords : List ByteArray := [⟨#[110, 111, 112]⟩, ⟨#[104, 97, 108, 116]⟩, ⟨#[114, 101, 116, 105]⟩, ⟨#[101, 105]⟩, ⟨#[100, 105]⟩, ⟨#[108, 100, 105]⟩, ⟨#[108, 100]⟩, ⟨#[115, 116]⟩, ⟨#[105, 110, 99]⟩, ⟨#[100, 101, 99]⟩, ⟨#[97, 100, 100]⟩, ⟨#[115, 117, 98]⟩, ⟨#[97, 110, 100]⟩, ⟨#[111, 114]⟩, ⟨#[120, 111, 114]⟩, ⟨#[106, 112]⟩, ⟨#[106, 122]⟩, ⟨#[106, 110, 122]⟩, ⟨#[99, 97, 108, 108]⟩, ⟨#[114, 101, 116]⟩, ⟨#[115, 119, 105]⟩, ⟨#[98, 97, 110, 107]⟩, ⟨#[]⟩]
def opWord (k : Nat) : ByteArray := opWords.getD k ByteArray.empty
/-- The greatest register, argument and the fixed cycles of an operation. -/
def regT (k : Int) : Int := if 5 ≤ k ∧ k ≤ 14 then 3 else 0
def argT (k : Int) : Int := if k = 21 then 3 else if k = 5 ∨ k = 20 then 255 else if k = 6 ∨ k = 7 ∨ (15 ≤ k ∧ k ≤ 18) then 4095 else 0
def fixT (k : Int) : Int := if k = 18 ∨ k = 19 ∨ k = 2 then 8 else if k = 20 ∨ k = 22 then 12 else 0
/-- The length of an operation, its cycles. -/
def lenT (k : Int) : Int := if k = 5 ∨ k = 20 ∨ k = 21 then 2 else if k = 6 ∨ k = 7 ∨ (15 ≤ k ∧ k ≤ 18) then 3 else 1
def cycT (k : Int) : Int := if k = 18 ∨ k = 19 ∨ k = 2 then 8 else if k = 20 ∨ k = 22 then 12 else 2 * lenT k
def okIns (op reg arg : Int) : Bool := decide (0 ≤ op ∧ op ≤ 21 ∧ 0 ≤ reg ∧ reg ≤ regT op ∧ 0 ≤ arg ∧ arg ≤ argT op)
def lenA_ (a : Int) : Int := if 255 < a then 3 else if 0 < a then 2 else 1
theorem lenA_arg (k : Int) : lenA_ (argT k) = lenT k := by
  unfold lenA_ argT lenT
  repeat' split
  all_goals omega
theorem lenT_range (k : Int) : 1 ≤ lenT k ∧ lenT k ≤ 3 := by
  unfold lenT
  repeat' split
  all_goals omega
theorem fix_cyc (k : Int) : (if 0 < fixT k then fixT k else 2 * lenT k) = cycT k := by
  unfold fixT cycT
  repeat' split
  all_goals omega
theorem regT_range (k : Int) : 0 ≤ regT k ∧ regT k ≤ 3 := by
  unfold regT
  split <;> omega
theorem argT_range (k : Int) : 0 ≤ argT k ∧ argT k ≤ 4095 := by
  unfold argT
  repeat' split
  all_goals omega
theorem fixT_range (k : Int) : 0 ≤ fixT k ∧ fixT k ≤ 12 := by
  unfold fixT
  repeat' split
  all_goals omega

def OpsT (w : World) : Prop := ∀ k : Nat, k < 23 → w.cell? ⟨0, k * 4, none⟩ = some (.string (opWord k)) ∧ w.cell? ⟨0, k * 4 + 1, none⟩ = some (.int .i64 (regT k)) ∧ w.cell? ⟨0, k * 4 + 2, none⟩ = some (.int .i64 (argT k)) ∧ w.cell? ⟨0, k * 4 + 3, none⟩ = some (.int .i64 (fixT k))
theorem OpsT.lt {w : World} (h : OpsT w) : 0 < w.heap.size := cell_lt (h 0 (by omega)).1
theorem OpsT.below {w w' : World} (h : OpsT w) (hb : Below w.heap.size w w') : OpsT w' := fun k hk => by
  obtain ⟨h1, h2, h3, h4⟩ := h k hk
  exact ⟨(hb.cell (cell_lt h1)).trans h1, (hb.cell (cell_lt h2)).trans h2, (hb.cell (cell_lt h3)).trans h3, (hb.cell (cell_lt h4)).trans h4⟩

section
variable (s : ByteArray) (r a c : Int) (w : World)
end

end Go.Proofs.Ytagdclbpgkilgaa

/- A contract of a callee that leaves the world alone, inside a region that only reads. -/
namespace Go.Proofs.Ytagdclbpgkilgaa
open Go.RowKit
theorem quietSame {P : Program} {f : FuncId} {args : Array Value} {w : World} {n : Nat} {v : Value}
    (h : Calls P f args (w.drewN n) fun e w' => e = .returned v ∧ w.drewN n = w') : Calls P f args (w.drewN n) fun e w' => e = .returned v ∧ ∃ m, w' = w.drewN m :=
  h.mono fun _ _ ⟨he, hw⟩ => ⟨he, n, hw.symm⟩
end Go.Proofs.Ytagdclbpgkilgaa

/- Valid instructions, lengths and cycles: both sides. -/
namespace Go.Proofs.Ytagdclbpgkilgaa
open Go.RowKit

def rngB (n lo hi : Int) : Bool := decide (lo ≤ n ∧ n ≤ hi)
def bitI (b : Bool) : Int := if b then 1 else 0
theorem rngB_t {n lo hi : Int} (h : lo ≤ n ∧ n ≤ hi) : rngB n lo hi = true := by simp [rngB, h]
theorem rngB_f {n lo hi : Int} (h : ¬ (lo ≤ n ∧ n ≤ hi)) : rngB n lo hi = false := by simp only [rngB, decide_eq_false_iff_not]; exact h
set_option maxRecDepth 100000 in
theorem l01InA (n lo hi : Int) (w : World) : Calls Try.prog 51 #[.int .i64 n, .int .i64 lo, .int .i64 hi] w fun e w' => e = .returned (.bool (rngB n lo hi)) ∧ w = w' := by
  go_enter Try.func51, Try.ntmps51
  go_wp2
  all_goals go_ret
  all_goals (refine ⟨ret_bool ?_, rfl⟩)
  all_goals (unfold rngB; rw [Bool.eq_iff_iff]; simp; try omega)
set_option maxRecDepth 100000 in
theorem isUpToA (n l : Int) (w : World) : Calls Try.prog 57 #[.int .i64 n, .int .i64 l] w fun e w' => e = .returned (.bool (rngB n 0 l)) ∧ w = w' := by
  go_enter Try.func57, Try.ntmps57
  go_wp2
  all_goals go_ret
  all_goals (refine ⟨ret_bool ?_, rfl⟩)
  all_goals (unfold rngB; rw [Bool.eq_iff_iff]; simp; try omega)
set_option maxRecDepth 100000 in
theorem isByteA (n : Int) (w : World) : Calls Try.prog 71 #[.int .i64 n] w fun e w' => e = .returned (.bool (rngB n 0 255)) ∧ w = w' := by
  go_enter Try.func71, Try.ntmps71
  go_wp2
  all_goals go_ret
  all_goals (refine ⟨ret_bool ?_, rfl⟩)
  all_goals (unfold rngB; rw [Bool.eq_iff_iff]; simp; try omega)
set_option maxRecDepth 100000 in
theorem l01BitA (b : Bool) (w : World) : Calls Try.prog 103 #[.bool b] w fun e w' => e = .returned (.int .i64 (bitI b)) ∧ w = w' := by
  cases b
  all_goals
    go_enter Try.func103, Try.ntmps103
    go_wp2
    go_ret
    exact ⟨rfl, rfl⟩
theorem okIns_op (op reg arg : Int) (h : ¬ (0 ≤ op ∧ op ≤ 21)) : okIns op reg arg = false := by unfold okIns; simp only [decide_eq_false_iff_not]; omega
theorem okIns_reg (op reg arg : Int) (h : ¬ (0 ≤ reg ∧ reg ≤ regT op)) : okIns op reg arg = false := by unfold okIns; simp only [decide_eq_false_iff_not]; omega
theorem okIns_arg (op reg arg : Int) (h0 : 0 ≤ op ∧ op ≤ 21) (h : 0 ≤ reg ∧ reg ≤ regT op) : okIns op reg arg = rngB arg 0 (argT op) := by
  unfold okIns rngB; rw [Bool.eq_iff_iff]; simp only [decide_eq_true_eq]; omega
theorem arg_len (op : Int) (h : ¬ op = 21) : argT op = (if lenT op = 1 then 0 else if lenT op = 2 then 255 else 4095) := by
  unfold argT lenT
  rw [if_neg h]
  by_cases h1 : op = 5 ∨ op = 20
  · rw [if_pos h1, if_pos (show op = 5 ∨ op = 20 ∨ op = 21 from by omega)]; rfl
  · rw [if_neg h1, if_neg (show ¬ (op = 5 ∨ op = 20 ∨ op = 21) from by omega)]
    split <;> rfl
theorem in_zero (n : Int) : rngB n 0 0 = (n == 0) := by unfold rngB; rw [Bool.eq_iff_iff]; simp; omega
section
variable (op reg arg : Int) (w : World)
end
end Go.Proofs.Ytagdclbpgkilgaa

/- LengthOf, CyclesOf on both sides. -/
namespace Go.Proofs.Ytagdclbpgkilgaa
open Go.RowKit

def lenF (n : Int) : Int × Int := if rngB n 0 22 then (lenT n, 0) else (0, 4)
def cycF (n : Int) : Int × Int := if rngB n 0 22 then (cycT n, 0) else (0, 4)
theorem tup2 {a b c d : Int} (h : (a, b) = (c, d)) : Ending.returned (.tuple #[.int .i64 a, .int .i64 b]) = .returned (.tuple #[.int .i64 c, .int .i64 d]) := by
  injection h with h1 h2; rw [h1, h2]
section
variable (n : Int) (w : World)
end
end Go.Proofs.Ytagdclbpgkilgaa

/- Decode on both sides. -/
namespace Go.Proofs.Ytagdclbpgkilgaa
open Go.RowKit

def decArg (a b c : Int) : Int := if lenT (a / 8) = 2 then b else if lenT (a / 8) = 3 then b + 256 * c else 0
def decV (a b c : Int) : Int × Int × Int := if okIns (a / 8) (a % 8) (decArg a b c) then (a / 8, a % 8, decArg a b c) else (22, 0, 0)
def byT (a b c : Int) : Bool := rngB a 0 255 && (rngB b 0 255 && rngB c 0 255)
def dcdF (a b c : Int) : (Int × Int × Int) × Int := if byT a b c then (decV a b c, 0) else ((0, 0, 0), 4)
theorem byT_t {a b c : Int} (h : (0 ≤ a ∧ a ≤ 255) ∧ (0 ≤ b ∧ b ≤ 255) ∧ (0 ≤ c ∧ c ≤ 255)) : byT a b c = true := by unfold byT; rw [rngB_t h.1, rngB_t h.2.1, rngB_t h.2.2]; rfl
theorem byT_f {a b c : Int} (h : ¬ ((0 ≤ a ∧ a ≤ 255) ∧ (0 ≤ b ∧ b ≤ 255) ∧ (0 ≤ c ∧ c ≤ 255))) : byT a b c = false := by
  unfold byT
  by_cases h1 : 0 ≤ a ∧ a ≤ 255
  · by_cases h2 : 0 ≤ b ∧ b ≤ 255
    · rw [rngB_t h1, rngB_t h2, rngB_f (fun h3 => h ⟨h1, h2, h3⟩)]; rfl
    · rw [rngB_t h1, rngB_f h2]; rfl
  · rw [rngB_f h1]; rfl
theorem bcells {W w1 : World} (hb : Below W.heap.size W w1) : (∀ b o, b < W.heap.size → w1.cell? ⟨b, o, none⟩ = W.cell? ⟨b, o, none⟩) ∧ (∀ b o, b < W.heap.size → w1.frozen? ⟨b, o, none⟩ = W.frozen? ⟨b, o, none⟩) :=
  ⟨fun b o h => hb.cell (p := ⟨b, o, none⟩) h, fun b o h => hb.frozen (p := ⟨b, o, none⟩) h⟩

def byN (n : Int) : Bool := rngB n 0 255
set_option maxRecDepth 100000 in
set_option maxHeartbeats 1000000 in
theorem l05BytesA (A : Option Addr) (n c : Nat) (zs : List Int) (w : World) (hl : zs.length = n) (hn : n ≤ maxLen) (h : IntL w A zs) :
    Calls Try.prog 80 #[.slice A n c] w fun e w' => e = .returned (.bool (zs.all byN)) ∧ w = w' := by
  unfold maxLen at hn
  have HL := Lib.hid hl
  have H := Lib.hid h
  clear hl h
  go_enter Try.func80, Try.ntmps80
  go_wp2
  go_loop [3] (fun i => ∃ k : Nat, k ≤ n ∧ i = .int .i64 k ∧ Hid (zs.all byN = (zs.drop k).all byN)) (fun i => n - (intOf i).toNat)
  case atStart => exact ⟨0, Nat.zero_le _, rfl, Lib.hid rfl⟩
  case round =>
    obtain ⟨k, hk, rfl, HT⟩ := hrel
    by_cases hlt : k < n
    · obtain ⟨b, off, rfl, hc⟩ := H.out k (by rw [HL.out]; exact hlt)
      have HS := Lib.hid (all_step byN zs 0 k (by rw [HL.out]; exact hlt))
      generalize zs.getD k 0 = x at hc HS
      have hi : (k : Int) < (n : Int) := by omega
      by_cases hE : rngB x 0 255 = true
      · go_wp2_with (first | (go_at_call 51; refine (l01InA _ _ _ _).mono ?_; rintro e w' ⟨rfl, rfl⟩; rw [hE]))
        go_round
        case rel => exact ⟨k + 1, by omega, by go_num, Lib.hid (by rw [HT.out, HS.out, show byN x = true from hE]; rfl)⟩
        case measure => simp [intOf]; omega
      · have hE' : rngB x 0 255 = false := by simpa using hE
        clear hE
        go_wp2_with (first | (go_at_call 51; refine (l01InA _ _ _ _).mono ?_; rintro e w' ⟨rfl, rfl⟩; rw [hE']))
        go_ret
        exact ⟨ret_bool (by rw [HT.out, HS.out, show byN x = false from hE']; rfl), rfl⟩
    · have HT2 : Hid (zs.all byN = true) := Lib.hid (by rw [HT.out]; exact all_end _ _ _ (by rw [HL.out]; omega))
      go_wp2
      go_ret
      exact ⟨ret_bool HT2.out.symm, rfl⟩

section
variable (a b c : Int) (w : World)
end
end Go.Proofs.Ytagdclbpgkilgaa

/- A processor and a memory as plain data: pushing, pulling, calling, returning, the flags, what an instruction does. -/
namespace Go.Proofs.Ytagdclbpgkilgaa
open Go.RowKit

structure MD where
  r : List Int
  i : List Int
  z : List Int
  g : List Bool
  s : Int
structure CD where
  pc : Int
  sp : Int
  bank : Int
  level : Int
  zero : Bool
  carry : Bool
  on : Bool
  halt : Bool
  regs : List Int

def MD.ok (m : MD) : Bool := okMem m.r m.i m.z m.g m.s
def CD.ok (d : CD) : Bool := rngB d.pc 0 4095 && (rngB d.sp 0 255 && (rngB d.bank 0 3 && (rngB d.level 0 7 && (decide (d.regs.length = 16) && d.regs.all byB))))
def MD.get (m : MD) (a : Int) : Int := getV m.r m.i m.z m.g readV m.s a
def MD.put (m : MD) (a v : Int) : MD := ⟨putR m.r a v, putI m.i a v, putZ m.z m.g m.s a v, putG m.g m.s a, putS m.s a v⟩
def CD.reg (d : CD) (k : Int) : Int := d.regs.getD (4 * d.bank + k).toNat 0
def CD.set (d : CD) (k v : Int) : CD := { d with regs := d.regs.set (4 * d.bank + k).toNat v }
def CD.flags (d : CD) : Int := d.level + 8 * d.bank + 32 * bitI d.zero + 64 * bitI d.carry + 128 * bitI d.on
def CD.toFlags (d : CD) (v : Int) : CD := { d with level := v % 8, bank := v / 8 % 4, zero := decide (v / 32 % 2 = 1), carry := decide (v / 64 % 2 = 1), on := decide (v / 128 % 2 = 1) }
def CD.down (d : CD) : CD := { d with sp := (d.sp + 255) % 256 }
def CD.up (d : CD) : CD := { d with sp := (d.sp + 1) % 256 }
def CD.at (d : CD) (pc : Int) : CD := { d with pc := pc }
/-- Calling: the higher byte, then the lower one. -/
def callD (d : CD) (pc : Int) : CD := d.down.down.at pc
def callM (d : CD) (m : MD) : MD := (m.put d.sp (d.pc / 256)).put ((d.sp + 255) % 256) (d.pc % 256)
/-- Returning. -/
def backD (d : CD) (m : MD) : CD := d.up.up.at ((m.get ((d.sp + 1) % 256) + 256 * m.get (((d.sp + 1) % 256 + 1) % 256)) % 4096)
def retiD (d : CD) (m : MD) : CD := (backD d.up m).toFlags (m.get ((d.sp + 1) % 256))
/-- An interrupt. -/
def enterD (d : CD) (line level : Int) : CD := { (callD { d with halt := false } (704 + 4 * line)).down with level := level }
def enterM (d : CD) (m : MD) : MD := (callM d m).put (((d.sp + 255) % 256 + 255) % 256) d.flags
/-- Register 0, or that of inc and dec, and the flags. -/
def CD.res (d : CD) (k v : Int) : CD := { d.set k (v % 256) with zero := decide (v % 256 = 0) }
def andI (a b : Int) : Int := ((a.toNat &&& b.toNat : Nat) : Int)
def orI (a b : Int) : Int := ((a.toNat ||| b.toNat : Nat) : Int)
def xorI (a b : Int) : Int := ((a.toNat ^^^ b.toNat : Nat) : Int)
def aluV (op a b : Int) : Int := if op = 10 then a + b else if op = 11 then a - b else if op = 12 then andI a b else if op = 13 then orI a b else xorI a b
def CD.comb (d : CD) (v : Int) : CD := { d.res 0 v with carry := !byB v }
/-- What an instruction does to the processor, to the memory, and its swi. -/
def execD (d : CD) (m : MD) (op reg arg : Int) : CD :=
  if op = 1 then { d with halt := true } else if op = 2 then retiD d m else if op = 3 then { d with on := true } else if op = 4 then { d with on := false }
  else if op = 5 then d.set reg arg else if op = 6 then d.res reg (m.get arg) else if op = 8 then d.res reg (d.reg reg + 1) else if op = 9 then d.res reg (d.reg reg - 1)
  else if 10 ≤ op ∧ op ≤ 14 then d.comb (aluV op (d.reg 0) (d.reg reg)) else if op = 15 then d.at arg else if op = 16 then (if d.zero then d.at arg else d) else if op = 17 then (if d.zero then d else d.at arg)
  else if op = 18 then callD d arg else if op = 19 then backD d m else if op = 21 then { d with bank := arg } else if op = 22 then callD d 752 else d
def execM (d : CD) (m : MD) (op reg arg : Int) : MD := if op = 7 then m.put arg (d.reg reg) else if op = 18 ∨ op = 22 then callM d m else m
def execS (op arg : Int) : Int := if op = 20 then arg else -1
def fetchF (d : CD) (m : MD) : Int × Int × Int := decV (m.get d.pc) (m.get ((d.pc + 1) % 4096)) (m.get ((d.pc + 2) % 4096))
def nextD (d : CD) (m : MD) : CD := d.at ((d.pc + lenT (fetchF d m).1) % 4096)
def stepD (d : CD) (m : MD) : CD := if d.halt then d else execD (nextD d m) m (fetchF d m).1 (fetchF d m).2.1 (fetchF d m).2.2
def stepM (d : CD) (m : MD) : MD := if d.halt then m else execM (nextD d m) m (fetchF d m).1 (fetchF d m).2.1 (fetchF d m).2.2
def stepN (d : CD) (m : MD) : Int := if d.halt then 4 else cycT (fetchF d m).1
def stepS (d : CD) (m : MD) : Int := if d.halt then -1 else execS (fetchF d m).1 (fetchF d m).2.2

/-- What is asked of the data. -/
structure CD.Ok (d : CD) : Prop where
  pc : 0 ≤ d.pc ∧ d.pc ≤ 4095
  sp : 0 ≤ d.sp ∧ d.sp ≤ 255
  bank : 0 ≤ d.bank ∧ d.bank ≤ 3
  level : 0 ≤ d.level ∧ d.level ≤ 7
  len : d.regs.length = 16
  regs : ∀ z ∈ d.regs, 0 ≤ z ∧ z ≤ 255
structure MD.Ok (m : MD) : Prop where
  r : m.r.length = 256
  i : m.i.length = 32
  z : m.z.length = 256
  g : m.g.length = 16
  s : 0 ≤ m.s ∧ m.s ≤ 8
  rb : ∀ z ∈ m.r, 0 ≤ z ∧ z ≤ 255
  ib : ∀ z ∈ m.i, 0 ≤ z ∧ z ≤ 255
  zb : ∀ z ∈ m.z, 0 ≤ z ∧ z ≤ 255
theorem byB_iff {v : Int} : byB v = true ↔ 0 ≤ v ∧ v ≤ 255 := by unfold byB; simp
theorem CD.ok_iff {d : CD} : d.ok = true ↔ d.Ok := by
  unfold CD.ok
  constructor
  · intro h
    simp only [Bool.and_eq_true, rngB, decide_eq_true_eq, List.all_eq_true] at h
    exact ⟨h.1, h.2.1, h.2.2.1, h.2.2.2.1, h.2.2.2.2.1, fun z hz => byB_iff.1 (h.2.2.2.2.2 z hz)⟩
  · intro h
    simp only [Bool.and_eq_true, rngB, decide_eq_true_eq, List.all_eq_true]
    exact ⟨h.pc, h.sp, h.bank, h.level, h.len, fun z hz => byB_iff.2 (h.regs z hz)⟩
theorem MD.ok_iff {m : MD} : m.ok = true ↔ m.Ok := by
  unfold MD.ok
  constructor
  · intro h
    obtain ⟨h1, h2, h3, h4, h5⟩ := okMem_len h
    obtain ⟨h6, h7, h8, h9⟩ := okFlash_len h5
    exact ⟨h1, h2, h6, h7, h8, all_bytes h3, all_bytes h4, h9⟩
  · intro h
    exact okMem_mk h.r h.i (List.all_eq_true.2 fun z hz => byB_iff.2 (h.rb z hz)) (List.all_eq_true.2 fun z hz => byB_iff.2 (h.ib z hz)) (okFlash_mk h.z h.g h.s h.zb)

theorem getD_byte {l : List Int} {n : Nat} (h : ∀ z ∈ l, 0 ≤ z ∧ z ≤ 255) (k : Nat) (hn : n = l.length) (hk : k < n) : 0 ≤ l.getD k 0 ∧ l.getD k 0 ≤ 255 := by
  rw [List.getD_eq_getElem?_getD, List.getElem?_eq_getElem (by omega)]
  exact h _ (List.getElem_mem _)
theorem set_byte {l : List Int} (h : ∀ z ∈ l, 0 ≤ z ∧ z ≤ 255) (k : Nat) {v : Int} (hv : 0 ≤ v ∧ v ≤ 255) : ∀ z ∈ l.set k v, 0 ≤ z ∧ z ≤ 255 := fun z hz => by
  rcases List.mem_or_eq_of_mem_set hz with h1 | rfl
  · exact h z h1
  · exact hv
theorem readV_range {zs : List Int} {gs : List Bool} {st : Int} {n : Nat} (hz : ∀ z ∈ zs, 0 ≤ z ∧ z ≤ 255) (hl : zs.length = 256) (hn : n < 256) : 0 ≤ readV zs gs st n ∧ readV zs gs st n ≤ 255 := by
  unfold readV
  split
  · repeat' split
    all_goals omega
  · exact getD_byte hz n hl.symm hn
theorem MD.Ok.get {m : MD} (h : m.Ok) (a : Int) (h0 : 0 ≤ a) (h1 : a ≤ 4095) : 0 ≤ m.get a ∧ m.get a ≤ 255 := by
  obtain ⟨k, rfl⟩ : ∃ k : Nat, a = k := ⟨a.toNat, by omega⟩
  unfold MD.get getV
  rcases reg_ways k (by omega) with ⟨h2, e1, e2⟩ | ⟨h2, h3, e1, e2⟩ | ⟨h2, h3, e1, e2⟩ | ⟨h2, h3, e1, e2⟩
  · rw [e1, e2, if_pos rfl]; exact getD_byte h.rb _ h.r.symm (by omega)
  · rw [e1, e2, if_neg (by omega), if_pos rfl]; exact getD_byte h.ib _ h.i.symm (by omega)
  · rw [e1, e2, if_neg (by omega), if_neg (by omega), if_pos rfl]; exact readV_range h.zb h.z (by omega)
  · rw [e1, if_neg (by omega), if_neg (by omega), if_neg (by omega)]; omega
theorem MD.Ok.put {m : MD} (h : m.Ok) {a v : Int} (_h0 : 0 ≤ a) (_h1 : a ≤ 4095) (hv : 0 ≤ v ∧ v ≤ 255) : (m.put a v).Ok := by
  refine ⟨(putR_len _ _ _).trans h.r, (putI_len _ _ _).trans h.i, (putZ_len _ _ _ _ _).trans h.z, (putG_len _ _ _).trans h.g, ?_, ?_, ?_, ?_⟩
  · show 0 ≤ putS m.s a v ∧ putS m.s a v ≤ 8
    unfold putS; split
    · exact nextS_in _ _ _
    · exact h.s
  · show ∀ z ∈ putR m.r a v, 0 ≤ z ∧ z ≤ 255
    unfold putR; split
    · exact set_byte h.rb _ hv
    · exact h.rb
  · show ∀ z ∈ putI m.i a v, 0 ≤ z ∧ z ≤ 255
    unfold putI; split
    · exact set_byte h.ib _ hv
    · exact h.ib
  · show ∀ z ∈ putZ m.z m.g m.s a v, 0 ≤ z ∧ z ≤ 255
    unfold putZ; split
    · exact cycZ_range h.zb (by omega)
    · exact h.zb
theorem CD.Ok.down {d : CD} (h : d.Ok) : d.down.Ok := ⟨h.pc, by show 0 ≤ (d.sp + 255) % 256 ∧ (d.sp + 255) % 256 ≤ 255; omega, h.bank, h.level, h.len, h.regs⟩
theorem CD.Ok.up {d : CD} (h : d.Ok) : d.up.Ok := ⟨h.pc, by show 0 ≤ (d.sp + 1) % 256 ∧ (d.sp + 1) % 256 ≤ 255; omega, h.bank, h.level, h.len, h.regs⟩
theorem CD.Ok.at {d : CD} (h : d.Ok) {a : Int} (h0 : 0 ≤ a) (h1 : a ≤ 4095) : (d.at a).Ok := ⟨⟨h0, h1⟩, h.sp, h.bank, h.level, h.len, h.regs⟩
theorem CD.Ok.reg {d : CD} (h : d.Ok) {k : Int} (h0 : 0 ≤ k) (h1 : k ≤ 3) : 0 ≤ d.reg k ∧ d.reg k ≤ 255 := by
  have := h.bank
  exact getD_byte h.regs _ h.len.symm (by omega)
theorem CD.Ok.set {d : CD} (h : d.Ok) {k v : Int} (hv : 0 ≤ v ∧ v ≤ 255) : (d.set k v).Ok := ⟨h.pc, h.sp, h.bank, h.level, by simpa [CD.set] using h.len, set_byte h.regs _ hv⟩
theorem CD.Ok.flags {d : CD} (h : d.Ok) : 0 ≤ d.flags ∧ d.flags ≤ 255 := by
  have := h.bank
  have := h.level
  have hb : ∀ b, 0 ≤ bitI b ∧ bitI b ≤ 1 := fun b => by cases b <;> decide
  have := hb d.zero
  have := hb d.carry
  have := hb d.on
  unfold CD.flags
  omega
theorem CD.Ok.toFlags {d : CD} (h : d.Ok) (v : Int) : (d.toFlags v).Ok := ⟨h.pc, h.sp, by show 0 ≤ v / 8 % 4 ∧ v / 8 % 4 ≤ 3; omega, by show 0 ≤ v % 8 ∧ v % 8 ≤ 7; omega, h.len, h.regs⟩
theorem CD.Ok.call {d : CD} (h : d.Ok) {a : Int} (h0 : 0 ≤ a) (h1 : a ≤ 4095) : (callD d a).Ok := h.down.down.at h0 h1
theorem MD.Ok.call {d : CD} {m : MD} (h : d.Ok) (k : m.Ok) : (callM d m).Ok := by
  have := h.pc
  have := h.sp
  exact (k.put (by omega) (by omega) (by omega)).put (by omega) (by omega) (by omega)
theorem CD.Ok.back {d : CD} (h : d.Ok) (m : MD) : (backD d m).Ok := h.up.up.at (by omega) (by omega)
theorem CD.Ok.reti {d : CD} (h : d.Ok) (m : MD) : (retiD d m).Ok := (h.up.back m).toFlags _
theorem CD.Ok.res {d : CD} (h : d.Ok) (k v : Int) : (d.res k v).Ok := by
  have := h.set (k := k) (v := v % 256) (by omega)
  exact ⟨this.pc, this.sp, this.bank, this.level, this.len, this.regs⟩
theorem CD.Ok.comb {d : CD} (h : d.Ok) (v : Int) : (d.comb v).Ok := by
  have := h.res 0 v
  exact ⟨this.pc, this.sp, this.bank, this.level, this.len, this.regs⟩
theorem CD.Ok.enter {d : CD} (h : d.Ok) {line level : Int} (h0 : 0 ≤ line ∧ line ≤ 7) (h1 : 0 ≤ level ∧ level ≤ 7) : (enterD d line level).Ok := by
  have h2 : ({ d with halt := false } : CD).Ok := ⟨h.pc, h.sp, h.bank, h.level, h.len, h.regs⟩
  have := (h2.call (a := 704 + 4 * line) (by omega) (by omega)).down
  exact ⟨this.pc, this.sp, this.bank, h1, this.len, this.regs⟩
theorem MD.Ok.enter {d : CD} {m : MD} (h : d.Ok) (k : m.Ok) : (enterM d m).Ok := by
  have := h.sp
  exact (MD.Ok.call h k).put (by omega) (by omega) h.flags
/-- What is decoded. -/
theorem decV_ok (a b c : Int) : ((decV a b c).1 = 22 ∧ (decV a b c).2.1 = 0 ∧ (decV a b c).2.2 = 0) ∨ okIns (decV a b c).1 (decV a b c).2.1 (decV a b c).2.2 = true := by
  unfold decV
  split
  · rename_i h; right; exact h
  · left; exact ⟨rfl, rfl, rfl⟩
theorem okIns_says {op reg arg : Int} (h : okIns op reg arg = true) : 0 ≤ op ∧ op ≤ 21 ∧ 0 ≤ reg ∧ reg ≤ regT op ∧ 0 ≤ arg ∧ arg ≤ argT op := by simpa [okIns] using h
structure InsOk (op reg arg : Int) : Prop where
  ho : 0 ≤ op ∧ op ≤ 22
  hr : 0 ≤ reg ∧ reg ≤ 3
  ha : 0 ≤ arg ∧ arg ≤ 4095
  hy : op = 5 ∨ op = 20 → arg ≤ 255
  hb : op = 21 → arg ≤ 3
theorem insOk_of {op reg arg : Int} (h : (op = 22 ∧ reg = 0 ∧ arg = 0) ∨ okIns op reg arg = true) : InsOk op reg arg := by
  rcases h with ⟨rfl, rfl, rfl⟩ | h
  · exact ⟨by omega, by omega, by omega, by omega, by omega⟩
  · obtain ⟨h1, h2, h3, h4, h5, h6⟩ := okIns_says h
    have := regT_range op
    have := argT_range op
    refine ⟨by omega, by omega, by omega, fun q => ?_, fun q => ?_⟩
    · unfold argT at h6
      rw [if_neg (by omega), if_pos q] at h6
      exact h6
    · unfold argT at h6
      rw [if_pos q] at h6
      exact h6
theorem fetch_ok (d : CD) (m : MD) : InsOk (fetchF d m).1 (fetchF d m).2.1 (fetchF d m).2.2 := insOk_of (decV_ok _ _ _)
section
variable (d : CD) (m : MD) (reg arg : Int)
theorem execD_0 : execD d m 0 reg arg = d := rfl
theorem execD_1 : execD d m 1 reg arg = { d with halt := true } := rfl
theorem execD_2 : execD d m 2 reg arg = retiD d m := rfl
theorem execD_3 : execD d m 3 reg arg = { d with on := true } := rfl
theorem execD_4 : execD d m 4 reg arg = { d with on := false } := rfl
theorem execD_5 : execD d m 5 reg arg = d.set reg arg := rfl
theorem execD_6 : execD d m 6 reg arg = d.res reg (m.get arg) := rfl
theorem execD_7 : execD d m 7 reg arg = d := rfl
theorem execD_8 : execD d m 8 reg arg = d.res reg (d.reg reg + 1) := rfl
theorem execD_9 : execD d m 9 reg arg = d.res reg (d.reg reg - 1) := rfl
theorem execD_10 : execD d m 10 reg arg = d.comb (d.reg 0 + d.reg reg) := rfl
theorem execD_11 : execD d m 11 reg arg = d.comb (d.reg 0 - d.reg reg) := rfl
theorem execD_12 : execD d m 12 reg arg = d.comb (andI (d.reg 0) (d.reg reg)) := rfl
theorem execD_13 : execD d m 13 reg arg = d.comb (orI (d.reg 0) (d.reg reg)) := rfl
theorem execD_14 : execD d m 14 reg arg = d.comb (xorI (d.reg 0) (d.reg reg)) := rfl
theorem execD_15 : execD d m 15 reg arg = d.at arg := rfl
theorem execD_16 : execD d m 16 reg arg = if d.zero then d.at arg else d := rfl
theorem execD_17 : execD d m 17 reg arg = if d.zero then d else d.at arg := rfl
theorem execD_18 : execD d m 18 reg arg = callD d arg := rfl
theorem execD_19 : execD d m 19 reg arg = backD d m := rfl
theorem execD_20 : execD d m 20 reg arg = d := rfl
theorem execD_21 : execD d m 21 reg arg = { d with bank := arg } := rfl
theorem execD_22 : execD d m 22 reg arg = callD d 752 := rfl
theorem execM_0 : execM d m 0 reg arg = m := rfl
theorem execM_1 : execM d m 1 reg arg = m := rfl
theorem execM_2 : execM d m 2 reg arg = m := rfl
theorem execM_3 : execM d m 3 reg arg = m := rfl
theorem execM_4 : execM d m 4 reg arg = m := rfl
theorem execM_5 : execM d m 5 reg arg = m := rfl
theorem execM_6 : execM d m 6 reg arg = m := rfl
theorem execM_7 : execM d m 7 reg arg = m.put arg (d.reg reg) := rfl
theorem execM_8 : execM d m 8 reg arg = m := rfl
theorem execM_9 : execM d m 9 reg arg = m := rfl
theorem execM_10 : execM d m 10 reg arg = m := rfl
theorem execM_11 : execM d m 11 reg arg = m := rfl
theorem execM_12 : execM d m 12 reg arg = m := rfl
theorem execM_13 : execM d m 13 reg arg = m := rfl
theorem execM_14 : execM d m 14 reg arg = m := rfl
theorem execM_15 : execM d m 15 reg arg = m := rfl
theorem execM_16 : execM d m 16 reg arg = m := rfl
theorem execM_17 : execM d m 17 reg arg = m := rfl
theorem execM_18 : execM d m 18 reg arg = callM d m := rfl
theorem execM_19 : execM d m 19 reg arg = m := rfl
theorem execM_20 : execM d m 20 reg arg = m := rfl
theorem execM_21 : execM d m 21 reg arg = m := rfl
theorem execM_22 : execM d m 22 reg arg = callM d m := rfl
end
theorem ops23 {op : Int} (h : 0 ≤ op ∧ op ≤ 22) : op = 0 ∨ op = 1 ∨ op = 2 ∨ op = 3 ∨ op = 4 ∨ op = 5 ∨ op = 6 ∨ op = 7 ∨ op = 8 ∨ op = 9 ∨ op = 10 ∨ op = 11 ∨ op = 12 ∨ op = 13 ∨ op = 14 ∨ op = 15 ∨ op = 16 ∨ op = 17 ∨ op = 18 ∨ op = 19 ∨ op = 20 ∨ op = 21 ∨ op = 22 := by omega
theorem CD.Ok.exec {d : CD} (h : d.Ok) {m : MD} {op reg arg : Int} (i : InsOk op reg arg) : (execD d m op reg arg).Ok := by
  have ia := i.ha
  have iy := i.hy
  have ib := i.hb
  have e1 : ∀ x, ({ d with halt := x } : CD).Ok := fun x => ⟨h.pc, h.sp, h.bank, h.level, h.len, h.regs⟩
  have e2 : ∀ x, ({ d with on := x } : CD).Ok := fun x => ⟨h.pc, h.sp, h.bank, h.level, h.len, h.regs⟩
  rcases ops23 i.ho with rfl | rfl | rfl | rfl | rfl | rfl | rfl | rfl | rfl | rfl | rfl | rfl | rfl | rfl | rfl | rfl | rfl | rfl | rfl | rfl | rfl | rfl | rfl
  · exact h
  · exact e1 _
  · exact h.reti m
  · exact e2 _
  · exact e2 _
  · exact h.set ⟨ia.1, iy (.inl rfl)⟩
  · exact h.res _ _
  · exact h
  · exact h.res _ _
  · exact h.res _ _
  · exact h.comb _
  · exact h.comb _
  · exact h.comb _
  · exact h.comb _
  · exact h.comb _
  · exact h.at ia.1 ia.2
  · rw [execD_16]; split
    · exact h.at ia.1 ia.2
    · exact h
  · rw [execD_17]; split
    · exact h
    · exact h.at ia.1 ia.2
  · exact h.call ia.1 ia.2
  · exact h.back m
  · exact h
  · exact ⟨h.pc, h.sp, ⟨ia.1, ib rfl⟩, h.level, h.len, h.regs⟩
  · exact h.call (by omega) (by omega)
theorem MD.Ok.exec {d : CD} (h : d.Ok) {m : MD} (k : m.Ok) {op reg arg : Int} (i : InsOk op reg arg) : (execM d m op reg arg).Ok := by
  rcases ops23 i.ho with rfl | rfl | rfl | rfl | rfl | rfl | rfl | rfl | rfl | rfl | rfl | rfl | rfl | rfl | rfl | rfl | rfl | rfl | rfl | rfl | rfl | rfl | rfl
  · exact k
  · exact k
  · exact k
  · exact k
  · exact k
  · exact k
  · exact k
  · exact k.put i.ha.1 i.ha.2 (h.reg i.hr.1 i.hr.2)
  · exact k
  · exact k
  · exact k
  · exact k
  · exact k
  · exact k
  · exact k
  · exact k
  · exact k
  · exact k
  · exact MD.Ok.call h k
  · exact k
  · exact k
  · exact k
  · exact MD.Ok.call h k
theorem CD.Ok.next {d : CD} (h : d.Ok) (m : MD) : (nextD d m).Ok := h.at (by omega) (by omega)
theorem CD.Ok.step {d : CD} (h : d.Ok) (m : MD) : (stepD d m).Ok := by
  unfold stepD
  split
  · exact h
  · exact (h.next m).exec (fetch_ok d m)
theorem MD.Ok.step {d : CD} (h : d.Ok) {m : MD} (k : m.Ok) : (stepM d m).Ok := by
  unfold stepM
  split
  · exact k
  · exact MD.Ok.exec (h.next m) k (fetch_ok d m)
end Go.Proofs.Ytagdclbpgkilgaa

/- Rows that a store into a smaller box leaves alone; regions that hand back two structs. -/
namespace Go.Proofs.Ytagdclbpgkilgaa
open Go.RowKit

theorem IntL.offBtw {w w' : World} {A : Option Addr} {zs : List Int} {b : Nat} {t : TypeId} {cs : Array Value} (h : IntL w A zs) (X : Box w b t cs) (hl : cs.size < zs.length) (hb : Btw b (b + 1) w w') : IntL w' A zs := fun i hi => by
  obtain ⟨b1, off, e, hc⟩ := h i hi
  obtain ⟨b2, off2, e2, hc2⟩ := h cs.size hl
  have e3 := e.symm.trans e2
  injection e3 with e3
  injection e3 with e4 e5 _
  subst e4 e5
  refine ⟨b1, off, e, hb.cell hc ?_⟩
  show b1 < b ∨ b + 1 ≤ b1
  rcases Nat.lt_trichotomy b1 b with q | q | q
  · exact .inl q
  · exfalso
    subst q
    rw [cell_of_row _ _ _ _ _ _ X, Array.getElem?_eq_none (by omega)] at hc2
    cases hc2
  · exact .inr q
theorem BoolL.offBtw {w w' : World} {A : Option Addr} {zs : List Bool} {b : Nat} {t : TypeId} {cs : Array Value} (h : BoolL w A zs) (X : Box w b t cs) (hl : cs.size < zs.length) (hb : Btw b (b + 1) w w') : BoolL w' A zs := fun i hi => by
  obtain ⟨b1, off, e, hc⟩ := h i hi
  obtain ⟨b2, off2, e2, hc2⟩ := h cs.size hl
  have e3 := e.symm.trans e2
  injection e3 with e3
  injection e3 with e4 e5 _
  subst e4 e5
  refine ⟨b1, off, e, hb.cell hc ?_⟩
  show b1 < b ∨ b + 1 ≤ b1
  rcases Nat.lt_trichotomy b1 b with q | q | q
  · exact .inl q
  · exfalso
    subst q
    rw [cell_of_row _ _ _ _ _ _ X, Array.getElem?_eq_none (by omega)] at hc2
    cases hc2
  · exact .inr q
/-- Two boxes beside each other were written. -/
theorem IntL.offBtw2 {w w' : World} {A : Option Addr} {zs : List Int} {b : Nat} {t t' : TypeId} {cs cs' : Array Value} (h : IntL w A zs) (X : Box w b t cs) (Y : Box w (b + 1) t' cs') (hl : cs.size < zs.length) (hl' : cs'.size < zs.length) (hb : Btw b (b + 1 + 1) w w') : IntL w' A zs := fun i hi => by
  obtain ⟨b1, off, e, hc⟩ := h i hi
  refine ⟨b1, off, e, hb.cell hc ?_⟩
  show b1 < b ∨ b + 1 + 1 ≤ b1
  by_cases q1 : b1 = b
  · exfalso
    subst q1
    obtain ⟨b2, off2, e2, hc2⟩ := h cs.size hl
    have e3 := e.symm.trans e2
    injection e3 with e3
    injection e3 with e4 e5 _
    subst e4 e5
    rw [cell_of_row _ _ _ _ _ _ X, Array.getElem?_eq_none (by omega)] at hc2
    cases hc2
  · by_cases q2 : b1 = b + 1
    · exfalso
      subst q2
      obtain ⟨b2, off2, e2, hc2⟩ := h cs'.size hl'
      have e3 := e.symm.trans e2
      injection e3 with e3
      injection e3 with e4 e5 _
      subst e4 e5
      rw [cell_of_row _ _ _ _ _ _ Y, Array.getElem?_eq_none (by omega)] at hc2
      cases hc2
    · omega
theorem BoolL.offBtw2 {w w' : World} {A : Option Addr} {zs : List Bool} {b : Nat} {t t' : TypeId} {cs cs' : Array Value} (h : BoolL w A zs) (X : Box w b t cs) (Y : Box w (b + 1) t' cs') (hl : cs.size < zs.length) (hl' : cs'.size < zs.length) (hb : Btw b (b + 1 + 1) w w') : BoolL w' A zs := fun i hi => by
  obtain ⟨b1, off, e, hc⟩ := h i hi
  refine ⟨b1, off, e, hb.cell hc ?_⟩
  show b1 < b ∨ b + 1 + 1 ≤ b1
  by_cases q1 : b1 = b
  · exfalso
    subst q1
    obtain ⟨b2, off2, e2, hc2⟩ := h cs.size hl
    have e3 := e.symm.trans e2
    injection e3 with e3
    injection e3 with e4 e5 _
    subst e4 e5
    rw [cell_of_row _ _ _ _ _ _ X, Array.getElem?_eq_none (by omega)] at hc2
    cases hc2
  · by_cases q2 : b1 = b + 1
    · exfalso
      subst q2
      obtain ⟨b2, off2, e2, hc2⟩ := h cs'.size hl'
      have e3 := e.symm.trans e2
      injection e3 with e3
      injection e3 with e4 e5 _
      subst e4 e5
      rw [cell_of_row _ _ _ _ _ _ Y, Array.getElem?_eq_none (by omega)] at hc2
      cases hc2
    · omega
/-- A processor's registers read so; a memory reads so. -/
def RepC (w : World) (A : Option Addr) (d : CD) : Prop := d.Ok ∧ IntL w A d.regs
def RepM (w : World) (A0 A1 A2 A3 : Option Addr) (m : MD) : Prop := m.Ok ∧ IntL w A0 m.r ∧ IntL w A1 m.i ∧ IntL w A2 m.z ∧ BoolL w A3 m.g
theorem RepC.below {w w' : World} {A : Option Addr} {d : CD} (h : RepC w A d) (k : Below w.heap.size w w') : RepC w' A d := ⟨h.1, h.2.below k⟩
theorem RepM.below {w w' : World} {A0 A1 A2 A3 : Option Addr} {m : MD} (h : RepM w A0 A1 A2 A3 m) (k : Below w.heap.size w w') : RepM w' A0 A1 A2 A3 m := ⟨h.1, h.2.1.below k, h.2.2.1.below k, h.2.2.2.1.below k, h.2.2.2.2.below k⟩
theorem RepC.off {w w' : World} {A : Option Addr} {d : CD} (h : RepC w A d) {b : Nat} {t : TypeId} {cs : Array Value} (X : Box w b t cs) (hl : cs.size < 16) (hb : Btw b (b + 1) w w') : RepC w' A d := ⟨h.1, h.2.offBtw X (by rw [h.1.len]; exact hl) hb⟩
theorem RepM.off {w w' : World} {A0 A1 A2 A3 : Option Addr} {m : MD} (h : RepM w A0 A1 A2 A3 m) {b : Nat} {t : TypeId} {cs : Array Value} (X : Box w b t cs) (hl : cs.size < 16) (hb : Btw b (b + 1) w w') : RepM w' A0 A1 A2 A3 m :=
  ⟨h.1, h.2.1.offBtw X (by rw [h.1.r]; omega) hb, h.2.2.1.offBtw X (by rw [h.1.i]; omega) hb, h.2.2.2.1.offBtw X (by rw [h.1.z]; omega) hb, h.2.2.2.2.offBtw X (by rw [h.1.g]; omega) hb⟩
theorem RepC.off2 {w w' : World} {A : Option Addr} {d : CD} (h : RepC w A d) {b : Nat} {t t' : TypeId} {cs cs' : Array Value} (X : Box w b t cs) (Y : Box w (b + 1) t' cs') (hl : cs.size < 16) (hl' : cs'.size < 16) (hb : Btw b (b + 1 + 1) w w') : RepC w' A d := ⟨h.1, h.2.offBtw2 X Y (by rw [h.1.len]; exact hl) (by rw [h.1.len]; exact hl') hb⟩
theorem RepM.off2 {w w' : World} {A0 A1 A2 A3 : Option Addr} {m : MD} (h : RepM w A0 A1 A2 A3 m) {b : Nat} {t t' : TypeId} {cs cs' : Array Value} (X : Box w b t cs) (Y : Box w (b + 1) t' cs') (hl : cs.size < 16) (hl' : cs'.size < 16) (hb : Btw b (b + 1 + 1) w w') : RepM w' A0 A1 A2 A3 m :=
  ⟨h.1, h.2.1.offBtw2 X Y (by rw [h.1.r]; omega) (by rw [h.1.r]; omega) hb, h.2.2.1.offBtw2 X Y (by rw [h.1.i]; omega) (by rw [h.1.i]; omega) hb, h.2.2.2.1.offBtw2 X Y (by rw [h.1.z]; omega) (by rw [h.1.z]; omega) hb, h.2.2.2.2.offBtw2 X Y (by rw [h.1.g]; omega) (by rw [h.1.g]; omega) hb⟩
theorem Btw.lowSize {lo hi : Nat} {a b : World} (h : Btw lo hi a b) {w : World} (k : Below w.heap.size w a) (hl : lo ≤ a.heap.size) (hw : w.heap.size ≤ lo) : Below w.heap.size w b := k.trans ((h.below hl).mono hw)
theorem Box.setRow {w : World} {b : Nat} {t : TypeId} {cs : Array Value} (X : Box w b t cs) (cs' : Array Value) : Box (w.setRow b cs') b t cs' := by
  unfold Box at X ⊢
  simp [World.setRow, Array.getElem?_modify, X]
theorem btw_setRow {lo hi : Nat} {a w : World} (h : Btw lo hi a w) {b : Nat} (h1 : lo ≤ b) (h2 : b < hi) (cs : Array Value) : Btw lo hi a (w.setRow b cs) :=
  h.trans ⟨rfl, rfl, rfl, by simp [World.setRow], fun k _ ho => setRow_other w b k cs (by omega)⟩
theorem Box.farRow {w : World} {b b' : Nat} {t : TypeId} {cs : Array Value} (X : Box w b t cs) (hb : b ≠ b') (cs' : Array Value) : Box (w.setRow b' cs') b t cs := (setRow_other w b' b cs' hb).trans X

/-- What stays in a region that hands two structs back. -/
structure RetC (W0 : World) (bx by' bc bd : Nat) (t1 t2 : TypeId) (cs1 cs2 : Array Value) (W : World) : Prop where
  k : Btw bc (bd + 1) W0 W
  c : ∃ o : Array Value, o.size = cs1.size ∧ Box W bc t1 o
  d : ∃ o : Array Value, o.size = cs2.size ∧ Box W bd t2 o
  x : Box W bx t1 cs1
  y : Box W by' t2 cs2
  q : bx < bc ∧ by' < bc ∧ bc < bd
def RetF (s1 s2 bc bd : Nat) (t1 t2 : TypeId) (cs1 cs2 : Array Value) (iL1 iL2 iS1 iS2 : Nat) (G : Nat → (Nat → Value) → Prop) (k : Nat) (t : Nat → Value) (W : World) : Prop :=
  if k = iL1 then t s1 = .agg cs1 else if k = iL2 then t s2 = .agg cs2 else if k = iS1 then Box W bc t1 cs1 else if k = iS2 then Box W bd t2 cs2 else G k t
section
variable {P : Program} {Q : Exit → Act → World → Prop} {sup bef : List (List Nat)} {base : List Nat} {a : Act} {W0 : World} {bx by' bc bd s1 s2 : Nat} {t1 t2 : TypeId} {cs1 cs2 : Array Value} {iL1 iL2 iS1 iS2 : Nat} {G : Nat → (Nat → Value) → Prop}
theorem mask_put (l : List Nat) (s : Nat) (h : l.contains s = true) (T : Array Value) (a : Act) (v : Value) (hs : s < T.size) : mask l (Act.put { a with tmps := T } (some s) v).tmps s = v := by
  unfold mask
  rw [if_pos h]
  simp only [Act.put, Array.getD_eq_getD_getElem?]
  rw [Array.getElem?_setIfInBounds, if_pos rfl, if_pos hs]
  rfl
theorem ret_load1 {i : Nat} {o : Oper} (hi0 : i = iL1) (x : Nat) (ho : o.op = .load t1 (.tmp x)) (hd : o.dst = some s1) (hx : x ∈ base) (hp : a.tmps.getD x undef = .pointer (some ⟨bx, 0, none⟩)) (d : TypeDesc) (hu : P.underlying t1 = some d)
    (hdd : (match d with | .struct _ | .array _ _ => true | _ => false) = true) (hi : (P.info? t1).map (·.size) = some cs1.size) (hs : (sup.getD i []).contains s1 = true) (hlt : s1 < a.tmps.size) :
    StepF P Q sup bef base a (RetC W0 bx by' bc bd t1 t2 cs1 cs2) (RetF s1 s2 bc bd t1 t2 cs1 cs2 iL1 iL2 iS1 iS2 G) i o := by
  intro T W hT hb hc hf K hK
  refine wp_load_row t1 (.tmp x) ho bx ?_ t1 cs1 (0, 0) d hc.x hu hdd hi ?_
  · show T.getD x undef = _
    rw [hb x hx, hp]
  · refine hK.out _ W hc (fun _ _ _ h => h) ?_
    unfold RetF
    rw [if_pos hi0, hd]
    exact mask_put _ _ hs _ _ _ (by rw [hT]; exact hlt)
theorem ret_load2 {i : Nat} {o : Oper} (hi0 : i = iL2) (hi1 : i ≠ iL1) (x : Nat) (ho : o.op = .load t2 (.tmp x)) (hd : o.dst = some s2) (hx : x ∈ base) (hp : a.tmps.getD x undef = .pointer (some ⟨by', 0, none⟩)) (d : TypeDesc) (hu : P.underlying t2 = some d)
    (hdd : (match d with | .struct _ | .array _ _ => true | _ => false) = true) (hi : (P.info? t2).map (·.size) = some cs2.size) (hs : (sup.getD i []).contains s2 = true) (hlt : s2 < a.tmps.size) :
    StepF P Q sup bef base a (RetC W0 bx by' bc bd t1 t2 cs1 cs2) (RetF s1 s2 bc bd t1 t2 cs1 cs2 iL1 iL2 iS1 iS2 G) i o := by
  intro T W hT hb hc hf K hK
  refine wp_load_row t2 (.tmp x) ho by' ?_ t2 cs2 (0, 0) d hc.y hu hdd hi ?_
  · show T.getD x undef = _
    rw [hb x hx, hp]
  · refine hK.out _ W hc (fun _ _ _ h => h) ?_
    unfold RetF
    rw [if_neg hi1, if_pos hi0, hd]
    exact mask_put _ _ hs _ _ _ (by rw [hT]; exact hlt)
theorem mask_get {l : List Nat} {T : Array Value} {s : Nat} {v : Value} (hl : l.contains s = true) (h : mask l T s = v) : T.getD s undef = v := by
  unfold mask at h
  rwa [if_pos hl] at h
theorem ret_store1 {i : Nat} {o : Oper} (hi0 : i = iS1) (hi1 : i ≠ iL1) (hi2 : i ≠ iL2) (x : Nat) (ho : o.op = .store t1 (.tmp x) (.tmp s1)) (hx : x ∈ base) (hp : a.tmps.getD x undef = .pointer (some ⟨bc, 0, none⟩))
    (hb1 : iL1 ∈ bef.getD i []) (hs : (sup.getD iL1 []).contains s1 = true) (hi : (P.info? t1).map (·.size) = some cs1.size) (h1 : cs1.all (·.oneCell') = true) :
    StepF P Q sup bef base a (RetC W0 bx by' bc bd t1 t2 cs1 cs2) (RetF s1 s2 bc bd t1 t2 cs1 cs2 iL1 iL2 iS1 iS2 G) i o := by
  intro T W hT hb hc hf K hK
  obtain ⟨old, hos, hox⟩ := hc.c
  have hf1 := hf iL1 hb1
  unfold RetF at hf1
  rw [if_pos rfl] at hf1
  refine wp_store_row t1 (.tmp x) (.tmp s1) ho bc cs1 ?_ ?_ t1 old hox hi hos h1 ?_
  · show T.getD x undef = _
    rw [hb x hx, hp]
  · exact mask_get hs hf1
  · obtain ⟨q1, q2, q3⟩ := hc.q
    refine hK.out _ _ ⟨btw_setRow hc.k (Nat.le_refl _) (by omega) _, ⟨_, rfl, hox.setRow _⟩, ?_, hc.x.farRow (by omega) _, hc.y.farRow (by omega) _, hc.q⟩ (fun j t hj h => ?_) ?_
    · obtain ⟨o2, ho2, hx2⟩ := hc.d
      exact ⟨o2, ho2, hx2.farRow (by omega) _⟩
    · unfold RetF at h ⊢
      by_cases j1 : j = iL1
      · rw [if_pos j1] at h ⊢; exact h
      · rw [if_neg j1] at h ⊢
        by_cases j2 : j = iL2
        · rw [if_pos j2] at h ⊢; exact h
        · rw [if_neg j2] at h ⊢
          rw [if_neg (by omega)] at h ⊢
          by_cases j4 : j = iS2
          · rw [if_pos j4] at h ⊢; exact h.farRow (by omega) _
          · rw [if_neg j4] at h ⊢; exact h
    · unfold RetF
      rw [if_neg hi1, if_neg hi2, if_pos hi0]
      exact hox.setRow _
theorem ret_store2 {i : Nat} {o : Oper} (hi0 : i = iS2) (hi1 : i ≠ iL1) (hi2 : i ≠ iL2) (hi3 : i ≠ iS1) (hn : iL2 ≠ iL1) (x : Nat) (ho : o.op = .store t2 (.tmp x) (.tmp s2)) (hx : x ∈ base) (hp : a.tmps.getD x undef = .pointer (some ⟨bd, 0, none⟩))
    (hb1 : iL2 ∈ bef.getD i []) (hs : (sup.getD iL2 []).contains s2 = true) (hi : (P.info? t2).map (·.size) = some cs2.size) (h1 : cs2.all (·.oneCell') = true) :
    StepF P Q sup bef base a (RetC W0 bx by' bc bd t1 t2 cs1 cs2) (RetF s1 s2 bc bd t1 t2 cs1 cs2 iL1 iL2 iS1 iS2 G) i o := by
  intro T W hT hb hc hf K hK
  obtain ⟨old, hos, hox⟩ := hc.d
  have hf1 := hf iL2 hb1
  unfold RetF at hf1
  rw [if_neg hn, if_pos rfl] at hf1
  refine wp_store_row t2 (.tmp x) (.tmp s2) ho bd cs2 ?_ ?_ t2 old hox hi hos h1 ?_
  · show T.getD x undef = _
    rw [hb x hx, hp]
  · exact mask_get hs hf1
  · obtain ⟨q1, q2, q3⟩ := hc.q
    refine hK.out _ _ ⟨btw_setRow hc.k (by omega) (by omega) _, ?_, ⟨_, rfl, hox.setRow _⟩, hc.x.farRow (by omega) _, hc.y.farRow (by omega) _, hc.q⟩ (fun j t hj h => ?_) ?_
    · obtain ⟨o2, ho2, hx2⟩ := hc.c
      exact ⟨o2, ho2, hx2.farRow (by omega) _⟩
    · unfold RetF at h ⊢
      by_cases j1 : j = iL1
      · rw [if_pos j1] at h ⊢; exact h
      · rw [if_neg j1] at h ⊢
        by_cases j2 : j = iL2
        · rw [if_pos j2] at h ⊢; exact h
        · rw [if_neg j2] at h ⊢
          by_cases j3 : j = iS1
          · rw [if_pos j3] at h ⊢; exact h.farRow (by omega) _
          · rw [if_neg j3] at h ⊢
            rw [if_neg (by omega)] at h ⊢; exact h
    · unfold RetF
      rw [if_neg hi1, if_neg hi2, if_neg hi3, if_pos hi0]
      exact hox.setRow _
/-- A slot is filled out of another, or out of a constant. -/
theorem ret_assign {i : Nat} {o : Oper} (h1 : i ≠ iL1) (h2 : i ≠ iL2) (h3 : i ≠ iS1) (h4 : i ≠ iS2) (s : Nat) (hd : o.dst = some s) (x : Operand) (ho : o.op = .assign x ∨ o.op = .move x) (v : Value)
    (hv : ∀ T : Array Value, (∀ k ∈ base, T.getD k undef = a.tmps.getD k undef) → (∀ j ∈ bef.getD i [], G j (mask (sup.getD j []) T) ∨ (j = iL1 ∨ j = iL2 ∨ j = iS1 ∨ j = iS2)) → ({ a with tmps := T } : Act).eval x = v)
    (hs : (sup.getD i []).contains s = true) (hlt : s < a.tmps.size) (hG : ∀ t : Nat → Value, t s = v → G i t) :
    StepF P Q sup bef base a (RetC W0 bx by' bc bd t1 t2 cs1 cs2) (RetF s1 s2 bc bd t1 t2 cs1 cs2 iL1 iL2 iS1 iS2 G) i o := by
  intro T W hT hb hc hf K hK
  have hv' := hv T hb (fun j hj => by
    have hfj := hf j hj
    unfold RetF at hfj
    by_cases j1 : j = iL1
    · exact .inr (.inl j1)
    rw [if_neg j1] at hfj
    by_cases j2 : j = iL2
    · exact .inr (.inr (.inl j2))
    rw [if_neg j2] at hfj
    by_cases j3 : j = iS1
    · exact .inr (.inr (.inr (.inl j3)))
    rw [if_neg j3] at hfj
    by_cases j4 : j = iS2
    · exact .inr (.inr (.inr (.inr j4)))
    rw [if_neg j4] at hfj
    exact .inl hfj)
  have key : K (Act.put { a with tmps := T } o.dst v) W := by
    refine hK.out _ W hc (fun _ _ _ h => h) ?_
    unfold RetF
    rw [if_neg h1, if_neg h2, if_neg h3, if_neg h4, hd]
    exact hG _ (mask_put _ _ hs _ _ _ (by rw [hT]; exact hlt))
  rcases ho with ho | ho
  · unfold Oper.wp execOp
    simp only [ho, hv']
    exact key
  · unfold Oper.wp execOp
    simp only [ho, hv']
    exact key
end
theorem and_any (n : Int) (k : Nat) (hk : k ≤ 62) : bits .and .i64 n (((2 ^ k - 1 : Nat) : Int)) = n % (2 ^ k : Nat) := by
  have hlt : 2 ^ k ≤ 2 ^ 62 := Nat.pow_le_pow_right (by omega) hk
  have h15 : (BitVec.ofInt 64 (((2 ^ k - 1 : Nat) : Int))).toNat = 2 ^ k - 1 := by
    rw [BitVec.toNat_ofInt]
    have : 2 ^ k ≥ 1 := Nat.one_le_two_pow
    omega
  have key : (BitVec.ofInt 64 n &&& BitVec.ofInt 64 (((2 ^ k - 1 : Nat) : Int))).toNat = (n % ((2 ^ 64 : Nat) : Int)).toNat % 2 ^ k := by
    rw [BitVec.toNat_and, BitVec.toNat_ofInt, h15, Nat.and_two_pow_sub_one_eq_mod]
  show IntKind.i64.wrap ((BitVec.ofInt 64 n &&& BitVec.ofInt 64 (((2 ^ k - 1 : Nat) : Int))).toNat : Nat) = n % (2 ^ k : Nat)
  rw [key, IntKind.wrap_i64]
  have hd : (2 ^ 64 : Nat) = 2 ^ k * 2 ^ (64 - k) := by rw [← Nat.pow_add]; congr 1; omega
  have hp : 0 < (2 : Nat) ^ k := Nat.two_pow_pos k
  have h1 : (((n % ((2 ^ 64 : Nat) : Int)).toNat % 2 ^ k : Nat) : Int) = n % ((2 ^ k : Nat) : Int) := by
    rw [Int.natCast_emod, Int.toNat_of_nonneg (Int.emod_nonneg _ (by decide))]
    exact Int.emod_emod_of_dvd n ⟨((2 ^ (64 - k) : Nat) : Int), by rw [hd]; push_cast; rfl⟩
  rw [h1]
  have h2 : 0 ≤ n % ((2 ^ k : Nat) : Int) := Int.emod_nonneg _ (by omega)
  have h3 : n % ((2 ^ k : Nat) : Int) < ((2 ^ k : Nat) : Int) := Int.emod_lt_of_pos _ (by omega)
  omega
theorem and_255 (n : Int) : bits .and .i64 n 255 = n % 256 := and_any n 8 (by omega)
theorem and_4095 (n : Int) : bits .and .i64 n 4095 = n % 4096 := and_any n 12 (by omega)
theorem and_7 (n : Int) : bits .and .i64 n 7 = n % 8 := and_any n 3 (by omega)
theorem setL9 (l : List Value) (hs : l.length = 9) (u0 u1 u2 u3 u4 u5 u6 u7 u8 : Value) : (((((((((l.set 0 u0).set 1 u1).set 2 u2).set 3 u3).set 4 u4).set 5 u5).set 6 u6).set 7 u7).set 8 u8) = [u0, u1, u2, u3, u4, u5, u6, u7, u8] := by
  match l, hs with
  | [v0, v1, v2, v3, v4, v5, v6, v7, v8], _ => simp only [List.set_cons_zero, List.set_cons_succ]
theorem setA9 (cs : Array Value) (hs : cs.size = 9) (u0 u1 u2 u3 u4 u5 u6 u7 u8 : Value) : (((((((((cs.setIfInBounds 0 u0).setIfInBounds 1 u1).setIfInBounds 2 u2).setIfInBounds 3 u3).setIfInBounds 4 u4).setIfInBounds 5 u5).setIfInBounds 6 u6).setIfInBounds 7 u7).setIfInBounds 8 u8) = #[u0, u1, u2, u3, u4, u5, u6, u7, u8] := by
  obtain ⟨l⟩ := cs
  simp only [List.setIfInBounds_toArray]
  rw [setL9 l hs]
theorem Box.allN9 {w : World} {b : Nat} {t : TypeId} {cs : Array Value} (X : Box w b t cs) (hs : cs.size = 9) (u0 u1 u2 u3 u4 u5 u6 u7 u8 : Value) : Box (((((((((w.setCell ⟨b, 0, none⟩ u0).setCell ⟨b, 1, none⟩ u1).setCell ⟨b, 2, none⟩ u2).setCell ⟨b, 3, none⟩ u3).setCell ⟨b, 4, none⟩ u4).setCell ⟨b, 5, none⟩ u5).setCell ⟨b, 6, none⟩ u6).setCell ⟨b, 7, none⟩ u7).setCell ⟨b, 8, none⟩ u8) b t #[u0, u1, u2, u3, u4, u5, u6, u7, u8] :=
  setA9 cs hs u0 u1 u2 u3 u4 u5 u6 u7 u8 ▸ (((((((((X.set 0 u0).set 1 u1).set 2 u2).set 3 u3).set 4 u4).set 5 u5).set 6 u6).set 7 u7).set 8 u8)
theorem setL5 (l : List Value) (hs : l.length = 5) (u0 u1 u2 u3 u4 : Value) : (((((l.set 0 u0).set 1 u1).set 2 u2).set 3 u3).set 4 u4) = [u0, u1, u2, u3, u4] := by
  match l, hs with
  | [v0, v1, v2, v3, v4], _ => simp only [List.set_cons_zero, List.set_cons_succ]
theorem setA5 (cs : Array Value) (hs : cs.size = 5) (u0 u1 u2 u3 u4 : Value) : (((((cs.setIfInBounds 0 u0).setIfInBounds 1 u1).setIfInBounds 2 u2).setIfInBounds 3 u3).setIfInBounds 4 u4) = #[u0, u1, u2, u3, u4] := by
  obtain ⟨l⟩ := cs
  simp only [List.setIfInBounds_toArray]
  rw [setL5 l hs]
theorem Box.allN5 {w : World} {b : Nat} {t : TypeId} {cs : Array Value} (X : Box w b t cs) (hs : cs.size = 5) (u0 u1 u2 u3 u4 : Value) : Box (((((w.setCell ⟨b, 0, none⟩ u0).setCell ⟨b, 1, none⟩ u1).setCell ⟨b, 2, none⟩ u2).setCell ⟨b, 3, none⟩ u3).setCell ⟨b, 4, none⟩ u4) b t #[u0, u1, u2, u3, u4] :=
  setA5 cs hs u0 u1 u2 u3 u4 ▸ (((((X.set 0 u0).set 1 u1).set 2 u2).set 3 u3).set 4 u4)
/-- Two structs out of the result's cells. -/
theorem results_cc {P : Program} {fn : Func} {tmps : Array Value} {w : World} {x y b1 b2 : Nat} {t1 t2 : TypeId} {cs1 cs2 : Array Value} {d1 d2 : TypeDesc} (h : fn.results = #[.cell x t1, .cell y t2])
    (hx : tmps.getD x undef = .pointer (some ⟨b1, 0, none⟩)) (hy : tmps.getD y undef = .pointer (some ⟨b2, 0, none⟩)) (X : Box w b1 t1 cs1) (Y : Box w b2 t2 cs2)
    (hu1 : P.underlying t1 = some d1) (hd1 : (match d1 with | .struct _ | .array _ _ => true | _ => false) = true) (hi1 : (P.info? t1).map (·.size) = some cs1.size)
    (hu2 : P.underlying t2 = some d2) (hd2 : (match d2 with | .struct _ | .array _ _ => true | _ => false) = true) (hi2 : (P.info? t2).map (·.size) = some cs2.size) :
    (results fn tmps).run P w = .ok (.tuple #[.agg cs1, .agg cs2]) w := by
  unfold results
  rw [h]
  simp only [List.mapM_toArray, List.mapM_cons, List.mapM_nil, hx, hy]
  simp [asAddr, run_loadVar_row w b1 t1 t1 cs1 (0, 0) d1 X hu1 hd1 hi1, run_loadVar_row w b2 t2 t2 cs2 (0, 0) d2 Y hu2 hd2 hi2]
end Go.Proofs.Ytagdclbpgkilgaa

/- The laws' own functions over Flash, on leaves. Written by gen_t.py. -/
namespace Go.Proofs.Ytagdclbpgkilgaa
open Go.RowKit

end Go.Proofs.Ytagdclbpgkilgaa

/- The laws' own functions over Mem, on leaves. Written by gen_t.py. -/
namespace Go.Proofs.Ytagdclbpgkilgaa
open Go.RowKit

end Go.Proofs.Ytagdclbpgkilgaa

/- MemOK on both sides; impl.Mem.check; the regions on both sides. -/
namespace Go.Proofs.Ytagdclbpgkilgaa
open Go.RowKit

set_option maxRecDepth 100000 in
theorem isAddress (n : Int) (w : World) : Calls Try.prog 70 #[.int .i64 n] w fun e w' => e = .returned (.bool (adB n)) ∧ w = w' := by
  go_enter Try.func70, Try.ntmps70
  go_wp2
  all_goals go_ret
  all_goals (refine ⟨ret_bool ?_, rfl⟩)
  all_goals (unfold adB; rw [Bool.eq_iff_iff]; simp; try omega)
set_option maxRecDepth 100000 in
theorem l01In4095 (n : Int) (w : World) : Calls Try.prog 51 #[.int .i64 n, .int .i64 0, .int .i64 4095] w fun e w' => e = .returned (.bool (adB n)) ∧ w = w' := by
  go_enter Try.func51, Try.ntmps51
  go_wp2
  all_goals go_ret
  all_goals (refine ⟨ret_bool ?_, rfl⟩)
  all_goals (unfold adB; rw [Bool.eq_iff_iff]; simp; try omega)
set_option maxRecDepth 100000 in
theorem l05At (n : Int) (w : World) : Calls Try.prog 97 #[.int .i64 n] w fun e w' => e = .returned (.bool (adB n)) ∧ w = w' := by
  go_enter Try.func97, Try.ntmps97
  go_wp2_with (first | (go_at_call 51; refine (l01In4095 _ _).mono ?_; rintro e w' ⟨rfl, rfl⟩))
  all_goals go_ret
  all_goals exact ⟨rfl, rfl⟩
set_option maxRecDepth 100000 in
theorem l01InF (n : Int) (w : World) : Calls Try.prog 51 #[.int .i64 n, .int .i64 512, .int .i64 767] w fun e w' => e = .returned (.bool (decide (512 ≤ n ∧ n ≤ 767))) ∧ w = w' := by
  go_enter Try.func51, Try.ntmps51
  go_wp2
  all_goals go_ret
  all_goals (refine ⟨ret_bool ?_, rfl⟩)
  all_goals (rw [Bool.eq_iff_iff]; simp; try omega)
set_option maxRecDepth 100000 in
theorem regionOf (n : Int) (w : World) (h0 : 0 ≤ n) (h1 : n ≤ 4095) : Calls Try.prog 95 #[.int .i64 n] w fun e w' => e = .returned (.tuple #[.int .i64 (regR n), .int .i64 (regK n)]) ∧ w = w' := by
  obtain ⟨r, hr⟩ : ∃ r, regR n = r := ⟨_, rfl⟩
  obtain ⟨k, hk⟩ : ∃ k, regK n = k := ⟨_, rfl⟩
  rw [hr, hk]
  unfold regR at hr
  unfold regK at hk
  by_cases a : n < 256
  · rw [if_pos a] at hr hk
    subst hr hk
    go_enter Try.func95, Try.ntmps95
    go_wp2
    exact bodyPost_ret (v := .tuple #[.int .i64 1, .int .i64 n]) (by simp [results, Try.results95, go_sem]) rfl ⟨rfl, rfl⟩
  · rw [if_neg a] at hr hk
    by_cases b : n < 288
    · rw [if_pos b] at hr hk
      have HE := Lib.hid hk
      clear hk
      subst hr
      go_enter Try.func95, Try.ntmps95
      go_wp2
      exact bodyPost_ret (v := .tuple #[.int .i64 2, .int .i64 (n - 256)]) (by simp [results, Try.results95, go_sem]; try omega) rfl ⟨by rw [HE.out], rfl⟩
    · rw [if_neg b] at hr hk
      by_cases c : 512 ≤ n
      · by_cases d : n < 768
        · rw [if_pos ⟨c, by omega⟩] at hr hk
          have HE := Lib.hid hk
          clear hk
          subst hr
          go_enter Try.func95, Try.ntmps95
          go_wp2
          exact bodyPost_ret (v := .tuple #[.int .i64 3, .int .i64 (n - 512)]) (by simp [results, Try.results95, go_sem]; try omega) rfl ⟨by rw [HE.out], rfl⟩
        · rw [if_neg (by omega)] at hr hk
          subst hr hk
          go_enter Try.func95, Try.ntmps95
          go_wp2
          exact bodyPost_ret (v := .tuple #[.int .i64 0, .int .i64 0]) (by simp [results, Try.results95, go_sem]) rfl ⟨rfl, rfl⟩
      · rw [if_neg (by omega)] at hr hk
        subst hr hk
        go_enter Try.func95, Try.ntmps95
        go_wp2
        exact bodyPost_ret (v := .tuple #[.int .i64 0, .int .i64 0]) (by simp [results, Try.results95, go_sem]) rfl ⟨rfl, rfl⟩
set_option maxRecDepth 100000 in
theorem l05Region (n : Int) (w : World) (h0 : 0 ≤ n) (h1 : n ≤ 4095) : Calls Try.prog 98 #[.int .i64 n] w fun e w' => e = .returned (.tuple #[.int .i64 (regR n), .int .i64 (regK n)]) ∧ w = w' := by
  obtain ⟨r, hr⟩ : ∃ r, regR n = r := ⟨_, rfl⟩
  obtain ⟨k, hk⟩ : ∃ k, regK n = k := ⟨_, rfl⟩
  rw [hr, hk]
  unfold regR at hr
  unfold regK at hk
  by_cases a : n < 256
  · rw [if_pos a] at hr hk
    subst hr hk
    go_enter Try.func98, Try.ntmps98
    go_wp2
    exact bodyPost_ret (v := .tuple #[.int .i64 1, .int .i64 n]) (by simp [results, Try.results98, go_sem]) rfl ⟨rfl, rfl⟩
  · rw [if_neg a] at hr hk
    by_cases b : n < 288
    · rw [if_pos b] at hr hk
      have HE := Lib.hid hk
      clear hk
      subst hr
      go_enter Try.func98, Try.ntmps98
      go_wp2
      exact bodyPost_ret (v := .tuple #[.int .i64 2, .int .i64 (n - 256)]) (by simp [results, Try.results98, go_sem]; try omega) rfl ⟨by rw [HE.out], rfl⟩
    · rw [if_neg b] at hr hk
      by_cases c : 512 ≤ n ∧ n ≤ 767
      · rw [if_pos c] at hr hk
        have HE := Lib.hid hk
        have HC := Lib.hid (decide_eq_true c)
        clear hk
        subst hr
        have c1 := c.1
        have c2 := c.2
        clear c
        go_enter Try.func98, Try.ntmps98
        go_wp2_with (first | (go_at_call 51; refine (l01InF _ _).mono ?_; rintro e w' ⟨rfl, rfl⟩; rw [HC.out]))
        exact bodyPost_ret (v := .tuple #[.int .i64 3, .int .i64 (n - 512)]) (by simp [results, Try.results98, go_sem]; try omega) rfl ⟨by rw [HE.out], rfl⟩
      · rw [if_neg c] at hr hk
        have HC := Lib.hid (decide_eq_false c)
        clear c
        subst hr hk
        go_enter Try.func98, Try.ntmps98
        go_wp2_with (first | (go_at_call 51; refine (l01InF _ _).mono ?_; rintro e w' ⟨rfl, rfl⟩; rw [HC.out]))
        exact bodyPost_ret (v := .tuple #[.int .i64 0, .int .i64 0]) (by simp [results, Try.results98, go_sem]) rfl ⟨rfl, rfl⟩

set_option maxRecDepth 100000 in
set_option maxHeartbeats 1000000 in
theorem l05Bytes (A : Option Addr) (n c : Nat) (zs : List Int) (w : World) (hl : zs.length = n) (hn : n ≤ maxLen) (h : IntL w A zs) :
    Calls Try.prog 80 #[.slice A n c] w fun e w' => e = .returned (.bool (zs.all byB)) ∧ w = w' := by
  unfold maxLen at hn
  have HL := Lib.hid hl
  have H := Lib.hid h
  clear hl h
  go_enter Try.func80, Try.ntmps80
  go_wp2
  go_loop [3] (fun i => ∃ k : Nat, k ≤ n ∧ i = .int .i64 k ∧ Hid (zs.all byB = (zs.drop k).all byB)) (fun i => n - (intOf i).toNat)
  case atStart => exact ⟨0, Nat.zero_le _, rfl, Lib.hid rfl⟩
  case round =>
    obtain ⟨k, hk, rfl, HT⟩ := hrel
    by_cases hlt : k < n
    · obtain ⟨b, off, rfl, hc⟩ := H.out k (by rw [HL.out]; exact hlt)
      have HS := Lib.hid (all_step byB zs 0 k (by rw [HL.out]; exact hlt))
      generalize zs.getD k 0 = x at hc HS
      have hi : (k : Int) < (n : Int) := by omega
      by_cases hE : byB x = true
      · go_wp2_with (first | (go_at_call 51; refine (l01In255 _ _).mono ?_; rintro e w' ⟨rfl, rfl⟩; rw [hE]))
        go_round
        case rel => exact ⟨k + 1, by omega, by go_num, Lib.hid (by rw [HT.out, HS.out, hE]; rfl)⟩
        case measure => simp [intOf]; omega
      · have hE' : byB x = false := by simpa using hE
        clear hE
        go_wp2_with (first | (go_at_call 51; refine (l01In255 _ _).mono ?_; rintro e w' ⟨rfl, rfl⟩; rw [hE']))
        go_ret
        exact ⟨ret_bool (by rw [HT.out, HS.out, hE']; rfl), rfl⟩
    · have HT2 : Hid (zs.all byB = true) := Lib.hid (by rw [HT.out]; exact all_end _ _ _ (by rw [HL.out]; omega))
      go_wp2
      go_ret
      exact ⟨ret_bool HT2.out.symm, rfl⟩

section
variable (A0 A1 A2 A3 : Option Addr) (n0 n1 n2 n3 c0 c1 c2 c3 : Nat) (d0 d1 d2 : List Int) (d3 : List Bool) (d4 : Int) (w : World)
set_option maxRecDepth 100000 in
set_option maxHeartbeats 4000000 in
theorem memValid (l0 : d0.length = n0) (l1 : d1.length = n1) (l2 : d2.length = n2) (l3 : d3.length = n3) (m0 : n0 ≤ maxLen) (m1 : n1 ≤ maxLen) (m2 : n2 ≤ maxLen) (m3 : n3 ≤ maxLen) (h0 : IntL w A0 d0) (h1 : IntL w A1 d1) (h2 : IntL w A2 d2) :
    Calls Try.prog 72 #[.agg #[.slice A0 n0 c0, .slice A1 n1 c1, .slice A2 n2 c2, .slice A3 n3 c3, .int .i64 d4]] w fun e w' => e = .returned (.bool (okMem d0 d1 d2 d3 d4)) ∧ Below w.heap.size w w' := by
  have hb0 := alloc_below w (.cells #[.slice A0 n0 c0, .slice A1 n1 c1, .slice A2 n2 c2, .slice A3 n3 c3, .int .i64 d4] 28)
  have HB0 := Lib.hid (allBytes A0 n0 c0 d0 _ l0 m0 (h0.below hb0))
  have HB1 := Lib.hid (allBytes A1 n1 c1 d1 _ l1 m1 (h1.below hb0))
  have HF := Lib.hid (flashValid A2 A3 n2 c2 n3 c3 d4 d2 d3 _ l2 l3 m2 m3 (h2.below hb0))
  have HL := Lib.hid (And.intro l0 l1)
  unfold maxLen at m0 m1 m2 m3
  clear l0 l1 l2 l3 h0 h1 h2
  by_cases e0 : n0 = 256
  · have q0 : ((n0 : Int) == 256) = true := by simp; omega
    by_cases e1 : n1 = 32
    · have q1 : ((n1 : Int) == 32) = true := by simp; omega
      by_cases e2 : d0.all byB = true
      · by_cases e3 : d1.all byB = true
        · have HY := Lib.hid (okMem_yes d0 d1 d2 d3 d4 (by rw [HL.out.1]; exact e0) (by rw [HL.out.2]; exact e1) e2 e3)
          rw [e2] at HB0
          rw [e3] at HB1
          generalize okMem d0 d1 d2 d3 d4 = r at HY
          generalize okFlash d2 d3 d4 = o at HF HY
          clear e0 e1 e2 e3
          go_enter Try.func72, Try.ntmps72
          go_wp2_with fail
          refine HB0.out.mono ?_
          rintro e w' ⟨rfl, rfl⟩
          go_wp2_with fail
          refine HB1.out.mono ?_
          rintro e w' ⟨rfl, rfl⟩
          go_wp2_with fail
          refine HF.out.mono ?_
          rintro e w2 ⟨rfl, hb2⟩
          go_wp2
          all_goals go_ret
          all_goals exact ⟨ret_bool HY.out.symm, bt hb0 hb2⟩
        · have e3' : d1.all byB = false := by simpa using e3
          have HY := Lib.hid (okMem_no4 d0 d1 d2 d3 d4 e3')
          rw [e2] at HB0
          rw [e3'] at HB1
          clear e0 e1 e2 e3 e3'
          go_enter Try.func72, Try.ntmps72
          go_wp2_with fail
          refine HB0.out.mono ?_
          rintro e w' ⟨rfl, rfl⟩
          go_wp2_with fail
          refine HB1.out.mono ?_
          rintro e w' ⟨rfl, rfl⟩
          go_wp2
          all_goals go_ret
          all_goals exact ⟨ret_bool HY.out.symm, hb0⟩
      · have e2' : d0.all byB = false := by simpa using e2
        have HY := Lib.hid (okMem_no3 d0 d1 d2 d3 d4 e2')
        rw [e2'] at HB0
        clear e0 e1 e2 e2'
        go_enter Try.func72, Try.ntmps72
        go_wp2_with fail
        refine HB0.out.mono ?_
        rintro e w' ⟨rfl, rfl⟩
        go_wp2
        all_goals go_ret
        all_goals exact ⟨ret_bool HY.out.symm, hb0⟩
    · have q1 : ((n1 : Int) == 32) = false := by simp; omega
      have HY := Lib.hid (okMem_no2 d0 d1 d2 d3 d4 (by rw [HL.out.2]; exact e1))
      clear e0 e1
      go_enter Try.func72, Try.ntmps72
      go_wp2
      all_goals go_ret
      all_goals exact ⟨ret_bool HY.out.symm, hb0⟩
  · have q0 : ((n0 : Int) == 256) = false := by simp; omega
    have HY := Lib.hid (okMem_no1 d0 d1 d2 d3 d4 (by rw [HL.out.1]; exact e0))
    clear e0
    go_enter Try.func72, Try.ntmps72
    go_wp2
    all_goals go_ret
    all_goals exact ⟨ret_bool HY.out.symm, hb0⟩

set_option maxRecDepth 100000 in
set_option maxHeartbeats 4000000 in
theorem specMemOK (l0 : d0.length = n0) (l1 : d1.length = n1) (l2 : d2.length = n2) (l3 : d3.length = n3) (m0 : n0 ≤ maxLen) (m1 : n1 ≤ maxLen) (m2 : n2 ≤ maxLen) (m3 : n3 ≤ maxLen) (h0 : IntL w A0 d0) (h1 : IntL w A1 d1) (h2 : IntL w A2 d2) :
    Calls Try.prog 49 #[.agg #[.slice A0 n0 c0, .slice A1 n1 c1, .slice A2 n2 c2, .slice A3 n3 c3, .int .i64 d4]] w fun e w' => e = .returned (.bool (okMem d0 d1 d2 d3 d4)) ∧ Below w.heap.size w w' := by
  have hb0 := alloc_below w (.cells #[.slice A0 n0 c0, .slice A1 n1 c1, .slice A2 n2 c2, .slice A3 n3 c3, .int .i64 d4] 28)
  have HB0 := Lib.hid (l05Bytes A0 n0 c0 d0 _ l0 m0 (h0.below hb0))
  have HB1 := Lib.hid (l05Bytes A1 n1 c1 d1 _ l1 m1 (h1.below hb0))
  have HF := Lib.hid (specFlashOK A2 A3 n2 c2 n3 c3 d4 d2 d3 _ l2 l3 m2 m3 (h2.below hb0))
  have HL := Lib.hid (And.intro l0 l1)
  unfold maxLen at m0 m1 m2 m3
  clear l0 l1 l2 l3 h0 h1 h2
  by_cases e0 : n0 = 256
  · have q0 : ((n0 : Int) == 256) = true := by simp; omega
    by_cases e1 : n1 = 32
    · have q1 : ((n1 : Int) == 32) = true := by simp; omega
      by_cases e2 : d0.all byB = true
      · by_cases e3 : d1.all byB = true
        · have HY := Lib.hid (okMem_yes d0 d1 d2 d3 d4 (by rw [HL.out.1]; exact e0) (by rw [HL.out.2]; exact e1) e2 e3)
          rw [e2] at HB0
          rw [e3] at HB1
          generalize okMem d0 d1 d2 d3 d4 = r at HY
          generalize okFlash d2 d3 d4 = o at HF HY
          clear e0 e1 e2 e3
          go_enter Try.func49, Try.ntmps49
          go_wp2_with fail
          refine HB0.out.mono ?_
          rintro e w' ⟨rfl, rfl⟩
          go_wp2_with fail
          refine HB1.out.mono ?_
          rintro e w' ⟨rfl, rfl⟩
          go_wp2_with fail
          refine HF.out.mono ?_
          rintro e w2 ⟨rfl, hb2⟩
          go_wp2
          all_goals go_ret
          all_goals exact ⟨ret_bool HY.out.symm, bt hb0 hb2⟩
        · have e3' : d1.all byB = false := by simpa using e3
          have HY := Lib.hid (okMem_no4 d0 d1 d2 d3 d4 e3')
          rw [e2] at HB0
          rw [e3'] at HB1
          clear e0 e1 e2 e3 e3'
          go_enter Try.func49, Try.ntmps49
          go_wp2_with fail
          refine HB0.out.mono ?_
          rintro e w' ⟨rfl, rfl⟩
          go_wp2_with fail
          refine HB1.out.mono ?_
          rintro e w' ⟨rfl, rfl⟩
          go_wp2
          all_goals go_ret
          all_goals exact ⟨ret_bool HY.out.symm, hb0⟩
      · have e2' : d0.all byB = false := by simpa using e2
        have HY := Lib.hid (okMem_no3 d0 d1 d2 d3 d4 e2')
        rw [e2'] at HB0
        clear e0 e1 e2 e2'
        go_enter Try.func49, Try.ntmps49
        go_wp2_with fail
        refine HB0.out.mono ?_
        rintro e w' ⟨rfl, rfl⟩
        go_wp2
        all_goals go_ret
        all_goals exact ⟨ret_bool HY.out.symm, hb0⟩
    · have q1 : ((n1 : Int) == 32) = false := by simp; omega
      have HY := Lib.hid (okMem_no2 d0 d1 d2 d3 d4 (by rw [HL.out.2]; exact e1))
      clear e0 e1
      go_enter Try.func49, Try.ntmps49
      go_wp2
      all_goals go_ret
      all_goals exact ⟨ret_bool HY.out.symm, hb0⟩
  · have q0 : ((n0 : Int) == 256) = false := by simp; omega
    have HY := Lib.hid (okMem_no1 d0 d1 d2 d3 d4 (by rw [HL.out.1]; exact e0))
    clear e0
    go_enter Try.func49, Try.ntmps49
    go_wp2
    all_goals go_ret
    all_goals exact ⟨ret_bool HY.out.symm, hb0⟩
end
end Go.Proofs.Ytagdclbpgkilgaa

/- slices.Clone of a row of ints that is not empty; the chip's read. -/
namespace Go.Proofs.Ytagdclbpgkilgaa
open Go.RowKit

/-- A row of the call's own. -/
def GivesRow (n : Nat) (zs : List Int) (w : World) (e : Ending) (w' : World) : Prop :=
  ∃ A c, e = .returned (.slice A n c) ∧ Hid (OwnI w' w.heap.size w'.heap.size A zs) ∧ Below w.heap.size w w'

set_option maxRecDepth 100000 in
set_option maxHeartbeats 1000000 in
theorem cloneI (A : Option Addr) (n c : Nat) (zs : List Int) (w : World) (hl : zs.length = n) (hn : 0 < n) (hn2 : n ≤ 256) (h : IntL w A zs) :
    Calls Try.prog 73 #[.slice A n c] w (GivesRow n zs w) := by
  obtain ⟨ad, rfl, -⟩ := h.src (by omega)
  have HS := Lib.hid (fun W (hb : Below w.heap.size w W) => (h.below hb).src (by omega))
  have HC : Hid ((cellsI zs).length = n * 1) := Lib.hid (by rw [cellsI_len]; omega)
  have hba := alloc_below w (.cells #[] 3)
  have hnil : ∀ W : World, (binOp .eql 23 (.slice (some ad) n c) (.slice none 0 0)).run Try.prog W = .ok (.bool false) W := fun W => Lib.run_eql_slice_nil W _ _ (some ad) n c 0 0 Try.underlying23
  clear hl h
  go_enter Try.func73, Try.ntmps73
  go_wp2_with (first | (with_reducible refine wpList_app_fresh rfl (.tmp 5) (.tmp 6) 23 rfl 3 (.int .i64 0) 1 8 Try.underlying23 infoIx rfl (by decide) _ rfl (some ad) n c hn (cellsI zs) rfl HC.out (HS.out _ hba) (by unfold maxLen; omega) (by omega) ?_))
  intro A1 c1 w1 hb1 O1
  have hk1 := hba.trans (hb1.mono (by omega))
  have S1 := Lib.hid (ownI_fresh (lo := w.heap.size) O1.out hn (by omega))
  clear HS HC hba hb1 O1
  go_wp2
  go_ret
  exact ⟨_, _, rfl, S1, hk1⟩
end Go.Proofs.Ytagdclbpgkilgaa
