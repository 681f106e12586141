/- Leaves of Go values as data: what a value says, rows of the call's own, what a call that writes into some of them keeps. Nothing here is of one type of the program. -/
import Derived.Test.YtagdclbpgkilgaaBools
import Derived.Test.YtagdclbpgkilgaaIntsMore
import Derived.Test.YtagdclbpgkilgaaMark
import Derived.Test.YtagdclbpgkilgaaSzDisk
import Derived.Test.YtagdclbpgkilgaaToDisk
import Derived.Test.YtagdclbpgkilgaaOkDisk
namespace Go.Proofs.Ytagdclbpgkilgaa
open Go.RowKit

/-- What a leaf of a struct that is a slice says. -/
inductive Lf where
  | I (zs : List Int)
  | B (gs : List Bool)
  | S (ss : List ByteArray)
  | R (T : TypeId) (k : Nat) (hk : k ≤ 16) (rows : List (List Value))

/-- A row of structs, k cells each. -/
def RowL (w : World) (A : Option Addr) (k : Nat) (rows : List (List Value)) : Prop :=
  ∀ i, i < rows.length → ∀ j, j < k → ∃ b off, A = some ⟨b, off, none⟩ ∧ w.cell? ⟨b, off + i * k + j, none⟩ = some ((rows.getD i []).getD j undef)
theorem RowL.below {w w' : World} {A : Option Addr} {k : Nat} {rows : List (List Value)} (h : RowL w A k rows) (hb : Below w.heap.size w w') : RowL w' A k rows := fun i hi j hj => by
  obtain ⟨b, off, e, hc⟩ := h i hi j hj
  exact ⟨b, off, e, (hb.cell (cell_lt hc)).trans hc⟩
/-- A row of structs of the call's own. -/
def OwnR (w : World) (lo hi : Nat) (T : TypeId) (A : Option Addr) (k : Nat) (rows : List (List Value)) : Prop :=
  rows = [] ∨ ∃ b m f, A = some ⟨b, 0, none⟩ ∧ lo ≤ b ∧ b < hi ∧ rows.length * k ≤ m ∧ w.rowIs b T m f ∧ ∀ i, i < rows.length → ∀ j, j < k → f (i * k + j) = (rows.getD i []).getD j undef
theorem row_place {n k m i j : Nat} (hi : i < n) (hj : j < k) (h : n * k ≤ m) : i * k + j < m := by
  have h1 : (i + 1) * k ≤ n * k := Nat.mul_le_mul_right k hi
  have h2 : (i + 1) * k = i * k + k := Nat.succ_mul i k
  omega
theorem OwnR.reads {w : World} {lo hi : Nat} {T : TypeId} {A : Option Addr} {k : Nat} {rows : List (List Value)} (h : OwnR w lo hi T A k rows) : RowL w A k rows := fun i hi' j hj => by
  rcases h with rfl | ⟨b, m, f, e, _, _, hm, hr, hf⟩
  · simp at hi'
  · exact ⟨b, 0, e, by rw [← hf i hi' j hj, Nat.zero_add]; exact hr.cell (row_place hi' hj hm)⟩
theorem OwnR.btw {w w' : World} {lo hi l h' : Nat} {T : TypeId} {A : Option Addr} {k : Nat} {rows : List (List Value)} (h : OwnR w lo hi T A k rows) (hb : Btw l h' w w') (ho : hi ≤ l ∨ h' ≤ lo) : OwnR w' lo hi T A k rows := by
  rcases h with e | ⟨b, m, f, e, h1, h2, hm, hr, hf⟩
  · exact .inl e
  · exact .inr ⟨b, m, f, e, h1, h2, hm, hb.row hr (by omega), hf⟩
theorem OwnR.below {w w' : World} {lo hi : Nat} {T : TypeId} {A : Option Addr} {k : Nat} {rows : List (List Value)} (h : OwnR w lo hi T A k rows) (hb : Below w.heap.size w w') : OwnR w' lo hi T A k rows := h.btw (Btw.of_below hb hi hi) (.inl (Nat.le_refl _))
theorem OwnR.wide {w : World} {lo hi lo' hi' : Nat} {T : TypeId} {A : Option Addr} {k : Nat} {rows : List (List Value)} (h : OwnR w lo hi T A k rows) (h1 : lo' ≤ lo) (h2 : hi ≤ hi') : OwnR w lo' hi' T A k rows := by
  rcases h with e | ⟨b, m, f, e, p1, p2, hm, hr, hf⟩
  · exact .inl e
  · exact .inr ⟨b, m, f, e, by omega, by omega, hm, hr, hf⟩
/-- What a mark makes of a cell. -/
def markV (k : Nat) : Value → Value
  | .int _ _ => .int .i64 (k : Int)
  | .bool _ => .bool (decide (k % 3 = 0))
  | .string _ => .string (mkText k)
  | v => v
def markRows (q k : Nat) (rows : List (List Value)) : List (List Value) :=
  (List.range rows.length).map fun i => (List.range k).map fun j => markV (q + i * k + j) ((rows.getD i []).getD j undef)
theorem markRows_len (q k : Nat) (rows : List (List Value)) : (markRows q k rows).length = rows.length := by simp [markRows]

def Lf.len : Lf → Nat
  | .I zs => zs.length
  | .B gs => gs.length
  | .S ss => ss.length
  | .R _ k _ rows => rows.length * k
/-- How many elements a slice has. -/
def Lf.slen : Lf → Nat
  | .I zs => zs.length
  | .B gs => gs.length
  | .S ss => ss.length
  | .R _ _ _ rows => rows.length
/-- The size that the laws count. -/
def Lf.sz : Lf → Nat
  | .I zs => zs.length
  | .B gs => gs.length
  | .S ss => ss.length + lenS ss
  | .R _ _ _ rows => rows.length
def Lf.marks (k : Nat) : Lf → Lf
  | .I zs => .I (marksI k zs.length)
  | .B gs => .B (marksB k gs.length)
  | .S ss => .S (marksS k ss.length)
  | .R T n hn rows => .R T n hn (markRows k n rows)
theorem Lf.marks_len (k : Nat) (d : Lf) : (d.marks k).len = d.len := by cases d <;> simp [Lf.marks, Lf.len, marksI, marksB, marksS, markRows_len]
theorem Lf.marks_slen (k : Nat) (d : Lf) : (d.marks k).slen = d.slen := by cases d <;> simp [Lf.marks, Lf.slen, marksI, marksB, marksS, markRows_len]
theorem Lf.len_le (d : Lf) : d.len ≤ 16 * d.sz := by
  cases d with
  | I zs => simp only [Lf.len, Lf.sz]; omega
  | B zs => simp only [Lf.len, Lf.sz]; omega
  | S zs => simp only [Lf.len, Lf.sz]; omega
  | R T k hk rows =>
    simp only [Lf.len, Lf.sz]
    have := Nat.mul_le_mul_left rows.length hk
    omega
/-- Its strings are no longer than strings can be, its length no greater than lengths. -/
def Lf.fit : Lf → Prop
  | .I zs => zs.length ≤ maxLen
  | .B gs => gs.length ≤ maxLen
  | .S ss => ss.length ≤ maxLen ∧ FitS ss
  | .R _ _ _ rows => rows.length ≤ maxLen

def RepL (w : World) (v : Value) : Lf → Prop
  | .I zs => ∃ A c, v = .slice A zs.length c ∧ IntL w A zs
  | .B gs => ∃ A c, v = .slice A gs.length c ∧ BoolL w A gs
  | .S ss => ∃ A c, v = .slice A ss.length c ∧ StrL w A ss
  | .R _ k _ rows => ∃ A c, v = .slice A rows.length c ∧ RowL w A k rows
def OwnL (w : World) (lo hi : Nat) (v : Value) : Lf → Prop
  | .I zs => ∃ A c, v = .slice A zs.length c ∧ OwnI w lo hi A zs
  | .B gs => ∃ A c, v = .slice A gs.length c ∧ OwnB w lo hi A gs
  | .S ss => ∃ A c, v = .slice A ss.length c ∧ OwnS w lo hi A ss
  | .R T k _ rows => ∃ A c, v = .slice A rows.length c ∧ OwnR w lo hi T A k rows
/-- A slice's capacity is no less than its length. -/
def CapL (v : Value) : Prop := ∀ A n c, v = .slice A n c → n ≤ c
/-- The block of a slice that holds something. -/
def blkL : Value → Option Nat
  | .slice (some a) n _ => if n = 0 then none else some a.block
  | _ => none
theorem blkL_some {b off : Nat} {n c : Nat} (h : 0 < n) : blkL (.slice (some ⟨b, off, none⟩) n c) = some b := by simp [blkL]; omega
theorem blkL_zero (A : Option Addr) (c : Nat) : blkL (.slice A 0 c) = none := by cases A <;> simp [blkL]

def AllA (P : Value → Lf → Prop) : List Value → List Lf → Prop
  | [], [] => True
  | v :: vs, d :: ds => P v d ∧ AllA P vs ds
  | _, _ => False
def RepA (w : World) (vs : List Value) (ds : List Lf) : Prop := AllA (RepL w) vs ds
def OwnA (w : World) (lo hi : Nat) (vs : List Value) (ds : List Lf) : Prop := AllA (OwnL w lo hi) vs ds ∧ (vs.filterMap blkL).Nodup

theorem AllA.imp {P Q : Value → Lf → Prop} : ∀ {vs : List Value} {ds : List Lf}, (∀ v d, v ∈ vs → P v d → Q v d) → AllA P vs ds → AllA Q vs ds
  | [], [], _, _ => trivial
  | v :: vs, d :: ds, h, ⟨h1, h2⟩ => ⟨h v d (by simp) h1, AllA.imp (fun v' d' hm => h v' d' (by simp [hm])) h2⟩
  | [], _ :: _, _, h => h.elim
  | _ :: _, [], _, h => h.elim

theorem RepL.below {w w' : World} {v : Value} : ∀ {d : Lf}, RepL w v d → Below w.heap.size w w' → RepL w' v d
  | .I _, ⟨A, c, e, h⟩, hb => ⟨A, c, e, h.below hb⟩
  | .B _, ⟨A, c, e, h⟩, hb => ⟨A, c, e, h.below hb⟩
  | .S _, ⟨A, c, e, h⟩, hb => ⟨A, c, e, h.below hb⟩
  | .R _ _ _ _, ⟨A, c, e, h⟩, hb => ⟨A, c, e, h.below hb⟩
theorem RepA.below {w w' : World} {vs : List Value} {ds : List Lf} (h : RepA w vs ds) (hb : Below w.heap.size w w') : RepA w' vs ds := AllA.imp (fun _ _ _ h => h.below hb) h
theorem OwnL.below {w w' : World} {lo hi : Nat} {v : Value} : ∀ {d : Lf}, OwnL w lo hi v d → Below w.heap.size w w' → OwnL w' lo hi v d
  | .I _, ⟨A, c, e, h⟩, hb => ⟨A, c, e, h.below hb⟩
  | .B _, ⟨A, c, e, h⟩, hb => ⟨A, c, e, h.below hb⟩
  | .S _, ⟨A, c, e, h⟩, hb => ⟨A, c, e, h.below hb⟩
  | .R _ _ _ _, ⟨A, c, e, h⟩, hb => ⟨A, c, e, h.below hb⟩
theorem OwnL.btw {w w' : World} {lo hi l r : Nat} {v : Value} : ∀ {d : Lf}, OwnL w lo hi v d → Btw l r w w' → (hi ≤ l ∨ r ≤ lo) → OwnL w' lo hi v d
  | .I _, ⟨A, c, e, h⟩, hb, ho => ⟨A, c, e, h.btw hb ho⟩
  | .B _, ⟨A, c, e, h⟩, hb, ho => ⟨A, c, e, h.btw hb ho⟩
  | .S _, ⟨A, c, e, h⟩, hb, ho => ⟨A, c, e, h.btw hb ho⟩
  | .R _ _ _ _, ⟨A, c, e, h⟩, hb, ho => ⟨A, c, e, h.btw hb ho⟩
theorem OwnL.wide {w : World} {lo hi lo' hi' : Nat} {v : Value} : ∀ {d : Lf}, OwnL w lo hi v d → lo' ≤ lo → hi ≤ hi' → OwnL w lo' hi' v d
  | .I _, ⟨A, c, e, h⟩, h1, h2 => ⟨A, c, e, h.wideB h1 h2⟩
  | .B _, ⟨A, c, e, h⟩, h1, h2 => ⟨A, c, e, h.wide h1 h2⟩
  | .S _, ⟨A, c, e, h⟩, h1, h2 => ⟨A, c, e, h.wide h1 h2⟩
  | .R _ _ _ _, ⟨A, c, e, h⟩, h1, h2 => ⟨A, c, e, h.wide h1 h2⟩
theorem OwnL.reads {w : World} {lo hi : Nat} {v : Value} : ∀ {d : Lf}, OwnL w lo hi v d → RepL w v d
  | .I _, ⟨A, c, e, h⟩ => ⟨A, c, e, h.reads⟩
  | .B _, ⟨A, c, e, h⟩ => ⟨A, c, e, h.reads⟩
  | .S _, ⟨A, c, e, h⟩ => ⟨A, c, e, h.reads⟩
  | .R _ _ _ _, ⟨A, c, e, h⟩ => ⟨A, c, e, h.reads⟩
theorem OwnL.form {w : World} {lo hi : Nat} {v : Value} : ∀ {d : Lf}, OwnL w lo hi v d → ∃ A c, v = .slice A d.slen c
  | .I _, ⟨A, c, e, _⟩ => ⟨A, c, e⟩
  | .B _, ⟨A, c, e, _⟩ => ⟨A, c, e⟩
  | .S _, ⟨A, c, e, _⟩ => ⟨A, c, e⟩
  | .R _ _ _ _, ⟨A, c, e, _⟩ => ⟨A, c, e⟩
theorem RepL.form {w : World} {v : Value} : ∀ {d : Lf}, RepL w v d → ∃ A c, v = .slice A d.slen c
  | .I _, ⟨A, c, e, _⟩ => ⟨A, c, e⟩
  | .B _, ⟨A, c, e, _⟩ => ⟨A, c, e⟩
  | .S _, ⟨A, c, e, _⟩ => ⟨A, c, e⟩
  | .R _ _ _ _, ⟨A, c, e, _⟩ => ⟨A, c, e⟩
theorem OwnA.below {w w' : World} {lo hi : Nat} {vs : List Value} {ds : List Lf} (h : OwnA w lo hi vs ds) (hb : Below w.heap.size w w') : OwnA w' lo hi vs ds := ⟨AllA.imp (fun _ _ _ h => h.below hb) h.1, h.2⟩
theorem OwnA.btw {w w' : World} {lo hi l r : Nat} {vs : List Value} {ds : List Lf} (h : OwnA w lo hi vs ds) (hb : Btw l r w w') (ho : hi ≤ l ∨ r ≤ lo) : OwnA w' lo hi vs ds := ⟨AllA.imp (fun _ _ _ h => h.btw hb ho) h.1, h.2⟩
theorem OwnA.wide {w : World} {lo hi lo' hi' : Nat} {vs : List Value} {ds : List Lf} (h : OwnA w lo hi vs ds) (h1 : lo' ≤ lo) (h2 : hi ≤ hi') : OwnA w lo' hi' vs ds := ⟨AllA.imp (fun _ _ _ h => h.wide h1 h2) h.1, h.2⟩
theorem OwnA.reads {w : World} {lo hi : Nat} {vs : List Value} {ds : List Lf} (h : OwnA w lo hi vs ds) : RepA w vs ds := AllA.imp (fun _ _ _ h => h.reads) h.1

/-- A leaf's own block alone has turned. -/
structure Touch (vs : List Value) (w w' : World) : Prop where
  os : w'.os = w.os
  tape : w'.tape = w.tape
  output : w'.output = w.output
  size : w.heap.size ≤ w'.heap.size
  block : ∀ k, k < w.heap.size → k ∉ vs.filterMap blkL → w'.heap[k]? = w.heap[k]?
theorem Touch.refl (vs : List Value) (w : World) : Touch vs w w := ⟨rfl, rfl, rfl, Nat.le_refl _, fun _ _ _ => rfl⟩
theorem Touch.trans {vs us : List Value} {a b c : World} (h : Touch vs a b) (k : Touch us b c) : Touch (vs ++ us) a c :=
  ⟨k.os.trans h.os, k.tape.trans h.tape, k.output.trans h.output, Nat.le_trans h.size k.size, fun i hi hn => by
    rw [List.filterMap_append, List.mem_append] at hn
    exact (k.block i (Nat.lt_of_lt_of_le hi h.size) (fun h => hn (.inr h))).trans (h.block i hi (fun h => hn (.inl h)))⟩
theorem Touch.of_below {w w' : World} (h : Below w.heap.size w w') (vs : List Value) : Touch vs w w' := ⟨h.os, h.tape, h.output, h.size, fun k hk _ => h.block k hk⟩
theorem Touch.more {vs us : List Value} {w w' : World} (h : Touch vs w w') (hs : ∀ k, k ∈ vs.filterMap blkL → k ∈ us.filterMap blkL) : Touch us w w' := ⟨h.os, h.tape, h.output, h.size, fun k hk hn => h.block k hk (fun h => hn (hs k h))⟩
theorem OwnL.blk {w : World} {lo hi : Nat} {v : Value} {b : Nat} (hb : blkL v = some b) : ∀ {d : Lf}, OwnL w lo hi v d → lo ≤ b ∧ b < hi
  | .I zs, ⟨A, c, e, h⟩ => by
    subst e
    rcases h with rfl | ⟨g, m, f, rfl, h1, h2, _⟩
    · rw [List.length_nil, blkL_zero] at hb; cases hb
    · rcases Nat.eq_zero_or_pos zs.length with hz | hz
      · rw [hz, blkL_zero] at hb; cases hb
      · rw [blkL_some hz] at hb; injection hb with hb; subst hb; exact ⟨h1, h2⟩
  | .B zs, ⟨A, c, e, h⟩ => by
    subst e
    rcases h with rfl | ⟨g, m, f, rfl, h1, h2, _⟩
    · rw [List.length_nil, blkL_zero] at hb; cases hb
    · rcases Nat.eq_zero_or_pos zs.length with hz | hz
      · rw [hz, blkL_zero] at hb; cases hb
      · rw [blkL_some hz] at hb; injection hb with hb; subst hb; exact ⟨h1, h2⟩
  | .S zs, ⟨A, c, e, h⟩ => by
    subst e
    rcases h with rfl | ⟨g, m, f, rfl, h1, h2, _⟩
    · rw [List.length_nil, blkL_zero] at hb; cases hb
    · rcases Nat.eq_zero_or_pos zs.length with hz | hz
      · rw [hz, blkL_zero] at hb; cases hb
      · rw [blkL_some hz] at hb; injection hb with hb; subst hb; exact ⟨h1, h2⟩
  | .R _ _ _ zs, ⟨A, c, e, h⟩ => by
    subst e
    rcases h with rfl | ⟨g, m, f, rfl, h1, h2, _⟩
    · rw [List.length_nil, blkL_zero] at hb; cases hb
    · rcases Nat.eq_zero_or_pos zs.length with hz | hz
      · rw [hz, blkL_zero] at hb; cases hb
      · rw [blkL_some hz] at hb; injection hb with hb; subst hb; exact ⟨h1, h2⟩
theorem AllA.mem {P : Value → Lf → Prop} : ∀ {vs : List Value} {ds : List Lf} {v : Value}, AllA P vs ds → v ∈ vs → ∃ d, P v d
  | v :: vs, d :: ds, u, ⟨h1, h2⟩, hm => by
    rcases List.mem_cons.1 hm with rfl | hm
    · exact ⟨d, h1⟩
    · exact AllA.mem h2 hm
  | [], [], _, _, hm => by cases hm
theorem OwnA.blk {w : World} {lo hi : Nat} {vs : List Value} {ds : List Lf} (h : OwnA w lo hi vs ds) {b : Nat} (hb : b ∈ vs.filterMap blkL) : lo ≤ b ∧ b < hi := by
  obtain ⟨v, hv, he⟩ := List.mem_filterMap.1 hb
  obtain ⟨d, hd⟩ := h.1.mem hv
  exact hd.blk he
theorem Touch.btw {w w' : World} {lo hi : Nat} {vs : List Value} {ds : List Lf} (h : OwnA w lo hi vs ds) (t : Touch vs w w') : Btw lo hi w w' :=
  ⟨t.os, t.tape, t.output, t.size, fun k hk ho => t.block k hk (fun hm => by have := h.blk hm; omega)⟩
/-- An owned leaf whose block is not among those that turned is as it was. -/
theorem OwnL.away {w w' : World} {lo hi : Nat} {v : Value} {us : List Value} (t : Touch us w w') (hn : ∀ b, blkL v = some b → b ∉ us.filterMap blkL) : ∀ {d : Lf}, OwnL w lo hi v d → OwnL w' lo hi v d
  | .I zs, ⟨A, c, e, h⟩ => by
    refine ⟨A, c, e, ?_⟩
    rcases h with h | ⟨g, m, f, rfl, h1, h2, hm, hr, hf⟩
    · exact .inl h
    · by_cases hz : zs = []
      · exact .inl hz
      · exact .inr ⟨g, m, f, rfl, h1, h2, hm, hr.of_block (t.block g hr.lt (hn g (by rw [e]; exact blkL_some (List.length_pos_iff.2 hz)))), hf⟩
  | .B zs, ⟨A, c, e, h⟩ => by
    refine ⟨A, c, e, ?_⟩
    rcases h with h | ⟨g, m, f, rfl, h1, h2, hm, hr, hf⟩
    · exact .inl h
    · by_cases hz : zs = []
      · exact .inl hz
      · exact .inr ⟨g, m, f, rfl, h1, h2, hm, hr.of_block (t.block g hr.lt (hn g (by rw [e]; exact blkL_some (List.length_pos_iff.2 hz)))), hf⟩
  | .S zs, ⟨A, c, e, h⟩ => by
    refine ⟨A, c, e, ?_⟩
    rcases h with h | ⟨g, m, f, rfl, h1, h2, hm, hr, hf⟩
    · exact .inl h
    · by_cases hz : zs = []
      · exact .inl hz
      · exact .inr ⟨g, m, f, rfl, h1, h2, hm, hr.of_block (t.block g hr.lt (hn g (by rw [e]; exact blkL_some (List.length_pos_iff.2 hz)))), hf⟩
  | .R _ _ _ zs, ⟨A, c, e, h⟩ => by
    refine ⟨A, c, e, ?_⟩
    rcases h with h | ⟨g, m, f, rfl, h1, h2, hm, hr, hf⟩
    · exact .inl h
    · by_cases hz : zs = []
      · exact .inl hz
      · exact .inr ⟨g, m, f, rfl, h1, h2, hm, hr.of_block (t.block g hr.lt (hn g (by rw [e]; exact blkL_some (List.length_pos_iff.2 hz)))), hf⟩
theorem OwnA.away {w w' : World} {lo hi : Nat} {vs us : List Value} {ds : List Lf} (t : Touch us w w') (hn : ∀ b, b ∈ vs.filterMap blkL → b ∉ us.filterMap blkL) (h : OwnA w lo hi vs ds) : OwnA w' lo hi vs ds :=
  ⟨AllA.imp (fun v _ hv h => h.away t (fun b hb => hn b (List.mem_filterMap.2 ⟨v, hv, hb⟩))) h.1, h.2⟩
theorem OwnA.cons {w : World} {lo hi : Nat} {v : Value} {vs : List Value} {d : Lf} {ds : List Lf} (h1 : OwnL w lo hi v d) (h2 : OwnA w lo hi vs ds) (hn : ∀ b, blkL v = some b → b ∉ vs.filterMap blkL) : OwnA w lo hi (v :: vs) (d :: ds) := by
  refine ⟨⟨h1, h2.1⟩, ?_⟩
  rw [List.filterMap_cons]
  cases hb : blkL v with
  | none => exact h2.2
  | some b => exact List.nodup_cons.2 ⟨hn b hb, h2.2⟩
theorem OwnA.uncons {w : World} {lo hi : Nat} {v : Value} {vs : List Value} {d : Lf} {ds : List Lf} (h : OwnA w lo hi (v :: vs) (d :: ds)) : OwnL w lo hi v d ∧ OwnA w lo hi vs ds ∧ ∀ b, blkL v = some b → b ∉ vs.filterMap blkL := by
  obtain ⟨⟨h1, h2⟩, h3⟩ := h
  rw [List.filterMap_cons] at h3
  cases hb : blkL v with
  | none => rw [hb] at h3; exact ⟨h1, ⟨h2, h3⟩, fun b hb' => by cases hb'⟩
  | some b => rw [hb] at h3; exact ⟨h1, ⟨h2, (List.nodup_cons.1 h3).2⟩, fun b' hb' => by injection hb' with e; subst e; exact (List.nodup_cons.1 h3).1⟩
theorem OwnA.nil (w : World) (lo hi : Nat) : OwnA w lo hi [] [] := ⟨trivial, List.nodup_nil⟩
/-- Rows of two ranges are of two blocks. -/
theorem OwnA.append {w : World} {lo hi lo' hi' L R : Nat} {vs us : List Value} {ds es : List Lf} (h : OwnA w lo hi vs ds) (k : OwnA w lo' hi' us es) (ho : hi ≤ lo' ∨ hi' ≤ lo) (h1 : L ≤ lo) (h2 : L ≤ lo') (h3 : hi ≤ R) (h4 : hi' ≤ R) : OwnA w L R (vs ++ us) (ds ++ es) := by
  have aux : ∀ {vs : List Value} {ds : List Lf}, AllA (OwnL w L R) vs ds → AllA (OwnL w L R) us es → AllA (OwnL w L R) (vs ++ us) (ds ++ es) := by
    intro vs
    induction vs with
    | nil => intro ds a b; cases ds with
      | nil => exact b
      | cons d ds => exact a.elim
    | cons v vs ih => intro ds a b; cases ds with
      | nil => exact a.elim
      | cons d ds => exact ⟨a.1, ih a.2 b⟩
  refine ⟨aux (h.wide h1 h3).1 (k.wide h2 h4).1, ?_⟩
  rw [List.filterMap_append, List.nodup_append]
  refine ⟨h.2, k.2, fun a ha b hb e => ?_⟩
  subst e
  have := h.blk ha
  have := k.blk hb
  omega
end Go.Proofs.Ytagdclbpgkilgaa
