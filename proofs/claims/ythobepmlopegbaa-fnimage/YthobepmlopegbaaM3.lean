/- Texts of this claim, one behind the other: GenA, GenB, GenC, FlashBits, FlashSpec, FlashOfImpl, Chip, ChipOps, ChipOf, ChipFlash, ChipCycle, ChipWipe, NewFlash, FlashOfSpec. -/
import Derived.Laws.BitsLemmas
import Derived.Deep.MidRow
import Derived.Laws.CopyOwn
import Derived.Deep.RegionHeld3
import Derived.Deep.DeepCutAuto
import Derived.Deep.DeepFit
import Derived.Test.YthobepmlopegbaaM2
/- Leaves of Go values as data: what a value says, rows of the call's own, what a call that writes into some of them keeps. Nothing here is of one type of the program. -/
namespace Go.Proofs.Ythobepmlopegbaa
open Go.RowKit

/-- What a leaf of a struct that is a slice says. -/
inductive Lf where
  | I (zs : List Int)
  | B (gs : List Bool)
  | S (ss : List ByteArray)

def Lf.len : Lf → Nat
  | .I zs => zs.length
  | .B gs => gs.length
  | .S ss => ss.length
/-- The size that the laws count. -/
def Lf.sz : Lf → Nat
  | .I zs => zs.length
  | .B gs => gs.length
  | .S ss => ss.length + lenS ss
def Lf.marks (k : Nat) : Lf → Lf
  | .I zs => .I (marksI k zs.length)
  | .B gs => .B (marksB k gs.length)
  | .S ss => .S (marksS k ss.length)
theorem Lf.marks_len (k : Nat) (d : Lf) : (d.marks k).len = d.len := by cases d <;> simp [Lf.marks, Lf.len, marksI, marksB, marksS]
theorem Lf.len_le (d : Lf) : d.len ≤ d.sz := by cases d <;> simp [Lf.len, Lf.sz]
/-- Its strings are no longer than strings can be, its length no greater than lengths. -/
def Lf.fit : Lf → Prop
  | .I zs => zs.length ≤ maxLen
  | .B gs => gs.length ≤ maxLen
  | .S ss => ss.length ≤ maxLen ∧ FitS ss

def RepL (w : World) (v : Value) : Lf → Prop
  | .I zs => ∃ A c, v = .slice A zs.length c ∧ IntL w A zs
  | .B gs => ∃ A c, v = .slice A gs.length c ∧ BoolL w A gs
  | .S ss => ∃ A c, v = .slice A ss.length c ∧ StrL w A ss
def OwnL (w : World) (lo hi : Nat) (v : Value) : Lf → Prop
  | .I zs => ∃ A c, v = .slice A zs.length c ∧ OwnI w lo hi A zs
  | .B gs => ∃ A c, v = .slice A gs.length c ∧ OwnB w lo hi A gs
  | .S ss => ∃ A c, v = .slice A ss.length c ∧ OwnS w lo hi A ss
/-- A slice's capacity is no less than its length. -/
def CapL (v : Value) : Prop := ∀ A n c, v = .slice A n c → n ≤ c
/-- The block of a slice that holds something. -/
def blkL : Value → Option Nat
  | .slice (some a) n _ => if n = 0 then none else some a.block
  | _ => none
theorem blkL_some {b off : Nat} {n c : Nat} (h : 0 < n) : blkL (.slice (some ⟨b, off, none⟩) n c) = some b := by simp [blkL]; omega
theorem blkL_zero (A : Option Addr) (c : Nat) : blkL (.slice A 0 c) = none := by cases A <;> simp [blkL]

def AllA (P : Value → Lf → Prop) : List Value → List Lf → Prop
  | [], [] => True
  | v :: vs, d :: ds => P v d ∧ AllA P vs ds
  | _, _ => False
def RepA (w : World) (vs : List Value) (ds : List Lf) : Prop := AllA (RepL w) vs ds
def OwnA (w : World) (lo hi : Nat) (vs : List Value) (ds : List Lf) : Prop := AllA (OwnL w lo hi) vs ds ∧ (vs.filterMap blkL).Nodup

theorem AllA.imp {P Q : Value → Lf → Prop} : ∀ {vs : List Value} {ds : List Lf}, (∀ v d, v ∈ vs → P v d → Q v d) → AllA P vs ds → AllA Q vs ds
  | [], [], _, _ => trivial
  | v :: vs, d :: ds, h, ⟨h1, h2⟩ => ⟨h v d (by simp) h1, AllA.imp (fun v' d' hm => h v' d' (by simp [hm])) h2⟩
  | [], _ :: _, _, h => h.elim
  | _ :: _, [], _, h => h.elim

theorem RepL.below {w w' : World} {v : Value} : ∀ {d : Lf}, RepL w v d → Below w.heap.size w w' → RepL w' v d
  | .I _, ⟨A, c, e, h⟩, hb => ⟨A, c, e, h.below hb⟩
  | .B _, ⟨A, c, e, h⟩, hb => ⟨A, c, e, h.below hb⟩
  | .S _, ⟨A, c, e, h⟩, hb => ⟨A, c, e, h.below hb⟩
theorem RepA.below {w w' : World} {vs : List Value} {ds : List Lf} (h : RepA w vs ds) (hb : Below w.heap.size w w') : RepA w' vs ds := AllA.imp (fun _ _ _ h => h.below hb) h
theorem OwnL.below {w w' : World} {lo hi : Nat} {v : Value} : ∀ {d : Lf}, OwnL w lo hi v d → Below w.heap.size w w' → OwnL w' lo hi v d
  | .I _, ⟨A, c, e, h⟩, hb => ⟨A, c, e, h.below hb⟩
  | .B _, ⟨A, c, e, h⟩, hb => ⟨A, c, e, h.below hb⟩
  | .S _, ⟨A, c, e, h⟩, hb => ⟨A, c, e, h.below hb⟩
theorem OwnL.btw {w w' : World} {lo hi l r : Nat} {v : Value} : ∀ {d : Lf}, OwnL w lo hi v d → Btw l r w w' → (hi ≤ l ∨ r ≤ lo) → OwnL w' lo hi v d
  | .I _, ⟨A, c, e, h⟩, hb, ho => ⟨A, c, e, h.btw hb ho⟩
  | .B _, ⟨A, c, e, h⟩, hb, ho => ⟨A, c, e, h.btw hb ho⟩
  | .S _, ⟨A, c, e, h⟩, hb, ho => ⟨A, c, e, h.btw hb ho⟩
theorem OwnL.wide {w : World} {lo hi lo' hi' : Nat} {v : Value} : ∀ {d : Lf}, OwnL w lo hi v d → lo' ≤ lo → hi ≤ hi' → OwnL w lo' hi' v d
  | .I _, ⟨A, c, e, h⟩, h1, h2 => ⟨A, c, e, h.wideB h1 h2⟩
  | .B _, ⟨A, c, e, h⟩, h1, h2 => ⟨A, c, e, h.wide h1 h2⟩
  | .S _, ⟨A, c, e, h⟩, h1, h2 => ⟨A, c, e, h.wide h1 h2⟩
theorem OwnL.reads {w : World} {lo hi : Nat} {v : Value} : ∀ {d : Lf}, OwnL w lo hi v d → RepL w v d
  | .I _, ⟨A, c, e, h⟩ => ⟨A, c, e, h.reads⟩
  | .B _, ⟨A, c, e, h⟩ => ⟨A, c, e, h.reads⟩
  | .S _, ⟨A, c, e, h⟩ => ⟨A, c, e, h.reads⟩
theorem OwnL.form {w : World} {lo hi : Nat} {v : Value} : ∀ {d : Lf}, OwnL w lo hi v d → ∃ A c, v = .slice A d.len c
  | .I _, ⟨A, c, e, _⟩ => ⟨A, c, e⟩
  | .B _, ⟨A, c, e, _⟩ => ⟨A, c, e⟩
  | .S _, ⟨A, c, e, _⟩ => ⟨A, c, e⟩
theorem RepL.form {w : World} {v : Value} : ∀ {d : Lf}, RepL w v d → ∃ A c, v = .slice A d.len c
  | .I _, ⟨A, c, e, _⟩ => ⟨A, c, e⟩
  | .B _, ⟨A, c, e, _⟩ => ⟨A, c, e⟩
  | .S _, ⟨A, c, e, _⟩ => ⟨A, c, e⟩
theorem OwnA.below {w w' : World} {lo hi : Nat} {vs : List Value} {ds : List Lf} (h : OwnA w lo hi vs ds) (hb : Below w.heap.size w w') : OwnA w' lo hi vs ds := ⟨AllA.imp (fun _ _ _ h => h.below hb) h.1, h.2⟩
theorem OwnA.btw {w w' : World} {lo hi l r : Nat} {vs : List Value} {ds : List Lf} (h : OwnA w lo hi vs ds) (hb : Btw l r w w') (ho : hi ≤ l ∨ r ≤ lo) : OwnA w' lo hi vs ds := ⟨AllA.imp (fun _ _ _ h => h.btw hb ho) h.1, h.2⟩
theorem OwnA.wide {w : World} {lo hi lo' hi' : Nat} {vs : List Value} {ds : List Lf} (h : OwnA w lo hi vs ds) (h1 : lo' ≤ lo) (h2 : hi ≤ hi') : OwnA w lo' hi' vs ds := ⟨AllA.imp (fun _ _ _ h => h.wide h1 h2) h.1, h.2⟩
theorem OwnA.reads {w : World} {lo hi : Nat} {vs : List Value} {ds : List Lf} (h : OwnA w lo hi vs ds) : RepA w vs ds := AllA.imp (fun _ _ _ h => h.reads) h.1

/-- A leaf's own block alone has turned. -/
structure Touch (vs : List Value) (w w' : World) : Prop where
  os : w'.os = w.os
  tape : w'.tape = w.tape
  output : w'.output = w.output
  size : w.heap.size ≤ w'.heap.size
  block : ∀ k, k < w.heap.size → k ∉ vs.filterMap blkL → w'.heap[k]? = w.heap[k]?
theorem Touch.refl (vs : List Value) (w : World) : Touch vs w w := ⟨rfl, rfl, rfl, Nat.le_refl _, fun _ _ _ => rfl⟩
theorem Touch.trans {vs us : List Value} {a b c : World} (h : Touch vs a b) (k : Touch us b c) : Touch (vs ++ us) a c :=
  ⟨k.os.trans h.os, k.tape.trans h.tape, k.output.trans h.output, Nat.le_trans h.size k.size, fun i hi hn => by
    rw [List.filterMap_append, List.mem_append] at hn
    exact (k.block i (Nat.lt_of_lt_of_le hi h.size) (fun h => hn (.inr h))).trans (h.block i hi (fun h => hn (.inl h)))⟩
theorem Touch.of_below {w w' : World} (h : Below w.heap.size w w') (vs : List Value) : Touch vs w w' := ⟨h.os, h.tape, h.output, h.size, fun k hk _ => h.block k hk⟩
theorem Touch.more {vs us : List Value} {w w' : World} (h : Touch vs w w') (hs : ∀ k, k ∈ vs.filterMap blkL → k ∈ us.filterMap blkL) : Touch us w w' := ⟨h.os, h.tape, h.output, h.size, fun k hk hn => h.block k hk (fun h => hn (hs k h))⟩
theorem OwnL.blk {w : World} {lo hi : Nat} {v : Value} {b : Nat} (hb : blkL v = some b) : ∀ {d : Lf}, OwnL w lo hi v d → lo ≤ b ∧ b < hi
  | .I zs, ⟨A, c, e, h⟩ => by
    subst e
    rcases h with rfl | ⟨g, m, f, rfl, h1, h2, _⟩
    · rw [List.length_nil, blkL_zero] at hb; cases hb
    · rcases Nat.eq_zero_or_pos zs.length with hz | hz
      · rw [hz, blkL_zero] at hb; cases hb
      · rw [blkL_some hz] at hb; injection hb with hb; subst hb; exact ⟨h1, h2⟩
  | .B zs, ⟨A, c, e, h⟩ => by
    subst e
    rcases h with rfl | ⟨g, m, f, rfl, h1, h2, _⟩
    · rw [List.length_nil, blkL_zero] at hb; cases hb
    · rcases Nat.eq_zero_or_pos zs.length with hz | hz
      · rw [hz, blkL_zero] at hb; cases hb
      · rw [blkL_some hz] at hb; injection hb with hb; subst hb; exact ⟨h1, h2⟩
  | .S zs, ⟨A, c, e, h⟩ => by
    subst e
    rcases h with rfl | ⟨g, m, f, rfl, h1, h2, _⟩
    · rw [List.length_nil, blkL_zero] at hb; cases hb
    · rcases Nat.eq_zero_or_pos zs.length with hz | hz
      · rw [hz, blkL_zero] at hb; cases hb
      · rw [blkL_some hz] at hb; injection hb with hb; subst hb; exact ⟨h1, h2⟩
theorem AllA.mem {P : Value → Lf → Prop} : ∀ {vs : List Value} {ds : List Lf} {v : Value}, AllA P vs ds → v ∈ vs → ∃ d, P v d
  | v :: vs, d :: ds, u, ⟨h1, h2⟩, hm => by
    rcases List.mem_cons.1 hm with rfl | hm
    · exact ⟨d, h1⟩
    · exact AllA.mem h2 hm
  | [], [], _, _, hm => by cases hm
theorem OwnA.blk {w : World} {lo hi : Nat} {vs : List Value} {ds : List Lf} (h : OwnA w lo hi vs ds) {b : Nat} (hb : b ∈ vs.filterMap blkL) : lo ≤ b ∧ b < hi := by
  obtain ⟨v, hv, he⟩ := List.mem_filterMap.1 hb
  obtain ⟨d, hd⟩ := h.1.mem hv
  exact hd.blk he
theorem Touch.btw {w w' : World} {lo hi : Nat} {vs : List Value} {ds : List Lf} (h : OwnA w lo hi vs ds) (t : Touch vs w w') : Btw lo hi w w' :=
  ⟨t.os, t.tape, t.output, t.size, fun k hk ho => t.block k hk (fun hm => by have := h.blk hm; omega)⟩
/-- An owned leaf whose block is not among those that turned is as it was. -/
theorem OwnL.away {w w' : World} {lo hi : Nat} {v : Value} {us : List Value} (t : Touch us w w') (hn : ∀ b, blkL v = some b → b ∉ us.filterMap blkL) : ∀ {d : Lf}, OwnL w lo hi v d → OwnL w' lo hi v d
  | .I zs, ⟨A, c, e, h⟩ => by
    refine ⟨A, c, e, ?_⟩
    rcases h with h | ⟨g, m, f, rfl, h1, h2, hm, hr, hf⟩
    · exact .inl h
    · by_cases hz : zs = []
      · exact .inl hz
      · exact .inr ⟨g, m, f, rfl, h1, h2, hm, hr.of_block (t.block g hr.lt (hn g (by rw [e]; exact blkL_some (List.length_pos_iff.2 hz)))), hf⟩
  | .B zs, ⟨A, c, e, h⟩ => by
    refine ⟨A, c, e, ?_⟩
    rcases h with h | ⟨g, m, f, rfl, h1, h2, hm, hr, hf⟩
    · exact .inl h
    · by_cases hz : zs = []
      · exact .inl hz
      · exact .inr ⟨g, m, f, rfl, h1, h2, hm, hr.of_block (t.block g hr.lt (hn g (by rw [e]; exact blkL_some (List.length_pos_iff.2 hz)))), hf⟩
  | .S zs, ⟨A, c, e, h⟩ => by
    refine ⟨A, c, e, ?_⟩
    rcases h with h | ⟨g, m, f, rfl, h1, h2, hm, hr, hf⟩
    · exact .inl h
    · by_cases hz : zs = []
      · exact .inl hz
      · exact .inr ⟨g, m, f, rfl, h1, h2, hm, hr.of_block (t.block g hr.lt (hn g (by rw [e]; exact blkL_some (List.length_pos_iff.2 hz)))), hf⟩
theorem OwnA.away {w w' : World} {lo hi : Nat} {vs us : List Value} {ds : List Lf} (t : Touch us w w') (hn : ∀ b, b ∈ vs.filterMap blkL → b ∉ us.filterMap blkL) (h : OwnA w lo hi vs ds) : OwnA w' lo hi vs ds :=
  ⟨AllA.imp (fun v _ hv h => h.away t (fun b hb => hn b (List.mem_filterMap.2 ⟨v, hv, hb⟩))) h.1, h.2⟩
theorem OwnA.cons {w : World} {lo hi : Nat} {v : Value} {vs : List Value} {d : Lf} {ds : List Lf} (h1 : OwnL w lo hi v d) (h2 : OwnA w lo hi vs ds) (hn : ∀ b, blkL v = some b → b ∉ vs.filterMap blkL) : OwnA w lo hi (v :: vs) (d :: ds) := by
  refine ⟨⟨h1, h2.1⟩, ?_⟩
  rw [List.filterMap_cons]
  cases hb : blkL v with
  | none => exact h2.2
  | some b => exact List.nodup_cons.2 ⟨hn b hb, h2.2⟩
theorem OwnA.uncons {w : World} {lo hi : Nat} {v : Value} {vs : List Value} {d : Lf} {ds : List Lf} (h : OwnA w lo hi (v :: vs) (d :: ds)) : OwnL w lo hi v d ∧ OwnA w lo hi vs ds ∧ ∀ b, blkL v = some b → b ∉ vs.filterMap blkL := by
  obtain ⟨⟨h1, h2⟩, h3⟩ := h
  rw [List.filterMap_cons] at h3
  cases hb : blkL v with
  | none => rw [hb] at h3; exact ⟨h1, ⟨h2, h3⟩, fun b hb' => by cases hb'⟩
  | some b => rw [hb] at h3; exact ⟨h1, ⟨h2, (List.nodup_cons.1 h3).2⟩, fun b' hb' => by injection hb' with e; subst e; exact (List.nodup_cons.1 h3).1⟩
theorem OwnA.nil (w : World) (lo hi : Nat) : OwnA w lo hi [] [] := ⟨trivial, List.nodup_nil⟩
/-- Rows of two ranges are of two blocks. -/
theorem OwnA.append {w : World} {lo hi lo' hi' L R : Nat} {vs us : List Value} {ds es : List Lf} (h : OwnA w lo hi vs ds) (k : OwnA w lo' hi' us es) (ho : hi ≤ lo' ∨ hi' ≤ lo) (h1 : L ≤ lo) (h2 : L ≤ lo') (h3 : hi ≤ R) (h4 : hi' ≤ R) : OwnA w L R (vs ++ us) (ds ++ es) := by
  have aux : ∀ {vs : List Value} {ds : List Lf}, AllA (OwnL w L R) vs ds → AllA (OwnL w L R) us es → AllA (OwnL w L R) (vs ++ us) (ds ++ es) := by
    intro vs
    induction vs with
    | nil => intro ds a b; cases ds with
      | nil => exact b
      | cons d ds => exact a.elim
    | cons v vs ih => intro ds a b; cases ds with
      | nil => exact a.elim
      | cons d ds => exact ⟨a.1, ih a.2 b⟩
  refine ⟨aux (h.wide h1 h3).1 (k.wide h2 h4).1, ?_⟩
  rw [List.filterMap_append, List.nodup_append]
  refine ⟨h.2, k.2, fun a ha b hb e => ?_⟩
  subst e
  have := h.blk ha
  have := k.blk hb
  omega
end Go.Proofs.Ythobepmlopegbaa

/- The laws' own functions over []int, []bool, []string, on leaves. -/
namespace Go.Proofs.Ythobepmlopegbaa
open Go.RowKit

/-- The call hands back a slice of its own. -/
def GivesL (n : Nat) (d : Lf) (w : World) (e : Ending) (w' : World) : Prop := ∃ A c, e = .returned (.slice A n c) ∧ Hid (OwnL w' w.heap.size w'.heap.size (.slice A n c) d) ∧ Hid (CapL (.slice A n c)) ∧ Below w.heap.size w w'
/-- The call has marked a slice. -/
def MarkedL (lo hi : Nat) (v : Value) (d : Lf) (k : Nat) (w : World) (e : Ending) (w' : World) : Prop := e = .returned (.int .i64 ((k + d.len : Nat) : Int)) ∧ Hid (OwnL w' lo hi v (d.marks k)) ∧ Touch [v] w w'
theorem capL {A : Option Addr} {n c : Nat} (h : n ≤ c) : CapL (.slice A n c) := fun A' n' c' e => by injection e with _ e2 e3; omega
theorem touch_none {w w' : World} {A : Option Addr} {c : Nat} (h : Btw 0 0 w w') : Touch [.slice A 0 c] w w' := ⟨h.os, h.tape, h.output, h.size, fun k hk _ => h.block k hk (.inr (Nat.zero_le _))⟩
theorem touch_blk {w w' : World} {g n c : Nat} (hn : 0 < n) (h : Btw g (g + 1) w w') : Touch [.slice (some ⟨g, 0, none⟩) n c] w w' := ⟨h.os, h.tape, h.output, h.size, fun k hk hm => h.block k hk (by
  have : k ≠ g := by rintro rfl; exact hm (by simp [blkL_some hn])
  omega)⟩

set_option maxRecDepth 100000 in
theorem szLI (v : Value) (zs : List Int) (left : Int) (w : World) (h : RepL w v (.I zs)) (hf : (Lf.I zs).fit) (h0 : 0 ≤ left) (h1 : left ≤ 1048576) :
    Calls Try.prog 50 #[v, .int .i64 left] w (Left left (Lf.sz (.I zs)) w) := by
  obtain ⟨A, c, rfl, hr⟩ := h
  exact szIntS A zs.length c left w hf h0 h1
set_option maxRecDepth 100000 in
theorem toLI (v : Value) (zs : List Int) (w : World) (h : RepL w v (.I zs)) (hn : zs.length ≤ 1048576) :
    Calls Try.prog 52 #[v] w (GivesL zs.length (.I zs) w) := by
  obtain ⟨A, c, rfl, hr⟩ := h
  refine (toIntSc A zs.length c zs w rfl hn hr).mono ?_
  rintro e w' ⟨A1, n1, c1, rfl, L1, S1, K1, hb1⟩
  have := L1.out
  subst this
  exact ⟨_, _, rfl, Lib.hid ⟨A1, c1, rfl, S1.out⟩, Lib.hid (capL K1), hb1⟩
set_option maxRecDepth 100000 in
theorem eqLI (v v' : Value) (zs : List Int) (w : World) (h : RepL w v (.I zs)) (h' : RepL w v' (.I zs)) (hn : zs.length ≤ maxLen) :
    Calls Try.prog 54 #[v, v'] w fun e w' => e = .returned (.bool true) ∧ Below w.heap.size w w' := by
  obtain ⟨A, c, rfl, hr⟩ := h
  obtain ⟨A', c', rfl, hr'⟩ := h'
  exact eqIntSame A A' zs.length zs.length c c' zs w rfl rfl hn hr hr'
set_option maxRecDepth 100000 in
theorem markLI (v : Value) (zs : List Int) (k lo hi : Nat) (w : World) (h : OwnL w lo hi v (.I zs)) (hk : 1 ≤ k) (hn : zs.length ≤ 4294967296) (hk2 : k ≤ 549755813888) :
    Calls Try.prog 56 #[v, .int .i64 (k : Int)] w (MarkedL lo hi v (.I zs) k w) := by
  obtain ⟨A, c, rfl, ho⟩ := h
  rcases Nat.eq_zero_or_pos zs.length with hz | hz
  · have hz' : zs = [] := List.eq_nil_of_length_eq_zero hz
    subst hz'
    refine (markIntSs A 0 c k 0 0 [] w rfl hk (by omega) (by omega) (.inl rfl)).mono ?_
    rintro e w' ⟨rfl, S, hb⟩
    exact ⟨rfl, Lib.hid ⟨A, c, rfl, .inl rfl⟩, touch_none hb⟩
  · rcases ho with rfl | ⟨b, m, f, rfl, h1, h2, hm, hr, hf⟩
    · simp at hz
    · refine (markIntSs _ zs.length c k b (b + 1) zs w rfl hk (by omega) (by omega) (.inr ⟨b, m, f, rfl, Nat.le_refl _, Nat.lt_succ_self _, hm, hr, hf⟩)).mono ?_
      rintro e w' ⟨rfl, S, hb⟩
      exact ⟨rfl, Lib.hid ⟨_, c, by simp [marksI], S.out.wideB h1 h2⟩, touch_blk hz hb⟩
set_option maxRecDepth 100000 in
theorem heldLI (v : Value) (zs : List Int) (k : Nat) (w : World) (h : RepL w v ((Lf.I zs).marks k)) (hk : 1 ≤ k) (hn : zs.length ≤ 4294967296) (hk2 : k ≤ 549755813888) :
    Calls Try.prog 61 #[v, .int .i64 (k : Int)] w fun e w' => e = .returned (.int .i64 ((k + (Lf.I zs).len : Nat) : Int)) ∧ Below w.heap.size w w' := by
  obtain ⟨A, c, rfl, hr⟩ := h
  have hl : (marksI k zs.length).length = zs.length := by simp [marksI]
  rw [hl]
  refine (heldIntS A zs.length c k w hk (by omega) hr).mono ?_
  rintro e w' ⟨rfl, hb⟩
  exact ⟨rfl, hb ▸ Below.refl _ _⟩
set_option maxRecDepth 100000 in
theorem szLB (v : Value) (zs : List Bool) (left : Int) (w : World) (h : RepL w v (.B zs)) (hf : (Lf.B zs).fit) (h0 : 0 ≤ left) (h1 : left ≤ 1048576) :
    Calls Try.prog 51 #[v, .int .i64 left] w (Left left (Lf.sz (.B zs)) w) := by
  obtain ⟨A, c, rfl, hr⟩ := h
  exact szBoolS A zs.length c left w hf h0 h1
set_option maxRecDepth 100000 in
theorem toLB (v : Value) (zs : List Bool) (w : World) (h : RepL w v (.B zs)) (hn : zs.length ≤ 1048576) :
    Calls Try.prog 53 #[v] w (GivesL zs.length (.B zs) w) := by
  obtain ⟨A, c, rfl, hr⟩ := h
  refine (toBoolS A zs.length c zs w rfl hn hr).mono ?_
  rintro e w' ⟨A1, n1, c1, rfl, L1, S1, K1, hb1⟩
  have := L1.out
  subst this
  exact ⟨_, _, rfl, Lib.hid ⟨A1, c1, rfl, S1.out⟩, Lib.hid (capL K1), hb1⟩
set_option maxRecDepth 100000 in
theorem eqLB (v v' : Value) (zs : List Bool) (w : World) (h : RepL w v (.B zs)) (h' : RepL w v' (.B zs)) (hn : zs.length ≤ maxLen) :
    Calls Try.prog 55 #[v, v'] w fun e w' => e = .returned (.bool true) ∧ Below w.heap.size w w' := by
  obtain ⟨A, c, rfl, hr⟩ := h
  obtain ⟨A', c', rfl, hr'⟩ := h'
  exact eqBoolSame A A' zs.length zs.length c c' zs w rfl rfl hn hr hr'
set_option maxRecDepth 100000 in
theorem markLB (v : Value) (zs : List Bool) (k lo hi : Nat) (w : World) (h : OwnL w lo hi v (.B zs)) (hk : 1 ≤ k) (hn : zs.length ≤ 4294967296) (hk2 : k ≤ 549755813888) :
    Calls Try.prog 57 #[v, .int .i64 (k : Int)] w (MarkedL lo hi v (.B zs) k w) := by
  obtain ⟨A, c, rfl, ho⟩ := h
  rcases Nat.eq_zero_or_pos zs.length with hz | hz
  · have hz' : zs = [] := List.eq_nil_of_length_eq_zero hz
    subst hz'
    refine (markBoolS A 0 c k 0 0 [] w rfl hk (by omega) (by omega) (.inl rfl)).mono ?_
    rintro e w' ⟨rfl, S, hb⟩
    exact ⟨rfl, Lib.hid ⟨A, c, rfl, .inl rfl⟩, touch_none hb⟩
  · rcases ho with rfl | ⟨b, m, f, rfl, h1, h2, hm, hr, hf⟩
    · simp at hz
    · refine (markBoolS _ zs.length c k b (b + 1) zs w rfl hk (by omega) (by omega) (.inr ⟨b, m, f, rfl, Nat.le_refl _, Nat.lt_succ_self _, hm, hr, hf⟩)).mono ?_
      rintro e w' ⟨rfl, S, hb⟩
      exact ⟨rfl, Lib.hid ⟨_, c, by simp [marksB], S.out.wide h1 h2⟩, touch_blk hz hb⟩
set_option maxRecDepth 100000 in
theorem heldLB (v : Value) (zs : List Bool) (k : Nat) (w : World) (h : RepL w v ((Lf.B zs).marks k)) (hk : 1 ≤ k) (hn : zs.length ≤ 4294967296) (hk2 : k ≤ 549755813888) :
    Calls Try.prog 62 #[v, .int .i64 (k : Int)] w fun e w' => e = .returned (.int .i64 ((k + (Lf.B zs).len : Nat) : Int)) ∧ Below w.heap.size w w' := by
  obtain ⟨A, c, rfl, hr⟩ := h
  have hl : (marksB k zs.length).length = zs.length := by simp [marksB]
  rw [hl]
  refine (heldBoolS A zs.length c k w hk (by omega) hr).mono ?_
  rintro e w' ⟨rfl, hb⟩
  exact ⟨rfl, hb ▸ Below.refl _ _⟩
set_option maxRecDepth 100000 in
theorem szLS (v : Value) (zs : List ByteArray) (left : Int) (w : World) (h : RepL w v (.S zs)) (hf : (Lf.S zs).fit) (h0 : 0 ≤ left) (h1 : left ≤ 1048576) :
    Calls Try.prog 29 #[v, .int .i64 left] w (Left left (Lf.sz (.S zs)) w) := by
  obtain ⟨A, c, rfl, hr⟩ := h
  exact szStringS A zs.length c zs left w rfl hf.1 h0 h1 hr hf.2
set_option maxRecDepth 100000 in
theorem toLS (v : Value) (zs : List ByteArray) (w : World) (h : RepL w v (.S zs)) (hn : zs.length ≤ 1048576) :
    Calls Try.prog 31 #[v] w (GivesL zs.length (.S zs) w) := by
  obtain ⟨A, c, rfl, hr⟩ := h
  refine (toStringS A zs.length c zs w rfl hn hr).mono ?_
  rintro e w' ⟨rfl, hb1, hrow⟩
  refine ⟨_, _, rfl, Lib.hid ⟨_, _, rfl, ?_⟩, Lib.hid (capL (Nat.le_refl _)), hb1⟩
  exact own_of_rowS rfl hrow (Nat.le_refl _) hrow.lt
set_option maxRecDepth 100000 in
theorem eqLS (v v' : Value) (zs : List ByteArray) (w : World) (h : RepL w v (.S zs)) (h' : RepL w v' (.S zs)) (hn : zs.length ≤ maxLen) :
    Calls Try.prog 25 #[v, v'] w fun e w' => e = .returned (.bool true) ∧ Below w.heap.size w w' := by
  obtain ⟨A, c, rfl, hr⟩ := h
  obtain ⟨A', c', rfl, hr'⟩ := h'
  refine (eqStringS A A' zs.length zs.length c c' zs zs w rfl rfl hn hn hr hr').mono ?_
  rintro e w' ⟨rfl, hb⟩
  exact ⟨ret_bool (by simp), hb⟩
set_option maxRecDepth 100000 in
theorem markLS (v : Value) (zs : List ByteArray) (k lo hi : Nat) (w : World) (h : OwnL w lo hi v (.S zs)) (hk : 1 ≤ k) (hn : zs.length ≤ 4294967296) (hk2 : k ≤ 549755813888) :
    Calls Try.prog 27 #[v, .int .i64 (k : Int)] w (MarkedL lo hi v (.S zs) k w) := by
  obtain ⟨A, c, rfl, ho⟩ := h
  rcases Nat.eq_zero_or_pos zs.length with hz | hz
  · have hz' : zs = [] := List.eq_nil_of_length_eq_zero hz
    subst hz'
    refine (markStringS A 0 c k 0 0 [] w rfl hk (by omega) (by omega) (.inl rfl)).mono ?_
    rintro e w' ⟨rfl, S, hb⟩
    exact ⟨rfl, Lib.hid ⟨A, c, rfl, .inl rfl⟩, touch_none hb⟩
  · rcases ho with rfl | ⟨b, m, f, rfl, h1, h2, hm, hr, hf⟩
    · simp at hz
    · refine (markStringS _ zs.length c k b (b + 1) zs w rfl hk (by omega) (by omega) (.inr ⟨b, m, f, rfl, Nat.le_refl _, Nat.lt_succ_self _, hm, hr, hf⟩)).mono ?_
      rintro e w' ⟨rfl, S, hb⟩
      exact ⟨rfl, Lib.hid ⟨_, c, by simp [marksS], S.out.wide h1 h2⟩, touch_blk hz hb⟩
set_option maxRecDepth 100000 in
theorem heldLS (v : Value) (zs : List ByteArray) (k : Nat) (w : World) (h : RepL w v ((Lf.S zs).marks k)) (hk : 1 ≤ k) (hn : zs.length ≤ 4294967296) (hk2 : k ≤ 549755813888) :
    Calls Try.prog 28 #[v, .int .i64 (k : Int)] w fun e w' => e = .returned (.int .i64 ((k + (Lf.S zs).len : Nat) : Int)) ∧ Below w.heap.size w w' := by
  obtain ⟨A, c, rfl, hr⟩ := h
  have hl : (marksS k zs.length).length = zs.length := by simp [marksS]
  rw [hl]
  refine (heldStringS A zs.length c k w hk (by omega) hr).mono ?_
  rintro e w' ⟨rfl, hb⟩
  exact ⟨rfl, hb⟩
end Go.Proofs.Ythobepmlopegbaa

/- Lists of leaves: their sizes, marks and segments. -/
namespace Go.Proofs.Ythobepmlopegbaa
open Go.RowKit

def lenA : List Lf → Nat
  | [] => 0
  | d :: ds => d.len + lenA ds
def szA : List Lf → Nat
  | [] => 0
  | d :: ds => d.sz + szA ds
def marksA : Nat → List Lf → List Lf
  | _, [] => []
  | k, d :: ds => d.marks k :: marksA (k + d.len) ds
def FitA (ds : List Lf) : Prop := ∀ d ∈ ds, d.fit
def BndA (ds : List Lf) : Prop := ∀ d ∈ ds, d.len ≤ 4294967296
def CapA (vs : List Value) : Prop := ∀ v ∈ vs, CapL v
theorem lenA_app (a b : List Lf) : lenA (a ++ b) = lenA a + lenA b := by
  induction a with
  | nil => simp [lenA]
  | cons d ds ih => simp [lenA, ih]; omega
theorem marksA_app (k : Nat) (a b : List Lf) : marksA k (a ++ b) = marksA k a ++ marksA (k + lenA a) b := by
  induction a generalizing k with
  | nil => simp [marksA, lenA]
  | cons d ds ih => simp [marksA, lenA, ih, Nat.add_assoc]
theorem szA_len (ds : List Lf) : lenA ds ≤ szA ds := by
  induction ds with
  | nil => simp [lenA, szA]
  | cons d ds ih => have := d.len_le; simp [lenA, szA]; omega
theorem lenA_mem {ds : List Lf} {d : Lf} (h : d ∈ ds) : d.len ≤ lenA ds := by
  induction ds with
  | nil => cases h
  | cons e ds ih =>
    rcases List.mem_cons.1 h with rfl | h
    · simp [lenA]
    · have := ih h; simp [lenA]; omega
theorem CapA.cons {v : Value} {vs : List Value} (h : CapL v) (k : CapA vs) : CapA (v :: vs) := fun u hu => by
  rcases List.mem_cons.1 hu with rfl | hu
  · exact h
  · exact k u hu
theorem CapA.nil : CapA [] := fun _ h => by cases h
theorem CapA.app {a b : List Value} (h : CapA a) (k : CapA b) : CapA (a ++ b) := fun u hu => by
  rcases List.mem_append.1 hu with hu | hu
  · exact h u hu
  · exact k u hu
theorem CapA.sub {a b : List Value} (h : CapA a) (hs : ∀ v ∈ b, v ∈ a) : CapA b := fun u hu => h u (hs u hu)
theorem FitA.sub {a b : List Lf} (h : FitA a) (hs : ∀ d ∈ b, d ∈ a) : FitA b := fun u hu => h u (hs u hu)
theorem BndA.sub {a b : List Lf} (h : BndA a) (hs : ∀ d ∈ b, d ∈ a) : BndA b := fun u hu => h u (hs u hu)
theorem BndA.of_len {ds : List Lf} (h : lenA ds ≤ 4294967296) : BndA ds := fun _ hd => Nat.le_trans (lenA_mem hd) h

theorem AllA.split {P : Value → Lf → Prop} : ∀ {a b : List Value} {da db : List Lf}, a.length = da.length → AllA P (a ++ b) (da ++ db) → AllA P a da ∧ AllA P b db
  | [], _, [], _, _, h => ⟨trivial, h⟩
  | _ :: _, _, _ :: _, _, hl, h => by
    have := AllA.split (by simpa using hl) h.2
    exact ⟨⟨h.1, this.1⟩, this.2⟩
  | [], _, _ :: _, _, hl, _ => by simp at hl
  | _ :: _, _, [], _, hl, _ => by simp at hl
theorem AllA.join {P : Value → Lf → Prop} : ∀ {a b : List Value} {da db : List Lf}, AllA P a da → AllA P b db → AllA P (a ++ b) (da ++ db)
  | [], _, [], _, _, k => k
  | _ :: _, _, _ :: _, _, h, k => ⟨h.1, AllA.join h.2 k⟩
  | [], _, _ :: _, _, h, _ => h.elim
  | _ :: _, _, [], _, h, _ => h.elim
theorem RepA.seg {w : World} {a m b : List Value} {da dm db : List Lf} (h : RepA w (a ++ (m ++ b)) (da ++ (dm ++ db))) (h1 : a.length = da.length) (h2 : m.length = dm.length) : RepA w m dm :=
  (AllA.split h2 (AllA.split h1 h).2).1
theorem OwnA.seg {w : World} {lo hi : Nat} {a m b : List Value} {da dm db : List Lf} (h : OwnA w lo hi (a ++ (m ++ b)) (da ++ (dm ++ db))) (h1 : a.length = da.length) (h2 : m.length = dm.length) : OwnA w lo hi m dm := by
  refine ⟨(AllA.split h2 (AllA.split h1 h.1).2).1, ?_⟩
  have := h.2
  rw [List.filterMap_append, List.filterMap_append, List.nodup_append] at this
  exact (List.nodup_append.1 this.2.1).1
/-- A segment was written anew, and nothing else. -/
theorem OwnA.reseg {w w' : World} {lo hi : Nat} {a m b : List Value} {da dm dm' db : List Lf} (h : OwnA w lo hi (a ++ (m ++ b)) (da ++ (dm ++ db))) (h1 : a.length = da.length) (h2 : m.length = dm.length) (k : OwnA w' lo hi m dm') (t : Touch m w w') : OwnA w' lo hi (a ++ (m ++ b)) (da ++ (dm' ++ db)) := by
  obtain ⟨ha, hmb⟩ := AllA.split h1 h.1
  obtain ⟨_, hb⟩ := AllA.split h2 hmb
  have hn := h.2
  rw [List.filterMap_append, List.filterMap_append, List.nodup_append] at hn
  obtain ⟨_, n2, n3⟩ := hn
  obtain ⟨_, _, n5⟩ := List.nodup_append.1 n2
  refine ⟨AllA.join (AllA.imp (fun v _ hv h => h.away t (fun x hx hm => ?_)) ha) (AllA.join k.1 (AllA.imp (fun v _ hv h => h.away t (fun x hx hm => ?_)) hb)), h.2⟩
  · exact n3 x (List.mem_filterMap.2 ⟨v, hv, hx⟩) x (List.mem_append.2 (.inl hm)) rfl
  · exact n5 x hm x (List.mem_filterMap.2 ⟨v, hv, hx⟩) rfl
theorem OwnA.one {w : World} {lo hi : Nat} {v : Value} {d : Lf} (h : OwnL w lo hi v d) : OwnA w lo hi [v] [d] := ⟨⟨h, trivial⟩, by
  cases hb : blkL v with
  | none => simp [hb]
  | some b => simp [hb]⟩
theorem OwnA.set {w : World} {lo hi : Nat} {vs : List Value} {ds : List Lf} (h : OwnA w lo hi vs ds) {p : Addr} (hp : p.block < lo) (u : Value) : OwnA (w.setCell p u) lo hi vs ds :=
  h.btw ((Btw.refl p.block (p.block + 1) w).setCell (Nat.le_refl _) (Nat.lt_succ_self _) u) (.inr hp)
theorem Touch.mem {m vs : List Value} {w w' : World} (h : Touch m w w') (hs : ∀ v ∈ m, v ∈ vs) : Touch vs w w' := h.more fun k hk => by
  obtain ⟨v, hv, he⟩ := List.mem_filterMap.1 hk
  exact List.mem_filterMap.2 ⟨v, hs v hv, he⟩
theorem Touch.chain {vs : List Value} {a b c : World} (h : Touch vs a b) (k : Touch vs b c) : Touch vs a c := (h.trans k).more fun x hx => by
  rw [List.filterMap_append, List.mem_append] at hx
  rcases hx with h | h <;> exact h
theorem Box.touch {w w' : World} {b lo hi : Nat} {t : TypeId} {cs : Array Value} {vs : List Value} {ds : List Lf} (X : Box w b t cs) (h : OwnA w lo hi vs ds) (k : Touch vs w w') (hb : b < lo ∨ hi ≤ b) : Box w' b t cs := X.btw (k.btw h) hb
theorem OwnA.len {w : World} {lo hi : Nat} {vs : List Value} {ds : List Lf} (h : OwnA w lo hi vs ds) : vs.length = ds.length := by
  have aux : ∀ {vs : List Value} {ds : List Lf}, AllA (OwnL w lo hi) vs ds → vs.length = ds.length := by
    intro vs
    induction vs with
    | nil => intro ds h; cases ds with
      | nil => rfl
      | cons => exact h.elim
    | cons v vs ih => intro ds h; cases ds with
      | nil => exact h.elim
      | cons d ds => simp [ih h.2]
  exact aux h.1
theorem repI {w : World} {A : Option Addr} {c : Nat} {zs : List Int} (h : RepL w (.slice A zs.length c) (.I zs)) : IntL w A zs := by
  obtain ⟨A', c', e, h⟩ := h
  injection e with e1 e2 e3
  subst e1
  exact h
theorem repB {w : World} {A : Option Addr} {c : Nat} {zs : List Bool} (h : RepL w (.slice A zs.length c) (.B zs)) : BoolL w A zs := by
  obtain ⟨A', c', e, h⟩ := h
  injection e with e1 e2 e3
  subst e1
  exact h
theorem repS {w : World} {A : Option Addr} {c : Nat} {zs : List ByteArray} (h : RepL w (.slice A zs.length c) (.S zs)) : StrL w A zs := by
  obtain ⟨A', c', e, h⟩ := h
  injection e with e1 e2 e3
  subst e1
  exact h
theorem lenS_mem {ss : List ByteArray} {s : ByteArray} (h : s ∈ ss) : s.size ≤ lenS ss := by
  induction ss with
  | nil => cases h
  | cons x ss ih =>
    have e : lenS (x :: ss) = x.size + lenS ss := by simp [lenS]
    rcases List.mem_cons.1 h with rfl | h
    · omega
    · have := ih h; omega
theorem fit_of_sz {ss : List ByteArray} (h : szA [.S ss] ≤ 1048576) : FitS ss := fun s hs => by
  have := lenS_mem hs
  simp only [szA, Lf.sz] at h
  unfold maxLen; omega
theorem OwnI.rowOf {w : World} {lo hi : Nat} {A : Option Addr} {zs : List Int} {c b : Nat} (h : OwnI w lo hi A zs) (hb : blkL (.slice A zs.length c) = some b) : ∃ m f, w.rowIs b 3 m f := by
  rcases h with rfl | ⟨g, m, f, rfl, _, _, _, hr, _⟩
  · rw [List.length_nil, blkL_zero] at hb; cases hb
  · rcases Nat.eq_zero_or_pos zs.length with hz | hz
    · rw [hz, blkL_zero] at hb; cases hb
    · rw [blkL_some hz] at hb; injection hb with hb; subst hb; exact ⟨m, f, hr⟩
theorem OwnB.rowOf {w : World} {lo hi : Nat} {A : Option Addr} {zs : List Bool} {c b : Nat} (h : OwnB w lo hi A zs) (hb : blkL (.slice A zs.length c) = some b) : ∃ m f, w.rowIs b 4 m f := by
  rcases h with rfl | ⟨g, m, f, rfl, _, _, _, hr, _⟩
  · rw [List.length_nil, blkL_zero] at hb; cases hb
  · rcases Nat.eq_zero_or_pos zs.length with hz | hz
    · rw [hz, blkL_zero] at hb; cases hb
    · rw [blkL_some hz] at hb; injection hb with hb; subst hb; exact ⟨m, f, hr⟩
theorem OwnS.rowOf {w : World} {lo hi : Nat} {A : Option Addr} {zs : List ByteArray} {c b : Nat} (h : OwnS w lo hi A zs) (hb : blkL (.slice A zs.length c) = some b) : ∃ m f, w.rowIs b 9 m f := by
  rcases h with rfl | ⟨g, m, f, rfl, _, _, _, hr, _⟩
  · rw [List.length_nil, blkL_zero] at hb; cases hb
  · rcases Nat.eq_zero_or_pos zs.length with hz | hz
    · rw [hz, blkL_zero] at hb; cases hb
    · rw [blkL_some hz] at hb; injection hb with hb; subst hb; exact ⟨m, f, hr⟩
/-- A []int and a []bool of the call's own are of two blocks. -/
theorem ownIB {w : World} {lo hi : Nat} {A C : Option Addr} {c d : Nat} {zs : List Int} {gs : List Bool} (h : OwnI w lo hi A zs) (g : OwnB w lo hi C gs) : OwnA w lo hi [.slice A zs.length c, .slice C gs.length d] [.I zs, .B gs] :=
  OwnA.cons ⟨A, c, rfl, h⟩ (OwnA.one ⟨C, d, rfl, g⟩) (fun b hb hm => by
    obtain ⟨m, f, hr⟩ := h.rowOf hb
    obtain ⟨v, hv, he⟩ := List.mem_filterMap.1 hm
    rw [List.mem_singleton] at hv
    subst hv
    obtain ⟨m', f', hr'⟩ := g.rowOf he
    exact row_ne hr hr' (by decide) rfl)
end Go.Proofs.Ythobepmlopegbaa

/- The bits of bytes: 'and' as the language has it, and as a natural number. -/
namespace Go.Proofs.Ythobepmlopegbaa
open Go.RowKit

theorem wrap8 (n : Int) (h0 : 0 ≤ n) (h1 : n < 2 ^ 8) : IntKind.u8.wrap n = n := by
  have e : n % 2 ^ 8 = n := Int.emod_eq_of_lt h0 h1
  simp only [IntKind.wrap, IntKind.bits, IntKind.signed, e]
  simp
theorem wrap64 (n : Int) (h0 : 0 ≤ n) (h1 : n < 2 ^ 8) : IntKind.i64.wrap n = n := by
  have e : n % 2 ^ 64 = n := Int.emod_eq_of_lt h0 (by omega)
  simp only [IntKind.wrap, IntKind.bits, IntKind.signed, e]
  rw [if_neg]
  simp
  omega
theorem and_u8 (a b : Nat) (ha : a < 256) (hb : b < 256) : bits .and .u8 (a : Int) (b : Int) = ((a &&& b : Nat) : Int) := (bits_nat .u8 8 (by decide) wrap8 a b ha hb).1
theorem and_i64 (a b : Nat) (ha : a < 256) (hb : b < 256) : bits .and .i64 (a : Int) (b : Int) = ((a &&& b : Nat) : Int) := (bits_nat .i64 8 (by decide) wrap64 a b ha hb).1
theorem and_3 (a : Nat) (ha : a < 256) : bits .and .i64 (a : Int) 3 = ((a % 4 : Nat) : Int) := by
  have := and_i64 a 3 ha (by omega)
  rw [show a &&& 3 = a % 4 from Nat.and_two_pow_sub_one_eq_mod a 2] at this
  exact this
theorem and_lt (a b : Nat) (ha : a < 256) : a &&& b < 256 := Nat.lt_of_le_of_lt Nat.and_le_left ha
end Go.Proofs.Ythobepmlopegbaa

/- The model's own copy of a flash, and what it does to one: l03Own, l03Program, l03Erase, l03Guard. -/
namespace Go.Proofs.Ythobepmlopegbaa
open Go.RowKit

theorem ext_getD {α : Type} (d : α) {l m : List α} (hl : l.length = m.length) (h : ∀ i, i < l.length → l.getD i d = m.getD i d) : l = m := by
  apply List.ext_getElem hl
  intro i h1 h2
  have := h i h1
  rw [List.getD_eq_getElem?_getD, List.getD_eq_getElem?_getD, List.getElem?_eq_getElem h1, List.getElem?_eq_getElem h2] at this
  exact this
/-- The cells from a on and below b are 255. -/
def fillR (zs : List Int) (a b : Nat) : List Int := (List.range zs.length).map fun i => if a ≤ i ∧ i < b then 255 else zs.getD i 0
theorem fillR_len (zs : List Int) (a b : Nat) : (fillR zs a b).length = zs.length := by simp [fillR]
theorem fillR_at (zs : List Int) (a b i : Nat) (h : i < zs.length) : (fillR zs a b).getD i 0 = if a ≤ i ∧ i < b then 255 else zs.getD i 0 := by
  unfold fillR
  rw [List.getD_eq_getElem?_getD, List.getElem?_map, List.getElem?_range h]
  rfl
theorem fillR_none (zs : List Int) (a : Nat) : fillR zs a a = zs := by
  apply ext_getD 0 (fillR_len _ _ _)
  intro i hi
  rw [fillR_len] at hi
  rw [fillR_at _ _ _ _ hi, if_neg (by omega)]
theorem fillR_next (zs : List Int) (a b : Nat) (hab : a ≤ b) (hb : b < zs.length) : (fillR zs a b).set b 255 = fillR zs a (b + 1) := by
  apply ext_getD 0 (by simp [fillR_len])
  intro i hi
  have hi' : i < zs.length := by simpa [fillR_len] using hi
  rw [fillR_at _ _ _ _ hi']
  by_cases e : i = b
  · subst e
    rw [List.getD_eq_getElem?_getD, List.getElem?_set_self (by rw [fillR_len]; exact hb), if_pos ⟨hab, by omega⟩]
    rfl
  · rw [List.getD_eq_getElem?_getD, List.getElem?_set_ne (fun q => e q.symm), ← List.getD_eq_getElem?_getD, fillR_at _ _ _ _ hi']
    by_cases q : a ≤ i ∧ i < b
    · rw [if_pos q, if_pos (by omega)]
    · rw [if_neg q, if_neg (by omega)]
def progL (zs : List Int) (gs : List Bool) (k v : Nat) : List Int := if gs.getD (k / 16) false then zs else zs.set k (((zs.getD k 0).toNat &&& v : Nat) : Int)
def eraseL (zs : List Int) (gs : List Bool) (b : Nat) : List Int := if gs.getD b false then zs else fillR zs (b * 16) (b * 16 + 16)
theorem progL_len (zs : List Int) (gs : List Bool) (k v : Nat) : (progL zs gs k v).length = zs.length := by unfold progL; split <;> simp
theorem eraseL_len (zs : List Int) (gs : List Bool) (b : Nat) : (eraseL zs gs b).length = zs.length := by unfold eraseL; split <;> simp [fillR_len]

set_option maxRecDepth 100000 in
set_option maxHeartbeats 4000000 in
theorem l03OwnC (A C : Option Addr) (n c m d : Nat) (st : Int) (zs : List Int) (gs : List Bool) (w : World) (hl : zs.length = n) (hm : gs.length = m) (hn : n = 256) (hmm : m = 16) (h : IntL w A zs) (g : BoolL w C gs) :
    Calls Try.prog 71 #[.agg #[.slice A n c, .slice C m d, .int .i64 st]] w (GivesFlashC zs gs st w) := by
  obtain ⟨W0, hW0⟩ : ∃ W0, W0 = ((w.alloc (.cells #[.slice A n c, .slice C m d, .int .i64 st] 26)).alloc (.cells #[.slice none 0 0, .slice none 0 0, .int .i64 0] 26)) := ⟨_, rfl⟩
  have hb0 : Below w.heap.size w W0 := by rw [hW0]; exact bt (alloc_below _ _) (alloc_below _ _)
  have X0 : Box W0 w.heap.size 26 #[.slice A n c, .slice C m d, .int .i64 st] := by rw [hW0]; exact (Box.new _ _ _).alloc _
  have Y0 : Box W0 (w.heap.size + 1) 26 #[.slice none 0 0, .slice none 0 0, .int .i64 0] := by rw [hW0]; simpa using Box.new (w.alloc (.cells #[.slice A n c, .slice C m d, .int .i64 st] 26)) 26 #[.slice none 0 0, .slice none 0 0, .int .i64 0]
  have HL := Lib.hid (And.intro hl hm)
  have HSi := Lib.hid (fun W (hb : Below w.heap.size w W) => (h.below hb).src (by omega))
  have HSb := Lib.hid (fun W (hb : Below w.heap.size w W) => (g.below hb).src (by omega))
  have HCi : Hid ((cellsI zs).length = n * 1) := Lib.hid (by rw [cellsI_len]; omega)
  have HCb : Hid ((cellsB gs).length = m * 1) := Lib.hid (by rw [cellsB_len]; omega)
  have hn1 : 0 < n := by omega
  have hm1 : 0 < m := by omega
  have hn2 : n ≤ 256 := by omega
  have hm2 : m ≤ 16 := by omega
  have HW0 := Lib.hid hW0
  have f0 := X0.cell 0 rfl
  have HX := Lib.hid (And.intro X0 Y0)
  have hba := bt hb0 (alloc_below W0 (.cells #[] 3))
  clear hl hm h g hW0 X0 Y0 hn hmm
  go_enter Try.func71, Try.ntmps71
  go_wp2_with (first | (rw [← HW0.out]; with_reducible refine wpList_app_fresh rfl (.tmp 3) (.tmp 5) 23 rfl 3 (.int .i64 0) 1 8 Try.underlying23 infoIx rfl (by decide) _ rfl A n c hn1 (cellsI zs) rfl HCi.out (HSi.out _ hba) (by unfold maxLen; omega) (by omega) ?_))
  intro A1 c1 w1 hb1 O1
  have hk1 := (alloc_below W0 (.cells #[] 3)).trans (hb1.mono (by omega))
  have X1 := HX.out.1.step hk1
  have Y1 := HX.out.2.step hk1
  have KC : Hid (n ≤ c1) := Lib.hid (by obtain ⟨A', cap, hv, hle⟩ := rowv_form O1.out; injection hv with _ _ e3; omega)
  have S1 := Lib.hid (ownI_fresh (lo := w.heap.size) O1.out hn1 (by have := hb0.size; omega))
  have g0 := X1.cell 0 rfl
  have g0z := X1.frozen 0
  have g1 : ((w1.setCell ⟨w.heap.size, 0, none⟩ (.slice A1 n c1)).alloc (.cells #[] 4)).cell? ⟨w.heap.size, 1, none⟩ = some (.slice C m d) := ((X1.set 0 _).alloc _).cell 1 rfl
  have hb2 : Below w.heap.size w (w1.setCell ⟨w.heap.size, 0, none⟩ (.slice A1 n c1)) := (bt hb0 hk1).setCell (Nat.le_refl _) _
  have S2 := Lib.hid (S1.out.farB X1 (by decide) 0 (.slice A1 n c1))
  have HE : Hid (w1.heap.size = (w1.setCell ⟨w.heap.size, 0, none⟩ (.slice A1 n c1)).heap.size) := Lib.hid (by simp [World.setCell])
  rw [HE.out] at S2
  have HX2 := Lib.hid (And.intro (X1.set 0 (.slice A1 n c1)) (Y1.far (p := ⟨w.heap.size, 0, none⟩) (by show w.heap.size + 1 ≠ w.heap.size; omega) (.slice A1 n c1)))
  clear f0 HX hb0 hb1 O1 hk1 X1 Y1 S1 HE hba HSi HCi
  obtain ⟨w2, hw2⟩ : ∃ w2, w2 = w1.setCell ⟨w.heap.size, 0, none⟩ (.slice A1 n c1) := ⟨_, rfl⟩
  rw [← hw2] at hb2 S2 HX2
  have HW2 := Lib.hid hw2
  clear hw2
  have hbb := bt hb2 (alloc_below w2 (.cells #[] 4))
  go_wp2_with (first | (rw [← HW2.out]; with_reducible refine wpList_app_fresh rfl (.tmp 8) (.tmp 10) 24 rfl 4 (.bool false) 1 1 Try.underlying24 infoBx rfl (by decide) _ rfl C m d hm1 (cellsB gs) rfl HCb.out (HSb.out _ hbb) (by unfold maxLen; omega) (by omega) ?_))
  intro A3 c3 w3 hb3 O3
  have hk3 := (alloc_below w2 (.cells #[] 4)).trans (hb3.mono (by omega))
  have V1 := HX2.out.1.step hk3
  have V2 := HX2.out.2.step hk3
  have S3 := Lib.hid (ownB_fresh (lo := w.heap.size) O3.out hm1 (by have := hb2.size; omega))
  have S4 := Lib.hid ((S2.out.below hk3).wideB (Nat.le_refl _) hk3.size)
  have k0 : w3.cell? ⟨w.heap.size, 0, none⟩ = some (.slice A1 n c1) := V1.cell 0 rfl
  have k1 : w3.cell? ⟨w.heap.size, 1, none⟩ = some (.slice C m d) := V1.cell 1 rfl
  have k2 : w3.cell? ⟨w.heap.size, 2, none⟩ = some (.int .i64 st) := V1.cell 2 rfl
  have k1z := V1.frozen 1
  have e0 : w3.cell? ⟨w.heap.size + 1, 0, none⟩ = some (.slice none 0 0) := V2.cell 0 rfl
  have e1 : w3.cell? ⟨w.heap.size + 1, 1, none⟩ = some (.slice none 0 0) := V2.cell 1 rfl
  have e2 : w3.cell? ⟨w.heap.size + 1, 2, none⟩ = some (.int .i64 0) := V2.cell 2 rfl
  have e0z := V2.frozen 0
  have e1z := V2.frozen 1
  have e2z := V2.frozen 2
  have hb4 := bt hb2 hk3
  have HV := Lib.hid (And.intro V1 V2)
  clear g0 g0z g1 HX2 hb2 hb3 hk3 O3 V1 V2 S2 hbb HSb HCb HW2
  go_wp2
  refine bodyPost_ret (v := .agg #[.slice A1 n c1, .slice A3 m c3, .int .i64 st]) (by simp [results, Try.results71, go_sem, e0, e1, e2]) rfl ?_
  have v1 := HV.out.1
  have v2 := HV.out.2.far (p := ⟨w.heap.size, 1, none⟩) (by show w.heap.size + 1 ≠ w.heap.size; omega) (.slice A3 m c3)
  refine ⟨_, _, _, _, _, _, rfl, Lib.hid HL.out.1, Lib.hid HL.out.2, Lib.hid ?_, Lib.hid ?_, KC, ?_⟩
  · have q := S4.out.farB v1 (by decide) 1 (.slice A3 m c3)
    exact (((q.farB v2 (by decide) 0 _).farB (v2.set 0 _) (by decide) 1 _).farB ((v2.set 0 _).set 1 _) (by decide) 2 _).wideB (Nat.le_refl _) (by simp [World.setCell])
  · have q := S3.out.far v1 (by decide) 1 (.slice A3 m c3)
    exact (((q.far v2 (by decide) 0 _).far (v2.set 0 _) (by decide) 1 _).far ((v2.set 0 _).set 1 _) (by decide) 2 _).wide (Nat.le_refl _) (by simp [World.setCell])
  · exact (((hb4.setCell (Nat.le_refl _) _).setCell (by show w.heap.size ≤ w.heap.size + 1; omega) _).setCell (by show w.heap.size ≤ w.heap.size + 1; omega) _).setCell (by show w.heap.size ≤ w.heap.size + 1; omega) _

set_option maxRecDepth 100000 in
theorem l03Own (A C : Option Addr) (n c m d : Nat) (st : Int) (zs : List Int) (gs : List Bool) (w : World) (hl : zs.length = n) (hm : gs.length = m) (hn : n = 256) (hmm : m = 16) (h : IntL w A zs) (g : BoolL w C gs) :
    Calls Try.prog 71 #[.agg #[.slice A n c, .slice C m d, .int .i64 st]] w (GivesFlash zs gs st w) :=
  (l03OwnC A C n c m d st zs gs w hl hm hn hmm h g).mono fun _ _ h => h.plain

theorem at256 {zs : List Int} (h : ∀ z ∈ zs, 0 ≤ z ∧ z ≤ 255) (k : Nat) (hk : k < zs.length) : ∃ z : Nat, zs.getD k 0 = z ∧ z < 256 := by
  have := h (zs.getD k 0) (by rw [List.getD_eq_getElem?_getD, List.getElem?_eq_getElem hk]; exact List.getElem_mem _)
  exact ⟨(zs.getD k 0).toNat, by omega, by omega⟩

/-- A box that holds a flash, after the three stores of another. -/
theorem Box.flash3 {w : World} {b : Nat} {cs : Array Value} (X : Box w b 26 cs) (hs : cs.size = 3) (u0 u1 u2 : Value) :
    Box (((w.setCell ⟨b, 0, none⟩ u0).setCell ⟨b, 1, none⟩ u1).setCell ⟨b, 2, none⟩ u2) b 26 #[u0, u1, u2] := by
  have := ((X.set 0 u0).set 1 u1).set 2 u2
  rw [show ((cs.setIfInBounds 0 u0).setIfInBounds 1 u1).setIfInBounds 2 u2 = #[u0, u1, u2] from by
    match cs, hs with
    | ⟨[a, b, c]⟩, _ => rfl] at this
  exact this
theorem Box.far3 {w : World} {b b' : Nat} {t : TypeId} {cs : Array Value} (X : Box w b t cs) (hb : b ≠ b') (u0 u1 u2 : Value) :
    Box (((w.setCell ⟨b', 0, none⟩ u0).setCell ⟨b', 1, none⟩ u1).setCell ⟨b', 2, none⟩ u2) b t cs := ((X.far (p := ⟨b', 0, none⟩) hb u0).far (p := ⟨b', 1, none⟩) hb u1).far (p := ⟨b', 2, none⟩) hb u2
theorem OwnI.far3 {w : World} {lo hi : Nat} {A : Option Addr} {zs : List Int} (h : OwnI w lo hi A zs) {b : Nat} {cs : Array Value} (X : Box w b 26 cs) (u0 u1 u2 : Value) : OwnI (((w.setCell ⟨b, 0, none⟩ u0).setCell ⟨b, 1, none⟩ u1).setCell ⟨b, 2, none⟩ u2) lo hi A zs :=
  ((h.farB X (by decide) 0 u0).farB (X.set 0 u0) (by decide) 1 u1).farB ((X.set 0 u0).set 1 u1) (by decide) 2 u2
theorem OwnB.far3 {w : World} {lo hi : Nat} {A : Option Addr} {gs : List Bool} (h : OwnB w lo hi A gs) {b : Nat} {cs : Array Value} (X : Box w b 26 cs) (u0 u1 u2 : Value) : OwnB (((w.setCell ⟨b, 0, none⟩ u0).setCell ⟨b, 1, none⟩ u1).setCell ⟨b, 2, none⟩ u2) lo hi A gs :=
  ((h.far X (by decide) 0 u0).far (X.set 0 u0) (by decide) 1 u1).far ((X.set 0 u0).set 1 u1) (by decide) 2 u2
theorem below3 {w0 w : World} {b : Nat} (h : Below w0.heap.size w0 w) (hb : w0.heap.size ≤ b) (u0 u1 u2 : Value) : Below w0.heap.size w0 (((w.setCell ⟨b, 0, none⟩ u0).setCell ⟨b, 1, none⟩ u1).setCell ⟨b, 2, none⟩ u2) :=
  ((h.setCell (p := ⟨b, 0, none⟩) hb u0).setCell (p := ⟨b, 1, none⟩) hb u1).setCell (p := ⟨b, 2, none⟩) hb u2
theorem size3 (w : World) (b : Nat) (u0 u1 u2 : Value) : (((w.setCell ⟨b, 0, none⟩ u0).setCell ⟨b, 1, none⟩ u1).setCell ⟨b, 2, none⟩ u2).heap.size = w.heap.size := by simp [World.setCell]

set_option maxRecDepth 100000 in
set_option maxHeartbeats 4000000 in
theorem l03Program (A C : Option Addr) (n c m d k v : Nat) (st : Int) (zs : List Int) (gs : List Bool) (w : World) (hl : zs.length = n) (hm : gs.length = m) (hn : n = 256) (hmm : m = 16) (hk : k < 256) (hv : v < 256) (hz : ∀ z ∈ zs, 0 ≤ z ∧ z ≤ 255) (h : IntL w A zs) (g : BoolL w C gs) :
    Calls Try.prog 82 #[.agg #[.slice A n c, .slice C m d, .int .i64 st], .int .i64 k, .int .i64 v] w (GivesFlash (progL zs gs k v) gs st w) := by
  obtain ⟨W0, hW0⟩ : ∃ W0, W0 = ((w.alloc (.cells #[.slice A n c, .slice C m d, .int .i64 st] 26)).alloc (.cells #[.slice none 0 0, .slice none 0 0, .int .i64 0] 26)) := ⟨_, rfl⟩
  have hb0 : Below w.heap.size w W0 := by rw [hW0]; exact bt (alloc_below _ _) (alloc_below _ _)
  have X0 : Box W0 w.heap.size 26 #[.slice A n c, .slice C m d, .int .i64 st] := by rw [hW0]; exact (Box.new _ _ _).alloc _
  have Y0 : Box W0 (w.heap.size + 1) 26 #[.slice none 0 0, .slice none 0 0, .int .i64 0] := by rw [hW0]; simpa using Box.new (w.alloc (.cells #[.slice A n c, .slice C m d, .int .i64 st] 26)) 26 #[.slice none 0 0, .slice none 0 0, .int .i64 0]
  have HO := Lib.hid (l03Own A C n c m d st zs gs W0 hl hm hn hmm (h.below hb0) (g.below hb0))
  have HLen : Hid ((progL zs gs k v).length = n ∧ zs.length = 256 ∧ gs.length = 16) := Lib.hid ⟨by rw [progL_len]; exact hl, by omega, by omega⟩
  obtain ⟨z, hzk, hz2⟩ := at256 hz k (by omega)
  obtain ⟨x, hx⟩ : ∃ x, bits .and .i64 (z : Int) (v : Int) = x := ⟨_, rfl⟩
  have HP : Hid (∀ q, gs.getD (k / 16) false = q → progL zs gs k v = if q then zs else zs.set k x) := Lib.hid (by
    intro q hq
    unfold progL
    rw [hq, hzk, ← hx, and_i64 z v hz2 hv]
    rfl)
  have HZ := Lib.hid hzk
  have HX := Lib.hid (And.intro X0 Y0)
  have HW0 := Lib.hid hW0
  generalize progL zs gs k v = r at HP HLen
  have HN := Lib.hid (And.intro hn hmm)
  clear hl hm h g hW0 X0 Y0 hz hzk hn hmm
  have hkd : ((k / 16 : Nat) : Int) < 16 := by omega
  have hki : (k : Int) < 256 := by omega
  go_enter Try.func82, Try.ntmps82
  go_wp2_with fail
  rw [← HW0.out]
  refine HO.out.mono ?_
  rintro e w1 ⟨A1, n1, c1, C1, m1, d1, rfl, L1, M1, S1, R1, hb1⟩
  obtain rfl : n1 = 256 := by have := L1.out; have := HLen.out; omega
  obtain rfl : m1 = 16 := by have := M1.out; have := HLen.out; omega
  have X1 := HX.out.1.step hb1
  have Y1 := HX.out.2.step hb1
  have a0 := X1.cell 0 rfl
  have a1 := X1.cell 1 rfl
  have a2 := X1.cell 2 rfl
  have a0z := X1.frozen 0
  have a1z := X1.frozen 1
  have a2z := X1.frozen 2
  obtain ⟨w2, hw2⟩ : ∃ w2, w2 = ((w1.setCell ⟨w.heap.size, 0, none⟩ (.slice A1 256 c1)).setCell ⟨w.heap.size, 1, none⟩ (.slice C1 16 d1)).setCell ⟨w.heap.size, 2, none⟩ (.int .i64 st) := ⟨_, rfl⟩
  have X2 : Box w2 w.heap.size 26 #[.slice A1 256 c1, .slice C1 16 d1, .int .i64 st] := by rw [hw2]; exact X1.flash3 rfl _ _ _
  have Y2 : Box w2 (w.heap.size + 1) 26 #[.slice none 0 0, .slice none 0 0, .int .i64 0] := by rw [hw2]; exact Y1.far3 (by omega) _ _ _
  have S2 : Hid (OwnI w2 w.heap.size w2.heap.size A1 zs) := Lib.hid (by rw [hw2]; exact (S1.out.far3 X1 _ _ _).wideB hb0.size (by rw [size3]; exact Nat.le_refl _))
  have R2 : Hid (OwnB w2 w.heap.size w2.heap.size C1 gs) := Lib.hid (by rw [hw2]; exact (R1.out.far3 X1 _ _ _).wide hb0.size (by rw [size3]; exact Nat.le_refl _))
  have hb2 : Below w.heap.size w w2 := by rw [hw2]; exact below3 (bt hb0 hb1) (Nat.le_refl _) _ _ _
  obtain ⟨bg, mg, fg, rfl, hcg, -, -, -, -, -⟩ := R2.out.put (k / 16) (by have := HLen.out; omega)
  obtain ⟨ba, ma, fa, rfl, hca, hfa, hlo, hhi, hra, hput⟩ := S2.out.put k (by have := HLen.out; omega)
  rw [HZ.out] at hca
  have HP2 := Lib.hid (HP.out _ rfl)
  generalize gs.getD (k / 16) false = q at hcg HP2
  have HPut := Lib.hid (And.intro hlo hput)
  have x0 := X2.cell 0 rfl
  have x1 := X2.cell 1 rfl
  have x2 := X2.cell 2 rfl
  have y0 := Y2.cell 0 rfl
  have y1 := Y2.cell 1 rfl
  have y2 := Y2.cell 2 rfl
  have y0z := Y2.frozen 0
  have y1z := Y2.frozen 1
  have y2z := Y2.frozen 2
  have X3 := X2.other hra (by decide) k (.int .i64 x)
  have Y3 := Y2.other hra (by decide) k (.int .i64 x)
  have R3 := Lib.hid (R2.out.other hra (by decide) k (.int .i64 x))
  have u0 := X3.cell 0 rfl
  have u1 := X3.cell 1 rfl
  have u2 := X3.cell 2 rfl
  have t0 := Y3.cell 0 rfl
  have t1 := Y3.cell 1 rfl
  have t2 := Y3.cell 2 rfl
  have t0z := Y3.frozen 0
  have t1z := Y3.frozen 1
  have t2z := Y3.frozen 2
  have HYs := Lib.hid (And.intro Y2 Y3)
  have HB2 := Lib.hid (And.intro hb2 hw2)
  rw [hw2] at hcg hca hfa x0 x1 x2 y0 y1 y2 y0z y1z y2z u0 u1 u2 t0 t1 t2 t0z t1z t2z
  clear X1 Y1 S1 R1 hb0 hb1 hw2 X2 Y2 hb2 hlo hhi hra hput X3 Y3 HP HO HX HW0 fg fa
  cases q
  · have HE : Hid (r = zs.set k x) := Lib.hid (by rw [HP2.out]; rfl)
    go_wp2
    refine bodyPost_ret (v := .agg #[.slice (some ⟨ba, 0, none⟩) 256 c1, .slice (some ⟨bg, 0, none⟩) 16 d1, .int .i64 st]) (by simp [results, Try.results82, go_sem, t0, t1, t2]) rfl ?_
    rw [← HB2.out.2, HE.out]
    refine ⟨_, _, _, _, _, _, rfl, Lib.hid (by rw [← HE.out, HLen.out.1]; exact HN.out.1), Lib.hid HLen.out.2.2, Lib.hid ?_, Lib.hid ?_, ?_⟩
    · exact ((HPut.out.2 x).far3 HYs.out.2 _ _ _).wideB (Nat.le_refl _) (by rw [size3]; simp [World.setCell])
    · exact (R3.out.far3 HYs.out.2 _ _ _).wide (Nat.le_refl _) (by rw [size3]; simp [World.setCell])
    · exact below3 (HB2.out.1.setCell (p := ⟨ba, k, none⟩) HPut.out.1 _) (by omega) _ _ _
  · have HE : Hid (r = zs) := Lib.hid (by rw [HP2.out]; rfl)
    go_wp2
    refine bodyPost_ret (v := .agg #[.slice (some ⟨ba, 0, none⟩) 256 c1, .slice (some ⟨bg, 0, none⟩) 16 d1, .int .i64 st]) (by simp [results, Try.results82, go_sem, y0, y1, y2]) rfl ?_
    rw [← HB2.out.2, HE.out]
    refine ⟨_, _, _, _, _, _, rfl, Lib.hid HLen.out.2.1, Lib.hid HLen.out.2.2, Lib.hid ?_, Lib.hid ?_, ?_⟩
    · exact (S2.out.far3 HYs.out.1 _ _ _).wideB (Nat.le_refl _) (by rw [size3]; exact Nat.le_refl _)
    · exact (R2.out.far3 HYs.out.1 _ _ _).wide (Nat.le_refl _) (by rw [size3]; exact Nat.le_refl _)
    · exact below3 HB2.out.1 (by omega) _ _ _
end Go.Proofs.Ythobepmlopegbaa

/- Contracts of readCells, readGuard and impl.FlashOf. -/
namespace Go.Proofs.Ythobepmlopegbaa
open Go.RowKit

/-- The bytes of these pages. -/
def cellsP : List ByteArray → Option (List Int)
  | [] => some []
  | p :: ps => match page2 hexL p with
    | none => none
    | some a => (cellsP ps).map (a ++ ·)
theorem cellsP_len : ∀ {ps : List ByteArray} {r : List Int}, cellsP ps = some r → r.length = 16 * ps.length
  | [], r, h => by simp [cellsP] at h; subst h; rfl
  | p :: ps, r, h => by
    unfold cellsP at h
    split at h
    · cases h
    · rename_i a ha
      cases hp : cellsP ps with
      | none => rw [hp] at h; cases h
      | some r' =>
        rw [hp] at h; simp at h; subst h
        have h1 := cellsP_len hp
        unfold page2 at ha
        split at ha
        · have := pageNums_len ha; simp; omega
        · cases ha
theorem optmap_app2 (o : Option (List Int)) (a b : List Int) : (o.map (b ++ ·)).map (a ++ ·) = o.map ((a ++ b) ++ ·) := by cases o <;> simp
theorem OwnI.cells {w : World} {lo hi : Nat} {A : Option Addr} {zs : List Int} (h : OwnI w lo hi A zs) (hn : 0 < zs.length) : ∃ b, A = some ⟨b, 0, none⟩ ∧ ∀ j u, (zs.map (Value.int .i64))[j]? = some u → w.cell? ((⟨b, 0, none⟩ : Addr).add j) = some u := by
  rcases h with rfl | ⟨b, m, f, rfl, _, _, hm, hr, hf⟩
  · simp at hn
  · refine ⟨b, rfl, fun j u hj => ?_⟩
    have hj' : j < zs.length := by
      have := (List.getElem?_eq_some_iff.1 hj).1
      simpa using this
    rw [addr_add, Nat.zero_add, hr.cell (by omega), hf j hj']
    rw [List.getElem?_map, List.getElem?_eq_getElem hj'] at hj
    simp only [Option.map_some, Option.some.injEq] at hj
    rw [← hj, List.getD_eq_getElem?_getD, List.getElem?_eq_getElem hj', Option.getD_some]

set_option maxRecDepth 100000 in
set_option maxHeartbeats 4000000 in
theorem readCells (A : Option Addr) (c : Nat) (ss : List ByteArray) (w : World) (hl : ss.length = 16) (h : StrL w A ss) (fs : FitS ss) :
    Calls Try.prog 43 #[.slice A 16 c] w fun e w' =>
      ((cellsP ss = none ∧ e = .returned (.tuple #[.slice none 0 0, .bool false])) ∨ (∃ r A c, cellsP ss = some r ∧ e = .returned (.tuple #[.slice A 256 c, .bool true]) ∧ Hid (OwnI w' w.heap.size w'.heap.size A r) ∧ r.length = 256)) ∧ Below w.heap.size w w' := by
  have HL := Lib.hid hl
  have H := Lib.hid h
  have HFt := Lib.hid fs
  have HP : Hid (cellsP ss = cellsP ss) := Lib.hid rfl
  generalize hres : cellsP ss = res at HP ⊢
  have HR0 := Lib.hid hres
  clear hl h fs hres HP
  go_enter Try.func43, Try.ntmps43
  go_wp2
  go_loopw [4, 11] (fun v i wr => ∃ (k : Nat) (A' : Option Addr) (c' : Nat) (acc : List Int), k ≤ 16 ∧ v = .slice A' (16 * k) c' ∧ i = .int .i64 k ∧ acc.length = 16 * k ∧ Below w.heap.size w wr ∧ Hid (wr.ownsRow w.heap.size 3 1 (.slice A' (16 * k) c') (16 * k) (acc.map (Value.int .i64))) ∧ Hid (res = (cellsP (ss.drop k)).map (acc ++ ·))) (fun _ i _ => 16 - (intOf i).toNat)
  case atStart => exact ⟨0, none, 0, [], by omega, rfl, rfl, rfl, Below.refl _ _, Lib.hid (rowv_nil _ _ _ _), Lib.hid (by rw [← HR0.out]; simp)⟩
  case round =>
    obtain ⟨k, A', c', acc, hk, rfl, rfl, hacc, hbw, G, HT⟩ := hrel
    by_cases hlt : k < 16
    · have hi : (k : Int) < 16 := by omega
      obtain ⟨b, off, rfl, hc⟩ := (H.out.below hbw) k (by rw [HL.out]; exact hlt)
      have hm : ss.getD k ByteArray.empty ∈ ss := by
        rw [List.getD_eq_getElem?_getD, List.getElem?_eq_getElem (by rw [HL.out]; exact hlt), Option.getD_some]; exact List.getElem_mem _
      have HN : Hid (cellsP (ss.drop k) = match page2 hexL (ss.getD k ByteArray.empty) with | none => none | some a => (cellsP (ss.drop (k + 1))).map (a ++ ·)) := Lib.hid (by
        have hk' : k < ss.length := by rw [HL.out]; exact hlt
        rw [List.drop_eq_getElem_cons hk', cellsP, List.getD_eq_getElem?_getD, List.getElem?_eq_getElem hk', Option.getD_some])
      have HC := Lib.hid (readPage2 (ss.getD k ByteArray.empty) hexB wr hexL_low (by decide) (HFt.out _ hm))
      rw [hexB_list] at HC
      generalize ss.getD k ByteArray.empty = s at hc HN HC
      have HX : Hid (hexB = ⟨#[48, 49, 50, 51, 52, 53, 54, 55, 56, 57, 97, 98, 99, 100, 101, 102]⟩) := Lib.hid rfl
      rw [HX.out] at HC
      clear hm HX
      go_wp2_with fail
      refine HC.out.mono ?_
      rintro e w2 ⟨hres, hb2⟩
      have hbz := bt hbw hb2
      rcases hres with ⟨hp, rfl⟩ | ⟨a, A2, c2, hp, rfl, O2, hal⟩
      · have HF : Hid (res = none) := Lib.hid (by rw [HT.out, HN.out, hp]; rfl)
        clear hp
        go_wp2
        refine bodyPost_ret (v := .tuple #[.slice none 0 0, .bool false]) (by simp [results, Try.results43, go_sem]) rfl ?_
        exact ⟨.inl ⟨HF.out, rfl⟩, hbz⟩
      · obtain ⟨ab, rfl, hcs⟩ := O2.out.cells (by omega)
        have HT2 : Hid (res = (cellsP (ss.drop (k + 1))).map ((acc ++ a) ++ ·)) := Lib.hid (by rw [HT.out, HN.out, hp]; simp only; rw [optmap_app2])
        have G2 := Lib.hid (rowv_below G.out hb2)
        have HCs := Lib.hid hcs
        have HAl := Lib.hid hal
        have HAcc := Lib.hid hacc
        have hszw : w.heap.size ≤ w2.heap.size := hbz.size
        clear hp hcs G hc hb2 hal hacc
        go_wp2_with (at_builtin; refine wpList_app_many rfl (.tmp 22) (.tmp 23) 23 3 rfl (.int .i64 0) 1 8 elemInt Try.underlying23 w.heap.size (.slice A' (16 * k) c') (16 * k) (acc.map (Value.int .i64)) rfl ?hown ⟨ab, 0, none⟩ 16 c2 rfl (a.map (Value.int .i64)) ?hlen ?hnews ?hone ?h63 ?hby ?hbase ?_)
        case hown => exact G2.out
        case hlen => rw [List.length_map, HAl.out]
        case hnews => exact HCs.out
        case hone => intro u hu; rw [List.mem_map] at hu; obtain ⟨z, _, rfl⟩ := hu; rfl
        case h63 => unfold maxLen; omega
        case hby => omega
        case hbase => exact hszw
        intro A3 c3 w3 hR3 hc3 hg3 hb3
        have hbq : Below w.heap.size w w3 := hbz.trans hb3
        have HR3 : Hid (w3.ownsRow w.heap.size 3 1 (.slice A3 (16 * (k + 1)) c3) (16 * (k + 1)) ((acc ++ a).map (Value.int .i64))) := Lib.hid (by rw [List.map_append, show 16 * (k + 1) = 16 * k + 16 by omega]; exact hR3)
        have HLn : Hid ((acc ++ a).length = 16 * (k + 1)) := Lib.hid (by rw [List.length_append, HAcc.out, HAl.out]; omega)
        clear hR3 hc3 hg3 hb3 G2 HCs hbz hbw
        go_wp2
        go_roundw
        case rel => first | exact ⟨k + 1, A3, c3, acc ++ a, by omega, by rw [show 16 * (k + 1) = 16 * k + 16 by omega], by go_num, HLn.out, hbq, HR3, HT2⟩ | ((repeat apply Exists.intro); exact ⟨⟨k + 1, A3, c3, acc ++ a, by omega, by rw [show 16 * (k + 1) = 16 * k + 16 by omega], by go_num, HLn.out, hbq, HR3, HT2⟩, rfl⟩)
        case measure => simp [intOf]; omega
    · obtain rfl : k = 16 := by omega
      have HF : Hid (res = some acc) := Lib.hid (by rw [HT.out, List.drop_eq_nil_of_le (by rw [HL.out]; omega)]; simp [cellsP])
      have HG : Hid (GroI wr w.heap.size (.slice A' 256 c') acc) := Lib.hid (by unfold GroI; rw [hacc]; exact G.out)
      have HA := Lib.hid hacc
      clear hacc G HT
      go_wp2
      refine bodyPost_ret (v := .tuple #[.slice A' 256 c', .bool true]) (by simp [results, Try.results43, go_sem]) rfl ?_
      exact ⟨.inr ⟨acc, _, _, HF.out, rfl, Lib.hid (HG.out.own (Nat.le_refl _)), HA.out⟩, hbw⟩

def binL : List UInt8 := [48, 49]
def binB : ByteArray := ⟨#[48, 49]⟩
/-- The protection that a page says. -/
def guardP (t : ByteArray) : Option (List Bool) := (page1 binL t).map (·.map (fun z => decide (z = 1)))
theorem guardP_len {t : ByteArray} {r : List Bool} (h : guardP t = some r) : r.length = 16 := by
  unfold guardP page1 at h
  split at h
  · cases hp : pageNums binL 1 16 t.data.toList with
    | none => rw [hp] at h; cases h
    | some r' => rw [hp] at h; simp at h; subst h; simp [pageNums_len hp]
  · cases h

set_option maxRecDepth 100000 in
set_option maxHeartbeats 4000000 in
theorem readGuard (t : ByteArray) (w : World) (ht : t.size ≤ maxLen) :
    Calls Try.prog 44 #[.string t] w fun e w' =>
      ((guardP t = none ∧ e = .returned (.tuple #[.slice none 0 0, .bool false])) ∨ (∃ r A c, guardP t = some r ∧ e = .returned (.tuple #[.slice A 16 c, .bool true]) ∧ Hid (OwnB w' w.heap.size w'.heap.size A r) ∧ r.length = 16)) ∧ Below w.heap.size w w' := by
  have HC := Lib.hid (readPage1 t binB w (by decide) (by decide) ht)
  have HB : Hid (binB = ⟨#[48, 49]⟩ ∧ binB.data.toList = binL) := Lib.hid ⟨rfl, rfl⟩
  rw [HB.out.2, HB.out.1] at HC
  have HG : Hid (guardP t = (page1 binL t).map (·.map (fun z => decide (z = 1)))) := Lib.hid rfl
  generalize guardP t = res at HG ⊢
  generalize page1 binL t = o at HC HG
  have hmk : ∀ W, (Instr.makeSlice 24 (.int .i64 16) (.int .i64 16)).run Try.prog W = .ok (.slice (some ⟨W.heap.size, 0, none⟩) 16 16) (W.alloc (.cells (madeCells #[.bool false] 16) 4)) := fun W => run_make_row' (P := Try.prog) 24 4 (.bool false) 1 Try.underlying24 infoB rfl .i64 .i64 16 (by omega) (by omega) W
  clear HB ht
  go_enter Try.func44, Try.ntmps44
  go_wp2_with fail
  refine HC.out.mono ?_
  rintro e w1 ⟨hres, hb1⟩
  rcases hres with ⟨hp, rfl⟩ | ⟨a, A2, c2, hp, rfl, O2, hal⟩
  · have HF : Hid (res = none) := Lib.hid (by rw [HG.out, hp]; rfl)
    clear hp hmk
    go_wp2
    refine bodyPost_ret (v := .tuple #[.slice none 0 0, .bool false]) (by simp [results, Try.results44, go_sem]) rfl ?_
    exact ⟨.inl ⟨HF.out, rfl⟩, hb1⟩
  · have HF : Hid (res = some (a.map (fun z => decide (z = 1)))) := Lib.hid (by rw [HG.out, hp]; rfl)
    have HAl := Lib.hid hal
    have HR : Hid ((w1.alloc (.cells (madeCells #[.bool false] 16) 4)).rowIs w1.heap.size 4 16 (fun _ => .bool false)) := Lib.hid (World.rowIs_made w1 (.bool false) 16 4)
    have hba := alloc_below w1 (.cells (madeCells #[.bool false] 16) 4)
    have HI : Hid (OwnI (w1.alloc (.cells (madeCells #[.bool false] 16) 4)) w.heap.size w1.heap.size A2 a) := Lib.hid (O2.out.below hba)
    have hb2 := bt hb1 hba
    clear hp hal O2
    go_wp2
    clear hmk hba
    obtain ⟨w2, hw2⟩ : ∃ w2, w2 = w1.alloc (.cells (madeCells #[.bool false] 16) 4) := ⟨_, rfl⟩
    have hw12 : w1.heap.size < w2.heap.size := by rw [hw2]; simp
    rw [← hw2] at HR HI hb2 ⊢
    have hsz1 : w.heap.size ≤ w1.heap.size := hb1.size
    obtain ⟨g, hg⟩ : ∃ g, g = w1.heap.size := ⟨_, rfl⟩
    rw [← hg] at HR HI hw12 hsz1 ⊢
    clear hw2 hg hb1
    go_loopw [19] (fun i wr => ∃ k : Nat, k ≤ 16 ∧ i = .int .i64 k ∧ Below w.heap.size w wr ∧ Hid (OwnI wr w.heap.size g A2 a) ∧ Hid (wr.rowIs g 4 16 (fun j => if j < k then (fun z => Value.bool (decide (z = 1))) (a.getD j 0) else .bool false))) (fun i _ => 16 - (intOf i).toNat)
    case atStart => exact ⟨0, by omega, rfl, hb2, HI, Lib.hid (HR.out.congr (fun i _ => by simp))⟩
    case round =>
      clear HR HI hb2
      obtain ⟨k, hk, rfl, hbw, HI, HRk⟩ := hrel
      by_cases hlt : k < 16
      · obtain ⟨b, off, e0, hc0⟩ := HI.out.reads k (by rw [HAl.out]; exact hlt)
        have HI2 := Lib.hid (fun u => HI.out.other HRk.out (by decide) k u)
        subst e0
        have hcd := HRk.out.cell hlt
        have hfr := HRk.out.frozen k
        simp only [Nat.lt_irrefl, if_false] at hcd
        have hi : (k : Int) < 16 := by omega
        have HRn := Lib.hid (fun (x : Int) (hx : a.getD k 0 = x) => row_next (fun z => Value.bool (decide (z = 1))) 0 (.bool false) (x := x) (HRk.out.set k (.bool (decide (x = 1)))) hx)
        have HRn2 := Lib.hid (HRn.out _ rfl)
        generalize a.getD k 0 = x at hc0 HRn2
        have hq : (x == 1) = decide (x = 1) := by rw [Bool.eq_iff_iff]; simp
        have hbs := hbw.setCell (p := ⟨g, k, none⟩) (by show w.heap.size ≤ g; omega) (.bool (decide (x = 1)))
        generalize decide (x = 1) = q at hq HRn2 hbs
        have HI3 := Lib.hid (HI2.out (.bool q))
        clear HI HI2 HRk HRn hbw
        go_wp2
        go_roundw
        case rel => first | exact ⟨k + 1, by omega, by go_num, hbs, HI3, HRn2⟩ | ((repeat apply Exists.intro); exact ⟨⟨k + 1, by omega, by go_num, hbs, HI3, HRn2⟩, rfl⟩)
        case measure => simp [intOf]; omega
      · obtain rfl : k = 16 := by omega
        have HO : Hid (OwnB wr w.heap.size wr.heap.size (some ⟨g, 0, none⟩) (a.map (fun z => decide (z = 1)))) := Lib.hid (.inr ⟨g, 16, _, rfl, hsz1, HRk.out.lt, by rw [List.length_map, HAl.out]; omega, HRk.out, fun i hi' => by
          have hi2 : i < 16 := by rw [List.length_map, HAl.out] at hi'; exact hi'
          rw [if_pos hi2]
          simp only [List.getD_eq_getElem?_getD, List.getElem?_map]
          rw [List.getElem?_eq_getElem (by rw [HAl.out]; exact hi2)]
          rfl⟩)
        have HLn : Hid ((a.map (fun z => decide (z = 1))).length = 16) := Lib.hid (by rw [List.length_map, HAl.out])
        generalize a.map (fun z => decide (z = 1)) = r at HF HO HLn
        clear HRk HI
        go_wp2
        refine bodyPost_ret (v := .tuple #[.slice (some ⟨g, 0, none⟩) 16 16, .bool true]) (by simp [results, Try.results44, go_sem]) rfl ?_
        exact ⟨.inr ⟨r, _, _, HF.out, rfl, HO, HLn.out⟩, hbw⟩

/-- What FlashOf answers: bytes, protection, code. -/
def flashOf (ss : List ByteArray) : List Int × List Bool × Int :=
  if pagesC ss ≠ 0 then ([], [], pagesC ss) else match cellsP (ss.take 16), guardP (ss.getD 16 ByteArray.empty) with
    | some z, some g => (z, g, 0)
    | _, _ => ([], [], 3)
def flashSt (_ss : List ByteArray) : Int := 0
theorem pagesC_len {ss : List ByteArray} (h : pagesC ss = 0) : ss.length = 17 := by
  unfold pagesC at h
  split at h
  · cases h
  · split at h
    · cases h
    · omega
theorem flashOf_len (ss : List ByteArray) : lenA [Lf.I (flashOf ss).1, Lf.B (flashOf ss).2.1] ≤ 4294967296 := by
  unfold flashOf
  split
  · simp [lenA, Lf.len]
  · split
    · rename_i z g hz hg
      have := cellsP_len hz
      have := guardP_len hg
      have : (ss.take 16).length ≤ 16 := by simp; omega
      simp only [lenA, Lf.len]; omega
    · simp [lenA, Lf.len]
/-- The call hands back what FlashOf answers. -/
def GivesFlashOf (ss : List ByteArray) (w : World) (e : Ending) (w' : World) : Prop :=
  ∃ rA0 rA1 rc0 rc1, e = .returned (.tuple #[.agg #[.slice rA0 (flashOf ss).1.length rc0, .slice rA1 (flashOf ss).2.1.length rc1, .int .i64 (flashSt ss)], .int .i64 (flashOf ss).2.2]) ∧ Hid (OwnA w' w.heap.size w'.heap.size [.slice rA0 (flashOf ss).1.length rc0, .slice rA1 (flashOf ss).2.1.length rc1] [.I (flashOf ss).1, .B (flashOf ss).2.1]) ∧ Below w.heap.size w w'
theorem givesNo {ss : List ByteArray} {c : Int} {w w' : World} (h : flashOf ss = ([], [], c)) (hb : Below w.heap.size w w') : GivesFlashOf ss w (.returned (.tuple #[.agg #[.slice none 0 0, .slice none 0 0, .int .i64 0], .int .i64 c])) w' := by
  unfold GivesFlashOf
  rw [h]
  exact ⟨none, none, 0, 0, rfl, Lib.hid (ownIB (.inl rfl) (.inl rfl)), hb⟩

set_option maxRecDepth 100000 in
set_option maxHeartbeats 4000000 in
theorem implFlashOfW (A : Option Addr) (n c : Nat) (ss : List ByteArray) (w : World) (hl : ss.length = n) (hn : n ≤ maxLen) (hc : n ≤ c) (h : StrL w A ss) (fs : FitS ss) :
    Calls Try.prog 13 #[.slice A n c] w (GivesFlashOf ss w) := by
  have hb0 := alloc_below w (.cells #[.slice none 0 0, .slice none 0 0, .int .i64 0] 26)
  have X0 := Lib.hid (Box.new w 26 #[.slice none 0 0, .slice none 0 0, .int .i64 0])
  have HC := Lib.hid (fun W (hb : Below w.heap.size w W) => checkPages A n c ss W hl hn (h.below hb) fs)
  by_cases hp : pagesC ss = 0
  · have hlen := pagesC_len hp
    obtain rfl : n = 17 := by omega
    rw [hp] at HC
    obtain ⟨b, off, rfl, _⟩ := h 0 (by omega)
    have HR := Lib.hid (fun W (hb : Below w.heap.size w W) => readCells (some ⟨b, off, none⟩) c (ss.take 16) W (by simp; omega) (fun i hi => by
      have hi' : i < 16 := by simp at hi; omega
      obtain ⟨b', off', e, hc'⟩ := (h.below hb) i (by omega)
      exact ⟨b', off', e, by rw [hc']; congr 2; simp [List.getD_eq_getElem?_getD, hi']⟩) (fun s hs => fs s (List.mem_of_mem_take hs)))
    have H16 : Hid (∀ W, Below w.heap.size w W → W.cell? ⟨b, off + 16, none⟩ = some (.string (ss.getD 16 ByteArray.empty))) := Lib.hid (fun W hb => by
      obtain ⟨b', off', e, hc'⟩ := (h.below hb) 16 (by omega)
      injection e with e; injection e with e1 e2
      rw [e1, e2]; exact hc')
    have HG := Lib.hid (fun W => readGuard (ss.getD 16 ByteArray.empty) W (fs _ (by
      rw [List.getD_eq_getElem?_getD, List.getElem?_eq_getElem (by omega), Option.getD_some]; exact List.getElem_mem _)))
    have HF : Hid (flashOf ss = match cellsP (ss.take 16), guardP (ss.getD 16 ByteArray.empty) with | some z, some g => (z, g, 0) | _, _ => ([], [], 3)) := Lib.hid (by unfold flashOf; rw [if_neg (by rw [hp]; decide)])
    generalize cellsP (ss.take 16) = oz at HR HF
    generalize guardP (ss.getD 16 ByteArray.empty) = og at HG HF
    generalize ss.getD 16 ByteArray.empty = s16 at H16 HG
    have hc16 : 16 ≤ c := by omega
    clear hp hlen hl hn hc h fs
    go_enter Try.func13, Try.ntmps13
    go_wp2_with fail
    refine (HC.out _ hb0).mono ?_
    rintro e w1 ⟨rfl, rfl⟩
    go_wp2_with fail
    refine (HR.out _ hb0).mono ?_
    rintro e w2 ⟨hres, hb2⟩
    have X2 := Lib.hid (X0.out.step hb2)
    have hbz := bt hb0 hb2
    have x0 := X2.out.cell 0 rfl
    have x1 := X2.out.cell 1 rfl
    have x2 := X2.out.cell 2 rfl
    have y0 := X2.out.frozen 0
    have y1 := X2.out.frozen 1
    have y2 := X2.out.frozen 2
    rcases hres with ⟨hpz, rfl⟩ | ⟨z, A2, c2, hpz, rfl, O2, hzl⟩
    · have HN : Hid (flashOf ss = ([], [], 3)) := Lib.hid (by rw [HF.out, hpz])
      clear hpz
      go_wp2
      refine bodyPost_ret (v := .tuple #[.agg #[.slice none 0 0, .slice none 0 0, .int .i64 0], .int .i64 3]) (by simp [results, Try.results13, go_sem, x0, x1, x2]) rfl ?_
      refine givesNo HN.out ?_
      exact below3 hbz (Nat.le_refl _) _ _ _
    · have h16 := H16.out w2 hbz
      have HZ := Lib.hid hpz
      have HZl := Lib.hid hzl
      clear hpz hzl x0 x1 x2 y0 y1 y2
      go_wp2_with fail
      refine (HG.out _).mono ?_
      rintro e w3 ⟨hres, hb3⟩
      have X3 := Lib.hid (X2.out.step hb3)
      have hbq := bt hbz hb3
      have x0 := X3.out.cell 0 rfl
      have x1 := X3.out.cell 1 rfl
      have x2 := X3.out.cell 2 rfl
      have y0 := X3.out.frozen 0
      have y1 := X3.out.frozen 1
      have y2 := X3.out.frozen 2
      rcases hres with ⟨hpg, rfl⟩ | ⟨g, A3, c3, hpg, rfl, O3, hgl⟩
      · have HN : Hid (flashOf ss = ([], [], 3)) := Lib.hid (by rw [HF.out, HZ.out, hpg])
        clear hpg
        go_wp2
        refine bodyPost_ret (v := .tuple #[.agg #[.slice none 0 0, .slice none 0 0, .int .i64 0], .int .i64 3]) (by simp [results, Try.results13, go_sem, x0, x1, x2]) rfl ?_
        refine givesNo HN.out ?_
        exact below3 hbq (Nat.le_refl _) _ _ _
      · have HN : Hid (flashOf ss = (z, g, 0)) := Lib.hid (by rw [HF.out, HZ.out, hpg])
        have HGl := Lib.hid hgl
        have HO2 : Hid (OwnI w3 w.heap.size w3.heap.size A2 z) := Lib.hid ((O2.out.below hb3).wideB hb0.size hb3.size)
        have HO3 : Hid (OwnB w3 w.heap.size w3.heap.size A3 g) := Lib.hid (O3.out.wide hbz.size (Nat.le_refl _))
        clear hpg hgl O2 O3
        go_wp2
        refine bodyPost_ret (v := .tuple #[.agg #[.slice A2 256 c2, .slice A3 16 c3, .int .i64 0], .int .i64 0]) (by simp [results, Try.results13, go_sem, x0, x1, x2]) rfl ?_
        unfold GivesFlashOf
        rw [HN.out]
        simp only
        rw [HZl.out, HGl.out]
        refine ⟨A2, A3, c2, c3, rfl, Lib.hid ?_, below3 hbq (Nat.le_refl _) _ _ _⟩
        have q1 := (HO2.out.far3 X3.out (.slice A2 256 c2) (.slice A3 16 c3) (.int .i64 0))
        have q2 := (HO3.out.far3 X3.out (.slice A2 256 c2) (.slice A3 16 c3) (.int .i64 0))
        have q3 := ownIB (c := c2) (d := c3) q1 q2
        rw [HZl.out, HGl.out] at q3
        rw [size3]
        exact q3
  · have HN : Hid (flashOf ss = ([], [], pagesC ss)) := Lib.hid (by unfold flashOf; rw [if_pos hp])
    have hq : (pagesC ss != 0) = true := by simp [hp]
    generalize pagesC ss = pc at HC HN hq
    clear hp hl hn hc h fs
    go_enter Try.func13, Try.ntmps13
    go_wp2_with fail
    refine (HC.out _ hb0).mono ?_
    rintro e w1 ⟨rfl, rfl⟩
    go_wp2
    refine bodyPost_ret (v := .tuple #[.agg #[.slice none 0 0, .slice none 0 0, .int .i64 0], .int .i64 pc]) (by simp [results, Try.results13, go_sem]) rfl ?_
    exact givesNo HN.out hb0
set_option maxRecDepth 100000 in
theorem implFlashOfA (A0 : Option Addr) (c0 : Nat) (d0 : List ByteArray) (w : World) (h : RepA w [.slice A0 d0.length c0] [.S d0]) (cp : CapA [.slice A0 d0.length c0]) (z : szA [.S d0] ≤ 1048576) :
    Calls Try.prog 13 #[.slice A0 d0.length c0] w (fun e w' => ∃ rA0 rA1 rc0 rc1, e = .returned (.tuple #[.agg #[.slice rA0 (flashOf d0).1.length rc0, .slice rA1 (flashOf d0).2.1.length rc1, .int .i64 (flashSt d0)], .int .i64 (flashOf d0).2.2]) ∧ Hid (OwnA w' w.heap.size w'.heap.size [.slice rA0 (flashOf d0).1.length rc0, .slice rA1 (flashOf d0).2.1.length rc1] [.I (flashOf d0).1, .B (flashOf d0).2.1]) ∧ Below w.heap.size w w') :=
  implFlashOfW A0 _ c0 d0 w rfl (by simp only [szA, Lf.sz] at z; unfold maxLen; omega) (cp _ (List.mem_cons_self) A0 _ c0 rfl) (repS h.1) (fit_of_sz z)
end Go.Proofs.Ythobepmlopegbaa

/- A chip's value: 256 bytes, 16 booleans, a state, one cell each; contracts of chip.protect, chip.program, chip.erase. -/
namespace Go.Proofs.Ythobepmlopegbaa
open Go.RowKit

def chipC (zs : List Int) (gs : List Bool) (st : Int) : List Value := zs.map (fun z => Value.int .u8 z) ++ (gs.map Value.bool ++ [Value.int .i64 st])
theorem chipC_len (zs : List Int) (gs : List Bool) (st : Int) : (chipC zs gs st).length = zs.length + (gs.length + 1) := by simp [chipC]
theorem chipC_cell {zs : List Int} {gs : List Bool} {st : Int} (k : Nat) (hk : k < zs.length) : (chipC zs gs st)[k]? = some (.int .u8 (zs.getD k 0)) := by
  unfold chipC
  rw [List.getElem?_append_left (by simpa using hk), List.getElem?_map, List.getD_eq_getElem?_getD, List.getElem?_eq_getElem hk]
  rfl
theorem chipC_guard {zs : List Int} {gs : List Bool} {st : Int} (hz : zs.length = 256) (k : Nat) (hk : k < gs.length) : (chipC zs gs st)[256 + k]? = some (.bool (gs.getD k false)) := by
  unfold chipC
  rw [List.getElem?_append_right (by simp [hz]), List.length_map, hz, Nat.add_sub_cancel_left, List.getElem?_append_left (by simpa using hk), List.getElem?_map, List.getD_eq_getElem?_getD, List.getElem?_eq_getElem hk]
  rfl
theorem chipC_state {zs : List Int} {gs : List Bool} {st : Int} (hz : zs.length = 256) (hg : gs.length = 16) : (chipC zs gs st)[272]? = some (.int .i64 st) := by
  unfold chipC
  rw [List.getElem?_append_right (by simp [hz]), List.length_map, hz, List.getElem?_append_right (by simp [hg]), List.length_map, hg]
  rfl
theorem chipC_setCell {zs : List Int} {gs : List Bool} {st : Int} (k : Nat) (x : Int) (hk : k < zs.length) : (chipC zs gs st).set k (.int .u8 x) = chipC (zs.set k x) gs st := by
  unfold chipC
  rw [List.set_append_left _ _ (by simpa using hk), List.map_set]
theorem chipC_setGuard {zs : List Int} {gs : List Bool} {st : Int} (hz : zs.length = 256) (k : Nat) (x : Bool) (hk : k < gs.length) : (chipC zs gs st).set (256 + k) (.bool x) = chipC zs (gs.set k x) st := by
  unfold chipC
  rw [List.set_append_right _ _ (by simp [hz]), List.length_map, hz, Nat.add_sub_cancel_left, List.set_append_left _ _ (by simpa using hk), List.map_set]
theorem chipC_setState {zs : List Int} {gs : List Bool} {st : Int} (hz : zs.length = 256) (hg : gs.length = 16) (x : Int) : (chipC zs gs st).set 272 (.int .i64 x) = chipC zs gs x := by
  unfold chipC
  rw [List.set_append_right _ _ (by simp [hz]), List.length_map, hz, List.set_append_right _ _ (by simp [hg]), List.length_map, hg]
  rfl
theorem chipC_one (zs : List Int) (gs : List Bool) (st : Int) : ∀ v ∈ chipC zs gs st, v.oneCell' = true := by
  intro v hv
  unfold chipC at hv
  simp only [List.mem_append, List.mem_map, List.mem_singleton] at hv
  rcases hv with ⟨z, _, rfl⟩ | ⟨z, _, rfl⟩ | rfl <;> rfl

theorem setCells_far {w : World} {b b' : Nat} {t : TypeId} {cs : Array Value} (h : Box w b t cs) (hb : b ≠ b') : ∀ (o : Nat) (vs : List Value), Box (w.setCells b' o vs) b t cs := by
  intro o vs
  induction vs generalizing w o with
  | nil => exact h
  | cons v vs ih => exact ih (h.far (p := ⟨b', o, none⟩) hb v) (o + 1)
theorem setCells_size (w : World) (b : Nat) : ∀ (o : Nat) (vs : List Value), (w.setCells b o vs).heap.size = w.heap.size := by
  intro o vs
  induction vs generalizing w o with
  | nil => rfl
  | cons v vs ih => show ((w.setCell ⟨b, o, none⟩ v).setCells b (o + 1) vs).heap.size = _; rw [ih]; simp [World.setCell]
theorem setCells_list {w : World} {b : Nat} {t : TypeId} : ∀ (vs pre : List Value) (l : List Value), Box w b t (pre ++ l).toArray → l.length = vs.length → Box (w.setCells b pre.length vs) b t (pre ++ vs).toArray := by
  intro vs
  induction vs generalizing w with
  | nil => intro pre l h hl; rw [List.length_eq_zero_iff.1 hl] at h; exact h
  | cons v vs ih =>
    intro pre l h hl
    match l, hl with
    | x :: l, hl =>
      have h2 := h.set pre.length v
      rw [List.setIfInBounds_toArray, show (pre ++ x :: l).set pre.length v = (pre ++ [v]) ++ l from by rw [List.set_append_right _ _ (Nat.le_refl _), Nat.sub_self]; simp] at h2
      have := ih (w := w.setCell ⟨b, pre.length, none⟩ v) (pre ++ [v]) l h2 (by simpa using hl)
      rw [show (pre ++ [v]).length = pre.length + 1 from by simp, show pre ++ [v] ++ vs = pre ++ v :: vs from by simp] at this
      exact this
theorem below_setCellsC {w0 w : World} {b : Nat} (h : Below w0.heap.size w0 w) (hb : w0.heap.size ≤ b) : ∀ (o : Nat) (cs : List Value), Below w0.heap.size w0 (w.setCells b o cs) := by
  intro o cs
  induction cs generalizing w o with
  | nil => exact h
  | cons v vs ih => exact ih (h.setCell (p := ⟨b, o, none⟩) hb v) (o + 1)
theorem results_cellC {P : Program} {fn : Func} {tmps : Array Value} {w : World} {a : Nat} {t : TypeId} {p : Addr} {v : Value} (h : fn.results = #[.cell a t]) (hp : tmps.getD a undef = .pointer (some p)) (hv : (loadVar t p).run P w = .ok v w) : (results fn tmps).run P w = .ok v w := by
  unfold results
  rw [h]
  simp only [List.mapM_toArray, List.mapM_cons, List.mapM_nil, hp]
  simp [asAddr, hv]

def zZ : List Int := List.replicate 256 0
def zG : List Bool := List.replicate 16 false
theorem zZ_len : zZ.length = 256 := List.length_replicate
theorem zG_len : zG.length = 16 := List.length_replicate
def zC : List Value := chipC zZ zG 0
theorem chipC_273 {zs : List Int} {gs : List Bool} (hz : zs.length = 256) (hg : gs.length = 16) (st : Int) : (chipC zs gs st).length = 273 := by rw [chipC_len, hz, hg]
theorem wpList_alloc_big {P : Program} {ops : Array Oper} {rest : List Oper} {op : Oper} {a : Act} {w : World} {Q : Exit → Act → World → Prop} (hgd : op.guard = none) (t : TypeId) (ho : op.op = .alloc t) (C : Array Value)
    (hz : ∃ i : TypeInfo, P.info? t = some i ∧ i.zero = some (.agg C)) (h : wpList P ops Q rest (a.put op.dst (.pointer (some ⟨w.heap.size, 0, none⟩))) (w.alloc (.cells C t))) : wpList P ops Q (op :: rest) a w :=
  wpList_plain hgd fun _ hK => by
    obtain ⟨i, hi, hz⟩ := hz
    have hr : (Instr.alloc t true (.tuple #[])).run P w = .ok (.pointer (some ⟨w.heap.size, 0, none⟩)) (w.alloc (.cells C t)) := by
      simp [Instr.alloc, zeroValue, typeInfo, hi, hz, newVar, newRow, newObj, Value.cells]
      rfl
    unfold Oper.wp execOp
    simp only [ho, Sem.run_bind, Sem.run_pure, Result.andThen_ok, hr]
    exact hK _ _ h
theorem wpList_alloc_at {P : Program} {ops : Array Oper} {rest : List Oper} {op : Oper} {a : Act} {w : World} {Q : Exit → Act → World → Prop} (hgd : op.guard = none) (t : TypeId) (ho : op.op = .alloc t) (C : Array Value)
    (hz : ∃ i : TypeInfo, P.info? t = some i ∧ i.zero = some (.agg C)) (b : Nat) (hb : w.heap.size = b) (h : wpList P ops Q rest (a.put op.dst (.pointer (some ⟨b, 0, none⟩))) (w.alloc (.cells C t))) : wpList P ops Q (op :: rest) a w :=
  wpList_alloc_big hgd t ho C hz (by rw [hb]; exact h)
end Go.Proofs.Ythobepmlopegbaa

/- Contracts of chip.protect, chip.program, chip.erase. -/
namespace Go.Proofs.Ythobepmlopegbaa
open Go.RowKit

/-- The call hands back this chip. -/
def GivesChip (zs : List Int) (gs : List Bool) (st : Int) (w : World) (e : Ending) (w' : World) : Prop := e = .returned (.agg (chipC zs gs st).toArray) ∧ Below w.heap.size w w'

end Go.Proofs.Ythobepmlopegbaa

/- The contract of chipOf: a flash as a chip. -/
namespace Go.Proofs.Ythobepmlopegbaa
open Go.RowKit

/-- The first j of zs, then zeros. -/
def takeZ (zs : List Int) (j : Nat) : List Int := (List.range 256).map fun i => if i < j then zs.getD i 0 else 0
theorem takeZ_len (zs : List Int) (j : Nat) : (takeZ zs j).length = 256 := by simp [takeZ]
theorem takeZ_at (zs : List Int) (j i : Nat) (h : i < 256) : (takeZ zs j).getD i 0 = if i < j then zs.getD i 0 else 0 := by
  unfold takeZ
  rw [List.getD_eq_getElem?_getD, List.getElem?_map, List.getElem?_range h]
  rfl
theorem takeZ_zero (zs : List Int) : takeZ zs 0 = zZ := by
  apply ext_getD 0 (by rw [takeZ_len, zZ_len])
  intro i hi
  rw [takeZ_len] at hi
  rw [takeZ_at _ _ _ hi, if_neg (by omega)]
  unfold zZ
  rw [List.getD_eq_getElem?_getD, List.getElem?_replicate, if_pos hi]
  rfl
theorem takeZ_all (zs : List Int) (h : zs.length = 256) : takeZ zs 256 = zs := by
  apply ext_getD 0 (by rw [takeZ_len, h])
  intro i hi
  rw [takeZ_len] at hi
  rw [takeZ_at _ _ _ hi, if_pos hi]
theorem takeZ_next (zs : List Int) (j : Nat) (hj : j < 256) : (takeZ zs j).set j (zs.getD j 0) = takeZ zs (j + 1) := by
  apply ext_getD 0 (by simp [takeZ_len])
  intro i hi
  have hi' : i < 256 := by simpa [takeZ_len] using hi
  rw [takeZ_at _ _ _ hi']
  by_cases e : i = j
  · subst e
    rw [List.getD_eq_getElem?_getD, List.getElem?_set_self (by rw [takeZ_len]; exact hj), if_pos (by omega)]
    rfl
  · rw [List.getD_eq_getElem?_getD, List.getElem?_set_ne (fun q => e q.symm), ← List.getD_eq_getElem?_getD, takeZ_at _ _ _ hi']
    by_cases q : i < j
    · rw [if_pos q, if_pos (by omega)]
    · rw [if_neg q, if_neg (by omega)]
theorem splice_guard (zs : List Int) (gs gs' : List Bool) (st : Int) (hz : zs.length = 256) (hg : gs.length = gs'.length) : splice (chipC zs gs st) 256 (cellsB gs') = chipC zs gs' st := by
  unfold splice chipC
  rw [List.take_append_of_le_length (by simp [hz]), List.take_of_length_le (by simp [hz]), List.drop_append, List.drop_of_length_le (by simp [hz]), cellsB_len, List.nil_append, List.length_map, hz, show 256 + gs'.length - 256 = gs'.length by omega, List.drop_append, List.drop_of_length_le (by simp [hg]), List.nil_append, List.length_map, hg, Nat.sub_self]
  rfl
set_option maxRecDepth 100000 in
theorem szBool : (Try.prog.info? 4).map (·.size) = some 1 := by kernel_rfl
theorem zC_len : zC.length = 273 := chipC_273 zZ_len zG_len 0
theorem zC_set (st : Int) : zC.set 272 (.int .i64 st) = chipC zZ zG st := chipC_setState zZ_len zG_len st
theorem wpList_build_chip {P : Program} {ops : Array Oper} {rest : List Oper} {op : Oper} {a : Act} {w : World} {Q : Exit → Act → World → Prop} {t : TypeId} (hgd : op.guard = none) (x : Operand) (v : Value) (cs : List Value) (ho : op.op = .build t #[(2, x)]) (hx : a.eval x = v)
    (hr : (Instr.build t #[(2, v)]).run P w = .ok (.agg cs.toArray) w)
    (h : wpList P ops Q rest (a.put op.dst (.agg cs.toArray)) w) : wpList P ops Q (op :: rest) a w :=
  wpList_plain hgd fun _ hK => by
    unfold Oper.wp execOp
    simp only [ho, Sem.run_bind, Sem.run_pure, Result.andThen_ok, List.map_toArray, List.map_cons, List.map_nil, hx, hr]
    exact hK _ _ h

end Go.Proofs.Ythobepmlopegbaa

/- The contract of chip.flash: a chip as a flash. -/
namespace Go.Proofs.Ythobepmlopegbaa
open Go.RowKit

theorem made_row {w : World} {b n : Nat} {v : Value} {t : TypeId} (h : w.heap[b]? = some (.cells (madeCells #[v] n) t (0, 0))) : w.rowIs b t n (fun _ => v) := by
  obtain ⟨cs, hc, hs, hi⟩ := World.rowIs_made w v n t
  have e : (w.alloc (.cells (madeCells #[v] n) t)).heap[w.heap.size]? = some (.cells (madeCells #[v] n) t (0, 0)) := Box.new w t (madeCells #[v] n)
  rw [e] at hc
  injection hc with hc
  injection hc with hc _
  exact ⟨cs, by rw [h, hc], hs, hi⟩
theorem three_new (W : World) (o1 o2 o3 : Obj) : (((W.alloc o1).alloc o2).alloc o3).heap[W.heap.size]? = some o1 ∧ (((W.alloc o1).alloc o2).alloc o3).heap[W.heap.size + 1]? = some o2 ∧ (((W.alloc o1).alloc o2).alloc o3).heap[W.heap.size + 1 + 1]? = some o3 := by
  refine ⟨?_, ?_, ?_⟩
  · show (((W.heap.push o1).push o2).push o3)[W.heap.size]? = some o1
    rw [Array.getElem?_push, if_neg (by simp only [Array.size_push]; omega), Array.getElem?_push, if_neg (by simp only [Array.size_push]; omega), Array.getElem?_push, if_pos rfl]
  · show (((W.heap.push o1).push o2).push o3)[W.heap.size + 1]? = some o2
    rw [Array.getElem?_push, if_neg (by simp only [Array.size_push]; omega), Array.getElem?_push, if_pos (by simp only [Array.size_push])]
  · show (((W.heap.push o1).push o2).push o3)[W.heap.size + 1 + 1]? = some o3
    rw [Array.getElem?_push, if_pos (by simp only [Array.size_push])]
/-- A copy as one step of a region that draws: one block turns. -/
theorem step_copy_btw {P : Program} {ops : Array Oper} {o : Oper} {a : Act} {w : World} {K : Act → World → Prop} {Q : Exit → Act → World → Prop} {E : Prop} (hgd : o.guard = none) (d s : Operand) (dT sT : TypeId)
    (ho : o.op = .call { callee := .builtin .copy, args := #[d, s], argTypes := #[dT, sT] }) (elem : TypeId) (hu : P.underlying dT = some (.slice elem)) (hsz : (P.info? elem).map (·.size) = some 1)
    (g off dLen dCap : Nat) (ad : Addr) (sLen sCap : Nat) (hd : a.eval d = .slice (some ⟨g, off, none⟩) dLen dCap) (hs : a.eval s = .slice (some ad) sLen sCap)
    (cur : List Value) (t : TypeId) (hg : w.heap[g]? = some (.cells cur.toArray t (0, 0))) (cs : List Value) (hn : cs.length = Nat.min sLen dLen)
    (hsrc : ∀ j v, cs[j]? = some v → w.cell? (ad.add j) = some v)
    (hfit : off + cs.length ≤ cur.length) (h1 : ∀ v ∈ cs, v.oneCell' = true)
    (h : ∀ w', Hid (w'.heap[g]? = some (.cells (splice cur off cs).toArray t (0, 0))) → Btw g (g + 1) w w' → K (a.put o.dst (goInt cs.length)) w') :
    if Region.wanted o (yielded ops a.tmps) = true then Oper.wp P o a w K Q else E := by
  have hw : Region.wanted o (yielded ops a.tmps) = true := by simp [Region.wanted, hgd]
  rw [if_pos hw]
  have hrun := run_copy_row (P := P) w dT sT o.type elem g off dLen dCap ad sLen sCap cur.toArray t cs hu hsz hg hn hsrc (by simpa using hfit) h1
  unfold Oper.wp
  simp [execOp, ho, resolve, invoke, builtin, hd, hs, hrun, Result.andThen]
  exact h _ (show _ = _ by simpa [splice] using setRow_heap w g _ _ t _ hg) ⟨rfl, rfl, rfl, by simp [World.setRow], fun k _ hk => setRow_other w g k _ (by omega)⟩
theorem row_heap {w : World} {b n : Nat} {t : TypeId} {f : Nat → Value} (h : w.rowIs b t n f) : ∃ cur : List Value, cur.length = n ∧ w.heap[b]? = some (.cells cur.toArray t (0, 0)) := by
  obtain ⟨cs, hc, hs, _⟩ := h
  exact ⟨cs.toList, by simpa using hs, by simpa using hc⟩
theorem splice_all {α : Type} (l m : List α) (h : l.length = m.length) : splice l 0 m = m := by
  unfold splice
  rw [List.take_zero, List.nil_append, Nat.zero_add, ← h, List.drop_length, List.append_nil]
theorem ownB_row {w : World} {lo b : Nat} {gs : List Bool} (h : w.heap[b]? = some (.cells (cellsB gs).toArray 4 (0, 0))) (hlo : lo ≤ b) : OwnB w lo w.heap.size (some ⟨b, 0, none⟩) gs := by
  have hr : w.rowIs b 4 gs.length (fun i => .bool (gs.getD i false)) := ⟨_, h, by simp [cellsB], fun i hi => by
    show _ = some (Value.bool (gs.getD i false))
    rw [List.getElem?_toArray]
    unfold cellsB
    rw [List.getElem?_map, List.getD_eq_getElem?_getD, List.getElem?_eq_getElem hi]
    rfl⟩
  exact .inr ⟨b, gs.length, _, rfl, hlo, hr.lt, Nat.le_refl _, hr, fun i _ => rfl⟩
def cellsU (zs : List Int) : List Value := zs.map fun z => Value.int .u8 z
theorem cellsU_len (zs : List Int) : (cellsU zs).length = zs.length := by simp [cellsU]
theorem cellsU_at (zs : List Int) (j : Nat) (h : j < zs.length) : (cellsU zs)[j]? = some (.int .u8 (zs.getD j 0)) := by
  unfold cellsU
  rw [List.getElem?_map, List.getD_eq_getElem?_getD, List.getElem?_eq_getElem h]
  rfl
set_option maxRecDepth 100000 in
theorem sizeU8 : (Try.prog.info? 5).map (·.size) = some 1 := by kernel_rfl
end Go.Proofs.Ythobepmlopegbaa

/- Contracts of commanded, chip.next, chip.wipe. -/
namespace Go.Proofs.Ythobepmlopegbaa
open Go.RowKit

def cmdS (v : Int) : Int := if v = 160 then 3 else if v = 128 then 4 else if v = 144 then 7 else if v = 154 then 8 else 0
def nextS (st k v : Int) : Int :=
  if st = 0 ∨ st = 4 then (if k = 85 ∧ v = 170 then st + 1 else 0)
  else if st = 1 ∨ st = 5 then (if k = 42 ∧ v = 85 then st + 1 else 0)
  else if st = 2 then (if k = 85 then cmdS v else 0)
  else if st = 7 then (if v = 240 then 0 else 7)
  else 0
def eraseN (zs : List Int) (gs : List Bool) : Nat → List Int
  | 0 => zs
  | n + 1 => eraseL (eraseN zs gs n) gs n
theorem eraseN_len (zs : List Int) (gs : List Bool) : ∀ n, (eraseN zs gs n).length = zs.length
  | 0 => rfl
  | n + 1 => by rw [eraseN, eraseL_len, eraseN_len zs gs n]
def wipeZ (zs : List Int) (gs : List Bool) (k v : Nat) : List Int :=
  if v = 16 then (if k = 85 then eraseN zs gs 16 else zs) else if v = 48 then eraseL zs gs (k / 16) else zs
theorem wipeZ_len (zs : List Int) (gs : List Bool) (k v : Nat) : (wipeZ zs gs k v).length = zs.length := by
  unfold wipeZ
  split
  · split
    · exact eraseN_len _ _ _
    · rfl
  · split
    · exact eraseL_len _ _ _
    · rfl

end Go.Proofs.Ythobepmlopegbaa

/- Contracts of chip.wipe and chip.cycle. -/
namespace Go.Proofs.Ythobepmlopegbaa
open Go.RowKit

end Go.Proofs.Ythobepmlopegbaa

/- NewFlash on both sides. -/
namespace Go.Proofs.Ythobepmlopegbaa
open Go.RowKit

def newZ : List Int := List.replicate 256 255
theorem newZ_len : newZ.length = 256 := List.length_replicate
theorem erase_all : eraseN zZ zG 16 = newZ := by decide +kernel

/-- The model's new flash: the four blocks that it starts from. -/
theorem four_new (w : World) : ∃ W, W = ((((w.alloc (.cells #[.slice none 0 0, .slice none 0 0, .int .i64 0] 26)).alloc (.cells #[] 3)).alloc (.cells (madeCells #[.bool false] 16) 4)).alloc (.cells #[.slice (some ⟨w.heap.size + 1, 0, none⟩) 0 0, .slice (some ⟨w.heap.size + 2, 0, none⟩) 16 16, .int .i64 0] 26)) ∧ Below w.heap.size w W ∧
    Box W w.heap.size 26 #[.slice none 0 0, .slice none 0 0, .int .i64 0] ∧ Box W (w.heap.size + 1) 3 #[] ∧ Box W (w.heap.size + 2) 4 (madeCells #[.bool false] 16) ∧ Box W (w.heap.size + 3) 26 #[.slice (some ⟨w.heap.size + 1, 0, none⟩) 0 0, .slice (some ⟨w.heap.size + 2, 0, none⟩) 16 16, .int .i64 0] ∧ W.heap.size = w.heap.size + 4 := by
  obtain ⟨W1, h1⟩ : ∃ W1, W1 = w.alloc (.cells #[.slice none 0 0, .slice none 0 0, .int .i64 0] 26) := ⟨_, rfl⟩
  have s1 : W1.heap.size = w.heap.size + 1 := by rw [h1]; simp
  have b1 : Box W1 w.heap.size 26 #[.slice none 0 0, .slice none 0 0, .int .i64 0] := by rw [h1]; exact Box.new _ _ _
  have k1 : Below w.heap.size w W1 := by rw [h1]; exact alloc_below _ _
  rw [← h1]; clear h1
  obtain ⟨W2, h2⟩ : ∃ W2, W2 = W1.alloc (.cells #[] 3) := ⟨_, rfl⟩
  have s2 : W2.heap.size = w.heap.size + 2 := by rw [h2]; simp [s1]
  have b2 : Box W2 (w.heap.size + 1) 3 #[] := by rw [h2, ← s1]; exact Box.new _ _ _
  have k2 : Below W1.heap.size W1 W2 := by rw [h2]; exact alloc_below _ _
  rw [← h2]; clear h2
  obtain ⟨W3, h3⟩ : ∃ W3, W3 = W2.alloc (.cells (madeCells #[.bool false] 16) 4) := ⟨_, rfl⟩
  have s3 : W3.heap.size = w.heap.size + 3 := by rw [h3]; simp [s2]
  have b3 : Box W3 (w.heap.size + 2) 4 (madeCells #[.bool false] 16) := by rw [h3, ← s2]; exact Box.new _ _ _
  have k3 : Below W2.heap.size W2 W3 := by rw [h3]; exact alloc_below _ _
  rw [← h3]; clear h3
  refine ⟨_, rfl, bt (bt (bt k1 k2) k3) (alloc_below _ _), ((b1.step k2).step k3).alloc _, (b2.step k3).alloc _, b3.alloc _, ?_, by simp [s3]⟩
  rw [← s3]; exact Box.new _ _ _

set_option maxRecDepth 100000 in
set_option maxHeartbeats 4000000 in
theorem specNewFlash (w : World) : Calls Try.prog 66 #[] w (GivesFlash newZ zG 0 w) := by
  obtain ⟨W, hW, hb, b0, b1, b2, b3, hs⟩ := four_new w
  have hmkB : ∀ W : World, (Instr.makeSlice 24 (.int .i64 16) (.int .i64 16)).run Try.prog W = .ok (.slice (some ⟨W.heap.size, 0, none⟩) 16 16) (W.alloc (.cells (madeCells #[.bool false] 16) 4)) := fun W => run_make_row' (P := Try.prog) 24 4 (.bool false) 1 Try.underlying24 infoB rfl .i64 .i64 16 (by omega) (by omega) W
  have HB := Lib.hid (And.intro hb (And.intro b0 (And.intro b1 (And.intro b2 (And.intro b3 hs)))))
  have HW := Lib.hid hW
  clear hb b0 b1 b2 b3 hs hW
  generalize hmc : madeCells #[.bool false] 16 = mc at hmkB HB HW
  have HMc := Lib.hid hmc
  clear hmc
  go_enter Try.func66, Try.ntmps66
  go_wp2
  rw [← HW.out]
  clear hmkB HW
  go_loopw [2] (fun i wr => ∃ (j : Nat) (A : Option Addr) (c : Nat), j ≤ 256 ∧ i = .int .i64 j ∧ Below w.heap.size w wr ∧ Hid (Box wr w.heap.size 26 #[.slice none 0 0, .slice none 0 0, .int .i64 0]) ∧ Hid (Box wr (w.heap.size + 2) 4 mc) ∧ Hid (Box wr (w.heap.size + 3) 26 #[.slice A j c, .slice (some ⟨w.heap.size + 2, 0, none⟩) 16 16, .int .i64 0]) ∧ Hid (GroI wr (w.heap.size + 1) (.slice A j c) (List.replicate j 255)) ∧ Hid (w.heap.size + 4 ≤ wr.heap.size)) (fun i _ => 256 - (intOf i).toNat)
  case atStart => exact ⟨0, some ⟨w.heap.size + 1, 0, none⟩, 0, by omega, rfl, HB.out.1, Lib.hid HB.out.2.1, Lib.hid HB.out.2.2.2.1, Lib.hid HB.out.2.2.2.2.1, Lib.hid (rowv_empty (Nat.le_refl _) HB.out.2.2.1), Lib.hid (by rw [HB.out.2.2.2.2.2]; exact Nat.le_refl _)⟩
  case round =>
    clear HB
    obtain ⟨j, A, c, hj, rfl, hbw, Y, B, X, G, Z⟩ := hrel
    have x0 := X.out.cell 0 rfl
    have x1 := X.out.cell 1 rfl
    have x2 := X.out.cell 2 rfl
    have x0z := X.out.frozen 0
    by_cases hlt : j < 256
    · have HRk : Hid (wr.ownsRow (w.heap.size + 1) 3 1 (.slice A j c) j ((List.replicate j (255 : Int)).map (Value.int .i64))) := Lib.hid (by have := G.out; unfold GroI at this; rwa [List.length_replicate] at this)
      have HBa : Hid (Below wr.heap.size wr (wr.alloc (.cells #[.int .i64 255] 3))) := Lib.hid (alloc_below _ _)
      have HOw := Lib.hid (rowv_below HRk.out HBa.out)
      have HNw : Hid (∀ i u, [Value.int .i64 255][i]? = some u → (wr.alloc (.cells #[.int .i64 255] 3)).cell? ⟨wr.heap.size, i, none⟩ = some u) := Lib.hid (fun i u hi => by
        match i, hi with
        | 0, hi => simp at hi; subst hi; exact (Box.new wr 3 #[.int .i64 255]).cell 0 rfl)
      have HRep : Hid (List.replicate (j + 1) (255 : Int) = List.replicate j 255 ++ [255]) := Lib.hid List.replicate_succ'
      have hi : (j : Int) < 256 := by omega
      generalize hfl : List.replicate j (255 : Int) = fl at HRk HOw HRep
      have HLl : Hid (fl.length = j) := Lib.hid (by rw [← hfl, List.length_replicate])
      clear hfl G
      go_wp2_with (at_builtin; refine wpList_app_one rfl (.tmp 11) (.tmp 12) 23 3 rfl (.int .i64 0) 1 8 elemInt Try.underlying23 (w.heap.size + 1) (.slice A j c) j (fl.map (Value.int .i64)) rfl ?hown wr.heap.size 1 rfl [.int .i64 255] rfl ?hnews ?hone ?h63 ?hby ?hbase ?_)
      case hown => exact HOw.out
      case hnews => exact HNw.out
      case hone => intro u hu; simp at hu; subst hu; rfl
      case h63 => unfold maxLen; omega
      case hby => omega
      case hbase => have := Z.out; simp; omega
      intro A2 c2 w2 hR2 hc2 hg2 hb2
      have B2 := Lib.hid ((B.out.step HBa.out).grown HOw.out (by decide) hg2)
      have X2 := Lib.hid ((X.out.step HBa.out).grown HOw.out (by decide) hg2)
      have Y2 := Lib.hid ((Y.out.step HBa.out).below hb2 (by omega))
      have hbz : Below w.heap.size w w2 := (bt hbw HBa.out).trans (hb2.mono (by omega))
      have Z2 : Hid (w.heap.size + 4 ≤ w2.heap.size) := Lib.hid (by have := Z.out; have := HBa.out.size; have := hb2.size; omega)
      have u0 := X2.out.cell 0 rfl
      have u0z := X2.out.frozen 0
      have HG2 := Lib.hid (rowv_setBox hR2 X2.out (by decide) 0 (.slice A2 (j + 1) c2))
      clear hR2 hc2 hg2 hb2 hbw x0 x1 x2 x0z B X Y Z HOw HRk HNw HBa
      go_wp2
      go_roundw
      case rel =>
        refine ⟨j + 1, A2, c2, by omega, by go_num, hbz.setCell (p := ⟨w.heap.size + 3, 0, none⟩) (by show w.heap.size ≤ w.heap.size + 3; omega) _, Lib.hid (Y2.out.far (p := ⟨w.heap.size + 3, 0, none⟩) (by show w.heap.size ≠ w.heap.size + 3; omega) _), Lib.hid (B2.out.far (p := ⟨w.heap.size + 3, 0, none⟩) (by show w.heap.size + 2 ≠ w.heap.size + 3; omega) _), Lib.hid (X2.out.set 0 _), Lib.hid ?_, Lib.hid (by simpa [World.setCell] using Z2.out)⟩
        unfold GroI; rw [HRep.out, List.length_append, HLl.out, List.map_append]; exact HG2.out
      case measure => simp [intOf]; omega
    · obtain rfl : j = 256 := by omega
      have s0 := Y.out.cell 0 rfl
      have s1 := Y.out.cell 1 rfl
      have s2 := Y.out.cell 2 rfl
      have s0z := Y.out.frozen 0
      have s1z := Y.out.frozen 1
      have s2z := Y.out.frozen 2
      have HO : Hid (OwnI wr w.heap.size wr.heap.size A newZ) := Lib.hid (G.out.own (by omega))
      have HBo : Hid (OwnB wr w.heap.size wr.heap.size (some ⟨w.heap.size + 2, 0, none⟩) zG) := Lib.hid (.inr ⟨w.heap.size + 2, 16, fun _ => .bool false, rfl, by omega, B.out.lt, by rw [zG_len]; exact Nat.le_refl _, made_row (by have := B.out; rw [← HMc.out] at this; exact this), fun i hi => by
        have : zG.getD i false = false := by unfold zG; rw [List.getD_eq_getElem?_getD]; rw [zG_len] at hi; rw [List.getElem?_replicate, if_pos hi]; rfl
        rw [this]⟩)
      clear G B HMc
      go_wp2
      refine bodyPost_ret (v := .agg #[.slice A 256 c, .slice (some ⟨w.heap.size + 2, 0, none⟩) 16 16, .int .i64 0]) (by simp [results, Try.results66, go_sem, s0, s1, s2]) rfl ?_
      exact ⟨_, _, _, _, _, _, rfl, Lib.hid newZ_len, Lib.hid zG_len, Lib.hid ((HO.out.far3 Y.out _ _ _).wideB (Nat.le_refl _) (by rw [size3]; exact Nat.le_refl _)), Lib.hid ((HBo.out.far3 Y.out _ _ _).wide (Nat.le_refl _) (by rw [size3]; exact Nat.le_refl _)), below3 hbw (by omega) _ _ _⟩
end Go.Proofs.Ythobepmlopegbaa

/- Contracts of the model's l04Flash and FlashOf. -/
namespace Go.Proofs.Ythobepmlopegbaa
open Go.RowKit

set_option maxRecDepth 100000 in
theorem elemBool : Elem Try.prog 4 (.bool false) 1 1 := ⟨⟨_, rfl, rfl, rfl, rfl⟩, rfl, by decide⟩
/-- A []bool of the call's own that grows. -/
def GroB (w : World) (base : Nat) (v : Value) (gs : List Bool) : Prop := w.ownsRow base 4 1 v gs.length (gs.map Value.bool)
theorem GroB.own {w : World} {base lo : Nat} {A : Option Addr} {n c : Nat} {zs : List Bool} (h : GroB w base (.slice A n c) zs) (hb : lo ≤ base) : OwnB w lo w.heap.size A zs := by
  obtain ⟨h1, ⟨h0, h2⟩ | ⟨g, cap, cur, hv, q1, q2, q3, q4, q5, q6⟩⟩ := h
  · exact .inl (List.eq_nil_of_length_eq_zero h2)
  · injection hv with hv1 hv2 hv3
    refine .inr ⟨g, cap, fun i => cur.getD i (.int .i64 0), hv1, by omega, (Array.getElem?_eq_some_iff.1 q2).1, q3, ⟨cur, q2, by omega, fun i hi => ?_⟩, fun i hi => ?_⟩
    · simp [Array.getElem?_eq_getElem (show i < cur.size by omega)]
    · have : (cur.toList.take (zs.length * 1))[i]? = (zs.map (Value.bool))[i]? := by rw [q6]
      rw [List.getElem?_take, if_pos (by omega), Array.getElem?_toList, List.getElem?_map, List.getElem?_eq_getElem hi] at this
      simp [this, List.getD_eq_getElem?_getD, List.getElem?_eq_getElem hi]

/-- The page's bytes from the k-th on, as the model reads them. -/
theorem byte_at (t : ByteArray) (k : Nat) (ht : t.size = 32) (hk : k < 16) : byteOf (t.extract (2 * k) (2 * k + 2)) = readNum hexL 0 ((t.data.toList.drop (k * 2)).take 2) := by
  unfold byteOf
  have hs : (t.extract (2 * k) (2 * k + 2)).size = 2 := by rw [ByteArray.size_extract, ht]; omega
  rw [if_pos hs, ext_list, show 2 * k + 2 - 2 * k = 2 by omega, Nat.mul_comm 2 k]
theorem nums_step (t : ByteArray) (k : Nat) (hk : k < 16) : pageNums hexL 2 (16 - k) (t.data.toList.drop (k * 2)) = match readNum hexL 0 ((t.data.toList.drop (k * 2)).take 2) with | none => none | some v => (pageNums hexL 2 (16 - (k + 1)) (t.data.toList.drop ((k + 1) * 2))).map ((v : Int) :: ·) := by
  rw [show 16 - k = (16 - (k + 1)) + 1 by omega, pageNums, List.drop_drop, show k * 2 + 2 = (k + 1) * 2 by omega]
  cases readNum hexL 0 ((t.data.toList.drop (k * 2)).take 2) <;> rfl
theorem dig_bin (b : UInt8) : digI binL (b.toNat : Int) = if b.toNat = 48 then some 0 else if b.toNat = 49 then some 1 else none := by
  unfold binL
  by_cases h : b.toNat = 48
  · rw [if_pos h, digI_hit _ _ _ (by rw [h]; rfl)]
  · rw [if_neg h, digI_miss _ _ _ (by intro e; apply h; have : (48 : UInt8).toNat = 48 := rfl; omega)]
    by_cases h2 : b.toNat = 49
    · rw [if_pos h2, digI_hit _ _ _ (by rw [h2]; rfl)]; rfl
    · rw [if_neg h2, digI_miss _ _ _ (by intro e; apply h2; have : (49 : UInt8).toNat = 49 := rfl; omega), digI_nil]; rfl
/-- The protection from the k-th block on. -/
def guardFrom (t : ByteArray) (k : Nat) : Option (List Bool) := (pageNums binL 1 (16 - k) (t.data.toList.drop k)).map (·.map (fun z => decide (z = 1)))
theorem guardFrom_step (t : ByteArray) (k : Nat) (hk : k < 16) (ht : t.size = 16) : guardFrom t k = if (t[k]'(by omega)).toNat = 48 ∨ (t[k]'(by omega)).toNat = 49 then (guardFrom t (k + 1)).map (decide ((t[k]'(by omega)).toNat = 49) :: ·) else none := by
  unfold guardFrom
  rw [show 16 - k = (16 - (k + 1)) + 1 by omega, pageNums, drop_byte t k (by omega)]
  generalize t[k]'(by omega) = b
  show Option.map _ (match (match digI binL (b.toNat : Int) with | none => none | some v => readNum binL (0 * binL.length + v) []) with | none => none | some v => (pageNums binL 1 (16 - (k + 1)) (t.data.toList.drop (k + 1))).map ((v : Int) :: ·)) = _
  rw [dig_bin]
  by_cases h : b.toNat = 48
  · rw [if_pos h, if_pos (.inl h)]
    have h9 : decide (b.toNat = 49) = false := by simp; omega
    rw [h9]
    cases pageNums binL 1 (16 - (k + 1)) (t.data.toList.drop (k + 1)) <;> simp [readNum]
  · rw [if_neg h]
    by_cases h2 : b.toNat = 49
    · rw [if_pos h2, if_pos (.inr h2)]
      have h9 : decide (b.toNat = 49) = true := by simp; omega
      rw [h9]
      cases pageNums binL 1 (16 - (k + 1)) (t.data.toList.drop (k + 1)) <;> simp [readNum]
    · rw [if_neg h2, if_neg (by omega)]; rfl
theorem guardFrom_zero (t : ByteArray) (ht : t.size = 16) : guardFrom t 0 = guardP t := by
  unfold guardFrom guardP page1
  rw [if_pos ht]; rfl
theorem guardFrom_end (t : ByteArray) : guardFrom t 16 = some [] := by simp [guardFrom, pageNums]

/-- A row of another element type is as it was when a row has grown. -/
theorem rowv_grown {w w' : World} {base base' n n' : Nat} {e e' : TypeId} {v v' : Value} {xs xs' : List Value} (h : w.ownsRow base' e' 1 v' n' xs') (hr : w.ownsRow base e 1 v n xs) (ht : e' ≠ e) (hg : w.grownBy w' v.ownBlock) : w'.ownsRow base' e' 1 v' n' xs' := by
  obtain ⟨h1, h0 | ⟨g, cap, cur, rfl, q1, q2, q3⟩⟩ := h
  · exact ⟨h1, .inl h0⟩
  · exact ⟨h1, .inr ⟨g, cap, cur, rfl, q1, Box.grown (cs := cur) q2 hr ht hg, q3⟩⟩
/-- What l04Flash reads. -/
def pairO : Option (List Int) → Option (List Bool) → Option (List Int × List Bool)
  | some z, some g => some (z, g)
  | _, _ => none
def flashL (ss : List ByteArray) : Option (List Int × List Bool) := pairO (cellsP (ss.take 16)) (guardP (ss.getD 16 ByteArray.empty))
theorem nonePair {a : Option (List Int)} {b : Option (List Bool)} (h : a = none ∨ b = none) : pairO a b = none := by
  rcases h with rfl | rfl
  · rfl
  · cases a <;> rfl
def GivesL04 (ss : List ByteArray) (w : World) (e : Ending) (w' : World) : Prop :=
  ((flashL ss = none ∧ e = .returned (.tuple #[.agg #[.slice none 0 0, .slice none 0 0, .int .i64 0], .bool false])) ∨ (∃ z g A c C d, flashL ss = some (z, g) ∧ e = .returned (.tuple #[.agg #[.slice A 256 c, .slice C 16 d, .int .i64 0], .bool true]) ∧ Hid (OwnI w' w.heap.size w'.heap.size A z) ∧ Hid (OwnB w' w.heap.size w'.heap.size C g) ∧ z.length = 256 ∧ g.length = 16)) ∧ Below w.heap.size w w'
/-- What the loops keep of memory. -/
structure FL (w wr : World) (A : Option Addr) (n c : Nat) (acc : List Int) (C : Option Addr) (m d : Nat) (gs : List Bool) : Prop where
  bel : Below w.heap.size w wr
  r : Box wr w.heap.size 26 #[.slice none 0 0, .slice none 0 0, .int .i64 0]
  f : Box wr (w.heap.size + 3) 26 #[.slice A n c, .slice C m d, .int .i64 0]
  i : wr.ownsRow (w.heap.size + 1) 3 1 (.slice A n c) n (acc.map (Value.int .i64))
  b : wr.ownsRow (w.heap.size + 1) 4 1 (.slice C m d) m (gs.map Value.bool)
  len : acc.length = n
  lem : gs.length = m
theorem FL.step {w wr w2 : World} {A : Option Addr} {n c : Nat} {acc : List Int} {C : Option Addr} {m d : Nat} {gs : List Bool} (h : FL w wr A n c acc C m d gs) (hb : Below wr.heap.size wr w2) : FL w w2 A n c acc C m d gs :=
  ⟨bt h.bel hb, h.r.step hb, h.f.step hb, rowv_below h.i hb, rowv_below h.b hb, h.len, h.lem⟩
theorem FL.size {w wr : World} {A : Option Addr} {n c : Nat} {acc : List Int} {C : Option Addr} {m d : Nat} {gs : List Bool} (h : FL w wr A n c acc C m d gs) : w.heap.size + 4 ≤ wr.heap.size := by have := h.f.lt; omega
/-- A number was appended, and the slice stored. -/
theorem FL.int {w w1 w2 : World} {A A2 : Option Addr} {n c c2 : Nat} {acc : List Int} {C : Option Addr} {m d : Nat} {gs : List Bool} {v : Int} (h : FL w w1 A n c acc C m d gs) (hR : w2.ownsRow (w.heap.size + 1) 3 1 (.slice A2 (n + 1) c2) (n + 1) (acc.map (Value.int .i64) ++ [.int .i64 v])) (hg : w1.grownBy w2 (Value.slice A n c).ownBlock) (hb : Below (w.heap.size + 1) w1 w2) :
    FL w (w2.setCell ⟨w.heap.size + 3, 0, none⟩ (.slice A2 (n + 1) c2)) A2 (n + 1) c2 (acc ++ [v]) C m d gs := by
  have F2 := h.f.grown h.i (by decide) hg
  have R2 := h.r.below hb (by omega)
  have B2 := rowv_grown h.b h.i (by decide) hg
  have bz : Below w.heap.size w w2 := h.bel.trans (hb.mono (by omega))
  refine ⟨bz.setCell (p := ⟨w.heap.size + 3, 0, none⟩) (by show w.heap.size ≤ w.heap.size + 3; omega) _, R2.far (p := ⟨w.heap.size + 3, 0, none⟩) (by show w.heap.size ≠ w.heap.size + 3; omega) _, F2.set 0 _, ?_, rowv_setBox B2 F2 (by decide) 0 _, by simp [h.len], h.lem⟩
  have := rowv_setBox hR F2 (by decide) 0 (.slice A2 (n + 1) c2)
  simpa using this
theorem FL.bool {w w1 w2 : World} {A C2 : Option Addr} {n c d2 : Nat} {acc : List Int} {C : Option Addr} {m d : Nat} {gs : List Bool} {v : Bool} (h : FL w w1 A n c acc C m d gs) (hR : w2.ownsRow (w.heap.size + 1) 4 1 (.slice C2 (m + 1) d2) (m + 1) (gs.map Value.bool ++ [.bool v])) (hg : w1.grownBy w2 (Value.slice C m d).ownBlock) (hb : Below (w.heap.size + 1) w1 w2) :
    FL w (w2.setCell ⟨w.heap.size + 3, 1, none⟩ (.slice C2 (m + 1) d2)) A n c acc C2 (m + 1) d2 (gs ++ [v]) := by
  have F2 := h.f.grown h.b (by decide) hg
  have R2 := h.r.below hb (by omega)
  have B2 := rowv_grown h.i h.b (by decide) hg
  have bz : Below w.heap.size w w2 := h.bel.trans (hb.mono (by omega))
  refine ⟨bz.setCell (p := ⟨w.heap.size + 3, 1, none⟩) (by show w.heap.size ≤ w.heap.size + 3; omega) _, R2.far (p := ⟨w.heap.size + 3, 1, none⟩) (by show w.heap.size ≠ w.heap.size + 3; omega) _, F2.set 1 _, rowv_setBox B2 F2 (by decide) 1 _, ?_, h.len, by simp [h.lem]⟩
  have := rowv_setBox hR F2 (by decide) 1 (.slice C2 (m + 1) d2)
  simpa using this
theorem FL.new (w : World) : FL w ((((w.alloc (.cells #[.slice none 0 0, .slice none 0 0, .int .i64 0] 26)).alloc (.cells #[] 3)).alloc (.cells #[] 4)).alloc (.cells #[.slice (some ⟨w.heap.size + 1, 0, none⟩) 0 0, .slice (some ⟨w.heap.size + 1 + 1, 0, none⟩) 0 0, .int .i64 0] 26)) (some ⟨w.heap.size + 1, 0, none⟩) 0 0 [] (some ⟨w.heap.size + 1 + 1, 0, none⟩) 0 0 [] := by
  refine ⟨bt (bt (bt (alloc_below _ _) (alloc_below _ _)) (alloc_below _ _)) (alloc_below _ _), (((Box.new _ _ _).alloc _).alloc _).alloc _, ?_, ?_, ?_, rfl, rfl⟩
  · have := Box.new (((w.alloc (.cells #[.slice none 0 0, .slice none 0 0, .int .i64 0] 26)).alloc (.cells #[] 3)).alloc (.cells #[] 4)) 26 #[.slice (some ⟨w.heap.size + 1, 0, none⟩) 0 0, .slice (some ⟨w.heap.size + 1 + 1, 0, none⟩) 0 0, .int .i64 0]
    simpa using this
  · refine rowv_empty (Nat.le_refl _) ?_
    have := ((Box.new (w.alloc (.cells #[.slice none 0 0, .slice none 0 0, .int .i64 0] 26)) 3 #[]).alloc (.cells #[] 4)).alloc (.cells #[.slice (some ⟨w.heap.size + 1, 0, none⟩) 0 0, .slice (some ⟨w.heap.size + 1 + 1, 0, none⟩) 0 0, .int .i64 0] 26)
    simpa using this
  · refine rowv_empty (by omega) ?_
    have := (Box.new ((w.alloc (.cells #[.slice none 0 0, .slice none 0 0, .int .i64 0] 26)).alloc (.cells #[] 3)) 4 #[]).alloc (.cells #[.slice (some ⟨w.heap.size + 1, 0, none⟩) 0 0, .slice (some ⟨w.heap.size + 1 + 1, 0, none⟩) 0 0, .int .i64 0] 26)
    simpa using this
end Go.Proofs.Ythobepmlopegbaa
