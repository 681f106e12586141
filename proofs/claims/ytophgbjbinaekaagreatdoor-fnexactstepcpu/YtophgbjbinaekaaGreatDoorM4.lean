/- Texts of this claim, one behind the other: GenB, GenC, GenInstr, OpTab, Quiet, OpOk, OpLen, GenFlash. -/
import Derived.BigQuiet
import Derived.Deep.QuietTactic
import Derived.WalkKit
import Derived.Test.YtophgbjbinaekaaGreatDoorM3
/- The laws' own functions over []int, []bool, []string, on leaves. -/
namespace Go.Proofs.YtophgbjbinaekaaGreatDoor
open Go.RowKit

def GivesL (n : Nat) (d : Lf) (w : World) (e : Ending) (w' : World) : Prop := ∃ A c, e = .returned (.slice A n c) ∧ Hid (OwnL w' w.heap.size w'.heap.size (.slice A n c) d) ∧ Hid (CapL (.slice A n c)) ∧ Below w.heap.size w w'
def MarkedL (lo hi : Nat) (v : Value) (d : Lf) (k : Nat) (w : World) (e : Ending) (w' : World) : Prop := e = .returned (.int .i64 ((k + d.len : Nat) : Int)) ∧ Hid (OwnL w' lo hi v (d.marks k)) ∧ Touch [v] w w'
theorem capL {A : Option Addr} {n c : Nat} (h : n ≤ c) : CapL (.slice A n c) := fun A' n' c' e => by injection e with _ e2 e3; omega
theorem touch_none {w w' : World} {A : Option Addr} {c : Nat} (h : Btw 0 0 w w') : Touch [.slice A 0 c] w w' := ⟨h.os, h.tape, h.output, h.size, fun k hk _ => h.block k hk (.inr (Nat.zero_le _))⟩
theorem touch_blk {w w' : World} {g n c : Nat} (hn : 0 < n) (h : Btw g (g + 1) w w') : Touch [.slice (some ⟨g, 0, none⟩) n c] w w' := ⟨h.os, h.tape, h.output, h.size, fun k hk hm => h.block k hk (by
  have : k ≠ g := by rintro rfl; exact hm (by simp [blkL_some hn])
  omega)⟩

set_option maxRecDepth 100000 in
theorem szLI (v : Value) (zs : List Int) (left : Int) (w : World) (h : RepL w v (.I zs)) (hf : (Lf.I zs).fit) (h0 : 0 ≤ left) (h1 : left ≤ 1048576) :
    Calls Tryz.prog 51 #[v, .int .i64 left] w (Left left (Lf.sz (.I zs)) w) := by
  obtain ⟨A, c, rfl, hr⟩ := h
  exact szIntS A zs.length c left w hf h0 h1
set_option maxRecDepth 100000 in
theorem toLI (v : Value) (zs : List Int) (w : World) (h : RepL w v (.I zs)) (hn : zs.length ≤ 1048576) :
    Calls Tryz.prog 53 #[v] w (GivesL zs.length (.I zs) w) := by
  obtain ⟨A, c, rfl, hr⟩ := h
  refine (toIntSc A zs.length c zs w rfl hn hr).mono ?_
  rintro e w' ⟨A1, n1, c1, rfl, L1, S1, K1, hb1⟩
  have := L1.out
  subst this
  exact ⟨_, _, rfl, Lib.hid ⟨A1, c1, rfl, S1.out⟩, Lib.hid (capL K1), hb1⟩
set_option maxRecDepth 100000 in
theorem eqLI (v v' : Value) (zs : List Int) (w : World) (h : RepL w v (.I zs)) (h' : RepL w v' (.I zs)) (hn : zs.length ≤ maxLen) :
    Calls Tryz.prog 55 #[v, v'] w fun e w' => e = .returned (.bool true) ∧ Below w.heap.size w w' := by
  obtain ⟨A, c, rfl, hr⟩ := h
  obtain ⟨A', c', rfl, hr'⟩ := h'
  exact eqIntSame A A' zs.length zs.length c c' zs w rfl rfl hn hr hr'
set_option maxRecDepth 100000 in
theorem markLI (v : Value) (zs : List Int) (k lo hi : Nat) (w : World) (h : OwnL w lo hi v (.I zs)) (hk : 1 ≤ k) (hn : zs.length ≤ 4294967296) (hk2 : k ≤ 549755813888) :
    Calls Tryz.prog 57 #[v, .int .i64 (k : Int)] w (MarkedL lo hi v (.I zs) k w) := by
  obtain ⟨A, c, rfl, ho⟩ := h
  rcases Nat.eq_zero_or_pos zs.length with hz | hz
  · have hz' : zs = [] := List.eq_nil_of_length_eq_zero hz
    subst hz'
    refine (markIntSs A 0 c k 0 0 [] w rfl hk (by omega) (by omega) (.inl rfl)).mono ?_
    rintro e w' ⟨rfl, S, hb⟩
    exact ⟨rfl, Lib.hid ⟨A, c, rfl, .inl rfl⟩, touch_none hb⟩
  · rcases ho with rfl | ⟨b, m, f, rfl, h1, h2, hm, hr, hf⟩
    · simp at hz
    · refine (markIntSs _ zs.length c k b (b + 1) zs w rfl hk (by omega) (by omega) (.inr ⟨b, m, f, rfl, Nat.le_refl _, Nat.lt_succ_self _, hm, hr, hf⟩)).mono ?_
      rintro e w' ⟨rfl, S, hb⟩
      exact ⟨rfl, Lib.hid ⟨_, c, by simp [marksI], S.out.wideB h1 h2⟩, touch_blk hz hb⟩
set_option maxRecDepth 100000 in
theorem heldLI (v : Value) (zs : List Int) (k : Nat) (w : World) (h : RepL w v ((Lf.I zs).marks k)) (hk : 1 ≤ k) (hn : zs.length ≤ 4294967296) (hk2 : k ≤ 549755813888) :
    Calls Tryz.prog 59 #[v, .int .i64 (k : Int)] w fun e w' => e = .returned (.int .i64 ((k + (Lf.I zs).len : Nat) : Int)) ∧ Below w.heap.size w w' := by
  obtain ⟨A, c, rfl, hr⟩ := h
  have hl : (marksI k zs.length).length = zs.length := by simp [marksI]
  rw [hl]
  refine (heldIntS A zs.length c k w hk (by omega) hr).mono ?_
  rintro e w' ⟨rfl, hb⟩
  exact ⟨rfl, hb ▸ Below.refl _ _⟩
set_option maxRecDepth 100000 in
theorem szLB (v : Value) (zs : List Bool) (left : Int) (w : World) (h : RepL w v (.B zs)) (hf : (Lf.B zs).fit) (h0 : 0 ≤ left) (h1 : left ≤ 1048576) :
    Calls Tryz.prog 98 #[v, .int .i64 left] w (Left left (Lf.sz (.B zs)) w) := by
  obtain ⟨A, c, rfl, hr⟩ := h
  exact szBoolS A zs.length c left w hf h0 h1
set_option maxRecDepth 100000 in
theorem toLB (v : Value) (zs : List Bool) (w : World) (h : RepL w v (.B zs)) (hn : zs.length ≤ 1048576) :
    Calls Tryz.prog 99 #[v] w (GivesL zs.length (.B zs) w) := by
  obtain ⟨A, c, rfl, hr⟩ := h
  refine (toBoolS A zs.length c zs w rfl hn hr).mono ?_
  rintro e w' ⟨A1, n1, c1, rfl, L1, S1, K1, hb1⟩
  have := L1.out
  subst this
  exact ⟨_, _, rfl, Lib.hid ⟨A1, c1, rfl, S1.out⟩, Lib.hid (capL K1), hb1⟩
set_option maxRecDepth 100000 in
theorem eqLB (v v' : Value) (zs : List Bool) (w : World) (h : RepL w v (.B zs)) (h' : RepL w v' (.B zs)) (hn : zs.length ≤ maxLen) :
    Calls Tryz.prog 100 #[v, v'] w fun e w' => e = .returned (.bool true) ∧ Below w.heap.size w w' := by
  obtain ⟨A, c, rfl, hr⟩ := h
  obtain ⟨A', c', rfl, hr'⟩ := h'
  exact eqBoolSame A A' zs.length zs.length c c' zs w rfl rfl hn hr hr'
set_option maxRecDepth 100000 in
theorem markLB (v : Value) (zs : List Bool) (k lo hi : Nat) (w : World) (h : OwnL w lo hi v (.B zs)) (hk : 1 ≤ k) (hn : zs.length ≤ 4294967296) (hk2 : k ≤ 549755813888) :
    Calls Tryz.prog 101 #[v, .int .i64 (k : Int)] w (MarkedL lo hi v (.B zs) k w) := by
  obtain ⟨A, c, rfl, ho⟩ := h
  rcases Nat.eq_zero_or_pos zs.length with hz | hz
  · have hz' : zs = [] := List.eq_nil_of_length_eq_zero hz
    subst hz'
    refine (markBoolS A 0 c k 0 0 [] w rfl hk (by omega) (by omega) (.inl rfl)).mono ?_
    rintro e w' ⟨rfl, S, hb⟩
    exact ⟨rfl, Lib.hid ⟨A, c, rfl, .inl rfl⟩, touch_none hb⟩
  · rcases ho with rfl | ⟨b, m, f, rfl, h1, h2, hm, hr, hf⟩
    · simp at hz
    · refine (markBoolS _ zs.length c k b (b + 1) zs w rfl hk (by omega) (by omega) (.inr ⟨b, m, f, rfl, Nat.le_refl _, Nat.lt_succ_self _, hm, hr, hf⟩)).mono ?_
      rintro e w' ⟨rfl, S, hb⟩
      exact ⟨rfl, Lib.hid ⟨_, c, by simp [marksB], S.out.wide h1 h2⟩, touch_blk hz hb⟩
set_option maxRecDepth 100000 in
theorem heldLB (v : Value) (zs : List Bool) (k : Nat) (w : World) (h : RepL w v ((Lf.B zs).marks k)) (hk : 1 ≤ k) (hn : zs.length ≤ 4294967296) (hk2 : k ≤ 549755813888) :
    Calls Tryz.prog 102 #[v, .int .i64 (k : Int)] w fun e w' => e = .returned (.int .i64 ((k + (Lf.B zs).len : Nat) : Int)) ∧ Below w.heap.size w w' := by
  obtain ⟨A, c, rfl, hr⟩ := h
  have hl : (marksB k zs.length).length = zs.length := by simp [marksB]
  rw [hl]
  refine (heldBoolS A zs.length c k w hk (by omega) hr).mono ?_
  rintro e w' ⟨rfl, hb⟩
  exact ⟨rfl, hb ▸ Below.refl _ _⟩
end Go.Proofs.YtophgbjbinaekaaGreatDoor

/- Lists of leaves: their sizes, marks and segments. -/
namespace Go.Proofs.YtophgbjbinaekaaGreatDoor
open Go.RowKit

def lenA : List Lf → Nat
  | [] => 0
  | d :: ds => d.len + lenA ds
def szA : List Lf → Nat
  | [] => 0
  | d :: ds => d.sz + szA ds
def marksA : Nat → List Lf → List Lf
  | _, [] => []
  | k, d :: ds => d.marks k :: marksA (k + d.len) ds
def FitA (ds : List Lf) : Prop := ∀ d ∈ ds, d.fit
def BndA (ds : List Lf) : Prop := ∀ d ∈ ds, d.len ≤ 4294967296
def CapA (vs : List Value) : Prop := ∀ v ∈ vs, CapL v
theorem szA_len (ds : List Lf) : lenA ds ≤ 16 * szA ds := by
  induction ds with
  | nil => simp [lenA, szA]
  | cons d ds ih => have := d.len_le; simp [lenA, szA]; omega
theorem lenA_mem {ds : List Lf} {d : Lf} (h : d ∈ ds) : d.len ≤ lenA ds := by
  induction ds with
  | nil => cases h
  | cons e ds ih =>
    rcases List.mem_cons.1 h with rfl | h
    · simp [lenA]
    · have := ih h; simp [lenA]; omega
theorem CapA.cons {v : Value} {vs : List Value} (h : CapL v) (k : CapA vs) : CapA (v :: vs) := fun u hu => by
  rcases List.mem_cons.1 hu with rfl | hu
  · exact h
  · exact k u hu
theorem CapA.nil : CapA [] := fun _ h => by cases h
theorem CapA.app {a b : List Value} (h : CapA a) (k : CapA b) : CapA (a ++ b) := fun u hu => by
  rcases List.mem_append.1 hu with hu | hu
  · exact h u hu
  · exact k u hu
theorem CapA.sub {a b : List Value} (h : CapA a) (hs : ∀ v ∈ b, v ∈ a) : CapA b := fun u hu => h u (hs u hu)
theorem FitA.sub {a b : List Lf} (h : FitA a) (hs : ∀ d ∈ b, d ∈ a) : FitA b := fun u hu => h u (hs u hu)
theorem BndA.sub {a b : List Lf} (h : BndA a) (hs : ∀ d ∈ b, d ∈ a) : BndA b := fun u hu => h u (hs u hu)
theorem BndA.of_len {ds : List Lf} (h : lenA ds ≤ 4294967296) : BndA ds := fun _ hd => Nat.le_trans (lenA_mem hd) h

theorem AllA.split {P : Value → Lf → Prop} : ∀ {a b : List Value} {da db : List Lf}, a.length = da.length → AllA P (a ++ b) (da ++ db) → AllA P a da ∧ AllA P b db
  | [], _, [], _, _, h => ⟨trivial, h⟩
  | _ :: _, _, _ :: _, _, hl, h => by
    have := AllA.split (by simpa using hl) h.2
    exact ⟨⟨h.1, this.1⟩, this.2⟩
  | [], _, _ :: _, _, hl, _ => by simp at hl
  | _ :: _, _, [], _, hl, _ => by simp at hl
theorem AllA.join {P : Value → Lf → Prop} : ∀ {a b : List Value} {da db : List Lf}, AllA P a da → AllA P b db → AllA P (a ++ b) (da ++ db)
  | [], _, [], _, _, k => k
  | _ :: _, _, _ :: _, _, h, k => ⟨h.1, AllA.join h.2 k⟩
  | [], _, _ :: _, _, h, _ => h.elim
  | _ :: _, _, [], _, h, _ => h.elim
theorem RepA.seg {w : World} {a m b : List Value} {da dm db : List Lf} (h : RepA w (a ++ (m ++ b)) (da ++ (dm ++ db))) (h1 : a.length = da.length) (h2 : m.length = dm.length) : RepA w m dm :=
  (AllA.split h2 (AllA.split h1 h).2).1
theorem OwnA.seg {w : World} {lo hi : Nat} {a m b : List Value} {da dm db : List Lf} (h : OwnA w lo hi (a ++ (m ++ b)) (da ++ (dm ++ db))) (h1 : a.length = da.length) (h2 : m.length = dm.length) : OwnA w lo hi m dm := by
  refine ⟨(AllA.split h2 (AllA.split h1 h.1).2).1, ?_⟩
  have := h.2
  rw [List.filterMap_append, List.filterMap_append, List.nodup_append] at this
  exact (List.nodup_append.1 this.2.1).1
theorem OwnA.reseg {w w' : World} {lo hi : Nat} {a m b : List Value} {da dm dm' db : List Lf} (h : OwnA w lo hi (a ++ (m ++ b)) (da ++ (dm ++ db))) (h1 : a.length = da.length) (h2 : m.length = dm.length) (k : OwnA w' lo hi m dm') (t : Touch m w w') : OwnA w' lo hi (a ++ (m ++ b)) (da ++ (dm' ++ db)) := by
  obtain ⟨ha, hmb⟩ := AllA.split h1 h.1
  obtain ⟨_, hb⟩ := AllA.split h2 hmb
  have hn := h.2
  rw [List.filterMap_append, List.filterMap_append, List.nodup_append] at hn
  obtain ⟨_, n2, n3⟩ := hn
  obtain ⟨_, _, n5⟩ := List.nodup_append.1 n2
  refine ⟨AllA.join (AllA.imp (fun v _ hv h => h.away t (fun x hx hm => ?_)) ha) (AllA.join k.1 (AllA.imp (fun v _ hv h => h.away t (fun x hx hm => ?_)) hb)), h.2⟩
  · exact n3 x (List.mem_filterMap.2 ⟨v, hv, hx⟩) x (List.mem_append.2 (.inl hm)) rfl
  · exact n5 x hm x (List.mem_filterMap.2 ⟨v, hv, hx⟩) rfl
theorem OwnA.one {w : World} {lo hi : Nat} {v : Value} {d : Lf} (h : OwnL w lo hi v d) : OwnA w lo hi [v] [d] := ⟨⟨h, trivial⟩, by
  cases hb : blkL v with
  | none => simp [hb]
  | some b => simp [hb]⟩
theorem OwnA.set {w : World} {lo hi : Nat} {vs : List Value} {ds : List Lf} (h : OwnA w lo hi vs ds) {p : Addr} (hp : p.block < lo) (u : Value) : OwnA (w.setCell p u) lo hi vs ds :=
  h.btw ((Btw.refl p.block (p.block + 1) w).setCell (Nat.le_refl _) (Nat.lt_succ_self _) u) (.inr hp)
theorem Touch.mem {m vs : List Value} {w w' : World} (h : Touch m w w') (hs : ∀ v ∈ m, v ∈ vs) : Touch vs w w' := h.more fun k hk => by
  obtain ⟨v, hv, he⟩ := List.mem_filterMap.1 hk
  exact List.mem_filterMap.2 ⟨v, hs v hv, he⟩
theorem Touch.chain {vs : List Value} {a b c : World} (h : Touch vs a b) (k : Touch vs b c) : Touch vs a c := (h.trans k).more fun x hx => by
  rw [List.filterMap_append, List.mem_append] at hx
  rcases hx with h | h <;> exact h
theorem Box.touch {w w' : World} {b lo hi : Nat} {t : TypeId} {cs : Array Value} {vs : List Value} {ds : List Lf} (X : Box w b t cs) (h : OwnA w lo hi vs ds) (k : Touch vs w w') (hb : b < lo ∨ hi ≤ b) : Box w' b t cs := X.btw (k.btw h) hb
theorem OwnA.len {w : World} {lo hi : Nat} {vs : List Value} {ds : List Lf} (h : OwnA w lo hi vs ds) : vs.length = ds.length := by
  have aux : ∀ {vs : List Value} {ds : List Lf}, AllA (OwnL w lo hi) vs ds → vs.length = ds.length := by
    intro vs
    induction vs with
    | nil => intro ds h; cases ds with
      | nil => rfl
      | cons => exact h.elim
    | cons v vs ih => intro ds h; cases ds with
      | nil => exact h.elim
      | cons d ds => simp [ih h.2]
  exact aux h.1
theorem repI {w : World} {A : Option Addr} {c : Nat} {zs : List Int} (h : RepL w (.slice A zs.length c) (.I zs)) : IntL w A zs := by
  obtain ⟨A', c', e, h⟩ := h
  injection e with e1 e2 e3
  subst e1
  exact h
theorem repB {w : World} {A : Option Addr} {c : Nat} {zs : List Bool} (h : RepL w (.slice A zs.length c) (.B zs)) : BoolL w A zs := by
  obtain ⟨A', c', e, h⟩ := h
  injection e with e1 e2 e3
  subst e1
  exact h
theorem OwnI.rowOf {w : World} {lo hi : Nat} {A : Option Addr} {zs : List Int} {c b : Nat} (h : OwnI w lo hi A zs) (hb : blkL (.slice A zs.length c) = some b) : ∃ m f, w.rowIs b 3 m f := by
  rcases h with rfl | ⟨g, m, f, rfl, _, _, _, hr, _⟩
  · rw [List.length_nil, blkL_zero] at hb; cases hb
  · rcases Nat.eq_zero_or_pos zs.length with hz | hz
    · rw [hz, blkL_zero] at hb; cases hb
    · rw [blkL_some hz] at hb; injection hb with hb; subst hb; exact ⟨m, f, hr⟩
theorem OwnB.rowOf {w : World} {lo hi : Nat} {A : Option Addr} {zs : List Bool} {c b : Nat} (h : OwnB w lo hi A zs) (hb : blkL (.slice A zs.length c) = some b) : ∃ m f, w.rowIs b 4 m f := by
  rcases h with rfl | ⟨g, m, f, rfl, _, _, _, hr, _⟩
  · rw [List.length_nil, blkL_zero] at hb; cases hb
  · rcases Nat.eq_zero_or_pos zs.length with hz | hz
    · rw [hz, blkL_zero] at hb; cases hb
    · rw [blkL_some hz] at hb; injection hb with hb; subst hb; exact ⟨m, f, hr⟩
theorem OwnS.rowOf {w : World} {lo hi : Nat} {A : Option Addr} {zs : List ByteArray} {c b : Nat} (h : OwnS w lo hi A zs) (hb : blkL (.slice A zs.length c) = some b) : ∃ m f, w.rowIs b 9 m f := by
  rcases h with rfl | ⟨g, m, f, rfl, _, _, _, hr, _⟩
  · rw [List.length_nil, blkL_zero] at hb; cases hb
  · rcases Nat.eq_zero_or_pos zs.length with hz | hz
    · rw [hz, blkL_zero] at hb; cases hb
    · rw [blkL_some hz] at hb; injection hb with hb; subst hb; exact ⟨m, f, hr⟩
theorem ownIB {w : World} {lo hi : Nat} {A C : Option Addr} {c d : Nat} {zs : List Int} {gs : List Bool} (h : OwnI w lo hi A zs) (g : OwnB w lo hi C gs) : OwnA w lo hi [.slice A zs.length c, .slice C gs.length d] [.I zs, .B gs] :=
  OwnA.cons ⟨A, c, rfl, h⟩ (OwnA.one ⟨C, d, rfl, g⟩) (fun b hb hm => by
    obtain ⟨m, f, hr⟩ := h.rowOf hb
    obtain ⟨v, hv, he⟩ := List.mem_filterMap.1 hm
    rw [List.mem_singleton] at hv
    subst hv
    obtain ⟨m', f', hr'⟩ := g.rowOf he
    exact row_ne hr hr' (by decide) rfl)
end Go.Proofs.YtophgbjbinaekaaGreatDoor

/- The laws' own functions over Instr, on leaves. Written by gen_t.py. -/
namespace Go.Proofs.YtophgbjbinaekaaGreatDoor
open Go.RowKit

end Go.Proofs.YtophgbjbinaekaaGreatDoor

/- The table of operations: what its rows hold; the lengths and cycles of operations on both sides. -/
namespace Go.Proofs.YtophgbjbinaekaaGreatDoor
open Go.RowKit

def opWords : List ByteArray := [⟨#[110, 111, 112]⟩, ⟨#[104, 97, 108, 116]⟩, ⟨#[114, 101, 116, 105]⟩, ⟨#[101, 105]⟩, ⟨#[100, 105]⟩, ⟨#[108, 100, 105]⟩, ⟨#[108, 100]⟩, ⟨#[115, 116]⟩, ⟨#[105, 110, 99]⟩, ⟨#[100, 101, 99]⟩, ⟨#[97, 100, 100]⟩, ⟨#[115, 117, 98]⟩, ⟨#[97, 110, 100]⟩, ⟨#[111, 114]⟩, ⟨#[120, 111, 114]⟩, ⟨#[106, 112]⟩, ⟨#[106, 122]⟩, ⟨#[106, 110, 122]⟩, ⟨#[99, 97, 108, 108]⟩, ⟨#[114, 101, 116]⟩, ⟨#[115, 119, 105]⟩, ⟨#[98, 97, 110, 107]⟩, ⟨#[]⟩]
def opWord (k : Nat) : ByteArray := opWords.getD k ByteArray.empty
def regT (k : Int) : Int := if 5 ≤ k ∧ k ≤ 14 then 3 else 0
def argT (k : Int) : Int := if k = 21 then 3 else if k = 5 ∨ k = 20 then 255 else if k = 6 ∨ k = 7 ∨ (15 ≤ k ∧ k ≤ 18) then 4095 else 0
def fixT (k : Int) : Int := if k = 18 ∨ k = 19 ∨ k = 2 then 8 else if k = 20 ∨ k = 22 then 12 else 0
def lenT (k : Int) : Int := if k = 5 ∨ k = 20 ∨ k = 21 then 2 else if k = 6 ∨ k = 7 ∨ (15 ≤ k ∧ k ≤ 18) then 3 else 1
def cycT (k : Int) : Int := if k = 18 ∨ k = 19 ∨ k = 2 then 8 else if k = 20 ∨ k = 22 then 12 else 2 * lenT k
def okIns (op reg arg : Int) : Bool := decide (0 ≤ op ∧ op ≤ 21 ∧ 0 ≤ reg ∧ reg ≤ regT op ∧ 0 ≤ arg ∧ arg ≤ argT op)
def lenA_ (a : Int) : Int := if 255 < a then 3 else if 0 < a then 2 else 1
theorem lenA_arg (k : Int) : lenA_ (argT k) = lenT k := by
  unfold lenA_ argT lenT
  repeat' split
  all_goals omega
theorem lenT_range (k : Int) : 1 ≤ lenT k ∧ lenT k ≤ 3 := by
  unfold lenT
  repeat' split
  all_goals omega
theorem regT_range (k : Int) : 0 ≤ regT k ∧ regT k ≤ 3 := by
  unfold regT
  split <;> omega
theorem argT_range (k : Int) : 0 ≤ argT k ∧ argT k ≤ 4095 := by
  unfold argT
  repeat' split
  all_goals omega
def OpsT (w : World) : Prop := ∀ k : Nat, k < 23 → w.cell? ⟨0, k * 4, none⟩ = some (.string (opWord k)) ∧ w.cell? ⟨0, k * 4 + 1, none⟩ = some (.int .i64 (regT k)) ∧ w.cell? ⟨0, k * 4 + 2, none⟩ = some (.int .i64 (argT k)) ∧ w.cell? ⟨0, k * 4 + 3, none⟩ = some (.int .i64 (fixT k))
theorem OpsT.lt {w : World} (h : OpsT w) : 0 < w.heap.size := cell_lt (h 0 (by omega)).1
theorem OpsT.below {w w' : World} (h : OpsT w) (hb : Below w.heap.size w w') : OpsT w' := fun k hk => by
  obtain ⟨h1, h2, h3, h4⟩ := h k hk
  exact ⟨(hb.cell (cell_lt h1)).trans h1, (hb.cell (cell_lt h2)).trans h2, (hb.cell (cell_lt h3)).trans h3, (hb.cell (cell_lt h4)).trans h4⟩

section
variable (s : ByteArray) (r a c : Int) (w : World)
set_option maxRecDepth 100000 in
theorem opLength : Calls Tryz.prog 73 #[.agg #[.string s, .int .i64 r, .int .i64 a, .int .i64 c]] w fun e w' => e = .returned (.int .i64 (lenA_ a)) ∧ Below w.heap.size w w' := by
  have hb0 := alloc_below w (.cells #[.string s, .int .i64 r, .int .i64 a, .int .i64 c] 100)
  obtain ⟨n, hn⟩ : ∃ n, lenA_ a = n := ⟨_, rfl⟩
  rw [hn]
  unfold lenA_ at hn
  by_cases h1 : 255 < a
  · rw [if_pos h1] at hn
    subst hn
    go_enter Tryz.func73, Tryz.ntmps73
    go_wp2
    go_ret
    exact ⟨rfl, hb0⟩
  · rw [if_neg h1] at hn
    by_cases h2 : 0 < a
    · rw [if_pos h2] at hn
      subst hn
      go_enter Tryz.func73, Tryz.ntmps73
      go_wp2
      go_ret
      exact ⟨rfl, hb0⟩
    · rw [if_neg h2] at hn
      subst hn
      go_enter Tryz.func73, Tryz.ntmps73
      go_wp2
      go_ret
      exact ⟨rfl, hb0⟩
set_option maxRecDepth 100000 in
theorem opCycles  : Calls Tryz.prog 75 #[.agg #[.string s, .int .i64 r, .int .i64 a, .int .i64 c]] w fun e w' => e = .returned (.int .i64 (if 0 < c then c else 2 * lenA_ a)) ∧ Below w.heap.size w w' := by
  have hb0 := alloc_below w (.cells #[.string s, .int .i64 r, .int .i64 a, .int .i64 c] 100)
  by_cases h1 : 0 < c
  · rw [if_pos h1]
    go_enter Tryz.func75, Tryz.ntmps75
    go_wp2
    go_ret
    exact ⟨rfl, hb0⟩
  · rw [if_neg h1]
    have HL := Lib.hid (opLength s r a c (w.alloc (.cells #[.string s, .int .i64 r, .int .i64 a, .int .i64 c] 100)))
    have hr : 1 ≤ lenA_ a ∧ lenA_ a ≤ 3 := by unfold lenA_; repeat' split
                                              all_goals omega
    generalize lenA_ a = n at HL hr
    obtain ⟨hr1, hr2⟩ := hr
    go_enter Tryz.func75, Tryz.ntmps75
    go_wp2_with fail
    refine HL.out.mono ?_
    rintro e w1 ⟨rfl, hb1⟩
    go_wp2
    go_ret
    exact ⟨rfl, bt hb0 hb1⟩
end

end Go.Proofs.YtophgbjbinaekaaGreatDoor

/- A contract of a callee that leaves the world alone, inside a region that only reads. -/
namespace Go.Proofs.YtophgbjbinaekaaGreatDoor
open Go.RowKit
theorem quietSame {P : Program} {f : FuncId} {args : Array Value} {w : World} {n : Nat} {v : Value}
    (h : Calls P f args (w.drewN n) fun e w' => e = .returned v ∧ w.drewN n = w') : Calls P f args (w.drewN n) fun e w' => e = .returned v ∧ ∃ m, w' = w.drewN m :=
  h.mono fun _ _ ⟨he, hw⟩ => ⟨he, n, hw.symm⟩
end Go.Proofs.YtophgbjbinaekaaGreatDoor

/- Valid instructions, lengths and cycles: both sides. -/
namespace Go.Proofs.YtophgbjbinaekaaGreatDoor
open Go.RowKit

def rngB (n lo hi : Int) : Bool := decide (lo ≤ n ∧ n ≤ hi)
def bitI (b : Bool) : Int := if b then 1 else 0
theorem rngB_t {n lo hi : Int} (h : lo ≤ n ∧ n ≤ hi) : rngB n lo hi = true := by simp [rngB, h]
theorem rngB_f {n lo hi : Int} (h : ¬ (lo ≤ n ∧ n ≤ hi)) : rngB n lo hi = false := by simp only [rngB, decide_eq_false_iff_not]; exact h
set_option maxRecDepth 100000 in
theorem l01InA (n lo hi : Int) (w : World) : Calls Tryz.prog 49 #[.int .i64 n, .int .i64 lo, .int .i64 hi] w fun e w' => e = .returned (.bool (rngB n lo hi)) ∧ w = w' := by
  go_enter Tryz.func49, Tryz.ntmps49
  go_wp2
  all_goals go_ret
  all_goals (refine ⟨ret_bool ?_, rfl⟩)
  all_goals (unfold rngB; rw [Bool.eq_iff_iff]; simp; try omega)
set_option maxRecDepth 100000 in
theorem isUpToA (n l : Int) (w : World) : Calls Tryz.prog 43 #[.int .i64 n, .int .i64 l] w fun e w' => e = .returned (.bool (rngB n 0 l)) ∧ w = w' := by
  go_enter Tryz.func43, Tryz.ntmps43
  go_wp2
  all_goals go_ret
  all_goals (refine ⟨ret_bool ?_, rfl⟩)
  all_goals (unfold rngB; rw [Bool.eq_iff_iff]; simp; try omega)
set_option maxRecDepth 100000 in
theorem l01BitA (b : Bool) (w : World) : Calls Tryz.prog 139 #[.bool b] w fun e w' => e = .returned (.int .i64 (bitI b)) ∧ w = w' := by
  cases b
  all_goals
    go_enter Tryz.func139, Tryz.ntmps139
    go_wp2
    go_ret
    exact ⟨rfl, rfl⟩
set_option maxRecDepth 100000 in
theorem l07RegA (n : Int) (w : World) : Calls Tryz.prog 149 #[.int .i64 n] w fun e w' => e = .returned (.bool (rngB n 5 14)) ∧ w = w' := by
  go_enter Tryz.func149, Tryz.ntmps149
  go_wp2_with (go_at_call 49; refine (l01InA _ _ _ _).mono ?_; rintro e w' ⟨rfl, rfl⟩)
  go_ret
  exact ⟨rfl, rfl⟩
set_option maxRecDepth 100000 in
theorem l07LengthA (n : Int) (w : World) : Calls Tryz.prog 83 #[.int .i64 n] w fun e w' => e = .returned (.int .i64 (lenT n)) ∧ w = w' := by
  by_cases h5 : n = 5
  · subst h5
    have HL : Hid (lenT 5 = 2) := Lib.hid (by decide)
    generalize lenT 5 = z at HL
    go_enter Tryz.func83, Tryz.ntmps83
    go_wp2
    go_ret
    exact ⟨ret_int HL.out.symm, rfl⟩
  by_cases h20 : n = 20
  · subst h20
    have HL : Hid (lenT 20 = 2) := Lib.hid (by decide)
    generalize lenT 20 = z at HL
    go_enter Tryz.func83, Tryz.ntmps83
    go_wp2
    go_ret
    exact ⟨ret_int HL.out.symm, rfl⟩
  by_cases h21 : n = 21
  · subst h21
    have HL : Hid (lenT 21 = 2) := Lib.hid (by decide)
    generalize lenT 21 = z at HL
    go_enter Tryz.func83, Tryz.ntmps83
    go_wp2
    go_ret
    exact ⟨ret_int HL.out.symm, rfl⟩
  by_cases h6 : n = 6
  · subst h6
    have HL : Hid (lenT 6 = 3) := Lib.hid (by decide)
    generalize lenT 6 = z at HL
    go_enter Tryz.func83, Tryz.ntmps83
    go_wp2
    go_ret
    exact ⟨ret_int HL.out.symm, rfl⟩
  by_cases h7 : n = 7
  · subst h7
    have HL : Hid (lenT 7 = 3) := Lib.hid (by decide)
    generalize lenT 7 = z at HL
    go_enter Tryz.func83, Tryz.ntmps83
    go_wp2
    go_ret
    exact ⟨ret_int HL.out.symm, rfl⟩
  by_cases h15 : n = 15
  · subst h15
    have HL : Hid (lenT 15 = 3) := Lib.hid (by decide)
    generalize lenT 15 = z at HL
    go_enter Tryz.func83, Tryz.ntmps83
    go_wp2
    go_ret
    exact ⟨ret_int HL.out.symm, rfl⟩
  by_cases h16 : n = 16
  · subst h16
    have HL : Hid (lenT 16 = 3) := Lib.hid (by decide)
    generalize lenT 16 = z at HL
    go_enter Tryz.func83, Tryz.ntmps83
    go_wp2
    go_ret
    exact ⟨ret_int HL.out.symm, rfl⟩
  by_cases h17 : n = 17
  · subst h17
    have HL : Hid (lenT 17 = 3) := Lib.hid (by decide)
    generalize lenT 17 = z at HL
    go_enter Tryz.func83, Tryz.ntmps83
    go_wp2
    go_ret
    exact ⟨ret_int HL.out.symm, rfl⟩
  by_cases h18 : n = 18
  · subst h18
    have HL : Hid (lenT 18 = 3) := Lib.hid (by decide)
    generalize lenT 18 = z at HL
    go_enter Tryz.func83, Tryz.ntmps83
    go_wp2
    go_ret
    exact ⟨ret_int HL.out.symm, rfl⟩
  have HL : Hid (lenT n = 1) := Lib.hid (by unfold lenT; rw [if_neg (by omega), if_neg (by omega)])
  generalize lenT n = z at HL
  go_enter Tryz.func83, Tryz.ntmps83
  go_wp2
  go_ret
  exact ⟨ret_int HL.out.symm, rfl⟩
set_option maxRecDepth 100000 in
theorem l07CyclesA (n : Int) (w : World) : Calls Tryz.prog 82 #[.int .i64 n] w fun e w' => e = .returned (.int .i64 (cycT n)) ∧ w = w' := by
  by_cases h18 : n = 18
  · subst h18
    have HL : Hid (cycT 18 = 8) := Lib.hid (by decide)
    generalize cycT 18 = z at HL
    go_enter Tryz.func82, Tryz.ntmps82
    go_wp2
    go_ret
    exact ⟨ret_int HL.out.symm, rfl⟩
  by_cases h19 : n = 19
  · subst h19
    have HL : Hid (cycT 19 = 8) := Lib.hid (by decide)
    generalize cycT 19 = z at HL
    go_enter Tryz.func82, Tryz.ntmps82
    go_wp2
    go_ret
    exact ⟨ret_int HL.out.symm, rfl⟩
  by_cases h2 : n = 2
  · subst h2
    have HL : Hid (cycT 2 = 8) := Lib.hid (by decide)
    generalize cycT 2 = z at HL
    go_enter Tryz.func82, Tryz.ntmps82
    go_wp2
    go_ret
    exact ⟨ret_int HL.out.symm, rfl⟩
  by_cases h20 : n = 20
  · subst h20
    have HL : Hid (cycT 20 = 12) := Lib.hid (by decide)
    generalize cycT 20 = z at HL
    go_enter Tryz.func82, Tryz.ntmps82
    go_wp2
    go_ret
    exact ⟨ret_int HL.out.symm, rfl⟩
  by_cases h22 : n = 22
  · subst h22
    have HL : Hid (cycT 22 = 12) := Lib.hid (by decide)
    generalize cycT 22 = z at HL
    go_enter Tryz.func82, Tryz.ntmps82
    go_wp2
    go_ret
    exact ⟨ret_int HL.out.symm, rfl⟩
  have HL : Hid (cycT n = 2 * lenT n) := Lib.hid (by unfold cycT; rw [if_neg (by omega), if_neg (by omega)])
  generalize cycT n = z at HL
  have hr := lenT_range n
  have HG := Lib.hid (l07LengthA n)
  generalize lenT n = l at HL hr HG
  obtain ⟨hr1, hr2⟩ := hr
  go_enter Tryz.func82, Tryz.ntmps82
  go_wp2_with (go_at_call 83; refine (HG.out _).mono ?_; rintro e w' ⟨rfl, rfl⟩)
  go_ret
  exact ⟨ret_int HL.out.symm, rfl⟩
theorem okIns_op (op reg arg : Int) (h : ¬ (0 ≤ op ∧ op ≤ 21)) : okIns op reg arg = false := by unfold okIns; simp only [decide_eq_false_iff_not]; omega
theorem okIns_reg (op reg arg : Int) (h : ¬ (0 ≤ reg ∧ reg ≤ regT op)) : okIns op reg arg = false := by unfold okIns; simp only [decide_eq_false_iff_not]; omega
theorem okIns_arg (op reg arg : Int) (h0 : 0 ≤ op ∧ op ≤ 21) (h : 0 ≤ reg ∧ reg ≤ regT op) : okIns op reg arg = rngB arg 0 (argT op) := by
  unfold okIns rngB; rw [Bool.eq_iff_iff]; simp only [decide_eq_true_eq]; omega
theorem arg_len (op : Int) (h : ¬ op = 21) : argT op = (if lenT op = 1 then 0 else if lenT op = 2 then 255 else 4095) := by
  unfold argT lenT
  rw [if_neg h]
  by_cases h1 : op = 5 ∨ op = 20
  · rw [if_pos h1, if_pos (show op = 5 ∨ op = 20 ∨ op = 21 from by omega)]; rfl
  · rw [if_neg h1, if_neg (show ¬ (op = 5 ∨ op = 20 ∨ op = 21) from by omega)]
    split <;> rfl
theorem in_zero (n : Int) : rngB n 0 0 = (n == 0) := by unfold rngB; rw [Bool.eq_iff_iff]; simp; omega
section
variable (op reg arg : Int) (w : World)
set_option maxRecDepth 100000 in
set_option maxHeartbeats 2000000 in
theorem valid (ht : OpsT w) : Calls Tryz.prog 142 #[.agg #[.int .i64 op, .int .i64 reg, .int .i64 arg]] w fun e w' => e = .returned (.bool (okIns op reg arg)) ∧ Below w.heap.size w w' := by
  have hb0 := alloc_below w (.cells #[.int .i64 op, .int .i64 reg, .int .i64 arg] 97)
  have HV := Lib.hid (ht.below hb0)
  have hlt := ht.lt
  clear ht
  by_cases h0 : 0 ≤ op ∧ op ≤ 21
  · have HY := Lib.hid (okIns_arg op reg arg h0)
    have HN := Lib.hid (okIns_reg op reg arg)
    obtain ⟨k, rfl⟩ : ∃ k : Nat, op = k := ⟨op.toNat, by omega⟩
    obtain ⟨-, h02⟩ := h0
    have h03 : ¬ (22 : Int) ≤ (k : Int) := by omega
    obtain ⟨c1, c2, c3, c4⟩ := HV.out k (by omega)
    generalize okIns k reg arg = o at HY HN ⊢
    generalize opWord k = s at c1
    generalize regT k = r at c2 HY HN
    generalize argT k = a at c3 HY HN
    generalize fixT k = c at c4
    by_cases h1 : 0 ≤ reg ∧ reg ≤ r
    · have q1 := rngB_t h1
      have HY := Lib.hid (HY.out h1)
      clear HV HN
      by_cases h2 : 0 ≤ arg ∧ arg ≤ a
      · have q2 := rngB_t h2
        have HY := Lib.hid (HY.out.trans q2)
        clear h1 h2
        go_enter Tryz.func142, Tryz.ntmps142
        go_wp2_with (go_at_call 43; refine (isUpToA _ _ _).mono ?_; rintro e w' ⟨rfl, rfl⟩)
        go_ret
        exact ⟨ret_bool HY.out.symm, hb0.alloc (by simp) _⟩
      · have q2 := rngB_f h2
        have HY := Lib.hid (HY.out.trans q2)
        clear h1 h2
        go_enter Tryz.func142, Tryz.ntmps142
        go_wp2_with (go_at_call 43; refine (isUpToA _ _ _).mono ?_; rintro e w' ⟨rfl, rfl⟩)
        go_ret
        exact ⟨ret_bool HY.out.symm, hb0.alloc (by simp) _⟩
    · have q1 := rngB_f h1
      have HY := Lib.hid (HN.out h1)
      clear HV HN h1
      go_enter Tryz.func142, Tryz.ntmps142
      go_wp2_with (go_at_call 43; refine (isUpToA _ _ _).mono ?_; rintro e w' ⟨rfl, rfl⟩)
      go_ret
      exact ⟨ret_bool HY.out.symm, hb0.alloc (by simp) _⟩
  · have HY := Lib.hid (okIns_op op reg arg h0)
    clear HV
    by_cases h1 : op < 0
    · clear h0
      go_enter Tryz.func142, Tryz.ntmps142
      go_wp2
      go_ret
      exact ⟨ret_bool HY.out.symm, hb0⟩
    · have h2 : 22 ≤ op := by omega
      clear h0
      go_enter Tryz.func142, Tryz.ntmps142
      go_wp2
      go_ret
      exact ⟨ret_bool HY.out.symm, hb0⟩

set_option maxRecDepth 100000 in
set_option maxHeartbeats 4000000 in
theorem specInstrOK : Calls Tryz.prog 133 #[.agg #[.int .i64 op, .int .i64 reg, .int .i64 arg]] w fun e w' => e = .returned (.bool (okIns op reg arg)) ∧ Below w.heap.size w w' := by
  have hb0 := alloc_below w (.cells #[.int .i64 op, .int .i64 reg, .int .i64 arg] 97)
  by_cases h0 : 0 ≤ op ∧ op ≤ 21
  · have HY := Lib.hid (okIns_arg op reg arg h0)
    have HN := Lib.hid (okIns_reg op reg arg)
    have p0 := rngB_t h0
    clear h0
    by_cases h5 : 5 ≤ op ∧ op ≤ 14
    · have p1 := rngB_t h5
      have HR : Hid (regT op = 3) := Lib.hid (by unfold regT; rw [if_pos h5])
      rw [HR.out] at HY HN
      have pb : bitI true = 1 := rfl
      clear h5
      by_cases h1 : 0 ≤ reg ∧ reg ≤ 3
      · have p2 := rngB_t h1
        have HY := Lib.hid (HY.out h1)
        clear HN h1
        have HG := Lib.hid (l07LengthA op)
        by_cases g0 : op = 21
        · subst g0
          have HY := Lib.hid HY.out
          generalize okIns 21 reg arg = o at HY ⊢
          have HA : Hid (argT 21 = 3) := Lib.hid (by decide)
          go_enter Tryz.func133, Tryz.ntmps133
          go_wp2
          go_quiet ((first | (go_at_call 49; exact quietSame (l01InA _ _ _ _)) | (go_at_call 149; exact quietSame (l07RegA _ _)) | (go_at_call 139; exact quietSame (l01BitA _ _))))
          go_wp2_with (first | (go_at_call 49; refine (l01InA _ _ _ _).mono ?_; rintro e w' ⟨rfl, rfl⟩) | (go_at_call 83; refine (HG.out _).mono ?_; rintro e w' ⟨rfl, rfl⟩))
          go_ret
          exact ⟨ret_bool (by rw [HY.out, HA.out]), below_drewN hb0 _⟩
        · have g1 := fun h => g0 h
          have HA := Lib.hid (arg_len op g0)
          clear g1
          generalize okIns op reg arg = o at HY ⊢
          have hl := lenT_range op
          generalize lenT op = l at HG HA hl
          have hl3 : l = 1 ∨ l = 2 ∨ l = 3 := by omega
          clear hl
          rcases hl3 with rfl | rfl | rfl
          · have HA2 := Lib.hid (HA.out.trans (show (if (1 : Int) = 1 then (0 : Int) else if (1 : Int) = 2 then 255 else 4095) = 0 from by decide))
            clear HA
            go_enter Tryz.func133, Tryz.ntmps133
            go_wp2
            go_quiet ((first | (go_at_call 49; exact quietSame (l01InA _ _ _ _)) | (go_at_call 149; exact quietSame (l07RegA _ _)) | (go_at_call 139; exact quietSame (l01BitA _ _))))
            go_wp2_with (first | (go_at_call 49; refine (l01InA _ _ _ _).mono ?_; rintro e w' ⟨rfl, rfl⟩) | (go_at_call 83; refine (HG.out _).mono ?_; rintro e w' ⟨rfl, rfl⟩))
            go_ret
            exact ⟨ret_bool (by rw [HY.out, HA2.out]; exact (in_zero _).symm), below_drewN hb0 _⟩
          · have HA2 := Lib.hid (HA.out.trans (show (if (2 : Int) = 1 then (0 : Int) else if (2 : Int) = 2 then 255 else 4095) = 255 from by decide))
            clear HA
            go_enter Tryz.func133, Tryz.ntmps133
            go_wp2
            go_quiet ((first | (go_at_call 49; exact quietSame (l01InA _ _ _ _)) | (go_at_call 149; exact quietSame (l07RegA _ _)) | (go_at_call 139; exact quietSame (l01BitA _ _))))
            go_wp2_with (first | (go_at_call 49; refine (l01InA _ _ _ _).mono ?_; rintro e w' ⟨rfl, rfl⟩) | (go_at_call 83; refine (HG.out _).mono ?_; rintro e w' ⟨rfl, rfl⟩))
            go_ret
            exact ⟨ret_bool (by rw [HY.out, HA2.out]), below_drewN hb0 _⟩
          · have HA2 := Lib.hid (HA.out.trans (show (if (3 : Int) = 1 then (0 : Int) else if (3 : Int) = 2 then 255 else 4095) = 4095 from by decide))
            clear HA
            go_enter Tryz.func133, Tryz.ntmps133
            go_wp2
            go_quiet ((first | (go_at_call 49; exact quietSame (l01InA _ _ _ _)) | (go_at_call 149; exact quietSame (l07RegA _ _)) | (go_at_call 139; exact quietSame (l01BitA _ _))))
            go_wp2_with (first | (go_at_call 49; refine (l01InA _ _ _ _).mono ?_; rintro e w' ⟨rfl, rfl⟩) | (go_at_call 83; refine (HG.out _).mono ?_; rintro e w' ⟨rfl, rfl⟩))
            go_ret
            exact ⟨ret_bool (by rw [HY.out, HA2.out]), below_drewN hb0 _⟩
      · have p2 := rngB_f h1
        have HY := Lib.hid (HN.out h1)
        clear HN h1
        go_enter Tryz.func133, Tryz.ntmps133
        go_wp2
        go_quiet ((first | (go_at_call 49; exact quietSame (l01InA _ _ _ _)) | (go_at_call 149; exact quietSame (l07RegA _ _)) | (go_at_call 139; exact quietSame (l01BitA _ _))))
        go_wp2
        go_ret
        exact ⟨ret_bool HY.out.symm, below_drewN hb0 _⟩
    · have p1 := rngB_f h5
      have HR : Hid (regT op = 0) := Lib.hid (by unfold regT; rw [if_neg h5])
      rw [HR.out] at HY HN
      have pb : bitI false = 0 := rfl
      clear h5
      by_cases h1 : 0 ≤ reg ∧ reg ≤ 0
      · have p2 := rngB_t h1
        have HY := Lib.hid (HY.out h1)
        clear HN h1
        have HG := Lib.hid (l07LengthA op)
        by_cases g0 : op = 21
        · subst g0
          have HY := Lib.hid HY.out
          generalize okIns 21 reg arg = o at HY ⊢
          have HA : Hid (argT 21 = 3) := Lib.hid (by decide)
          go_enter Tryz.func133, Tryz.ntmps133
          go_wp2
          go_quiet ((first | (go_at_call 49; exact quietSame (l01InA _ _ _ _)) | (go_at_call 149; exact quietSame (l07RegA _ _)) | (go_at_call 139; exact quietSame (l01BitA _ _))))
          go_wp2_with (first | (go_at_call 49; refine (l01InA _ _ _ _).mono ?_; rintro e w' ⟨rfl, rfl⟩) | (go_at_call 83; refine (HG.out _).mono ?_; rintro e w' ⟨rfl, rfl⟩))
          go_ret
          exact ⟨ret_bool (by rw [HY.out, HA.out]), below_drewN hb0 _⟩
        · have g1 := fun h => g0 h
          have HA := Lib.hid (arg_len op g0)
          clear g1
          generalize okIns op reg arg = o at HY ⊢
          have hl := lenT_range op
          generalize lenT op = l at HG HA hl
          have hl3 : l = 1 ∨ l = 2 ∨ l = 3 := by omega
          clear hl
          rcases hl3 with rfl | rfl | rfl
          · have HA2 := Lib.hid (HA.out.trans (show (if (1 : Int) = 1 then (0 : Int) else if (1 : Int) = 2 then 255 else 4095) = 0 from by decide))
            clear HA
            go_enter Tryz.func133, Tryz.ntmps133
            go_wp2
            go_quiet ((first | (go_at_call 49; exact quietSame (l01InA _ _ _ _)) | (go_at_call 149; exact quietSame (l07RegA _ _)) | (go_at_call 139; exact quietSame (l01BitA _ _))))
            go_wp2_with (first | (go_at_call 49; refine (l01InA _ _ _ _).mono ?_; rintro e w' ⟨rfl, rfl⟩) | (go_at_call 83; refine (HG.out _).mono ?_; rintro e w' ⟨rfl, rfl⟩))
            go_ret
            exact ⟨ret_bool (by rw [HY.out, HA2.out]; exact (in_zero _).symm), below_drewN hb0 _⟩
          · have HA2 := Lib.hid (HA.out.trans (show (if (2 : Int) = 1 then (0 : Int) else if (2 : Int) = 2 then 255 else 4095) = 255 from by decide))
            clear HA
            go_enter Tryz.func133, Tryz.ntmps133
            go_wp2
            go_quiet ((first | (go_at_call 49; exact quietSame (l01InA _ _ _ _)) | (go_at_call 149; exact quietSame (l07RegA _ _)) | (go_at_call 139; exact quietSame (l01BitA _ _))))
            go_wp2_with (first | (go_at_call 49; refine (l01InA _ _ _ _).mono ?_; rintro e w' ⟨rfl, rfl⟩) | (go_at_call 83; refine (HG.out _).mono ?_; rintro e w' ⟨rfl, rfl⟩))
            go_ret
            exact ⟨ret_bool (by rw [HY.out, HA2.out]), below_drewN hb0 _⟩
          · have HA2 := Lib.hid (HA.out.trans (show (if (3 : Int) = 1 then (0 : Int) else if (3 : Int) = 2 then 255 else 4095) = 4095 from by decide))
            clear HA
            go_enter Tryz.func133, Tryz.ntmps133
            go_wp2
            go_quiet ((first | (go_at_call 49; exact quietSame (l01InA _ _ _ _)) | (go_at_call 149; exact quietSame (l07RegA _ _)) | (go_at_call 139; exact quietSame (l01BitA _ _))))
            go_wp2_with (first | (go_at_call 49; refine (l01InA _ _ _ _).mono ?_; rintro e w' ⟨rfl, rfl⟩) | (go_at_call 83; refine (HG.out _).mono ?_; rintro e w' ⟨rfl, rfl⟩))
            go_ret
            exact ⟨ret_bool (by rw [HY.out, HA2.out]), below_drewN hb0 _⟩
      · have p2 := rngB_f h1
        have HY := Lib.hid (HN.out h1)
        clear HN h1
        go_enter Tryz.func133, Tryz.ntmps133
        go_wp2
        go_quiet ((first | (go_at_call 49; exact quietSame (l01InA _ _ _ _)) | (go_at_call 149; exact quietSame (l07RegA _ _)) | (go_at_call 139; exact quietSame (l01BitA _ _))))
        go_wp2
        go_ret
        exact ⟨ret_bool HY.out.symm, below_drewN hb0 _⟩
  · have HY := Lib.hid (okIns_op op reg arg h0)
    have p0 := rngB_f h0
    clear h0
    go_enter Tryz.func133, Tryz.ntmps133
    go_wp2
    go_quiet ((first | (go_at_call 49; exact quietSame (l01InA _ _ _ _)) | (go_at_call 149; exact quietSame (l07RegA _ _)) | (go_at_call 139; exact quietSame (l01BitA _ _))))
    go_wp2
    go_ret
    exact ⟨ret_bool HY.out.symm, below_drewN hb0 _⟩
end
end Go.Proofs.YtophgbjbinaekaaGreatDoor

/- LengthOf, CyclesOf on both sides. -/
namespace Go.Proofs.YtophgbjbinaekaaGreatDoor
open Go.RowKit

section
variable (n : Int) (w : World)
end
end Go.Proofs.YtophgbjbinaekaaGreatDoor

/- The laws' own functions over Flash, on leaves. Written by gen_t.py. -/
namespace Go.Proofs.YtophgbjbinaekaaGreatDoor
open Go.RowKit

set_option maxRecDepth 100000 in
set_option maxHeartbeats 2000000 in
theorem szFlashA (vA0 vA1 : Option Addr) (vc0 vc1 : Nat) (d0 : List Int) (d1 : List Bool) (d2 : Int) (left : Int) (w : World) (h : RepA w [.slice vA0 d0.length vc0, .slice vA1 d1.length vc1] [Lf.I d0, Lf.B d1]) (hf : FitA [Lf.I d0, Lf.B d1]) (h0 : 0 ≤ left) (h1 : left ≤ 1048576) :
    Calls Tryz.prog 52 #[.agg #[.slice vA0 d0.length vc0, .slice vA1 d1.length vc1, .int .i64 d2], .int .i64 left] w (Left left (szA [Lf.I d0, Lf.B d1]) w) := by
  have H0 := Lib.hid (fun W (hb : Below w.heap.size w W) l g0 g1 => szLI (.slice vA0 d0.length vc0) d0 l W ((h.below hb).1) (hf _ (by simp)) g0 g1)
  have H1 := Lib.hid (fun W (hb : Below w.heap.size w W) l g0 g1 => szLB (.slice vA1 d1.length vc1) d1 l W ((h.below hb).2.1) (hf _ (by simp)) g0 g1)
  have HR : Hid (szA [Lf.I d0, Lf.B d1] = (Lf.sz (Lf.I d0)) + (Lf.sz (Lf.B d1))) := Lib.hid (by simp only [szA]; omega)
  generalize szA [Lf.I d0, Lf.B d1] = sa at HR ⊢
  generalize (Lf.sz (Lf.I d0)) = z0 at HR H0
  generalize (Lf.sz (Lf.B d1)) = z1 at HR H1
  have hb0 := alloc_below w (.cells #[.slice vA0 d0.length vc0, .slice vA1 d1.length vc1, .int .i64 d2] 45)
  have X := Lib.hid (Box.new w 45 #[.slice vA0 d0.length vc0, .slice vA1 d1.length vc1, .int .i64 d2])
  clear h hf
  go_enter Tryz.func52, Tryz.ntmps52
  go_wp2_with fail
  refine (H0.out _ hb0 _ (by omega) (by omega)).mono ?_
  rintro e w1 ⟨hres, hc1⟩
  have X1 := Lib.hid (X.out.step hc1)
  have hb1 := bt hb0 hc1
  clear X hb0 hc1
  rcases hres with rfl | ⟨rfl, hle0⟩
  · go_wp2
    go_ret
    exact ⟨.inl rfl, hb1⟩
  have hp0 : ¬ left - (z0 : Int) < 0 := by omega
  have f1 := X1.out.cell 1 rfl
  go_wp2_with fail
  refine (H1.out _ hb1 _ (by omega) (by omega)).mono ?_
  rintro e w2 ⟨hres, hc2⟩
  have X2 := Lib.hid (X1.out.step hc2)
  have hb2 := bt hb1 hc2
  clear X1 hb1 hc2 f1
  rcases hres with rfl | ⟨rfl, hle1⟩
  · go_wp2
    go_ret
    exact ⟨.inl rfl, hb2⟩
  have hp1 : ¬ left - (z0 : Int) - (z1 : Int) < 0 := by omega
  go_wp2
  go_ret
  exact ⟨.inr ⟨ret_int (by have := HR.out; omega), by have := HR.out; omega⟩, hb2⟩

set_option maxRecDepth 100000 in
set_option maxHeartbeats 4000000 in
theorem toFlashA (vA0 vA1 : Option Addr) (vc0 vc1 : Nat) (d0 : List Int) (d1 : List Bool) (d2 : Int) (w : World) (h : RepA w [.slice vA0 d0.length vc0, .slice vA1 d1.length vc1] [Lf.I d0, Lf.B d1]) (hn : szA [Lf.I d0, Lf.B d1] ≤ 1048576) :
    Calls Tryz.prog 54 #[.agg #[.slice vA0 d0.length vc0, .slice vA1 d1.length vc1, .int .i64 d2]] w (fun e w' => ∃ uA0 uA1 uc0 uc1, e = .returned (.agg #[.slice uA0 d0.length uc0, .slice uA1 d1.length uc1, .int .i64 d2]) ∧ Hid (OwnA w' w.heap.size w'.heap.size [.slice uA0 d0.length uc0, .slice uA1 d1.length uc1] [Lf.I d0, Lf.B d1]) ∧ Hid (CapA [.slice uA0 d0.length uc0, .slice uA1 d1.length uc1]) ∧ Below w.heap.size w w') := by
  obtain ⟨W0, hW0⟩ : ∃ W0, W0 = (((w.alloc (.cells #[.slice vA0 d0.length vc0, .slice vA1 d1.length vc1, .int .i64 d2] 45)).alloc (.cells #[.slice none 0 0, .slice none 0 0, .int .i64 0] 29)).alloc (.cells #[.slice none 0 0, .slice none 0 0, .int .i64 0] 29)) := ⟨_, rfl⟩
  have hs0 : W0.heap.size = w.heap.size + 1 + 1 + 1 := by rw [hW0]; simp
  have hb0 : Below w.heap.size w W0 := by rw [hW0]; exact (((Below.refl _ _).alloc (Nat.le_refl _) _).alloc (by simp) _).alloc (by simp; omega) _
  have X0 : Hid (Box W0 w.heap.size 45 #[.slice vA0 d0.length vc0, .slice vA1 d1.length vc1, .int .i64 d2]) := Lib.hid (by rw [hW0]; exact ((Box.new _ _ _).alloc _).alloc _)
  have Y0 : Hid (Box W0 (w.heap.size + 1) 29 #[.slice none 0 0, .slice none 0 0, .int .i64 0]) := Lib.hid (by rw [hW0]; simpa using (Box.new (w.alloc (.cells #[.slice vA0 d0.length vc0, .slice vA1 d1.length vc1, .int .i64 d2] 45)) 29 #[.slice none 0 0, .slice none 0 0, .int .i64 0]).alloc (.cells #[.slice none 0 0, .slice none 0 0, .int .i64 0] 29))
  have Z0 : Hid (Box W0 (w.heap.size + 1 + 1) 29 #[.slice none 0 0, .slice none 0 0, .int .i64 0]) := Lib.hid (by rw [hW0]; simpa using Box.new ((w.alloc (.cells #[.slice vA0 d0.length vc0, .slice vA1 d1.length vc1, .int .i64 d2] 45)).alloc (.cells #[.slice none 0 0, .slice none 0 0, .int .i64 0] 29)) 29 #[.slice none 0 0, .slice none 0 0, .int .i64 0])
  have O0 : Hid (OwnA W0 (w.heap.size + 3) W0.heap.size [] []) := Lib.hid (OwnA.nil _ _ _)
  have H0 := Lib.hid (fun W (hb : Below w.heap.size w W) => toLI (.slice vA0 d0.length vc0) d0 W ((h.below hb).1) (by simp only [szA, Lf.sz] at hn; omega))
  have H1 := Lib.hid (fun W (hb : Below w.heap.size w W) => toLB (.slice vA1 d1.length vc1) d1 W ((h.below hb).2.1) (by simp only [szA, Lf.sz] at hn; omega))
  have HW0 := Lib.hid hW0
  have HS0 := Lib.hid hs0
  clear h hn hW0 hs0
  go_enter Tryz.func54, Tryz.ntmps54
  go_wp2_with fail
  rw [← HW0.out]
  refine (H0.out _ hb0).mono ?_
  rintro e w1 ⟨uA0, uc0, rfl, N1, K0, hc⟩
  have hq0 : w.heap.size + 3 ≤ W0.heap.size := by have := Z0.out.lt; omega
  have X1 := Lib.hid (X0.out.step hc)
  have Y1 := Lib.hid (Y0.out.step hc)
  have Z1 := Lib.hid (Z0.out.step hc)
  have O1 : Hid (OwnA w1 (w.heap.size + 3) w1.heap.size [.slice uA0 d0.length uc0] [Lf.I d0]) := Lib.hid ((O0.out.below hc).append (OwnA.one N1.out) (.inl (Nat.le_refl _)) (Nat.le_refl _) hq0 hc.size (Nat.le_refl _))
  have hb1 := bt hb0 hc
  clear X0 Y0 Z0 O0 hb0 hc N1 hq0 HW0 HS0
  have fa1 := X1.out.cell 1 rfl
  have fz0 := Z1.out.cell 0 rfl
  have gz0 := Z1.out.frozen 0
  go_wp2_with fail
  obtain ⟨V1, hV1⟩ : ∃ V1, V1 = (w1.setCell ⟨w.heap.size + 1 + 1, 0, none⟩ (.slice uA0 d0.length uc0)) := ⟨_, rfl⟩
  have X2 : Hid (Box V1 w.heap.size 45 #[.slice vA0 d0.length vc0, .slice vA1 d1.length vc1, .int .i64 d2]) := Lib.hid (by rw [hV1]; exact (X1.out.far (p := ⟨w.heap.size + 1 + 1, 0, none⟩) (by show w.heap.size ≠ w.heap.size + 1 + 1; omega) (.slice uA0 d0.length uc0)))
  have Y2 : Hid (Box V1 (w.heap.size + 1) 29 #[.slice none 0 0, .slice none 0 0, .int .i64 0]) := Lib.hid (by rw [hV1]; exact (Y1.out.far (p := ⟨w.heap.size + 1 + 1, 0, none⟩) (by show w.heap.size + 1 ≠ w.heap.size + 1 + 1; omega) (.slice uA0 d0.length uc0)))
  have Z2 : Hid (Box V1 (w.heap.size + 1 + 1) 29 #[.slice uA0 d0.length uc0, .slice none 0 0, .int .i64 0]) := Lib.hid (by rw [hV1]; exact (Z1.out.set 0 (.slice uA0 d0.length uc0)))
  have hsz2 : V1.heap.size = w1.heap.size := by rw [hV1]; simp [World.setCell]
  have O2 : Hid (OwnA V1 (w.heap.size + 3) V1.heap.size [.slice uA0 d0.length uc0] [Lf.I d0]) := Lib.hid (by rw [hsz2, hV1]; exact (O1.out.set (p := ⟨w.heap.size + 1 + 1, 0, none⟩) (by show w.heap.size + 1 + 1 < w.heap.size + 3; omega) (.slice uA0 d0.length uc0)))
  have hb2 : Below w.heap.size w V1 := by rw [hV1]; exact (hb1.setCell (p := ⟨w.heap.size + 1 + 1, 0, none⟩) (by show w.heap.size ≤ w.heap.size + 1 + 1; omega) (.slice uA0 d0.length uc0))
  rw [← hV1]
  clear X1 Y1 Z1 O1 hb1 hV1 hsz2 fa1 fz0 gz0
  refine (H1.out _ hb2).mono ?_
  rintro e w2 ⟨uA1, uc1, rfl, N1, K1, hc⟩
  have hq0 : w.heap.size + 3 ≤ V1.heap.size := by have := Z2.out.lt; omega
  have X3 := Lib.hid (X2.out.step hc)
  have Y3 := Lib.hid (Y2.out.step hc)
  have Z3 := Lib.hid (Z2.out.step hc)
  have O3 : Hid (OwnA w2 (w.heap.size + 3) w2.heap.size [.slice uA0 d0.length uc0, .slice uA1 d1.length uc1] [Lf.I d0, Lf.B d1]) := Lib.hid ((O2.out.below hc).append (OwnA.one N1.out) (.inl (Nat.le_refl _)) (Nat.le_refl _) hq0 hc.size (Nat.le_refl _))
  have hb3 := bt hb2 hc
  clear X2 Y2 Z2 O2 hb2 hc N1 hq0
  have fa2 := X3.out.cell 2 rfl
  have fz1 := Z3.out.cell 1 rfl
  have gz1 := Z3.out.frozen 1
  have fz2 := Z3.out.cell 2 rfl
  have gz2 := Z3.out.frozen 2
  have fz0 := Z3.out.cell 0 rfl
  have fy0 := Y3.out.cell 0 rfl
  have gy0 := Y3.out.frozen 0
  have fy1 := Y3.out.cell 1 rfl
  have gy1 := Y3.out.frozen 1
  have fy2 := Y3.out.cell 2 rfl
  have gy2 := Y3.out.frozen 2
  go_wp2
  refine bodyPost_ret (v := .agg #[.slice uA0 d0.length uc0, .slice uA1 d1.length uc1, .int .i64 d2]) (by simp [results, Tryz.results54, go_sem, fy0, fy1, fy2]) rfl ?_
  refine ⟨uA0, uA1, uc0, uc1, rfl, Lib.hid (((((((O3.out.set (p := ⟨w.heap.size + 1 + 1, 1, none⟩) (by show w.heap.size + 1 + 1 < w.heap.size + 3; omega) _).set (p := ⟨w.heap.size + 1 + 1, 2, none⟩) (by show w.heap.size + 1 + 1 < w.heap.size + 3; omega) _).set (p := ⟨w.heap.size + 1, 0, none⟩) (by show w.heap.size + 1 < w.heap.size + 3; omega) _).set (p := ⟨w.heap.size + 1, 1, none⟩) (by show w.heap.size + 1 < w.heap.size + 3; omega) _).set (p := ⟨w.heap.size + 1, 2, none⟩) (by show w.heap.size + 1 < w.heap.size + 3; omega) _)).wide (by omega) (by simp [World.setCell])), Lib.hid (CapA.cons K0.out (CapA.cons K1.out CapA.nil)), (((((hb3.setCell (p := ⟨w.heap.size + 1 + 1, 1, none⟩) (by show w.heap.size ≤ w.heap.size + 1 + 1; omega) _).setCell (p := ⟨w.heap.size + 1 + 1, 2, none⟩) (by show w.heap.size ≤ w.heap.size + 1 + 1; omega) _).setCell (p := ⟨w.heap.size + 1, 0, none⟩) (by show w.heap.size ≤ w.heap.size + 1; omega) _).setCell (p := ⟨w.heap.size + 1, 1, none⟩) (by show w.heap.size ≤ w.heap.size + 1; omega) _).setCell (p := ⟨w.heap.size + 1, 2, none⟩) (by show w.heap.size ≤ w.heap.size + 1; omega) _)⟩

set_option maxRecDepth 100000 in
set_option maxHeartbeats 4000000 in
theorem eqFlashA (vA0 vA1 : Option Addr) (vc0 vc1 : Nat) (uA0 uA1 : Option Addr) (uc0 uc1 : Nat) (d0 : List Int) (d1 : List Bool) (d2 : Int) (w : World) (h : RepA w [.slice vA0 d0.length vc0, .slice vA1 d1.length vc1] [Lf.I d0, Lf.B d1]) (h' : RepA w [.slice uA0 d0.length uc0, .slice uA1 d1.length uc1] [Lf.I d0, Lf.B d1]) (hn : lenA [Lf.I d0, Lf.B d1] ≤ maxLen) :
    Calls Tryz.prog 56 #[.agg #[.slice vA0 d0.length vc0, .slice vA1 d1.length vc1, .int .i64 d2], .agg #[.slice uA0 d0.length uc0, .slice uA1 d1.length uc1, .int .i64 d2]] w fun e w' => e = .returned (.bool true) ∧ Below w.heap.size w w' := by
  have H0 := Lib.hid (fun W (hb : Below w.heap.size w W) => eqLI (.slice vA0 d0.length vc0) (.slice uA0 d0.length uc0) d0 W ((h.below hb).1) ((h'.below hb).1) (by simp only [lenA, Lf.len] at hn; omega))
  have H1 := Lib.hid (fun W (hb : Below w.heap.size w W) => eqLB (.slice vA1 d1.length vc1) (.slice uA1 d1.length uc1) d1 W ((h.below hb).2.1) ((h'.below hb).2.1) (by simp only [lenA, Lf.len] at hn; omega))
  obtain ⟨W0, hW0⟩ : ∃ W0, W0 = ((w.alloc (.cells #[.slice vA0 d0.length vc0, .slice vA1 d1.length vc1, .int .i64 d2] 29)).alloc (.cells #[.slice uA0 d0.length uc0, .slice uA1 d1.length uc1, .int .i64 d2] 29)) := ⟨_, rfl⟩
  have hb0 : Below w.heap.size w W0 := by rw [hW0]; exact ((Below.refl _ _).alloc (Nat.le_refl _) _).alloc (by simp) _
  have X0 : Hid (Box W0 w.heap.size 29 #[.slice vA0 d0.length vc0, .slice vA1 d1.length vc1, .int .i64 d2]) := Lib.hid (by rw [hW0]; exact (Box.new _ _ _).alloc _)
  have Y0 : Hid (Box W0 (w.heap.size + 1) 29 #[.slice uA0 d0.length uc0, .slice uA1 d1.length uc1, .int .i64 d2]) := Lib.hid (by rw [hW0]; simpa using Box.new (w.alloc (.cells #[.slice vA0 d0.length vc0, .slice vA1 d1.length vc1, .int .i64 d2] 29)) 29 #[.slice uA0 d0.length uc0, .slice uA1 d1.length uc1, .int .i64 d2])
  have HW0 := Lib.hid hW0
  have hq2 : (d2 != d2) = false := by simp
  clear hW0 h h' hn
  go_enter Tryz.func56, Tryz.ntmps56
  go_wp2_with fail
  rw [← HW0.out]
  refine (H0.out _ hb0).mono ?_
  rintro e w1 ⟨rfl, hc⟩
  have X1 := Lib.hid (X0.out.step hc)
  have Y1 := Lib.hid (Y0.out.step hc)
  have hb1 := bt hb0 hc
  clear X0 Y0 hb0 hc HW0
  have k1 := X1.out.cell 1 rfl
  have l1 := Y1.out.cell 1 rfl
  go_wp2_with fail
  refine (H1.out _ hb1).mono ?_
  rintro e w2 ⟨rfl, hc⟩
  have X2 := Lib.hid (X1.out.step hc)
  have Y2 := Lib.hid (Y1.out.step hc)
  have hb2 := bt hb1 hc
  clear X1 Y1 hb1 hc k1 l1
  have k2 := X2.out.cell 2 rfl
  have l2 := Y2.out.cell 2 rfl
  go_wp2
  go_ret
  exact ⟨rfl, hb2⟩

set_option maxRecDepth 100000 in
set_option maxHeartbeats 4000000 in
theorem markFlashA (vA0 vA1 : Option Addr) (vc0 vc1 : Nat) (d0 : List Int) (d1 : List Bool) (d2 : Int) (k lo hi : Nat) (w : World) (h : OwnA w lo hi [.slice vA0 d0.length vc0, .slice vA1 d1.length vc1] [Lf.I d0, Lf.B d1]) (hhi : hi ≤ w.heap.size) (hk : 1 ≤ k) (hB : BndA [Lf.I d0, Lf.B d1]) (hk2 : k + lenA [Lf.I d0, Lf.B d1] ≤ 549755813888) :
    Calls Tryz.prog 58 #[.agg #[.slice vA0 d0.length vc0, .slice vA1 d1.length vc1, .int .i64 d2], .int .i64 (k : Int)] w fun e w' => e = .returned (.int .i64 ((k + lenA [Lf.I d0, Lf.B d1] : Nat) : Int)) ∧ Hid (OwnA w' lo hi [.slice vA0 d0.length vc0, .slice vA1 d1.length vc1] (marksA k [Lf.I d0, Lf.B d1])) ∧ Touch [.slice vA0 d0.length vc0, .slice vA1 d1.length vc1] w w' := by
  have hb0 := alloc_below w (.cells #[.slice vA0 d0.length vc0, .slice vA1 d1.length vc1, .int .i64 d2] 29)
  have X0 := Lib.hid (Box.new w 29 #[.slice vA0 d0.length vc0, .slice vA1 d1.length vc1, .int .i64 d2])
  have O0 := Lib.hid (h.below hb0)
  have T0 := Lib.hid (Touch.of_below hb0 [.slice vA0 d0.length vc0, .slice vA1 d1.length vc1])
  have H0 := Lib.hid (fun W (o : OwnL W lo hi (.slice vA0 d0.length vc0) (Lf.I d0)) => markLI (.slice vA0 d0.length vc0) d0 (k) lo hi W o (by omega) (hB (Lf.I d0) (by simp)) (by simp only [lenA] at hk2 ⊢; omega))
  have H1 := Lib.hid (fun W (o : OwnL W lo hi (.slice vA1 d1.length vc1) (Lf.B d1)) => markLB (.slice vA1 d1.length vc1) d1 (k + (Lf.len (Lf.I d0))) lo hi W o (by omega) (hB (Lf.B d1) (by simp)) (by simp only [lenA] at hk2 ⊢; omega))
  have HH := Lib.hid hhi
  clear h hb0 hB hk2 hk hhi
  go_enter Tryz.func58, Tryz.ntmps58
  have G0 := OwnA.seg (a := []) (m := [.slice vA0 d0.length vc0]) (b := [.slice vA1 d1.length vc1]) (da := []) (dm := [Lf.I d0]) (db := [Lf.B d1]) O0.out rfl rfl
  have HC0 := Lib.hid (H0.out _ G0.1.1)
  clear G0
  go_wp2_with fail
  refine HC0.out.mono ?_
  rintro e w1 ⟨rfl, M0, U0⟩
  have O1 := Lib.hid (OwnA.reseg (a := []) (m := [.slice vA0 d0.length vc0]) (b := [.slice vA1 d1.length vc1]) (da := []) (dm := [Lf.I d0]) (db := [Lf.B d1]) (dm' := [(Lf.I d0).marks (k)]) O0.out rfl rfl (OwnA.one M0.out) U0)
  have T1 := Lib.hid (T0.out.chain (U0.mem (by simp +contextual)))
  have X1 : Hid (Box w1 w.heap.size 29 #[.slice vA0 d0.length vc0, .slice vA1 d1.length vc1, .int .i64 d2]) := Lib.hid (X0.out.touch (OwnA.seg (a := []) (m := [.slice vA0 d0.length vc0]) (b := [.slice vA1 d1.length vc1]) (da := []) (dm := [Lf.I d0]) (db := [Lf.B d1]) O0.out rfl rfl) U0 (.inr HH.out))
  clear X0 O0 T0 M0 U0 HC0
  have f1 := X1.out.cell 1 rfl
  have G1 := OwnA.seg (a := [.slice vA0 d0.length vc0]) (m := [.slice vA1 d1.length vc1]) (b := []) (da := [(Lf.I d0).marks (k)]) (dm := [Lf.B d1]) (db := []) O1.out rfl rfl
  have HC1 := Lib.hid (H1.out _ G1.1.1)
  clear G1
  go_wp2_with fail
  try rw [HKe1.out]
  refine HC1.out.mono ?_
  rintro e w2 ⟨rfl, M1, U1⟩
  have O2 := Lib.hid (OwnA.reseg (a := [.slice vA0 d0.length vc0]) (m := [.slice vA1 d1.length vc1]) (b := []) (da := [(Lf.I d0).marks (k)]) (dm := [Lf.B d1]) (db := []) (dm' := [(Lf.B d1).marks (k + (Lf.len (Lf.I d0)))]) O1.out rfl rfl (OwnA.one M1.out) U1)
  have T2 := Lib.hid (T1.out.chain (U1.mem (by simp +contextual)))
  have X2 : Hid (Box w2 w.heap.size 29 #[.slice vA0 d0.length vc0, .slice vA1 d1.length vc1, .int .i64 d2]) := Lib.hid (X1.out.touch (OwnA.seg (a := [.slice vA0 d0.length vc0]) (m := [.slice vA1 d1.length vc1]) (b := []) (da := [(Lf.I d0).marks (k)]) (dm := [Lf.B d1]) (db := []) O1.out rfl rfl) U1 (.inr HH.out))
  clear X1 O1 T1 M1 U1 HC1 f1
  go_wp2
  go_ret
  refine ⟨?_, Lib.hid ?_, T2.out⟩
  · refine ret_int ?_
    simp only [lenA]; omega
  · have := O2.out
    first | exact this | (simp only [marksA, lenA, List.cons_append, List.nil_append, Nat.add_zero, Nat.add_assoc] at this ⊢; exact this)

set_option maxRecDepth 100000 in
set_option maxHeartbeats 4000000 in
theorem heldFlashA (vA0 vA1 : Option Addr) (vc0 vc1 : Nat) (d0 : List Int) (d1 : List Bool) (d2 : Int) (k : Nat) (w : World) (h : RepA w [.slice vA0 d0.length vc0, .slice vA1 d1.length vc1] (marksA k [Lf.I d0, Lf.B d1])) (hk : 1 ≤ k) (hB : BndA [Lf.I d0, Lf.B d1]) (hk2 : k + lenA [Lf.I d0, Lf.B d1] ≤ 549755813888) :
    Calls Tryz.prog 60 #[.agg #[.slice vA0 d0.length vc0, .slice vA1 d1.length vc1, .int .i64 d2], .int .i64 (k : Int)] w fun e w' => e = .returned (.int .i64 ((k + lenA [Lf.I d0, Lf.B d1] : Nat) : Int)) ∧ Below w.heap.size w w' := by
  have hb0 := alloc_below w (.cells #[.slice vA0 d0.length vc0, .slice vA1 d1.length vc1, .int .i64 d2] 29)
  have X0 := Lib.hid (Box.new w 29 #[.slice vA0 d0.length vc0, .slice vA1 d1.length vc1, .int .i64 d2])
  simp only [marksA] at h
  have H0 := Lib.hid (fun W (hb : Below w.heap.size w W) => heldLI (.slice vA0 d0.length vc0) d0 (k) W (by have := (h.below hb).1; simpa only [Nat.add_assoc] using this) (by omega) (hB (Lf.I d0) (by simp)) (by simp only [lenA] at hk2 ⊢; omega))
  have H1 := Lib.hid (fun W (hb : Below w.heap.size w W) => heldLB (.slice vA1 d1.length vc1) d1 (k + (Lf.len (Lf.I d0))) W (by have := (h.below hb).2.1; simpa only [Nat.add_assoc] using this) (by omega) (hB (Lf.B d1) (by simp)) (by simp only [lenA] at hk2 ⊢; omega))
  clear h hB hk hk2
  go_enter Tryz.func60, Tryz.ntmps60
  go_wp2_with fail
  refine (H0.out _ hb0).mono ?_
  rintro e w1 ⟨rfl, hc⟩
  have X1 := Lib.hid (X0.out.step hc)
  have hb1 := bt hb0 hc
  clear X0 hb0 hc
  have hp0 : ¬ ((k + (Lf.len (Lf.I d0)) : Nat) : Int) < 0 := by omega
  have f1 := X1.out.cell 1 rfl
  go_wp2_with fail
  refine (H1.out _ hb1).mono ?_
  rintro e w2 ⟨rfl, hc⟩
  have X2 := Lib.hid (X1.out.step hc)
  have hb2 := bt hb1 hc
  clear X1 hb1 hc f1
  have hp1 : ¬ ((k + (Lf.len (Lf.I d0)) + (Lf.len (Lf.B d1)) : Nat) : Int) < 0 := by omega
  go_wp2
  go_ret
  exact ⟨ret_int (by simp only [lenA]; omega), hb2⟩

end Go.Proofs.YtophgbjbinaekaaGreatDoor
