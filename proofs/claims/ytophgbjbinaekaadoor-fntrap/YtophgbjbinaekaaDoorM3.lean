/- Texts of this claim, one behind the other: GenC, GenInstr, OpTab, Quiet, OpOk, OpLen, GenFlash, GenMem, GenIrq, IrqOk, RegFacts, SameFlash, SameArray, SameFlashA, RegLast, Settle, Flush, Crash, Src, At2, SrcMore, Open, OpenBytes. -/
import Derived.BigQuiet
import Derived.Deep.QuietTactic
import Derived.WalkKit
import Derived.Deep.RegionHeld3
import Derived.Laws.CopyOwn
import Derived.OwnWalk
import Derived.Laws.OwnMore
import Derived.WalkLawsBesides
import Derived.StillTailTactics
import Derived.IntWalk
import Derived.Deep.Slices
import Derived.Lib.SmallJoins
import Derived.Test.YtophgbjbinaekaaDoorM2
/- Lists of leaves: their sizes, marks and segments. -/
namespace Go.Proofs.YtophgbjbinaekaaDoor
open Go.RowKit

def FitA (ds : List Lf) : Prop := ∀ d ∈ ds, d.fit
def BndA (ds : List Lf) : Prop := ∀ d ∈ ds, d.len ≤ 4294967296
def CapA (vs : List Value) : Prop := ∀ v ∈ vs, CapL v
theorem CapA.cons {v : Value} {vs : List Value} (h : CapL v) (k : CapA vs) : CapA (v :: vs) := fun u hu => by
  rcases List.mem_cons.1 hu with rfl | hu
  · exact h
  · exact k u hu
theorem CapA.nil : CapA [] := fun _ h => by cases h
theorem CapA.sub {a b : List Value} (h : CapA a) (hs : ∀ v ∈ b, v ∈ a) : CapA b := fun u hu => h u (hs u hu)
theorem FitA.sub {a b : List Lf} (h : FitA a) (hs : ∀ d ∈ b, d ∈ a) : FitA b := fun u hu => h u (hs u hu)
theorem BndA.sub {a b : List Lf} (h : BndA a) (hs : ∀ d ∈ b, d ∈ a) : BndA b := fun u hu => h u (hs u hu)
theorem AllA.split {P : Value → Lf → Prop} : ∀ {a b : List Value} {da db : List Lf}, a.length = da.length → AllA P (a ++ b) (da ++ db) → AllA P a da ∧ AllA P b db
  | [], _, [], _, _, h => ⟨trivial, h⟩
  | _ :: _, _, _ :: _, _, hl, h => by
    have := AllA.split (by simpa using hl) h.2
    exact ⟨⟨h.1, this.1⟩, this.2⟩
  | [], _, _ :: _, _, hl, _ => by simp at hl
  | _ :: _, _, [], _, hl, _ => by simp at hl
theorem AllA.join {P : Value → Lf → Prop} : ∀ {a b : List Value} {da db : List Lf}, AllA P a da → AllA P b db → AllA P (a ++ b) (da ++ db)
  | [], _, [], _, _, k => k
  | _ :: _, _, _ :: _, _, h, k => ⟨h.1, AllA.join h.2 k⟩
  | [], _, _ :: _, _, h, _ => h.elim
  | _ :: _, _, [], _, h, _ => h.elim
theorem OwnA.reseg {w w' : World} {lo hi : Nat} {a m b : List Value} {da dm dm' db : List Lf} (h : OwnA w lo hi (a ++ (m ++ b)) (da ++ (dm ++ db))) (h1 : a.length = da.length) (h2 : m.length = dm.length) (k : OwnA w' lo hi m dm') (t : Touch m w w') : OwnA w' lo hi (a ++ (m ++ b)) (da ++ (dm' ++ db)) := by
  obtain ⟨ha, hmb⟩ := AllA.split h1 h.1
  obtain ⟨_, hb⟩ := AllA.split h2 hmb
  have hn := h.2
  rw [List.filterMap_append, List.filterMap_append, List.nodup_append] at hn
  obtain ⟨_, n2, n3⟩ := hn
  obtain ⟨_, _, n5⟩ := List.nodup_append.1 n2
  refine ⟨AllA.join (AllA.imp (fun v _ hv h => h.away t (fun x hx hm => ?_)) ha) (AllA.join k.1 (AllA.imp (fun v _ hv h => h.away t (fun x hx hm => ?_)) hb)), h.2⟩
  · exact n3 x (List.mem_filterMap.2 ⟨v, hv, hx⟩) x (List.mem_append.2 (.inl hm)) rfl
  · exact n5 x hm x (List.mem_filterMap.2 ⟨v, hv, hx⟩) rfl
theorem OwnA.one {w : World} {lo hi : Nat} {v : Value} {d : Lf} (h : OwnL w lo hi v d) : OwnA w lo hi [v] [d] := ⟨⟨h, trivial⟩, by
  cases hb : blkL v with
  | none => simp [hb]
  | some b => simp [hb]⟩
theorem OwnA.set {w : World} {lo hi : Nat} {vs : List Value} {ds : List Lf} (h : OwnA w lo hi vs ds) {p : Addr} (hp : p.block < lo) (u : Value) : OwnA (w.setCell p u) lo hi vs ds :=
  h.btw ((Btw.refl p.block (p.block + 1) w).setCell (Nat.le_refl _) (Nat.lt_succ_self _) u) (.inr hp)
theorem Touch.mem {m vs : List Value} {w w' : World} (h : Touch m w w') (hs : ∀ v ∈ m, v ∈ vs) : Touch vs w w' := h.more fun k hk => by
  obtain ⟨v, hv, he⟩ := List.mem_filterMap.1 hk
  exact List.mem_filterMap.2 ⟨v, hs v hv, he⟩
theorem Box.touch {w w' : World} {b lo hi : Nat} {t : TypeId} {cs : Array Value} {vs : List Value} {ds : List Lf} (X : Box w b t cs) (h : OwnA w lo hi vs ds) (k : Touch vs w w') (hb : b < lo ∨ hi ≤ b) : Box w' b t cs := X.btw (k.btw h) hb
theorem OwnA.len {w : World} {lo hi : Nat} {vs : List Value} {ds : List Lf} (h : OwnA w lo hi vs ds) : vs.length = ds.length := by
  have aux : ∀ {vs : List Value} {ds : List Lf}, AllA (OwnL w lo hi) vs ds → vs.length = ds.length := by
    intro vs
    induction vs with
    | nil => intro ds h; cases ds with
      | nil => rfl
      | cons => exact h.elim
    | cons v vs ih => intro ds h; cases ds with
      | nil => exact h.elim
      | cons d ds => simp [ih h.2]
  exact aux h.1
theorem OwnI.rowOf {w : World} {lo hi : Nat} {A : Option Addr} {zs : List Int} {c b : Nat} (h : OwnI w lo hi A zs) (hb : blkL (.slice A zs.length c) = some b) : ∃ m f, w.rowIs b 3 m f := by
  rcases h with rfl | ⟨g, m, f, rfl, _, _, _, hr, _⟩
  · rw [List.length_nil, blkL_zero] at hb; cases hb
  · rcases Nat.eq_zero_or_pos zs.length with hz | hz
    · rw [hz, blkL_zero] at hb; cases hb
    · rw [blkL_some hz] at hb; injection hb with hb; subst hb; exact ⟨m, f, hr⟩
theorem OwnB.rowOf {w : World} {lo hi : Nat} {A : Option Addr} {zs : List Bool} {c b : Nat} (h : OwnB w lo hi A zs) (hb : blkL (.slice A zs.length c) = some b) : ∃ m f, w.rowIs b 4 m f := by
  rcases h with rfl | ⟨g, m, f, rfl, _, _, _, hr, _⟩
  · rw [List.length_nil, blkL_zero] at hb; cases hb
  · rcases Nat.eq_zero_or_pos zs.length with hz | hz
    · rw [hz, blkL_zero] at hb; cases hb
    · rw [blkL_some hz] at hb; injection hb with hb; subst hb; exact ⟨m, f, hr⟩
theorem OwnS.rowOf {w : World} {lo hi : Nat} {A : Option Addr} {zs : List ByteArray} {c b : Nat} (h : OwnS w lo hi A zs) (hb : blkL (.slice A zs.length c) = some b) : ∃ m f, w.rowIs b 9 m f := by
  rcases h with rfl | ⟨g, m, f, rfl, _, _, _, hr, _⟩
  · rw [List.length_nil, blkL_zero] at hb; cases hb
  · rcases Nat.eq_zero_or_pos zs.length with hz | hz
    · rw [hz, blkL_zero] at hb; cases hb
    · rw [blkL_some hz] at hb; injection hb with hb; subst hb; exact ⟨m, f, hr⟩
theorem ownIB {w : World} {lo hi : Nat} {A C : Option Addr} {c d : Nat} {zs : List Int} {gs : List Bool} (h : OwnI w lo hi A zs) (g : OwnB w lo hi C gs) : OwnA w lo hi [.slice A zs.length c, .slice C gs.length d] [.I zs, .B gs] :=
  OwnA.cons ⟨A, c, rfl, h⟩ (OwnA.one ⟨C, d, rfl, g⟩) (fun b hb hm => by
    obtain ⟨m, f, hr⟩ := h.rowOf hb
    obtain ⟨v, hv, he⟩ := List.mem_filterMap.1 hm
    rw [List.mem_singleton] at hv
    subst hv
    obtain ⟨m', f', hr'⟩ := g.rowOf he
    exact row_ne hr hr' (by decide) rfl)
end Go.Proofs.YtophgbjbinaekaaDoor

/- The laws' own functions over Instr, on leaves. Written by gen_t.py. -/
namespace Go.Proofs.YtophgbjbinaekaaDoor
open Go.RowKit

end Go.Proofs.YtophgbjbinaekaaDoor

/- The table of operations: what its rows hold; the lengths and cycles of operations on both sides. -/
namespace Go.Proofs.YtophgbjbinaekaaDoor
open Go.RowKit

def opWords : List ByteArray := [⟨#[110, 111, 112]⟩, ⟨#[104, 97, 108, 116]⟩, ⟨#[114, 101, 116, 105]⟩, ⟨#[101, 105]⟩, ⟨#[100, 105]⟩, ⟨#[108, 100, 105]⟩, ⟨#[108, 100]⟩, ⟨#[115, 116]⟩, ⟨#[105, 110, 99]⟩, ⟨#[100, 101, 99]⟩, ⟨#[97, 100, 100]⟩, ⟨#[115, 117, 98]⟩, ⟨#[97, 110, 100]⟩, ⟨#[111, 114]⟩, ⟨#[120, 111, 114]⟩, ⟨#[106, 112]⟩, ⟨#[106, 122]⟩, ⟨#[106, 110, 122]⟩, ⟨#[99, 97, 108, 108]⟩, ⟨#[114, 101, 116]⟩, ⟨#[115, 119, 105]⟩, ⟨#[98, 97, 110, 107]⟩, ⟨#[]⟩]
def opWord (k : Nat) : ByteArray := opWords.getD k ByteArray.empty
def regT (k : Int) : Int := if 5 ≤ k ∧ k ≤ 14 then 3 else 0
def argT (k : Int) : Int := if k = 21 then 3 else if k = 5 ∨ k = 20 then 255 else if k = 6 ∨ k = 7 ∨ (15 ≤ k ∧ k ≤ 18) then 4095 else 0
def fixT (k : Int) : Int := if k = 18 ∨ k = 19 ∨ k = 2 then 8 else if k = 20 ∨ k = 22 then 12 else 0
def lenT (k : Int) : Int := if k = 5 ∨ k = 20 ∨ k = 21 then 2 else if k = 6 ∨ k = 7 ∨ (15 ≤ k ∧ k ≤ 18) then 3 else 1
def cycT (k : Int) : Int := if k = 18 ∨ k = 19 ∨ k = 2 then 8 else if k = 20 ∨ k = 22 then 12 else 2 * lenT k
def okIns (op reg arg : Int) : Bool := decide (0 ≤ op ∧ op ≤ 21 ∧ 0 ≤ reg ∧ reg ≤ regT op ∧ 0 ≤ arg ∧ arg ≤ argT op)
def lenA_ (a : Int) : Int := if 255 < a then 3 else if 0 < a then 2 else 1
theorem lenA_arg (k : Int) : lenA_ (argT k) = lenT k := by
  unfold lenA_ argT lenT
  repeat' split
  all_goals omega
theorem lenT_range (k : Int) : 1 ≤ lenT k ∧ lenT k ≤ 3 := by
  unfold lenT
  repeat' split
  all_goals omega
theorem regT_range (k : Int) : 0 ≤ regT k ∧ regT k ≤ 3 := by
  unfold regT
  split <;> omega
theorem argT_range (k : Int) : 0 ≤ argT k ∧ argT k ≤ 4095 := by
  unfold argT
  repeat' split
  all_goals omega
def OpsT (w : World) : Prop := ∀ k : Nat, k < 23 → w.cell? ⟨0, k * 4, none⟩ = some (.string (opWord k)) ∧ w.cell? ⟨0, k * 4 + 1, none⟩ = some (.int .i64 (regT k)) ∧ w.cell? ⟨0, k * 4 + 2, none⟩ = some (.int .i64 (argT k)) ∧ w.cell? ⟨0, k * 4 + 3, none⟩ = some (.int .i64 (fixT k))
theorem OpsT.lt {w : World} (h : OpsT w) : 0 < w.heap.size := cell_lt (h 0 (by omega)).1
theorem OpsT.below {w w' : World} (h : OpsT w) (hb : Below w.heap.size w w') : OpsT w' := fun k hk => by
  obtain ⟨h1, h2, h3, h4⟩ := h k hk
  exact ⟨(hb.cell (cell_lt h1)).trans h1, (hb.cell (cell_lt h2)).trans h2, (hb.cell (cell_lt h3)).trans h3, (hb.cell (cell_lt h4)).trans h4⟩

section
variable (s : ByteArray) (r a c : Int) (w : World)
set_option maxRecDepth 100000 in
theorem opLength : Calls Tryd.prog 33 #[.agg #[.string s, .int .i64 r, .int .i64 a, .int .i64 c]] w fun e w' => e = .returned (.int .i64 (lenA_ a)) ∧ Below w.heap.size w w' := by
  have hb0 := alloc_below w (.cells #[.string s, .int .i64 r, .int .i64 a, .int .i64 c] 73)
  obtain ⟨n, hn⟩ : ∃ n, lenA_ a = n := ⟨_, rfl⟩
  rw [hn]
  unfold lenA_ at hn
  by_cases h1 : 255 < a
  · rw [if_pos h1] at hn
    subst hn
    go_enter Tryd.func33, Tryd.ntmps33
    go_wp2
    go_ret
    exact ⟨rfl, hb0⟩
  · rw [if_neg h1] at hn
    by_cases h2 : 0 < a
    · rw [if_pos h2] at hn
      subst hn
      go_enter Tryd.func33, Tryd.ntmps33
      go_wp2
      go_ret
      exact ⟨rfl, hb0⟩
    · rw [if_neg h2] at hn
      subst hn
      go_enter Tryd.func33, Tryd.ntmps33
      go_wp2
      go_ret
      exact ⟨rfl, hb0⟩
set_option maxRecDepth 100000 in
theorem opCycles  : Calls Tryd.prog 35 #[.agg #[.string s, .int .i64 r, .int .i64 a, .int .i64 c]] w fun e w' => e = .returned (.int .i64 (if 0 < c then c else 2 * lenA_ a)) ∧ Below w.heap.size w w' := by
  have hb0 := alloc_below w (.cells #[.string s, .int .i64 r, .int .i64 a, .int .i64 c] 73)
  by_cases h1 : 0 < c
  · rw [if_pos h1]
    go_enter Tryd.func35, Tryd.ntmps35
    go_wp2
    go_ret
    exact ⟨rfl, hb0⟩
  · rw [if_neg h1]
    have HL := Lib.hid (opLength s r a c (w.alloc (.cells #[.string s, .int .i64 r, .int .i64 a, .int .i64 c] 73)))
    have hr : 1 ≤ lenA_ a ∧ lenA_ a ≤ 3 := by unfold lenA_; repeat' split
                                              all_goals omega
    generalize lenA_ a = n at HL hr
    obtain ⟨hr1, hr2⟩ := hr
    go_enter Tryd.func35, Tryd.ntmps35
    go_wp2_with fail
    refine HL.out.mono ?_
    rintro e w1 ⟨rfl, hb1⟩
    go_wp2
    go_ret
    exact ⟨rfl, bt hb0 hb1⟩
end

end Go.Proofs.YtophgbjbinaekaaDoor

/- A contract of a callee that leaves the world alone, inside a region that only reads. -/
namespace Go.Proofs.YtophgbjbinaekaaDoor
open Go.RowKit
end Go.Proofs.YtophgbjbinaekaaDoor

/- Valid instructions, lengths and cycles: both sides. -/
namespace Go.Proofs.YtophgbjbinaekaaDoor
open Go.RowKit

def rngB (n lo hi : Int) : Bool := decide (lo ≤ n ∧ n ≤ hi)
def bitI (b : Bool) : Int := if b then 1 else 0
theorem rngB_t {n lo hi : Int} (h : lo ≤ n ∧ n ≤ hi) : rngB n lo hi = true := by simp [rngB, h]
theorem rngB_f {n lo hi : Int} (h : ¬ (lo ≤ n ∧ n ≤ hi)) : rngB n lo hi = false := by simp only [rngB, decide_eq_false_iff_not]; exact h
set_option maxRecDepth 100000 in
theorem isUpToA (n l : Int) (w : World) : Calls Tryd.prog 19 #[.int .i64 n, .int .i64 l] w fun e w' => e = .returned (.bool (rngB n 0 l)) ∧ w = w' := by
  go_enter Tryd.func19, Tryd.ntmps19
  go_wp2
  all_goals go_ret
  all_goals (refine ⟨ret_bool ?_, rfl⟩)
  all_goals (unfold rngB; rw [Bool.eq_iff_iff]; simp; try omega)
theorem okIns_op (op reg arg : Int) (h : ¬ (0 ≤ op ∧ op ≤ 21)) : okIns op reg arg = false := by unfold okIns; simp only [decide_eq_false_iff_not]; omega
theorem okIns_reg (op reg arg : Int) (h : ¬ (0 ≤ reg ∧ reg ≤ regT op)) : okIns op reg arg = false := by unfold okIns; simp only [decide_eq_false_iff_not]; omega
theorem okIns_arg (op reg arg : Int) (h0 : 0 ≤ op ∧ op ≤ 21) (h : 0 ≤ reg ∧ reg ≤ regT op) : okIns op reg arg = rngB arg 0 (argT op) := by
  unfold okIns rngB; rw [Bool.eq_iff_iff]; simp only [decide_eq_true_eq]; omega
section
variable (op reg arg : Int) (w : World)
set_option maxRecDepth 100000 in
set_option maxHeartbeats 2000000 in
theorem valid (ht : OpsT w) : Calls Tryd.prog 64 #[.agg #[.int .i64 op, .int .i64 reg, .int .i64 arg]] w fun e w' => e = .returned (.bool (okIns op reg arg)) ∧ Below w.heap.size w w' := by
  have hb0 := alloc_below w (.cells #[.int .i64 op, .int .i64 reg, .int .i64 arg] 70)
  have HV := Lib.hid (ht.below hb0)
  have hlt := ht.lt
  clear ht
  by_cases h0 : 0 ≤ op ∧ op ≤ 21
  · have HY := Lib.hid (okIns_arg op reg arg h0)
    have HN := Lib.hid (okIns_reg op reg arg)
    obtain ⟨k, rfl⟩ : ∃ k : Nat, op = k := ⟨op.toNat, by omega⟩
    obtain ⟨-, h02⟩ := h0
    have h03 : ¬ (22 : Int) ≤ (k : Int) := by omega
    obtain ⟨c1, c2, c3, c4⟩ := HV.out k (by omega)
    generalize okIns k reg arg = o at HY HN ⊢
    generalize opWord k = s at c1
    generalize regT k = r at c2 HY HN
    generalize argT k = a at c3 HY HN
    generalize fixT k = c at c4
    by_cases h1 : 0 ≤ reg ∧ reg ≤ r
    · have q1 := rngB_t h1
      have HY := Lib.hid (HY.out h1)
      clear HV HN
      by_cases h2 : 0 ≤ arg ∧ arg ≤ a
      · have q2 := rngB_t h2
        have HY := Lib.hid (HY.out.trans q2)
        clear h1 h2
        go_enter Tryd.func64, Tryd.ntmps64
        go_wp2_with (go_at_call 19; refine (isUpToA _ _ _).mono ?_; rintro e w' ⟨rfl, rfl⟩)
        go_ret
        exact ⟨ret_bool HY.out.symm, hb0.alloc (by simp) _⟩
      · have q2 := rngB_f h2
        have HY := Lib.hid (HY.out.trans q2)
        clear h1 h2
        go_enter Tryd.func64, Tryd.ntmps64
        go_wp2_with (go_at_call 19; refine (isUpToA _ _ _).mono ?_; rintro e w' ⟨rfl, rfl⟩)
        go_ret
        exact ⟨ret_bool HY.out.symm, hb0.alloc (by simp) _⟩
    · have q1 := rngB_f h1
      have HY := Lib.hid (HN.out h1)
      clear HV HN h1
      go_enter Tryd.func64, Tryd.ntmps64
      go_wp2_with (go_at_call 19; refine (isUpToA _ _ _).mono ?_; rintro e w' ⟨rfl, rfl⟩)
      go_ret
      exact ⟨ret_bool HY.out.symm, hb0.alloc (by simp) _⟩
  · have HY := Lib.hid (okIns_op op reg arg h0)
    clear HV
    by_cases h1 : op < 0
    · clear h0
      go_enter Tryd.func64, Tryd.ntmps64
      go_wp2
      go_ret
      exact ⟨ret_bool HY.out.symm, hb0⟩
    · have h2 : 22 ≤ op := by omega
      clear h0
      go_enter Tryd.func64, Tryd.ntmps64
      go_wp2
      go_ret
      exact ⟨ret_bool HY.out.symm, hb0⟩

end
end Go.Proofs.YtophgbjbinaekaaDoor

/- LengthOf, CyclesOf on both sides. -/
namespace Go.Proofs.YtophgbjbinaekaaDoor
open Go.RowKit

section
variable (n : Int) (w : World)
end
end Go.Proofs.YtophgbjbinaekaaDoor

/- The laws' own functions over Flash, on leaves. Written by gen_t.py. -/
namespace Go.Proofs.YtophgbjbinaekaaDoor
open Go.RowKit

end Go.Proofs.YtophgbjbinaekaaDoor

/- The laws' own functions over Mem, on leaves. Written by gen_t.py. -/
namespace Go.Proofs.YtophgbjbinaekaaDoor
open Go.RowKit

end Go.Proofs.YtophgbjbinaekaaDoor

/- The laws' own functions over Irq, on leaves. Written by gen_t.py. -/
namespace Go.Proofs.YtophgbjbinaekaaDoor
open Go.RowKit

end Go.Proofs.YtophgbjbinaekaaDoor

/- An interrupt controller's validity: levels, lines, IrqOK on both sides, the checks of a line. -/
namespace Go.Proofs.YtophgbjbinaekaaDoor
open Go.RowKit

def lvB (n : Int) : Bool := decide (0 ≤ n ∧ n ≤ 7)
set_option maxRecDepth 100000 in
theorem isLevel (n : Int) (w : World) : Calls Tryd.prog 29 #[.int .i64 n] w fun e w' => e = .returned (.bool (lvB n)) ∧ w = w' := by
  go_enter Tryd.func29, Tryd.ntmps29
  go_wp2
  all_goals go_ret
  all_goals (refine ⟨ret_bool ?_, rfl⟩)
  all_goals (unfold lvB; rw [Bool.eq_iff_iff]; simp; try omega)
section
variable (A0 A1 : Option Addr) (n0 n1 c0 c1 : Nat) (d0 : List Int) (d1 : List Bool) (w : World)
end
end Go.Proofs.YtophgbjbinaekaaDoor

/- A region that draws its order, walked once by facts: each operation, once carried out, has its fact; a fact is kept by whatever comes behind it. -/
namespace Go.Proofs.YtophgbjbinaekaaDoor
open Go.RowKit

def mask (l : List Nat) (T : Array Value) : Nat → Value := fun s => if l.contains s then T.getD s undef else undef
def regOk (ops : Array Oper) (sup bef : List (List Nat)) (base : List Nat) : Bool :=
  ((List.range ops.size).all fun i => match ops[i]? with
    | none => false
    | some o => o.guard.isNone && ((o.after.all fun e => !Region.binds .any e || decide (e.on < i)) && (((bef.getD i []).all fun j => o.after.any fun e => Region.binds .any e && (e.on == j || (bef.getD e.on []).contains j)) &&
        ((sup.getD i []).all fun s => (List.range ops.size).all fun j => (match ops[j]? with | some oj => oj.dst != some s | none => true) || ((j == i) || (bef.getD i []).contains j))))) &&
  (base.all fun s => (List.range ops.size).all fun j => match ops[j]? with | some oj => oj.dst != some s | none => true)

section
variable {P : Program} {ops : Array Oper} {Q : Exit → Act → World → Prop} {sup bef : List (List Nat)} {base : List Nat} {a : Act}

def StepF (P : Program) (Q : Exit → Act → World → Prop) (sup bef : List (List Nat)) (base : List Nat) (a : Act) (C : World → Prop) (F : Nat → (Nat → Value) → World → Prop) (i : Nat) (o : Oper) : Prop :=
  ∀ (T : Array Value) (W : World), T.size = a.tmps.size → (∀ s ∈ base, T.getD s undef = a.tmps.getD s undef) → C W → (∀ j ∈ bef.getD i [], F j (mask (sup.getD j []) T) W) →
    ∀ K : Act → World → Prop, Shut (∀ v W', C W' → (∀ j t, j ≠ i → F j t W → F j t W') → F i (mask (sup.getD i []) (Act.put { a with tmps := T } o.dst v).tmps) W' → K (Act.put { a with tmps := T } o.dst v) W') →
      Oper.wp P o { a with tmps := T } W K Q
def StepsF (P : Program) (Q : Exit → Act → World → Prop) (sup bef : List (List Nat)) (base : List Nat) (a : Act) (C : World → Prop) (F : Nat → (Nat → Value) → World → Prop) : Nat → List Oper → Prop
  | _, [] => True
  | i, o :: l => StepF P Q sup bef base a C F i o ∧ StepsF P Q sup bef base a C F (i + 1) l
theorem StepsF.get {C : World → Prop} {F : Nat → (Nat → Value) → World → Prop} : ∀ {l : List Oper} {i : Nat}, StepsF P Q sup bef base a C F i l → ∀ j o, l[j]? = some o → StepF P Q sup bef base a C F (i + j) o
  | [], _, _, j, o, h => by simp at h
  | o' :: l, i, hs, 0, o, h => by simp at h; subst h; exact hs.1
  | o' :: l, i, hs, j + 1, o, h => by
    have := StepsF.get hs.2 j o (by simpa using h)
    rwa [show i + 1 + j = i + (j + 1) by omega] at this

structure InvF (ops : Array Oper) (sup bef : List (List Nat)) (base : List Nat) (a : Act) (C : World → Prop) (F : Nat → (Nat → Value) → World → Prop) (L : Array Bool) (T : Array Value) (W : World) : Prop where
  size : T.size = a.tmps.size
  same : ∀ s ∈ base, T.getD s undef = a.tmps.getD s undef
  c : C W
  lsz : L.size = ops.size
  down : ∀ i, L.getD i false = true → ∀ j ∈ bef.getD i [], L.getD j false = true
  fact : ∀ i, L.getD i false = true → F i (mask (sup.getD i []) T) W

theorem getD_set_bool (L : Array Bool) (i j : Nat) (hi : i < L.size) : (L.setIfInBounds i true).getD j false = if j = i then true else L.getD j false := by
  simp only [Array.getD_eq_getD_getElem?]
  rw [Array.getElem?_setIfInBounds]
  by_cases h : i = j
  · subst h; simp [hi]
  · rw [if_neg h, if_neg (fun q => h q.symm)]
theorem getD_set_val (T : Array Value) (d s : Nat) (v : Value) (h : s ≠ d) : (T.setIfInBounds d v).getD s undef = T.getD s undef := by
  simp only [Array.getD_eq_getD_getElem?]
  rw [Array.getElem?_setIfInBounds, if_neg (fun q => h q.symm)]

theorem regOk_spec (h : regOk ops sup bef base = true) :
    (∀ (i : Nat) (o : Oper), ops[i]? = some o → o.guard = none ∧ (∀ e ∈ o.after, Region.binds .any e = true → e.on < i) ∧ (∀ j ∈ bef.getD i [], ∃ e ∈ o.after, Region.binds .any e = true ∧ (e.on = j ∨ j ∈ bef.getD e.on [])) ∧ (∀ s ∈ sup.getD i [], ∀ (j : Nat) (oj : Oper), ops[j]? = some oj → oj.dst = some s → j = i ∨ j ∈ bef.getD i [])) ∧
    (∀ s ∈ base, ∀ (j : Nat) (oj : Oper), ops[j]? = some oj → oj.dst ≠ some s) := by
  unfold regOk at h
  rw [Bool.and_eq_true, List.all_eq_true, List.all_eq_true] at h
  refine ⟨fun i o ho => ?_, fun s hs j oj hj hd => ?_⟩
  · have hi : i < ops.size := (Array.getElem?_eq_some_iff.1 ho).1
    have := h.1 i (List.mem_range.2 hi)
    rw [ho] at this
    simp only [Bool.and_eq_true, Array.all_eq_true_iff_forall_mem, List.all_eq_true, decide_eq_true_eq, Option.isNone_iff_eq_none] at this
    obtain ⟨h1, h2, h3, h4⟩ := this
    refine ⟨h1, fun e he hbd => ?_, fun j hj => ?_, fun s hs j oj hoj hd => ?_⟩
    · have := h2 e he
      rw [hbd] at this
      simpa using this
    · have := h3 j hj
      obtain ⟨e, he, hb⟩ := Array.any_eq_true'.1 this
      simp only [Bool.and_eq_true, Bool.or_eq_true, beq_iff_eq, List.contains_iff_mem] at hb
      exact ⟨e, he, hb⟩
    · have hj : j < ops.size := (Array.getElem?_eq_some_iff.1 hoj).1
      have := h4 s hs j (List.mem_range.2 hj)
      rw [hoj] at this
      simp only [hd, Bool.or_eq_true, bne_self_eq_false, beq_iff_eq, List.contains_iff_mem] at this
      simpa using this
  · have hj' : j < ops.size := (Array.getElem?_eq_some_iff.1 hj).1
    have := List.all_eq_true.1 (h.2 s hs) j (List.mem_range.2 hj')
    rw [hj] at this
    simp [hd] at this

theorem ready_nil_all {L : Array Bool} (hL : L.size = ops.size) (hlow : ∀ (i : Nat) (o : Oper), ops[i]? = some o → ∀ e ∈ o.after, Region.binds .any e = true → e.on < i) (h : Region.ready .any ops L = []) : ∀ i, i < ops.size → L.getD i false = true := by
  intro i
  induction i using Nat.strongRecOn with
  | ind i ih =>
    intro hi
    by_cases hl : L.getD i false = true
    · exact hl
    · exfalso
      have hm : i ∈ Region.ready .any ops L := mem_ready.2 ⟨by
        simp only [Array.getD_eq_getD_getElem?] at hl ⊢
        rw [Array.getElem?_eq_getElem (by omega)] at hl ⊢
        simpa using hl, ops[i], Array.getElem?_eq_getElem hi, fun e he hbd => ih e.on (hlow i _ (Array.getElem?_eq_getElem hi) e he hbd) (by have := hlow i _ (Array.getElem?_eq_getElem hi) e he hbd; omega)⟩
      rw [h] at hm
      cases hm

theorem wpAny_facts (hok : regOk ops sup bef base = true) (C : World → Prop) (F : Nat → (Nat → Value) → World → Prop)
    (hstep : StepsF P Q sup bef base a C F 0 ops.toList)
    (hend : ∀ T W, T.size = a.tmps.size → (∀ s ∈ base, T.getD s undef = a.tmps.getD s undef) → C W → (∀ i, i < ops.size → F i (mask (sup.getD i []) T) W) → Q .normal { a with tmps := T } W) :
    ∀ (fuel : Nat) (L : Array Bool) (T : Array Value) (W : World), InvF ops sup bef base a C F L T W → (L.toList.count false ≤ fuel) → wpAny P .any ops Q fuel L { a with tmps := T } W := by
  obtain ⟨hops, hbase⟩ := regOk_spec hok
  have hlow := fun i o ho => (hops i o ho).2.1
  have fin : ∀ L T W, InvF ops sup bef base a C F L T W → Region.ready .any ops L = [] → Q .normal { a with tmps := T } W := fun L T W I hr => hend T W I.size I.same I.c (fun i hi => I.fact i (ready_nil_all I.lsz hlow hr i hi))
  intro fuel
  induction fuel with
  | zero =>
    intro L T W I hf
    have hr : Region.ready .any ops L = [] := by
      apply List.eq_nil_iff_forall_not_mem.2
      intro j hj
      obtain ⟨h1, o, ho, _⟩ := mem_ready.1 hj
      have hjl : j < L.size := by rw [I.lsz]; exact (Array.getElem?_eq_some_iff.1 ho).1
      have : false ∈ L.toList := by
        simp only [Array.getD_eq_getD_getElem?] at h1
        rw [Array.getElem?_eq_getElem hjl] at h1
        simp only [Option.getD_some] at h1
        rw [← h1]
        simp
      have := List.count_pos_iff.2 this
      omega
    exact ⟨hr, fin L T W I hr⟩
  | succ fuel ih =>
    intro L T W I hf
    refine ⟨fin L T W I, fun i hi => ?_⟩
    obtain ⟨h1, o, ho, hall⟩ := mem_ready.1 hi
    have hil : i < L.size := by rw [I.lsz]; exact (Array.getElem?_eq_some_iff.1 ho).1
    have hlf : L.getD i false = false := by
      simp only [Array.getD_eq_getD_getElem?] at h1 ⊢
      rw [Array.getElem?_eq_getElem hil] at h1 ⊢
      simpa using h1
    obtain ⟨hg, hlo, hbf, hsp⟩ := hops i o ho
    have hbef : ∀ j ∈ bef.getD i [], L.getD j false = true := fun j hj => by
      obtain ⟨e, he, hb, q⟩ := hbf j hj
      have he' := hall e he hb
      rcases q with rfl | q
      · exact he'
      · exact I.down e.on he' j q
    have hs : StepF P Q sup bef base a C F i o := by
      have := hstep.get i o (by simpa using ho)
      simpa using this
    refine wpOp_step ho (fun K' hK => ?_)
    rw [if_pos (by simp [Region.wanted, hg])]
    refine hs T W I.size I.same I.c (fun j hj => I.fact j (hbef j hj)) K' (fun v W' hc hkeep hnew => hK _ _ ?_)
    have hnotin : ∀ k, L.getD k false = true → k ≠ i := fun k hk e => by subst e; rw [hlf] at hk; cases hk
    have hput : (Act.put { a with tmps := T } o.dst v) = { a with tmps := (Act.put { a with tmps := T } o.dst v).tmps } := by
      unfold Act.put; cases o.dst <;> rfl
    have hslot : ∀ s, o.dst ≠ some s → (Act.put { a with tmps := T } o.dst v).tmps.getD s undef = T.getD s undef := fun s hd => by
      cases hdd : o.dst with
      | none => rfl
      | some d => exact getD_set_val T d s v (fun e => hd (by rw [hdd, e]))
    rw [hput]
    refine ih _ _ W' ⟨?_, ?_, hc, by simpa using I.lsz, ?_, ?_⟩ ?_
    · rw [← I.size]; cases hdd : o.dst <;> simp [Act.put]
    · intro s hsb
      rw [hslot s (hbase s hsb i o ho)]
      exact I.same s hsb
    · intro k hk j hj
      rw [getD_set_bool L i k hil] at hk
      rw [getD_set_bool L i j hil]
      by_cases hki : k = i
      · subst hki
        rw [hbef j hj]; simp
      · rw [if_neg hki] at hk
        rw [I.down k hk j hj]; simp
    · intro k hk
      rw [getD_set_bool L i k hil] at hk
      by_cases hki : k = i
      · subst hki; exact hnew
      · rw [if_neg hki] at hk
        have hF := hkeep k _ hki (I.fact k hk)
        have hmk : mask (sup.getD k []) (Act.put { a with tmps := T } o.dst v).tmps = mask (sup.getD k []) T := by
          funext s
          unfold mask
          by_cases hsup : s ∈ sup.getD k []
          · rw [if_pos (List.contains_iff_mem.2 hsup), if_pos (List.contains_iff_mem.2 hsup)]
            refine hslot s (fun hd => ?_)
            have hko : k < ops.size := by
              rw [← I.lsz]
              apply Classical.byContradiction
              intro hn
              simp only [Array.getD_eq_getD_getElem?] at hk
              rw [Array.getElem?_eq_none (by omega)] at hk
              cases hk
            rcases (hops k _ (Array.getElem?_eq_getElem hko)).2.2.2 s hsup i o ho hd with q | q
            · exact hki q.symm
            · have := I.down k hk i q
              rw [hlf] at this
              cases this
          · rw [if_neg (fun q => hsup (List.contains_iff_mem.1 q)), if_neg (fun q => hsup (List.contains_iff_mem.1 q))]
        rw [hmk]; exact hF
    · have hset : (L.setIfInBounds i true).toList = L.toList.set i true := by simp
      rw [hset]
      have hct : (L.toList.set i true).count false + 1 = L.toList.count false := by
        have hx : L.toList[i]'(by simpa using hil) = false := by
          simp only [Array.getD_eq_getD_getElem?] at hlf
          rw [Array.getElem?_eq_getElem hil] at hlf
          simpa using hlf
        rw [List.count_set (by simpa using hil)]
        have hpos : 0 < L.toList.count false := List.count_pos_iff.2 (by rw [← hx]; exact List.getElem_mem _)
        rw [hx]
        simp only [beq_self_eq_true, if_true, show (true == false) = false from rfl, Bool.false_eq_true, if_false]
        omega
      omega

theorem wp_region_facts {id : Nat} {w : World} (hm : P.follows .mixedOrders = true) (sup bef : List (List Nat)) (base : List Nat) (hok : regOk ops sup bef base = true) (C : World → Prop) (F : Nat → (Nat → Value) → World → Prop) (hC : C w.drew)
    (hstep : StepsF P Q sup bef base a C F 0 ops.toList)
    (hend : ∀ T W, T.size = a.tmps.size → (∀ s ∈ base, T.getD s undef = a.tmps.getD s undef) → C W → (∀ i, i < ops.size → F i (mask (sup.getD i []) T) W) → Q .normal { a with tmps := T } W) :
    (Code.region id ops true).wp P Q a w := by
  refine wp_region_any hm ?_
  have := wpAny_facts hok C F hstep hend ops.size (Array.replicate ops.size false) a.tmps w.drew ⟨rfl, fun _ _ => rfl, hC, by simp, fun i hi => ?_, fun i hi => ?_⟩ (by simp)
  · exact this
  all_goals (
    exfalso
    simp only [Array.getD_eq_getD_getElem?] at hi
    rw [Array.getElem?_replicate] at hi
    split at hi <;> simp at hi)
end
end Go.Proofs.YtophgbjbinaekaaDoor

/- Contracts of slices.Equal over []int and []bool, and of both SameFlash. -/
namespace Go.Proofs.YtophgbjbinaekaaDoor
open Go.RowKit

end Go.Proofs.YtophgbjbinaekaaDoor

/- Contracts of l04Same and both SameArray. -/
namespace Go.Proofs.YtophgbjbinaekaaDoor
open Go.RowKit

end Go.Proofs.YtophgbjbinaekaaDoor

/- SameFlash and SameArray on leaves. -/
namespace Go.Proofs.YtophgbjbinaekaaDoor
open Go.RowKit

section
variable (A0 A1 : Option Addr) (c0 c1 : Nat) (d0 : List Int) (d1 : List Bool) (d2 : Int) (B0 B1 : Option Addr) (e0 e1 : Nat) (g0 : List Int) (g1 : List Bool) (g2 : Int) (w : World)
end
end Go.Proofs.YtophgbjbinaekaaDoor

/- A region that draws its order and whose last operation (a store, as a rule) waits for all others: walked once by facts; behind the last another thing holds of the world than ahead of it. -/
namespace Go.Proofs.YtophgbjbinaekaaDoor
open Go.RowKit
section
variable {P : Program} {ops : Array Oper} {Q : Exit → Act → World → Prop} {sup bef : List (List Nat)} {base : List Nat} {a : Act}
def lastOk (ops : Array Oper) (bef : List (List Nat)) (z : Nat) : Bool := decide (z < ops.size) && (List.range ops.size).all fun i => decide (i = z) || (bef.getD z []).contains i
theorem lastOk_spec {z : Nat} (h : lastOk ops bef z = true) : z < ops.size ∧ ∀ i, i < ops.size → i ≠ z → i ∈ bef.getD z [] := by
  unfold lastOk at h
  rw [Bool.and_eq_true, List.all_eq_true] at h
  refine ⟨by simpa using h.1, fun i hi hne => ?_⟩
  have := h.2 i (List.mem_range.2 hi)
  rw [Bool.or_eq_true] at this
  rcases this with q | q
  · exact (hne (by simpa using q)).elim
  · exact List.contains_iff_mem.1 q
def StepZ (P : Program) (Q : Exit → Act → World → Prop) (sup bef : List (List Nat)) (base : List Nat) (a : Act) (z : Nat) (C0 C1 : World → Prop) (F : Nat → (Nat → Value) → World → Prop) (i : Nat) (o : Oper) : Prop :=
  ∀ (T : Array Value) (W : World), T.size = a.tmps.size → (∀ s ∈ base, T.getD s undef = a.tmps.getD s undef) → C0 W → (∀ j ∈ bef.getD i [], F j (mask (sup.getD j []) T) W) →
    ∀ K : Act → World → Prop, Shut (∀ v W', (if i = z then C1 W' else C0 W') → (∀ j t, j ≠ i → F j t W → F j t W') → F i (mask (sup.getD i []) (Act.put { a with tmps := T } o.dst v).tmps) W' → K (Act.put { a with tmps := T } o.dst v) W') →
      Oper.wp P o { a with tmps := T } W K Q
def StepsZ (P : Program) (Q : Exit → Act → World → Prop) (sup bef : List (List Nat)) (base : List Nat) (a : Act) (z : Nat) (C0 C1 : World → Prop) (F : Nat → (Nat → Value) → World → Prop) : Nat → List Oper → Prop
  | _, [] => True
  | i, o :: l => StepZ P Q sup bef base a z C0 C1 F i o ∧ StepsZ P Q sup bef base a z C0 C1 F (i + 1) l
theorem StepsZ.get {z : Nat} {C0 C1 : World → Prop} {F : Nat → (Nat → Value) → World → Prop} : ∀ {l : List Oper} {i : Nat}, StepsZ P Q sup bef base a z C0 C1 F i l → ∀ j o, l[j]? = some o → StepZ P Q sup bef base a z C0 C1 F (i + j) o
  | [], _, _, j, o, h => by simp at h
  | o' :: l, i, hs, 0, o, h => by simp at h; subst h; exact hs.1
  | o' :: l, i, hs, j + 1, o, h => by
    have := StepsZ.get hs.2 j o (by simpa using h)
    rwa [show i + 1 + j = i + (j + 1) by omega] at this
structure InvZ (ops : Array Oper) (sup bef : List (List Nat)) (base : List Nat) (a : Act) (z : Nat) (C0 C1 : World → Prop) (F : Nat → (Nat → Value) → World → Prop) (L : Array Bool) (T : Array Value) (W : World) : Prop where
  size : T.size = a.tmps.size
  same : ∀ s ∈ base, T.getD s undef = a.tmps.getD s undef
  c0 : L.getD z false = false → C0 W
  c1 : L.getD z false = true → C1 W
  lsz : L.size = ops.size
  down : ∀ i, L.getD i false = true → ∀ j ∈ bef.getD i [], L.getD j false = true
  fact : ∀ i, L.getD i false = true → F i (mask (sup.getD i []) T) W
theorem wpAny_last (hok : regOk ops sup bef base = true) (z : Nat) (hz : ∀ i, i < ops.size → i ≠ z → i ∈ bef.getD z []) (C0 C1 : World → Prop) (F : Nat → (Nat → Value) → World → Prop)
    (hstep : StepsZ P Q sup bef base a z C0 C1 F 0 ops.toList)
    (hend : ∀ T W, T.size = a.tmps.size → (∀ s ∈ base, T.getD s undef = a.tmps.getD s undef) → (if z < ops.size then C1 W else C0 W) → (∀ i, i < ops.size → F i (mask (sup.getD i []) T) W) → Q .normal { a with tmps := T } W) :
    ∀ (fuel : Nat) (L : Array Bool) (T : Array Value) (W : World), InvZ ops sup bef base a z C0 C1 F L T W → (L.toList.count false ≤ fuel) → wpAny P .any ops Q fuel L { a with tmps := T } W := by
  obtain ⟨hops, hbase⟩ := regOk_spec hok
  have hlow := fun i o ho => (hops i o ho).2.1
  have fin : ∀ L T W, InvZ ops sup bef base a z C0 C1 F L T W → Region.ready .any ops L = [] → Q .normal { a with tmps := T } W := fun L T W I hr => hend T W I.size I.same (by
    by_cases q : z < ops.size
    · rw [if_pos q]; exact I.c1 (ready_nil_all I.lsz hlow hr z q)
    · rw [if_neg q]; refine I.c0 ?_; simp only [Array.getD_eq_getD_getElem?]; rw [Array.getElem?_eq_none (by rw [I.lsz]; omega)]; rfl) (fun i hi => I.fact i (ready_nil_all I.lsz hlow hr i hi))
  intro fuel
  induction fuel with
  | zero =>
    intro L T W I hf
    have hr : Region.ready .any ops L = [] := by
      apply List.eq_nil_iff_forall_not_mem.2
      intro j hj
      obtain ⟨h1, o, ho, _⟩ := mem_ready.1 hj
      have hjl : j < L.size := by rw [I.lsz]; exact (Array.getElem?_eq_some_iff.1 ho).1
      have : false ∈ L.toList := by
        simp only [Array.getD_eq_getD_getElem?] at h1
        rw [Array.getElem?_eq_getElem hjl] at h1
        simp only [Option.getD_some] at h1
        rw [← h1]
        simp
      have := List.count_pos_iff.2 this
      omega
    exact ⟨hr, fin L T W I hr⟩
  | succ fuel ih =>
    intro L T W I hf
    refine ⟨fin L T W I, fun i hi => ?_⟩
    obtain ⟨h1, o, ho, hall⟩ := mem_ready.1 hi
    have hil : i < L.size := by rw [I.lsz]; exact (Array.getElem?_eq_some_iff.1 ho).1
    have hlf : L.getD i false = false := by
      simp only [Array.getD_eq_getD_getElem?] at h1 ⊢
      rw [Array.getElem?_eq_getElem hil] at h1 ⊢
      simpa using h1
    obtain ⟨hg, hlo, hbf, hsp⟩ := hops i o ho
    have hbef : ∀ j ∈ bef.getD i [], L.getD j false = true := fun j hj => by
      obtain ⟨e, he, hb, q⟩ := hbf j hj
      have he' := hall e he hb
      rcases q with rfl | q
      · exact he'
      · exact I.down e.on he' j q
    have hz0 : L.getD z false = false := by
      cases hq : L.getD z false with
      | false => rfl
      | true =>
        exfalso
        by_cases e : i = z
        · subst e; rw [hlf] at hq; cases hq
        · have := I.down z hq i (hz i (by rw [← I.lsz]; exact hil) e)
          rw [hlf] at this; cases this
    have hs : StepZ P Q sup bef base a z C0 C1 F i o := by
      have := hstep.get i o (by simpa using ho)
      simpa using this
    refine wpOp_step ho (fun K' hK => ?_)
    rw [if_pos (by simp [Region.wanted, hg])]
    refine hs T W I.size I.same (I.c0 hz0) (fun j hj => I.fact j (hbef j hj)) K' (fun v W' hc hkeep hnew => hK _ _ ?_)
    have hnotin : ∀ k, L.getD k false = true → k ≠ i := fun k hk e => by subst e; rw [hlf] at hk; cases hk
    have hput : (Act.put { a with tmps := T } o.dst v) = { a with tmps := (Act.put { a with tmps := T } o.dst v).tmps } := by
      unfold Act.put; cases o.dst <;> rfl
    have hslot : ∀ s, o.dst ≠ some s → (Act.put { a with tmps := T } o.dst v).tmps.getD s undef = T.getD s undef := fun s hd => by
      cases hdd : o.dst with
      | none => rfl
      | some d => exact getD_set_val T d s v (fun e => hd (by rw [hdd, e]))
    rw [hput]
    refine ih _ _ W' ⟨?_, ?_, fun q => ?_, fun q => ?_, by simpa using I.lsz, ?_, ?_⟩ ?_
    · rw [← I.size]; cases hdd : o.dst <;> simp [Act.put]
    · intro s hsb
      rw [hslot s (hbase s hsb i o ho)]
      exact I.same s hsb
    · rw [getD_set_bool L i z hil] at q
      by_cases e : z = i
      · rw [if_pos e] at q; cases q
      · rw [if_neg (fun h => e h.symm)] at hc; exact hc
    · rw [getD_set_bool L i z hil] at q
      by_cases e : z = i
      · rw [if_pos e.symm] at hc; exact hc
      · rw [if_neg e, hz0] at q; cases q
    · intro k hk j hj
      rw [getD_set_bool L i k hil] at hk
      rw [getD_set_bool L i j hil]
      by_cases hki : k = i
      · subst hki
        rw [hbef j hj]; simp
      · rw [if_neg hki] at hk
        rw [I.down k hk j hj]; simp
    · intro k hk
      rw [getD_set_bool L i k hil] at hk
      by_cases hki : k = i
      · subst hki; exact hnew
      · rw [if_neg hki] at hk
        have hF := hkeep k _ hki (I.fact k hk)
        have hmk : mask (sup.getD k []) (Act.put { a with tmps := T } o.dst v).tmps = mask (sup.getD k []) T := by
          funext s
          unfold mask
          by_cases hsup : s ∈ sup.getD k []
          · rw [if_pos (List.contains_iff_mem.2 hsup), if_pos (List.contains_iff_mem.2 hsup)]
            refine hslot s (fun hd => ?_)
            have hko : k < ops.size := by
              rw [← I.lsz]
              apply Classical.byContradiction
              intro hn
              simp only [Array.getD_eq_getD_getElem?] at hk
              rw [Array.getElem?_eq_none (by omega)] at hk
              cases hk
            rcases (hops k _ (Array.getElem?_eq_getElem hko)).2.2.2 s hsup i o ho hd with q | q
            · exact hki q.symm
            · have := I.down k hk i q
              rw [hlf] at this
              cases this
          · rw [if_neg (fun q => hsup (List.contains_iff_mem.1 q)), if_neg (fun q => hsup (List.contains_iff_mem.1 q))]
        rw [hmk]; exact hF
    · have hset : (L.setIfInBounds i true).toList = L.toList.set i true := by simp
      rw [hset]
      have hct : (L.toList.set i true).count false + 1 = L.toList.count false := by
        have hx : L.toList[i]'(by simpa using hil) = false := by
          simp only [Array.getD_eq_getD_getElem?] at hlf
          rw [Array.getElem?_eq_getElem hil] at hlf
          simpa using hlf
        rw [List.count_set (by simpa using hil)]
        have hpos : 0 < L.toList.count false := List.count_pos_iff.2 (by rw [← hx]; exact List.getElem_mem _)
        rw [hx]
        simp only [beq_self_eq_true, if_true, show (true == false) = false from rfl, Bool.false_eq_true, if_false]
        omega
      omega

theorem wp_region_last {id : Nat} {w : World} (hm : P.follows .mixedOrders = true) (sup bef : List (List Nat)) (base : List Nat) (hok : regOk ops sup bef base = true) (z : Nat) (hz : lastOk ops bef z = true) (C0 C1 : World → Prop) (F : Nat → (Nat → Value) → World → Prop) (hC : C0 w.drew)
    (hstep : StepsZ P Q sup bef base a z C0 C1 F 0 ops.toList)
    (hend : ∀ T W, T.size = a.tmps.size → (∀ s ∈ base, T.getD s undef = a.tmps.getD s undef) → C1 W → (∀ i, i < ops.size → F i (mask (sup.getD i []) T) W) → Q .normal { a with tmps := T } W) :
    (Code.region id ops true).wp P Q a w := by
  refine wp_region_any hm ?_
  have := wpAny_last hok z (lastOk_spec hz).2 C0 C1 F hstep (fun T W h1 h2 h3 h4 => hend T W h1 h2 (by rwa [if_pos (lastOk_spec hz).1] at h3) h4) ops.size (Array.replicate ops.size false) a.tmps w.drew ⟨rfl, fun _ _ => rfl, fun _ => hC, fun q => by simp only [Array.getD_eq_getD_getElem?] at q; rw [Array.getElem?_replicate] at q; split at q <;> simp at q, by simp, fun i hi => ?_, fun i hi => ?_⟩ (by simp)
  · exact this
  all_goals (
    exfalso
    simp only [Array.getD_eq_getD_getElem?] at hi
    rw [Array.getElem?_replicate] at hi
    split at hi <;> simp at hi)
end
end Go.Proofs.YtophgbjbinaekaaDoor

/- Contracts of sectors, fateOf, tear, settle: what a crash makes of a disk. -/
namespace Go.Proofs.YtophgbjbinaekaaDoor
open Go.RowKit

def cellsS (ss : List ByteArray) : List Value := ss.map Value.string
theorem cellsS_len (ss : List ByteArray) : (cellsS ss).length = ss.length := by simp [cellsS]
theorem StrL.src {w : World} {A : Option Addr} {ss : List ByteArray} (h : StrL w A ss) (hp : 0 < (cellsS ss).length) : ∃ ad, A = some ad ∧ ∀ j v, (cellsS ss)[j]? = some v → w.cell? (ad.add j) = some v := by
  rw [cellsS_len] at hp
  obtain ⟨b, off, e, _⟩ := h 0 hp
  refine ⟨⟨b, off, none⟩, e, fun j v hj => ?_⟩
  have hj' : j < ss.length := by have := (List.getElem?_eq_some_iff.1 hj).1; simpa [cellsS] using this
  obtain ⟨b', off', e', hc⟩ := h j hj'
  rw [e] at e'
  injection e' with e'
  injection e' with e1 e2
  subst e1 e2
  have hv : v = Value.string (ss.getD j ByteArray.empty) := by
    unfold cellsS at hj
    rw [List.getElem?_map, List.getElem?_eq_getElem hj', Option.map_some] at hj
    rw [List.getD_eq_getElem?_getD, List.getElem?_eq_getElem hj']
    exact (Option.some.inj hj).symm
  rw [hv, ← hc]
  unfold Addr.add
  by_cases h0 : j = 0
  · subst h0; simp
  · rw [if_neg h0]

theorem getD_set (l : List ByteArray) (p j : Nat) (x : ByteArray) (h : p < l.length) : (l.set p x).getD j ByteArray.empty = if j = p then x else l.getD j ByteArray.empty := by
  simp only [List.getD_eq_getElem?_getD, List.getElem?_set]
  by_cases e : j = p
  · subst e; rw [if_pos rfl, if_pos rfl, if_pos h]; rfl
  · rw [if_neg (fun h => e h.symm), if_neg e]
structure Ok (ss : List ByteArray) (ws : List (Int × ByteArray)) : Prop where
  n48 : ss.length = 48
  m60 : ws.length ≤ 60
  small : ∀ s ∈ ss, s.size ≤ 100
  smallW : ∀ x ∈ ws, x.2.size ≤ 100
  at_ : ∀ x ∈ ws, 0 ≤ x.1 ∧ x.1 ≤ 47
end Go.Proofs.YtophgbjbinaekaaDoor

/- Contract of the model's flush: l01Flush. -/
namespace Go.Proofs.YtophgbjbinaekaaDoor
open Go.RowKit

def RowS (w : World) (b n m : Nat) (l : List ByteArray) : Prop := l.length = n ∧ n ≤ m ∧ ∃ f, w.rowIs b 9 m f ∧ ∀ i, i < n → f i = .string (l.getD i ByteArray.empty)
theorem RowS.cell {w : World} {b n m p : Nat} {l : List ByteArray} (h : RowS w b n m l) (hp : p < n) : w.cell? ⟨b, p, none⟩ = some (.string (l.getD p ByteArray.empty)) := by
  obtain ⟨_, hm, f, hr, hf⟩ := h
  rw [← hf p hp]; exact hr.cell (by omega)
theorem RowS.frozen {w : World} {b n m : Nat} {l : List ByteArray} (h : RowS w b n m l) (p : Nat) : w.frozen? ⟨b, p, none⟩ = false := by
  obtain ⟨_, hm, f, hr, hf⟩ := h
  exact hr.frozen p
theorem RowS.lt {w : World} {b n m : Nat} {l : List ByteArray} (h : RowS w b n m l) : b < w.heap.size := by
  obtain ⟨_, hm, f, hr, hf⟩ := h
  exact hr.lt
theorem RowS.below {w w' : World} {b n m : Nat} {l : List ByteArray} (h : RowS w b n m l) (hb : Below w.heap.size w w') : RowS w' b n m l := by
  obtain ⟨hl, hm, f, hr, hf⟩ := h
  exact ⟨hl, hm, f, row_below hb hr hr.lt, hf⟩
theorem RowS.set {w : World} {b n m p : Nat} {l : List ByteArray} (h : RowS w b n m l) (hp : p < n) (x : ByteArray) : RowS (w.setCell ⟨b, p, none⟩ (.string x)) b n m (l.set p x) := by
  obtain ⟨hl, hm, f, hr, hf⟩ := h
  refine ⟨by simpa using hl, hm, _, hr.set p (.string x), fun i hi => ?_⟩
  rw [getD_set l p i x (by omega)]
  by_cases e : i = p
  · rw [if_pos e, if_pos e]
  · rw [if_neg e, if_neg e]; exact hf i hi
theorem RowS.far {w : World} {b n m : Nat} {l : List ByteArray} (h : RowS w b n m l) {a : Addr} (ha : b ≠ a.block) (v : Value) : RowS (w.setCell a v) b n m l := by
  obtain ⟨hl, hm, f, hr, hf⟩ := h
  exact ⟨hl, hm, f, hr.setOther ha v, hf⟩
theorem RowS.own {w : World} {b n m lo hi : Nat} {l : List ByteArray} (h : RowS w b n m l) (h1 : lo ≤ b) (h2 : b < hi) : OwnS w lo hi (some ⟨b, 0, none⟩) l := by
  obtain ⟨hl, hm, f, hr, hf⟩ := h
  exact .inr ⟨b, m, f, rfl, h1, h2, by omega, hr, fun i hi => hf i (by omega)⟩

end Go.Proofs.YtophgbjbinaekaaDoor

/- Contracts of the model's crash: l01Crash; of the tests of fates. -/
namespace Go.Proofs.YtophgbjbinaekaaDoor
open Go.RowKit

end Go.Proofs.YtophgbjbinaekaaDoor

/- The model's source of draws: byte, next, chance. -/
namespace Go.Proofs.YtophgbjbinaekaaDoor
open Go.RowKit

def ByB (w : World) (lo : Nat) (A : Option Addr) (zs : List Nat) : Prop :=
  ∀ i, i < zs.length → ∃ b off, A = some ⟨b, off, none⟩ ∧ b < lo ∧ w.cell? ⟨b, off + i, none⟩ = some (.int .u8 (zs.getD i 0 : Nat)) ∧ zs.getD i 0 < 256
theorem ByB.btw {w w' : World} {lo l h' : Nat} {A : Option Addr} {zs : List Nat} (h : ByB w lo A zs) (hb : Btw l h' w w') (ho : lo ≤ l) : ByB w' lo A zs := fun i hi => by
  obtain ⟨b, off, e, q1, q2, q3⟩ := h i hi
  exact ⟨b, off, e, q1, hb.cell q2 (.inl (by show b < l; omega)), q3⟩
end Go.Proofs.YtophgbjbinaekaaDoor

/- laws.at, told exactly; laws.sameTexts. -/
namespace Go.Proofs.YtophgbjbinaekaaDoor
open Go.RowKit

def atOf (zs : List Nat) (i N : Nat) : Nat := if zs.length = 0 then i * 7 % N else (zs.getD (i % zs.length) 0 * 31 + zs.getD ((i + 1) % zs.length) 0 + i / zs.length) % N
theorem atOf_lt (zs : List Nat) (i N : Nat) (h : 0 < N) : atOf zs i N < N := by unfold atOf; split <;> exact Nat.mod_lt _ h

set_option maxRecDepth 100000 in
set_option maxHeartbeats 4000000 in
theorem lawAtE (i N : Nat) (A : Option Addr) (n c : Nat) (zs : List Nat) (w : World) (hi : i ≤ 1000) (hN : 2 ≤ N) (hN2 : N ≤ 5000) (hn : n ≤ 1048576) (hl : zs.length = n) (h : ByB w w.heap.size A zs) :
    Calls Tryd.prog 6 #[.slice A n c, .int .i64 (i : Nat), .int .i64 (N : Nat)] w fun e w' => e = .returned (.int .i64 (atOf zs i N : Nat)) ∧ Below w.heap.size w w' := by
  have h1 : ¬ (N : Int) ≤ 1 := by omega
  have h3 : ¬ (N : Int) = 0 := by omega
  have hi0 : (0 : Int) ≤ (i : Int) := by omega
  by_cases h0 : n = 0
  · have h0' : (n : Int) = 0 := by omega
    have HA : Hid (atOf zs i N = i * 7 % N) := Lib.hid (by unfold atOf; rw [if_pos (by omega)])
    have u1 : (0 : Int) ≤ (i : Int) * 7 := by omega
    clear h hl
    go_enter Tryd.func6, Tryd.ntmps6
    go_wp2
    have e1 : (i : Int) * 7 % (N : Int) = ((i * 7 % N : Nat) : Int) := by simp
    rw [e1]
    refine bodyPost_ret (v := .int .i64 ((i * 7 % N : Nat) : Int)) (by simp [results, Tryd.results6, go_sem]) rfl ?_
    exact ⟨by rw [HA.out], Below.refl _ _⟩
  · have h0' : ¬ (n : Int) = 0 := by omega
    have HA : Hid (atOf zs i N = (zs.getD (i % n) 0 * 31 + zs.getD ((i + 1) % n) 0 + i / n) % N) := Lib.hid (by unfold atOf; rw [if_neg (by omega), hl])
    obtain ⟨b, off, rfl, hb, hc, hv⟩ := h (i % n) (by rw [hl]; exact Nat.mod_lt _ (by omega))
    obtain ⟨b', off', eA, _, hc', hv'⟩ := h ((i + 1) % n) (by rw [hl]; exact Nat.mod_lt _ (by omega))
    injection eA with eA; injection eA with e1 e2; subst e1 e2
    generalize zs.getD (i % n) 0 = x at hc hv HA
    generalize zs.getD ((i + 1) % n) 0 = y at hc' hv' HA
    obtain ⟨p, hp⟩ : ∃ p, p = i % n := ⟨_, rfl⟩
    obtain ⟨q, hq⟩ : ∃ q, q = (i + 1) % n := ⟨_, rfl⟩
    obtain ⟨r, hr⟩ : ∃ r, r = i / n := ⟨_, rfl⟩
    rw [← hp] at hc
    rw [← hq] at hc'
    have t1 : (i : Int).tmod (n : Int) = (p : Int) := by rw [Int.tmod_eq_emod_of_nonneg (by omega), hp]; simp
    have t2 : ((i : Int) + 1).tmod (n : Int) = (q : Int) := by rw [Int.tmod_eq_emod_of_nonneg (by omega), hq]; simp
    have t3 : (i : Int).tdiv (n : Int) = (r : Int) := by rw [Int.tdiv_eq_ediv_of_nonneg (by omega), hr]; simp
    have hp1 : (p : Int) < (n : Int) := by have := Nat.mod_lt i (show 0 < n by omega); omega
    have hq1 : (q : Int) < (n : Int) := by have := Nat.mod_lt (i + 1) (show 0 < n by omega); omega
    have hr1 : r ≤ 1000 := by rw [hr]; exact Nat.le_trans (Nat.div_le_self _ _) hi
    rw [← hr] at HA
    clear hp hq hr h hl
    have t1' : (i : Int) % (n : Int) = (p : Int) := by rw [← t1, Int.tmod_eq_emod_of_nonneg (by omega)]
    have t2' : ((i : Int) + 1) % (n : Int) = (q : Int) := by rw [← t2, Int.tmod_eq_emod_of_nonneg (by omega)]
    have t3' : (i : Int) / (n : Int) = (r : Int) := by rw [← t3, Int.tdiv_eq_ediv_of_nonneg (by omega)]
    have u0 : IntKind.i64.wrap ((i : Int) + 1) = (i : Int) + 1 := IntWalk.i64_in _ ⟨by omega, by omega⟩
    have u1 : IntKind.i64.wrap (p : Int) = (p : Int) := IntWalk.i64_in _ ⟨by omega, by omega⟩
    have u2 : IntKind.i64.wrap (q : Int) = (q : Int) := IntWalk.i64_in _ ⟨by omega, by omega⟩
    have u3 : IntKind.i64.wrap (r : Int) = (r : Int) := IntWalk.i64_in _ ⟨by omega, by omega⟩
    have u4 : IntKind.i64.wrap (x : Int) = (x : Int) := IntWalk.i64_in _ ⟨by omega, by omega⟩
    have u5 : IntKind.i64.wrap (y : Int) = (y : Int) := IntWalk.i64_in _ ⟨by omega, by omega⟩
    have u6 : IntKind.i64.wrap ((x : Int) * 31) = (x : Int) * 31 := IntWalk.i64_in _ ⟨by omega, by omega⟩
    have u7 : IntKind.i64.wrap ((x : Int) * 31 + (y : Int)) = (x : Int) * 31 + (y : Int) := IntWalk.i64_in _ ⟨by omega, by omega⟩
    have u8 : IntKind.i64.wrap ((x : Int) * 31 + (y : Int) + (r : Int)) = (x : Int) * 31 + (y : Int) + (r : Int) := IntWalk.i64_in _ ⟨by omega, by omega⟩
    obtain ⟨z, hz⟩ : ∃ z, z = (x * 31 + y + r) % N := ⟨_, rfl⟩
    have HA2 : Hid (atOf zs i N = z) := Lib.hid (by rw [HA.out, hz])
    have hz1 : z < N := by rw [hz]; exact Nat.mod_lt _ (by omega)
    have t4' : ((x : Int) * 31 + (y : Int) + (r : Int)) % (N : Int) = (z : Int) := by rw [hz]; simp
    have t4 : ((x : Int) * 31 + (y : Int) + (r : Int)).tmod (N : Int) = (z : Int) := by rw [Int.tmod_eq_emod_of_nonneg (by omega), t4']
    have u9 : IntKind.i64.wrap (z : Int) = (z : Int) := IntWalk.i64_in _ ⟨by omega, by omega⟩
    clear hz
    go_enter Tryd.func6, Tryd.ntmps6
    go_wp2
    go_quiet (fail)
    go_wp2
    refine bodyPost_ret (v := .int .i64 (z : Int)) (by simp [results, Tryd.results6, go_sem]) rfl ?_
    exact ⟨by rw [HA2.out], below_drewN (Below.refl _ _) _⟩

end Go.Proofs.YtophgbjbinaekaaDoor

/- The source of draws, carried over what does not touch it. -/
namespace Go.Proofs.YtophgbjbinaekaaDoor
open Go.RowKit

theorem ByB.step {w w' : World} {A : Option Addr} {zs : List Nat} (h : ByB w w.heap.size A zs) (hb : Below w.heap.size w w') : ByB w' w'.heap.size A zs := fun i hi => by
  obtain ⟨b, off, e, q1, q2, q3⟩ := h i hi
  exact ⟨b, off, e, Nat.lt_of_lt_of_le q1 hb.size, (hb.cell q1).trans q2, q3⟩
end Go.Proofs.YtophgbjbinaekaaDoor

/- A disk that came in, opened: its two slices as lists. Nothing here walks. -/
namespace Go.Proofs.YtophgbjbinaekaaDoor
open Go.RowKit Go.ChangeShapes Go.WideShapes

section
variable {H : Type} {enc : TypeId × Value → H} {P : Program} {w : World} {spare : Nat → Bool} {held : Bool}

theorem getD_range {α : Type} (n : Nat) (f : Nat → α) (d : α) (i : Nat) (h : i < n) : ((List.range n).map f).getD i d = f i := by
  simp [List.getD_eq_getElem?_getD, h]

theorem add_plain {a : Addr} {b off i : Nat} {v : Value} (h : w.cell? (a.add i) = some v) (ha : a = ⟨b, off, none⟩) : w.cell? ⟨b, off + i, none⟩ = some v := by
  subst ha
  unfold Addr.add at h
  by_cases hi : i = 0
  · subst hi; simpa using h
  · rw [if_neg hi] at h; exact h

end

end Go.Proofs.YtophgbjbinaekaaDoor

/- A []byte that came in, opened: its bytes as numbers below 256, in a block that is there. -/
namespace Go.Proofs.YtophgbjbinaekaaDoor
open Go.RowKit Go.ChangeShapes Go.WideShapes

theorem open_bytes {H : Type} {enc : TypeId × Value → H} {P : Program} {w : World} {spare : Nat → Bool} {held : Bool} {t e : TypeId} {fuel : Nat} {v : Value} {x : DataW H × List MemPlace} (ht : P.underlying t = some (.slice e)) (he : P.underlying e = some (.int .u8)) (hce : P.cellsOf e = 1)
    (h : DataW.trod enc P w 0 spare held fuel t [v] = some x) :
    ∃ A n c, ∃ zs : List Nat, v = .slice A n c ∧ zs.length = n ∧ n ≤ maxLen ∧ ByB w w.heap.size A zs := by
  rcases Deep.open_slice1 ht hce h with ⟨hcs, _⟩ | ⟨a, len, cap, m, k, V, D, Pl, hcs, _, hl, hm, hmm, _, hx⟩
  · injection hcs with hv _
    exact ⟨none, 0, 0, [], hv, rfl, by unfold maxLen; omega, fun i hi => by simp at hi⟩
  · injection hcs with hv _
    have hlm : len ≤ m := by rw [hmm]; split <;> omega
    obtain ⟨S, hS⟩ := Deep.choose_lt (n := len) (p := fun i (s : Nat) => w.cell? (a.add i) = some (.int .u8 (s : Int)) ∧ s < 256) (fun i hi => by
      obtain ⟨h1, h2⟩ := hx i (by omega)
      obtain ⟨s, hc, _, hs⟩ := DataW.trod_int he h2
      injection hc with hc _
      have hr : 0 ≤ s ∧ s < 256 := by
        have hs' : decide (IntKind.u8.min ≤ s) && decide (s ≤ IntKind.u8.max) := hs
        rw [Bool.and_eq_true, decide_eq_true_eq, decide_eq_true_eq] at hs'
        have e1 : IntKind.u8.min = 0 := by decide
        have e2 : IntKind.u8.max = 255 := by decide
        rw [e1, e2] at hs'
        omega
      exact ⟨s.toNat, by rw [h1, hc, Int.toNat_of_nonneg hr.1], by omega⟩)
    refine ⟨some a, len, cap, (List.range len).map S, hv, by simp, by omega, fun i hi => ?_⟩
    have hi' : i < len := by simpa using hi
    have h0 := (hS 0 (by omega)).1
    have hsp := World.cell?_spot h0
    obtain ⟨b, off, spot⟩ := a
    have hsp' : spot = none := by simpa [Addr.add] using hsp
    subst hsp'
    have hc := add_plain (hS i hi').1 rfl
    refine ⟨b, off, rfl, cell_lt hc, ?_, ?_⟩
    · rw [getD_range len S _ i hi']; exact hc
    · rw [getD_range len S _ i hi']; exact (hS i hi').2
set_option maxRecDepth 100000 in
theorem cellsU8 : Tryd.prog.cellsOf 5 = 1 := by kernel_rfl
end Go.Proofs.YtophgbjbinaekaaDoor
