/- Contracts of both RootOK and of what they call. -/
import Derived.Test.YtoaeofahknknhaaDoorRoot
import Derived.Test.YtoaeofahknknhaaDoorSets
import Derived.Test.YtoaeofahknknhaaDoorOkDisk
namespace Go.Proofs.YtoaeofahknknhaaDoor
open Go.RowKit

def pageB (z : Int) : Bool := decide (2 ≤ z ∧ z ≤ 47)
/-- Whether a root is valid. -/
def rootB (g : Int) (zs : List Int) : Bool := decide (1 ≤ g ∧ g ≤ 999999) && decide (zs.length = 17) && zs.all pageB && decide zs.Nodup

def inB (lo hi z : Int) : Bool := decide (lo ≤ z ∧ z ≤ hi)
set_option maxRecDepth 100000 in
theorem l01InG (z lo hi : Int) (w : World) : Calls Tryd.prog 64 #[.int .i64 z, .int .i64 lo, .int .i64 hi] w fun e w' => e = .returned (.bool (inB lo hi z)) ∧ w = w' := by
  go_enter Tryd.func64, Tryd.ntmps64
  go_wp2
  all_goals go_ret
  all_goals (refine ⟨ret_bool ?_, rfl⟩)
  all_goals (unfold inB; rw [Bool.eq_iff_iff]; simp; try omega)

/-- The call hands back a set of its own. -/
def GivesSet (ks : List Int) (w : World) (e : Ending) (w' : World) : Prop := ∃ b, e = .returned (.map (some b)) ∧ w.heap.size ≤ b ∧ Hid (SetI w' b ks) ∧ Below w.heap.size w w'

theorem rootB_no {g : Int} {zs : List Int} (h : ¬ (1 ≤ g ∧ g ≤ 999999) ∨ zs.length ≠ 17) : rootB g zs = false := by
  unfold rootB
  rcases h with h | h
  · rw [show decide (1 ≤ g ∧ g ≤ 999999) = false by simpa using h]; rfl
  · rw [show decide (zs.length = 17) = false by simpa using h]; simp
theorem rootB_yes {g : Int} {zs : List Int} (h : 1 ≤ g ∧ g ≤ 999999) (h2 : zs.length = 17) : rootB g zs = (zs.all pageB && decide zs.Nodup) := by
  unfold rootB
  rw [show decide (1 ≤ g ∧ g ≤ 999999) = true by simpa using h, show decide (zs.length = 17) = true by simpa using h2]; simp
theorem nodup_len (zs : List Int) (h : zs.length = 17) : (((keysOf zs).length : Int) == 17) = decide zs.Nodup := by
  have := (keysOf_len zs).2
  rw [h] at this
  by_cases hn : zs.Nodup
  · have e := this.2 hn
    rw [e]; simp [hn]
  · have : (keysOf zs).length ≠ 17 := fun q => hn (this.1 q)
    simp [hn]; omega

theorem take_reads {w : World} {A : Option Addr} {zs : List Int} (h : IntL w A zs) (k : Nat) : IntL w A (zs.take k) := fun i hi => by
  simp at hi
  obtain ⟨b, off, e, hc⟩ := h i (by omega)
  refine ⟨b, off, e, ?_⟩
  rw [hc, List.getD_eq_getElem?_getD, List.getD_eq_getElem?_getD, List.getElem?_take_of_lt (by omega)]

/-- The first k of a table are on pages, no two of them the same. -/
def goodK (zs : List Int) (k : Nat) : Bool := (zs.take k).all pageB && decide (zs.take k).Nodup
theorem goodK_step (zs : List Int) (k : Nat) (h : k < zs.length) : goodK zs (k + 1) = (goodK zs k && (pageB (zs.getD k 0) && !decide (zs.getD k 0 ∈ zs.take k))) := by
  unfold goodK
  rw [List.take_succ_eq_append_getElem h, List.getD_eq_getElem?_getD, List.getElem?_eq_getElem h, Option.getD_some]
  rw [List.all_append, Bool.eq_iff_iff]
  simp only [Bool.and_eq_true, decide_eq_true_eq, List.all_cons, List.all_nil, List.nodup_append, Bool.not_eq_true', decide_eq_false_iff_not]
  constructor
  · rintro ⟨⟨a, b, _⟩, c, _, d⟩
    exact ⟨⟨a, c⟩, b, fun q => d _ q _ (by simp) rfl⟩
  · rintro ⟨⟨a, c⟩, b, d⟩
    exact ⟨⟨a, b, trivial⟩, c, by simp, fun x hx y hy q => by simp at hy; subst hy; subst q; exact d hx⟩
theorem goodK_all (zs : List Int) (k : Nat) (h : zs.length ≤ k) : goodK zs k = (zs.all pageB && decide zs.Nodup) := by
  unfold goodK; rw [List.take_of_length_le h]
theorem goodK_no (zs : List Int) (k : Nat) (h : goodK zs k = false) : (zs.all pageB && decide zs.Nodup) = false := by
  cases hx : (zs.all pageB && decide zs.Nodup) with
  | false => rfl
  | true =>
    rw [Bool.and_eq_true, List.all_eq_true, decide_eq_true_eq] at hx
    rw [← h]
    unfold goodK
    symm
    rw [Bool.and_eq_true, List.all_eq_true, decide_eq_true_eq]
    exact ⟨fun x q => hx.1 x (List.mem_of_mem_take q), hx.2.sublist (List.take_sublist _ _)⟩
end Go.Proofs.YtoaeofahknknhaaDoor
