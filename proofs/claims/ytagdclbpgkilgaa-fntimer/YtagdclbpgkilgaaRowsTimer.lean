/- Rows of Timer: laid flat, fresh behind an append, an element written anew. Nothing here walks. Written by gen_rows.py. -/
import Derived.Test.YtagdclbpgkilgaaGenRTimer
import Derived.Test.YtagdclbpgkilgaaRowsG
namespace Go.Proofs.Ytagdclbpgkilgaa
open Go.RowKit

theorem rowTimer_len (rs : List TTimer) : ∀ r ∈ rs.map rowTimer, r.length = 3 := fun r hr => by
  obtain ⟨x, _, rfl⟩ := List.mem_map.1 hr
  rfl
/-- The cells of the rows. -/
def cellsTimer (rs : List TTimer) : List Value := (rs.map rowTimer).flatten
theorem cellsTimer_len (rs : List TTimer) : (cellsTimer rs).length = rs.length * 3 := by
  unfold cellsTimer
  rw [flat_len _ (rowTimer_len rs), List.length_map]
theorem RowTimer.src {w : World} {A : Option Addr} {rs : List TTimer} (h : RowTimer w A rs) (hn : 0 < rs.length) : ∃ ad, A = some ad ∧ ∀ j u, (cellsTimer rs)[j]? = some u → w.cell? (ad.add j) = some u :=
  RowL.src h (rowTimer_len rs) (by simpa using hn) (by decide)
theorem ownTimer_fresh {w' : World} {A : Option Addr} {n cap lo base : Nat} {rs : List TTimer} (h : w'.ownsRow base 54 3 (.slice A n cap) n (cellsTimer rs)) (hl : rs.length = n) (hlo : lo ≤ base) : OwnTimer w' lo w'.heap.size A rs :=
  ownR_fresh h (rowTimer_len rs) (by simpa using hl) hlo
set_option maxRecDepth 100000 in
theorem infoTimerE : ∃ i : TypeInfo, Try.prog.info? 54 = some i ∧ i.zero = some (.agg #[.int .i64 0, .int .i64 0, .bool false]) ∧ i.size = 3 ∧ i.bytes = 24 := by
  obtain ⟨i, hi, hzz⟩ := Option.map_eq_some_iff.1 infoTimer
  simp only [Prod.mk.injEq] at hzz
  exact ⟨i, hi, hzz.1, hzz.2.1, hzz.2.2⟩
/-- The place of an element, its cells, and what a store there leaves. -/
theorem OwnTimer.put {w : World} {lo hi : Nat} {A : Option Addr} {rs : List TTimer} (h : OwnTimer w lo hi A rs) (i : Nat) (hi' : i < rs.length) :
    ∃ b m f, A = some ⟨b, 0, none⟩ ∧ (w.cell? ⟨b, i * 3, none⟩ = some (.int .i64 (rs.getD i zTimer).1) ∧ w.cell? ⟨b, i * 3 + 1, none⟩ = some (.int .i64 (rs.getD i zTimer).2.1) ∧ w.cell? ⟨b, i * 3 + 2, none⟩ = some (.bool (rs.getD i zTimer).2.2)) ∧
      (∀ x, w.frozen? ⟨b, x, none⟩ = false) ∧ lo ≤ b ∧ b < hi ∧ w.rowIs b 54 m f ∧ (∀ y : TTimer, OwnTimer (((w.setCell ⟨b, i * 3, none⟩ (.int .i64 y.1)).setCell ⟨b, i * 3 + 1, none⟩ (.int .i64 y.2.1)).setCell ⟨b, i * 3 + 2, none⟩ (.bool y.2.2)) lo hi A (rs.set i y))
      ∧ (∀ y : Int, OwnTimer (w.setCell ⟨b, i * 3, none⟩ (.int .i64 y)) lo hi A (rs.set i (y, (rs.getD i zTimer).2.1, (rs.getD i zTimer).2.2)))
      ∧ (∀ y : Int, OwnTimer (w.setCell ⟨b, i * 3 + 1, none⟩ (.int .i64 y)) lo hi A (rs.set i ((rs.getD i zTimer).1, y, (rs.getD i zTimer).2.2)))
      ∧ (∀ y : Bool, OwnTimer (w.setCell ⟨b, i * 3 + 2, none⟩ (.bool y)) lo hi A (rs.set i ((rs.getD i zTimer).1, (rs.getD i zTimer).2.1, y)))
    := by
  rcases h with hnil | ⟨b, m, f, rfl, h1, h2, hm, hr, hf⟩
  · have hx := congrArg List.length hnil
    rw [List.length_map, List.length_nil] at hx
    omega
  · have hl : (rs.map rowTimer).length = rs.length := by simp
    have hp : i * 3 + 2 < m := by rw [hl] at hm; omega
    have hrow := rowTimer_at rs i hi'
    have g : ∀ j, j < 3 → f (i * 3 + j) = (rowTimer (rs.getD i zTimer)).getD j undef := fun j hj => by rw [hf i (by rw [hl]; exact hi') j hj, hrow]
    refine ⟨b, m, f, rfl, ⟨?_, ?_, ?_⟩, hr.frozen, h1, h2, hr, fun y => ?_, fun y => ?_, fun y => ?_, fun y => ?_⟩
    · rw [hr.cell (i := i * 3) (by omega)]; exact congrArg some (g 0 (by decide))
    · rw [hr.cell (i := i * 3 + 1) (by omega)]; exact congrArg some (g 1 (by decide))
    · rw [hr.cell (i := i * 3 + 2) (by omega)]; exact congrArg some (g 2 (by decide))
    · have e : (rs.set i y).map rowTimer = (rs.map rowTimer).set i (rowTimer y) := by rw [List.map_set]
      unfold OwnTimer
      rw [e]
      refine OwnR.anew h1 h2 hm hf (((hr.set (i * 3) (.int .i64 y.1)).set (i * 3 + 1) (.int .i64 y.2.1)).set (i * 3 + 2) (.bool y.2.2)) (fun x hx => ?_) (fun j hj => ?_)
      · show (if x = i * 3 + 2 then _ else if x = i * 3 + 1 then _ else if x = i * 3 then _ else f x) = f x
        rw [if_neg (by omega), if_neg (by omega), if_neg (by omega)]
      · show (if i * 3 + j = i * 3 + 2 then _ else if i * 3 + j = i * 3 + 1 then _ else if i * 3 + j = i * 3 then _ else f (i * 3 + j)) = _
        have : j = 0 ∨ j = 1 ∨ j = 2 := by omega
        rcases this with rfl | rfl | rfl
        · rw [if_neg (by omega), if_neg (by omega), if_pos (by omega)]; rfl
        · rw [if_neg (by omega), if_pos (by omega)]; rfl
        · rw [if_pos (by omega)]; rfl
    · have e : (rs.set i (y, (rs.getD i zTimer).2.1, (rs.getD i zTimer).2.2)).map rowTimer = (rs.map rowTimer).set i (rowTimer (y, (rs.getD i zTimer).2.1, (rs.getD i zTimer).2.2)) := by rw [List.map_set]
      unfold OwnTimer
      rw [e]
      refine OwnR.anew h1 h2 hm hf (hr.set (i * 3) (.int .i64 y)) (fun x hx => ?_) (fun j hj => ?_)
      · show (if x = i * 3 then _ else f x) = f x
        rw [if_neg (by omega)]
      · show (if i * 3 + j = i * 3 then _ else f (i * 3 + j)) = _
        have : j = 0 ∨ j = 1 ∨ j = 2 := by omega
        rcases this with rfl | rfl | rfl
        · rw [if_pos (by omega)]; rfl
        · rw [if_neg (by omega)]; exact g 1 (by decide)
        · rw [if_neg (by omega)]; exact g 2 (by decide)
    · have e : (rs.set i ((rs.getD i zTimer).1, y, (rs.getD i zTimer).2.2)).map rowTimer = (rs.map rowTimer).set i (rowTimer ((rs.getD i zTimer).1, y, (rs.getD i zTimer).2.2)) := by rw [List.map_set]
      unfold OwnTimer
      rw [e]
      refine OwnR.anew h1 h2 hm hf (hr.set (i * 3 + 1) (.int .i64 y)) (fun x hx => ?_) (fun j hj => ?_)
      · show (if x = i * 3 + 1 then _ else f x) = f x
        rw [if_neg (by omega)]
      · show (if i * 3 + j = i * 3 + 1 then _ else f (i * 3 + j)) = _
        have : j = 0 ∨ j = 1 ∨ j = 2 := by omega
        rcases this with rfl | rfl | rfl
        · rw [if_neg (by omega)]; exact g 0 (by decide)
        · rw [if_pos (by omega)]; rfl
        · rw [if_neg (by omega)]; exact g 2 (by decide)
    · have e : (rs.set i ((rs.getD i zTimer).1, (rs.getD i zTimer).2.1, y)).map rowTimer = (rs.map rowTimer).set i (rowTimer ((rs.getD i zTimer).1, (rs.getD i zTimer).2.1, y)) := by rw [List.map_set]
      unfold OwnTimer
      rw [e]
      refine OwnR.anew h1 h2 hm hf (hr.set (i * 3 + 2) (.bool y)) (fun x hx => ?_) (fun j hj => ?_)
      · show (if x = i * 3 + 2 then _ else f x) = f x
        rw [if_neg (by omega)]
      · show (if i * 3 + j = i * 3 + 2 then _ else f (i * 3 + j)) = _
        have : j = 0 ∨ j = 1 ∨ j = 2 := by omega
        rcases this with rfl | rfl | rfl
        · rw [if_neg (by omega)]; exact g 0 (by decide)
        · rw [if_neg (by omega)]; exact g 1 (by decide)
        · rw [if_pos (by omega)]; rfl
end Go.Proofs.Ytagdclbpgkilgaa
