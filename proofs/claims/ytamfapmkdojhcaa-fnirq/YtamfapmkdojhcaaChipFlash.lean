/- The contract of chip.flash: a chip as a flash. -/
import Derived.Test.YtamfapmkdojhcaaChipOf
import Derived.Deep.DeepCutAuto
import Derived.Deep.DeepFit
namespace Go.Proofs.Ytamfapmkdojhcaa
open Go.RowKit

theorem made_row {w : World} {b n : Nat} {v : Value} {t : TypeId} (h : w.heap[b]? = some (.cells (madeCells #[v] n) t (0, 0))) : w.rowIs b t n (fun _ => v) := by
  obtain ⟨cs, hc, hs, hi⟩ := World.rowIs_made w v n t
  have e : (w.alloc (.cells (madeCells #[v] n) t)).heap[w.heap.size]? = some (.cells (madeCells #[v] n) t (0, 0)) := Box.new w t (madeCells #[v] n)
  rw [e] at hc
  injection hc with hc
  injection hc with hc _
  exact ⟨cs, by rw [h, hc], hs, hi⟩
theorem three_new (W : World) (o1 o2 o3 : Obj) : (((W.alloc o1).alloc o2).alloc o3).heap[W.heap.size]? = some o1 ∧ (((W.alloc o1).alloc o2).alloc o3).heap[W.heap.size + 1]? = some o2 ∧ (((W.alloc o1).alloc o2).alloc o3).heap[W.heap.size + 1 + 1]? = some o3 := by
  refine ⟨?_, ?_, ?_⟩
  · show (((W.heap.push o1).push o2).push o3)[W.heap.size]? = some o1
    rw [Array.getElem?_push, if_neg (by simp only [Array.size_push]; omega), Array.getElem?_push, if_neg (by simp only [Array.size_push]; omega), Array.getElem?_push, if_pos rfl]
  · show (((W.heap.push o1).push o2).push o3)[W.heap.size + 1]? = some o2
    rw [Array.getElem?_push, if_neg (by simp only [Array.size_push]; omega), Array.getElem?_push, if_pos (by simp only [Array.size_push])]
  · show (((W.heap.push o1).push o2).push o3)[W.heap.size + 1 + 1]? = some o3
    rw [Array.getElem?_push, if_pos (by simp only [Array.size_push])]
/-- A copy as one step of a region that draws: one block turns. -/
theorem step_copy_btw {P : Program} {ops : Array Oper} {o : Oper} {a : Act} {w : World} {K : Act → World → Prop} {Q : Exit → Act → World → Prop} {E : Prop} (hgd : o.guard = none) (d s : Operand) (dT sT : TypeId)
    (ho : o.op = .call { callee := .builtin .copy, args := #[d, s], argTypes := #[dT, sT] }) (elem : TypeId) (hu : P.underlying dT = some (.slice elem)) (hsz : (P.info? elem).map (·.size) = some 1)
    (g off dLen dCap : Nat) (ad : Addr) (sLen sCap : Nat) (hd : a.eval d = .slice (some ⟨g, off, none⟩) dLen dCap) (hs : a.eval s = .slice (some ad) sLen sCap)
    (cur : List Value) (t : TypeId) (hg : w.heap[g]? = some (.cells cur.toArray t (0, 0))) (cs : List Value) (hn : cs.length = Nat.min sLen dLen)
    (hsrc : ∀ j v, cs[j]? = some v → w.cell? (ad.add j) = some v)
    (hfit : off + cs.length ≤ cur.length) (h1 : ∀ v ∈ cs, v.oneCell' = true)
    (h : ∀ w', Hid (w'.heap[g]? = some (.cells (splice cur off cs).toArray t (0, 0))) → Btw g (g + 1) w w' → K (a.put o.dst (goInt cs.length)) w') :
    if Region.wanted o (yielded ops a.tmps) = true then Oper.wp P o a w K Q else E := by
  have hw : Region.wanted o (yielded ops a.tmps) = true := by simp [Region.wanted, hgd]
  rw [if_pos hw]
  have hrun := run_copy_row (P := P) w dT sT o.type elem g off dLen dCap ad sLen sCap cur.toArray t cs hu hsz hg hn hsrc (by simpa using hfit) h1
  unfold Oper.wp
  simp [execOp, ho, resolve, invoke, builtin, hd, hs, hrun, Result.andThen]
  exact h _ (show _ = _ by simpa [splice] using setRow_heap w g _ _ t _ hg) ⟨rfl, rfl, rfl, by simp [World.setRow], fun k _ hk => setRow_other w g k _ (by omega)⟩
theorem row_heap {w : World} {b n : Nat} {t : TypeId} {f : Nat → Value} (h : w.rowIs b t n f) : ∃ cur : List Value, cur.length = n ∧ w.heap[b]? = some (.cells cur.toArray t (0, 0)) := by
  obtain ⟨cs, hc, hs, _⟩ := h
  exact ⟨cs.toList, by simpa using hs, by simpa using hc⟩
theorem splice_all {α : Type} (l m : List α) (h : l.length = m.length) : splice l 0 m = m := by
  unfold splice
  rw [List.take_zero, List.nil_append, Nat.zero_add, ← h, List.drop_length, List.append_nil]
theorem ownB_row {w : World} {lo b : Nat} {gs : List Bool} (h : w.heap[b]? = some (.cells (cellsB gs).toArray 4 (0, 0))) (hlo : lo ≤ b) : OwnB w lo w.heap.size (some ⟨b, 0, none⟩) gs := by
  have hr : w.rowIs b 4 gs.length (fun i => .bool (gs.getD i false)) := ⟨_, h, by simp [cellsB], fun i hi => by
    show _ = some (Value.bool (gs.getD i false))
    rw [List.getElem?_toArray]
    unfold cellsB
    rw [List.getElem?_map, List.getD_eq_getElem?_getD, List.getElem?_eq_getElem hi]
    rfl⟩
  exact .inr ⟨b, gs.length, _, rfl, hlo, hr.lt, Nat.le_refl _, hr, fun i _ => rfl⟩
def cellsU (zs : List Int) : List Value := zs.map fun z => Value.int .u8 z
theorem cellsU_len (zs : List Int) : (cellsU zs).length = zs.length := by simp [cellsU]
theorem cellsU_at (zs : List Int) (j : Nat) (h : j < zs.length) : (cellsU zs)[j]? = some (.int .u8 (zs.getD j 0)) := by
  unfold cellsU
  rw [List.getElem?_map, List.getD_eq_getElem?_getD, List.getElem?_eq_getElem h]
  rfl
set_option maxRecDepth 100000 in
theorem sizeU8 : (Try.prog.info? 5).map (·.size) = some 1 := by kernel_rfl
end Go.Proofs.Ytamfapmkdojhcaa
