/- A map[int]bool of the call's own whose values are all true: a set of integers, as the list of its keys. -/
import Derived.Test.YtoaeofahknknhaaDoorOwn
import Derived.Maps.Own
namespace Go.Proofs.YtoaeofahknknhaaDoor
open Go.RowKit

/-- Block b is a map with these keys, each with the value true. -/
def SetI (w : World) (b : Nat) (ks : List Int) : Prop :=
  ∃ es clock, w.heap[b]? = some (.map es clock) ∧ es.toList.map (·.key) = ks.map (Value.int .i64) ∧ ∀ x ∈ es.toList, x.val = .bool true
def addK (ks : List Int) (z : Int) : List Int := if z ∈ ks then ks else ks ++ [z]
/-- The keys behind the first of some numbers. -/
def keysOf (zs : List Int) : List Int := zs.foldl addK []

theorem SetI.lt {w : World} {b : Nat} {ks : List Int} (h : SetI w b ks) : b < w.heap.size := by
  obtain ⟨es, clock, hb, _⟩ := h
  exact (Array.getElem?_eq_some_iff.1 hb).1
theorem SetI.below {w w' : World} {b : Nat} {ks : List Int} (h : SetI w b ks) (hb : Below w.heap.size w w') : SetI w' b ks := by
  have hlt := h.lt
  obtain ⟨es, clock, h1, h2, h3⟩ := h
  exact ⟨es, clock, (hb.block b hlt).trans h1, h2, h3⟩
theorem SetI.made (w : World) : SetI (w.alloc (.map #[] 0)) w.heap.size [] := ⟨#[], 0, (MapKept.heap_alloc w _).1, by simp, by simp⟩

theorem find_set (z : Int) : ∀ (l : List MapEntry) (ks : List Int) (i : Nat), l.map (·.key) = ks.map (Value.int .i64) → (∀ x ∈ l, x.val = .bool true) →
    (z ∈ ks → ∃ j e0, Instr.findNow (.int .i64) (.int .i64 z) l i = some (some (i + j, .bool true)) ∧ l[j]? = some e0 ∧ e0.key = .int .i64 z) ∧
    (z ∉ ks → Instr.findNow (.int .i64) (.int .i64 z) l i = some none)
  | [], ks, i, hk, _ => by
    have : ks = [] := by cases ks with | nil => rfl | cons a r => simp at hk
    subst this
    exact ⟨fun h => by simp at h, fun _ => rfl⟩
  | e :: l, [], i, hk, _ => by simp at hk
  | e :: l, k :: ks, i, hk, hv => by
    simp only [List.map_cons, List.cons.injEq] at hk
    obtain ⟨hk1, hk2⟩ := hk
    have ih := find_set z l ks (i + 1) hk2 (fun x hx => hv x (by simp [hx]))
    by_cases hz : z = k
    · subst hz
      refine ⟨fun _ => ⟨0, e, ?_, by simp, hk1⟩, fun h => by simp at h⟩
      simp only [Instr.findNow, hk1, Instr.sameNow, if_true, beq_self_eq_true, Nat.add_zero]
      rw [hv e (by simp)]
    · have hs : (z == k) = false := by simpa using hz
      have hf : Instr.findNow (.int .i64) (.int .i64 z) (e :: l) i = Instr.findNow (.int .i64) (.int .i64 z) l (i + 1) := by
        simp only [Instr.findNow, hk1, Instr.sameNow, if_true, hs]
      constructor
      · intro h
        have h' : z ∈ ks := by simpa [hz] using h
        obtain ⟨j, e0, q1, q2, q3⟩ := ih.1 h'
        exact ⟨j + 1, e0, by rw [hf, q1]; congr 3; omega, by simpa using q2, q3⟩
      · intro h
        rw [hf]
        exact ih.2 (fun q => h (by simp [q]))

section
variable {P : Program} {t k e : TypeId}
theorem run_set_len {w : World} {b : Nat} {ks : List Int} (ht : P.underlying t = some (.map k e)) (h : SetI w b ks) (ty : TypeId) : (Builtin.len_ #[t] ty #[.map (some b)]).run P w = .ok (.int .i64 (ks.length : Int)) w := by
  obtain ⟨es, clock, hb, hk, _⟩ := h
  have e1 : es.size = ks.length := by have := congrArg List.length hk; simpa using this
  simp [Builtin.len_, run_underlying ht, MapKept.run_getObj_map hb, goInt, Result.andThen, e1]
theorem run_set_look {w : World} {b : Nat} {ks : List Int} (ht : P.underlying t = some (.map k e)) (hk : P.underlying k = some (.int .i64)) (hz : (zeroValue e).run P w = .ok (.bool false) w) (h : SetI w b ks) (z : Int) :
    (Instr.lookup t (.map (some b)) (.int .i64 z) false).run P w = .ok (.bool (decide (z ∈ ks))) w := by
  obtain ⟨es, clock, hb, hks, hv⟩ := h
  have hf := find_set z es.toList ks 0 hks hv
  by_cases hm : z ∈ ks
  · obtain ⟨j, e0, q1, _, _⟩ := hf.1 hm
    simp [Instr.lookup, run_underlying ht, MapKept.run_getObj_map hb, MapKept.run_checkKey (w := w) hk (show MapKept.IsKey (.int .i64) (.int .i64 z) from rfl) _ 9999, MapKept.run_findKey (w := w) hk q1, Result.andThen, hm]
  · have q1 := hf.2 hm
    simp [Instr.lookup, run_underlying ht, MapKept.run_getObj_map hb, MapKept.run_checkKey (w := w) hk (show MapKept.IsKey (.int .i64) (.int .i64 z) from rfl) _ 9999, MapKept.run_findKey (w := w) hk q1, hz, Result.andThen, hm]
theorem run_set_add {w : World} {b : Nat} {ks : List Int} (ht : P.underlying t = some (.map k e)) (hk : P.underlying k = some (.int .i64)) (h : SetI w b ks) (z : Int) :
    ∃ w', (Instr.mapUpdate t (.map (some b)) (.int .i64 z) (.bool true)).run P w = .ok () w' ∧ SetI w' b (addK ks z) ∧ w.grownBy w' (some b) := by
  obtain ⟨es, clock, hb, hks, hv⟩ := h
  have hf := find_set z es.toList ks 0 hks hv
  have hg : ∀ es' c', w.grownBy (ChangeMaps.setBlock w b (.map es' c')) (some b) := fun es' c' => ⟨rfl, rfl, rfl, by simp [ChangeMaps.setBlock], fun i _ hi => ChangeMaps.heap_setBlock_other hb _ (fun e => hi (by rw [e]))⟩
  by_cases hm : z ∈ ks
  · obtain ⟨j, e0, q1, q2, q3⟩ := hf.1 hm
    have q2' : es[j]? = some e0 := by simpa using q2
    refine ⟨ChangeMaps.setBlock w b (.map (es.modify j fun e => { e with key := .int .i64 z, val := .bool true }) clock), ?_, ⟨_, _, ChangeMaps.heap_setBlock_same hb _, ?_, ?_⟩, hg _ _⟩
    · simp [Instr.mapUpdate, run_underlying ht, MapKept.run_getObj_map hb, MapKept.run_checkKey (w := w) hk (show MapKept.IsKey (.int .i64) (.int .i64 z) from rfl) _ 9999, MapKept.run_findKey (w := w) hk q1, q2', q3, MapKept.run_keyThatStays (w := w) (show MapKept.IsKey (.int .i64) (.int .i64 z) from rfl), MapKept.run_setObj_map _ hb, Result.andThen, ChangeMaps.setBlock]
    · unfold addK
      rw [if_pos hm, ← hks]
      apply List.ext_getElem?
      intro i
      simp only [List.getElem?_map, Array.getElem?_toList, Array.getElem?_modify]
      by_cases hij : j = i
      · subst hij; simp [q2', q3]
      · simp [hij]
    · intro x hx
      obtain ⟨i, hi⟩ := List.getElem?_of_mem hx
      rw [Array.getElem?_toList, Array.getElem?_modify] at hi
      by_cases hij : j = i
      · subst hij; simp [q2'] at hi; rw [← hi]
      · simp [hij] at hi
        exact hv x (by rw [Array.mem_toList_iff]; exact Array.mem_of_getElem? hi)
  · have q1 := hf.2 hm
    refine ⟨ChangeMaps.setBlock w b (.map (es.push ⟨.int .i64 z, .bool true, clock⟩) (clock + 1)), ?_, ⟨_, _, ChangeMaps.heap_setBlock_same hb _, ?_, ?_⟩, hg _ _⟩
    · simp [Instr.mapUpdate, run_underlying ht, MapKept.run_getObj_map hb, MapKept.run_checkKey (w := w) hk (show MapKept.IsKey (.int .i64) (.int .i64 z) from rfl) _ 9999, MapKept.run_findKey (w := w) hk q1, MapKept.run_setObj_map _ hb, Result.andThen, ChangeMaps.setBlock]
    · unfold addK
      rw [if_neg hm]
      simp [hks]
    · intro x hx
      simp only [Array.toList_push, List.mem_append, List.mem_singleton] at hx
      rcases hx with hx | rfl
      · exact hv x hx
      · rfl
end

theorem wpList_set_add {P : Program} (w : World) {ops : Array Oper} {rest : List Oper} {o : Oper} {a : Act} {Q : Exit → Act → World → Prop}
    (hg : o.guard = none) (m x v : Operand) (t : TypeId) (hop : o.op = Op.mapUpdate t m x v) (k e : TypeId) (ht : P.underlying t = some (.map k e)) (hk : P.underlying k = some (.int .i64)) (b : Nat) (ks : List Int) (z : Int)
    (hm : a.eval m = .map (some b)) (hx : a.eval x = .int .i64 z) (hv : a.eval v = .bool true) (hown : SetI w b ks)
    (hK : ∀ w', SetI w' b (addK ks z) → w.grownBy w' (some b) → wpList P ops Q rest (a.put o.dst undef) w') :
    wpList P ops Q (o :: rest) a w := by
  refine wpList_plain hg fun K' hK' => ?_
  obtain ⟨w', hrun, r1, r2⟩ := run_set_add ht hk hown z
  unfold Oper.wp
  simp [execOp, hop, hm, hx, hv, hrun, Result.andThen]
  exact hK' _ _ (hK w' r1 r2)

theorem keysOf_step (zs : List Int) (k : Nat) (h : k < zs.length) : keysOf (zs.take (k + 1)) = addK (keysOf (zs.take k)) (zs.getD k 0) := by
  unfold keysOf
  rw [List.take_succ_eq_append_getElem h, List.foldl_append, List.getD_eq_getElem?_getD, List.getElem?_eq_getElem h]
  rfl

/- The pure side: the keys are the numbers, each once. -/
theorem fold_mem (z : Int) : ∀ (zs ks : List Int), z ∈ zs.foldl addK ks ↔ z ∈ ks ∨ z ∈ zs
  | [], ks => by simp
  | a :: zs, ks => by
    rw [List.foldl_cons, fold_mem z zs]
    unfold addK
    split
    · rename_i h
      constructor
      · rintro (q | q)
        · exact .inl q
        · exact .inr (by simp [q])
      · rintro (q | q)
        · exact .inl q
        · simp at q
          rcases q with rfl | q
          · exact .inl h
          · exact .inr q
    · simp [or_assoc]
theorem keysOf_mem (zs : List Int) (z : Int) : z ∈ keysOf zs ↔ z ∈ zs := by
  unfold keysOf; rw [fold_mem]; simp
theorem fold_len (zs : List Int) : ∀ ks : List Int, ks.Nodup → (zs.foldl addK ks).length ≤ ks.length + zs.length ∧ ((zs.foldl addK ks).length = ks.length + zs.length ↔ (ks ++ zs).Nodup) := by
  induction zs with
  | nil => intro ks h; simp [h]
  | cons a zs ih =>
    intro ks h
    rw [List.foldl_cons]
    by_cases hm : a ∈ ks
    · have e : addK ks a = ks := by unfold addK; rw [if_pos hm]
      rw [e]
      have := ih ks h
      refine ⟨by simp; omega, ?_⟩
      constructor
      · intro q; simp at q; omega
      · intro q
        exfalso
        rw [List.nodup_append] at q
        exact q.2.2 a hm a (by simp) rfl
    · have e : addK ks a = ks ++ [a] := by unfold addK; rw [if_neg hm]
      have hn : (ks ++ [a]).Nodup := by rw [List.nodup_append]; exact ⟨h, by simp, fun x hx y hy q => by simp at hy; subst hy; subst q; exact hm hx⟩
      rw [e]
      have := ih (ks ++ [a]) hn
      simp only [List.length_append, List.length_cons, List.length_nil, List.append_assoc, List.cons_append, List.nil_append] at this ⊢
      refine ⟨by omega, ?_⟩
      rw [← this.2]
      constructor <;> intro q <;> omega
theorem keysOf_len (zs : List Int) : (keysOf zs).length ≤ zs.length ∧ ((keysOf zs).length = zs.length ↔ zs.Nodup) := by
  have := fold_len zs [] (by simp)
  simpa [keysOf] using this
end Go.Proofs.YtoaeofahknknhaaDoor
