/- The map of words: a map[string]int of the call's own, as a list of its entries. -/
import Derived.Test.YtoaeofahknknhaaDoorOpTab
import Derived.Maps.Own
namespace Go.Proofs.YtoaeofahknknhaaDoor
open Go.RowKit

/-- Block b is a map with these entries. -/
def VocM (w : World) (b : Nat) (l : List (ByteArray × Int)) : Prop :=
  ∃ es clock, w.heap[b]? = some (.map es clock) ∧ es.toList.map (fun e => (e.key, e.val)) = l.map (fun x => (Value.string x.1, Value.int .i64 x.2))
def lookV (z : ByteArray) : List (ByteArray × Int) → Option Int
  | [] => none
  | x :: r => if z = x.1 then some x.2 else lookV z r
theorem VocM.lt {w : World} {b : Nat} {l : List (ByteArray × Int)} (h : VocM w b l) : b < w.heap.size := by
  obtain ⟨es, clock, hb, _⟩ := h
  exact (Array.getElem?_eq_some_iff.1 hb).1
theorem VocM.below {w w' : World} {b : Nat} {l : List (ByteArray × Int)} (h : VocM w b l) (hb : Below w.heap.size w w') : VocM w' b l := by
  have hlt := h.lt
  obtain ⟨es, clock, h1, h2⟩ := h
  exact ⟨es, clock, (hb.block b hlt).trans h1, h2⟩
theorem VocM.made (w : World) : VocM (w.alloc (.map #[] 0)) w.heap.size [] := ⟨#[], 0, (MapKept.heap_alloc w _).1, by simp⟩
theorem ba_beq (a b : ByteArray) : (a == b) = decide (a = b) := by
  have h : (a == b) = (a.data == b.data) := rfl
  rw [h, Bool.eq_iff_iff]
  simp only [beq_iff_eq, decide_eq_true_eq]
  exact ⟨fun h => by cases a; cases b; simp_all, fun h => by rw [h]⟩
theorem find_voc (z : ByteArray) : ∀ (es : List MapEntry) (l : List (ByteArray × Int)) (i : Nat), es.map (fun e => (e.key, e.val)) = l.map (fun x => (Value.string x.1, Value.int .i64 x.2)) →
    (∀ v, lookV z l = some v → ∃ j, Instr.findNow .string (.string z) es i = some (some (j, .int .i64 v))) ∧ (lookV z l = none → Instr.findNow .string (.string z) es i = some none)
  | [], l, i, hk => by
    have : l = [] := by cases l with | nil => rfl | cons a r => simp at hk
    subst this
    exact ⟨fun v h => by simp [lookV] at h, fun _ => rfl⟩
  | e :: es, [], i, hk => by simp at hk
  | e :: es, x :: l, i, hk => by
    simp only [List.map_cons, List.cons.injEq, Prod.mk.injEq] at hk
    obtain ⟨⟨hk1, hk2⟩, hk3⟩ := hk
    have ih := find_voc z es l (i + 1) hk3
    by_cases hz : z = x.1
    · have hs : (z == x.1) = true := by rw [ba_beq]; simpa using hz
      constructor
      · intro v hv
        simp only [lookV, if_pos hz, Option.some.injEq] at hv
        refine ⟨i, ?_⟩
        simp only [Instr.findNow, hk1, Instr.sameNow, hs]
        rw [hk2, hv]
      · intro h
        simp [lookV, if_pos hz] at h
    · have hs : (z == x.1) = false := by rw [ba_beq]; simpa using hz
      have hf : Instr.findNow .string (.string z) (e :: es) i = Instr.findNow .string (.string z) es (i + 1) := by
        simp only [Instr.findNow, hk1, Instr.sameNow, hs]
      constructor
      · intro v hv
        simp only [lookV, if_neg hz] at hv
        obtain ⟨j, hj⟩ := ih.1 v hv
        exact ⟨j, by rw [hf, hj]⟩
      · intro h
        simp only [lookV, if_neg hz] at h
        rw [hf]; exact ih.2 h
section
variable {P : Program} {t k e : TypeId}
theorem run_voc_look {w : World} {b : Nat} {l : List (ByteArray × Int)} (ht : P.underlying t = some (.map k e)) (hk : P.underlying k = some .string) (hz : (zeroValue e).run P w = .ok (.int .i64 0) w) (h : VocM w b l) (z : ByteArray) :
    (Instr.lookup t (.map (some b)) (.string z) true).run P w = .ok (.tuple #[.int .i64 ((lookV z l).getD 0), .bool (lookV z l).isSome]) w := by
  obtain ⟨es, clock, hb, hks⟩ := h
  have hf := find_voc z es.toList l 0 hks
  cases hm : lookV z l with
  | some v =>
    obtain ⟨j, q1⟩ := hf.1 v hm
    simp [Instr.lookup, run_underlying ht, MapKept.run_getObj_map hb, MapKept.run_checkKey (w := w) hk (show MapKept.IsKey .string (.string z) from trivial) _ 9999, MapKept.run_findKey (w := w) hk q1, Result.andThen]
  | none =>
    have q1 := hf.2 hm
    simp [Instr.lookup, run_underlying ht, MapKept.run_getObj_map hb, MapKept.run_checkKey (w := w) hk (show MapKept.IsKey .string (.string z) from trivial) _ 9999, MapKept.run_findKey (w := w) hk q1, hz, Result.andThen]
theorem run_voc_add {w : World} {b : Nat} {l : List (ByteArray × Int)} (ht : P.underlying t = some (.map k e)) (hk : P.underlying k = some .string) (h : VocM w b l) (z : ByteArray) (v : Int) (hn : lookV z l = none) :
    ∃ w', (Instr.mapUpdate t (.map (some b)) (.string z) (.int .i64 v)).run P w = .ok () w' ∧ VocM w' b (l ++ [(z, v)]) ∧ w.grownBy w' (some b) := by
  obtain ⟨es, clock, hb, hks⟩ := h
  have q1 := (find_voc z es.toList l 0 hks).2 hn
  have hg : ∀ es' c', w.grownBy (ChangeMaps.setBlock w b (.map es' c')) (some b) := fun es' c' => ⟨rfl, rfl, rfl, by simp [ChangeMaps.setBlock], fun i _ hi => ChangeMaps.heap_setBlock_other hb _ (fun e => hi (by rw [e]))⟩
  refine ⟨ChangeMaps.setBlock w b (.map (es.push ⟨.string z, .int .i64 v, clock⟩) (clock + 1)), ?_, ⟨_, _, ChangeMaps.heap_setBlock_same hb _, ?_⟩, hg _ _⟩
  · simp [Instr.mapUpdate, run_underlying ht, MapKept.run_getObj_map hb, MapKept.run_checkKey (w := w) hk (show MapKept.IsKey .string (.string z) from trivial) _ 9999, MapKept.run_findKey (w := w) hk q1, MapKept.run_setObj_map _ hb, Result.andThen, ChangeMaps.setBlock]
  · simp [hks]
end
theorem wpList_voc_add {P : Program} (w : World) {ops : Array Oper} {rest : List Oper} {o : Oper} {a : Act} {Q : Exit → Act → World → Prop}
    (hg : o.guard = none) (m x v : Operand) (t : TypeId) (hop : o.op = Op.mapUpdate t m x v) (k e : TypeId) (ht : P.underlying t = some (.map k e)) (hk : P.underlying k = some .string) (b : Nat) (l : List (ByteArray × Int)) (z : ByteArray) (n : Int)
    (hm : a.eval m = .map (some b)) (hx : a.eval x = .string z) (hv : a.eval v = .int .i64 n) (hown : VocM w b l) (hnew : lookV z l = none)
    (hK : ∀ w', VocM w' b (l ++ [(z, n)]) → w.grownBy w' (some b) → wpList P ops Q rest (a.put o.dst undef) w') :
    wpList P ops Q (o :: rest) a w := by
  refine wpList_plain hg fun K' hK' => ?_
  obtain ⟨w', hrun, r1, r2⟩ := run_voc_add ht hk hown z n hnew
  unfold Oper.wp
  simp [execOp, hop, hm, hx, hv, hrun, Result.andThen]
  exact hK' _ _ (hK w' r1 r2)

/-- The entries of the first n operations. -/
def vocL (n : Nat) : List (ByteArray × Int) := (List.range n).map fun i => (opWord i, (i : Int))
theorem vocL_step (n : Nat) : vocL (n + 1) = vocL n ++ [(opWord n, (n : Int))] := by simp [vocL, List.range_succ]
theorem vocL_new (n : Nat) (h : n < 22) : lookV (opWord n) (vocL n) = none := by
  have : n = 0 ∨ n = 1 ∨ n = 2 ∨ n = 3 ∨ n = 4 ∨ n = 5 ∨ n = 6 ∨ n = 7 ∨ n = 8 ∨ n = 9 ∨ n = 10 ∨ n = 11 ∨ n = 12 ∨ n = 13 ∨ n = 14 ∨ n = 15 ∨ n = 16 ∨ n = 17 ∨ n = 18 ∨ n = 19 ∨ n = 20 ∨ n = 21 := by omega
  rcases this with rfl | rfl | rfl | rfl | rfl | rfl | rfl | rfl | rfl | rfl | rfl | rfl | rfl | rfl | rfl | rfl | rfl | rfl | rfl | rfl | rfl | rfl <;> decide
/-- The operation of a word. -/
def opOf (z : ByteArray) : Option Int := lookV z (vocL 22)
theorem opOf_range {z : ByteArray} {v : Int} (h : opOf z = some v) : 0 ≤ v ∧ v ≤ 21 := by
  have aux : ∀ l : List (ByteArray × Int), (∀ x ∈ l, 0 ≤ x.2 ∧ x.2 ≤ 21) → ∀ v, lookV z l = some v → 0 ≤ v ∧ v ≤ 21 := by
    intro l
    induction l with
    | nil => intro _ v h; simp [lookV] at h
    | cons x l ih =>
      intro hx v h
      unfold lookV at h
      split at h
      · injection h with h; rw [← h]; exact hx x (by simp)
      · exact ih (fun y hy => hx y (by simp [hy])) v h
  refine aux _ ?_ v h
  intro x hx
  simp only [vocL, List.mem_map, List.mem_range] at hx
  obtain ⟨i, hi, rfl⟩ := hx
  exact ⟨by show (0 : Int) ≤ (i : Int); omega, by show (i : Int) ≤ 21; omega⟩
set_option maxRecDepth 100000 in
theorem zeroInt (w : World) : (zeroValue 3).run Tryd.prog w = .ok (.int .i64 0) w := by
  rfl

set_option maxRecDepth 100000 in
set_option maxHeartbeats 2000000 in
theorem newVoc (w : World) (ht : OpsT w) : Calls Tryd.prog 51 #[] w fun e w' => ∃ b, e = .returned (.map (some b)) ∧ Hid (VocM w' b (vocL 22)) ∧ Below w.heap.size w w' := by
  have HT := Lib.hid ht
  have hlt := ht.lt
  obtain ⟨W0, hW0⟩ : ∃ W0, W0 = w.alloc (.map #[] 0) := ⟨_, rfl⟩
  have hb0 : Below w.heap.size w W0 := by rw [hW0]; exact alloc_below _ _
  have hv0 : VocM W0 w.heap.size [] := by rw [hW0]; exact VocM.made w
  have HV0 := Lib.hid hv0
  have HB0 := Lib.hid hb0
  have HW0 := Lib.hid hW0
  clear ht hW0 hb0 hv0
  have hmm := fun t w => run_makeMap (P := Tryd.prog) t w
  go_enter Tryd.func51, Tryd.ntmps51
  go_wp2
  rw [← HW0.out]
  go_loopw [4] (fun i wr => ∃ n : Nat, n ≤ 22 ∧ i = .int .i64 n ∧ Hid (VocM wr w.heap.size (vocL n)) ∧ Hid (Below w.heap.size w wr)) (fun i _ => 22 - (intOf i).toNat)
  case atStart => exact ⟨0, by omega, rfl, Lib.hid HV0.out, HB0⟩
  case round =>
    obtain ⟨n, hn, rfl, HV, HB⟩ := hrel
    by_cases hlt2 : n < 22
    · have hi : (n : Int) < 22 := by omega
      obtain ⟨c1, c2, c3, c4⟩ := (HT.out.below HB.out) n (by omega)
      have HS := Lib.hid (vocL_step n)
      have HN := Lib.hid (vocL_new n hlt2)
      generalize opWord n = s at c1 HS HN
      clear c2 c3 c4
      go_wp2_with (refine wpList_voc_add _ rfl (.tmp 7) (.tmp 11) (.tmp 12) 76 rfl 9 3 Tryd.underlying76 Tryd.underlying9 w.heap.size (vocL n) s (n : Int) rfl rfl rfl HV.out HN.out ?_)
      intro w2 hv2 hg2
      have HV2 := Lib.hid hv2
      have HB2 : Hid (Below w.heap.size w w2) := Lib.hid (HB.out.grown hg2 HB.out.size (fun k hk => by injection hk with hk; omega))
      clear hv2 hg2 c1
      go_wp2
      go_roundw
      case rel => exact ⟨n + 1, by omega, by go_num, Lib.hid (by rw [HS.out]; exact HV2.out), HB2⟩
      case measure => simp [intOf]; omega
    · obtain rfl : n = 22 := by omega
      go_wp2
      go_ret
      exact ⟨_, rfl, HV, HB.out⟩
end Go.Proofs.YtoaeofahknknhaaDoor
