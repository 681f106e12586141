/- Texts of this claim, one behind the other: Voc, Txt2, OpEnc2, Wrd, OpDec2, Settle, Flush, Crash. -/
import Derived.Maps.Own
import Derived.Laws.BitsLemmas
import Derived.Deep.RegionHeld3
import Derived.Laws.CopyOwn
import Derived.OwnWalk
import Derived.Laws.OwnMore
import Derived.WalkLawsBesides
import Derived.Test.YtcchhbkbnbphhaaDoorM3
/- The map of words: a map[string]int of the call's own, as a list of its entries. -/
namespace Go.Proofs.YtcchhbkbnbphhaaDoor
open Go.RowKit

def VocM (w : World) (b : Nat) (l : List (ByteArray × Int)) : Prop :=
  ∃ es clock, w.heap[b]? = some (.map es clock) ∧ es.toList.map (fun e => (e.key, e.val)) = l.map (fun x => (Value.string x.1, Value.int .i64 x.2))
def lookV (z : ByteArray) : List (ByteArray × Int) → Option Int
  | [] => none
  | x :: r => if z = x.1 then some x.2 else lookV z r
theorem VocM.lt {w : World} {b : Nat} {l : List (ByteArray × Int)} (h : VocM w b l) : b < w.heap.size := by
  obtain ⟨es, clock, hb, _⟩ := h
  exact (Array.getElem?_eq_some_iff.1 hb).1
theorem VocM.below {w w' : World} {b : Nat} {l : List (ByteArray × Int)} (h : VocM w b l) (hb : Below w.heap.size w w') : VocM w' b l := by
  have hlt := h.lt
  obtain ⟨es, clock, h1, h2⟩ := h
  exact ⟨es, clock, (hb.block b hlt).trans h1, h2⟩
theorem VocM.made (w : World) : VocM (w.alloc (.map #[] 0)) w.heap.size [] := ⟨#[], 0, (MapKept.heap_alloc w _).1, by simp⟩
theorem ba_beq (a b : ByteArray) : (a == b) = decide (a = b) := by
  have h : (a == b) = (a.data == b.data) := rfl
  rw [h, Bool.eq_iff_iff]
  simp only [beq_iff_eq, decide_eq_true_eq]
  exact ⟨fun h => by cases a; cases b; simp_all, fun h => by rw [h]⟩
theorem find_voc (z : ByteArray) : ∀ (es : List MapEntry) (l : List (ByteArray × Int)) (i : Nat), es.map (fun e => (e.key, e.val)) = l.map (fun x => (Value.string x.1, Value.int .i64 x.2)) →
    (∀ v, lookV z l = some v → ∃ j, Instr.findNow .string (.string z) es i = some (some (j, .int .i64 v))) ∧ (lookV z l = none → Instr.findNow .string (.string z) es i = some none)
  | [], l, i, hk => by
    have : l = [] := by cases l with | nil => rfl | cons a r => simp at hk
    subst this
    exact ⟨fun v h => by simp [lookV] at h, fun _ => rfl⟩
  | e :: es, [], i, hk => by simp at hk
  | e :: es, x :: l, i, hk => by
    simp only [List.map_cons, List.cons.injEq, Prod.mk.injEq] at hk
    obtain ⟨⟨hk1, hk2⟩, hk3⟩ := hk
    have ih := find_voc z es l (i + 1) hk3
    by_cases hz : z = x.1
    · have hs : (z == x.1) = true := by rw [ba_beq]; simpa using hz
      constructor
      · intro v hv
        simp only [lookV, if_pos hz, Option.some.injEq] at hv
        refine ⟨i, ?_⟩
        simp only [Instr.findNow, hk1, Instr.sameNow, hs]
        rw [hk2, hv]
      · intro h
        simp [lookV, if_pos hz] at h
    · have hs : (z == x.1) = false := by rw [ba_beq]; simpa using hz
      have hf : Instr.findNow .string (.string z) (e :: es) i = Instr.findNow .string (.string z) es (i + 1) := by
        simp only [Instr.findNow, hk1, Instr.sameNow, hs]
      constructor
      · intro v hv
        simp only [lookV, if_neg hz] at hv
        obtain ⟨j, hj⟩ := ih.1 v hv
        exact ⟨j, by rw [hf, hj]⟩
      · intro h
        simp only [lookV, if_neg hz] at h
        rw [hf]; exact ih.2 h
section
variable {P : Program} {t k e : TypeId}
theorem run_voc_look {w : World} {b : Nat} {l : List (ByteArray × Int)} (ht : P.underlying t = some (.map k e)) (hk : P.underlying k = some .string) (hz : (zeroValue e).run P w = .ok (.int .i64 0) w) (h : VocM w b l) (z : ByteArray) :
    (Instr.lookup t (.map (some b)) (.string z) true).run P w = .ok (.tuple #[.int .i64 ((lookV z l).getD 0), .bool (lookV z l).isSome]) w := by
  obtain ⟨es, clock, hb, hks⟩ := h
  have hf := find_voc z es.toList l 0 hks
  cases hm : lookV z l with
  | some v =>
    obtain ⟨j, q1⟩ := hf.1 v hm
    simp [Instr.lookup, run_underlying ht, MapKept.run_getObj_map hb, MapKept.run_checkKey (w := w) hk (show MapKept.IsKey .string (.string z) from trivial) _ 9999, MapKept.run_findKey (w := w) hk q1, Result.andThen]
  | none =>
    have q1 := hf.2 hm
    simp [Instr.lookup, run_underlying ht, MapKept.run_getObj_map hb, MapKept.run_checkKey (w := w) hk (show MapKept.IsKey .string (.string z) from trivial) _ 9999, MapKept.run_findKey (w := w) hk q1, hz, Result.andThen]
theorem run_voc_add {w : World} {b : Nat} {l : List (ByteArray × Int)} (ht : P.underlying t = some (.map k e)) (hk : P.underlying k = some .string) (h : VocM w b l) (z : ByteArray) (v : Int) (hn : lookV z l = none) :
    ∃ w', (Instr.mapUpdate t (.map (some b)) (.string z) (.int .i64 v)).run P w = .ok () w' ∧ VocM w' b (l ++ [(z, v)]) ∧ w.grownBy w' (some b) := by
  obtain ⟨es, clock, hb, hks⟩ := h
  have q1 := (find_voc z es.toList l 0 hks).2 hn
  have hg : ∀ es' c', w.grownBy (ChangeMaps.setBlock w b (.map es' c')) (some b) := fun es' c' => ⟨rfl, rfl, rfl, by simp [ChangeMaps.setBlock], fun i _ hi => ChangeMaps.heap_setBlock_other hb _ (fun e => hi (by rw [e]))⟩
  refine ⟨ChangeMaps.setBlock w b (.map (es.push ⟨.string z, .int .i64 v, clock⟩) (clock + 1)), ?_, ⟨_, _, ChangeMaps.heap_setBlock_same hb _, ?_⟩, hg _ _⟩
  · simp [Instr.mapUpdate, run_underlying ht, MapKept.run_getObj_map hb, MapKept.run_checkKey (w := w) hk (show MapKept.IsKey .string (.string z) from trivial) _ 9999, MapKept.run_findKey (w := w) hk q1, MapKept.run_setObj_map _ hb, Result.andThen, ChangeMaps.setBlock]
  · simp [hks]
end
theorem wpList_voc_add {P : Program} (w : World) {ops : Array Oper} {rest : List Oper} {o : Oper} {a : Act} {Q : Exit → Act → World → Prop}
    (hg : o.guard = none) (m x v : Operand) (t : TypeId) (hop : o.op = Op.mapUpdate t m x v) (k e : TypeId) (ht : P.underlying t = some (.map k e)) (hk : P.underlying k = some .string) (b : Nat) (l : List (ByteArray × Int)) (z : ByteArray) (n : Int)
    (hm : a.eval m = .map (some b)) (hx : a.eval x = .string z) (hv : a.eval v = .int .i64 n) (hown : VocM w b l) (hnew : lookV z l = none)
    (hK : ∀ w', VocM w' b (l ++ [(z, n)]) → w.grownBy w' (some b) → wpList P ops Q rest (a.put o.dst undef) w') :
    wpList P ops Q (o :: rest) a w := by
  refine wpList_plain hg fun K' hK' => ?_
  obtain ⟨w', hrun, r1, r2⟩ := run_voc_add ht hk hown z n hnew
  unfold Oper.wp
  simp [execOp, hop, hm, hx, hv, hrun, Result.andThen]
  exact hK' _ _ (hK w' r1 r2)

def vocL (n : Nat) : List (ByteArray × Int) := (List.range n).map fun i => (opWord i, (i : Int))
theorem vocL_step (n : Nat) : vocL (n + 1) = vocL n ++ [(opWord n, (n : Int))] := by simp [vocL, List.range_succ]
theorem vocL_new (n : Nat) (h : n < 22) : lookV (opWord n) (vocL n) = none := by
  have : n = 0 ∨ n = 1 ∨ n = 2 ∨ n = 3 ∨ n = 4 ∨ n = 5 ∨ n = 6 ∨ n = 7 ∨ n = 8 ∨ n = 9 ∨ n = 10 ∨ n = 11 ∨ n = 12 ∨ n = 13 ∨ n = 14 ∨ n = 15 ∨ n = 16 ∨ n = 17 ∨ n = 18 ∨ n = 19 ∨ n = 20 ∨ n = 21 := by omega
  rcases this with rfl | rfl | rfl | rfl | rfl | rfl | rfl | rfl | rfl | rfl | rfl | rfl | rfl | rfl | rfl | rfl | rfl | rfl | rfl | rfl | rfl | rfl <;> decide
def opOf (z : ByteArray) : Option Int := lookV z (vocL 22)
theorem opOf_range {z : ByteArray} {v : Int} (h : opOf z = some v) : 0 ≤ v ∧ v ≤ 21 := by
  have aux : ∀ l : List (ByteArray × Int), (∀ x ∈ l, 0 ≤ x.2 ∧ x.2 ≤ 21) → ∀ v, lookV z l = some v → 0 ≤ v ∧ v ≤ 21 := by
    intro l
    induction l with
    | nil => intro _ v h; simp [lookV] at h
    | cons x l ih =>
      intro hx v h
      unfold lookV at h
      split at h
      · injection h with h; rw [← h]; exact hx x (by simp)
      · exact ih (fun y hy => hx y (by simp [hy])) v h
  refine aux _ ?_ v h
  intro x hx
  simp only [vocL, List.mem_map, List.mem_range] at hx
  obtain ⟨i, hi, rfl⟩ := hx
  exact ⟨by show (0 : Int) ≤ (i : Int); omega, by show (i : Int) ≤ 21; omega⟩
set_option maxRecDepth 100000 in
theorem zeroInt (w : World) : (zeroValue 3).run Tryd.prog w = .ok (.int .i64 0) w := by
  rfl

set_option maxRecDepth 100000 in
set_option maxHeartbeats 2000000 in
theorem newVoc (w : World) (ht : OpsT w) : Calls Tryd.prog 30 #[] w fun e w' => ∃ b, e = .returned (.map (some b)) ∧ Hid (VocM w' b (vocL 22)) ∧ Below w.heap.size w w' := by
  have HT := Lib.hid ht
  have hlt := ht.lt
  obtain ⟨W0, hW0⟩ : ∃ W0, W0 = w.alloc (.map #[] 0) := ⟨_, rfl⟩
  have hb0 : Below w.heap.size w W0 := by rw [hW0]; exact alloc_below _ _
  have hv0 : VocM W0 w.heap.size [] := by rw [hW0]; exact VocM.made w
  have HV0 := Lib.hid hv0
  have HB0 := Lib.hid hb0
  have HW0 := Lib.hid hW0
  clear ht hW0 hb0 hv0
  have hmm := fun t w => run_makeMap (P := Tryd.prog) t w
  go_enter Tryd.func30, Tryd.ntmps30
  go_wp2
  rw [← HW0.out]
  go_loopw [4] (fun i wr => ∃ n : Nat, n ≤ 22 ∧ i = .int .i64 n ∧ Hid (VocM wr w.heap.size (vocL n)) ∧ Hid (Below w.heap.size w wr)) (fun i _ => 22 - (intOf i).toNat)
  case atStart => exact ⟨0, by omega, rfl, Lib.hid HV0.out, HB0⟩
  case round =>
    obtain ⟨n, hn, rfl, HV, HB⟩ := hrel
    by_cases hlt2 : n < 22
    · have hi : (n : Int) < 22 := by omega
      obtain ⟨c1, c2, c3, c4⟩ := (HT.out.below HB.out) n (by omega)
      have HS := Lib.hid (vocL_step n)
      have HN := Lib.hid (vocL_new n hlt2)
      generalize opWord n = s at c1 HS HN
      clear c2 c3 c4
      go_wp2_with (refine wpList_voc_add _ rfl (.tmp 7) (.tmp 11) (.tmp 12) 64 rfl 9 3 Tryd.underlying64 Tryd.underlying9 w.heap.size (vocL n) s (n : Int) rfl rfl rfl HV.out HN.out ?_)
      intro w2 hv2 hg2
      have HV2 := Lib.hid hv2
      have HB2 : Hid (Below w.heap.size w w2) := Lib.hid (HB.out.grown hg2 HB.out.size (fun k hk => by injection hk with hk; omega))
      clear hv2 hg2 c1
      go_wp2
      go_roundw
      case rel => exact ⟨n + 1, by omega, by go_num, Lib.hid (by rw [HS.out]; exact HV2.out), HB2⟩
      case measure => simp [intOf]; omega
    · obtain rfl : n = 22 := by omega
      go_wp2
      go_ret
      exact ⟨_, rfl, HV, HB.out⟩
end Go.Proofs.YtcchhbkbnbphhaaDoor

/- The places of an instruction's numbers, as pointers. Written by gen_txt2.py. -/
namespace Go.Proofs.YtcchhbkbnbphhaaDoor
open Go.RowKit

def PtrL (w : World) (lo : Nat) (A : Option Addr) (ps : List Addr) : Prop := ∀ i, i < ps.length → ∃ g, lo ≤ g ∧ A = some ⟨g, 0, none⟩ ∧ w.cell? ⟨g, i, none⟩ = some (.pointer (some (ps.getD i ⟨0, 0, none⟩)))
theorem PtrL.below {w w' : World} {lo : Nat} {A : Option Addr} {ps : List Addr} (h : PtrL w lo A ps) (hb : Below w.heap.size w w') : PtrL w' lo A ps := fun i hi => by
  obtain ⟨g, l, e, hc⟩ := h i hi
  exact ⟨g, l, e, (hb.cell (cell_lt hc)).trans hc⟩
set_option maxRecDepth 100000 in
theorem elemPtr : Elem Tryd.prog 86 (.pointer none) 1 8 := ⟨⟨_, rfl, rfl, rfl, rfl⟩, rfl, by decide⟩
def ptrV (p : Addr) : Value := .pointer (some p)
theorem PtrL.of_row {w : World} {base : Nat} {A : Option Addr} {n c : Nat} {ps : List Addr} (h : w.ownsRow base 86 1 (.slice A n c) n (ps.map ptrV)) : PtrL w base A ps := by
  intro i hi
  obtain ⟨h1, ⟨h0, h2⟩ | ⟨g, cap, cur, hv, q1, q2, q3, q4, q5, q6⟩⟩ := h
  · subst h2; simp at h1; rw [h1] at hi; simp at hi
  · injection hv with hv1 hv2 hv3
    refine ⟨g, q1, hv1, ?_⟩
    simp only [List.length_map, Nat.mul_one] at h1
    have : (cur.toList.take (n * 1))[i]? = (ps.map ptrV)[i]? := by rw [q6]
    rw [List.getElem?_take, if_pos (by omega), Array.getElem?_toList, List.getElem?_map, List.getElem?_eq_getElem hi] at this
    refine (show Box w g 86 cur from q2).cell i ?_
    simpa [ptrV, List.getD_eq_getElem?_getD, List.getElem?_eq_getElem hi] using this
theorem PtrL.wide {w : World} {lo lo' : Nat} {A : Option Addr} {ps : List Addr} (h : PtrL w lo A ps) (hl : lo' ≤ lo) : PtrL w lo' A ps := fun i hi => by
  obtain ⟨g, l, e, hc⟩ := h i hi
  exact ⟨g, Nat.le_trans hl l, e, hc⟩
def GivesP (ps : List Addr) (w : World) (e : Ending) (w' : World) : Prop := ∃ A n c, e = .returned (.slice A n c) ∧ ps.length = n ∧ Hid (PtrL w' w.heap.size A ps) ∧ Below w.heap.size w w'
def placesL (r a : Int) (b : Nat) : List Addr := (if 0 < r then [⟨b, 1, none⟩] else []) ++ (if 0 < a then [⟨b, 2, none⟩] else [])
section
variable (s : ByteArray) (r a c : Int) (b : Nat) (w : World)
set_option maxRecDepth 100000 in
set_option maxHeartbeats 4000000 in
theorem numbersI : Calls Tryd.prog 49 #[.agg #[.string s, .int .i64 r, .int .i64 a, .int .i64 c], .pointer (some ⟨b, 0, none⟩)] w (GivesP (placesL r a b) w) := by
  have HE : Hid (placesL r a b = (if 0 < r then [⟨b, 1, none⟩] else []) ++ (if 0 < a then [⟨b, 2, none⟩] else [])) := Lib.hid rfl
  generalize placesL r a b = ps at HE ⊢
  have HB0 : Hid (Below w.heap.size w (w.alloc (.cells #[.string s, .int .i64 r, .int .i64 a, .int .i64 c] 57))) := Lib.hid (alloc_below _ _)
  have X0 : Hid (Box (w.alloc (.cells #[.string s, .int .i64 r, .int .i64 a, .int .i64 c] 57)) w.heap.size 57 #[.string s, .int .i64 r, .int .i64 a, .int .i64 c]) := Lib.hid (Box.new _ _ _)
  by_cases h1 : 0 < r
  · by_cases h2 : 0 < a
    · skip
      have HP : Hid (ps = [⟨b, 1, none⟩, ⟨b, 2, none⟩]) := Lib.hid (by rw [HE.out, if_pos h1, if_pos h2]; rfl)
      clear HE
      have x1 := X0.out.cell 1 rfl
      have x2 := X0.out.cell 2 rfl
      have HR : Hid ((w.alloc (.cells #[.string s, .int .i64 r, .int .i64 a, .int .i64 c] 57)).ownsRow (w.heap.size + 1) 86 1 (.slice none 0 0) 0 []) := Lib.hid (rowv_nil _ _ _ _)
      have X := X0
      have HB := HB0
      have hs : w.heap.size + 1 ≤ (w.alloc (.cells #[.string s, .int .i64 r, .int .i64 a, .int .i64 c] 57)).heap.size := by simp
      have HBa : Hid (Below (w.alloc (.cells #[.string s, .int .i64 r, .int .i64 a, .int .i64 c] 57)).heap.size (w.alloc (.cells #[.string s, .int .i64 r, .int .i64 a, .int .i64 c] 57)) ((w.alloc (.cells #[.string s, .int .i64 r, .int .i64 a, .int .i64 c] 57)).alloc (.cells #[.pointer (some ⟨b, 1, none⟩)] 86))) := Lib.hid (alloc_below _ _)
      have HOw := Lib.hid (rowv_below HR.out HBa.out)
      have HNw : Hid (∀ i u, [Value.pointer (some ⟨b, 1, none⟩)][i]? = some u → ((w.alloc (.cells #[.string s, .int .i64 r, .int .i64 a, .int .i64 c] 57)).alloc (.cells #[.pointer (some ⟨b, 1, none⟩)] 86)).cell? ⟨w.heap.size + 1, i, none⟩ = some u) := Lib.hid (fun i u hi => by
        match i, hi with
        | 0, hi => simp at hi; subst hi; simp)
      go_enter Tryd.func49, Tryd.ntmps49
      go_wp2_with (at_builtin; refine wpList_app_one rfl (.tmp 9) (.tmp 13) 83 86 rfl (.pointer none) 1 8 elemPtr Tryd.underlying83 (w.heap.size + 1) (.slice none 0 0) 0 ([]) rfl ?_ (w.heap.size + 1) 1 rfl [.pointer (some ⟨b, 1, none⟩)] rfl ?_ ?_ ?_ ?_ ?_ ?_)
      any_goals first | rfl | exact HOw.out | exact HNw.out | (intro u hu; simp at hu; subst hu; rfl) | (unfold maxLen; omega) | omega | (simp; done) | (simp; omega)
      intro A1 c1 w1 hR hc hg hb
      have HR := Lib.hid hR
      have X1 := Lib.hid ((X.out.step HBa.out).below hb (by omega))
      have HB1 := Lib.hid ((bt HB.out HBa.out).trans (hb.mono (by omega)))
      have hs1 : w.heap.size + 1 ≤ w1.heap.size := Nat.le_trans (Nat.le_trans hs HBa.out.size) hb.size
      clear hR hb hg HOw HNw HBa
      have X := X1
      have HB := HB1
      have hs := hs1
      clear x1 x2
      have x1 := X.out.cell 1 rfl
      have x2 := X.out.cell 2 rfl
      have HBa : Hid (Below w1.heap.size w1 (w1.alloc (.cells #[.pointer (some ⟨b, 2, none⟩)] 86))) := Lib.hid (alloc_below _ _)
      have HOw := Lib.hid (rowv_below HR.out HBa.out)
      have HNw : Hid (∀ i u, [Value.pointer (some ⟨b, 2, none⟩)][i]? = some u → (w1.alloc (.cells #[.pointer (some ⟨b, 2, none⟩)] 86)).cell? ⟨w1.heap.size, i, none⟩ = some u) := Lib.hid (fun i u hi => by
        match i, hi with
        | 0, hi => simp at hi; subst hi; exact (Box.new w1 86 #[.pointer (some ⟨b, 2, none⟩)]).cell 0 rfl)
      go_wp2_with (at_builtin; refine wpList_app_one rfl (.tmp 18) (.tmp 22) 83 86 rfl (.pointer none) 1 8 elemPtr Tryd.underlying83 (w.heap.size + 1) (.slice A1 1 c1) 1 ([.pointer (some ⟨b, 1, none⟩)]) rfl ?_ (w1.heap.size) 1 rfl [.pointer (some ⟨b, 2, none⟩)] rfl ?_ ?_ ?_ ?_ ?_ ?_)
      any_goals first | rfl | exact HOw.out | exact HNw.out | (intro u hu; simp at hu; subst hu; rfl) | (unfold maxLen; omega) | omega | (simp; done) | (simp; omega)
      intro A2 c2 w2 hR hc hg hb
      have HR := Lib.hid hR
      have X2 := Lib.hid ((X.out.step HBa.out).below hb (by omega))
      have HB2 := Lib.hid ((bt HB.out HBa.out).trans (hb.mono (by omega)))
      have hs2 : w.heap.size + 1 ≤ w2.heap.size := Nat.le_trans (Nat.le_trans hs HBa.out.size) hb.size
      clear hR hb hg HOw HNw HBa
      have X := X2
      have HB := HB2
      have hs := hs2
      clear x1 x2
      have x1 := X.out.cell 1 rfl
      have x2 := X.out.cell 2 rfl
      go_wp2
      go_ret
      exact ⟨_, _, _, rfl, by rw [HP.out]; rfl, Lib.hid (PtrL.wide (PtrL.of_row (by rw [HP.out]; exact HR.out)) (Nat.le_succ _)), HB.out⟩
    · skip
      have HP : Hid (ps = [⟨b, 1, none⟩]) := Lib.hid (by rw [HE.out, if_pos h1, if_neg h2]; rfl)
      clear HE
      have x1 := X0.out.cell 1 rfl
      have x2 := X0.out.cell 2 rfl
      have HR : Hid ((w.alloc (.cells #[.string s, .int .i64 r, .int .i64 a, .int .i64 c] 57)).ownsRow (w.heap.size + 1) 86 1 (.slice none 0 0) 0 []) := Lib.hid (rowv_nil _ _ _ _)
      have X := X0
      have HB := HB0
      have hs : w.heap.size + 1 ≤ (w.alloc (.cells #[.string s, .int .i64 r, .int .i64 a, .int .i64 c] 57)).heap.size := by simp
      have HBa : Hid (Below (w.alloc (.cells #[.string s, .int .i64 r, .int .i64 a, .int .i64 c] 57)).heap.size (w.alloc (.cells #[.string s, .int .i64 r, .int .i64 a, .int .i64 c] 57)) ((w.alloc (.cells #[.string s, .int .i64 r, .int .i64 a, .int .i64 c] 57)).alloc (.cells #[.pointer (some ⟨b, 1, none⟩)] 86))) := Lib.hid (alloc_below _ _)
      have HOw := Lib.hid (rowv_below HR.out HBa.out)
      have HNw : Hid (∀ i u, [Value.pointer (some ⟨b, 1, none⟩)][i]? = some u → ((w.alloc (.cells #[.string s, .int .i64 r, .int .i64 a, .int .i64 c] 57)).alloc (.cells #[.pointer (some ⟨b, 1, none⟩)] 86)).cell? ⟨w.heap.size + 1, i, none⟩ = some u) := Lib.hid (fun i u hi => by
        match i, hi with
        | 0, hi => simp at hi; subst hi; simp)
      go_enter Tryd.func49, Tryd.ntmps49
      go_wp2_with (at_builtin; refine wpList_app_one rfl (.tmp 9) (.tmp 13) 83 86 rfl (.pointer none) 1 8 elemPtr Tryd.underlying83 (w.heap.size + 1) (.slice none 0 0) 0 ([]) rfl ?_ (w.heap.size + 1) 1 rfl [.pointer (some ⟨b, 1, none⟩)] rfl ?_ ?_ ?_ ?_ ?_ ?_)
      any_goals first | rfl | exact HOw.out | exact HNw.out | (intro u hu; simp at hu; subst hu; rfl) | (unfold maxLen; omega) | omega | (simp; done) | (simp; omega)
      intro A1 c1 w1 hR hc hg hb
      have HR := Lib.hid hR
      have X1 := Lib.hid ((X.out.step HBa.out).below hb (by omega))
      have HB1 := Lib.hid ((bt HB.out HBa.out).trans (hb.mono (by omega)))
      have hs1 : w.heap.size + 1 ≤ w1.heap.size := Nat.le_trans (Nat.le_trans hs HBa.out.size) hb.size
      clear hR hb hg HOw HNw HBa
      have X := X1
      have HB := HB1
      have hs := hs1
      clear x1 x2
      have x1 := X.out.cell 1 rfl
      have x2 := X.out.cell 2 rfl
      go_wp2
      go_ret
      exact ⟨_, _, _, rfl, by rw [HP.out]; rfl, Lib.hid (PtrL.wide (PtrL.of_row (by rw [HP.out]; exact HR.out)) (Nat.le_succ _)), HB.out⟩
  · by_cases h2 : 0 < a
    · skip
      have HP : Hid (ps = [⟨b, 2, none⟩]) := Lib.hid (by rw [HE.out, if_neg h1, if_pos h2]; rfl)
      clear HE
      have x1 := X0.out.cell 1 rfl
      have x2 := X0.out.cell 2 rfl
      have HR : Hid ((w.alloc (.cells #[.string s, .int .i64 r, .int .i64 a, .int .i64 c] 57)).ownsRow (w.heap.size + 1) 86 1 (.slice none 0 0) 0 []) := Lib.hid (rowv_nil _ _ _ _)
      have X := X0
      have HB := HB0
      have hs : w.heap.size + 1 ≤ (w.alloc (.cells #[.string s, .int .i64 r, .int .i64 a, .int .i64 c] 57)).heap.size := by simp
      have HBa : Hid (Below (w.alloc (.cells #[.string s, .int .i64 r, .int .i64 a, .int .i64 c] 57)).heap.size (w.alloc (.cells #[.string s, .int .i64 r, .int .i64 a, .int .i64 c] 57)) ((w.alloc (.cells #[.string s, .int .i64 r, .int .i64 a, .int .i64 c] 57)).alloc (.cells #[.pointer (some ⟨b, 2, none⟩)] 86))) := Lib.hid (alloc_below _ _)
      have HOw := Lib.hid (rowv_below HR.out HBa.out)
      have HNw : Hid (∀ i u, [Value.pointer (some ⟨b, 2, none⟩)][i]? = some u → ((w.alloc (.cells #[.string s, .int .i64 r, .int .i64 a, .int .i64 c] 57)).alloc (.cells #[.pointer (some ⟨b, 2, none⟩)] 86)).cell? ⟨w.heap.size + 1, i, none⟩ = some u) := Lib.hid (fun i u hi => by
        match i, hi with
        | 0, hi => simp at hi; subst hi; simp)
      go_enter Tryd.func49, Tryd.ntmps49
      go_wp2_with (at_builtin; refine wpList_app_one rfl (.tmp 18) (.tmp 22) 83 86 rfl (.pointer none) 1 8 elemPtr Tryd.underlying83 (w.heap.size + 1) (.slice none 0 0) 0 ([]) rfl ?_ (w.heap.size + 1) 1 rfl [.pointer (some ⟨b, 2, none⟩)] rfl ?_ ?_ ?_ ?_ ?_ ?_)
      any_goals first | rfl | exact HOw.out | exact HNw.out | (intro u hu; simp at hu; subst hu; rfl) | (unfold maxLen; omega) | omega | (simp; done) | (simp; omega)
      intro A2 c2 w2 hR hc hg hb
      have HR := Lib.hid hR
      have X2 := Lib.hid ((X.out.step HBa.out).below hb (by omega))
      have HB2 := Lib.hid ((bt HB.out HBa.out).trans (hb.mono (by omega)))
      have hs2 : w.heap.size + 1 ≤ w2.heap.size := Nat.le_trans (Nat.le_trans hs HBa.out.size) hb.size
      clear hR hb hg HOw HNw HBa
      have X := X2
      have HB := HB2
      have hs := hs2
      clear x1 x2
      have x1 := X.out.cell 1 rfl
      have x2 := X.out.cell 2 rfl
      go_wp2
      go_ret
      exact ⟨_, _, _, rfl, by rw [HP.out]; rfl, Lib.hid (PtrL.wide (PtrL.of_row (by rw [HP.out]; exact HR.out)) (Nat.le_succ _)), HB.out⟩
    · skip
      have HP : Hid (ps = []) := Lib.hid (by rw [HE.out, if_neg h1, if_neg h2]; rfl)
      clear HE
      have x1 := X0.out.cell 1 rfl
      have x2 := X0.out.cell 2 rfl
      have HR : Hid ((w.alloc (.cells #[.string s, .int .i64 r, .int .i64 a, .int .i64 c] 57)).ownsRow (w.heap.size + 1) 86 1 (.slice none 0 0) 0 []) := Lib.hid (rowv_nil _ _ _ _)
      have X := X0
      have HB := HB0
      have hs : w.heap.size + 1 ≤ (w.alloc (.cells #[.string s, .int .i64 r, .int .i64 a, .int .i64 c] 57)).heap.size := by simp
      go_enter Tryd.func49, Tryd.ntmps49
      go_wp2
      go_ret
      exact ⟨_, _, _, rfl, by rw [HP.out]; rfl, Lib.hid (PtrL.wide (PtrL.of_row (by rw [HP.out]; exact HR.out)) (Nat.le_succ _)), HB.out⟩
end
end Go.Proofs.YtcchhbkbnbphhaaDoor

/- Encode on both sides, whole. -/
namespace Go.Proofs.YtcchhbkbnbphhaaDoor
open Go.RowKit

theorem wrap12 (n : Int) (h0 : 0 ≤ n) (h1 : n < 2 ^ 12) : IntKind.i64.wrap n = n := by
  have e : n % 2 ^ 64 = n := Int.emod_eq_of_lt h0 (by omega)
  simp only [IntKind.wrap, IntKind.bits, IntKind.signed, e]
  rw [if_neg]
  simp
  omega
theorem and255 (a : Nat) (ha : a < 4096) : bits .and .i64 (a : Int) 255 = ((a % 256 : Nat) : Int) := by
  have := (bits_nat .i64 12 (by decide) wrap12 a 255 ha (by omega)).1
  rw [show a &&& 255 = a % 256 from Nat.and_two_pow_sub_one_eq_mod a 8] at this
  exact this
theorem GivesI.of {zs : List Int} {w w1 w' : World} {e : Ending} (hb : Below w.heap.size w w1) (h : GivesI zs w1 e w') : GivesI zs w e w' := by
  obtain ⟨A, n, c, rfl, hl, HO, hb2⟩ := h
  exact ⟨A, n, c, rfl, hl, Lib.hid (HO.out.wideB hb.size (Nat.le_refl _)), bt hb hb2⟩
def GivesIC (r : List Int × Int) (w : World) (e : Ending) (w' : World) : Prop := ∃ A c, e = .returned (.tuple #[.slice A r.1.length c, .int .i64 r.2]) ∧ Hid (OwnA w' w.heap.size w'.heap.size [.slice A r.1.length c] [.I r.1]) ∧ Below w.heap.size w w'
theorem ownI1 {w : World} {lo hi : Nat} {A : Option Addr} {n c : Nat} {ss : List Int} (hl : ss.length = n) (h : OwnI w lo hi A ss) : OwnA w lo hi [.slice A n c] [.I ss] := OwnA.one ⟨A, c, by rw [hl], h⟩
theorem encF_t {op reg arg : Int} (h : okIns op reg arg = true) : encF op reg arg = (encL op reg arg, 0) := by unfold encF; rw [h]; rfl
theorem encF_f {op reg arg : Int} (h : okIns op reg arg = false) : encF op reg arg = ([], 1) := by unfold encF; rw [h]; rfl
theorem okIns_iff {op reg arg : Int} (h : okIns op reg arg = true) : 0 ≤ op ∧ op ≤ 21 ∧ 0 ≤ reg ∧ reg ≤ regT op ∧ 0 ≤ arg ∧ arg ≤ argT op := by simpa [okIns] using h
theorem encL_1 (op reg arg : Int) (h : lenT op = 1) : encL op reg arg = [8 * op + reg] := by unfold encL; rw [h]; rfl
theorem encL_2 (op reg arg : Int) (h : lenT op = 2) (h0 : 0 ≤ arg) (h1 : arg ≤ 255) : encL op reg arg = [8 * op + reg, arg] := by
  unfold encL; rw [h]
  show [8 * op + reg, arg % 256] = _
  rw [Int.emod_eq_of_lt h0 (by omega)]
theorem encL_3 (op reg arg : Int) (h : lenT op = 3) (h0 : 0 ≤ arg) (h1 : arg ≤ 4095) : encL op reg arg = [8 * op + reg, arg % 256, arg / 256] := by
  unfold encL; rw [h]
  show [8 * op + reg, arg % 256, arg / 256 % 256] = _
  rw [Int.emod_eq_of_lt (by omega) (by omega : arg / 256 < 256)]
section
variable (op reg arg : Int) (w : World)
set_option maxRecDepth 100000 in
set_option maxHeartbeats 2000000 in
theorem implEncode (ht : OpsT w) : Calls Tryd.prog 6 #[.agg #[.int .i64 op, .int .i64 reg, .int .i64 arg]] w (GivesIC (encF op reg arg) w) := by
  have hb0 := alloc_below w (.cells #[.int .i64 op, .int .i64 reg, .int .i64 arg] 24)
  have X0 := Lib.hid (Box.new w 24 #[.int .i64 op, .int .i64 reg, .int .i64 arg])
  have HV := Lib.hid (valid op reg arg _ (ht.below hb0))
  have HT := Lib.hid ht
  have HB0 := Lib.hid hb0
  clear ht
  cases hok : okIns op reg arg with
  | true =>
    rw [encF_t hok]
    rw [hok] at HV
    obtain ⟨h1, h2, h3, h4, h5, h6⟩ := okIns_iff hok
    have hr := regT_range op
    have ha := argT_range op
    have HO := Lib.hid (fun W (h : OpsT W) => insBytes op.toNat reg arg W h (by omega) h3 (by omega) h5 (by omega))
    rw [show ((op.toNat : Nat) : Int) = op from by omega] at HO
    clear hok h1 h2 h3 h4 h5 h6 hr ha hb0
    generalize encL op reg arg = zs at HO ⊢
    go_enter Tryd.func6, Tryd.ntmps6
    go_wp2_with fail
    refine HV.out.mono ?_
    rintro e w1 ⟨rfl, hb⟩
    have HB1 := Lib.hid (bt HB0.out hb)
    have X1 := Lib.hid (X0.out.step hb)
    clear hb X0 HB0 HV
    have x0 := X1.out.cell 0 rfl
    have x1 := X1.out.cell 1 rfl
    have x2 := X1.out.cell 2 rfl
    go_wp2_with fail
    refine (HO.out w1 (HT.out.below HB1.out)).mono ?_
    rintro e w2 ⟨A, n, c, rfl, hl, HZ, hb⟩
    have HL := Lib.hid hl
    have HB2 := Lib.hid (bt HB1.out hb)
    have HZ2 := Lib.hid (HZ.out.wideB HB1.out.size (Nat.le_refl _))
    clear hl hb HZ x0 x1 x2
    go_wp2
    go_ret2
    exact ⟨A, c, by rw [HL.out]; rfl, Lib.hid (ownI1 rfl HZ2.out), HB2.out⟩
  | false =>
    rw [encF_f hok]
    rw [hok] at HV
    clear hok hb0
    go_enter Tryd.func6, Tryd.ntmps6
    go_wp2_with fail
    refine HV.out.mono ?_
    rintro e w1 ⟨rfl, hb⟩
    have HB1 := Lib.hid (bt HB0.out hb)
    clear hb X0 HB0 HV
    go_wp2
    go_ret2
    exact ⟨none, 0, rfl, Lib.hid (ownI1 rfl (.inl rfl)), HB1.out⟩

set_option maxRecDepth 100000 in
set_option maxHeartbeats 4000000 in
theorem l07EncodeS (h : okIns op reg arg = true) : Calls Tryd.prog 26 #[.agg #[.int .i64 op, .int .i64 reg, .int .i64 arg]] w (GivesI (encL op reg arg) w) := by
  obtain ⟨h1, h2, h3, h4, h5, h6⟩ := okIns_iff h
  have hr := regT_range op
  have ha := argT_range op
  have hr1 : reg ≤ 3 := by omega
  have hl := lenT_range op
  have hl3 : lenT op = 1 ∨ lenT op = 2 ∨ lenT op = 3 := by omega
  have HG := Lib.hid (l07LengthA op)
  obtain ⟨W0, hW0⟩ : ∃ W0, W0 = (w.alloc (.cells #[.int .i64 op, .int .i64 reg, .int .i64 arg] 24)).alloc (.cells #[.int .i64 (8 * op + reg)] 3) := ⟨_, rfl⟩
  have hb0 : Below w.heap.size w W0 := by rw [hW0]; exact bt (alloc_below _ _) (alloc_below _ _)
  have X0 : Hid (Box W0 w.heap.size 24 #[.int .i64 op, .int .i64 reg, .int .i64 arg]) := Lib.hid (by rw [hW0]; exact (Box.new _ _ _).alloc _)
  have X1 : Hid (Box W0 (w.heap.size + 1) 3 #[.int .i64 (8 * op + reg)]) := Lib.hid (by rw [hW0]; simpa using Box.new (w.alloc (.cells #[.int .i64 op, .int .i64 reg, .int .i64 arg] 24)) 3 #[.int .i64 (8 * op + reg)])
  have hs0 : w.heap.size + 1 + 1 = W0.heap.size := by rw [hW0]; simp
  have HR1 : Hid (W0.ownsRow (w.heap.size + 1) 3 1 (.slice (some ⟨w.heap.size + 1, 0, none⟩) 1 1) 1 [.int .i64 (8 * op + reg)]) := Lib.hid (rowv_box (Nat.le_refl _) X1.out (by show 1 ≤ maxLen; unfold maxLen; omega))
  have HW0 := Lib.hid hW0
  have HB0 := Lib.hid hb0
  clear hb0 hr ha hl h h4
  rcases hl3 with e | e | e
  · have HE := Lib.hid (encL_1 op reg arg e)
    rw [e] at HG
    generalize encL op reg arg = zs at HE ⊢
    clear e
    have HO : Hid (OwnI W0 w.heap.size W0.heap.size (some ⟨w.heap.size + 1, 0, none⟩) zs) := Lib.hid (by rw [HE.out]; exact GroI.own (n := 1) (c := 1) HR1.out (Nat.le_succ _))
    clear hW0
    go_enter Tryd.func26, Tryd.ntmps26
    go_wp2_with fail
    rw [← HW0.out]
    refine (HG.out _).mono ?_
    rintro e w' ⟨rfl, rfl⟩
    go_wp2
    go_ret
    exact ⟨_, _, _, rfl, by rw [HE.out]; rfl, HO, HB0.out⟩
  · have h255 : arg ≤ 255 := by
      have : argT op ≤ 255 := by
        have := arg_len op
        unfold lenT at e
        unfold argT
        repeat' split
        all_goals first | omega | (split at e <;> omega)
      omega
    have HE := Lib.hid (encL_2 op reg arg e h5 h255)
    rw [e] at HG
    generalize encL op reg arg = zs at HE ⊢
    clear e hW0
    have x2 := X0.out.cell 2 rfl
    have HBa : Hid (Below W0.heap.size W0 (W0.alloc (.cells #[.int .i64 arg] 3))) := Lib.hid (alloc_below _ _)
    have HOw := Lib.hid (rowv_below HR1.out HBa.out)
    have HNw : Hid (∀ i u, [Value.int .i64 arg][i]? = some u → (W0.alloc (.cells #[.int .i64 arg] 3)).cell? ⟨W0.heap.size, i, none⟩ = some u) := Lib.hid (fun i u hi => by
      match i, hi with
      | 0, hi => simp at hi; subst hi; exact (Box.new W0 3 #[.int .i64 arg]).cell 0 rfl)
    go_enter Tryd.func26, Tryd.ntmps26
    go_wp2_with fail
    rw [← HW0.out]
    refine (HG.out _).mono ?_
    rintro e w' ⟨rfl, rfl⟩
    go_wp2_with (at_builtin; refine wpList_app_one rfl (.tmp 16) (.tmp 19) 26 3 rfl (.int .i64 0) 1 8 elemInt Tryd.underlying26 (w.heap.size + 1) (.slice (some ⟨w.heap.size + 1, 0, none⟩) 1 1) 1 [.int .i64 (8 * op + reg)] rfl ?hown W0.heap.size 1 rfl [.int .i64 arg] rfl ?hnews ?hone ?h63 ?hby ?hbase ?_)
    case hown => exact HOw.out
    case hnews => exact HNw.out
    case hone => intro u hu; simp at hu; subst hu; rfl
    case h63 => unfold maxLen; omega
    case hby => omega
    case hbase => simp; omega
    intro A2 c2 w2 hR2 hc2 hg2 hb2
    have HB2 := Lib.hid ((bt HB0.out HBa.out).trans (hb2.mono (by omega)))
    have HO : Hid (OwnI w2 w.heap.size w2.heap.size A2 zs) := Lib.hid (by rw [HE.out]; exact GroI.own (n := 2) (c := c2) hR2 (Nat.le_succ _))
    clear hR2 hb2 hg2 x2
    go_wp2
    go_ret
    exact ⟨_, _, _, rfl, by rw [HE.out]; rfl, HO, HB2.out⟩
  · have h4095 : arg ≤ 4095 := by have := argT_range op; omega
    have HE := Lib.hid (encL_3 op reg arg e h5 h4095)
    rw [e] at HG
    generalize encL op reg arg = zs at HE ⊢
    clear e hW0
    have x2 := X0.out.cell 2 rfl
    obtain ⟨m, rfl⟩ : ∃ m : Nat, arg = m := ⟨arg.toNat, by omega⟩
    have hand := and255 m (by omega)
    have HBa : Hid (Below W0.heap.size W0 (W0.alloc (.cells #[.int .i64 ((m % 256 : Nat) : Int), .int .i64 ((m : Int) / 256)] 3))) := Lib.hid (alloc_below _ _)
    have HOw := Lib.hid (rowv_below HR1.out HBa.out)
    have HNw : Hid (∀ i u, [Value.int .i64 ((m % 256 : Nat) : Int), .int .i64 ((m : Int) / 256)][i]? = some u → (W0.alloc (.cells #[.int .i64 ((m % 256 : Nat) : Int), .int .i64 ((m : Int) / 256)] 3)).cell? ((⟨W0.heap.size, 0, none⟩ : Addr).add i) = some u) := Lib.hid (fun i u hi => by
      match i, hi with
      | 0, hi => simp at hi; subst hi; exact (Box.new W0 3 #[.int .i64 ((m % 256 : Nat) : Int), .int .i64 ((m : Int) / 256)]).cell 0 rfl
      | 1, hi => simp at hi; subst hi; exact (Box.new W0 3 #[.int .i64 ((m % 256 : Nat) : Int), .int .i64 ((m : Int) / 256)]).cell 1 rfl)
    go_enter Tryd.func26, Tryd.ntmps26
    go_wp2_with fail
    rw [← HW0.out]
    refine (HG.out _).mono ?_
    rintro e w' ⟨rfl, rfl⟩
    go_wp2_with (at_builtin; refine wpList_app_many rfl (.tmp 23) (.tmp 30) 26 3 rfl (.int .i64 0) 1 8 elemInt Tryd.underlying26 (w.heap.size + 1) (.slice (some ⟨w.heap.size + 1, 0, none⟩) 1 1) 1 [.int .i64 (8 * op + reg)] rfl ?hown ⟨W0.heap.size, 0, none⟩ 2 2 rfl [.int .i64 ((m % 256 : Nat) : Int), .int .i64 ((m : Int) / 256)] rfl ?hnews ?hone ?h63 ?hby ?hbase ?_)
    case hown => exact HOw.out
    case hnews => exact HNw.out
    case hone => intro u hu; simp at hu; rcases hu with rfl | rfl <;> rfl
    case h63 => unfold maxLen; omega
    case hby => omega
    case hbase => simp; omega
    intro A2 c2 w2 hR2 hc2 hg2 hb2
    have HB2 := Lib.hid ((bt HB0.out HBa.out).trans (hb2.mono (by omega)))
    have HO : Hid (OwnI w2 w.heap.size w2.heap.size A2 zs) := Lib.hid (by rw [HE.out]; exact GroI.own (n := 3) (c := c2) hR2 (Nat.le_succ _))
    clear hR2 hb2 hg2 x2
    go_wp2
    go_ret
    exact ⟨_, _, _, rfl, by rw [HE.out]; rfl, HO, HB2.out⟩
set_option maxRecDepth 100000 in
set_option maxHeartbeats 2000000 in
theorem specEncode : Calls Tryd.prog 7 #[.agg #[.int .i64 op, .int .i64 reg, .int .i64 arg]] w (GivesIC (encF op reg arg) w) := by
  have hb0 := alloc_below w (.cells #[.int .i64 op, .int .i64 reg, .int .i64 arg] 24)
  have X0 := Lib.hid (Box.new w 24 #[.int .i64 op, .int .i64 reg, .int .i64 arg])
  have HV := Lib.hid (specInstrOK op reg arg (w.alloc (.cells #[.int .i64 op, .int .i64 reg, .int .i64 arg] 24)))
  have HB0 := Lib.hid hb0
  cases hok : okIns op reg arg with
  | true =>
    rw [encF_t hok]
    rw [hok] at HV
    have HO := Lib.hid (fun W => l07EncodeS op reg arg W hok)
    clear hok hb0
    generalize encL op reg arg = zs at HO ⊢
    go_enter Tryd.func7, Tryd.ntmps7
    go_wp2_with fail
    refine HV.out.mono ?_
    rintro e w1 ⟨rfl, hb⟩
    have HB1 := Lib.hid (bt HB0.out hb)
    have X1 := Lib.hid (X0.out.step hb)
    clear hb X0 HB0 HV
    have x0 := X1.out.cell 0 rfl
    have x1 := X1.out.cell 1 rfl
    have x2 := X1.out.cell 2 rfl
    go_wp2_with fail
    refine (HO.out w1).mono ?_
    rintro e w2 ⟨A, n, c, rfl, hl, HZ, hb⟩
    have HL := Lib.hid hl
    have HB2 := Lib.hid (bt HB1.out hb)
    have HZ2 := Lib.hid (HZ.out.wideB HB1.out.size (Nat.le_refl _))
    clear hl hb HZ x0 x1 x2
    go_wp2
    go_ret2
    exact ⟨A, c, by rw [HL.out]; rfl, Lib.hid (ownI1 rfl HZ2.out), HB2.out⟩
  | false =>
    rw [encF_f hok]
    rw [hok] at HV
    clear hok hb0
    go_enter Tryd.func7, Tryd.ntmps7
    go_wp2_with fail
    refine HV.out.mono ?_
    rintro e w1 ⟨rfl, hb⟩
    have HB1 := Lib.hid (bt HB0.out hb)
    clear hb X0 HB0 HV
    go_wp2
    go_ret2
    exact ⟨_, _, rfl, Lib.hid (ownI1 rfl (.inl rfl)), bt HB1.out (alloc_below _ _)⟩
end
set_option maxRecDepth 100000 in
theorem specEncodeA (d0 d1 d2 : Int) (w : World) : Calls Tryd.prog 7 #[.agg #[.int .i64 d0, .int .i64 d1, .int .i64 d2]] w (fun e w' => ∃ A c, e = .returned (.tuple #[.slice A (encF d0 d1 d2).1.length c, .int .i64 (encF d0 d1 d2).2]) ∧ Hid (OwnA w' w.heap.size w'.heap.size [.slice A (encF d0 d1 d2).1.length c] [.I (encF d0 d1 d2).1]) ∧ Below w.heap.size w w') := specEncode d0 d1 d2 w
set_option maxRecDepth 100000 in
theorem implEncodeA (d0 d1 d2 : Int) (w : World) (t : OpsT w) : Calls Tryd.prog 6 #[.agg #[.int .i64 d0, .int .i64 d1, .int .i64 d2]] w (fun e w' => ∃ A c, e = .returned (.tuple #[.slice A (encF d0 d1 d2).1.length c, .int .i64 (encF d0 d1 d2).2]) ∧ Hid (OwnA w' w.heap.size w'.heap.size [.slice A (encF d0 d1 d2).1.length c] [.I (encF d0 d1 d2).1]) ∧ Below w.heap.size w w') := implEncode d0 d1 d2 w t
end Go.Proofs.YtcchhbkbnbphhaaDoor

/- The words of the operations, the model's list of them. Written by gen_txt4.py. -/
namespace Go.Proofs.YtcchhbkbnbphhaaDoor
open Go.RowKit

end Go.Proofs.YtcchhbkbnbphhaaDoor

/- Decode on both sides, whole. Written by gen_opdec2.py. -/
namespace Go.Proofs.YtcchhbkbnbphhaaDoor
open Go.RowKit
theorem dcdF_t {a b c : Int} (h : (0 ≤ a ∧ a ≤ 255) ∧ (0 ≤ b ∧ b ≤ 255) ∧ (0 ≤ c ∧ c ≤ 255)) : dcdF a b c = (decV a b c, 0) := by unfold dcdF; rw [byT_t h]; rfl
theorem dcdF_f {a b c : Int} (h : ¬ ((0 ≤ a ∧ a ≤ 255) ∧ (0 ≤ b ∧ b ≤ 255) ∧ (0 ≤ c ∧ c ≤ 255))) : dcdF a b c = ((0, 0, 0), 4) := by unfold dcdF; rw [byT_f h]; rfl
section
variable (a b c : Int) (w : World)
set_option maxRecDepth 100000 in
set_option maxHeartbeats 4000000 in
theorem implDecode (ht : OpsT w) : Calls Tryd.prog 16 #[.int .i64 a, .int .i64 b, .int .i64 c] w fun e w' => e = .returned (.tuple #[.agg #[.int .i64 (dcdF a b c).1.1, .int .i64 (dcdF a b c).1.2.1, .int .i64 (dcdF a b c).1.2.2], .int .i64 (dcdF a b c).2]) ∧ Below w.heap.size w w' := by
  have hlt := ht.lt
  have HT := Lib.hid ht
  clear ht
  by_cases h : (0 ≤ a ∧ a ≤ 255) ∧ (0 ≤ b ∧ b ≤ 255) ∧ (0 ≤ c ∧ c ≤ 255)
  · have HF := Lib.hid (dcdF_t h)
    have p1 := rngB_t h.1
    have p2 := rngB_t h.2.1
    have p3 := rngB_t h.2.2
    obtain ⟨⟨a0, a1⟩, ⟨b0, b1⟩, ⟨c0, c1⟩⟩ := h
    have HO := Lib.hid (fun W (t : OpsT W) => decodeI a b c W t a0 a1 b0 b1 c0 c1)
    rw [HF.out]
    generalize decV a b c = v at HO ⊢
    obtain ⟨x, y, z⟩ := v
    clear HF
    obtain ⟨W0, hW0⟩ : ∃ W0, W0 = w.alloc (.cells #[.int .i64 0, .int .i64 0, .int .i64 0] 24) := ⟨_, rfl⟩
    have hw0 : Below w.heap.size w W0 := by rw [hW0]; exact alloc_below _ _
    have X0 : Hid (Box W0 w.heap.size 24 #[.int .i64 0, .int .i64 0, .int .i64 0]) := Lib.hid (by rw [hW0]; exact Box.new _ _ _)
    have HW0 := Lib.hid hW0
    have HB0 := Lib.hid hw0
    clear hW0 hw0
    go_enter Tryd.func16, Tryd.ntmps16
    go_wp2_with (go_at_call 35; refine (isByteA _ _).mono ?_; rintro e w' ⟨rfl, rfl⟩)
    rw [← HW0.out]
    refine (HO.out _ (HT.out.below HB0.out)).mono ?_
    rintro e w2 ⟨rfl, hb⟩
    have HB3 := Lib.hid (bt HB0.out hb)
    have V0 := Lib.hid (X0.out.step hb)
    clear hb X0
    have g0 := V0.out.cell 0 rfl
    have g1 := V0.out.cell 1 rfl
    have g2 := V0.out.cell 2 rfl
    have n0 := V0.out.frozen 0
    have n1 := V0.out.frozen 1
    have n2 := V0.out.frozen 2
    go_wp2
    have HR := Lib.hid (((V0.out.set 0 (.int .i64 x)).set 1 (.int .i64 y)).set 2 (.int .i64 z))
    refine bodyPost_ret (v := .tuple #[.agg #[.int .i64 (x), .int .i64 (y), .int .i64 (z)], .int .i64 0]) (by simp [results, Tryd.results16, go_sem, HR.out.cell 0 rfl, HR.out.cell 1 rfl, HR.out.cell 2 rfl]) rfl ?_
    exact ⟨rfl, ((HB3.out.setCell (Nat.le_refl _) _).setCell (Nat.le_refl _) _).setCell (Nat.le_refl _) _⟩
  · have HF := Lib.hid (dcdF_f h)
    rw [HF.out]
    clear HF HT
    by_cases h1 : 0 ≤ a ∧ a ≤ 255
    · have p1 := rngB_t h1
      by_cases h2 : 0 ≤ b ∧ b ≤ 255
      · have p2 := rngB_t h2
        have p3 := rngB_f (fun h3 => h ⟨h1, h2, h3⟩)
        clear h1 h2
        clear h
        go_enter Tryd.func16, Tryd.ntmps16
        go_wp2_with (go_at_call 35; refine (isByteA _ _).mono ?_; rintro e w' ⟨rfl, rfl⟩)
        refine bodyPost_ret (v := .tuple #[.agg #[.int .i64 (0), .int .i64 (0), .int .i64 (0)], .int .i64 4]) (by simp [results, Tryd.results16, go_sem]) rfl ?_
        exact ⟨rfl, alloc_below _ _⟩
      · have p2 := rngB_f h2
        clear h1 h2
        clear h
        go_enter Tryd.func16, Tryd.ntmps16
        go_wp2_with (go_at_call 35; refine (isByteA _ _).mono ?_; rintro e w' ⟨rfl, rfl⟩)
        refine bodyPost_ret (v := .tuple #[.agg #[.int .i64 (0), .int .i64 (0), .int .i64 (0)], .int .i64 4]) (by simp [results, Tryd.results16, go_sem]) rfl ?_
        exact ⟨rfl, alloc_below _ _⟩
    · have p1 := rngB_f h1
      clear h1
      clear h
      go_enter Tryd.func16, Tryd.ntmps16
      go_wp2_with (go_at_call 35; refine (isByteA _ _).mono ?_; rintro e w' ⟨rfl, rfl⟩)
      refine bodyPost_ret (v := .tuple #[.agg #[.int .i64 (0), .int .i64 (0), .int .i64 (0)], .int .i64 4]) (by simp [results, Tryd.results16, go_sem]) rfl ?_
      exact ⟨rfl, alloc_below _ _⟩
theorem all3 : [a, b, c].all byN = byT a b c := by simp [byN, byT]
set_option maxRecDepth 100000 in
set_option maxHeartbeats 4000000 in
theorem specDecode : Calls Tryd.prog 17 #[.int .i64 a, .int .i64 b, .int .i64 c] w fun e w' => e = .returned (.tuple #[.agg #[.int .i64 (dcdF a b c).1.1, .int .i64 (dcdF a b c).1.2.1, .int .i64 (dcdF a b c).1.2.2], .int .i64 (dcdF a b c).2]) ∧ Below w.heap.size w w' := by
  obtain ⟨W0, hW0⟩ : ∃ W0, W0 = (w.alloc (.cells #[.int .i64 0, .int .i64 0, .int .i64 0] 24)).alloc (.cells #[.int .i64 a, .int .i64 b, .int .i64 c] 3) := ⟨_, rfl⟩
  have hw0 : Below w.heap.size w W0 := by rw [hW0]; exact ((Below.refl _ _).alloc (Nat.le_refl _) _).alloc (by simp) _
  have X0 : Hid (Box W0 w.heap.size 24 #[.int .i64 0, .int .i64 0, .int .i64 0]) := Lib.hid (by rw [hW0]; exact (Box.new _ _ _).alloc _)
  have X1 : Box W0 (w.heap.size + 1) 3 #[.int .i64 a, .int .i64 b, .int .i64 c] := by rw [hW0]; simpa using Box.new (w.alloc (.cells #[.int .i64 0, .int .i64 0, .int .i64 0] 24)) 3 #[.int .i64 a, .int .i64 b, .int .i64 c]
  have HY := Lib.hid (l05BytesA (some ⟨w.heap.size + 1, 0, none⟩) 3 3 [a, b, c] W0 rfl (by unfold maxLen; omega) (fun i hi => ⟨_, _, rfl, by
    match i, hi with
    | 0, _ => exact X1.cell 0 rfl
    | 1, _ => exact X1.cell 1 rfl
    | 2, _ => exact X1.cell 2 rfl⟩))
  rw [all3] at HY
  have HW0 := Lib.hid hW0
  have HB0 := Lib.hid hw0
  clear hW0 hw0 X1
  by_cases h : (0 ≤ a ∧ a ≤ 255) ∧ (0 ≤ b ∧ b ≤ 255) ∧ (0 ≤ c ∧ c ≤ 255)
  · have HF := Lib.hid (dcdF_t h)
    have HT := byT_t h
    rw [HT] at HY
    clear HT
    obtain ⟨⟨a0, a1⟩, ⟨b0, b1⟩, ⟨c0, c1⟩⟩ := h
    have HO := Lib.hid (fun W => l07DecodeS a b c W a0 a1 b0 b1 c0 c1)
    rw [HF.out]
    generalize decV a b c = v at HO ⊢
    obtain ⟨x, y, z⟩ := v
    clear HF
    go_enter Tryd.func17, Tryd.ntmps17
    go_wp2_with fail
    rw [← HW0.out]
    refine HY.out.mono ?_
    rintro e w' ⟨rfl, rfl⟩
    go_wp2_with fail
    refine (HO.out _).mono ?_
    rintro e w2 ⟨rfl, hb⟩
    have HB3 := Lib.hid (bt HB0.out hb)
    have V0 := Lib.hid (X0.out.step hb)
    clear hb X0
    have g0 := V0.out.cell 0 rfl
    have g1 := V0.out.cell 1 rfl
    have g2 := V0.out.cell 2 rfl
    have n0 := V0.out.frozen 0
    have n1 := V0.out.frozen 1
    have n2 := V0.out.frozen 2
    go_wp2
    have HR := Lib.hid (((V0.out.set 0 (.int .i64 x)).set 1 (.int .i64 y)).set 2 (.int .i64 z))
    refine bodyPost_ret (v := .tuple #[.agg #[.int .i64 (x), .int .i64 (y), .int .i64 (z)], .int .i64 0]) (by simp [results, Tryd.results17, go_sem, HR.out.cell 0 rfl, HR.out.cell 1 rfl, HR.out.cell 2 rfl]) rfl ?_
    exact ⟨rfl, ((HB3.out.setCell (Nat.le_refl _) _).setCell (Nat.le_refl _) _).setCell (Nat.le_refl _) _⟩
  · have HF := Lib.hid (dcdF_f h)
    have HT := byT_f h
    rw [HT] at HY
    rw [HF.out]
    clear HF HT h
    have g0 := X0.out.cell 0 rfl
    have g1 := X0.out.cell 1 rfl
    have g2 := X0.out.cell 2 rfl
    have n0 := X0.out.frozen 0
    have n1 := X0.out.frozen 1
    have n2 := X0.out.frozen 2
    go_enter Tryd.func17, Tryd.ntmps17
    go_wp2_with fail
    rw [← HW0.out]
    refine HY.out.mono ?_
    rintro e w' ⟨rfl, rfl⟩
    go_wp2
    have HR := Lib.hid (((X0.out.set 0 (.int .i64 0)).set 1 (.int .i64 0)).set 2 (.int .i64 0))
    refine bodyPost_ret (v := .tuple #[.agg #[.int .i64 (0), .int .i64 (0), .int .i64 (0)], .int .i64 4]) (by simp [results, Tryd.results17, go_sem, HR.out.cell 0 rfl, HR.out.cell 1 rfl, HR.out.cell 2 rfl]) rfl ?_
    exact ⟨rfl, ((HB0.out.setCell (Nat.le_refl _) _).setCell (Nat.le_refl _) _).setCell (Nat.le_refl _) _⟩
end
set_option maxRecDepth 100000 in
theorem specDecodeA (a0 b0 c0 : Int) (w : World) : Calls Tryd.prog 17 #[.int .i64 a0, .int .i64 b0, .int .i64 c0] w fun e w' => e = .returned (.tuple #[.agg #[.int .i64 (dcdF a0 b0 c0).1.1, .int .i64 (dcdF a0 b0 c0).1.2.1, .int .i64 (dcdF a0 b0 c0).1.2.2], .int .i64 (dcdF a0 b0 c0).2]) ∧ Below w.heap.size w w' := specDecode a0 b0 c0 w
set_option maxRecDepth 100000 in
theorem implDecodeA (a0 b0 c0 : Int) (w : World) (t : OpsT w) : Calls Tryd.prog 16 #[.int .i64 a0, .int .i64 b0, .int .i64 c0] w fun e w' => e = .returned (.tuple #[.agg #[.int .i64 (dcdF a0 b0 c0).1.1, .int .i64 (dcdF a0 b0 c0).1.2.1, .int .i64 (dcdF a0 b0 c0).1.2.2], .int .i64 (dcdF a0 b0 c0).2]) ∧ Below w.heap.size w w' := implDecode a0 b0 c0 w t
end Go.Proofs.YtcchhbkbnbphhaaDoor

/- Contracts of sectors, fateOf, tear, settle: what a crash makes of a disk. -/
namespace Go.Proofs.YtcchhbkbnbphhaaDoor
open Go.RowKit

def cellsS (ss : List ByteArray) : List Value := ss.map Value.string
theorem cellsS_len (ss : List ByteArray) : (cellsS ss).length = ss.length := by simp [cellsS]
theorem StrL.src {w : World} {A : Option Addr} {ss : List ByteArray} (h : StrL w A ss) (hp : 0 < (cellsS ss).length) : ∃ ad, A = some ad ∧ ∀ j v, (cellsS ss)[j]? = some v → w.cell? (ad.add j) = some v := by
  rw [cellsS_len] at hp
  obtain ⟨b, off, e, _⟩ := h 0 hp
  refine ⟨⟨b, off, none⟩, e, fun j v hj => ?_⟩
  have hj' : j < ss.length := by have := (List.getElem?_eq_some_iff.1 hj).1; simpa [cellsS] using this
  obtain ⟨b', off', e', hc⟩ := h j hj'
  rw [e] at e'
  injection e' with e'
  injection e' with e1 e2
  subst e1 e2
  have hv : v = Value.string (ss.getD j ByteArray.empty) := by
    unfold cellsS at hj
    rw [List.getElem?_map, List.getElem?_eq_getElem hj', Option.map_some] at hj
    rw [List.getD_eq_getElem?_getD, List.getElem?_eq_getElem hj']
    exact (Option.some.inj hj).symm
  rw [hv, ← hc]
  unfold Addr.add
  by_cases h0 : j = 0
  · subst h0; simp
  · rw [if_neg h0]

theorem getD_set (l : List ByteArray) (p j : Nat) (x : ByteArray) (h : p < l.length) : (l.set p x).getD j ByteArray.empty = if j = p then x else l.getD j ByteArray.empty := by
  simp only [List.getD_eq_getElem?_getD, List.getElem?_set]
  by_cases e : j = p
  · subst e; rw [if_pos rfl, if_pos rfl, if_pos h]; rfl
  · rw [if_neg (fun h => e h.symm), if_neg e]
structure Ok (ss : List ByteArray) (ws : List (Int × ByteArray)) : Prop where
  n48 : ss.length = 48
  m60 : ws.length ≤ 60
  small : ∀ s ∈ ss, s.size ≤ 100
  smallW : ∀ x ∈ ws, x.2.size ≤ 100
  at_ : ∀ x ∈ ws, 0 ≤ x.1 ∧ x.1 ≤ 47
end Go.Proofs.YtcchhbkbnbphhaaDoor

/- Contract of the model's flush: l01Flush. -/
namespace Go.Proofs.YtcchhbkbnbphhaaDoor
open Go.RowKit

theorem below_of_grown {B : Nat} {w w' : World} {r : Option Nat} (h : w.grownBy w' r) (hr : ∀ k, r = some k → B ≤ k) (hB : B ≤ w.heap.size) : Below B w w' := (Below.refl B w).grown h hB hr

def RowS (w : World) (b n m : Nat) (l : List ByteArray) : Prop := l.length = n ∧ n ≤ m ∧ ∃ f, w.rowIs b 9 m f ∧ ∀ i, i < n → f i = .string (l.getD i ByteArray.empty)
theorem RowS.cell {w : World} {b n m p : Nat} {l : List ByteArray} (h : RowS w b n m l) (hp : p < n) : w.cell? ⟨b, p, none⟩ = some (.string (l.getD p ByteArray.empty)) := by
  obtain ⟨_, hm, f, hr, hf⟩ := h
  rw [← hf p hp]; exact hr.cell (by omega)
theorem RowS.frozen {w : World} {b n m : Nat} {l : List ByteArray} (h : RowS w b n m l) (p : Nat) : w.frozen? ⟨b, p, none⟩ = false := by
  obtain ⟨_, hm, f, hr, hf⟩ := h
  exact hr.frozen p
theorem RowS.lt {w : World} {b n m : Nat} {l : List ByteArray} (h : RowS w b n m l) : b < w.heap.size := by
  obtain ⟨_, hm, f, hr, hf⟩ := h
  exact hr.lt
theorem RowS.below {w w' : World} {b n m : Nat} {l : List ByteArray} (h : RowS w b n m l) (hb : Below w.heap.size w w') : RowS w' b n m l := by
  obtain ⟨hl, hm, f, hr, hf⟩ := h
  exact ⟨hl, hm, f, row_below hb hr hr.lt, hf⟩
theorem RowS.set {w : World} {b n m p : Nat} {l : List ByteArray} (h : RowS w b n m l) (hp : p < n) (x : ByteArray) : RowS (w.setCell ⟨b, p, none⟩ (.string x)) b n m (l.set p x) := by
  obtain ⟨hl, hm, f, hr, hf⟩ := h
  refine ⟨by simpa using hl, hm, _, hr.set p (.string x), fun i hi => ?_⟩
  rw [getD_set l p i x (by omega)]
  by_cases e : i = p
  · rw [if_pos e, if_pos e]
  · rw [if_neg e, if_neg e]; exact hf i hi
theorem RowS.far {w : World} {b n m : Nat} {l : List ByteArray} (h : RowS w b n m l) {a : Addr} (ha : b ≠ a.block) (v : Value) : RowS (w.setCell a v) b n m l := by
  obtain ⟨hl, hm, f, hr, hf⟩ := h
  exact ⟨hl, hm, f, hr.setOther ha v, hf⟩
theorem RowS.own {w : World} {b n m lo hi : Nat} {l : List ByteArray} (h : RowS w b n m l) (h1 : lo ≤ b) (h2 : b < hi) : OwnS w lo hi (some ⟨b, 0, none⟩) l := by
  obtain ⟨hl, hm, f, hr, hf⟩ := h
  exact .inr ⟨b, m, f, rfl, h1, h2, by omega, hr, fun i hi => hf i (by omega)⟩

end Go.Proofs.YtcchhbkbnbphhaaDoor

/- Contracts of the model's crash: l01Crash; of the tests of fates. -/
namespace Go.Proofs.YtcchhbkbnbphhaaDoor
open Go.RowKit

end Go.Proofs.YtcchhbkbnbphhaaDoor
