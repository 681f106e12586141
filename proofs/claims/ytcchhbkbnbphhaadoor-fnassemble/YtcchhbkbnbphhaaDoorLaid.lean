/- The listed variables: what the table of operations holds; what is read of it behind a call; worlds for the witness. -/
import Derived.Test.YtcchhbkbnbphhaaDoorTie
import Derived.Test.YtcchhbkbnbphhaaDoorCards
import Derived.Test.YtcchhbkbnbphhaaDoorM1
import Derived.Lib.LaidTab
import Derived.Lib.LaidU8
import Derived.ProofKit
import Derived.OpenShut
import Derived.ShutString
import Derived.ChangeOld
import Derived.Deep.DeepHandedRow
namespace Go.Proofs.YtcchhbkbnbphhaaDoor
open Go.ChangeShapes Go.WideShapes Go.ChangeAt Go.RowKit

set_option maxRecDepth 100000 in
theorem ownK : ownKnob Tryd.prog.godebug = none := by kernel_rfl
set_option maxRecDepth 100000 in
theorem gOps : Tryd.prog.globalNamed "loop.example/g00563/impl.operations" = some 0 := by kernel_rfl
set_option maxRecDepth 100000 in
theorem gOpsType : (Tryd.prog.globals[0]?).map (·.type) = some 78 := by kernel_rfl
set_option maxRecDepth 100000 in
theorem cellsOpArr : Tryd.prog.cellsOf 78 = 92 := by kernel_rfl
set_option maxRecDepth 100000 in
theorem cellsOpRow : Tryd.prog.cellsOf 57 = 4 := by kernel_rfl
set_option maxRecDepth 100000 in
theorem cellsOpStr : Tryd.prog.cellsOf 9 = 1 := by kernel_rfl
set_option maxRecDepth 100000 in
theorem cellsOpInt : Tryd.prog.cellsOf 3 = 1 := by kernel_rfl

def Reads (w : World) (n : String) (d : DataW Unit) : Prop :=
  ∃ g t cs fuel p, Tryd.prog.globalNamed n = some g ∧ (Tryd.prog.globals[g]?).map (·.type) = some t ∧ w.var? Tryd.prog n = some cs ∧ DataW.trod (fun _ => ()) Tryd.prog w 0 (fun _ => true) false fuel t cs.toList = some (d, p)
set_option maxRecDepth 100000 in
theorem reads_of_vars {w : World} : ∀ {l : List (String × DataW Unit)} {ps : List MemPlace}, DataW.LaidVars Tryd.prog w l ps → ∀ n d, (n, d) ∈ l → Reads w n d
  | [], _, _, _, _, hm => by cases hm
  | (_, _) :: _, _, ⟨g, t, cs, fuel, p, _, h1, h2, h3, h4, h5, _⟩, n, d, hm => by
    rcases List.mem_cons.1 hm with e | e
    · cases e
      exact ⟨g, t, cs, fuel, p, h1, h2, h3, h4⟩
    · exact reads_of_vars h5 n d e
set_option maxRecDepth 100000 in
theorem reads_of_laid {w : World} {l : List (String × DataW Unit)} (h : laidMet Tryd.prog l w) {n : String} {d : DataW Unit} (hm : (n, d) ∈ l) : Reads w n d := by
  obtain ⟨_, hv, _⟩ := h
  exact reads_of_vars hv n d hm

def opRowD {H : Type} (k : Nat) : DataW H := .agg [.lit (.string (opWord k).data.toList), .lit (.int .i64 (regT k)), .lit (.int .i64 (argT k)), .lit (.int .i64 (fixT k))]
def opRowV (k : Nat) : List Value := [.string (opWord k), .int .i64 (regT k), .int .i64 (argT k), .int .i64 (fixT k)]
def opCells : Array Value := ((List.range 23).flatMap opRowV).toArray
abbrev opsH {H : Type} : DataW H := .agg ((List.range 23).map opRowD)
theorem laid_ops : (Rows.laid_loop_example_g00563_impl_operations : DataW Unit) = opsH := by kernel_rfl

section
variable {H : Type} {enc : TypeId × Value → H} {w : World} {base : Nat} {sp : Nat → Bool} {held : Bool}
set_option maxRecDepth 100000 in
theorem row_cells {fuel : Nat} {cs : List Value} {k : Nat} {p : List MemPlace} (h : DataW.trod enc Tryd.prog w base sp held fuel 57 cs = some (opRowD k, p)) : cs = opRowV k := by
  obtain ⟨xs, n, _, hx, hl, hlen, hf⟩ := DataW.trod_struct Tryd.underlying57 h
  rw [cellsOpRow] at hl
  obtain ⟨c0, c1, c2, c3, rfl⟩ : ∃ c0 c1 c2 c3 : Value, cs = [c0, c1, c2, c3] := by
    match cs, hl with
    | [c0, c1, c2, c3], _ => exact ⟨c0, c1, c2, c3, rfl⟩
  have hlen4 : xs.length = 4 := hlen
  obtain ⟨x0, x1, x2, x3, rfl⟩ : ∃ x0 x1 x2 x3 : DataW H × List MemPlace, xs = [x0, x1, x2, x3] := by
    match xs, hlen4 with
    | [x0, x1, x2, x3], _ => exact ⟨x0, x1, x2, x3, rfl⟩
  have h0 := hf 0 _ rfl
  have h1 := hf 1 _ rfl
  have h2 := hf 2 _ rfl
  have h3 := hf 3 _ rfl
  have hx1 := congrArg Prod.fst hx
  simp only [opRowD, List.map_cons, List.map_nil, DataW.agg.injEq, List.cons.injEq, and_true] at hx1
  obtain ⟨e0, e1, e2, e3⟩ := hx1
  rw [show (∀ t, t = 9 → Tryd.prog.cellsOf t = 1) from fun t e => e ▸ cellsOpStr] at h0 <;> try rfl
  rw [show (∀ t, t = 3 → Tryd.prog.cellsOf t = 1) from fun t e => e ▸ cellsOpInt] at h1 h2 h3 <;> try rfl
  obtain ⟨s, hs, hs2, _⟩ := DataW.trod_string Tryd.underlying9 h0
  obtain ⟨a, ha, ha2, _⟩ := DataW.trod_int Tryd.underlying3 h1
  obtain ⟨b, hb, hb2, _⟩ := DataW.trod_int Tryd.underlying3 h2
  obtain ⟨c, hc, hc2, _⟩ := DataW.trod_int Tryd.underlying3 h3
  subst hs2 ha2 hb2 hc2
  simp only [DataW.lit.injEq, Lit.string.injEq, Lit.int.injEq, true_and] at e0 e1 e2 e3
  subst e1 e2 e3
  have es : s = opWord k := bytes_inj e0.symm
  subst es
  injection hs with hs _
  injection ha with ha _
  injection hb with hb _
  injection hc with hc _
  subst hs ha hb hc
  rfl
end

theorem chunks_flat (f : Nat → List Value) : ∀ (n : Nat) (cs : List Value), cs.length = n * 4 → (∀ i, i < n → (cs.drop (i * 4)).take 4 = f i) → cs = (List.range n).flatMap f
  | 0, cs, hl, _ => by cases cs with
    | nil => rfl
    | cons _ _ => simp at hl
  | n + 1, cs, hl, h => by
    have ih := chunks_flat f n (cs.take (n * 4)) (by rw [List.length_take]; omega) (fun i hi => by
      rw [List.drop_take, List.take_take, Nat.min_eq_left (by omega)]
      exact h i (by omega))
    have hn := h n (by omega)
    rw [List.take_of_length_le (by rw [List.length_drop]; omega)] at hn
    rw [List.range_succ, List.flatMap_append, ← ih, List.flatMap_cons, List.flatMap_nil, List.append_nil, ← hn, List.take_append_drop]

set_option maxRecDepth 100000 in
theorem ops_cells {H : Type} {enc : TypeId × Value → H} {w : World} {base : Nat} {sp : Nat → Bool} {held : Bool} {fuel : Nat} {cs : List Value} {p : List MemPlace} (h : DataW.trod enc Tryd.prog w base sp held fuel 78 cs = some (opsH, p)) : cs = opCells.toList := by
  have hlen : cs.length = 92 := by
    obtain ⟨xs, m, _, _, hlen, _, _⟩ := DataW.trod_array Tryd.underlying78 h
    rw [cellsOpArr] at hlen
    exact hlen
  have hc : cs = (List.range 23).flatMap opRowV := chunks_flat opRowV 23 cs hlen (fun i hi => by
    obtain ⟨f, d, q, hd, ht⟩ := Lib.array_elem Tryd.underlying78 h i hi
    rw [cellsOpRow] at ht
    have hd2 : ((List.range 23).map (opRowD (H := H)))[i]? = some (opRowD i) := by
      rw [List.getElem?_map, List.getElem?_range hi]; rfl
    rw [hd2] at hd
    injection hd with hd
    rw [← hd] at ht
    exact row_cells ht)
  rw [hc]
  rfl

set_option maxRecDepth 100000 in
theorem var_of_reads {W : World} (h : Reads W "loop.example/g00563/impl.operations" Rows.laid_loop_example_g00563_impl_operations) : W.var? Tryd.prog "loop.example/g00563/impl.operations" = some opCells := by
  obtain ⟨g, t, cs, fuel, p, hg, ht, hvar, hd⟩ := h
  obtain rfl := Option.some.inj (gOps.symm.trans hg)
  obtain rfl := Option.some.inj (gOpsType.symm.trans ht)
  rw [laid_ops] at hd
  have := ops_cells hd
  rw [hvar]
  obtain ⟨l⟩ := cs
  simp only at this
  rw [this]
set_option maxRecDepth 100000 in
theorem opsT_of_var {W : World} (h : W.var? Tryd.prog "loop.example/g00563/impl.operations" = some opCells) : OpsT W := fun k hk => by
  have e := fun i => World.var?_cell gOps h i
  refine ⟨(e _).trans ?_, (e _).trans ?_, (e _).trans ?_, (e _).trans ?_⟩
  all_goals (
    have : k = 0 ∨ k = 1 ∨ k = 2 ∨ k = 3 ∨ k = 4 ∨ k = 5 ∨ k = 6 ∨ k = 7 ∨ k = 8 ∨ k = 9 ∨ k = 10 ∨ k = 11 ∨ k = 12 ∨ k = 13 ∨ k = 14 ∨ k = 15 ∨ k = 16 ∨ k = 17 ∨ k = 18 ∨ k = 19 ∨ k = 20 ∨ k = 21 ∨ k = 22 := by omega
    clear e h hk
    rcases this with rfl | rfl | rfl | rfl | rfl | rfl | rfl | rfl | rfl | rfl | rfl | rfl | rfl | rfl | rfl | rfl | rfl | rfl | rfl | rfl | rfl | rfl | rfl <;> (show _ = _; kernel_rfl))
set_option maxRecDepth 100000 in
theorem reads_ops {H : Type} (enc : TypeId × Value → H) (W : World) (sp : Nat → Bool) : DataW.trod enc Tryd.prog W 0 sp true 4 78 opCells.toList = some (opsH, []) := by kernel_rfl

def cellsD : Nat → DataW Unit → List Value
  | 0, _ => []
  | _ + 1, .lit (.int k n) => [.int k n]
  | _ + 1, .lit (.string l) => [.string ⟨l.toArray⟩]
  | n + 1, .agg ds => ds.flatMap (cellsD n)
  | _ + 1, _ => []
def laidHeap (h : Array Obj) (l : List (Nat × DataW Unit)) : Array Obj :=
  l.foldl (fun h x => h.modify x.1 fun
      | .cells _ t frozen => .cells (cellsD 4 x.2).toArray t frozen
      | o => o) h
set_option maxRecDepth 100000 in
noncomputable def laidWorld (os : Os) : World :=
  { World.holding Tryd.prog os ⟨#[], #[], []⟩ with heap := laidHeap (World.holding Tryd.prog os ⟨#[], #[], []⟩).heap [(0, Rows.laid_loop_example_g00563_impl_operations), (1, Rows.laid_internal_strconv_uint64pow10), (3, Rows.laid_unicode_utf8_first), (4, Rows.laid_unicode_utf8_acceptRanges), (5, Rows.laid_math_bits_deBruijn32tab), (6, Rows.laid_math_bits_deBruijn64tab)] }
end Go.Proofs.YtcchhbkbnbphhaaDoor
