/- Texts of this claim, one behind the other: GenRTimer, OpenBools, Laid. -/
import Derived.Test.YtophgbjbinaekaaGreatDoorTie
import Derived.Test.YtophgbjbinaekaaGreatDoorCards
import Derived.Lib.LaidTab
import Derived.Lib.LaidU8
import Derived.ProofKit
import Derived.OpenShut
import Derived.ShutString
import Derived.ChangeOld
import Derived.Deep.DeepHandedRow
import Derived.Test.YtophgbjbinaekaaGreatDoorM5
/- Slices of Timer: rows of 3 cells, as lists; the laws' own functions over them. Written by gen_r.py. -/
namespace Go.Proofs.YtophgbjbinaekaaGreatDoor
open Go.RowKit Go.ChangeShapes Go.WideShapes

abbrev TTimer := Int × Int × Bool
def zTimer : TTimer := (0, 0, false)
def rowTimer (x : TTimer) : List Value := [.int .i64 (x.1), .int .i64 (x.2.1), .bool (x.2.2)]
theorem rowTimer_at (rs : List TTimer) (i : Nat) (h : i < rs.length) : (rs.map rowTimer).getD i [] = rowTimer (rs.getD i zTimer) := by
  simp [List.getD_eq_getElem?_getD, h]
def RowTimer (w : World) (A : Option Addr) (rs : List TTimer) : Prop := RowL w A 3 (rs.map rowTimer)
theorem RowTimer.below {w w' : World} {A : Option Addr} {rs : List TTimer} (h : RowTimer w A rs) (hb : Below w.heap.size w w') : RowTimer w' A rs := RowL.below h hb
theorem RowTimer.at {w : World} {A : Option Addr} {rs : List TTimer} (h : RowTimer w A rs) (i : Nat) (hi : i < rs.length) : ∃ b off, A = some ⟨b, off, none⟩ ∧ w.cell? ⟨b, off + i * 3, none⟩ = some (.int .i64 (rs.getD i zTimer).1) ∧ w.cell? ⟨b, off + i * 3 + 1, none⟩ = some (.int .i64 (rs.getD i zTimer).2.1) ∧ w.cell? ⟨b, off + i * 3 + 2, none⟩ = some (.bool (rs.getD i zTimer).2.2) := by
  have hr := rowTimer_at rs i hi
  obtain ⟨b0, o0, e0, h0⟩ := h i (by simpa using hi) 0 (by decide)
  rw [hr] at h0
  obtain ⟨b1, o1, e1, h1⟩ := h i (by simpa using hi) 1 (by decide)
  rw [hr] at h1
  obtain ⟨b2, o2, e2, h2⟩ := h i (by simpa using hi) 2 (by decide)
  rw [hr] at h2
  subst e0
  injection e1 with e1
  injection e1 with p1 q1 _
  subst p1 q1
  injection e2 with e2
  injection e2 with p2 q2 _
  subst p2 q2
  exact ⟨b0, o0, rfl, h0, h1, h2⟩
end Go.Proofs.YtophgbjbinaekaaGreatDoor

/- A []bool that came in, opened. -/
namespace Go.Proofs.YtophgbjbinaekaaGreatDoor
open Go.RowKit Go.ChangeShapes Go.WideShapes

theorem open_bools {H : Type} {enc : TypeId × Value → H} {P : Program} {w : World} {spare : Nat → Bool} {held : Bool} {t e : TypeId} {fuel : Nat} {v : Value} {x : DataW H × List MemPlace} (ht : P.underlying t = some (.slice e)) (he : P.underlying e = some .bool) (hce : P.cellsOf e = 1)
    (h : DataW.trod enc P w 0 spare held fuel t [v] = some x) :
    ∃ A n c, ∃ gs : List Bool, v = .slice A n c ∧ gs.length = n ∧ n ≤ maxLen ∧ BoolL w A gs := by
  rcases Deep.open_slice1 ht hce h with ⟨hcs, _⟩ | ⟨a, len, cap, m, k, V, D, Pl, hcs, _, hl, hm, hmm, _, hx⟩
  · injection hcs with hv _
    exact ⟨none, 0, 0, [], hv, rfl, by unfold maxLen; omega, fun i hi => by simp at hi⟩
  · injection hcs with hv _
    have hlm : len ≤ m := by rw [hmm]; split <;> omega
    obtain ⟨S, hS⟩ := Deep.choose_lt (n := len) (p := fun i (s : Bool) => w.cell? (a.add i) = some (.bool s)) (fun i hi => by
      obtain ⟨h1, h2⟩ := hx i (by omega)
      obtain ⟨s, hc, _⟩ := DataW.trod_bool he h2
      injection hc with hc _
      exact ⟨s, by rw [h1, hc]⟩)
    refine ⟨some a, len, cap, (List.range len).map S, hv, by simp, by omega, fun i hi => ?_⟩
    have hi' : i < len := by simpa using hi
    have h0 := hS 0 (by omega)
    have hsp := World.cell?_spot h0
    obtain ⟨b, off, spot⟩ := a
    have hsp' : spot = none := by simpa [Addr.add] using hsp
    subst hsp'
    have hc := add_plain (hS i hi') rfl
    exact ⟨b, off, rfl, by rw [getD_range len S _ i hi']; exact hc⟩
set_option maxRecDepth 100000 in
theorem cellsBool : Tryz.prog.cellsOf 4 = 1 := by kernel_rfl
set_option maxRecDepth 100000 in
theorem cellsOfI : Tryz.prog.cellsOf 23 = 1 := by kernel_rfl
set_option maxRecDepth 100000 in
theorem cellsOfB : Tryz.prog.cellsOf 27 = 1 := by kernel_rfl
end Go.Proofs.YtophgbjbinaekaaGreatDoor

/- The listed variables: what the table of operations holds; what is read of it behind a call; worlds for the witness. -/
namespace Go.Proofs.YtophgbjbinaekaaGreatDoor
open Go.ChangeShapes Go.WideShapes Go.ChangeAt Go.RowKit

set_option maxRecDepth 100000 in
theorem ownK : ownKnob Tryz.prog.godebug = none := by kernel_rfl
set_option maxRecDepth 100000 in
theorem gOps : Tryz.prog.globalNamed "loop.example/g00563/impl.operations" = some 0 := by kernel_rfl
set_option maxRecDepth 100000 in
theorem gOpsType : (Tryz.prog.globals[0]?).map (·.type) = some 101 := by kernel_rfl
set_option maxRecDepth 100000 in
theorem cellsOpArr : Tryz.prog.cellsOf 101 = 92 := by kernel_rfl
set_option maxRecDepth 100000 in
theorem cellsOpRow : Tryz.prog.cellsOf 100 = 4 := by kernel_rfl
set_option maxRecDepth 100000 in
theorem cellsOpStr : Tryz.prog.cellsOf 9 = 1 := by kernel_rfl
set_option maxRecDepth 100000 in
theorem cellsOpInt : Tryz.prog.cellsOf 3 = 1 := by kernel_rfl

def Reads (w : World) (n : String) (d : DataW Unit) : Prop :=
  ∃ g t cs fuel p, Tryz.prog.globalNamed n = some g ∧ (Tryz.prog.globals[g]?).map (·.type) = some t ∧ w.var? Tryz.prog n = some cs ∧ DataW.trod (fun _ => ()) Tryz.prog w 0 (fun _ => true) false fuel t cs.toList = some (d, p)
set_option maxRecDepth 100000 in
theorem reads_of_vars {w : World} : ∀ {l : List (String × DataW Unit)} {ps : List MemPlace}, DataW.LaidVars Tryz.prog w l ps → ∀ n d, (n, d) ∈ l → Reads w n d
  | [], _, _, _, _, hm => by cases hm
  | (_, _) :: _, _, ⟨g, t, cs, fuel, p, _, h1, h2, h3, h4, h5, _⟩, n, d, hm => by
    rcases List.mem_cons.1 hm with e | e
    · cases e
      exact ⟨g, t, cs, fuel, p, h1, h2, h3, h4⟩
    · exact reads_of_vars h5 n d e
set_option maxRecDepth 100000 in
theorem reads_of_laid {w : World} {l : List (String × DataW Unit)} (h : laidMet Tryz.prog l w) {n : String} {d : DataW Unit} (hm : (n, d) ∈ l) : Reads w n d := by
  obtain ⟨_, hv, _⟩ := h
  exact reads_of_vars hv n d hm

def opRowD {H : Type} (k : Nat) : DataW H := .agg [.lit (.string (opWord k).data.toList), .lit (.int .i64 (regT k)), .lit (.int .i64 (argT k)), .lit (.int .i64 (fixT k))]
def opRowV (k : Nat) : List Value := [.string (opWord k), .int .i64 (regT k), .int .i64 (argT k), .int .i64 (fixT k)]
def opCells : Array Value := ((List.range 23).flatMap opRowV).toArray
abbrev opsH {H : Type} : DataW H := .agg ((List.range 23).map opRowD)
theorem laid_ops : (Rows.laid_loop_example_g00563_impl_operations : DataW Unit) = opsH := by kernel_rfl

section
variable {H : Type} {enc : TypeId × Value → H} {w : World} {base : Nat} {sp : Nat → Bool} {held : Bool}
set_option maxRecDepth 100000 in
theorem row_cells {fuel : Nat} {cs : List Value} {k : Nat} {p : List MemPlace} (h : DataW.trod enc Tryz.prog w base sp held fuel 100 cs = some (opRowD k, p)) : cs = opRowV k := by
  obtain ⟨xs, n, _, hx, hl, hlen, hf⟩ := DataW.trod_struct Tryz.underlying100 h
  rw [cellsOpRow] at hl
  obtain ⟨c0, c1, c2, c3, rfl⟩ : ∃ c0 c1 c2 c3 : Value, cs = [c0, c1, c2, c3] := by
    match cs, hl with
    | [c0, c1, c2, c3], _ => exact ⟨c0, c1, c2, c3, rfl⟩
  have hlen4 : xs.length = 4 := hlen
  obtain ⟨x0, x1, x2, x3, rfl⟩ : ∃ x0 x1 x2 x3 : DataW H × List MemPlace, xs = [x0, x1, x2, x3] := by
    match xs, hlen4 with
    | [x0, x1, x2, x3], _ => exact ⟨x0, x1, x2, x3, rfl⟩
  have h0 := hf 0 _ rfl
  have h1 := hf 1 _ rfl
  have h2 := hf 2 _ rfl
  have h3 := hf 3 _ rfl
  have hx1 := congrArg Prod.fst hx
  simp only [opRowD, List.map_cons, List.map_nil, DataW.agg.injEq, List.cons.injEq, and_true] at hx1
  obtain ⟨e0, e1, e2, e3⟩ := hx1
  rw [show (∀ t, t = 9 → Tryz.prog.cellsOf t = 1) from fun t e => e ▸ cellsOpStr] at h0 <;> try rfl
  rw [show (∀ t, t = 3 → Tryz.prog.cellsOf t = 1) from fun t e => e ▸ cellsOpInt] at h1 h2 h3 <;> try rfl
  obtain ⟨s, hs, hs2, _⟩ := DataW.trod_string Tryz.underlying9 h0
  obtain ⟨a, ha, ha2, _⟩ := DataW.trod_int Tryz.underlying3 h1
  obtain ⟨b, hb, hb2, _⟩ := DataW.trod_int Tryz.underlying3 h2
  obtain ⟨c, hc, hc2, _⟩ := DataW.trod_int Tryz.underlying3 h3
  subst hs2 ha2 hb2 hc2
  simp only [DataW.lit.injEq, Lit.string.injEq, Lit.int.injEq, true_and] at e0 e1 e2 e3
  subst e1 e2 e3
  have es : s = opWord k := bytes_inj e0.symm
  subst es
  injection hs with hs _
  injection ha with ha _
  injection hb with hb _
  injection hc with hc _
  subst hs ha hb hc
  rfl
end

theorem chunks_flat (f : Nat → List Value) : ∀ (n : Nat) (cs : List Value), cs.length = n * 4 → (∀ i, i < n → (cs.drop (i * 4)).take 4 = f i) → cs = (List.range n).flatMap f
  | 0, cs, hl, _ => by cases cs with
    | nil => rfl
    | cons _ _ => simp at hl
  | n + 1, cs, hl, h => by
    have ih := chunks_flat f n (cs.take (n * 4)) (by rw [List.length_take]; omega) (fun i hi => by
      rw [List.drop_take, List.take_take, Nat.min_eq_left (by omega)]
      exact h i (by omega))
    have hn := h n (by omega)
    rw [List.take_of_length_le (by rw [List.length_drop]; omega)] at hn
    rw [List.range_succ, List.flatMap_append, ← ih, List.flatMap_cons, List.flatMap_nil, List.append_nil, ← hn, List.take_append_drop]

set_option maxRecDepth 100000 in
theorem ops_cells {H : Type} {enc : TypeId × Value → H} {w : World} {base : Nat} {sp : Nat → Bool} {held : Bool} {fuel : Nat} {cs : List Value} {p : List MemPlace} (h : DataW.trod enc Tryz.prog w base sp held fuel 101 cs = some (opsH, p)) : cs = opCells.toList := by
  have hlen : cs.length = 92 := by
    obtain ⟨xs, m, _, _, hlen, _, _⟩ := DataW.trod_array Tryz.underlying101 h
    rw [cellsOpArr] at hlen
    exact hlen
  have hc : cs = (List.range 23).flatMap opRowV := chunks_flat opRowV 23 cs hlen (fun i hi => by
    obtain ⟨f, d, q, hd, ht⟩ := Lib.array_elem Tryz.underlying101 h i hi
    rw [cellsOpRow] at ht
    have hd2 : ((List.range 23).map (opRowD (H := H)))[i]? = some (opRowD i) := by
      rw [List.getElem?_map, List.getElem?_range hi]; rfl
    rw [hd2] at hd
    injection hd with hd
    rw [← hd] at ht
    exact row_cells ht)
  rw [hc]
  rfl

set_option maxRecDepth 100000 in
theorem var_of_reads {W : World} (h : Reads W "loop.example/g00563/impl.operations" Rows.laid_loop_example_g00563_impl_operations) : W.var? Tryz.prog "loop.example/g00563/impl.operations" = some opCells := by
  obtain ⟨g, t, cs, fuel, p, hg, ht, hvar, hd⟩ := h
  obtain rfl := Option.some.inj (gOps.symm.trans hg)
  obtain rfl := Option.some.inj (gOpsType.symm.trans ht)
  rw [laid_ops] at hd
  have := ops_cells hd
  rw [hvar]
  obtain ⟨l⟩ := cs
  simp only at this
  rw [this]
set_option maxRecDepth 100000 in
theorem opsT_of_var {W : World} (h : W.var? Tryz.prog "loop.example/g00563/impl.operations" = some opCells) : OpsT W := fun k hk => by
  have e := fun i => World.var?_cell gOps h i
  refine ⟨(e _).trans ?_, (e _).trans ?_, (e _).trans ?_, (e _).trans ?_⟩
  all_goals (
    have : k = 0 ∨ k = 1 ∨ k = 2 ∨ k = 3 ∨ k = 4 ∨ k = 5 ∨ k = 6 ∨ k = 7 ∨ k = 8 ∨ k = 9 ∨ k = 10 ∨ k = 11 ∨ k = 12 ∨ k = 13 ∨ k = 14 ∨ k = 15 ∨ k = 16 ∨ k = 17 ∨ k = 18 ∨ k = 19 ∨ k = 20 ∨ k = 21 ∨ k = 22 := by omega
    clear e h hk
    rcases this with rfl | rfl | rfl | rfl | rfl | rfl | rfl | rfl | rfl | rfl | rfl | rfl | rfl | rfl | rfl | rfl | rfl | rfl | rfl | rfl | rfl | rfl | rfl <;> (show _ = _; kernel_rfl))
set_option maxRecDepth 100000 in
theorem reads_ops {H : Type} (enc : TypeId × Value → H) (W : World) (sp : Nat → Bool) : DataW.trod enc Tryz.prog W 0 sp true 4 101 opCells.toList = some (opsH, []) := by kernel_rfl

def cellsD : Nat → DataW Unit → List Value
  | 0, _ => []
  | _ + 1, .lit (.int k n) => [.int k n]
  | _ + 1, .lit (.string l) => [.string ⟨l.toArray⟩]
  | n + 1, .agg ds => ds.flatMap (cellsD n)
  | _ + 1, _ => []
def laidHeap (h : Array Obj) (l : List (Nat × DataW Unit)) : Array Obj :=
  l.foldl (fun h x => h.modify x.1 fun
      | .cells _ t frozen => .cells (cellsD 4 x.2).toArray t frozen
      | o => o) h
set_option maxRecDepth 100000 in
noncomputable def laidWorld (os : Os) : World :=
  { World.holding Tryz.prog os ⟨#[], #[], []⟩ with heap := laidHeap (World.holding Tryz.prog os ⟨#[], #[], []⟩).heap [(0, Rows.laid_loop_example_g00563_impl_operations)] }
end Go.Proofs.YtophgbjbinaekaaGreatDoor
