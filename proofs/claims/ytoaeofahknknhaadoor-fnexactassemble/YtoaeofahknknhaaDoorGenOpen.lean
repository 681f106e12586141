/- What came in, opened into leaves. Written by gen_open.py. -/
import Derived.Test.YtoaeofahknknhaaDoorGenC
import Derived.Test.YtoaeofahknknhaaDoorOpen
import Derived.Test.YtoaeofahknknhaaDoorOpenBools
namespace Go.Proofs.YtoaeofahknknhaaDoor
open Go.RowKit Go.ChangeShapes Go.WideShapes
section
variable {H : Type} {enc : TypeId × Value → H} {W : World} {spare : Nat → Bool} {held : Bool}
theorem at_field {P : Program} {n : Nat} {fs : Array Field} {cs : List Value} {xs : List (DataW H × List MemPlace)} (hf : ∀ (i : Nat) (f : Field), fs[i]? = some f → DataW.trod enc P W 0 spare held n f.type (List.take (P.cellsOf f.type) (List.drop f.offset cs)) = xs[i]?) (hlen : xs.length = fs.size) (i : Nat) (f : Field) (hi : fs[i]? = some f) (k : Nat) (hk : P.cellsOf f.type = k) : ∃ y, DataW.trod enc P W 0 spare held n f.type (List.take k (List.drop f.offset cs)) = some y := by
  have h := hf i f hi
  have hlt : i < fs.size := (Array.getElem?_eq_some_iff.1 hi).1
  rw [hk, List.getElem?_eq_getElem (by omega)] at h
  exact ⟨_, h⟩
set_option maxRecDepth 100000 in
theorem openS {fuel : Nat} {v : Value} {x : DataW H × List MemPlace} (h : DataW.trod enc Tryd.prog W 0 spare held fuel 40 [v] = some x) : ∃ A c zs, v = .slice A zs.length c ∧ RepL W v (.S zs) ∧ (Lf.S zs).fit := by
  obtain ⟨A, n, c, zs, rfl, hl, hn, hs, fs⟩ := open_strs Tryd.underlying40 Tryd.underlying9 cellsStr h
  subst hl
  exact ⟨A, c, zs, rfl, ⟨A, c, rfl, hs⟩, hn, fs⟩
set_option maxRecDepth 100000 in
theorem openI {fuel : Nat} {v : Value} {x : DataW H × List MemPlace} (h : DataW.trod enc Tryd.prog W 0 spare held fuel 26 [v] = some x) : ∃ A c zs, v = .slice A zs.length c ∧ RepL W v (.I zs) ∧ (Lf.I zs).fit := by
  obtain ⟨A, n, c, zs, rfl, hl, hn, hs, _⟩ := open_ints64 Tryd.underlying26 Tryd.underlying3 cellsInt h
  subst hl
  exact ⟨A, c, zs, rfl, ⟨A, c, rfl, hs⟩, hn⟩
set_option maxRecDepth 100000 in
theorem openB {fuel : Nat} {v : Value} {x : DataW H × List MemPlace} (h : DataW.trod enc Tryd.prog W 0 spare held fuel 42 [v] = some x) : ∃ A c zs, v = .slice A zs.length c ∧ RepL W v (.B zs) ∧ (Lf.B zs).fit := by
  obtain ⟨A, n, c, zs, rfl, hl, hn, hs⟩ := open_bools Tryd.underlying42 Tryd.underlying4 cellsBool h
  subst hl
  exact ⟨A, c, zs, rfl, ⟨A, c, rfl, hs⟩, hn⟩
end
theorem list3 {l : List Value} (h : l.length = 3) : ∃ c0 c1 c2 : Value, l = [c0, c1, c2] := by
  match l, h with
  | [c0, c1, c2], _ => exact ⟨c0, c1, c2, rfl⟩
theorem list5 {l : List Value} (h : l.length = 5) : ∃ c0 c1 c2 c3 c4 : Value, l = [c0, c1, c2, c3, c4] := by
  match l, h with
  | [c0, c1, c2, c3, c4], _ => exact ⟨c0, c1, c2, c3, c4, rfl⟩
theorem list2 {l : List Value} (h : l.length = 2) : ∃ c0 c1 : Value, l = [c0, c1] := by
  match l, h with
  | [c0, c1], _ => exact ⟨c0, c1, rfl⟩
set_option maxRecDepth 100000 in
theorem cellsLInstr : Tryd.prog.cellsOf 50 = 3 := by kernel_rfl
set_option maxRecDepth 100000 in
theorem opencInstr {H : Type} {enc : TypeId × Value → H} {W : World} {spare : Nat → Bool} {held : Bool} {fuel : Nat} {cs : List Value} {x : DataW H × List MemPlace} (h : DataW.trod enc Tryd.prog W 0 spare held fuel 50 cs = some x) :
    ∃ (d0 : Int) (d1 : Int) (d2 : Int), cs = [.int .i64 d0, .int .i64 d1, .int .i64 d2] ∧ RepA W [] [] ∧ FitA [] := by
  obtain ⟨xs, n, _, rfl, hl, hlen, hf⟩ := DataW.trod_struct Tryd.underlying50 h
  obtain ⟨c0, c1, c2, rfl⟩ := list3 (hl.trans cellsLInstr)
  obtain ⟨y0, h0⟩ : ∃ y, DataW.trod enc Tryd.prog W 0 spare held n 3 [c0] = some y := at_field hf hlen 0 _ rfl 1 cellsInt
  obtain ⟨d0, e0, _, _⟩ := DataW.trod_int Tryd.underlying3 h0
  injection e0 with e0 _
  subst e0
  obtain ⟨y1, h1⟩ : ∃ y, DataW.trod enc Tryd.prog W 0 spare held n 3 [c1] = some y := at_field hf hlen 1 _ rfl 1 cellsInt
  obtain ⟨d1, e1, _, _⟩ := DataW.trod_int Tryd.underlying3 h1
  injection e1 with e1 _
  subst e1
  obtain ⟨y2, h2⟩ : ∃ y, DataW.trod enc Tryd.prog W 0 spare held n 3 [c2] = some y := at_field hf hlen 2 _ rfl 1 cellsInt
  obtain ⟨d2, e2, _, _⟩ := DataW.trod_int Tryd.underlying3 h2
  injection e2 with e2 _
  subst e2
  refine ⟨d0, d1, d2, rfl, trivial, ?_⟩
  intro d hd
  cases hd
set_option maxRecDepth 100000 in
theorem openInstr {H : Type} {enc : TypeId × Value → H} {W : World} {r : Reach} {b0 : Nat} {v : Value} {d : DataW H} {p : List MemPlace} (hv : Value.okWide Tryd.prog W r b0 50 v) (h : DataW.Trod enc Tryd.prog W 0 (fun _ => true) true 50 v d p) :
    ∃ (d0 : Int) (d1 : Int) (d2 : Int), v = .agg #[.int .i64 d0, .int .i64 d1, .int .i64 d2] ∧ RepA W [] [] ∧ FitA [] := by
  obtain ⟨cs, rfl, _⟩ := okWide_struct Tryd.underlying50 hv
  obtain ⟨fuel, hf⟩ := h
  obtain ⟨d0, d1, d2, e, R, G⟩ := opencInstr hf
  refine ⟨d0, d1, d2, ?_, R, G⟩
  congr 1
  apply Array.ext'
  simpa [Value.cells] using e
end Go.Proofs.YtoaeofahknknhaaDoor
