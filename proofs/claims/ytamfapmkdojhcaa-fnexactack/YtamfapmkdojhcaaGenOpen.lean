/- What came in, opened into leaves. Written by gen_open.py. -/
import Derived.Test.YtamfapmkdojhcaaGenC
import Derived.Test.YtamfapmkdojhcaaOpen
import Derived.Test.YtamfapmkdojhcaaOpenBools
namespace Go.Proofs.Ytamfapmkdojhcaa
open Go.RowKit Go.ChangeShapes Go.WideShapes
section
variable {H : Type} {enc : TypeId × Value → H} {W : World} {spare : Nat → Bool} {held : Bool}
theorem at_field {P : Program} {n : Nat} {fs : Array Field} {cs : List Value} {xs : List (DataW H × List MemPlace)} (hf : ∀ (i : Nat) (f : Field), fs[i]? = some f → DataW.trod enc P W 0 spare held n f.type (List.take (P.cellsOf f.type) (List.drop f.offset cs)) = xs[i]?) (hlen : xs.length = fs.size) (i : Nat) (f : Field) (hi : fs[i]? = some f) (k : Nat) (hk : P.cellsOf f.type = k) : ∃ y, DataW.trod enc P W 0 spare held n f.type (List.take k (List.drop f.offset cs)) = some y := by
  have h := hf i f hi
  have hlt : i < fs.size := (Array.getElem?_eq_some_iff.1 hi).1
  rw [hk, List.getElem?_eq_getElem (by omega)] at h
  exact ⟨_, h⟩
set_option maxRecDepth 100000 in
theorem openI {fuel : Nat} {v : Value} {x : DataW H × List MemPlace} (h : DataW.trod enc Try.prog W 0 spare held fuel 23 [v] = some x) : ∃ A c zs, v = .slice A zs.length c ∧ RepL W v (.I zs) ∧ (Lf.I zs).fit := by
  obtain ⟨A, n, c, zs, rfl, hl, hn, hs, _⟩ := open_ints64 Try.underlying23 Try.underlying3 cellsInt h
  subst hl
  exact ⟨A, c, zs, rfl, ⟨A, c, rfl, hs⟩, hn⟩
set_option maxRecDepth 100000 in
theorem openB {fuel : Nat} {v : Value} {x : DataW H × List MemPlace} (h : DataW.trod enc Try.prog W 0 spare held fuel 24 [v] = some x) : ∃ A c zs, v = .slice A zs.length c ∧ RepL W v (.B zs) ∧ (Lf.B zs).fit := by
  obtain ⟨A, n, c, zs, rfl, hl, hn, hs⟩ := open_bools Try.underlying24 Try.underlying4 cellsBool h
  subst hl
  exact ⟨A, c, zs, rfl, ⟨A, c, rfl, hs⟩, hn⟩
end
theorem list3 {l : List Value} (h : l.length = 3) : ∃ c0 c1 c2 : Value, l = [c0, c1, c2] := by
  match l, h with
  | [c0, c1, c2], _ => exact ⟨c0, c1, c2, rfl⟩
theorem list5 {l : List Value} (h : l.length = 5) : ∃ c0 c1 c2 c3 c4 : Value, l = [c0, c1, c2, c3, c4] := by
  match l, h with
  | [c0, c1, c2, c3, c4], _ => exact ⟨c0, c1, c2, c3, c4, rfl⟩
theorem list2 {l : List Value} (h : l.length = 2) : ∃ c0 c1 : Value, l = [c0, c1] := by
  match l, h with
  | [c0, c1], _ => exact ⟨c0, c1, rfl⟩
set_option maxRecDepth 100000 in
theorem cellsLIrq : Try.prog.cellsOf 40 = 2 := by kernel_rfl
set_option maxRecDepth 100000 in
theorem opencIrq {H : Type} {enc : TypeId × Value → H} {W : World} {spare : Nat → Bool} {held : Bool} {fuel : Nat} {cs : List Value} {x : DataW H × List MemPlace} (h : DataW.trod enc Try.prog W 0 spare held fuel 40 cs = some x) :
    ∃ (vA0 : Option Addr) (vA1 : Option Addr) (vc0 : Nat) (vc1 : Nat) (d0 : List Int) (d1 : List Bool), cs = [.slice vA0 d0.length vc0, .slice vA1 d1.length vc1] ∧ RepA W [.slice vA0 d0.length vc0, .slice vA1 d1.length vc1] [Lf.I d0, Lf.B d1] ∧ FitA [Lf.I d0, Lf.B d1] := by
  obtain ⟨xs, n, _, rfl, hl, hlen, hf⟩ := DataW.trod_struct Try.underlying40 h
  obtain ⟨c0, c1, rfl⟩ := list2 (hl.trans cellsLIrq)
  obtain ⟨y0, h0⟩ : ∃ y, DataW.trod enc Try.prog W 0 spare held n 23 [c0] = some y := at_field hf hlen 0 _ rfl 1 cellsOfI
  obtain ⟨vA0, vc0, d0, e0, R0, G0⟩ := openI h0
  subst e0
  obtain ⟨y1, h1⟩ : ∃ y, DataW.trod enc Try.prog W 0 spare held n 24 [c1] = some y := at_field hf hlen 1 _ rfl 1 cellsOfB
  obtain ⟨vA1, vc1, d1, e1, R1, G1⟩ := openB h1
  subst e1
  refine ⟨vA0, vA1, vc0, vc1, d0, d1, rfl, ⟨R0, R1, trivial⟩, ?_⟩
  intro d hd
  simp only [List.mem_cons, List.not_mem_nil, or_false] at hd
  rcases hd with rfl | rfl
  · exact G0
  · exact G1
set_option maxRecDepth 100000 in
theorem openIrq {H : Type} {enc : TypeId × Value → H} {W : World} {r : Reach} {b0 : Nat} {v : Value} {d : DataW H} {p : List MemPlace} (hv : Value.okWide Try.prog W r b0 40 v) (h : DataW.Trod enc Try.prog W 0 (fun _ => true) true 40 v d p) :
    ∃ (vA0 : Option Addr) (vA1 : Option Addr) (vc0 : Nat) (vc1 : Nat) (d0 : List Int) (d1 : List Bool), v = .agg #[.slice vA0 d0.length vc0, .slice vA1 d1.length vc1] ∧ RepA W [.slice vA0 d0.length vc0, .slice vA1 d1.length vc1] [Lf.I d0, Lf.B d1] ∧ FitA [Lf.I d0, Lf.B d1] := by
  obtain ⟨cs, rfl, _⟩ := okWide_struct Try.underlying40 hv
  obtain ⟨fuel, hf⟩ := h
  obtain ⟨vA0, vA1, vc0, vc1, d0, d1, e, R, G⟩ := opencIrq hf
  refine ⟨vA0, vA1, vc0, vc1, d0, d1, ?_, R, G⟩
  congr 1
  apply Array.ext'
  simpa [Value.cells] using e
end Go.Proofs.Ytamfapmkdojhcaa
