/- What came in, opened into leaves. Written by gen_open.py. -/
import Derived.Test.YtophgbjbinaekaaGreatDoorM4
import Derived.Test.YtophgbjbinaekaaGreatDoorM5
import Derived.Test.YtophgbjbinaekaaGreatDoorM6
namespace Go.Proofs.YtophgbjbinaekaaGreatDoor
open Go.RowKit Go.ChangeShapes Go.WideShapes
section
variable {H : Type} {enc : TypeId × Value → H} {W : World} {spare : Nat → Bool} {held : Bool}
theorem at_field {P : Program} {n : Nat} {fs : Array Field} {cs : List Value} {xs : List (DataW H × List MemPlace)} (hf : ∀ (i : Nat) (f : Field), fs[i]? = some f → DataW.trod enc P W 0 spare held n f.type (List.take (P.cellsOf f.type) (List.drop f.offset cs)) = xs[i]?) (hlen : xs.length = fs.size) (i : Nat) (f : Field) (hi : fs[i]? = some f) (k : Nat) (hk : P.cellsOf f.type = k) : ∃ y, DataW.trod enc P W 0 spare held n f.type (List.take k (List.drop f.offset cs)) = some y := by
  have h := hf i f hi
  have hlt : i < fs.size := (Array.getElem?_eq_some_iff.1 hi).1
  rw [hk, List.getElem?_eq_getElem (by omega)] at h
  exact ⟨_, h⟩
set_option maxRecDepth 100000 in
theorem openI {fuel : Nat} {v : Value} {x : DataW H × List MemPlace} (h : DataW.trod enc Tryz.prog W 0 spare held fuel 23 [v] = some x) : ∃ A c zs, v = .slice A zs.length c ∧ RepL W v (.I zs) ∧ (Lf.I zs).fit := by
  obtain ⟨A, n, c, zs, rfl, hl, hn, hs, _⟩ := open_ints64 Tryz.underlying23 Tryz.underlying3 cellsInt h
  subst hl
  exact ⟨A, c, zs, rfl, ⟨A, c, rfl, hs⟩, hn⟩
set_option maxRecDepth 100000 in
theorem openB {fuel : Nat} {v : Value} {x : DataW H × List MemPlace} (h : DataW.trod enc Tryz.prog W 0 spare held fuel 27 [v] = some x) : ∃ A c zs, v = .slice A zs.length c ∧ RepL W v (.B zs) ∧ (Lf.B zs).fit := by
  obtain ⟨A, n, c, zs, rfl, hl, hn, hs⟩ := open_bools Tryz.underlying27 Tryz.underlying4 cellsBool h
  subst hl
  exact ⟨A, c, zs, rfl, ⟨A, c, rfl, hs⟩, hn⟩
end
theorem list3 {l : List Value} (h : l.length = 3) : ∃ c0 c1 c2 : Value, l = [c0, c1, c2] := by
  match l, h with
  | [c0, c1, c2], _ => exact ⟨c0, c1, c2, rfl⟩
set_option maxRecDepth 100000 in
theorem cellsLFlash : Tryz.prog.cellsOf 45 = 3 := by kernel_rfl
set_option maxRecDepth 100000 in
theorem opencFlash {H : Type} {enc : TypeId × Value → H} {W : World} {spare : Nat → Bool} {held : Bool} {fuel : Nat} {cs : List Value} {x : DataW H × List MemPlace} (h : DataW.trod enc Tryz.prog W 0 spare held fuel 45 cs = some x) :
    ∃ (vA0 : Option Addr) (vA1 : Option Addr) (vc0 : Nat) (vc1 : Nat) (d0 : List Int) (d1 : List Bool) (d2 : Int), cs = [.slice vA0 d0.length vc0, .slice vA1 d1.length vc1, .int .i64 d2] ∧ RepA W [.slice vA0 d0.length vc0, .slice vA1 d1.length vc1] [Lf.I d0, Lf.B d1] ∧ FitA [Lf.I d0, Lf.B d1] := by
  obtain ⟨xs, n, _, rfl, hl, hlen, hf⟩ := DataW.trod_struct Tryz.underlying45 h
  obtain ⟨c0, c1, c2, rfl⟩ := list3 (hl.trans cellsLFlash)
  obtain ⟨y0, h0⟩ : ∃ y, DataW.trod enc Tryz.prog W 0 spare held n 23 [c0] = some y := at_field hf hlen 0 _ rfl 1 cellsOfI
  obtain ⟨vA0, vc0, d0, e0, R0, G0⟩ := openI h0
  subst e0
  obtain ⟨y1, h1⟩ : ∃ y, DataW.trod enc Tryz.prog W 0 spare held n 27 [c1] = some y := at_field hf hlen 1 _ rfl 1 cellsOfB
  obtain ⟨vA1, vc1, d1, e1, R1, G1⟩ := openB h1
  subst e1
  obtain ⟨y2, h2⟩ : ∃ y, DataW.trod enc Tryz.prog W 0 spare held n 3 [c2] = some y := at_field hf hlen 2 _ rfl 1 cellsInt
  obtain ⟨d2, e2, _, _⟩ := DataW.trod_int Tryz.underlying3 h2
  injection e2 with e2 _
  subst e2
  refine ⟨vA0, vA1, vc0, vc1, d0, d1, d2, rfl, ⟨R0, R1, trivial⟩, ?_⟩
  intro d hd
  simp only [List.mem_cons, List.not_mem_nil, or_false] at hd
  rcases hd with rfl | rfl
  · exact G0
  · exact G1
theorem list5 {l : List Value} (h : l.length = 5) : ∃ c0 c1 c2 c3 c4 : Value, l = [c0, c1, c2, c3, c4] := by
  match l, h with
  | [c0, c1, c2, c3, c4], _ => exact ⟨c0, c1, c2, c3, c4, rfl⟩
set_option maxRecDepth 100000 in
theorem cellsLMem : Tryz.prog.cellsOf 47 = 5 := by kernel_rfl
set_option maxRecDepth 100000 in
theorem opencMem {H : Type} {enc : TypeId × Value → H} {W : World} {spare : Nat → Bool} {held : Bool} {fuel : Nat} {cs : List Value} {x : DataW H × List MemPlace} (h : DataW.trod enc Tryz.prog W 0 spare held fuel 47 cs = some x) :
    ∃ (vA0 : Option Addr) (vA1 : Option Addr) (vA2 : Option Addr) (vA3 : Option Addr) (vc0 : Nat) (vc1 : Nat) (vc2 : Nat) (vc3 : Nat) (d0 : List Int) (d1 : List Int) (d2 : List Int) (d3 : List Bool) (d4 : Int), cs = [.slice vA0 d0.length vc0, .slice vA1 d1.length vc1, .slice vA2 d2.length vc2, .slice vA3 d3.length vc3, .int .i64 d4] ∧ RepA W [.slice vA0 d0.length vc0, .slice vA1 d1.length vc1, .slice vA2 d2.length vc2, .slice vA3 d3.length vc3] [Lf.I d0, Lf.I d1, Lf.I d2, Lf.B d3] ∧ FitA [Lf.I d0, Lf.I d1, Lf.I d2, Lf.B d3] := by
  obtain ⟨xs, n, _, rfl, hl, hlen, hf⟩ := DataW.trod_struct Tryz.underlying47 h
  obtain ⟨c0, c1, c2, c3, c4, rfl⟩ := list5 (hl.trans cellsLMem)
  obtain ⟨y0, h0⟩ : ∃ y, DataW.trod enc Tryz.prog W 0 spare held n 23 [c0] = some y := at_field hf hlen 0 _ rfl 1 cellsOfI
  obtain ⟨vA0, vc0, d0, e0, R0, G0⟩ := openI h0
  subst e0
  obtain ⟨y1, h1⟩ : ∃ y, DataW.trod enc Tryz.prog W 0 spare held n 23 [c1] = some y := at_field hf hlen 1 _ rfl 1 cellsOfI
  obtain ⟨vA1, vc1, d1, e1, R1, G1⟩ := openI h1
  subst e1
  obtain ⟨y2, h2⟩ : ∃ y, DataW.trod enc Tryz.prog W 0 spare held n 45 [c2, c3, c4] = some y := at_field hf hlen 2 _ rfl 3 cellsLFlash
  obtain ⟨vA2, vA3, vc2, vc3, d2, d3, d4, e2, R2, G2⟩ := opencFlash h2
  simp only [List.cons.injEq, and_true] at e2
  obtain ⟨rfl, rfl, rfl⟩ := e2
  refine ⟨vA0, vA1, vA2, vA3, vc0, vc1, vc2, vc3, d0, d1, d2, d3, d4, rfl, ⟨R0, R1, R2.1, R2.2.1, trivial⟩, ?_⟩
  intro d hd
  simp only [List.mem_cons, List.not_mem_nil, or_false] at hd
  rcases hd with rfl | rfl | rfl | rfl
  · exact G0
  · exact G1
  · exact G2 _ (by simp)
  · exact G2 _ (by simp)
set_option maxRecDepth 100000 in
theorem openMem {H : Type} {enc : TypeId × Value → H} {W : World} {r : Reach} {b0 : Nat} {v : Value} {d : DataW H} {p : List MemPlace} (hv : Value.okWide Tryz.prog W r b0 47 v) (h : DataW.Trod enc Tryz.prog W 0 (fun _ => true) true 47 v d p) :
    ∃ (vA0 : Option Addr) (vA1 : Option Addr) (vA2 : Option Addr) (vA3 : Option Addr) (vc0 : Nat) (vc1 : Nat) (vc2 : Nat) (vc3 : Nat) (d0 : List Int) (d1 : List Int) (d2 : List Int) (d3 : List Bool) (d4 : Int), v = .agg #[.slice vA0 d0.length vc0, .slice vA1 d1.length vc1, .slice vA2 d2.length vc2, .slice vA3 d3.length vc3, .int .i64 d4] ∧ RepA W [.slice vA0 d0.length vc0, .slice vA1 d1.length vc1, .slice vA2 d2.length vc2, .slice vA3 d3.length vc3] [Lf.I d0, Lf.I d1, Lf.I d2, Lf.B d3] ∧ FitA [Lf.I d0, Lf.I d1, Lf.I d2, Lf.B d3] := by
  obtain ⟨cs, rfl, _⟩ := okWide_struct Tryz.underlying47 hv
  obtain ⟨fuel, hf⟩ := h
  obtain ⟨vA0, vA1, vA2, vA3, vc0, vc1, vc2, vc3, d0, d1, d2, d3, d4, e, R, G⟩ := opencMem hf
  refine ⟨vA0, vA1, vA2, vA3, vc0, vc1, vc2, vc3, d0, d1, d2, d3, d4, ?_, R, G⟩
  congr 1
  apply Array.ext'
  simpa [Value.cells] using e
theorem list9 {l : List Value} (h : l.length = 9) : ∃ c0 c1 c2 c3 c4 c5 c6 c7 c8 : Value, l = [c0, c1, c2, c3, c4, c5, c6, c7, c8] := by
  match l, h with
  | [c0, c1, c2, c3, c4, c5, c6, c7, c8], _ => exact ⟨c0, c1, c2, c3, c4, c5, c6, c7, c8, rfl⟩
set_option maxRecDepth 100000 in
theorem cellsLCpu : Tryz.prog.cellsOf 44 = 9 := by kernel_rfl
set_option maxRecDepth 100000 in
theorem opencCpu {H : Type} {enc : TypeId × Value → H} {W : World} {spare : Nat → Bool} {held : Bool} {fuel : Nat} {cs : List Value} {x : DataW H × List MemPlace} (h : DataW.trod enc Tryz.prog W 0 spare held fuel 44 cs = some x) :
    ∃ (vA8 : Option Addr) (vc8 : Nat) (d0 : Int) (d1 : Int) (d2 : Int) (d3 : Int) (d4 : Bool) (d5 : Bool) (d6 : Bool) (d7 : Bool) (d8 : List Int), cs = [.int .i64 d0, .int .i64 d1, .int .i64 d2, .int .i64 d3, .bool d4, .bool d5, .bool d6, .bool d7, .slice vA8 d8.length vc8] ∧ RepA W [.slice vA8 d8.length vc8] [Lf.I d8] ∧ FitA [Lf.I d8] := by
  obtain ⟨xs, n, _, rfl, hl, hlen, hf⟩ := DataW.trod_struct Tryz.underlying44 h
  obtain ⟨c0, c1, c2, c3, c4, c5, c6, c7, c8, rfl⟩ := list9 (hl.trans cellsLCpu)
  obtain ⟨y0, h0⟩ : ∃ y, DataW.trod enc Tryz.prog W 0 spare held n 3 [c0] = some y := at_field hf hlen 0 _ rfl 1 cellsInt
  obtain ⟨d0, e0, _, _⟩ := DataW.trod_int Tryz.underlying3 h0
  injection e0 with e0 _
  subst e0
  obtain ⟨y1, h1⟩ : ∃ y, DataW.trod enc Tryz.prog W 0 spare held n 3 [c1] = some y := at_field hf hlen 1 _ rfl 1 cellsInt
  obtain ⟨d1, e1, _, _⟩ := DataW.trod_int Tryz.underlying3 h1
  injection e1 with e1 _
  subst e1
  obtain ⟨y2, h2⟩ : ∃ y, DataW.trod enc Tryz.prog W 0 spare held n 3 [c2] = some y := at_field hf hlen 2 _ rfl 1 cellsInt
  obtain ⟨d2, e2, _, _⟩ := DataW.trod_int Tryz.underlying3 h2
  injection e2 with e2 _
  subst e2
  obtain ⟨y3, h3⟩ : ∃ y, DataW.trod enc Tryz.prog W 0 spare held n 3 [c3] = some y := at_field hf hlen 3 _ rfl 1 cellsInt
  obtain ⟨d3, e3, _, _⟩ := DataW.trod_int Tryz.underlying3 h3
  injection e3 with e3 _
  subst e3
  obtain ⟨y4, h4⟩ : ∃ y, DataW.trod enc Tryz.prog W 0 spare held n 4 [c4] = some y := at_field hf hlen 4 _ rfl 1 cellsBool
  obtain ⟨d4, e4, _⟩ := DataW.trod_bool Tryz.underlying4 h4
  injection e4 with e4 _
  subst e4
  obtain ⟨y5, h5⟩ : ∃ y, DataW.trod enc Tryz.prog W 0 spare held n 4 [c5] = some y := at_field hf hlen 5 _ rfl 1 cellsBool
  obtain ⟨d5, e5, _⟩ := DataW.trod_bool Tryz.underlying4 h5
  injection e5 with e5 _
  subst e5
  obtain ⟨y6, h6⟩ : ∃ y, DataW.trod enc Tryz.prog W 0 spare held n 4 [c6] = some y := at_field hf hlen 6 _ rfl 1 cellsBool
  obtain ⟨d6, e6, _⟩ := DataW.trod_bool Tryz.underlying4 h6
  injection e6 with e6 _
  subst e6
  obtain ⟨y7, h7⟩ : ∃ y, DataW.trod enc Tryz.prog W 0 spare held n 4 [c7] = some y := at_field hf hlen 7 _ rfl 1 cellsBool
  obtain ⟨d7, e7, _⟩ := DataW.trod_bool Tryz.underlying4 h7
  injection e7 with e7 _
  subst e7
  obtain ⟨y8, h8⟩ : ∃ y, DataW.trod enc Tryz.prog W 0 spare held n 23 [c8] = some y := at_field hf hlen 8 _ rfl 1 cellsOfI
  obtain ⟨vA8, vc8, d8, e8, R8, G8⟩ := openI h8
  subst e8
  refine ⟨vA8, vc8, d0, d1, d2, d3, d4, d5, d6, d7, d8, rfl, ⟨R8, trivial⟩, ?_⟩
  intro d hd
  simp only [List.mem_cons, List.not_mem_nil, or_false] at hd
  rcases hd with rfl
  · exact G8
set_option maxRecDepth 100000 in
theorem openCpu {H : Type} {enc : TypeId × Value → H} {W : World} {r : Reach} {b0 : Nat} {v : Value} {d : DataW H} {p : List MemPlace} (hv : Value.okWide Tryz.prog W r b0 44 v) (h : DataW.Trod enc Tryz.prog W 0 (fun _ => true) true 44 v d p) :
    ∃ (vA8 : Option Addr) (vc8 : Nat) (d0 : Int) (d1 : Int) (d2 : Int) (d3 : Int) (d4 : Bool) (d5 : Bool) (d6 : Bool) (d7 : Bool) (d8 : List Int), v = .agg #[.int .i64 d0, .int .i64 d1, .int .i64 d2, .int .i64 d3, .bool d4, .bool d5, .bool d6, .bool d7, .slice vA8 d8.length vc8] ∧ RepA W [.slice vA8 d8.length vc8] [Lf.I d8] ∧ FitA [Lf.I d8] := by
  obtain ⟨cs, rfl, _⟩ := okWide_struct Tryz.underlying44 hv
  obtain ⟨fuel, hf⟩ := h
  obtain ⟨vA8, vc8, d0, d1, d2, d3, d4, d5, d6, d7, d8, e, R, G⟩ := opencCpu hf
  refine ⟨vA8, vc8, d0, d1, d2, d3, d4, d5, d6, d7, d8, ?_, R, G⟩
  congr 1
  apply Array.ext'
  simpa [Value.cells] using e
end Go.Proofs.YtophgbjbinaekaaGreatDoor
