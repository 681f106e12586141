/- What came in, opened into leaves. Written by gen_open.py. -/
import Derived.Test.YtagdclbpgkilgaaGenC
import Derived.Test.YtagdclbpgkilgaaGenRChannel
import Derived.Test.YtagdclbpgkilgaaGenRTimer
import Derived.Test.YtagdclbpgkilgaaOpen
import Derived.Test.YtagdclbpgkilgaaOpenBools
namespace Go.Proofs.Ytagdclbpgkilgaa
open Go.RowKit Go.ChangeShapes Go.WideShapes
section
variable {H : Type} {enc : TypeId × Value → H} {W : World} {spare : Nat → Bool} {held : Bool}
theorem at_field {P : Program} {n : Nat} {fs : Array Field} {cs : List Value} {xs : List (DataW H × List MemPlace)} (hf : ∀ (i : Nat) (f : Field), fs[i]? = some f → DataW.trod enc P W 0 spare held n f.type (List.take (P.cellsOf f.type) (List.drop f.offset cs)) = xs[i]?) (hlen : xs.length = fs.size) (i : Nat) (f : Field) (hi : fs[i]? = some f) (k : Nat) (hk : P.cellsOf f.type = k) : ∃ y, DataW.trod enc P W 0 spare held n f.type (List.take k (List.drop f.offset cs)) = some y := by
  have h := hf i f hi
  have hlt : i < fs.size := (Array.getElem?_eq_some_iff.1 hi).1
  rw [hk, List.getElem?_eq_getElem (by omega)] at h
  exact ⟨_, h⟩
set_option maxRecDepth 100000 in
theorem openI {fuel : Nat} {v : Value} {x : DataW H × List MemPlace} (h : DataW.trod enc Try.prog W 0 spare held fuel 23 [v] = some x) : ∃ A c zs, v = .slice A zs.length c ∧ RepL W v (.I zs) ∧ (Lf.I zs).fit := by
  obtain ⟨A, n, c, zs, rfl, hl, hn, hs, _⟩ := open_ints64 Try.underlying23 Try.underlying3 cellsInt h
  subst hl
  exact ⟨A, c, zs, rfl, ⟨A, c, rfl, hs⟩, hn⟩
set_option maxRecDepth 100000 in
theorem openB {fuel : Nat} {v : Value} {x : DataW H × List MemPlace} (h : DataW.trod enc Try.prog W 0 spare held fuel 24 [v] = some x) : ∃ A c zs, v = .slice A zs.length c ∧ RepL W v (.B zs) ∧ (Lf.B zs).fit := by
  obtain ⟨A, n, c, zs, rfl, hl, hn, hs⟩ := open_bools Try.underlying24 Try.underlying4 cellsBool h
  subst hl
  exact ⟨A, c, zs, rfl, ⟨A, c, rfl, hs⟩, hn⟩
end
theorem list3 {l : List Value} (h : l.length = 3) : ∃ c0 c1 c2 : Value, l = [c0, c1, c2] := by
  match l, h with
  | [c0, c1, c2], _ => exact ⟨c0, c1, c2, rfl⟩
theorem list5 {l : List Value} (h : l.length = 5) : ∃ c0 c1 c2 c3 c4 : Value, l = [c0, c1, c2, c3, c4] := by
  match l, h with
  | [c0, c1, c2, c3, c4], _ => exact ⟨c0, c1, c2, c3, c4, rfl⟩
theorem list2 {l : List Value} (h : l.length = 2) : ∃ c0 c1 : Value, l = [c0, c1] := by
  match l, h with
  | [c0, c1], _ => exact ⟨c0, c1, rfl⟩
theorem list9 {l : List Value} (h : l.length = 9) : ∃ c0 c1 c2 c3 c4 c5 c6 c7 c8 : Value, l = [c0, c1, c2, c3, c4, c5, c6, c7, c8] := by
  match l, h with
  | [c0, c1, c2, c3, c4, c5, c6, c7, c8], _ => exact ⟨c0, c1, c2, c3, c4, c5, c6, c7, c8, rfl⟩
theorem list4 {l : List Value} (h : l.length = 4) : ∃ c0 c1 c2 c3 : Value, l = [c0, c1, c2, c3] := by
  match l, h with
  | [c0, c1, c2, c3], _ => exact ⟨c0, c1, c2, c3, rfl⟩
set_option maxRecDepth 100000 in
theorem cellsLTimer : Try.prog.cellsOf 94 = 3 := by kernel_rfl
set_option maxRecDepth 100000 in
theorem opencTimer {H : Type} {enc : TypeId × Value → H} {W : World} {spare : Nat → Bool} {held : Bool} {fuel : Nat} {cs : List Value} {x : DataW H × List MemPlace} (h : DataW.trod enc Try.prog W 0 spare held fuel 94 cs = some x) :
    ∃ (d0 : Int) (d1 : Int) (d2 : Bool), cs = [.int .i64 d0, .int .i64 d1, .bool d2] ∧ RepA W [] [] ∧ FitA [] := by
  obtain ⟨xs, n, _, rfl, hl, hlen, hf⟩ := DataW.trod_struct Try.underlying94 h
  obtain ⟨c0, c1, c2, rfl⟩ := list3 (hl.trans cellsLTimer)
  obtain ⟨y0, h0⟩ : ∃ y, DataW.trod enc Try.prog W 0 spare held n 3 [c0] = some y := at_field hf hlen 0 _ rfl 1 cellsInt
  obtain ⟨d0, e0, _, _⟩ := DataW.trod_int Try.underlying3 h0
  injection e0 with e0 _
  subst e0
  obtain ⟨y1, h1⟩ : ∃ y, DataW.trod enc Try.prog W 0 spare held n 3 [c1] = some y := at_field hf hlen 1 _ rfl 1 cellsInt
  obtain ⟨d1, e1, _, _⟩ := DataW.trod_int Try.underlying3 h1
  injection e1 with e1 _
  subst e1
  obtain ⟨y2, h2⟩ : ∃ y, DataW.trod enc Try.prog W 0 spare held n 4 [c2] = some y := at_field hf hlen 2 _ rfl 1 cellsBool
  obtain ⟨d2, e2, _⟩ := DataW.trod_bool Try.underlying4 h2
  injection e2 with e2 _
  subst e2
  refine ⟨d0, d1, d2, rfl, trivial, ?_⟩
  intro d hd
  cases hd
set_option maxRecDepth 100000 in
theorem openTimer {H : Type} {enc : TypeId × Value → H} {W : World} {r : Reach} {b0 : Nat} {v : Value} {d : DataW H} {p : List MemPlace} (hv : Value.okWide Try.prog W r b0 94 v) (h : DataW.Trod enc Try.prog W 0 (fun _ => true) true 94 v d p) :
    ∃ (d0 : Int) (d1 : Int) (d2 : Bool), v = .agg #[.int .i64 d0, .int .i64 d1, .bool d2] ∧ RepA W [] [] ∧ FitA [] := by
  obtain ⟨cs, rfl, _⟩ := okWide_struct Try.underlying94 hv
  obtain ⟨fuel, hf⟩ := h
  obtain ⟨d0, d1, d2, e, R, G⟩ := opencTimer hf
  refine ⟨d0, d1, d2, ?_, R, G⟩
  congr 1
  apply Array.ext'
  simpa [Value.cells] using e
set_option maxRecDepth 100000 in
theorem openRTimer {H : Type} {enc : TypeId × Value → H} {W : World} {spare : Nat → Bool} {held : Bool} {fuel : Nat} {v : Value} {x : DataW H × List MemPlace} (h : DataW.trod enc Try.prog W 0 spare held fuel 55 [v] = some x) :
    ∃ A c rs, v = .slice A rs.length c ∧ RepL W v (rTimer rs) ∧ (rTimer rs).fit := by
  rcases Deep.open_slice Try.underlying55 h with ⟨hcs, _⟩ | ⟨a, len, cap, m, k, D, Pl, hcs, _, hl, hm, hmm, _, hx⟩
  · injection hcs with hv _
    exact ⟨none, 0, [], hv, by rw [hv]; exact rep_rTimer.2 ⟨rfl, fun i hi => by simp at hi⟩, by simp [rTimer, Lf.fit]⟩
  · injection hcs with hv _
    have hlm : len ≤ m := by rw [hmm]; split <;> omega
    rw [cellsLTimer] at hx
    obtain ⟨S, hS⟩ := Deep.choose_lt (n := len) (p := fun i (s : TTimer) => ∀ j, j < 3 → W.cell? ((a.add (i * 3)).add j) = some ((rowTimer s).getD j undef)) (fun i hi => by
      obtain ⟨cs, g1, g2⟩ := hx i (by omega)
      obtain ⟨_, hlen, hcell⟩ := World.cells?_some g1
      obtain ⟨d0, d1, d2, e, _, _⟩ := opencTimer g2
      subst e
      refine ⟨(d0, d1, d2), fun j hj => ?_⟩
      have hc := hcell j hj
      have hj' : j = 0 ∨ j = 1 ∨ j = 2 := by omega
      rcases hj' with rfl | rfl | rfl <;> simpa [rowTimer] using hc)
    have hrow : RowL W (some a) 3 (((List.range len).map S).map rowTimer) := fun i hi j hj => by
      have hi' : i < len := by simpa using hi
      have h0 := hS 0 (by omega) 0 (by decide)
      have hsp := World.cell?_spot h0
      obtain ⟨b, off, spot⟩ := a
      have hsp' : spot = none := by simpa [Addr.add] using hsp
      subst hsp'
      refine ⟨b, off, rfl, ?_⟩
      rw [rowTimer_at _ i (by simpa using hi'), getD_range len S _ i hi']
      have h1 := hS i hi' j hj
      rw [Deep.add_add] at h1
      have h2 := add_plain (b := b) (off := off) h1 rfl
      rwa [← Nat.add_assoc] at h2
    exact ⟨some a, cap, (List.range len).map S, by rw [hv]; simp, by rw [hv]; exact rep_rTimer.2 ⟨by simp, hrow⟩, by simp [rTimer, Lf.fit]; omega⟩
end Go.Proofs.Ytagdclbpgkilgaa
