/- A flash that came in, opened. -/
import Derived.Test.YthobepmlopegbaaFlash
import Derived.Test.YthobepmlopegbaaOpen
import Derived.Test.YthobepmlopegbaaOpenBools
namespace Go.Proofs.Ythobepmlopegbaa
open Go.RowKit Go.ChangeShapes Go.WideShapes

set_option maxRecDepth 100000 in
theorem cellsLF : Try.prog.cellsOf 42 = 3 := by kernel_rfl
set_option maxRecDepth 100000 in
theorem open_flash {H : Type} {enc : TypeId × Value → H} {W : World} {r : Reach} {b0 : Nat} {v : Value} {d : DataW H} {p : List MemPlace}
    (hv : Value.okWide Try.prog W r b0 42 v) (h : DataW.Trod enc Try.prog W 0 (fun _ => true) true 42 v d p) :
    ∃ (A : Option Addr) (n c : Nat) (C : Option Addr) (m d : Nat) (st : Int) (zs : List Int) (gs : List Bool), v = .agg #[.slice A n c, .slice C m d, .int .i64 st] ∧ zs.length = n ∧ gs.length = m ∧ n ≤ maxLen ∧ m ≤ maxLen ∧ IntL W A zs ∧ BoolL W C gs ∧ (Lit.int .i64 st).wf = true := by
  obtain ⟨v0, v1, v2, y0, y1, y2, k, rfl, _, _, h0, h1, h2⟩ := Joins.open_agg3 Try.underlying42 (by kernel_rfl) cellsLF hv h
  obtain ⟨g, hg, _, wg⟩ := DataW.trod_int Try.underlying3 h2
  injection hg with hg _
  subst hg
  obtain ⟨A, n, c, zs, rfl, hl, hn, hs, _⟩ := open_ints64 Try.underlying23 Try.underlying3 cellsInt h0
  obtain ⟨C, m, d, gs, rfl, hm, hmm, hg⟩ := open_bools Try.underlying24 Try.underlying4 cellsBool h1
  exact ⟨A, n, c, C, m, d, g, zs, gs, rfl, hl, hm, hn, hmm, hs, hg, wg⟩
end Go.Proofs.Ythobepmlopegbaa
