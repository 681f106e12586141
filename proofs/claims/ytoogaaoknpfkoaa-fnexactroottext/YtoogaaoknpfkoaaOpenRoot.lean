/- A root that came in, opened. -/
import Derived.Test.YtoogaaoknpfkoaaOpen
namespace Go.Proofs.Ytoogaaoknpfkoaa
open Go.RowKit Go.ChangeShapes Go.WideShapes

set_option maxRecDepth 100000 in
theorem cellsLR : Try.prog.cellsOf 54 = 2 := by kernel_rfl
set_option maxRecDepth 100000 in
theorem open_root {H : Type} {enc : TypeId × Value → H} {W : World} {r : Reach} {b0 : Nat} {v : Value} {d : DataW H} {p : List MemPlace}
    (hv : Value.okWide Try.prog W r b0 54 v) (h : DataW.Trod enc Try.prog W 0 (fun _ => true) true 54 v d p) :
    ∃ (g : Int) (A : Option Addr) (n c : Nat) (zs : List Int), v = .agg #[.int .i64 g, .slice A n c] ∧ zs.length = n ∧ n ≤ maxLen ∧ IntL W A zs ∧ (Lit.int .i64 g).wf = true := by
  obtain ⟨v0, v1, y0, y1, k, rfl, _, _, h0, h1⟩ := Joins.open_agg2 Try.underlying54 (by kernel_rfl) cellsLR hv h
  obtain ⟨g, hg, _, wg⟩ := DataW.trod_int Try.underlying3 h0
  injection hg with hg _
  subst hg
  obtain ⟨A, n, c, zs, rfl, hl, hn, hs, _⟩ := open_ints64 Try.underlying36 Try.underlying3 cellsInt h1
  exact ⟨g, A, n, c, zs, rfl, hl, hn, hs, wg⟩
end Go.Proofs.Ytoogaaoknpfkoaa
