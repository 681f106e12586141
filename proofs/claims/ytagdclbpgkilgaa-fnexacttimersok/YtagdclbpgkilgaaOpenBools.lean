/- A []bool that came in, opened. -/
import Derived.Test.YtagdclbpgkilgaaBools
import Derived.Test.YtagdclbpgkilgaaOpen
namespace Go.Proofs.Ytagdclbpgkilgaa
open Go.RowKit Go.ChangeShapes Go.WideShapes

theorem open_bools {H : Type} {enc : TypeId × Value → H} {P : Program} {w : World} {spare : Nat → Bool} {held : Bool} {t e : TypeId} {fuel : Nat} {v : Value} {x : DataW H × List MemPlace} (ht : P.underlying t = some (.slice e)) (he : P.underlying e = some .bool) (hce : P.cellsOf e = 1)
    (h : DataW.trod enc P w 0 spare held fuel t [v] = some x) :
    ∃ A n c, ∃ gs : List Bool, v = .slice A n c ∧ gs.length = n ∧ n ≤ maxLen ∧ BoolL w A gs := by
  rcases Deep.open_slice1 ht hce h with ⟨hcs, _⟩ | ⟨a, len, cap, m, k, V, D, Pl, hcs, _, hl, hm, hmm, _, hx⟩
  · injection hcs with hv _
    exact ⟨none, 0, 0, [], hv, rfl, by unfold maxLen; omega, fun i hi => by simp at hi⟩
  · injection hcs with hv _
    have hlm : len ≤ m := by rw [hmm]; split <;> omega
    obtain ⟨S, hS⟩ := Deep.choose_lt (n := len) (p := fun i (s : Bool) => w.cell? (a.add i) = some (.bool s)) (fun i hi => by
      obtain ⟨h1, h2⟩ := hx i (by omega)
      obtain ⟨s, hc, _⟩ := DataW.trod_bool he h2
      injection hc with hc _
      exact ⟨s, by rw [h1, hc]⟩)
    refine ⟨some a, len, cap, (List.range len).map S, hv, by simp, by omega, fun i hi => ?_⟩
    have hi' : i < len := by simpa using hi
    have h0 := hS 0 (by omega)
    have hsp := World.cell?_spot h0
    obtain ⟨b, off, spot⟩ := a
    have hsp' : spot = none := by simpa [Addr.add] using hsp
    subst hsp'
    have hc := add_plain (hS i hi') rfl
    exact ⟨b, off, rfl, by rw [getD_range len S _ i hi']; exact hc⟩
set_option maxRecDepth 100000 in
theorem cellsBool : Try.prog.cellsOf 4 = 1 := by kernel_rfl
set_option maxRecDepth 100000 in
theorem cellsOfI : Try.prog.cellsOf 23 = 1 := by kernel_rfl
set_option maxRecDepth 100000 in
theorem cellsOfB : Try.prog.cellsOf 24 = 1 := by kernel_rfl
end Go.Proofs.Ytagdclbpgkilgaa
