/- A []byte that came in, opened: its bytes as numbers below 256, in a block that is there. -/
import Derived.Test.YtagdclbpgkilgaaOpen
import Derived.Test.YtagdclbpgkilgaaSrc
namespace Go.Proofs.Ytagdclbpgkilgaa
open Go.RowKit Go.ChangeShapes Go.WideShapes

theorem open_bytes {H : Type} {enc : TypeId × Value → H} {P : Program} {w : World} {spare : Nat → Bool} {held : Bool} {t e : TypeId} {fuel : Nat} {v : Value} {x : DataW H × List MemPlace} (ht : P.underlying t = some (.slice e)) (he : P.underlying e = some (.int .u8)) (hce : P.cellsOf e = 1)
    (h : DataW.trod enc P w 0 spare held fuel t [v] = some x) :
    ∃ A n c, ∃ zs : List Nat, v = .slice A n c ∧ zs.length = n ∧ n ≤ maxLen ∧ ByB w w.heap.size A zs := by
  rcases Deep.open_slice1 ht hce h with ⟨hcs, _⟩ | ⟨a, len, cap, m, k, V, D, Pl, hcs, _, hl, hm, hmm, _, hx⟩
  · injection hcs with hv _
    exact ⟨none, 0, 0, [], hv, rfl, by unfold maxLen; omega, fun i hi => by simp at hi⟩
  · injection hcs with hv _
    have hlm : len ≤ m := by rw [hmm]; split <;> omega
    obtain ⟨S, hS⟩ := Deep.choose_lt (n := len) (p := fun i (s : Nat) => w.cell? (a.add i) = some (.int .u8 (s : Int)) ∧ s < 256) (fun i hi => by
      obtain ⟨h1, h2⟩ := hx i (by omega)
      obtain ⟨s, hc, _, hs⟩ := DataW.trod_int he h2
      injection hc with hc _
      have hr : 0 ≤ s ∧ s < 256 := by
        have hs' : decide (IntKind.u8.min ≤ s) && decide (s ≤ IntKind.u8.max) := hs
        rw [Bool.and_eq_true, decide_eq_true_eq, decide_eq_true_eq] at hs'
        have e1 : IntKind.u8.min = 0 := by decide
        have e2 : IntKind.u8.max = 255 := by decide
        rw [e1, e2] at hs'
        omega
      exact ⟨s.toNat, by rw [h1, hc, Int.toNat_of_nonneg hr.1], by omega⟩)
    refine ⟨some a, len, cap, (List.range len).map S, hv, by simp, by omega, fun i hi => ?_⟩
    have hi' : i < len := by simpa using hi
    have h0 := (hS 0 (by omega)).1
    have hsp := World.cell?_spot h0
    obtain ⟨b, off, spot⟩ := a
    have hsp' : spot = none := by simpa [Addr.add] using hsp
    subst hsp'
    have hc := add_plain (hS i hi').1 rfl
    refine ⟨b, off, rfl, cell_lt hc, ?_, ?_⟩
    · rw [getD_range len S _ i hi']; exact hc
    · rw [getD_range len S _ i hi']; exact (hS i hi').2
set_option maxRecDepth 100000 in
theorem cellsU8 : Try.prog.cellsOf 5 = 1 := by kernel_rfl
end Go.Proofs.Ytagdclbpgkilgaa
