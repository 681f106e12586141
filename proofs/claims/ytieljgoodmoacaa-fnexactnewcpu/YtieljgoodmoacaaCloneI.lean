/- slices.Clone of a row of ints that is not empty; the chip's read. -/
import Derived.Test.YtieljgoodmoacaaMemOk
import Derived.Lib.SliceRun
namespace Go.Proofs.Ytieljgoodmoacaa
open Go.RowKit

/-- A row of the call's own. -/
def GivesRow (n : Nat) (zs : List Int) (w : World) (e : Ending) (w' : World) : Prop :=
  ∃ A c, e = .returned (.slice A n c) ∧ Hid (OwnI w' w.heap.size w'.heap.size A zs) ∧ Below w.heap.size w w'

set_option maxRecDepth 100000 in
set_option maxHeartbeats 1000000 in
theorem cloneI (A : Option Addr) (n c : Nat) (zs : List Int) (w : World) (hl : zs.length = n) (hn : 0 < n) (hn2 : n ≤ 256) (h : IntL w A zs) :
    Calls Try.prog 68 #[.slice A n c] w (GivesRow n zs w) := by
  obtain ⟨ad, rfl, -⟩ := h.src (by omega)
  have HS := Lib.hid (fun W (hb : Below w.heap.size w W) => (h.below hb).src (by omega))
  have HC : Hid ((cellsI zs).length = n * 1) := Lib.hid (by rw [cellsI_len]; omega)
  have hba := alloc_below w (.cells #[] 3)
  have hnil : ∀ W : World, (binOp .eql 22 (.slice (some ad) n c) (.slice none 0 0)).run Try.prog W = .ok (.bool false) W := fun W => Lib.run_eql_slice_nil W _ _ (some ad) n c 0 0 Try.underlying22
  clear hl h
  go_enter Try.func68, Try.ntmps68
  go_wp2_with (first | (with_reducible refine wpList_app_fresh rfl (.tmp 5) (.tmp 6) 22 rfl 3 (.int .i64 0) 1 8 Try.underlying22 infoIx rfl (by decide) _ rfl (some ad) n c hn (cellsI zs) rfl HC.out (HS.out _ hba) (by unfold maxLen; omega) (by omega) ?_))
  intro A1 c1 w1 hb1 O1
  have hk1 := hba.trans (hb1.mono (by omega))
  have S1 := Lib.hid (ownI_fresh (lo := w.heap.size) O1.out hn (by omega))
  clear HS HC hba hb1 O1
  go_wp2
  go_ret
  exact ⟨_, _, rfl, S1, hk1⟩
end Go.Proofs.Ytieljgoodmoacaa
