/- The model's bus cycle in the states that do more: a command, autoselect, programming, protecting, erasing. -/
import Derived.Test.YtophgbjbinaekaaDoorFlashWrite
namespace Go.Proofs.YtophgbjbinaekaaDoor
open Go.RowKit

theorem opened (A C : Option Addr) (c d : Nat) (w : World) :
    ∃ W, W = ((w.alloc (.cells #[.slice A 256 c, .slice C 16 d, .int .i64 0] 30)).alloc (.cells #[.slice none 0 0, .slice none 0 0, .int .i64 0] 30)) ∧ Below w.heap.size w W ∧ Box W w.heap.size 30 #[.slice A 256 c, .slice C 16 d, .int .i64 0] ∧ Box W (w.heap.size + 1) 30 #[.slice none 0 0, .slice none 0 0, .int .i64 0] := by
  have X0 := (Box.new w 30 #[.slice A 256 c, .slice C 16 d, .int .i64 0]).alloc (.cells #[.slice none 0 0, .slice none 0 0, .int .i64 0] 30)
  have Y0 := Box.new (w.alloc (.cells #[.slice A 256 c, .slice C 16 d, .int .i64 0] 30)) 30 #[.slice none 0 0, .slice none 0 0, .int .i64 0]
  have hs : (w.alloc (.cells #[.slice A 256 c, .slice C 16 d, .int .i64 0] 30)).heap.size = w.heap.size + 1 := by simp
  rw [hs] at Y0
  exact ⟨_, rfl, bt (alloc_below _ _) (alloc_below _ _), X0, Y0⟩

end Go.Proofs.YtophgbjbinaekaaDoor
