/- Contracts of both NewDisk. -/
import Derived.Test.YtoogaaoknpfkoaaToDisk
namespace Go.Proofs.Ytoogaaoknpfkoaa
open Go.RowKit

def zeros48 : Array Value := madeCells #[.string ByteArray.empty] 48
def newSs : List ByteArray := List.replicate 48 ByteArray.empty
set_option maxRecDepth 100000 in
theorem make48 (W : World) : (Instr.makeSlice 23 (.int .i64 48) (.int .i64 48)).run Try.prog W = .ok (.slice (some ⟨W.heap.size, 0, none⟩) 48 48) (W.alloc (.cells zeros48 9)) :=
  run_make_row' (P := Try.prog) 23 9 (.string ByteArray.empty) 16 Try.underlying23 infoS rfl .i64 .i64 48 (by omega) (by omega) W
theorem newSs_at (i : Nat) (h : i < 48) : newSs.getD i ByteArray.empty = ByteArray.empty := by
  unfold newSs
  rw [List.getD_eq_getElem?_getD, List.getElem?_replicate, if_pos h]; rfl
theorem newSs_len : newSs.length = 48 := by unfold newSs; rw [List.length_replicate]
theorem row48 (W : World) : (W.alloc (.cells zeros48 9)).rowIs W.heap.size 9 48 (fun i => .string (newSs.getD i ByteArray.empty)) :=
  (World.rowIs_made W (.string ByteArray.empty) 48 9).congr (fun i hi => by rw [newSs_at i hi])

set_option maxRecDepth 100000 in
theorem specNew (w : World) : Calls Try.prog 132 #[] w (GivesDisk newSs [] w) := by
  have hmk := make48
  go_enter Try.func132, Try.ntmps132
  go_wp2
  refine bodyPost_ret (v := .agg #[.slice (some ⟨w.heap.size + 1, 0, none⟩) 48 48, .slice (some ⟨w.heap.size + 1 + 1, 0, none⟩) 0 0]) (by simp [results, Try.results132, go_sem]) rfl ?_
  refine ⟨_, _, _, _, _, _, rfl, Lib.hid newSs_len, Lib.hid rfl, Lib.hid ?_, Lib.hid (.inl rfl), (((Below.refl _ _).alloc (Nat.le_refl _) _).alloc (by simp) _).alloc (by simp; omega) _⟩
  have hr := (row48 (w.alloc (.cells #[.slice (some ⟨w.heap.size + 1, 0, none⟩) 48 48, .slice (some ⟨w.heap.size + 1 + 1, 0, none⟩) 0 0] 26))).alloc (.cells #[] 90)
  rw [World.size_alloc] at hr
  exact own_of_rowS newSs_len hr (by omega) (by first | (simp; done) | (simp; omega))
set_option maxRecDepth 100000 in
theorem implNew (w : World) : Calls Try.prog 109 #[] w (GivesDisk newSs [] w) := by
  have hmk := make48
  go_enter Try.func109, Try.ntmps109
  go_wp2
  refine bodyPost_ret (v := .agg #[.slice (some ⟨w.heap.size + 1, 0, none⟩) 48 48, .slice none 0 0]) (by simp [results, Try.results109, go_sem]) rfl ?_
  refine ⟨_, _, _, _, _, _, rfl, Lib.hid newSs_len, Lib.hid rfl, Lib.hid ?_, Lib.hid (.inl rfl), ((Below.refl _ _).alloc (Nat.le_refl _) _).alloc (by simp) _⟩
  have hr := row48 (w.alloc (.cells #[.slice (some ⟨w.heap.size + 1, 0, none⟩) 48 48, .slice none 0 0] 26))
  rw [World.size_alloc] at hr
  exact own_of_rowS newSs_len hr (by omega) (by first | (simp; done) | (simp; omega))
end Go.Proofs.Ytoogaaoknpfkoaa
