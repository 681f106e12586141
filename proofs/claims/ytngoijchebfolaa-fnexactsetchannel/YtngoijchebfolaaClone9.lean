/- slices.Clone of four channels; NewDma and SetChannel on both sides. -/
import Derived.Test.YtngoijchebfolaaDmaOk
import Derived.Test.YtngoijchebfolaaRowsK
import Derived.Lib.SliceRun
namespace Go.Proofs.Ytngoijchebfolaa
open Go.RowKit

/-- Channels of the call's own. -/
def GivesRs (n : Nat) (rs : List TChannel) (w : World) (e : Ending) (w' : World) : Prop :=
  ∃ A c, e = .returned (.slice A n c) ∧ Hid (OwnChannel w' w.heap.size w'.heap.size A rs) ∧ Below w.heap.size w w'
def GivesRsCode (rs : List TChannel) (code : Int) (w : World) (e : Ending) (w' : World) : Prop :=
  ∃ A c, e = .returned (.tuple #[.slice A rs.length c, .int .i64 code]) ∧ Hid (OwnA w' w.heap.size w'.heap.size [.slice A rs.length c] [rChannel rs]) ∧ Below w.heap.size w w'

set_option maxRecDepth 100000 in
set_option maxHeartbeats 1000000 in
theorem cloneCh (A : Option Addr) (n c : Nat) (rs : List TChannel) (w : World) (hl : rs.length = n) (hn : 0 < n) (hn2 : n ≤ 4096) (h : RowChannel w A rs) :
    Calls Try.prog 43 #[.slice A n c] w (GivesRs n rs w) := by
  obtain ⟨ad, rfl, -⟩ := h.src (by omega)
  have HS := Lib.hid (fun W (hb : Below w.heap.size w W) => (h.below hb).src (by omega))
  have HC : Hid ((cellsCh rs).length = n * 4) := Lib.hid (by rw [cellsCh_len]; omega)
  have HL := Lib.hid hl
  have hba := alloc_below w (.cells #[] 36)
  have hnil : ∀ W : World, (binOp .eql 31 (.slice (some ad) n c) (.slice none 0 0)).run Try.prog W = .ok (.bool false) W := fun W => Lib.run_eql_slice_nil W _ _ (some ad) n c 0 0 Try.underlying31
  clear hl h
  go_enter Try.func43, Try.ntmps43
  go_wp2_with (first | (with_reducible refine wpList_app_fresh rfl (.tmp 5) (.tmp 6) 31 rfl 36 (.agg #[.int .i64 0, .int .i64 0, .int .i64 0, .int .i64 0]) 4 32 Try.underlying31 infoCh rfl (by decide) _ rfl (some ad) n c hn (cellsCh rs) rfl HC.out (HS.out _ hba) (by unfold maxLen; omega) (by omega) ?_))
  intro A1 c1 w1 hb1 O1
  have hk1 := hba.trans (hb1.mono (by omega))
  have S1 := Lib.hid (ownCh_fresh (lo := w.heap.size) O1.out HL.out (by omega))
  clear HS HC HL hba hb1 O1
  go_wp2
  go_ret
  exact ⟨_, _, rfl, S1, hk1⟩

theorem zCh4 : (List.replicate 4 zChannel).length = 4 := rfl
def newRs : List TChannel := [zChannel, zChannel, zChannel, zChannel]
theorem own_new (w : World) : OwnChannel (w.alloc (.cells (madeCells #[.int .i64 0, .int .i64 0, .int .i64 0, .int .i64 0] (4 * 4)) 36)) w.heap.size (w.heap.size + 1) (some ⟨w.heap.size, 0, none⟩) newRs := by
  refine own_fillChannel (rs := newRs) ((madeChannel w 4).congr (fun i hi => ?_)) (Nat.le_refl _) (by simp)
  have : i = 0 ∨ i = 1 ∨ i = 2 ∨ i = 3 ∨ i = 4 ∨ i = 5 ∨ i = 6 ∨ i = 7 ∨ i = 8 ∨ i = 9 ∨ i = 10 ∨ i = 11 ∨ i = 12 ∨ i = 13 ∨ i = 14 ∨ i = 15 := by omega
  rcases this with rfl | rfl | rfl | rfl | rfl | rfl | rfl | rfl | rfl | rfl | rfl | rfl | rfl | rfl | rfl | rfl <;> rfl
theorem giveNew (w : World) : ∃ A c, (Ending.returned (.slice (some ⟨w.heap.size, 0, none⟩) 4 4)) = .returned (.slice A newRs.length c) ∧ Hid (OwnA (w.alloc (.cells (madeCells #[.int .i64 0, .int .i64 0, .int .i64 0, .int .i64 0] (4 * 4)) 36)) w.heap.size (w.alloc (.cells (madeCells #[.int .i64 0, .int .i64 0, .int .i64 0, .int .i64 0] (4 * 4)) 36)).heap.size [.slice A newRs.length c] [rChannel newRs]) ∧ Below w.heap.size w (w.alloc (.cells (madeCells #[.int .i64 0, .int .i64 0, .int .i64 0, .int .i64 0] (4 * 4)) 36)) :=
  ⟨_, _, rfl, Lib.hid (OwnA.one (own_rChannel.2 ⟨rfl, by rw [show (w.alloc (.cells (madeCells #[.int .i64 0, .int .i64 0, .int .i64 0, .int .i64 0] (4 * 4)) 36)).heap.size = w.heap.size + 1 by simp]; exact own_new w⟩)), alloc_below _ _⟩
set_option maxRecDepth 100000 in
theorem specNewDmaA (w : World) : Calls Try.prog 34 #[] w fun e w' => ∃ A c, e = .returned (.slice A newRs.length c) ∧ Hid (OwnA w' w.heap.size w'.heap.size [.slice A newRs.length c] [rChannel newRs]) ∧ Below w.heap.size w w' := by
  have hmk := makeChannel 4 (by omega) w
  have hmk : (Instr.makeSlice 31 (.int .i64 4) (.int .i64 4)).run Try.prog w = .ok (.slice (some ⟨w.heap.size, 0, none⟩) 4 4) (w.alloc (.cells (madeCells #[.int .i64 0, .int .i64 0, .int .i64 0, .int .i64 0] (4 * 4)) 36)) := hmk
  have HG := Lib.hid (giveNew w)
  go_enter Try.func34, Try.ntmps34
  go_wp2
  go_ret
  exact HG.out
set_option maxRecDepth 100000 in
theorem implNewDmaA (w : World) : Calls Try.prog 12 #[] w fun e w' => ∃ A c, e = .returned (.slice A newRs.length c) ∧ Hid (OwnA w' w.heap.size w'.heap.size [.slice A newRs.length c] [rChannel newRs]) ∧ Below w.heap.size w w' := by
  have hmk := makeChannel 4 (by omega) w
  have hmk : (Instr.makeSlice 31 (.int .i64 4) (.int .i64 4)).run Try.prog w = .ok (.slice (some ⟨w.heap.size, 0, none⟩) 4 4) (w.alloc (.cells (madeCells #[.int .i64 0, .int .i64 0, .int .i64 0, .int .i64 0] (4 * 4)) 36)) := hmk
  have HG := Lib.hid (giveNew w)
  go_enter Try.func12, Try.ntmps12
  go_wp2
  go_ret
  exact HG.out
end Go.Proofs.Ytngoijchebfolaa
