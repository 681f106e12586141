/- NewCpu of both sides. -/
import Derived.Test.YtieljgoodmoacaaChipFlash
import Derived.Test.YtieljgoodmoacaaGenC
namespace Go.Proofs.Ytieljgoodmoacaa
open Go.RowKit

theorem made_ownC {w : World} {b n L R : Nat} (h : Box w b 3 (madeCells #[.int .i64 0] n)) (hl : L ≤ b) (hr : b < R) : OwnI w L R (some ⟨b, 0, none⟩) (List.replicate n 0) :=
  .inr ⟨b, n, fun _ => .int .i64 0, rfl, hl, hr, by simp, made_row h, fun i hi => by
    rw [List.getD_eq_getElem?_getD, List.getElem?_replicate, if_pos (by simpa using hi)]; rfl⟩
/-- Registers of a new processor. -/
def zRegs : List Int := List.replicate 16 0
def nc0 : Int := 512
def nc1 : Int := 255
def nc2 : Int := 0
def nc3 : Int := 0
def nf4 : Bool := false
def nf5 : Bool := false
def nf6 : Bool := false
def nf7 : Bool := false
theorem zRegs_len : zRegs.length = 16 := List.length_replicate
theorem zRegs_bnd : lenA [.I zRegs] ≤ 4294967296 := by simp [lenA, Lf.len, zRegs]

set_option maxRecDepth 100000 in
set_option maxHeartbeats 2000000 in
theorem specNewCpuA (w : World) :
    Calls Try.prog 8 #[] w (fun e w' => ∃ rA8 rc8, e = .returned (.agg #[.int .i64 nc0, .int .i64 nc1, .int .i64 nc2, .int .i64 nc3, .bool nf4, .bool nf5, .bool nf6, .bool nf7, .slice rA8 zRegs.length rc8]) ∧ Hid (OwnA w' w.heap.size w'.heap.size [.slice rA8 zRegs.length rc8] [.I zRegs]) ∧ Below w.heap.size w w') := by
  have hmk : ∀ W : World, (Instr.makeSlice 22 (.int .i64 16) (.int .i64 16)).run Try.prog W = .ok (.slice (some ⟨W.heap.size, 0, none⟩) 16 16) (W.alloc (.cells (madeCells #[.int .i64 0] 16) 3)) := fun W => run_make_row' (P := Try.prog) 22 3 (.int .i64 0) 8 Try.underlying22 infoI rfl .i64 .i64 16 (by omega) (by omega) W
  obtain ⟨W0, hW0⟩ : ∃ W0, W0 = ((w.alloc (.cells #[.int .i64 512, .int .i64 255, .int .i64 0, .int .i64 0, .bool false, .bool false, .bool false, .bool false, .slice (some ⟨w.heap.size + 1, 0, none⟩) 16 16] 24)).alloc (.cells (madeCells #[.int .i64 0] 16) 3)) := ⟨_, rfl⟩
  have hb0 : Below w.heap.size w W0 := by rw [hW0]; exact bt (alloc_below _ _) (alloc_below _ _)
  have X0 : Box W0 w.heap.size 24 #[.int .i64 512, .int .i64 255, .int .i64 0, .int .i64 0, .bool false, .bool false, .bool false, .bool false, .slice (some ⟨w.heap.size + 1, 0, none⟩) 16 16] := by rw [hW0]; exact (Box.new _ _ _).alloc _
  have Y0 : Box W0 (w.heap.size + 1) 3 (madeCells #[.int .i64 0] 16) := by rw [hW0]; simpa using Box.new (w.alloc (.cells #[.int .i64 512, .int .i64 255, .int .i64 0, .int .i64 0, .bool false, .bool false, .bool false, .bool false, .slice (some ⟨w.heap.size + 1, 0, none⟩) 16 16] 24)) 3 (madeCells #[.int .i64 0] 16)
  have hs0 : W0.heap.size = w.heap.size + 2 := by rw [hW0]; simp
  have HO := Lib.hid (made_ownC Y0 (L := w.heap.size) (R := W0.heap.size) (by omega) (by omega))
  have HB := Lib.hid hb0
  have HX := Lib.hid X0
  have HW0 := Lib.hid hW0
  clear hW0 hs0 Y0 X0 hb0
  go_enter Try.func8, Try.ntmps8
  go_wp2
  rw [← HW0.out]
  have s0 := HX.out.cell 0 rfl
  have s1 := HX.out.cell 1 rfl
  have s2 := HX.out.cell 2 rfl
  have s3 := HX.out.cell 3 rfl
  have s4 := HX.out.cell 4 rfl
  have s5 := HX.out.cell 5 rfl
  have s6 := HX.out.cell 6 rfl
  have s7 := HX.out.cell 7 rfl
  have s8 := HX.out.cell 8 rfl
  refine bodyPost_ret (v := .agg #[.int .i64 512, .int .i64 255, .int .i64 0, .int .i64 0, .bool false, .bool false, .bool false, .bool false, .slice (some ⟨w.heap.size + 1, 0, none⟩) 16 16]) (by simp [results, Try.results8, go_sem, s0, s1, s2, s3, s4, s5, s6, s7, s8]) rfl ?_
  exact ⟨some ⟨w.heap.size + 1, 0, none⟩, 16, rfl, Lib.hid (OwnA.one (d := .I zRegs) ⟨_, _, rfl, HO.out⟩), HB.out⟩

set_option maxRecDepth 100000 in
set_option maxHeartbeats 2000000 in
theorem implNewCpuA (w : World) :
    Calls Try.prog 9 #[] w (fun e w' => ∃ rA8 rc8, e = .returned (.agg #[.int .i64 nc0, .int .i64 nc1, .int .i64 nc2, .int .i64 nc3, .bool nf4, .bool nf5, .bool nf6, .bool nf7, .slice rA8 zRegs.length rc8]) ∧ Hid (OwnA w' w.heap.size w'.heap.size [.slice rA8 zRegs.length rc8] [.I zRegs]) ∧ Below w.heap.size w w') := by
  have hmk : ∀ W : World, (Instr.makeSlice 22 (.int .i64 16) (.int .i64 16)).run Try.prog W = .ok (.slice (some ⟨W.heap.size, 0, none⟩) 16 16) (W.alloc (.cells (madeCells #[.int .i64 0] 16) 3)) := fun W => run_make_row' (P := Try.prog) 22 3 (.int .i64 0) 8 Try.underlying22 infoI rfl .i64 .i64 16 (by omega) (by omega) W
  obtain ⟨W0, hW0⟩ : ∃ W0, W0 = ((w.alloc (.cells #[.int .i64 512, .int .i64 255, .int .i64 0, .int .i64 0, .bool false, .bool false, .bool false, .bool false, .slice (some ⟨w.heap.size + 1, 0, none⟩) 16 16] 24)).alloc (.cells (madeCells #[.int .i64 0] 16) 3)) := ⟨_, rfl⟩
  have hb0 : Below w.heap.size w W0 := by rw [hW0]; exact bt (alloc_below _ _) (alloc_below _ _)
  have X0 : Box W0 w.heap.size 24 #[.int .i64 512, .int .i64 255, .int .i64 0, .int .i64 0, .bool false, .bool false, .bool false, .bool false, .slice (some ⟨w.heap.size + 1, 0, none⟩) 16 16] := by rw [hW0]; exact (Box.new _ _ _).alloc _
  have Y0 : Box W0 (w.heap.size + 1) 3 (madeCells #[.int .i64 0] 16) := by rw [hW0]; simpa using Box.new (w.alloc (.cells #[.int .i64 512, .int .i64 255, .int .i64 0, .int .i64 0, .bool false, .bool false, .bool false, .bool false, .slice (some ⟨w.heap.size + 1, 0, none⟩) 16 16] 24)) 3 (madeCells #[.int .i64 0] 16)
  have hs0 : W0.heap.size = w.heap.size + 2 := by rw [hW0]; simp
  have HO := Lib.hid (made_ownC Y0 (L := w.heap.size) (R := W0.heap.size) (by omega) (by omega))
  have HB := Lib.hid hb0
  have HX := Lib.hid X0
  have HW0 := Lib.hid hW0
  clear hW0 hs0 Y0 X0 hb0
  go_enter Try.func9, Try.ntmps9
  go_wp2
  rw [← HW0.out]
  have s0 := HX.out.cell 0 rfl
  have s1 := HX.out.cell 1 rfl
  have s2 := HX.out.cell 2 rfl
  have s3 := HX.out.cell 3 rfl
  have s4 := HX.out.cell 4 rfl
  have s5 := HX.out.cell 5 rfl
  have s6 := HX.out.cell 6 rfl
  have s7 := HX.out.cell 7 rfl
  have s8 := HX.out.cell 8 rfl
  refine bodyPost_ret (v := .agg #[.int .i64 512, .int .i64 255, .int .i64 0, .int .i64 0, .bool false, .bool false, .bool false, .bool false, .slice (some ⟨w.heap.size + 1, 0, none⟩) 16 16]) (by simp [results, Try.results9, go_sem, s0, s1, s2, s3, s4, s5, s6, s7, s8]) rfl ?_
  exact ⟨some ⟨w.heap.size + 1, 0, none⟩, 16, rfl, Lib.hid (OwnA.one (d := .I zRegs) ⟨_, _, rfl, HO.out⟩), HB.out⟩
end Go.Proofs.Ytieljgoodmoacaa
