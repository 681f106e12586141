/- NewFlash on both sides. -/
import Derived.Test.YthobepmlopegbaaChipWipe
import Derived.Test.YthobepmlopegbaaApp
namespace Go.Proofs.Ythobepmlopegbaa
open Go.RowKit

def newZ : List Int := List.replicate 256 255
theorem newZ_len : newZ.length = 256 := List.length_replicate
theorem erase_all : eraseN zZ zG 16 = newZ := by decide +kernel

/-- The model's new flash: the four blocks that it starts from. -/
theorem four_new (w : World) : ∃ W, W = ((((w.alloc (.cells #[.slice none 0 0, .slice none 0 0, .int .i64 0] 26)).alloc (.cells #[] 3)).alloc (.cells (madeCells #[.bool false] 16) 4)).alloc (.cells #[.slice (some ⟨w.heap.size + 1, 0, none⟩) 0 0, .slice (some ⟨w.heap.size + 2, 0, none⟩) 16 16, .int .i64 0] 26)) ∧ Below w.heap.size w W ∧
    Box W w.heap.size 26 #[.slice none 0 0, .slice none 0 0, .int .i64 0] ∧ Box W (w.heap.size + 1) 3 #[] ∧ Box W (w.heap.size + 2) 4 (madeCells #[.bool false] 16) ∧ Box W (w.heap.size + 3) 26 #[.slice (some ⟨w.heap.size + 1, 0, none⟩) 0 0, .slice (some ⟨w.heap.size + 2, 0, none⟩) 16 16, .int .i64 0] ∧ W.heap.size = w.heap.size + 4 := by
  obtain ⟨W1, h1⟩ : ∃ W1, W1 = w.alloc (.cells #[.slice none 0 0, .slice none 0 0, .int .i64 0] 26) := ⟨_, rfl⟩
  have s1 : W1.heap.size = w.heap.size + 1 := by rw [h1]; simp
  have b1 : Box W1 w.heap.size 26 #[.slice none 0 0, .slice none 0 0, .int .i64 0] := by rw [h1]; exact Box.new _ _ _
  have k1 : Below w.heap.size w W1 := by rw [h1]; exact alloc_below _ _
  rw [← h1]; clear h1
  obtain ⟨W2, h2⟩ : ∃ W2, W2 = W1.alloc (.cells #[] 3) := ⟨_, rfl⟩
  have s2 : W2.heap.size = w.heap.size + 2 := by rw [h2]; simp [s1]
  have b2 : Box W2 (w.heap.size + 1) 3 #[] := by rw [h2, ← s1]; exact Box.new _ _ _
  have k2 : Below W1.heap.size W1 W2 := by rw [h2]; exact alloc_below _ _
  rw [← h2]; clear h2
  obtain ⟨W3, h3⟩ : ∃ W3, W3 = W2.alloc (.cells (madeCells #[.bool false] 16) 4) := ⟨_, rfl⟩
  have s3 : W3.heap.size = w.heap.size + 3 := by rw [h3]; simp [s2]
  have b3 : Box W3 (w.heap.size + 2) 4 (madeCells #[.bool false] 16) := by rw [h3, ← s2]; exact Box.new _ _ _
  have k3 : Below W2.heap.size W2 W3 := by rw [h3]; exact alloc_below _ _
  rw [← h3]; clear h3
  refine ⟨_, rfl, bt (bt (bt k1 k2) k3) (alloc_below _ _), ((b1.step k2).step k3).alloc _, (b2.step k3).alloc _, b3.alloc _, ?_, by simp [s3]⟩
  rw [← s3]; exact Box.new _ _ _

set_option maxRecDepth 100000 in
set_option maxHeartbeats 4000000 in
theorem specNewFlash (w : World) : Calls Try.prog 66 #[] w (GivesFlash newZ zG 0 w) := by
  obtain ⟨W, hW, hb, b0, b1, b2, b3, hs⟩ := four_new w
  have hmkB : ∀ W : World, (Instr.makeSlice 24 (.int .i64 16) (.int .i64 16)).run Try.prog W = .ok (.slice (some ⟨W.heap.size, 0, none⟩) 16 16) (W.alloc (.cells (madeCells #[.bool false] 16) 4)) := fun W => run_make_row' (P := Try.prog) 24 4 (.bool false) 1 Try.underlying24 infoB rfl .i64 .i64 16 (by omega) (by omega) W
  have HB := Lib.hid (And.intro hb (And.intro b0 (And.intro b1 (And.intro b2 (And.intro b3 hs)))))
  have HW := Lib.hid hW
  clear hb b0 b1 b2 b3 hs hW
  generalize hmc : madeCells #[.bool false] 16 = mc at hmkB HB HW
  have HMc := Lib.hid hmc
  clear hmc
  go_enter Try.func66, Try.ntmps66
  go_wp2
  rw [← HW.out]
  clear hmkB HW
  go_loopw [2] (fun i wr => ∃ (j : Nat) (A : Option Addr) (c : Nat), j ≤ 256 ∧ i = .int .i64 j ∧ Below w.heap.size w wr ∧ Hid (Box wr w.heap.size 26 #[.slice none 0 0, .slice none 0 0, .int .i64 0]) ∧ Hid (Box wr (w.heap.size + 2) 4 mc) ∧ Hid (Box wr (w.heap.size + 3) 26 #[.slice A j c, .slice (some ⟨w.heap.size + 2, 0, none⟩) 16 16, .int .i64 0]) ∧ Hid (GroI wr (w.heap.size + 1) (.slice A j c) (List.replicate j 255)) ∧ Hid (w.heap.size + 4 ≤ wr.heap.size)) (fun i _ => 256 - (intOf i).toNat)
  case atStart => exact ⟨0, some ⟨w.heap.size + 1, 0, none⟩, 0, by omega, rfl, HB.out.1, Lib.hid HB.out.2.1, Lib.hid HB.out.2.2.2.1, Lib.hid HB.out.2.2.2.2.1, Lib.hid (rowv_empty (Nat.le_refl _) HB.out.2.2.1), Lib.hid (by rw [HB.out.2.2.2.2.2]; exact Nat.le_refl _)⟩
  case round =>
    clear HB
    obtain ⟨j, A, c, hj, rfl, hbw, Y, B, X, G, Z⟩ := hrel
    have x0 := X.out.cell 0 rfl
    have x1 := X.out.cell 1 rfl
    have x2 := X.out.cell 2 rfl
    have x0z := X.out.frozen 0
    by_cases hlt : j < 256
    · have HRk : Hid (wr.ownsRow (w.heap.size + 1) 3 1 (.slice A j c) j ((List.replicate j (255 : Int)).map (Value.int .i64))) := Lib.hid (by have := G.out; unfold GroI at this; rwa [List.length_replicate] at this)
      have HBa : Hid (Below wr.heap.size wr (wr.alloc (.cells #[.int .i64 255] 3))) := Lib.hid (alloc_below _ _)
      have HOw := Lib.hid (rowv_below HRk.out HBa.out)
      have HNw : Hid (∀ i u, [Value.int .i64 255][i]? = some u → (wr.alloc (.cells #[.int .i64 255] 3)).cell? ⟨wr.heap.size, i, none⟩ = some u) := Lib.hid (fun i u hi => by
        match i, hi with
        | 0, hi => simp at hi; subst hi; exact (Box.new wr 3 #[.int .i64 255]).cell 0 rfl)
      have HRep : Hid (List.replicate (j + 1) (255 : Int) = List.replicate j 255 ++ [255]) := Lib.hid List.replicate_succ'
      have hi : (j : Int) < 256 := by omega
      generalize hfl : List.replicate j (255 : Int) = fl at HRk HOw HRep
      have HLl : Hid (fl.length = j) := Lib.hid (by rw [← hfl, List.length_replicate])
      clear hfl G
      go_wp2_with (at_builtin; refine wpList_app_one rfl (.tmp 11) (.tmp 12) 23 3 rfl (.int .i64 0) 1 8 elemInt Try.underlying23 (w.heap.size + 1) (.slice A j c) j (fl.map (Value.int .i64)) rfl ?hown wr.heap.size 1 rfl [.int .i64 255] rfl ?hnews ?hone ?h63 ?hby ?hbase ?_)
      case hown => exact HOw.out
      case hnews => exact HNw.out
      case hone => intro u hu; simp at hu; subst hu; rfl
      case h63 => unfold maxLen; omega
      case hby => omega
      case hbase => have := Z.out; simp; omega
      intro A2 c2 w2 hR2 hc2 hg2 hb2
      have B2 := Lib.hid ((B.out.step HBa.out).grown HOw.out (by decide) hg2)
      have X2 := Lib.hid ((X.out.step HBa.out).grown HOw.out (by decide) hg2)
      have Y2 := Lib.hid ((Y.out.step HBa.out).below hb2 (by omega))
      have hbz : Below w.heap.size w w2 := (bt hbw HBa.out).trans (hb2.mono (by omega))
      have Z2 : Hid (w.heap.size + 4 ≤ w2.heap.size) := Lib.hid (by have := Z.out; have := HBa.out.size; have := hb2.size; omega)
      have u0 := X2.out.cell 0 rfl
      have u0z := X2.out.frozen 0
      have HG2 := Lib.hid (rowv_setBox hR2 X2.out (by decide) 0 (.slice A2 (j + 1) c2))
      clear hR2 hc2 hg2 hb2 hbw x0 x1 x2 x0z B X Y Z HOw HRk HNw HBa
      go_wp2
      go_roundw
      case rel =>
        refine ⟨j + 1, A2, c2, by omega, by go_num, hbz.setCell (p := ⟨w.heap.size + 3, 0, none⟩) (by show w.heap.size ≤ w.heap.size + 3; omega) _, Lib.hid (Y2.out.far (p := ⟨w.heap.size + 3, 0, none⟩) (by show w.heap.size ≠ w.heap.size + 3; omega) _), Lib.hid (B2.out.far (p := ⟨w.heap.size + 3, 0, none⟩) (by show w.heap.size + 2 ≠ w.heap.size + 3; omega) _), Lib.hid (X2.out.set 0 _), Lib.hid ?_, Lib.hid (by simpa [World.setCell] using Z2.out)⟩
        unfold GroI; rw [HRep.out, List.length_append, HLl.out, List.map_append]; exact HG2.out
      case measure => simp [intOf]; omega
    · obtain rfl : j = 256 := by omega
      have s0 := Y.out.cell 0 rfl
      have s1 := Y.out.cell 1 rfl
      have s2 := Y.out.cell 2 rfl
      have s0z := Y.out.frozen 0
      have s1z := Y.out.frozen 1
      have s2z := Y.out.frozen 2
      have HO : Hid (OwnI wr w.heap.size wr.heap.size A newZ) := Lib.hid (G.out.own (by omega))
      have HBo : Hid (OwnB wr w.heap.size wr.heap.size (some ⟨w.heap.size + 2, 0, none⟩) zG) := Lib.hid (.inr ⟨w.heap.size + 2, 16, fun _ => .bool false, rfl, by omega, B.out.lt, by rw [zG_len]; exact Nat.le_refl _, made_row (by have := B.out; rw [← HMc.out] at this; exact this), fun i hi => by
        have : zG.getD i false = false := by unfold zG; rw [List.getD_eq_getElem?_getD]; rw [zG_len] at hi; rw [List.getElem?_replicate, if_pos hi]; rfl
        rw [this]⟩)
      clear G B HMc
      go_wp2
      refine bodyPost_ret (v := .agg #[.slice A 256 c, .slice (some ⟨w.heap.size + 2, 0, none⟩) 16 16, .int .i64 0]) (by simp [results, Try.results66, go_sem, s0, s1, s2]) rfl ?_
      exact ⟨_, _, _, _, _, _, rfl, Lib.hid newZ_len, Lib.hid zG_len, Lib.hid ((HO.out.far3 Y.out _ _ _).wideB (Nat.le_refl _) (by rw [size3]; exact Nat.le_refl _)), Lib.hid ((HBo.out.far3 Y.out _ _ _).wide (Nat.le_refl _) (by rw [size3]; exact Nat.le_refl _)), below3 hbw (by omega) _ _ _⟩
end Go.Proofs.Ythobepmlopegbaa
