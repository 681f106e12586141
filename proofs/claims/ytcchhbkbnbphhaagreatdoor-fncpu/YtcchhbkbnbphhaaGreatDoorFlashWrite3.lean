/- The model's bus cycle in the state of erasing. -/
import Derived.Test.YtcchhbkbnbphhaaGreatDoorFlashWrite2
namespace Go.Proofs.YtcchhbkbnbphhaaGreatDoor
open Go.RowKit

set_option maxRecDepth 100000 in
set_option maxHeartbeats 8000000 in
theorem writeErase (A C : Option Addr) (c d k : Nat) (zs : List Int) (gs : List Bool) (w : World) (b1 b2 b3 b4 : Bool) (T : Tests k 48 b1 b2 b3 b4) (hk : k < 256) (h : FlashAt w A C zs gs) :
    Calls Tryz.prog 110 #[.agg #[.slice A 256 c, .slice C 16 d, .int .i64 6], .int .i64 k, .int .i64 48] w (GivesFlash (eraseL zs gs (k / 16)) gs 0 w) := by
  obtain ⟨W, hW, hb, X, Y⟩ := opened A C c d w
  obtain ⟨t1, t2, t3, t4⟩ := T
  have hP := l03Erase A C 256 c 16 d (k / 16) 0 zs gs W h.1.1 h.1.2 rfl rfl (by omega) (h.2.1.below hb) (h.2.2.below hb)
  rw [show ((k / 16 : Nat) : Int) = (k : Int) / 16 from by omega] at hP
  have HP := Lib.hid hP
  clear hP
  have HY := Lib.hid (And.intro hb Y)
  have HW := Lib.hid hW
  generalize eraseL zs gs (k / 16) = zr at HP ⊢
  have hki : (k : Int) < 256 := by omega
  clear h hb X Y hW t2 t4
  cases b1 <;> cases b3 <;> (
    go_enter Tryz.func110, Tryz.ntmps110
    go_wp2_with fail
    rw [← HW.out]
    refine HP.out.mono ?_
    rintro e w3 ⟨A3, n3, c3, C3, m3, d3, rfl, L3, M3, S3, R3, hb3⟩
    have Y3 := HY.out.2.step hb3
    have s0 := Y3.cell 0 rfl
    have s1 := Y3.cell 1 rfl
    have s2 := Y3.cell 2 rfl
    have s0z := Y3.frozen 0
    have s1z := Y3.frozen 1
    have s2z := Y3.frozen 2
    have HY3 := Lib.hid Y3
    clear Y3
    go_wp2
    refine bodyPost_ret (v := .agg #[.slice A3 n3 c3, .slice C3 m3 d3, .int .i64 0]) (by simp [results, Tryz.results110, go_sem, s0, s1, s2]) rfl ?_
    exact ⟨_, _, _, _, _, _, rfl, L3, M3, Lib.hid ((S3.out.far3 HY3.out _ _ _).wideB HY.out.1.size (by rw [size3]; exact Nat.le_refl _)), Lib.hid ((R3.out.far3 HY3.out _ _ _).wide HY.out.1.size (by rw [size3]; exact Nat.le_refl _)), below3 (bt HY.out.1 hb3) (by omega) _ _ _⟩)

set_option maxRecDepth 100000 in
set_option maxHeartbeats 8000000 in
theorem writeNone (A C : Option Addr) (c d k v : Nat) (w : World) (b1 b2 b3 b4 : Bool) (T : Tests k v b1 b2 b3 b4) (t5 : ((v : Int) == 48) = false) (h6 : ((v : Int) == 16) = false ∨ (((v : Int) == 16) = true ∧ b1 = false)) :
    Calls Tryz.prog 110 #[.agg #[.slice A 256 c, .slice C 16 d, .int .i64 6], .int .i64 k, .int .i64 v] w fun e w' => e = .returned (.agg #[.slice A 256 c, .slice C 16 d, .int .i64 0]) ∧ Below w.heap.size w w' := by
  obtain ⟨t1, t2, t3, t4⟩ := T
  rcases h6 with t6 | ⟨t6, rfl⟩
  · cases b1 <;> cases b3 <;> (
      go_enter Tryz.func110, Tryz.ntmps110
      go_wp2
      refine bodyPost_ret (by simp [results, Tryz.results110, go_sem]; rfl) rfl ?_
      exact ⟨rfl, bt (alloc_below _ _) (alloc_below _ _)⟩)
  · cases b3 <;> (
      go_enter Tryz.func110, Tryz.ntmps110
      go_wp2
      refine bodyPost_ret (by simp [results, Tryz.results110, go_sem]; rfl) rfl ?_
      exact ⟨rfl, bt (alloc_below _ _) (alloc_below _ _)⟩)

set_option maxRecDepth 100000 in
set_option maxHeartbeats 8000000 in
theorem writeAll (A C : Option Addr) (c d : Nat) (zs : List Int) (gs : List Bool) (w : World) (h : FlashAt w A C zs gs) :
    Calls Tryz.prog 110 #[.agg #[.slice A 256 c, .slice C 16 d, .int .i64 6], .int .i64 85, .int .i64 16] w (GivesFlash (eraseN zs gs 16) gs 0 w) := by
  obtain ⟨W, hW, hb, X, Y⟩ := opened A C c d w
  have HEr := Lib.hid (fun j (hj : j < 16) A n c C m d zs' gs' W (h1 : zs'.length = 256) (h2 : gs'.length = 16) (e1 : n = 256) (e2 : m = 16) => l03Erase A C n c m d j 0 zs' gs' W (h1.trans e1.symm) (h2.trans e2.symm) e1 e2 hj)
  have HL := Lib.hid h.1
  have HI : Hid (IntL W A zs ∧ BoolL W C gs) := Lib.hid ⟨h.2.1.below hb, h.2.2.below hb⟩
  have HX := Lib.hid (And.intro X Y)
  have HW := Lib.hid hW
  clear h X Y hW
  go_enter Tryz.func110, Tryz.ntmps110
  go_wp2
  rw [← HW.out]
  go_loopw [10] (fun i wr => ∃ j : Nat, j ≤ 16 ∧ i = .int .i64 j ∧ Below w.heap.size w wr ∧ ∃ A1 c1 C1 d1, Hid (Box wr w.heap.size 29 #[.slice A1 256 c1, .slice C1 16 d1, .int .i64 0]) ∧ Hid (Box wr (w.heap.size + 1) 29 #[.slice none 0 0, .slice none 0 0, .int .i64 0]) ∧ Hid (IntL wr A1 (eraseN zs gs j)) ∧ Hid (BoolL wr C1 gs) ∧ Hid (0 < j → OwnI wr w.heap.size wr.heap.size A1 (eraseN zs gs j) ∧ OwnB wr w.heap.size wr.heap.size C1 gs)) (fun i _ => 16 - (intOf i).toNat)
  case atStart => exact ⟨0, by omega, rfl, hb, A, c, C, d, Lib.hid HX.out.1, Lib.hid HX.out.2, Lib.hid HI.out.1, Lib.hid HI.out.2, Lib.hid (fun h => absurd h (by omega))⟩
  case round =>
    clear HX HW hb HI
    obtain ⟨j, hj, rfl, hbw, A1, c1, C1, d1, X, Y, I, B, O⟩ := hrel
    have x0 := X.out.cell 0 rfl
    have x1 := X.out.cell 1 rfl
    have x2 := X.out.cell 2 rfl
    by_cases hlt : j < 16
    · have HE := Lib.hid (HEr.out j hlt A1 256 c1 C1 16 d1 (eraseN zs gs j) gs wr (by rw [eraseN_len]; exact HL.out.1) HL.out.2 rfl rfl I.out B.out)
      have hi : (j : Int) < 16 := by omega
      clear O I B HEr
      go_wp2_with fail
      refine HE.out.mono ?_
      rintro e w3 ⟨A3, n3, c3, C3, m3, d3, rfl, L3, M3, S3, R3, hb3⟩
      obtain rfl : n3 = 256 := by have := L3.out; rw [eraseL_len, eraseN_len] at this; have := HL.out; omega
      obtain rfl : m3 = 16 := by have := M3.out; have := HL.out; omega
      have X3 := X.out.step hb3
      have s0 := X3.cell 0 rfl
      have s1 := X3.cell 1 rfl
      have s2 := X3.cell 2 rfl
      have s0z := X3.frozen 0
      have s1z := X3.frozen 1
      have s2z := X3.frozen 2
      have HX3 := Lib.hid X3
      have hbs := hbw.size
      have HS : Hid (OwnI (((w3.setCell ⟨w.heap.size, 0, none⟩ (.slice A3 256 c3)).setCell ⟨w.heap.size, 1, none⟩ (.slice C3 16 d3)).setCell ⟨w.heap.size, 2, none⟩ (.int .i64 0)) w.heap.size (((w3.setCell ⟨w.heap.size, 0, none⟩ (.slice A3 256 c3)).setCell ⟨w.heap.size, 1, none⟩ (.slice C3 16 d3)).setCell ⟨w.heap.size, 2, none⟩ (.int .i64 0)).heap.size A3 (eraseN zs gs (j + 1))) := Lib.hid ((S3.out.far3 X3 _ _ _).wideB hbs (by rw [size3]; exact Nat.le_refl _))
      have HR : Hid (OwnB (((w3.setCell ⟨w.heap.size, 0, none⟩ (.slice A3 256 c3)).setCell ⟨w.heap.size, 1, none⟩ (.slice C3 16 d3)).setCell ⟨w.heap.size, 2, none⟩ (.int .i64 0)) w.heap.size (((w3.setCell ⟨w.heap.size, 0, none⟩ (.slice A3 256 c3)).setCell ⟨w.heap.size, 1, none⟩ (.slice C3 16 d3)).setCell ⟨w.heap.size, 2, none⟩ (.int .i64 0)).heap.size C3 gs) := Lib.hid ((R3.out.far3 X3 _ _ _).wide hbs (by rw [size3]; exact Nat.le_refl _))
      have HXn := Lib.hid (X3.flash3 rfl (.slice A3 256 c3) (.slice C3 16 d3) (.int .i64 0))
      have HYn := Lib.hid ((Y.out.step hb3).far3 (show w.heap.size + 1 ≠ w.heap.size by omega) (.slice A3 256 c3) (.slice C3 16 d3) (.int .i64 0))
      have hbn := below3 (bt hbw hb3) (Nat.le_refl _) (.slice A3 256 c3) (.slice C3 16 d3) (.int .i64 0)
      clear X3 X Y x0 x1 x2 S3 R3 L3 M3 hb3 hbw HE
      go_wp2
      go_roundw
      case rel => exact ⟨j + 1, by omega, by go_num, hbn, A3, c3, C3, d3, HXn, HYn, Lib.hid HS.out.reads, Lib.hid HR.out.reads, Lib.hid (fun _ => ⟨HS.out, HR.out⟩)⟩
      case measure => simp [intOf]; omega
    · obtain rfl : j = 16 := by omega
      have s0 := Y.out.cell 0 rfl
      have s1 := Y.out.cell 1 rfl
      have s2 := Y.out.cell 2 rfl
      have s0z := Y.out.frozen 0
      have s1z := Y.out.frozen 1
      have s2z := Y.out.frozen 2
      clear HEr I B
      go_wp2
      refine bodyPost_ret (v := .agg #[.slice A1 256 c1, .slice C1 16 d1, .int .i64 0]) (by simp [results, Tryz.results110, go_sem, s0, s1, s2]) rfl ?_
      have HO := O.out (by omega)
      exact ⟨_, _, _, _, _, _, rfl, Lib.hid (by rw [eraseN_len]; exact HL.out.1), Lib.hid HL.out.2, Lib.hid ((HO.1.far3 Y.out _ _ _).wideB (Nat.le_refl _) (by rw [size3]; exact Nat.le_refl _)), Lib.hid ((HO.2.far3 Y.out _ _ _).wide (Nat.le_refl _) (by rw [size3]; exact Nat.le_refl _)), below3 hbw (by omega) _ _ _⟩
end Go.Proofs.YtcchhbkbnbphhaaGreatDoor
