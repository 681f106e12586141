/- The contract of spec.Format. -/
import Derived.Test.YtoogaaoknpfkoaaFormatSpec
namespace Go.Proofs.Ytoogaaoknpfkoaa
open Go.RowKit

set_option maxRecDepth 100000 in
set_option maxHeartbeats 4000000 in
theorem specFormat (A : Option Addr) (n c : Nat) (ps : List ByteArray) (w : World) (hl : ps.length = n) (hn : n ≤ maxLen) (h : StrL w A ps) (fs : FitS ps) :
    Calls Try.prog 54 #[.slice A n c] w (GivesDiskCode (fmtS ps) [] (pagesC ps) w) := by
  have hb0 := alloc_below w (.cells #[.slice none 0 0, .slice none 0 0] 26)
  have X0 := Lib.hid (Box.new w 26 #[.slice none 0 0, .slice none 0 0])
  have HP := Lib.hid (l02Pages A n c ps _ hl hn (h.below hb0) fs)
  unfold maxLen at hn
  by_cases hbig : 4096 < n
  · have hc : pagesC ps = 2 := by unfold pagesC; rw [if_pos (by rw [hl]; exact hbig)]
    have HS : Hid (fmtS ps = []) := Lib.hid (by unfold fmtS; rw [if_neg (by rw [hc]; decide)])
    have hbig' : (4096 : Int) < (n : Int) := by omega
    rw [hc]
    generalize fmtS ps = FS at HS
    clear hl h fs hc HP hbig
    have f0 := X0.out.cell 0 rfl
    have f1 := X0.out.cell 1 rfl
    go_enter Try.func54, Try.ntmps54
    go_wp2
    refine bodyPost_ret (v := .tuple #[.agg #[.slice none 0 0, .slice none 0 0], .int .i64 2]) (by simp [results, Try.results54, go_sem]) rfl ?_
    rw [HS.out]
    first | exact gives_none hb0 | exact gives_none (below_st2 hb0 (Nat.le_refl _) _ _)
  · have hsm : ¬ (4096 : Int) < (n : Int) := by omega
    by_cases hc : pagesC ps = 0
    · have h17 : n = 17 := by
        unfold pagesC at hc
        split at hc
        · omega
        · split at hc
          · omega
          · rename_i q; omega
      subst h17
      have HS : Hid (fmtS ps = fmtL ps) := Lib.hid (by unfold fmtS; rw [if_pos hc])
      have HF := Lib.hid (l02Format A c ps _ hl (h.below hb0))
      rw [hc] at HP ⊢
      generalize fmtL ps = FL at HS HF
      generalize fmtS ps = FS at HS
      clear hl h fs hc hbig
      go_enter Try.func54, Try.ntmps54
      go_wp2_with fail
      refine HP.out.mono ?_
      rintro e w' ⟨rfl, rfl⟩
      go_wp2_with fail
      refine HF.out.mono ?_
      generalize w.alloc (.cells #[.slice none 0 0, .slice none 0 0] 26) = W0 at hb0 X0 ⊢
      rintro e w1 ⟨A1, n1, c1, C1, m1, d1, rfl, L1, M1, S1, R1, hb1⟩
      have V0 := Lib.hid (X0.out.step hb1)
      have y2 := V0.out.cell 0 rfl
      have y3 := V0.out.cell 1 rfl
      have y4 := V0.out.frozen 0
      have y5 := V0.out.frozen 1
      go_wp2
      refine bodyPost_ret (v := .tuple #[.agg #[.slice A1 n1 c1, .slice C1 m1 d1], .int .i64 0]) (by simp [results, Try.results54, go_sem, y2, y3]) rfl ?_
      rw [HS.out]
      have hlo := X0.out.lt
      have kb : Btw w.heap.size (w.heap.size + 1) w1 ((w1.setCell ⟨w.heap.size, 0, none⟩ (.slice A1 n1 c1)).setCell ⟨w.heap.size, 1, none⟩ (.slice C1 m1 d1)) := ((Btw.refl _ _ _).setCell (p := ⟨w.heap.size, 0, none⟩) (Nat.le_refl _) (Nat.lt_succ_self _) _).setCell (p := ⟨w.heap.size, 1, none⟩) (Nat.le_refl _) (Nat.lt_succ_self _) _
      have hsz : w1.heap.size = ((w1.setCell ⟨w.heap.size, 0, none⟩ (.slice A1 n1 c1)).setCell ⟨w.heap.size, 1, none⟩ (.slice C1 m1 d1)).heap.size := by simp [World.setCell]
      have s2 := S1.out.btw kb (.inr (by omega))
      have r2 := R1.out.btw kb (.inr (by omega))
      rw [hsz] at s2 r2
      exact ⟨_, _, _, _, _, _, rfl, L1, M1, Lib.hid (s2.imp id (fun ⟨b, m, f, e, h1, r⟩ => ⟨b, m, f, e, by omega, r⟩)), Lib.hid (r2.imp id (fun ⟨b, m, f, e, h1, r⟩ => ⟨b, m, f, e, by omega, r⟩)), below_st2 (bt hb0 hb1) (Nat.le_refl _) _ _⟩
    · have HS : Hid (fmtS ps = []) := Lib.hid (by unfold fmtS; rw [if_neg hc])
      generalize pagesC ps = code at HP hc
      generalize fmtS ps = FS at HS
      have hcc : (code != 0) = true := by simpa using hc
      clear hl h fs hbig
      go_enter Try.func54, Try.ntmps54
      go_wp2_with fail
      refine HP.out.mono ?_
      rintro e w' ⟨rfl, rfl⟩
      go_wp2
      refine bodyPost_ret (v := .tuple #[.agg #[.slice none 0 0, .slice none 0 0], .int .i64 code]) (by simp [results, Try.results54, go_sem]) rfl ?_
      rw [HS.out]
      first | exact gives_none hb0 | exact gives_none (below_st2 hb0 (Nat.le_refl _) _ _)
end Go.Proofs.Ytoogaaoknpfkoaa
