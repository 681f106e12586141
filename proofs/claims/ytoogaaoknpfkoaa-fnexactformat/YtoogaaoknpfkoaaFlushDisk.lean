/- Contracts of both FlushDisk. -/
import Derived.Test.YtoogaaoknpfkoaaFlush
import Derived.Test.YtoogaaoknpfkoaaMark
namespace Go.Proofs.Ytoogaaoknpfkoaa
open Go.RowKit

def flushS (ss : List ByteArray) (ws : List (Int × ByteArray)) : List ByteArray := if okDisk ss ws = true then settleN ss ws [1] ws.length else []
def flushC (ss : List ByteArray) (ws : List (Int × ByteArray)) : Int := if okDisk ss ws = true then 0 else 1

/-- The end of a call that hands back a disk with a code out of a result cell at block b. -/
theorem gives_none {w w' : World} {code : Int} (hb : Below w.heap.size w w') : GivesDiskCode [] [] code w (.returned (.tuple #[.agg #[.slice none 0 0, .slice none 0 0], .int .i64 code])) w' :=
  ⟨none, 0, 0, none, 0, 0, rfl, Lib.hid rfl, Lib.hid rfl, Lib.hid (.inl rfl), Lib.hid (.inl rfl), hb⟩

set_option maxRecDepth 100000 in
set_option maxHeartbeats 2000000 in
theorem implFlush (A C : Option Addr) (n c m d : Nat) (ss : List ByteArray) (ws : List (Int × ByteArray)) (w : World) (hl : ss.length = n) (hm : ws.length = m) (hn : n ≤ maxLen) (hmm : m ≤ maxLen) (h : StrL w A ss) (g : WrL w C ws) (fs : FitS ss) (fw : FitW ws) :
    Calls Try.prog 25 #[.agg #[.slice A n c, .slice C m d]] w (GivesDiskCode (flushS ss ws) [] (flushC ss ws) w) := by
  obtain ⟨W0, hW0⟩ : ∃ W0, W0 = ((w.alloc (.cells #[.slice A n c, .slice C m d] 26)).alloc (.cells #[.slice none 0 0, .slice none 0 0] 26)) := ⟨_, rfl⟩
  have hb0 : Below w.heap.size w W0 := by rw [hW0]; exact ((Below.refl _ _).alloc (Nat.le_refl _) _).alloc (by simp) _
  have X0 : Box W0 w.heap.size 26 #[.slice A n c, .slice C m d] := by rw [hW0]; exact (Box.new _ _ _).alloc _
  have Y0 : Box W0 (w.heap.size + 1) 26 #[.slice none 0 0, .slice none 0 0] := by rw [hW0]; simpa using Box.new (w.alloc (.cells #[.slice A n c, .slice C m d] 26)) 26 #[.slice none 0 0, .slice none 0 0]
  have HC := Lib.hid (diskValid A C n c m d ss ws W0 hl hm hn hmm (h.below hb0) (g.below hb0) fs fw)
  have HX := Lib.hid (And.intro X0 Y0)
  have HW0 := Lib.hid hW0
  have HL := Lib.hid (And.intro hl hm)
  have HSt := Lib.hid (And.intro h g)
  clear hl hm hn hmm h g fs fw X0 Y0 hW0
  by_cases hok : okDisk ss ws = true
  · have OK := Lib.hid (ok_of hok)
    have HV : Hid (flushS ss ws = settleN ss ws [1] m ∧ flushC ss ws = 0) := Lib.hid (by unfold flushS flushC; rw [if_pos hok, if_pos hok, HL.out.2]; exact ⟨rfl, rfl⟩)
    have HO := Lib.hid hok
    clear hok
    rw [HV.out.1, HV.out.2]
    go_enter Try.func25, Try.ntmps25
    go_wp2_with fail
    rw [← HW0.out]
    refine HC.out.mono ?_
    rintro e w1 ⟨rfl, hb1⟩
    rw [HO.out]
    have hb2 := bt hb0 hb1
    have X1 := HX.out.1.step hb1
    have Y1 := Lib.hid (HX.out.2.step hb1)
    have f0 : w1.cell? ⟨w.heap.size, 0, none⟩ = some (.slice A n c) := X1.cell 0 rfl
    have f1 : w1.cell? ⟨w.heap.size, 1, none⟩ = some (.slice C m d) := X1.cell 1 rfl
    have hba := (Below.refl w1.heap.size w1).alloc (Nat.le_refl _) (.cells #[.int .i64 1] 3)
    have hb2a := bt hb2 hba
    have HI : IntL (w1.alloc (.cells #[.int .i64 1] 3)) (some ⟨w1.heap.size, 0, none⟩) [1] := fun i hi => by
      have hi' : i = 0 := by simpa using hi
      subst hi'
      exact ⟨w1.heap.size, 0, rfl, (Box.new w1 3 #[.int .i64 1]).cell 0 rfl⟩
    have HF := Lib.hid (settle A C (some ⟨w1.heap.size, 0, none⟩) n c m d 1 1 ss ws [1] _ HL.out.1 HL.out.2 rfl (by unfold maxLen; omega) (HSt.out.1.below hb2a) (HSt.out.2.below hb2a) HI OK.out)
    have HY1 := Lib.hid (Y1.out.step hba)
    clear X1 HC HX HI hba
    go_wp2_with fail
    generalize w1.alloc (.cells #[.int .i64 1] 3) = w1a at HF HY1 hb2a ⊢
    refine HF.out.mono ?_
    rintro e w2 ⟨A2, n2, c2, C2, m2, d2, rfl, L2, M2, S2, R2, hb3⟩
    have Y2 := HY1.out.step hb3
    have g0 := Y2.cell 0 rfl
    have g1 := Y2.cell 1 rfl
    have g2 := Y2.frozen 0
    have g3 := Y2.frozen 1
    have HYl : Hid (w.heap.size + 1 < w1a.heap.size) := Lib.hid HY1.out.lt
    clear Y2 f0 f1
    go_wp2
    refine bodyPost_ret (v := .tuple #[.agg #[.slice A2 n2 c2, .slice C2 m2 d2], .int .i64 0]) (by simp [results, Try.results25, go_sem, g0, g1]) rfl ?_
    have hb4 := bt hb2a hb3
    have e1 : (((w2.setCell ⟨w.heap.size + 1, 0, none⟩ (.slice A2 n2 c2)).setCell ⟨w.heap.size + 1, 1, none⟩ (.slice C2 m2 d2)).heap.size) = w2.heap.size := by simp [World.setCell]
    have k1 : Btw (w.heap.size + 1) (w.heap.size + 1 + 1) w2 ((w2.setCell ⟨w.heap.size + 1, 0, none⟩ (.slice A2 n2 c2)).setCell ⟨w.heap.size + 1, 1, none⟩ (.slice C2 m2 d2)) :=
      ((Btw.refl _ _ _).setCell (by show w.heap.size + 1 ≤ w.heap.size + 1; omega) (by show w.heap.size + 1 < w.heap.size + 1 + 1; omega) _).setCell (by show w.heap.size + 1 ≤ w.heap.size + 1; omega) (by show w.heap.size + 1 < w.heap.size + 1 + 1; omega) _
    refine ⟨_, _, _, _, _, _, rfl, L2, M2, Lib.hid ?_, Lib.hid (.inl rfl), (hb4.setCell (by show w.heap.size ≤ w.heap.size + 1; omega) _).setCell (by show w.heap.size ≤ w.heap.size + 1; omega) _⟩
    rw [e1]
    exact (S2.out.btw k1 (.inr (by have := HYl.out; omega))).wide hb2a.size (Nat.le_refl _)
  · have HV : Hid (flushS ss ws = [] ∧ flushC ss ws = 1) := Lib.hid (by unfold flushS flushC; rw [if_neg hok, if_neg hok]; exact ⟨rfl, rfl⟩)
    have hok' : okDisk ss ws = false := by simpa using hok
    have HO := Lib.hid hok'
    clear hok hok'
    rw [HV.out.1, HV.out.2]
    go_enter Try.func25, Try.ntmps25
    go_wp2_with fail
    rw [← HW0.out]
    refine HC.out.mono ?_
    rintro e w1 ⟨rfl, hb1⟩
    rw [HO.out]
    have hb2 := bt hb0 hb1
    have Y1 := HX.out.2.step hb1
    have g0 := Y1.cell 0 rfl
    have g1 := Y1.cell 1 rfl
    have g2 := Y1.frozen 0
    have g3 := Y1.frozen 1
    clear Y1
    go_wp2
    refine bodyPost_ret (v := .tuple #[.agg #[.slice none 0 0, .slice none 0 0], .int .i64 1]) (by simp [results, Try.results25, go_sem, g0, g1]) rfl ?_
    exact gives_none ((hb2.setCell (by show w.heap.size ≤ w.heap.size + 1; omega) _).setCell (by show w.heap.size ≤ w.heap.size + 1; omega) _)

theorem flush_bound (ss : List ByteArray) (ws : List (Int × ByteArray)) (h : ss.length ≤ 1048576) : (flushS ss ws).length ≤ 1048577 ∧ ([] : List (Int × ByteArray)).length ≤ 1048577 := by
  unfold flushS
  split
  · rw [settleN_len]; exact ⟨by omega, by simp⟩
  · exact ⟨by simp, by simp⟩
end Go.Proofs.Ytoogaaoknpfkoaa
