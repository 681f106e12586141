/- The model's bus cycle in the states that do more: a command, autoselect, programming, protecting, erasing. -/
import Derived.Test.YtcchhbkbnbphhaaGreatDoorFlashWrite
namespace Go.Proofs.YtcchhbkbnbphhaaGreatDoor
open Go.RowKit

set_option maxRecDepth 100000 in
set_option maxHeartbeats 8000000 in
theorem writeCmd (A C : Option Addr) (c d k v : Nat) (s : Int) (w : World) (b1 b2 b3 b4 : Bool) (T : Tests k v b1 b2 b3 b4) (hs : (if (k : Int) = 85 then cmdS v else 0) = s) :
    Calls Tryz.prog 110 #[.agg #[.slice A 256 c, .slice C 16 d, .int .i64 2], .int .i64 k, .int .i64 v] w fun e w' => e = .returned (.agg #[.slice A 256 c, .slice C 16 d, .int .i64 s]) ∧ Below w.heap.size w w' := by
  obtain ⟨t1, t2, t3, t4⟩ := T
  have h3 : ∀ W, Calls Tryz.prog 126 #[.int .i64 k, .int .i64 v] W fun e w' => e = .returned (.int .i64 s) ∧ W = w' := fun W => by have := l03Third k v W; rw [hs] at this; exact this
  have H3 := Lib.hid h3
  clear h3 hs
  cases b1 <;> cases b3 <;> (
    go_enter Tryz.func110, Tryz.ntmps110
    go_wp2_with (first | (go_at_call 126; refine (H3.out _).mono ?_; rintro e w' ⟨rfl, rfl⟩))
    refine bodyPost_ret (by simp [results, Tryz.results110, go_sem]; rfl) rfl ?_
    exact ⟨rfl, bt (alloc_below _ _) (alloc_below _ _)⟩)

set_option maxRecDepth 100000 in
set_option maxHeartbeats 8000000 in
theorem writeAuto (A C : Option Addr) (c d k v : Nat) (w : World) (b1 b2 b3 b4 b5 : Bool) (T : Tests k v b1 b2 b3 b4) (t5 : ((v : Int) != 240) = b5) :
    Calls Tryz.prog 110 #[.agg #[.slice A 256 c, .slice C 16 d, .int .i64 7], .int .i64 k, .int .i64 v] w fun e w' => e = .returned (.agg #[.slice A 256 c, .slice C 16 d, .int .i64 (if b5 then 7 else 0)]) ∧ Below w.heap.size w w' := by
  obtain ⟨t1, t2, t3, t4⟩ := T
  cases b1 <;> cases b3 <;> cases b5 <;> (
    go_enter Tryz.func110, Tryz.ntmps110
    go_wp2_with (first | (go_at_call 113; refine (l01Bit _ _).mono ?_; rintro e w' ⟨rfl, rfl⟩))
    refine bodyPost_ret (by simp [results, Tryz.results110, go_sem]; rfl) rfl ?_
    exact ⟨rfl, bt (alloc_below _ _) (alloc_below _ _)⟩)

theorem opened (A C : Option Addr) (c d : Nat) (w : World) :
    ∃ W, W = ((w.alloc (.cells #[.slice A 256 c, .slice C 16 d, .int .i64 0] 29)).alloc (.cells #[.slice none 0 0, .slice none 0 0, .int .i64 0] 29)) ∧ Below w.heap.size w W ∧ Box W w.heap.size 29 #[.slice A 256 c, .slice C 16 d, .int .i64 0] ∧ Box W (w.heap.size + 1) 29 #[.slice none 0 0, .slice none 0 0, .int .i64 0] := by
  have X0 := (Box.new w 29 #[.slice A 256 c, .slice C 16 d, .int .i64 0]).alloc (.cells #[.slice none 0 0, .slice none 0 0, .int .i64 0] 29)
  have Y0 := Box.new (w.alloc (.cells #[.slice A 256 c, .slice C 16 d, .int .i64 0] 29)) 29 #[.slice none 0 0, .slice none 0 0, .int .i64 0]
  have hs : (w.alloc (.cells #[.slice A 256 c, .slice C 16 d, .int .i64 0] 29)).heap.size = w.heap.size + 1 := by simp
  rw [hs] at Y0
  exact ⟨_, rfl, bt (alloc_below _ _) (alloc_below _ _), X0, Y0⟩

def FlashAt (w : World) (A C : Option Addr) (zs : List Int) (gs : List Bool) : Prop := (zs.length = 256 ∧ gs.length = 16) ∧ IntL w A zs ∧ BoolL w C gs

set_option maxRecDepth 100000 in
set_option maxHeartbeats 8000000 in
theorem writeProgram (A C : Option Addr) (c d k v : Nat) (zs : List Int) (gs : List Bool) (w : World) (b1 b2 b3 b4 : Bool) (T : Tests k v b1 b2 b3 b4) (hk : k < 256) (hv : v < 256) (hz : ∀ z ∈ zs, 0 ≤ z ∧ z ≤ 255) (h : FlashAt w A C zs gs) :
    Calls Tryz.prog 110 #[.agg #[.slice A 256 c, .slice C 16 d, .int .i64 3], .int .i64 k, .int .i64 v] w (GivesFlash (progL zs gs k v) gs 0 w) := by
  obtain ⟨W, hW, hb, X, Y⟩ := opened A C c d w
  obtain ⟨t1, t2, t3, t4⟩ := T
  have HP := Lib.hid (l03Program A C 256 c 16 d k v 0 zs gs W h.1.1 h.1.2 rfl rfl hk hv hz (h.2.1.below hb) (h.2.2.below hb))
  have HY := Lib.hid (And.intro hb Y)
  have HW := Lib.hid hW
  generalize progL zs gs k v = zr at HP ⊢
  clear h hz hk hv hb X Y hW
  cases b1 <;> cases b3 <;> (
    go_enter Tryz.func110, Tryz.ntmps110
    go_wp2_with fail
    rw [← HW.out]
    refine HP.out.mono ?_
    rintro e w3 ⟨A3, n3, c3, C3, m3, d3, rfl, L3, M3, S3, R3, hb3⟩
    have Y3 := HY.out.2.step hb3
    have s0 := Y3.cell 0 rfl
    have s1 := Y3.cell 1 rfl
    have s2 := Y3.cell 2 rfl
    have s0z := Y3.frozen 0
    have s1z := Y3.frozen 1
    have s2z := Y3.frozen 2
    have HY3 := Lib.hid Y3
    clear Y3
    go_wp2
    refine bodyPost_ret (v := .agg #[.slice A3 n3 c3, .slice C3 m3 d3, .int .i64 0]) (by simp [results, Tryz.results110, go_sem, s0, s1, s2]) rfl ?_
    exact ⟨_, _, _, _, _, _, rfl, L3, M3, Lib.hid ((S3.out.far3 HY3.out _ _ _).wideB HY.out.1.size (by rw [size3]; exact Nat.le_refl _)), Lib.hid ((R3.out.far3 HY3.out _ _ _).wide HY.out.1.size (by rw [size3]; exact Nat.le_refl _)), below3 (bt HY.out.1 hb3) (by omega) _ _ _⟩)

set_option maxRecDepth 100000 in
set_option maxHeartbeats 8000000 in
theorem writeGuard (A C : Option Addr) (c d k v : Nat) (zs : List Int) (gs : List Bool) (w : World) (b1 b2 b3 b4 : Bool) (T : Tests k v b1 b2 b3 b4) (hk : k < 256) (h : FlashAt w A C zs gs) :
    Calls Tryz.prog 110 #[.agg #[.slice A 256 c, .slice C 16 d, .int .i64 8], .int .i64 k, .int .i64 v] w (GivesFlash zs (gs.set (k / 16) true) 0 w) := by
  obtain ⟨W, hW, hb, X, Y⟩ := opened A C c d w
  obtain ⟨t1, t2, t3, t4⟩ := T
  have hP := l03Guard A C 256 c 16 d (k / 16) 0 zs gs W h.1.1 h.1.2 rfl rfl (by omega) (h.2.1.below hb) (h.2.2.below hb)
  rw [show ((k / 16 : Nat) : Int) = (k : Int) / 16 from by omega] at hP
  have HP := Lib.hid hP
  clear hP
  have HY := Lib.hid (And.intro hb Y)
  have HW := Lib.hid hW
  generalize gs.set (k / 16) true = gr at HP ⊢
  have hki : (k : Int) < 256 := by omega
  clear h hb X Y hW
  cases b1 <;> cases b3 <;> (
    go_enter Tryz.func110, Tryz.ntmps110
    go_wp2_with fail
    rw [← HW.out]
    refine HP.out.mono ?_
    rintro e w3 ⟨A3, n3, c3, C3, m3, d3, rfl, L3, M3, S3, R3, hb3⟩
    have Y3 := HY.out.2.step hb3
    have s0 := Y3.cell 0 rfl
    have s1 := Y3.cell 1 rfl
    have s2 := Y3.cell 2 rfl
    have s0z := Y3.frozen 0
    have s1z := Y3.frozen 1
    have s2z := Y3.frozen 2
    have HY3 := Lib.hid Y3
    clear Y3
    go_wp2
    refine bodyPost_ret (v := .agg #[.slice A3 n3 c3, .slice C3 m3 d3, .int .i64 0]) (by simp [results, Tryz.results110, go_sem, s0, s1, s2]) rfl ?_
    exact ⟨_, _, _, _, _, _, rfl, L3, M3, Lib.hid ((S3.out.far3 HY3.out _ _ _).wideB HY.out.1.size (by rw [size3]; exact Nat.le_refl _)), Lib.hid ((R3.out.far3 HY3.out _ _ _).wide HY.out.1.size (by rw [size3]; exact Nat.le_refl _)), below3 (bt HY.out.1 hb3) (by omega) _ _ _⟩)
end Go.Proofs.YtcchhbkbnbphhaaGreatDoor
