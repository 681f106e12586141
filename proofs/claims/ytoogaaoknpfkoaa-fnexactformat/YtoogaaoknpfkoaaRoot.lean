/- Contracts of szRoot, toRoot, eqRoot, markRoot, heldRoot; a root behind a box. -/
import Derived.Test.YtoogaaoknpfkoaaIntsMore
import Derived.Test.YtoogaaoknpfkoaaBoxDisk
namespace Go.Proofs.Ytoogaaoknpfkoaa
open Go.RowKit

set_option maxRecDepth 100000 in
theorem szRoot (g : Int) (A : Option Addr) (n c : Nat) (left : Int) (w : World) (hn : n ≤ maxLen) (h0 : 0 ≤ left) (h1 : left ≤ 1048576) :
    Calls Try.prog 42 #[.agg #[.int .i64 g, .slice A n c], .int .i64 left] w (Left left n w) := by
  have HS := Lib.hid (fun W => szIntS A n c left W hn h0 h1)
  clear hn
  go_enter Try.func42, Try.ntmps42
  go_wp2_with fail
  refine (HS.out _).mono ?_
  rintro e w1 ⟨hres, hb1⟩
  have hb := bt (alloc_below w _) hb1
  clear hb1
  rcases hres with rfl | ⟨rfl, hle⟩
  · go_wp2
    go_ret
    exact ⟨.inl rfl, hb⟩
  · have hp : ¬ left - (n : Int) < 0 := by omega
    go_wp2
    go_ret
    exact ⟨.inr ⟨rfl, hle⟩, hb⟩

/-- The call hands back a root of its own. -/
def GivesRoot (g : Int) (zs : List Int) (w : World) (e : Ending) (w' : World) : Prop :=
  ∃ A n c, e = .returned (.agg #[.int .i64 g, .slice A n c]) ∧ Hid (zs.length = n) ∧ Hid (OwnI w' w.heap.size w'.heap.size A zs) ∧ n ≤ c ∧ Below w.heap.size w w'

/-- Block b holds this root; its row lies from lo on and below hi. -/
structure BR (w : World) (b lo hi : Nat) (g : Int) (A : Option Addr) (n c : Nat) (zs : List Int) : Prop where
  box : Box w b 57 #[.int .i64 g, .slice A n c]
  s : OwnI w lo hi A zs
section
variable {w w' : World} {b lo hi : Nat} {g : Int} {A : Option Addr} {n c : Nat} {zs : List Int}
theorem BR.step (h : BR w b lo hi g A n c zs) (hb : Below w.heap.size w w') : BR w' b lo hi g A n c zs := ⟨h.box.step hb, h.s.below hb⟩
theorem BR.btw {l r : Nat} (h : BR w b lo hi g A n c zs) (hb : Btw l r w w') (h1 : b < l ∨ r ≤ b) (h2 : hi ≤ l ∨ r ≤ lo) : BR w' b lo hi g A n c zs := ⟨h.box.btw hb h1, h.s.btw hb h2⟩
theorem BR.new (hs : OwnI w lo hi A zs) : BR (w.alloc (.cells #[.int .i64 g, .slice A n c] 57)) w.heap.size lo hi g A n c zs :=
  ⟨Box.new _ _ _, hs.below (alloc_below w _)⟩
theorem BR.f0 (h : BR w b lo hi g A n c zs) : w.cell? ⟨b, 0, none⟩ = some (.int .i64 g) := h.box.cell 0 rfl
theorem BR.f1 (h : BR w b lo hi g A n c zs) : w.cell? ⟨b, 1, none⟩ = some (.slice A n c) := h.box.cell 1 rfl
end
theorem OwnI.wide {w : World} {lo hi lo' hi' : Nat} {A : Option Addr} {zs : List Int} (h : OwnI w lo hi A zs) (h1 : lo' ≤ lo) (h2 : hi ≤ hi') : OwnI w lo' hi' A zs := by
  rcases h with e | ⟨b, m, f, e, p1, p2, hm, hr, hf⟩
  · exact .inl e
  · exact .inr ⟨b, m, f, e, by omega, by omega, hm, hr, hf⟩
theorem OwnI.far {w : World} {lo hi : Nat} {A : Option Addr} {zs : List Int} (h : OwnI w lo hi A zs) {b : Nat} {t : TypeId} {cs : Array Value} (X : Box w b t cs) (ht : t ≠ 3) (i : Nat) (u : Value) : OwnI (w.setCell ⟨b, i, none⟩ u) lo hi A zs := by
  rcases h with e | ⟨b', m, f, e, p1, p2, hm, hr, hf⟩
  · exact .inl e
  · exact .inr ⟨b', m, f, e, p1, p2, hm, hr.setOther (a := ⟨b, i, none⟩) (by exact (X.ne hr ht).symm) u, hf⟩

set_option maxRecDepth 100000 in
set_option maxHeartbeats 1000000 in
theorem toRoot (g : Int) (A : Option Addr) (n c : Nat) (zs : List Int) (w : World) (hl : zs.length = n) (hn : n ≤ 1048576) (h : IntL w A zs) :
    Calls Try.prog 44 #[.agg #[.int .i64 g, .slice A n c]] w (GivesRoot g zs w) := by
  obtain ⟨W0, hW0⟩ : ∃ W0, W0 = (((w.alloc (.cells #[.int .i64 g, .slice A n c] 54)).alloc (.cells #[.int .i64 0, .slice none 0 0] 57)).alloc (.cells #[.int .i64 g, .slice none 0 0] 57)) := ⟨_, rfl⟩
  have hs0 : W0.heap.size = w.heap.size + 1 + 1 + 1 := by rw [hW0]; simp
  have hb0 : Below w.heap.size w W0 := by rw [hW0]; exact (((Below.refl _ _).alloc (Nat.le_refl _) _).alloc (by simp) _).alloc (by simp; omega) _
  have X1 : Box W0 (w.heap.size + 1) 57 #[.int .i64 0, .slice none 0 0] := by
    rw [hW0]
    simpa using (Box.new (w.alloc (.cells #[.int .i64 g, .slice A n c] 54)) 57 #[.int .i64 0, .slice none 0 0]).alloc (.cells #[.int .i64 g, .slice none 0 0] 57)
  have X2 : Box W0 (w.heap.size + 1 + 1) 57 #[.int .i64 g, .slice none 0 0] := by
    rw [hW0]
    simpa using Box.new ((w.alloc (.cells #[.int .i64 g, .slice A n c] 54)).alloc (.cells #[.int .i64 0, .slice none 0 0] 57)) 57 #[.int .i64 g, .slice none 0 0]
  have HT := Lib.hid (toIntSc A n c zs W0 hl hn (h.below hb0))
  have HX := Lib.hid (And.intro X1 X2)
  have HW0 := Lib.hid hW0
  have HS0 := Lib.hid hs0
  clear hl hn h X1 X2 hW0 hs0
  go_enter Try.func44, Try.ntmps44
  go_wp2_with fail
  rw [← HW0.out]
  refine HT.out.mono ?_
  rintro e w1 ⟨A1, n1, c1, rfl, L1, S1, hcap, hb1⟩
  have Y1 := HX.out.1.step hb1
  have Y2 := HX.out.2.step hb1
  have g1 := Y1.cell 0 rfl
  have g2 := Y1.cell 1 rfl
  have g3 := Y1.frozen 0
  have g4 := Y1.frozen 1
  have g5 := Y2.cell 0 rfl
  have g6 := Y2.cell 1 rfl
  have g7 := Y2.frozen 1
  have HY := Lib.hid (And.intro Y1 Y2)
  have hbs := bt hb0 hb1
  clear HX HT HW0 Y1 Y2
  go_wp2
  refine bodyPost_ret (v := .agg #[.int .i64 g, .slice A1 n1 c1]) (by simp [results, Try.results44, go_sem, g1, g2]) rfl ?_
  refine ⟨_, _, _, rfl, L1, Lib.hid ?_, hcap, ?_⟩
  · have q := (S1.out.wide hb0.size (Nat.le_refl _)).far HY.out.2 (by decide) 1 (.slice A1 n1 c1)
    have y1 := HY.out.1.far (p := ⟨w.heap.size + 1 + 1, 1, none⟩) (by show w.heap.size + 1 ≠ w.heap.size + 1 + 1; omega) (.slice A1 n1 c1)
    exact ((q.far y1 (by decide) 0 _).far (y1.set 0 _) (by decide) 1 _).wide (Nat.le_refl _) (by simp [World.setCell])
  · exact ((hbs.setCell (by show w.heap.size ≤ w.heap.size + 1 + 1; omega) _).setCell (by show w.heap.size ≤ w.heap.size + 1; omega) _).setCell (by show w.heap.size ≤ w.heap.size + 1; omega) _

set_option maxRecDepth 100000 in
theorem eqRootSame (g : Int) (A A' : Option Addr) (n n' c c' : Nat) (zs : List Int) (w : World) (hl : zs.length = n) (hl' : zs.length = n') (hn : n ≤ maxLen) (h : IntL w A zs) (h' : IntL w A' zs) :
    Calls Try.prog 46 #[.agg #[.int .i64 g, .slice A n c], .agg #[.int .i64 g, .slice A' n' c']] w fun e w' => e = .returned (.bool true) ∧ Below w.heap.size w w' := by
  have H1 := Lib.hid (fun W hb => eqIntSame A A' n n' c c' zs W hl hl' hn (h.below hb) (h'.below hb))
  have hb0 : Below w.heap.size w ((w.alloc (.cells #[.int .i64 g, .slice A n c] 57)).alloc (.cells #[.int .i64 g, .slice A' n' c'] 57)) := ((Below.refl _ _).alloc (Nat.le_refl _) _).alloc (by simp) _
  have hq : (g != g) = false := by simp
  clear hl hl' hn h h'
  go_enter Try.func46, Try.ntmps46
  go_wp2_with fail
  refine (H1.out _ hb0).mono ?_
  rintro e w1 ⟨rfl, hb1⟩
  go_wp2
  go_ret
  exact ⟨rfl, bt hb0 hb1⟩

set_option maxRecDepth 100000 in
set_option maxHeartbeats 1000000 in
theorem markRoot (g : Int) (A : Option Addr) (n c lo hi : Nat) (zs : List Int) (w : World) (hl : zs.length = n) (hn : n ≤ 4294967296) (h : OwnI w lo hi A zs) :
    Calls Try.prog 51 #[.agg #[.int .i64 g, .slice A n c], .int .i64 1] w (MarkedIs lo hi A 1 n w) := by
  have hb0 := alloc_below w (.cells #[.int .i64 g, .slice A n c] 57)
  have HC := Lib.hid (markIntSs A n c 1 lo hi zs _ hl (by omega) (by omega) (by omega) (h.below hb0))
  have HT := Lib.hid (Btw.of_below hb0 lo hi)
  clear hl h hb0
  go_enter Try.func51, Try.ntmps51
  go_wp2_with fail
  refine HC.out.mono ?_
  rintro e w1 ⟨rfl, HS1, hb1⟩
  have HB := Lib.hid (HT.out.trans hb1)
  clear hb1 HC HT
  go_wp2
  go_ret
  exact ⟨rfl, HS1, HB.out⟩

set_option maxRecDepth 100000 in
theorem heldRoot (g : Int) (A : Option Addr) (n c : Nat) (w : World) (hn : n ≤ 4294967296) (h : IntL w A (marksI 1 n)) :
    Calls Try.prog 52 #[.agg #[.int .i64 g, .slice A n c], .int .i64 1] w fun e w' => e = .returned (.int .i64 ((1 + n : Nat) : Int)) ∧ Below w.heap.size w w' := by
  have hb0 := alloc_below w (.cells #[.int .i64 g, .slice A n c] 57)
  have HC := Lib.hid (heldIntS A n c 1 _ (by omega) (by omega) (h.below hb0))
  have hp : ¬ (1 : Int) + (n : Int) < 0 := by omega
  clear h
  go_enter Try.func52, Try.ntmps52
  go_wp2_with fail
  refine HC.out.mono ?_
  rintro e w1 ⟨rfl, rfl⟩
  go_wp2
  go_ret
  exact ⟨rfl, hb0⟩
end Go.Proofs.Ytoogaaoknpfkoaa
