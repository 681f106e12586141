/- Texts of this claim, one behind the other: DrawForm2. -/
import Derived.Test.YtcchhbkbnbphhaaDrawForm
import Derived.Test.YtcchhbkbnbphhaaM10
/- spec.FormattedDisk, spec.PagesDrawn; laws.sameTexts, told exactly; what Newest, LoadPages and FreeSectors answer of a disk that holds a root. -/
namespace Go.Proofs.Ytcchhbkbnbphhaa
open Go.RowKit

def GivesFormD (w : World) (e : Ending) (w' : World) : Prop :=
  ∃ ss A n c C d g z sl, e = .returned (.agg #[.slice A n c, .slice C 0 d]) ∧ Hid (ss.length = n) ∧ Hid (StrL w' A ss) ∧ Hid (FD ss g z sl ∧ g ≤ 4) ∧ Below w.heap.size w w'
set_option maxRecDepth 100000 in
set_option maxHeartbeats 4000000 in
theorem formDrawn (A : Option Addr) (n c : Nat) (zs : List Nat) (w : World) (hn : n ≤ maxLen) (hl : zs.length = n) (h : ByB w w.heap.size A zs) :
    Calls Try.prog 7 #[.slice A n c] w (GivesFormD w) := by
  obtain ⟨W0, hW0⟩ : ∃ W0, W0 = w.alloc (.cells #[.slice none 0 0, .slice none 0 0] 26) := ⟨_, rfl⟩
  have hb0 : Below w.heap.size w W0 := by rw [hW0]; exact alloc_below _ _
  have HY0 : Hid (Box W0 w.heap.size 26 #[.slice none 0 0, .slice none 0 0]) := Lib.hid (by rw [hW0]; exact Box.new _ _ _)
  have HC := Lib.hid (srcNew A n c zs W0 hn hl (h.step hb0))
  have HW0 := Lib.hid hW0
  have HNn := Lib.hid hn
  clear hn hl h hW0
  go_enter Try.func7, Try.ntmps7
  go_wp2_with fail
  rw [← HW0.out]
  refine HC.out.mono ?_
  rintro e w1 ⟨rfl, S1, hb1⟩
  have HY1 := Lib.hid (HY0.out.step hb1)
  have hsz : w.heap.size + 1 ≤ W0.heap.size := HY0.out.lt
  go_wp2_with fail
  refine (srcForm W0.heap.size A n c zs 0 w1 HNn.out (by omega) S1.out).mono ?_
  rintro e w2 ⟨ss, A2, n2, c2, C2, d2, g, z, sl, rfl, L2, S2, HF, B2⟩
  have Y2 := Lib.hid (HY1.out.btw B2 (.inl (by omega)))
  have HB2 := Lib.hid ((hb0.trans (hb1.mono (by omega))).trans ((B2.below (hb1.size)).mono (by omega)))
  have g0 := Y2.out.cell 0 rfl
  have g1 := Y2.out.cell 1 rfl
  have g2 := Y2.out.frozen 0
  have g3 := Y2.out.frozen 1
  clear HC HY0 HY1 S1 B2
  go_wp2
  refine bodyPost_ret (v := .agg #[.slice A2 n2 c2, .slice C2 0 d2]) (by simp [results, Try.results7, go_sem, g0, g1]) rfl ?_
  have q1 : Below w.heap.size w2 ((w2.setCell ⟨w.heap.size, 0, none⟩ (.slice A2 n2 c2)).setCell ⟨w.heap.size, 1, none⟩ (.slice C2 0 d2)) := ((Below.refl _ _).setCell (p := ⟨w.heap.size, 0, none⟩) (Nat.le_refl _) _).setCell (p := ⟨w.heap.size, 1, none⟩) (Nat.le_refl _) _
  have Y3 := Y2.out.set 0 (.slice A2 n2 c2)
  exact ⟨ss, A2, n2, c2, C2, d2, g, z, sl, rfl, L2, Lib.hid (((S2.out.far Y2.out 0 _).far Y3 1 _).reads), HF, HB2.out.trans q1⟩
def pagesX (zs : List Nat) (n : Nat) : List ByteArray := (pagesN zs 0 (n % 1000) 17).1
theorem pagesX_len (zs : List Nat) (n : Nat) : (pagesX zs n).length = 17 := pagesN_len _ _ _ _
theorem pagesX_size (zs : List Nat) (n : Nat) : ∀ s ∈ pagesX zs n, s.size ≤ 100 := pagesN_size _ _ _ _
def GivesPagesD (ps : List ByteArray) (w : World) (e : Ending) (w' : World) : Prop :=
  ∃ P cp, e = .returned (.slice P 17 cp) ∧ Hid (StrL w' P ps) ∧ Below w.heap.size w w'
set_option maxRecDepth 100000 in
set_option maxHeartbeats 4000000 in
theorem pagesDrawn (A : Option Addr) (n c : Nat) (zs : List Nat) (w : World) (hn : n ≤ maxLen) (hl : zs.length = n) (h : ByB w w.heap.size A zs) :
    Calls Try.prog 8 #[.slice A n c] w (GivesPagesD (pagesX zs n) w) := by
  have HC := Lib.hid (srcNewX A n c zs w hn hl h)
  clear hn hl h
  go_enter Try.func8, Try.ntmps8
  go_wp2_with fail
  refine HC.out.mono ?_
  rintro e w1 ⟨rfl, S1, hb1⟩
  go_wp2_with fail
  refine (srcPages w.heap.size A n c zs 0 (n % 1000) w1 (by omega) S1.out).mono ?_
  rintro e w2 ⟨P, cp, rfl, O2, S2, B2⟩
  go_wp2
  refine bodyPost_ret (v := .slice P 17 cp) (by simp [results, Try.results8, go_sem]) rfl ?_
  exact ⟨P, cp, rfl, Lib.hid O2.out.reads, hb1.trans (B2.below hb1.size)⟩
theorem FD.new {ss : List ByteArray} {g : Int} {z : List Int} {sl : Int} (h : FD ss g z sl) : newOf ss [] = ⟨g, z, sl, 0⟩ := by unfold newOf; rw [if_pos h.ok, h.newest]
theorem FD.load {ss : List ByteArray} {g : Int} {z : List Int} {sl : Int} (h : FD ss g z sl) : loadOf ss [] = (loadL ss [] z, 0) := by unfold loadOf; rw [h.new]; rfl
theorem FD.free {ss : List ByteArray} {g : Int} {z : List Int} {sl : Int} (h : FD ss g z sl) : freeOf ss [] = (freeL z, 0) := by unfold freeOf; rw [h.new]; rfl
theorem FD.fit {ss : List ByteArray} {g : Int} {z : List Int} {sl : Int} (h : FD ss g z sl) : FitS ss := fun s hs => Nat.le_trans (h.small.2 s hs) (by unfold maxLen; omega)
theorem fitW_nil : FitW [] := fun x hx => by cases hx
theorem wrl_nil (w : World) (C : Option Addr) : WrL w C [] := fun i hi => by simp at hi
theorem fit_of {ps : List ByteArray} (h : ∀ s ∈ ps, s.size ≤ 100) : FitS ps := fun s hs => Nat.le_trans (h s hs) (by unfold maxLen; omega)
theorem FD.commit2 {ss ps : List ByteArray} {g : Int} {z : List Int} {sl : Int} (h : FD ss g z sl) (hg : g < 999999) (hl : ps.length = 17) (hps : ∀ s ∈ ps, s.size ≤ 100) :
    ∃ r g' z' sl', commitOf ss [] ps 100 = (r, 0) ∧ FD r g' z' sl' ∧ loadL r [] z' = ps ∧ g' ≤ g + 1 ∧ ((loadL ss [] z = ps ∧ r = ss) ∨ (loadL ss [] z ≠ ps ∧ g' = g + 1 ∧ sl' = 1 - sl)) := by
  rcases h.commit hg hl hps with ⟨e, c⟩ | ⟨e, c, z', f, l⟩
  · exact ⟨ss, g, z, sl, c, h, e, by omega, .inl ⟨e, rfl⟩⟩
  · exact ⟨_, g + 1, z', 1 - sl, by rw [← c], f, l, Int.le_refl _, .inr ⟨e, rfl, rfl⟩⟩
end Go.Proofs.Ytcchhbkbnbphhaa
