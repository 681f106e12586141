/- Texts of this claim, one behind the other: DrawForm2. -/
import Derived.Test.YtcchhbkbnbphhaaDrawForm
import Derived.Test.YtcchhbkbnbphhaaM10
/- spec.FormattedDisk, spec.PagesDrawn; laws.sameTexts, told exactly; what Newest, LoadPages and FreeSectors answer of a disk that holds a root. -/
namespace Go.Proofs.Ytcchhbkbnbphhaa
open Go.RowKit

def GivesFormD (w : World) (e : Ending) (w' : World) : Prop :=
  ∃ ss A n c C d g z sl, e = .returned (.agg #[.slice A n c, .slice C 0 d]) ∧ Hid (ss.length = n) ∧ Hid (StrL w' A ss) ∧ Hid (FD ss g z sl ∧ g ≤ 4) ∧ Below w.heap.size w w'
set_option maxRecDepth 100000 in
set_option maxHeartbeats 4000000 in
theorem formDrawn (A : Option Addr) (n c : Nat) (zs : List Nat) (w : World) (hn : n ≤ maxLen) (hl : zs.length = n) (h : ByB w w.heap.size A zs) :
    Calls Try.prog 7 #[.slice A n c] w (GivesFormD w) := by
  obtain ⟨W0, hW0⟩ : ∃ W0, W0 = w.alloc (.cells #[.slice none 0 0, .slice none 0 0] 26) := ⟨_, rfl⟩
  have hb0 : Below w.heap.size w W0 := by rw [hW0]; exact alloc_below _ _
  have HY0 : Hid (Box W0 w.heap.size 26 #[.slice none 0 0, .slice none 0 0]) := Lib.hid (by rw [hW0]; exact Box.new _ _ _)
  have HC := Lib.hid (srcNew A n c zs W0 hn hl (h.step hb0))
  have HW0 := Lib.hid hW0
  have HNn := Lib.hid hn
  clear hn hl h hW0
  go_enter Try.func7, Try.ntmps7
  go_wp2_with fail
  rw [← HW0.out]
  refine HC.out.mono ?_
  rintro e w1 ⟨rfl, S1, hb1⟩
  have HY1 := Lib.hid (HY0.out.step hb1)
  have hsz : w.heap.size + 1 ≤ W0.heap.size := HY0.out.lt
  go_wp2_with fail
  refine (srcForm W0.heap.size A n c zs 0 w1 HNn.out (by omega) S1.out).mono ?_
  rintro e w2 ⟨ss, A2, n2, c2, C2, d2, g, z, sl, rfl, L2, S2, HF, B2⟩
  have Y2 := Lib.hid (HY1.out.btw B2 (.inl (by omega)))
  have HB2 := Lib.hid ((hb0.trans (hb1.mono (by omega))).trans ((B2.below (hb1.size)).mono (by omega)))
  have g0 := Y2.out.cell 0 rfl
  have g1 := Y2.out.cell 1 rfl
  have g2 := Y2.out.frozen 0
  have g3 := Y2.out.frozen 1
  clear HC HY0 HY1 S1 B2
  go_wp2
  refine bodyPost_ret (v := .agg #[.slice A2 n2 c2, .slice C2 0 d2]) (by simp [results, Try.results7, go_sem, g0, g1]) rfl ?_
  have q1 : Below w.heap.size w2 ((w2.setCell ⟨w.heap.size, 0, none⟩ (.slice A2 n2 c2)).setCell ⟨w.heap.size, 1, none⟩ (.slice C2 0 d2)) := ((Below.refl _ _).setCell (p := ⟨w.heap.size, 0, none⟩) (Nat.le_refl _) _).setCell (p := ⟨w.heap.size, 1, none⟩) (Nat.le_refl _) _
  have Y3 := Y2.out.set 0 (.slice A2 n2 c2)
  exact ⟨ss, A2, n2, c2, C2, d2, g, z, sl, rfl, L2, Lib.hid (((S2.out.far Y2.out 0 _).far Y3 1 _).reads), HF, HB2.out.trans q1⟩
def pagesX (zs : List Nat) (n : Nat) : List ByteArray := (pagesN zs 0 (n % 1000) 17).1
theorem pagesX_len (zs : List Nat) (n : Nat) : (pagesX zs n).length = 17 := pagesN_len _ _ _ _
theorem pagesX_size (zs : List Nat) (n : Nat) : ∀ s ∈ pagesX zs n, s.size ≤ 100 := pagesN_size _ _ _ _
def GivesPagesD (ps : List ByteArray) (w : World) (e : Ending) (w' : World) : Prop :=
  ∃ P cp, e = .returned (.slice P 17 cp) ∧ Hid (StrL w' P ps) ∧ Below w.heap.size w w'
set_option maxRecDepth 100000 in
set_option maxHeartbeats 4000000 in
theorem pagesDrawn (A : Option Addr) (n c : Nat) (zs : List Nat) (w : World) (hn : n ≤ maxLen) (hl : zs.length = n) (h : ByB w w.heap.size A zs) :
    Calls Try.prog 8 #[.slice A n c] w (GivesPagesD (pagesX zs n) w) := by
  have HC := Lib.hid (srcNewX A n c zs w hn hl h)
  clear hn hl h
  go_enter Try.func8, Try.ntmps8
  go_wp2_with fail
  refine HC.out.mono ?_
  rintro e w1 ⟨rfl, S1, hb1⟩
  go_wp2_with fail
  refine (srcPages w.heap.size A n c zs 0 (n % 1000) w1 (by omega) S1.out).mono ?_
  rintro e w2 ⟨P, cp, rfl, O2, S2, B2⟩
  go_wp2
  refine bodyPost_ret (v := .slice P 17 cp) (by simp [results, Try.results8, go_sem]) rfl ?_
  exact ⟨P, cp, rfl, Lib.hid O2.out.reads, hb1.trans (B2.below hb1.size)⟩
theorem texts_step {ss tt : List ByteArray} {k : Nat} (hp : ∀ j, j < k → ss.getD j ByteArray.empty = tt.getD j ByteArray.empty) (e : ss.getD k ByteArray.empty = tt.getD k ByteArray.empty) : ∀ j, j < k + 1 → ss.getD j ByteArray.empty = tt.getD j ByteArray.empty := fun j hj => by
  rcases Nat.lt_or_ge j k with h | h
  · exact hp j h
  · rw [show j = k by omega]; exact e
set_option maxRecDepth 100000 in
set_option maxHeartbeats 2000000 in
theorem sameTextsB (A A' : Option Addr) (n c c' : Nat) (ss tt : List ByteArray) (w : World) (hl : ss.length = n) (hl' : tt.length = n) (hn : n ≤ 1048576) (h : StrL w A ss) (h' : StrL w A' tt) :
    Calls Try.prog 14 #[.slice A n c, .slice A' n c'] w fun e w' => e = .returned (.bool (decide (ss = tt))) ∧ Below w.heap.size w w' := by
  have HL := Lib.hid hl
  have HL' := Lib.hid hl'
  have H := Lib.hid h
  have H' := Lib.hid h'
  clear hl hl' h h'
  have hb : ((n : Int) != (n : Int)) = false := by simp
  go_enter Try.func14, Try.ntmps14
  go_wp2
  go_loopw [5] (fun i wr => ∃ k : Nat, k ≤ n ∧ i = .int .i64 k ∧ Hid (∀ j, j < k → ss.getD j ByteArray.empty = tt.getD j ByteArray.empty) ∧ Below w.heap.size w wr) (fun i _ => n - (intOf i).toNat)
  case atStart => exact ⟨0, Nat.zero_le _, rfl, Lib.hid (fun j hj => absurd hj (Nat.not_lt_zero _)), Below.refl _ _⟩
  case round =>
    obtain ⟨k, hk, rfl, HE, hbw⟩ := hrel
    by_cases hlt : k < n
    · obtain ⟨b, off, rfl, hc⟩ := (H.out.below hbw) k (by rw [HL.out]; exact hlt)
      obtain ⟨b', off', rfl, hc'⟩ := (H'.out.below hbw) k (by rw [HL'.out]; exact hlt)
      obtain ⟨x, hx⟩ : ∃ x, x = ss.getD k ByteArray.empty := ⟨_, rfl⟩
      obtain ⟨y, hy⟩ : ∃ y, y = tt.getD k ByteArray.empty := ⟨_, rfl⟩
      rw [← hx] at hc
      rw [← hy] at hc'
      have HX := Lib.hid hx
      have HY := Lib.hid hy
      have hi : (k : Int) < (n : Int) := by omega
      by_cases hxy : x = y
      · have HE2 := Lib.hid (texts_step HE.out (by rw [← hx, ← hy, hxy]))
        clear hx hy
        subst hxy
        have hq1 : (x.toList == x.toList) = true := by simp
        go_wp2
        go_quiet (fail)
        go_wp2
        go_roundw
        case rel => exact ⟨k + 1, by omega, by go_num, HE2, below_drewN hbw _⟩
        case measure => simp [intOf]; omega
      · clear hx hy
        have hq1 : (x.toList == y.toList) = false := by rw [bytes_beq]; exact decide_eq_false hxy
        have HD : Hid (decide (ss = tt) = false) := Lib.hid (by
          rw [decide_eq_false_iff_not]
          intro q
          exact hxy (by rw [HX.out, HY.out, q]))
        go_wp2
        go_quiet (fail)
        go_wp2
        go_ret
        exact ⟨ret_bool (by rw [HD.out]), below_drewN hbw _⟩
    · have hi : ¬ (k : Int) < (n : Int) := by omega
      obtain rfl : k = n := by omega
      have HD : Hid (decide (ss = tt) = true) := Lib.hid (decide_eq_true (bext HL.out HL'.out HE.out))
      go_wp2
      go_ret
      exact ⟨ret_bool (by rw [HD.out]), hbw⟩
theorem FD.new {ss : List ByteArray} {g : Int} {z : List Int} {sl : Int} (h : FD ss g z sl) : newOf ss [] = ⟨g, z, sl, 0⟩ := by unfold newOf; rw [if_pos h.ok, h.newest]
theorem FD.load {ss : List ByteArray} {g : Int} {z : List Int} {sl : Int} (h : FD ss g z sl) : loadOf ss [] = (loadL ss [] z, 0) := by unfold loadOf; rw [h.new]; rfl
theorem FD.free {ss : List ByteArray} {g : Int} {z : List Int} {sl : Int} (h : FD ss g z sl) : freeOf ss [] = (freeL z, 0) := by unfold freeOf; rw [h.new]; rfl
theorem FD.fit {ss : List ByteArray} {g : Int} {z : List Int} {sl : Int} (h : FD ss g z sl) : FitS ss := fun s hs => Nat.le_trans (h.small.2 s hs) (by unfold maxLen; omega)
theorem fitW_nil : FitW [] := fun x hx => by cases hx
theorem wrl_nil (w : World) (C : Option Addr) : WrL w C [] := fun i hi => by simp at hi
theorem fit_of {ps : List ByteArray} (h : ∀ s ∈ ps, s.size ≤ 100) : FitS ps := fun s hs => Nat.le_trans (h s hs) (by unfold maxLen; omega)
theorem FD.commit2 {ss ps : List ByteArray} {g : Int} {z : List Int} {sl : Int} (h : FD ss g z sl) (hg : g < 999999) (hl : ps.length = 17) (hps : ∀ s ∈ ps, s.size ≤ 100) :
    ∃ r g' z' sl', commitOf ss [] ps 100 = (r, 0) ∧ FD r g' z' sl' ∧ loadL r [] z' = ps ∧ g' ≤ g + 1 ∧ ((loadL ss [] z = ps ∧ r = ss) ∨ (loadL ss [] z ≠ ps ∧ g' = g + 1 ∧ sl' = 1 - sl)) := by
  rcases h.commit hg hl hps with ⟨e, c⟩ | ⟨e, c, z', f, l⟩
  · exact ⟨ss, g, z, sl, c, h, e, by omega, .inl ⟨e, rfl⟩⟩
  · exact ⟨_, g + 1, z', 1 - sl, by rw [← c], f, l, Int.le_refl _, .inr ⟨e, rfl, rfl⟩⟩
end Go.Proofs.Ytcchhbkbnbphhaa
