/- What the law on write cycles uses: FlashDrawn, CycleOf, sameFlash; what a cycle does to a block. -/
import Derived.Test.YtapopagphoiemaaFlashDraw
namespace Go.Proofs.Ytapopagphoiemaa
open Go.RowKit

theorem ByB.step {w w' : World} {A : Option Addr} {zs : List Nat} (h : ByB w w.heap.size A zs) (hb : Below w.heap.size w w') : ByB w' w'.heap.size A zs := fun i hi => by
  obtain ⟨b, off, e, q1, q2, q3⟩ := h i hi
  exact ⟨b, off, e, Nat.lt_of_lt_of_le q1 hb.size, (hb.cell q1).trans q2, q3⟩

set_option maxRecDepth 100000 in
set_option maxHeartbeats 4000000 in
theorem flashDrawn (A : Option Addr) (n c : Nat) (zs : List Nat) (w : World) (hn : n ≤ maxLen) (hl : zs.length = n) (h : ByB w w.heap.size A zs) :
    Calls Try.prog 13 #[.slice A n c] w (GivesFlashX w (fun w' => Below w.heap.size w w')) := by
  obtain ⟨W0, hW0⟩ : ∃ W0, W0 = w.alloc (.cells #[.slice none 0 0, .slice none 0 0, .int .i64 0] 26) := ⟨_, rfl⟩
  have hb0 : Below w.heap.size w W0 := by rw [hW0]; exact alloc_below _ _
  have HY0 : Hid (Box W0 w.heap.size 26 #[.slice none 0 0, .slice none 0 0, .int .i64 0]) := Lib.hid (by rw [hW0]; exact Box.new _ _ _)
  have HC := Lib.hid (srcNew A n c zs W0 hn hl (h.step hb0))
  have HF := Lib.hid (fun W (h : Src W W0.heap.size A n c zs 0) => srcFlash W0.heap.size A n c zs 0 W hn (by omega) h)
  have HW0 := Lib.hid hW0
  clear hn hl h hW0
  go_enter Try.func13, Try.ntmps13
  go_wp2_with fail
  rw [← HW0.out]
  refine HC.out.mono ?_
  rintro e w1 ⟨rfl, S1, hb1⟩
  have HY1 := Lib.hid (HY0.out.step hb1)
  have hsz : w.heap.size + 1 ≤ W0.heap.size := HY0.out.lt
  go_wp2_with fail
  refine (HF.out w1 S1.out).mono ?_
  rintro e w2 ⟨zr, gr, st, A2, c2, C2, d2, HO, rfl, S2, R2, B2⟩
  have Y2 := Lib.hid (HY1.out.btw B2.out.2 (.inl (by omega)))
  have HB2 := Lib.hid ((hb0.trans (hb1.mono (by omega))).trans ((B2.out.2.below (hb1.size)).mono (by omega)))
  have hsz1 : W0.heap.size ≤ w1.heap.size := hb1.size
  have g0 := Y2.out.cell 0 rfl
  have g1 := Y2.out.cell 1 rfl
  have g2 := Y2.out.cell 2 rfl
  have g0z := Y2.out.frozen 0
  have g1z := Y2.out.frozen 1
  have g2z := Y2.out.frozen 2
  clear HC HY0 HY1 S1 B2
  go_wp2
  refine bodyPost_ret (v := .agg #[.slice A2 256 c2, .slice C2 16 d2, .int .i64 st]) (by simp [results, Try.results13, go_sem, g0, g1, g2]) rfl ?_
  exact ⟨zr, gr, st, A2, c2, C2, d2, HO, rfl, Lib.hid ((S2.out.far3 Y2.out _ _ _).wideB (by omega) (by rw [size3]; exact Nat.le_refl _)), Lib.hid ((R2.out.far3 Y2.out _ _ _).wide (by omega) (by rw [size3]; exact Nat.le_refl _)), Lib.hid (below3 HB2.out (Nat.le_refl _) _ _ _)⟩

set_option maxRecDepth 100000 in
set_option maxHeartbeats 4000000 in
theorem cycleOf (A : Option Addr) (n c : Nat) (zs : List Nat) (st : Int) (w : World) (hn : n ≤ maxLen) (hl : zs.length = n) (h : ByB w w.heap.size A zs) :
    Calls Try.prog 14 #[.slice A n c, .int .i64 st] w fun e w' => ∃ k v : Nat, e = .returned (.agg #[.int .i64 k, .int .i64 v]) ∧ (k < 256 ∧ v < 256) ∧ Below w.heap.size w w' := by
  obtain ⟨W0, hW0⟩ : ∃ W0, W0 = w.alloc (.cells #[.int .i64 0, .int .i64 0] 29) := ⟨_, rfl⟩
  have hb0 : Below w.heap.size w W0 := by rw [hW0]; exact alloc_below _ _
  have HY0 : Hid (Box W0 w.heap.size 29 #[.int .i64 0, .int .i64 0]) := Lib.hid (by rw [hW0]; exact Box.new _ _ _)
  have HC := Lib.hid (srcNew A n c zs W0 hn hl (h.step hb0))
  have HW0 := Lib.hid hW0
  clear hn hl h hW0
  go_enter Try.func14, Try.ntmps14
  go_wp2_with fail
  rw [← HW0.out]
  refine HC.out.mono ?_
  rintro e w1 ⟨rfl, S1, hb1⟩
  have HY1 := Lib.hid (HY0.out.step hb1)
  have hsz : w.heap.size + 1 ≤ W0.heap.size := HY0.out.lt
  go_wp2_with fail
  refine (srcCycle st W0.heap.size A n c zs 0 w1 (by omega) S1.out).mono ?_
  rintro e w2 ⟨k, v, rfl, hkv, S2, B2⟩
  have Y2 := Lib.hid (HY1.out.btw B2 (.inl (by omega)))
  have HB2 := Lib.hid ((hb0.trans (hb1.mono (by omega))).trans ((B2.below (hb1.size)).mono (by omega)))
  have g0 := Y2.out.cell 0 rfl
  have g1 := Y2.out.cell 1 rfl
  have g0z := Y2.out.frozen 0
  have g1z := Y2.out.frozen 1
  clear HC HY0 HY1 S1 B2 S2
  go_wp2
  refine bodyPost_ret (v := .agg #[.int .i64 k, .int .i64 v]) (by simp [results, Try.results14, go_sem, g0, g1]) rfl ?_
  exact ⟨k, v, rfl, hkv, (HB2.out.setCell (p := ⟨w.heap.size, 0, none⟩) (Nat.le_refl _) _).setCell (p := ⟨w.heap.size, 1, none⟩) (Nat.le_refl _) _⟩

set_option maxRecDepth 100000 in
theorem lawSameInts (A A' : Option Addr) (n n' c c' : Nat) (zs : List Int) (w : World) (hl : zs.length = n) (hl' : zs.length = n') (hn : n ≤ maxLen) (h : IntL w A zs) (h' : IntL w A' zs) :
    Calls Try.prog 51 #[.slice A n c, .slice A' n' c'] w fun e w' => e = .returned (.bool true) ∧ Below w.heap.size w w' := by
  unfold maxLen at hn
  have HL := Lib.hid hl
  obtain rfl : n = n' := by omega
  have H := Lib.hid h
  have H' := Lib.hid h'
  clear hl hl' h h'
  have hb : ((n : Int) != (n : Int)) = false := by simp
  go_enter Try.func51, Try.ntmps51
  go_wp2
  go_loopw [5] (fun i wr => ∃ k : Nat, k ≤ n ∧ i = .int .i64 k ∧ Below w.heap.size w wr) (fun i _ => n - (intOf i).toNat)
  case atStart => exact ⟨0, Nat.zero_le _, rfl, Below.refl _ _⟩
  case round =>
    obtain ⟨k, hk, rfl, hbw⟩ := hrel
    by_cases hlt : k < n
    · obtain ⟨b, off, rfl, hc⟩ := (H.out.below hbw) k (by rw [HL.out]; exact hlt)
      obtain ⟨b', off', rfl, hc'⟩ := (H'.out.below hbw) k (by rw [HL.out]; exact hlt)
      generalize zs.getD k 0 = x at hc hc'
      have hi : (k : Int) < (n : Int) := by omega
      have hq1 : (x != x) = false := by simp
      have hq2 : (x == x) = true := by simp
      go_wp2
      go_quiet (fail)
      go_wp2
      go_roundw
      case rel => exact ⟨k + 1, by omega, by go_num, below_drewN hbw _⟩
      case measure => simp [intOf]; omega
    · go_wp2
      go_ret
      exact ⟨rfl, hbw⟩

set_option maxRecDepth 100000 in
set_option maxHeartbeats 2000000 in
theorem lawSameFlash (A A' C C' : Option Addr) (n n' m m' c c' d d' : Nat) (st : Int) (zs : List Int) (gs : List Bool) (w : World) (hl : zs.length = n) (hl' : zs.length = n') (hm : gs.length = m) (hm' : gs.length = m') (hn : n ≤ maxLen) (hmm : m ≤ maxLen) (h : IntL w A zs) (h' : IntL w A' zs) (g : BoolL w C gs) (g' : BoolL w C' gs) :
    Calls Try.prog 17 #[.agg #[.slice A n c, .slice C m d, .int .i64 st], .agg #[.slice A' n' c', .slice C' m' d', .int .i64 st]] w fun e w' => e = .returned (.bool true) ∧ Below w.heap.size w w' := by
  obtain ⟨W0, hW0⟩ : ∃ W0, W0 = ((w.alloc (.cells #[.slice A n c, .slice C m d, .int .i64 st] 26)).alloc (.cells #[.slice A' n' c', .slice C' m' d', .int .i64 st] 26)) := ⟨_, rfl⟩
  have hb0 : Below w.heap.size w W0 := by rw [hW0]; exact bt (alloc_below _ _) (alloc_below _ _)
  have X0 : Box W0 w.heap.size 26 #[.slice A n c, .slice C m d, .int .i64 st] := by rw [hW0]; exact (Box.new _ _ _).alloc _
  have Y0 : Box W0 (w.heap.size + 1) 26 #[.slice A' n' c', .slice C' m' d', .int .i64 st] := by rw [hW0]; simpa using Box.new (w.alloc (.cells #[.slice A n c, .slice C m d, .int .i64 st] 26)) 26 #[.slice A' n' c', .slice C' m' d', .int .i64 st]
  have HS := Lib.hid (lawSameInts A A' n n' c c' zs W0 hl hl' hn (h.below hb0) (h'.below hb0))
  have H := Lib.hid g
  have H' := Lib.hid g'
  have HX := Lib.hid (And.intro X0 Y0)
  have HW0 := Lib.hid hW0
  have HM := Lib.hid hm
  obtain rfl : m = m' := by omega
  unfold maxLen at hmm
  have q1 : (st != st) = false := by simp
  have q2 : ((m : Int) != (m : Int)) = false := by simp
  clear hl hl' hm hm' hn h h' g g' X0 Y0 hW0
  go_enter Try.func17, Try.ntmps17
  go_wp2_with fail
  rw [← HW0.out]
  refine HS.out.mono ?_
  rintro e w1 ⟨rfl, hb1⟩
  have X1 := HX.out.1.step hb1
  have Y1 := HX.out.2.step hb1
  have x1 := X1.cell 1 rfl
  have y1 := Y1.cell 1 rfl
  have HX1 := Lib.hid (And.intro X1 Y1)
  have hb := bt hb0 hb1
  clear X1 Y1 HX HW0 hb0 hb1 HS
  go_wp2
  clear x1 y1
  go_loopw [5] (fun i wr => ∃ k : Nat, k ≤ m ∧ i = .int .i64 k ∧ Below w1.heap.size w1 wr) (fun i _ => m - (intOf i).toNat)
  case atStart => exact ⟨0, Nat.zero_le _, rfl, Below.refl _ _⟩
  case round =>
    obtain ⟨k, hk, rfl, hbw⟩ := hrel
    have x1 := (HX1.out.1.step hbw).cell 1 rfl
    have y1 := (HX1.out.2.step hbw).cell 1 rfl
    by_cases hlt : k < m
    · obtain ⟨b, off, rfl, hc⟩ := (H.out.below (bt hb hbw)) k (by rw [HM.out]; exact hlt)
      obtain ⟨b', off', rfl, hc'⟩ := (H'.out.below (bt hb hbw)) k (by rw [HM.out]; exact hlt)
      generalize gs.getD k false = x at hc hc'
      have hi : (k : Int) < (m : Int) := by omega
      have hq1 : (x != x) = false := by simp
      have hq2 : (x == x) = true := by simp
      go_wp2
      go_quiet (fail)
      go_wp2
      go_roundw
      case rel => exact ⟨k + 1, by omega, by go_num, below_drewN hbw _⟩
      case measure => simp [intOf]; omega
    · go_wp2
      go_ret
      exact ⟨rfl, bt hb hbw⟩

/-- p holds from a on, n times. -/
def pre (p : Nat → Bool) (a : Nat) : Nat → Bool
  | 0 => true
  | n + 1 => pre p a n && p (a + n)
theorem pre_all {p : Nat → Bool} {a n : Nat} (h : ∀ i, i < n → p (a + i) = true) : pre p a n = true := by
  induction n with
  | zero => rfl
  | succ n ih => unfold pre; rw [ih (fun i hi => h i (by omega)), h n (by omega)]; rfl
theorem pre_false {p : Nat → Bool} {a n : Nat} (h : pre p a n = false) : pre p a (n + 1) = false := by unfold pre; rw [h]; rfl
theorem pre_next {p : Nat → Bool} {a n : Nat} (h : pre p a n = true) : pre p a (n + 1) = p (a + n) := by rw [pre, h, Bool.true_and]
def eraP (x : List Int) (i : Nat) : Bool := x.getD i 0 == 255
def felP (x z : List Int) (i : Nat) : Bool := (((x.getD i 0).toNat &&& (z.getD i 0).toNat : Nat) : Int) == x.getD i 0
def samP (x z : List Int) (i : Nat) : Bool := x.getD i 0 == z.getD i 0

theorem fel_same {x z : List Int} {i : Nat} (h : x.getD i 0 = z.getD i 0) (h0 : 0 ≤ x.getD i 0) : felP x z i = true := by
  unfold felP
  rw [← h, Nat.and_self, Int.toNat_of_nonneg h0]
  simp
theorem getD_mem {z : List Int} {i : Nat} (h : i < z.length) : z.getD i 0 ∈ z := by
  rw [List.getD_eq_getElem?_getD, List.getElem?_eq_getElem h]; exact List.getElem_mem _
theorem progL_at (zs : List Int) (gs : List Bool) (k v i : Nat) (hi : i < zs.length) : (progL zs gs k v).getD i 0 = if i = k ∧ gs.getD (k / 16) false = false then (((zs.getD k 0).toNat &&& v : Nat) : Int) else zs.getD i 0 := by
  unfold progL
  by_cases hg : gs.getD (k / 16) false = true
  · rw [if_pos hg, if_neg (by rw [hg]; simp)]
  · rw [if_neg hg]
    by_cases e : i = k
    · subst e
      rw [if_pos ⟨rfl, by simpa using hg⟩, List.getD_eq_getElem?_getD, List.getElem?_set_self hi]
      rfl
    · rw [if_neg (fun q => e q.1), List.getD_eq_getElem?_getD, List.getElem?_set_ne (fun q => e q.symm), ← List.getD_eq_getElem?_getD]
theorem eraseL_at (zs : List Int) (gs : List Bool) (b i : Nat) (hi : i < zs.length) : (eraseL zs gs b).getD i 0 = if (b * 16 ≤ i ∧ i < b * 16 + 16) ∧ gs.getD b false = false then 255 else zs.getD i 0 := by
  unfold eraseL
  by_cases hg : gs.getD b false = true
  · rw [if_pos hg, if_neg (by rw [hg]; simp)]
  · rw [if_neg hg, fillR_at _ _ _ _ hi]
    have hg' : gs.getD b false = false := by simpa using hg
    by_cases q : b * 16 ≤ i ∧ i < b * 16 + 16
    · rw [if_pos q, if_pos ⟨q, hg'⟩]
    · rw [if_neg q, if_neg (fun e => q e.1)]
theorem eraseN_at (zs : List Int) (gs : List Bool) (i : Nat) (hi : i < zs.length) : ∀ n, (eraseN zs gs n).getD i 0 = if i / 16 < n ∧ gs.getD (i / 16) false = false then 255 else zs.getD i 0
  | 0 => by rw [if_neg (by omega)]; rfl
  | n + 1 => by
    rw [eraseN, eraseL_at _ _ _ _ (by rw [eraseN_len]; exact hi), eraseN_at zs gs i hi n]
    by_cases q : n * 16 ≤ i ∧ i < n * 16 + 16
    · have e : i / 16 = n := by omega
      rw [e]
      by_cases g : gs.getD n false = false
      · rw [if_pos ⟨q, g⟩, if_pos ⟨by omega, g⟩]
      · rw [if_neg (fun h => g h.2), if_neg (by omega), if_neg (fun h => g h.2)]
    · rw [if_neg (fun h => q h.1)]
      by_cases g : i / 16 < n ∧ gs.getD (i / 16) false = false
      · rw [if_pos g, if_pos ⟨by omega, g.2⟩]
      · rw [if_neg g, if_neg (fun h => g ⟨by omega, h.2⟩)]

/-- What a cycle does to a cell: it is as it was, or its block is not protected and it fell (by programming), or its whole block is erased. -/
theorem cyc_block (zs : List Int) (gs : List Bool) (st : Int) (k v b : Nat) (hz : zs.length = 256) (hzs : ∀ z ∈ zs, 0 ≤ z ∧ z ≤ 255) (hb : b < 16) :
    (∀ i, i < 16 → felP (cycZ zs gs st k v) zs (b * 16 + i) = true) ∧ (gs.getD b false = true → ∀ i, i < 16 → samP (cycZ zs gs st k v) zs (b * 16 + i) = true) ∨ gs.getD b false = false ∧ ∀ i, i < 16 → eraP (cycZ zs gs st k v) (b * 16 + i) = true := by
  have same : ∀ x : List Int, (∀ i, i < 16 → x.getD (b * 16 + i) 0 = zs.getD (b * 16 + i) 0) → (∀ i, i < 16 → felP x zs (b * 16 + i) = true) ∧ (gs.getD b false = true → ∀ i, i < 16 → samP x zs (b * 16 + i) = true) := fun x hx =>
    ⟨fun i hi => fel_same (hx i hi) (by rw [hx i hi]; exact (hzs _ (getD_mem (by omega))).1), fun _ i hi => by unfold samP; rw [hx i hi]; simp⟩
  unfold cycZ
  split
  · left
    constructor
    · intro i hi
      have hm := hzs _ (getD_mem (show b * 16 + i < zs.length by omega))
      by_cases q : b * 16 + i = k ∧ gs.getD (k / 16) false = false
      · unfold felP
        rw [progL_at _ _ _ _ _ (by omega), if_pos q, ← q.1]
        have : ((((zs.getD (b * 16 + i) 0).toNat &&& v : Nat) : Int).toNat &&& (zs.getD (b * 16 + i) 0).toNat) = (zs.getD (b * 16 + i) 0).toNat &&& v := by
          rw [Int.toNat_natCast, Nat.and_comm, ← Nat.and_assoc, Nat.and_self]
        rw [this]; simp
      · exact fel_same (by rw [progL_at _ _ _ _ _ (by omega), if_neg q]) (by rw [progL_at _ _ _ _ _ (by omega), if_neg q]; exact hm.1)
    · intro hg i hi
      unfold samP
      rw [progL_at _ _ _ _ _ (by omega), if_neg]
      · simp
      · rintro ⟨rfl, q⟩
        rw [show (b * 16 + i) / 16 = b by omega, hg] at q
        cases q
  · split
    · unfold wipeZ
      split
      · split
        · by_cases g : gs.getD b false = false
          · right
            refine ⟨g, fun i hi => ?_⟩
            unfold eraP
            rw [eraseN_at _ _ _ (by omega), if_pos ⟨by omega, by rw [show (b * 16 + i) / 16 = b by omega]; exact g⟩]
            rfl
          · left
            exact same _ (fun i hi => by rw [eraseN_at _ _ _ (by omega), if_neg (fun q => g (by have := q.2; rwa [show (b * 16 + i) / 16 = b by omega] at this))])
        · left; exact same _ (fun _ _ => rfl)
      · split
        · by_cases g : b = k / 16 ∧ gs.getD b false = false
          · right
            refine ⟨g.2, fun i hi => ?_⟩
            unfold eraP
            rw [← g.1, eraseL_at _ _ _ _ (by omega), if_pos ⟨by omega, g.2⟩]
            rfl
          · left
            exact same _ (fun i hi => by rw [eraseL_at _ _ _ _ (by omega), if_neg (fun q => g ⟨by omega, by have := q.2; rwa [show k / 16 = b by omega] at this⟩)])
        · left; exact same _ (fun _ _ => rfl)
    · left; exact same _ (fun _ _ => rfl)
theorem cyc_guard (gs : List Bool) (st : Int) (k b : Nat) (h : gs.getD b false = true) (hb : b < gs.length) : (cycG gs st k).getD b false = true := by
  unfold cycG
  split
  · by_cases e : b = k / 16
    · subst e; rw [List.getD_eq_getElem?_getD, List.getElem?_set_self hb]; rfl
    · rw [List.getD_eq_getElem?_getD, List.getElem?_set_ne (fun q => e q.symm), ← List.getD_eq_getElem?_getD]; exact h
  · exact h
end Go.Proofs.Ytapopagphoiemaa
