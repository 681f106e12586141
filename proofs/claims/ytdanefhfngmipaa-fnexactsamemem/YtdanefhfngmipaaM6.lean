/- Texts of this claim, one behind the other: SameFlash, SameArray, SameFlashA, MemApi, Open, OpenBools, GenOpen. -/
import Derived.Deep.RegionHeld3
import Derived.Deep.Slices
import Derived.Lib.SmallJoins
import Derived.Test.YtdanefhfngmipaaM5
/- Contracts of slices.Equal over []int and []bool, and of both SameFlash. -/
namespace Go.Proofs.Ytdanefhfngmipaa
open Go.RowKit

set_option maxRecDepth 100000 in
set_option maxHeartbeats 1000000 in
theorem equalI (A A' : Option Addr) (n n' c c' : Nat) (ss ss' : List Int) (w : World) (hl : ss.length = n) (hl' : ss'.length = n') (hn : n ≤ maxLen) (hn' : n' ≤ maxLen)
    (h : IntL w A ss) (h' : IntL w A' ss') :
    Calls Try.prog 55 #[.slice A n c, .slice A' n' c'] w fun e w' => e = .returned (.bool (decide (ss = ss'))) ∧ Below w.heap.size w w' := by
  unfold maxLen at hn hn'
  have HL := Lib.hid hl
  have HL' := Lib.hid hl'
  have H := Lib.hid h
  have H' := Lib.hid h'
  clear hl hl' h h'
  by_cases hne : n = n'
  · subst hne
    have hb : ((n : Int) != (n : Int)) = false := by simp
    go_enter Try.func55, Try.ntmps55
    go_wp2
    go_loopw [13] (fun i wr => ∃ k : Nat, k ≤ n ∧ i = .int .i64 k ∧ Hid (ss.take k = ss'.take k) ∧ Below w.heap.size w wr) (fun i _ => n - (intOf i).toNat)
    case atStart => exact ⟨0, Nat.zero_le _, rfl, Lib.hid rfl, Below.refl _ _⟩
    case round =>
      obtain ⟨k, hk, rfl, HT, hbw⟩ := hrel
      by_cases hlt : k < n
      · obtain ⟨b, off, rfl, hc⟩ := (H.out.below hbw) k (by rw [HL.out]; exact hlt)
        obtain ⟨b', off', rfl, hc'⟩ := (H'.out.below hbw) k (by rw [HL'.out]; exact hlt)
        have HN := Lib.hid (fun e => take_next 0 HT.out (by rw [HL.out]; exact hlt) (by rw [HL'.out]; exact hlt) e)
        have HX := Lib.hid (fun e => ne_of_at (l := ss) (m := ss') (k := k) 0 e)
        generalize ss.getD k 0 = x at hc HN HX
        generalize ss'.getD k 0 = y at hc' HN HX
        have hi : (k : Int) < (n : Int) := by omega
        by_cases hE : x = y
        · have hq1 : (x == y) = true := by simp [hE]
          have hq2 : (x != y) = false := by simp [hE]
          have HE := Lib.hid hE
          clear hE
          go_wp2
          go_quiet (fail)
          go_wp2
          go_roundw
          case rel => exact ⟨k + 1, by omega, by go_num, Lib.hid (HN.out HE.out), below_drewN hbw _⟩
          case measure => simp [intOf]; omega
        · have hq1 : (x == y) = false := by simp [hE]
          have hq2 : (x != y) = true := by simp [hE]
          have HE := Lib.hid hE
          clear hE
          go_wp2
          go_quiet (fail)
          go_wp2
          go_ret
          exact ⟨ret_bool (by simp [HX.out HE.out]), below_drewN hbw _⟩
      · go_wp2
        go_ret
        exact ⟨ret_bool (by simp [take_all HT.out (by rw [HL.out]; omega) (by rw [HL'.out]; omega)]), hbw⟩
  · have hb : ((n : Int) != (n' : Int)) = true := by simp; omega
    have HF : Hid (decide (ss = ss') = false) := Lib.hid (by simp; intro e; apply hne; rw [← HL.out, ← HL'.out, e])
    clear hne
    go_enter Try.func55, Try.ntmps55
    go_wp2
    go_ret
    exact ⟨ret_bool HF.out.symm, Below.refl _ _⟩

set_option maxRecDepth 100000 in
set_option maxHeartbeats 1000000 in
theorem equalB (A A' : Option Addr) (n n' c c' : Nat) (ss ss' : List Bool) (w : World) (hl : ss.length = n) (hl' : ss'.length = n') (hn : n ≤ maxLen) (hn' : n' ≤ maxLen)
    (h : BoolL w A ss) (h' : BoolL w A' ss') :
    Calls Try.prog 106 #[.slice A n c, .slice A' n' c'] w fun e w' => e = .returned (.bool (decide (ss = ss'))) ∧ Below w.heap.size w w' := by
  unfold maxLen at hn hn'
  have HL := Lib.hid hl
  have HL' := Lib.hid hl'
  have H := Lib.hid h
  have H' := Lib.hid h'
  clear hl hl' h h'
  by_cases hne : n = n'
  · subst hne
    have hb : ((n : Int) != (n : Int)) = false := by simp
    go_enter Try.func106, Try.ntmps106
    go_wp2
    go_loopw [13] (fun i wr => ∃ k : Nat, k ≤ n ∧ i = .int .i64 k ∧ Hid (ss.take k = ss'.take k) ∧ Below w.heap.size w wr) (fun i _ => n - (intOf i).toNat)
    case atStart => exact ⟨0, Nat.zero_le _, rfl, Lib.hid rfl, Below.refl _ _⟩
    case round =>
      obtain ⟨k, hk, rfl, HT, hbw⟩ := hrel
      by_cases hlt : k < n
      · obtain ⟨b, off, rfl, hc⟩ := (H.out.below hbw) k (by rw [HL.out]; exact hlt)
        obtain ⟨b', off', rfl, hc'⟩ := (H'.out.below hbw) k (by rw [HL'.out]; exact hlt)
        have HN := Lib.hid (fun e => take_next false HT.out (by rw [HL.out]; exact hlt) (by rw [HL'.out]; exact hlt) e)
        have HX := Lib.hid (fun e => ne_of_at (l := ss) (m := ss') (k := k) false e)
        generalize ss.getD k false = x at hc HN HX
        generalize ss'.getD k false = y at hc' HN HX
        have hi : (k : Int) < (n : Int) := by omega
        by_cases hE : x = y
        · have hq1 : (x == y) = true := by simp [hE]
          have hq2 : (x != y) = false := by simp [hE]
          have HE := Lib.hid hE
          clear hE
          go_wp2
          go_quiet (fail)
          go_wp2
          go_roundw
          case rel => exact ⟨k + 1, by omega, by go_num, Lib.hid (HN.out HE.out), below_drewN hbw _⟩
          case measure => simp [intOf]; omega
        · have hq1 : (x == y) = false := by simp [hE]
          have hq2 : (x != y) = true := by simp [hE]
          have HE := Lib.hid hE
          clear hE
          go_wp2
          go_quiet (fail)
          go_wp2
          go_ret
          exact ⟨ret_bool (by simp [HX.out HE.out]), below_drewN hbw _⟩
      · go_wp2
        go_ret
        exact ⟨ret_bool (by simp [take_all HT.out (by rw [HL.out]; omega) (by rw [HL'.out]; omega)]), hbw⟩
  · have hb : ((n : Int) != (n' : Int)) = true := by simp; omega
    have HF : Hid (decide (ss = ss') = false) := Lib.hid (by simp; intro e; apply hne; rw [← HL.out, ← HL'.out, e])
    clear hne
    go_enter Try.func106, Try.ntmps106
    go_wp2
    go_ret
    exact ⟨ret_bool HF.out.symm, Below.refl _ _⟩

def sameFl (zs zs' : List Int) (gs gs' : List Bool) (st st' : Int) : Bool := decide (zs = zs') && (decide (gs = gs') && decide (st = st'))

/-- The same bytes and the same protection. -/
def sameArr (zs zs' : List Int) (gs gs' : List Bool) : Bool := decide (zs = zs') && decide (gs = gs')

set_option maxRecDepth 100000 in
set_option maxHeartbeats 1000000 in
theorem sameArray (A A' C C' : Option Addr) (n n' m m' c c' d d' : Nat) (st st' : Int) (zs zs' : List Int) (gs gs' : List Bool) (w : World)
    (hl : zs.length = n) (hl' : zs'.length = n') (hm : gs.length = m) (hm' : gs'.length = m') (hn : n ≤ maxLen) (hn' : n' ≤ maxLen) (gn : m ≤ maxLen) (gn' : m' ≤ maxLen)
    (h : IntL w A zs) (h' : IntL w A' zs') (g : BoolL w C gs) (g' : BoolL w C' gs') :
    Calls Try.prog 90 #[.agg #[.slice A n c, .slice C m d, .int .i64 st], .agg #[.slice A' n' c', .slice C' m' d', .int .i64 st']] w fun e w' => e = .returned (.bool (sameArr zs zs' gs gs')) ∧ Below w.heap.size w w' := by
  have H1 := Lib.hid (fun W hb => equalI A A' n n' c c' zs zs' W hl hl' hn hn' (h.below hb) (h'.below hb))
  have H2 := Lib.hid (fun W hb => equalB C C' m m' d d' gs gs' W hm hm' gn gn' (g.below hb) (g'.below hb))
  obtain ⟨W0, hW0⟩ : ∃ W0, W0 = ((w.alloc (.cells #[.slice A n c, .slice C m d, .int .i64 st] 26)).alloc (.cells #[.slice A' n' c', .slice C' m' d', .int .i64 st'] 26)) := ⟨_, rfl⟩
  have hb0 : Below w.heap.size w W0 := by rw [hW0]; exact ((Below.refl _ _).alloc (Nat.le_refl _) _).alloc (by simp) _
  have X0 : Hid (Box W0 w.heap.size 26 #[.slice A n c, .slice C m d, .int .i64 st]) := Lib.hid (by rw [hW0]; exact (Box.new _ _ _).alloc _)
  have Y0 : Hid (Box W0 (w.heap.size + 1) 26 #[.slice A' n' c', .slice C' m' d', .int .i64 st']) := Lib.hid (by rw [hW0]; simpa using Box.new (w.alloc (.cells #[.slice A n c, .slice C m d, .int .i64 st] 26)) 26 #[.slice A' n' c', .slice C' m' d', .int .i64 st'])
  have HW0 := Lib.hid hW0
  have HR : Hid (sameArr zs zs' gs gs' = (decide (zs = zs') && decide (gs = gs'))) := Lib.hid rfl
  generalize sameArr zs zs' gs gs' = r at HR
  generalize decide (zs = zs') = q1 at H1 HR
  generalize decide (gs = gs') = q2 at H2 HR
  clear hl hl' hm hm' hn hn' gn gn' h h' g g' hW0
  go_enter Try.func90, Try.ntmps90
  go_wp2_with fail
  rw [← HW0.out]
  refine (H1.out _ hb0).mono ?_
  rintro e w1 ⟨rfl, hb1⟩
  have X1 := Lib.hid (X0.out.step hb1)
  have Y1 := Lib.hid (Y0.out.step hb1)
  have f1 := X1.out.cell 1 rfl
  have f2 := Y1.out.cell 1 rfl
  have hb := bt hb0 hb1
  clear X0 Y0 HW0 hb0 hb1 H1
  cases q1
  · go_wp2
    go_ret
    exact ⟨ret_bool (by rw [HR.out]; rfl), hb⟩
  · go_wp2_with fail
    refine (H2.out _ hb).mono ?_
    rintro e w2 ⟨rfl, hb2⟩
    have hb3 := bt hb hb2
    clear X1 Y1 H2 f1 f2 hb hb2
    go_wp2
    go_ret
    exact ⟨ret_bool (by rw [HR.out]; rfl), hb3⟩

set_option maxRecDepth 100000 in
set_option maxHeartbeats 1000000 in
theorem implSame (A A' C C' : Option Addr) (n n' m m' c c' d d' : Nat) (st st' : Int) (zs zs' : List Int) (gs gs' : List Bool) (w : World)
    (hl : zs.length = n) (hl' : zs'.length = n') (hm : gs.length = m) (hm' : gs'.length = m') (hn : n ≤ maxLen) (hn' : n' ≤ maxLen) (gn : m ≤ maxLen) (gn' : m' ≤ maxLen)
    (h : IntL w A zs) (h' : IntL w A' zs') (g : BoolL w C gs) (g' : BoolL w C' gs') :
    Calls Try.prog 56 #[.agg #[.slice A n c, .slice C m d, .int .i64 st], .agg #[.slice A' n' c', .slice C' m' d', .int .i64 st']] w fun e w' => e = .returned (.bool (sameFl zs zs' gs gs' st st')) ∧ Below w.heap.size w w' := by
  have H1 := Lib.hid (fun W hb => sameArray A A' C C' n n' m m' c c' d d' st st' zs zs' gs gs' W hl hl' hm hm' hn hn' gn gn' (h.below hb) (h'.below hb) (g.below hb) (g'.below hb))
  obtain ⟨W0, hW0⟩ : ∃ W0, W0 = ((w.alloc (.cells #[.slice A n c, .slice C m d, .int .i64 st] 26)).alloc (.cells #[.slice A' n' c', .slice C' m' d', .int .i64 st'] 26)) := ⟨_, rfl⟩
  have hb0 : Below w.heap.size w W0 := by rw [hW0]; exact ((Below.refl _ _).alloc (Nat.le_refl _) _).alloc (by simp) _
  have X0 : Hid (Box W0 w.heap.size 26 #[.slice A n c, .slice C m d, .int .i64 st]) := Lib.hid (by rw [hW0]; exact (Box.new _ _ _).alloc _)
  have Y0 : Hid (Box W0 (w.heap.size + 1) 26 #[.slice A' n' c', .slice C' m' d', .int .i64 st']) := Lib.hid (by rw [hW0]; simpa using Box.new (w.alloc (.cells #[.slice A n c, .slice C m d, .int .i64 st] 26)) 26 #[.slice A' n' c', .slice C' m' d', .int .i64 st'])
  have HW0 := Lib.hid hW0
  have HR : Hid (sameFl zs zs' gs gs' st st' = (sameArr zs zs' gs gs' && decide (st = st'))) := Lib.hid (by unfold sameFl sameArr; rw [Bool.and_assoc])
  generalize sameFl zs zs' gs gs' st st' = r at HR
  generalize sameArr zs zs' gs gs' = q1 at H1 HR
  clear hl hl' hm hm' hn hn' gn gn' h h' g g' hW0
  go_enter Try.func56, Try.ntmps56
  go_wp2_with fail
  rw [← HW0.out]
  refine (H1.out _ hb0).mono ?_
  rintro e w1 ⟨rfl, hb1⟩
  have k1 := (X0.out.step hb1).cell 2 rfl
  have k2 := (Y0.out.step hb1).cell 2 rfl
  have hb := bt hb0 hb1
  clear X0 Y0 HW0 hb0 hb1 H1
  cases q1
  · go_wp2
    go_ret
    exact ⟨ret_bool (by rw [HR.out]; rfl), hb⟩
  · by_cases hE : st = st'
    · have hq : (st == st') = true := by simp [hE]
      have HE := Lib.hid hE
      clear hE
      go_wp2
      go_ret
      exact ⟨ret_bool (by rw [HR.out]; simp [HE.out]), hb⟩
    · have hq : (st == st') = false := by simp [hE]
      have HE := Lib.hid hE
      clear hE
      go_wp2
      go_ret
      exact ⟨ret_bool (by rw [HR.out]; simp [HE.out]), hb⟩

set_option maxRecDepth 100000 in
set_option maxHeartbeats 4000000 in
theorem specSame (A A' C C' : Option Addr) (n n' m m' c c' d d' : Nat) (st st' : Int) (zs zs' : List Int) (gs gs' : List Bool) (w : World)
    (hl : zs.length = n) (hl' : zs'.length = n') (hm : gs.length = m) (hm' : gs'.length = m') (hn : n ≤ maxLen) (hn' : n' ≤ maxLen) (gn : m ≤ maxLen) (gn' : m' ≤ maxLen)
    (h : IntL w A zs) (h' : IntL w A' zs') (g : BoolL w C gs) (g' : BoolL w C' gs') :
    Calls Try.prog 78 #[.agg #[.slice A n c, .slice C m d, .int .i64 st], .agg #[.slice A' n' c', .slice C' m' d', .int .i64 st']] w fun e w' => e = .returned (.bool (sameFl zs zs' gs gs' st st')) ∧ Below w.heap.size w w' := by
  unfold maxLen at hn hn' gn gn'
  have HL := Lib.hid (And.intro hl hl')
  have HM := Lib.hid (And.intro hm hm')
  have H := Lib.hid (And.intro h h')
  have G := Lib.hid (And.intro g g')
  obtain ⟨W0, hW0⟩ : ∃ W0, W0 = ((w.alloc (.cells #[.slice A n c, .slice C m d, .int .i64 st] 26)).alloc (.cells #[.slice A' n' c', .slice C' m' d', .int .i64 st'] 26)) := ⟨_, rfl⟩
  have hb0 : Below w.heap.size w W0 := by rw [hW0]; exact ((Below.refl _ _).alloc (Nat.le_refl _) _).alloc (by simp) _
  have X0 : Hid (Box W0 w.heap.size 26 #[.slice A n c, .slice C m d, .int .i64 st]) := Lib.hid (by rw [hW0]; exact (Box.new _ _ _).alloc _)
  have Y0 : Hid (Box W0 (w.heap.size + 1) 26 #[.slice A' n' c', .slice C' m' d', .int .i64 st']) := Lib.hid (by rw [hW0]; simpa using Box.new (w.alloc (.cells #[.slice A n c, .slice C m d, .int .i64 st] 26)) 26 #[.slice A' n' c', .slice C' m' d', .int .i64 st'])
  have HW0 := Lib.hid hW0
  have HR : Hid (sameFl zs zs' gs gs' st st' = (decide (zs = zs') && (decide (gs = gs') && decide (st = st')))) := Lib.hid rfl
  generalize sameFl zs zs' gs gs' st st' = r at HR
  clear hl hl' hm hm' h h' g g' hW0
  by_cases hS : st = st'
  · subst hS
    have s0 : (st != st) = false := by simp
    by_cases hN : n = n'
    · subst hN
      have s1 : ((n : Int) != (n : Int)) = false := by simp
      by_cases hM : m = m'
      · subst hM
        have s2 : ((m : Int) != (m : Int)) = false := by simp
        go_enter Try.func78, Try.ntmps78
        go_wp2
        rw [← HW0.out]
        clear HW0
        go_loopw [5] (fun i wr => ∃ k : Nat, k ≤ n ∧ i = .int .i64 k ∧ Hid (zs.take k = zs'.take k) ∧ Below w.heap.size w wr ∧ Hid (Box wr w.heap.size 26 #[.slice A n c, .slice C m d, .int .i64 st]) ∧ Hid (Box wr (w.heap.size + 1) 26 #[.slice A' n c', .slice C' m d', .int .i64 st])) (fun i _ => n - (intOf i).toNat)
        case atStart => exact ⟨0, Nat.zero_le _, rfl, Lib.hid rfl, hb0, X0, Y0⟩
        case round =>
          clear hb0 X0 Y0
          obtain ⟨k, hk, rfl, HT, hbw, X, Y⟩ := hrel
          have f0 := X.out.cell 0 rfl
          have f1 := X.out.cell 1 rfl
          have e0 := Y.out.cell 0 rfl
          have e1 := Y.out.cell 1 rfl
          by_cases hlt : k < n
          · obtain ⟨b, off, rfl, hc⟩ := (H.out.1.below hbw) k (by rw [HL.out.1]; exact hlt)
            obtain ⟨b', off', rfl, hc'⟩ := (H.out.2.below hbw) k (by rw [HL.out.2]; exact hlt)
            have HN := Lib.hid (fun e => take_next 0 HT.out (by rw [HL.out.1]; exact hlt) (by rw [HL.out.2]; exact hlt) e)
            have HX := Lib.hid (fun e => ne_of_at (l := zs) (m := zs') (k := k) 0 e)
            generalize zs.getD k 0 = x at hc HN HX
            generalize zs'.getD k 0 = y at hc' HN HX
            have hi : (k : Int) < (n : Int) := by omega
            by_cases hE : x = y
            · have hq1 : (x == y) = true := by simp [hE]
              have hq2 : (x != y) = false := by simp [hE]
              have HE := Lib.hid hE
              clear hE
              go_wp2
              go_quiet (fail)
              go_wp2
              go_roundw
              case rel => exact ⟨k + 1, by omega, by go_num, Lib.hid (HN.out HE.out), below_drewN hbw _, Lib.hid (X.out.drewN _), Lib.hid (Y.out.drewN _)⟩
              case measure => simp [intOf]; omega
            · have hq1 : (x == y) = false := by simp [hE]
              have hq2 : (x != y) = true := by simp [hE]
              have HE := Lib.hid hE
              clear hE
              go_wp2
              go_quiet (fail)
              go_wp2
              go_ret
              exact ⟨ret_bool (by rw [HR.out]; simp [HX.out HE.out]), below_drewN hbw _⟩
          · have HZ := Lib.hid (take_all HT.out (by rw [HL.out.1]; omega) (by rw [HL.out.2]; omega))
            clear HT
            go_wp2
            clear f0 e0 f1 e1
            go_loopw [6] (fun i wr => ∃ k : Nat, k ≤ m ∧ i = .int .i64 k ∧ Hid (gs.take k = gs'.take k) ∧ Below w.heap.size w wr ∧ Hid (Box wr w.heap.size 26 #[.slice A n c, .slice C m d, .int .i64 st]) ∧ Hid (Box wr (w.heap.size + 1) 26 #[.slice A' n c', .slice C' m d', .int .i64 st])) (fun i _ => m - (intOf i).toNat)
            case atStart => exact ⟨0, Nat.zero_le _, rfl, Lib.hid rfl, hbw, X, Y⟩
            case round =>
              clear hbw X Y
              obtain ⟨j, hj, rfl, HT, hbw, X, Y⟩ := hrel
              have f1 := X.out.cell 1 rfl
              have e1 := Y.out.cell 1 rfl
              by_cases hjt : j < m
              · obtain ⟨b, off, rfl, hc⟩ := (G.out.1.below hbw) j (by rw [HM.out.1]; exact hjt)
                obtain ⟨b', off', rfl, hc'⟩ := (G.out.2.below hbw) j (by rw [HM.out.2]; exact hjt)
                have HN := Lib.hid (fun e => take_next false HT.out (by rw [HM.out.1]; exact hjt) (by rw [HM.out.2]; exact hjt) e)
                have HX := Lib.hid (fun e => ne_of_at (l := gs) (m := gs') (k := j) false e)
                generalize gs.getD j false = x at hc HN HX
                generalize gs'.getD j false = y at hc' HN HX
                have hi : (j : Int) < (m : Int) := by omega
                by_cases hE : x = y
                · have hq1 : (x == y) = true := by simp [hE]
                  have hq2 : (x != y) = false := by simp [hE]
                  have HE := Lib.hid hE
                  clear hE
                  go_wp2
                  go_quiet (fail)
                  go_wp2
                  go_roundw
                  case rel => exact ⟨j + 1, by omega, by go_num, Lib.hid (HN.out HE.out), below_drewN hbw _, Lib.hid (X.out.drewN _), Lib.hid (Y.out.drewN _)⟩
                  case measure => simp [intOf]; omega
                · have hq1 : (x == y) = false := by simp [hE]
                  have hq2 : (x != y) = true := by simp [hE]
                  have HE := Lib.hid hE
                  clear hE
                  go_wp2
                  go_quiet (fail)
                  go_wp2
                  go_ret
                  exact ⟨ret_bool (by rw [HR.out]; simp [HX.out HE.out]), below_drewN hbw _⟩
              · have HG := Lib.hid (take_all HT.out (by rw [HM.out.1]; omega) (by rw [HM.out.2]; omega))
                go_wp2
                go_ret
                exact ⟨ret_bool (by rw [HR.out, HZ.out, HG.out]; simp), hbw⟩
      · have s2 : ((m : Int) != (m' : Int)) = true := by simp; omega
        have HF : Hid (r = false) := Lib.hid (by rw [HR.out]; simp; intro _ e; apply hM; rw [← HM.out.1, ← HM.out.2, e])
        clear hM HR
        go_enter Try.func78, Try.ntmps78
        go_wp2
        rw [← HW0.out]
        go_ret
        exact ⟨ret_bool HF.out.symm, hb0⟩
    · have s1 : ((n : Int) != (n' : Int)) = true := by simp; omega
      have HF : Hid (r = false) := Lib.hid (by rw [HR.out]; simp; intro e; exfalso; apply hN; rw [← HL.out.1, ← HL.out.2, e])
      clear hN HR
      go_enter Try.func78, Try.ntmps78
      go_wp2
      rw [← HW0.out]
      go_ret
      exact ⟨ret_bool HF.out.symm, hb0⟩
  · have s0 : (st != st') = true := by simp [hS]
    have HF : Hid (r = false) := Lib.hid (by rw [HR.out]; simp [hS])
    clear hS HR
    go_enter Try.func78, Try.ntmps78
    go_wp2
    rw [← HW0.out]
    go_ret
    exact ⟨ret_bool HF.out.symm, hb0⟩
end Go.Proofs.Ytdanefhfngmipaa

/- Contracts of l04Same and both SameArray. -/
namespace Go.Proofs.Ytdanefhfngmipaa
open Go.RowKit

/-- What SameArray answers. -/
def sameArrC (zs zs' : List Int) (gs gs' : List Bool) (st st' : Int) : Bool × Int := if okFlash zs gs st && okFlash zs' gs' st' then (sameArr zs zs' gs gs', 0) else (false, 1)

end Go.Proofs.Ytdanefhfngmipaa

/- SameFlash and SameArray on leaves. -/
namespace Go.Proofs.Ytdanefhfngmipaa
open Go.RowKit

section
variable (A0 A1 : Option Addr) (c0 c1 : Nat) (d0 : List Int) (d1 : List Bool) (d2 : Int) (B0 B1 : Option Addr) (e0 e1 : Nat) (g0 : List Int) (g1 : List Bool) (g2 : Int) (w : World)
set_option maxRecDepth 100000 in
theorem specSameFlashA (h : RepA w [.slice A0 d0.length c0, .slice A1 d1.length c1] [.I d0, .B d1]) (_c : CapA [.slice A0 d0.length c0, .slice A1 d1.length c1]) (z : szA [.I d0, .B d1] ≤ 1048576)
    (h' : RepA w [.slice B0 g0.length e0, .slice B1 g1.length e1] [.I g0, .B g1]) (_c' : CapA [.slice B0 g0.length e0, .slice B1 g1.length e1]) (z' : szA [.I g0, .B g1] ≤ 1048576) :
    Calls Try.prog 78 #[.agg #[.slice A0 d0.length c0, .slice A1 d1.length c1, .int .i64 d2], .agg #[.slice B0 g0.length e0, .slice B1 g1.length e1, .int .i64 g2]] w fun e w' => e = .returned (.bool (sameFl d0 g0 d1 g1 d2 g2)) ∧ Below w.heap.size w w' := by
  simp only [szA, Lf.sz] at z z'
  exact specSame A0 B0 A1 B1 _ _ _ _ _ _ _ _ d2 g2 d0 g0 d1 g1 w rfl rfl rfl rfl (by unfold maxLen; omega) (by unfold maxLen; omega) (by unfold maxLen; omega) (by unfold maxLen; omega) (repI h.1) (repI h'.1) (repB h.2.1) (repB h'.2.1)
set_option maxRecDepth 100000 in
theorem implSameFlashA (h : RepA w [.slice A0 d0.length c0, .slice A1 d1.length c1] [.I d0, .B d1]) (_c : CapA [.slice A0 d0.length c0, .slice A1 d1.length c1]) (z : szA [.I d0, .B d1] ≤ 1048576)
    (h' : RepA w [.slice B0 g0.length e0, .slice B1 g1.length e1] [.I g0, .B g1]) (_c' : CapA [.slice B0 g0.length e0, .slice B1 g1.length e1]) (z' : szA [.I g0, .B g1] ≤ 1048576) :
    Calls Try.prog 56 #[.agg #[.slice A0 d0.length c0, .slice A1 d1.length c1, .int .i64 d2], .agg #[.slice B0 g0.length e0, .slice B1 g1.length e1, .int .i64 g2]] w fun e w' => e = .returned (.bool (sameFl d0 g0 d1 g1 d2 g2)) ∧ Below w.heap.size w w' := by
  simp only [szA, Lf.sz] at z z'
  exact implSame A0 B0 A1 B1 _ _ _ _ _ _ _ _ d2 g2 d0 g0 d1 g1 w rfl rfl rfl rfl (by unfold maxLen; omega) (by unfold maxLen; omega) (by unfold maxLen; omega) (by unfold maxLen; omega) (repI h.1) (repI h'.1) (repB h.2.1) (repB h'.2.1)
end
end Go.Proofs.Ytdanefhfngmipaa

/- SameMem on both sides; the memory bus's functions on leaves. Written by a script (gen_memapi.py). -/
namespace Go.Proofs.Ytdanefhfngmipaa
open Go.RowKit

set_option maxRecDepth 100000 in
set_option maxHeartbeats 1000000 in
theorem l05Ints (A A' : Option Addr) (n n' c c' : Nat) (ss ss' : List Int) (w : World) (hl : ss.length = n) (hl' : ss'.length = n') (hn : n ≤ maxLen) (hn' : n' ≤ maxLen)
    (h : IntL w A ss) (h' : IntL w A' ss') :
    Calls Try.prog 77 #[.slice A n c, .slice A' n' c'] w fun e w' => e = .returned (.bool (decide (ss = ss'))) ∧ Below w.heap.size w w' := by
  unfold maxLen at hn hn'
  have HL := Lib.hid hl
  have HL' := Lib.hid hl'
  have H := Lib.hid h
  have H' := Lib.hid h'
  clear hl hl' h h'
  by_cases hne : n = n'
  · subst hne
    have hb : ((n : Int) != (n : Int)) = false := by simp
    go_enter Try.func77, Try.ntmps77
    go_wp2
    go_loopw [5] (fun i wr => ∃ k : Nat, k ≤ n ∧ i = .int .i64 k ∧ Hid (ss.take k = ss'.take k) ∧ Below w.heap.size w wr) (fun i _ => n - (intOf i).toNat)
    case atStart => exact ⟨0, Nat.zero_le _, rfl, Lib.hid rfl, Below.refl _ _⟩
    case round =>
      obtain ⟨k, hk, rfl, HT, hbw⟩ := hrel
      by_cases hlt : k < n
      · obtain ⟨b, off, rfl, hc⟩ := (H.out.below hbw) k (by rw [HL.out]; exact hlt)
        obtain ⟨b', off', rfl, hc'⟩ := (H'.out.below hbw) k (by rw [HL'.out]; exact hlt)
        have HN := Lib.hid (fun e => take_next 0 HT.out (by rw [HL.out]; exact hlt) (by rw [HL'.out]; exact hlt) e)
        have HX := Lib.hid (fun e => ne_of_at (l := ss) (m := ss') (k := k) 0 e)
        generalize ss.getD k 0 = x at hc HN HX
        generalize ss'.getD k 0 = y at hc' HN HX
        have hi : (k : Int) < (n : Int) := by omega
        by_cases hE : x = y
        · have hq1 : (x == y) = true := by simp [hE]
          have hq2 : (x != y) = false := by simp [hE]
          have HE := Lib.hid hE
          clear hE
          go_wp2
          go_quiet (fail)
          go_wp2
          go_roundw
          case rel => exact ⟨k + 1, by omega, by go_num, Lib.hid (HN.out HE.out), below_drewN hbw _⟩
          case measure => simp [intOf]; omega
        · have hq1 : (x == y) = false := by simp [hE]
          have hq2 : (x != y) = true := by simp [hE]
          have HE := Lib.hid hE
          clear hE
          go_wp2
          go_quiet (fail)
          go_wp2
          go_ret
          exact ⟨ret_bool (by simp [HX.out HE.out]), below_drewN hbw _⟩
      · go_wp2
        go_ret
        exact ⟨ret_bool (by simp [take_all HT.out (by rw [HL.out]; omega) (by rw [HL'.out]; omega)]), hbw⟩
  · have hb : ((n : Int) != (n' : Int)) = true := by simp; omega
    have HF : Hid (decide (ss = ss') = false) := Lib.hid (by simp; intro e; apply hne; rw [← HL.out, ← HL'.out, e])
    clear hne
    go_enter Try.func77, Try.ntmps77
    go_wp2
    go_ret
    exact ⟨ret_bool HF.out.symm, Below.refl _ _⟩


def sameMm (d0 d1 d2 : List Int) (d3 : List Bool) (d4 : Int) (g0 g1 g2 : List Int) (g3 : List Bool) (g4 : Int) : Bool := decide (d0 = g0) && (decide (d1 = g1) && sameFl d2 g2 d3 g3 d4 g4)
section
variable (A0 A1 A2 A3 : Option Addr) (n0 n1 n2 n3 c0 c1 c2 c3 : Nat) (d0 d1 d2 : List Int) (d3 : List Bool) (d4 : Int) (B0 B1 B2 B3 : Option Addr) (m0 m1 m2 m3 e0 e1 e2 e3 : Nat) (g0 g1 g2 : List Int) (g3 : List Bool) (g4 : Int) (w : World)
set_option maxRecDepth 100000 in
set_option maxHeartbeats 2000000 in
theorem implSameMem (l0 : d0.length = n0) (l1 : d1.length = n1) (l2 : d2.length = n2) (l3 : d3.length = n3) (p0 : g0.length = m0) (p1 : g1.length = m1) (p2 : g2.length = m2) (p3 : g3.length = m3)
    (b0 : n0 ≤ maxLen) (b1 : n1 ≤ maxLen) (b2 : n2 ≤ maxLen) (b3 : n3 ≤ maxLen) (k0 : m0 ≤ maxLen) (k1 : m1 ≤ maxLen) (k2 : m2 ≤ maxLen) (k3 : m3 ≤ maxLen)
    (h0 : IntL w A0 d0) (h1 : IntL w A1 d1) (h2 : IntL w A2 d2) (h3 : BoolL w A3 d3) (j0 : IntL w B0 g0) (j1 : IntL w B1 g1) (j2 : IntL w B2 g2) (j3 : BoolL w B3 g3) :
    Calls Try.prog 19 #[.agg #[.slice A0 n0 c0, .slice A1 n1 c1, .slice A2 n2 c2, .slice A3 n3 c3, .int .i64 d4], .agg #[.slice B0 m0 e0, .slice B1 m1 e1, .slice B2 m2 e2, .slice B3 m3 e3, .int .i64 g4]] w fun e w' => e = .returned (.bool (sameMm d0 d1 d2 d3 d4 g0 g1 g2 g3 g4)) ∧ Below w.heap.size w w' := by
  obtain ⟨W0, hW0⟩ : ∃ W0, W0 = ((w.alloc (.cells #[.slice A0 n0 c0, .slice A1 n1 c1, .slice A2 n2 c2, .slice A3 n3 c3, .int .i64 d4] 28)).alloc (.cells #[.slice B0 m0 e0, .slice B1 m1 e1, .slice B2 m2 e2, .slice B3 m3 e3, .int .i64 g4] 28)) := ⟨_, rfl⟩
  have hb0 : Below w.heap.size w W0 := by rw [hW0]; exact bt (alloc_below _ _) (alloc_below _ _)
  have X0 : Hid (Box W0 w.heap.size 28 #[.slice A0 n0 c0, .slice A1 n1 c1, .slice A2 n2 c2, .slice A3 n3 c3, .int .i64 d4]) := Lib.hid (by rw [hW0]; exact (Box.new _ _ _).alloc _)
  have Y0 : Hid (Box W0 (w.heap.size + 1) 28 #[.slice B0 m0 e0, .slice B1 m1 e1, .slice B2 m2 e2, .slice B3 m3 e3, .int .i64 g4]) := Lib.hid (by rw [hW0]; simpa using Box.new (w.alloc (.cells #[.slice A0 n0 c0, .slice A1 n1 c1, .slice A2 n2 c2, .slice A3 n3 c3, .int .i64 d4] 28)) 28 #[.slice B0 m0 e0, .slice B1 m1 e1, .slice B2 m2 e2, .slice B3 m3 e3, .int .i64 g4])
  have H0 := Lib.hid (fun W (hb : Below w.heap.size w W) => equalI A0 B0 n0 m0 c0 e0 d0 g0 W l0 p0 b0 k0 (h0.below hb) (j0.below hb))
  have H1 := Lib.hid (fun W (hb : Below w.heap.size w W) => equalI A1 B1 n1 m1 c1 e1 d1 g1 W l1 p1 b1 k1 (h1.below hb) (j1.below hb))
  have H2 := Lib.hid (fun W (hb : Below w.heap.size w W) => implSame A2 B2 A3 B3 n2 m2 n3 m3 c2 e2 c3 e3 d4 g4 d2 g2 d3 g3 W l2 p2 l3 p3 b2 k2 b3 k3 (h2.below hb) (j2.below hb) (h3.below hb) (j3.below hb))
  have HR : Hid (sameMm d0 d1 d2 d3 d4 g0 g1 g2 g3 g4 = (decide (d0 = g0) && (decide (d1 = g1) && sameFl d2 g2 d3 g3 d4 g4))) := Lib.hid rfl
  generalize sameMm d0 d1 d2 d3 d4 g0 g1 g2 g3 g4 = r at HR
  generalize decide (d0 = g0) = r0 at H0 HR
  generalize decide (d1 = g1) = r1 at H1 HR
  generalize sameFl d2 g2 d3 g3 d4 g4 = r2 at H2 HR
  have HW0 := Lib.hid hW0
  have x0 := X0.out.cell 0 rfl
  have y0 := Y0.out.cell 0 rfl
  rw [HW0.out] at x0 y0
  clear l0 l1 l2 l3 p0 p1 p2 p3 b0 b1 b2 b3 k0 k1 k2 k3 h0 h1 h2 h3 j0 j1 j2 j3 hW0
  go_enter Try.func19, Try.ntmps19
  go_wp2_with fail
  rw [← HW0.out]
  refine (H0.out _ hb0).mono ?_
  rintro e w1 ⟨rfl, hb1⟩
  have q1 := bt hb0 hb1
  have X1 := X0.out.step hb1
  have Y1 := Y0.out.step hb1
  have x1 := X1.cell 1 rfl
  have y1 := Y1.cell 1 rfl
  have HX1 := Lib.hid (And.intro X1 Y1)
  clear x0 y0 X1 Y1
  cases r0
  · go_wp2
    go_ret
    exact ⟨ret_bool HR.out.symm, q1⟩
  · go_wp2_with fail
    refine (H1.out _ q1).mono ?_
    rintro e w2 ⟨rfl, hb2⟩
    have q2 := bt q1 hb2
    have X2 := HX1.out.1.step hb2
    have Y2 := HX1.out.2.step hb2
    have x2 := X2.cell 2 rfl
    have x3 := X2.cell 3 rfl
    have x4 := X2.cell 4 rfl
    have y2 := Y2.cell 2 rfl
    have y3 := Y2.cell 3 rfl
    have y4 := Y2.cell 4 rfl
    clear x1 y1 X2 Y2 HX1
    cases r1
    · go_wp2
      go_ret
      exact ⟨ret_bool HR.out.symm, q2⟩
    · go_wp2_with fail
      refine (H2.out _ q2).mono ?_
      rintro e w3 ⟨rfl, hb3⟩
      go_wp2
      go_ret
      exact ⟨ret_bool HR.out.symm, bt q2 hb3⟩
set_option maxRecDepth 100000 in
set_option maxHeartbeats 2000000 in
theorem specSameMem (l0 : d0.length = n0) (l1 : d1.length = n1) (l2 : d2.length = n2) (l3 : d3.length = n3) (p0 : g0.length = m0) (p1 : g1.length = m1) (p2 : g2.length = m2) (p3 : g3.length = m3)
    (b0 : n0 ≤ maxLen) (b1 : n1 ≤ maxLen) (b2 : n2 ≤ maxLen) (b3 : n3 ≤ maxLen) (k0 : m0 ≤ maxLen) (k1 : m1 ≤ maxLen) (k2 : m2 ≤ maxLen) (k3 : m3 ≤ maxLen)
    (h0 : IntL w A0 d0) (h1 : IntL w A1 d1) (h2 : IntL w A2 d2) (h3 : BoolL w A3 d3) (j0 : IntL w B0 g0) (j1 : IntL w B1 g1) (j2 : IntL w B2 g2) (j3 : BoolL w B3 g3) :
    Calls Try.prog 40 #[.agg #[.slice A0 n0 c0, .slice A1 n1 c1, .slice A2 n2 c2, .slice A3 n3 c3, .int .i64 d4], .agg #[.slice B0 m0 e0, .slice B1 m1 e1, .slice B2 m2 e2, .slice B3 m3 e3, .int .i64 g4]] w fun e w' => e = .returned (.bool (sameMm d0 d1 d2 d3 d4 g0 g1 g2 g3 g4)) ∧ Below w.heap.size w w' := by
  obtain ⟨W0, hW0⟩ : ∃ W0, W0 = ((w.alloc (.cells #[.slice A0 n0 c0, .slice A1 n1 c1, .slice A2 n2 c2, .slice A3 n3 c3, .int .i64 d4] 28)).alloc (.cells #[.slice B0 m0 e0, .slice B1 m1 e1, .slice B2 m2 e2, .slice B3 m3 e3, .int .i64 g4] 28)) := ⟨_, rfl⟩
  have hb0 : Below w.heap.size w W0 := by rw [hW0]; exact bt (alloc_below _ _) (alloc_below _ _)
  have X0 : Hid (Box W0 w.heap.size 28 #[.slice A0 n0 c0, .slice A1 n1 c1, .slice A2 n2 c2, .slice A3 n3 c3, .int .i64 d4]) := Lib.hid (by rw [hW0]; exact (Box.new _ _ _).alloc _)
  have Y0 : Hid (Box W0 (w.heap.size + 1) 28 #[.slice B0 m0 e0, .slice B1 m1 e1, .slice B2 m2 e2, .slice B3 m3 e3, .int .i64 g4]) := Lib.hid (by rw [hW0]; simpa using Box.new (w.alloc (.cells #[.slice A0 n0 c0, .slice A1 n1 c1, .slice A2 n2 c2, .slice A3 n3 c3, .int .i64 d4] 28)) 28 #[.slice B0 m0 e0, .slice B1 m1 e1, .slice B2 m2 e2, .slice B3 m3 e3, .int .i64 g4])
  have H0 := Lib.hid (fun W (hb : Below w.heap.size w W) => l05Ints A0 B0 n0 m0 c0 e0 d0 g0 W l0 p0 b0 k0 (h0.below hb) (j0.below hb))
  have H1 := Lib.hid (fun W (hb : Below w.heap.size w W) => l05Ints A1 B1 n1 m1 c1 e1 d1 g1 W l1 p1 b1 k1 (h1.below hb) (j1.below hb))
  have H2 := Lib.hid (fun W (hb : Below w.heap.size w W) => specSame A2 B2 A3 B3 n2 m2 n3 m3 c2 e2 c3 e3 d4 g4 d2 g2 d3 g3 W l2 p2 l3 p3 b2 k2 b3 k3 (h2.below hb) (j2.below hb) (h3.below hb) (j3.below hb))
  have HR : Hid (sameMm d0 d1 d2 d3 d4 g0 g1 g2 g3 g4 = (decide (d0 = g0) && (decide (d1 = g1) && sameFl d2 g2 d3 g3 d4 g4))) := Lib.hid rfl
  generalize sameMm d0 d1 d2 d3 d4 g0 g1 g2 g3 g4 = r at HR
  generalize decide (d0 = g0) = r0 at H0 HR
  generalize decide (d1 = g1) = r1 at H1 HR
  generalize sameFl d2 g2 d3 g3 d4 g4 = r2 at H2 HR
  have HW0 := Lib.hid hW0
  have x0 := X0.out.cell 0 rfl
  have y0 := Y0.out.cell 0 rfl
  rw [HW0.out] at x0 y0
  clear l0 l1 l2 l3 p0 p1 p2 p3 b0 b1 b2 b3 k0 k1 k2 k3 h0 h1 h2 h3 j0 j1 j2 j3 hW0
  go_enter Try.func40, Try.ntmps40
  go_wp2_with fail
  rw [← HW0.out]
  refine (H0.out _ hb0).mono ?_
  rintro e w1 ⟨rfl, hb1⟩
  have q1 := bt hb0 hb1
  have X1 := X0.out.step hb1
  have Y1 := Y0.out.step hb1
  have x1 := X1.cell 1 rfl
  have y1 := Y1.cell 1 rfl
  have HX1 := Lib.hid (And.intro X1 Y1)
  clear x0 y0 X1 Y1
  cases r0
  · go_wp2
    go_ret
    exact ⟨ret_bool HR.out.symm, q1⟩
  · go_wp2_with fail
    refine (H1.out _ q1).mono ?_
    rintro e w2 ⟨rfl, hb2⟩
    have q2 := bt q1 hb2
    have X2 := HX1.out.1.step hb2
    have Y2 := HX1.out.2.step hb2
    have x2 := X2.cell 2 rfl
    have x3 := X2.cell 3 rfl
    have x4 := X2.cell 4 rfl
    have y2 := Y2.cell 2 rfl
    have y3 := Y2.cell 3 rfl
    have y4 := Y2.cell 4 rfl
    clear x1 y1 X2 Y2 HX1
    cases r1
    · go_wp2
      go_ret
      exact ⟨ret_bool HR.out.symm, q2⟩
    · go_wp2_with fail
      refine (H2.out _ q2).mono ?_
      rintro e w3 ⟨rfl, hb3⟩
      go_wp2
      go_ret
      exact ⟨ret_bool HR.out.symm, bt q2 hb3⟩
end

theorem putF_bnd (d0 d1 d2 : List Int) (d3 : List Bool) (d4 a v : Int) (h : szA [.I d0, .I d1, .I d2, .B d3] ≤ 1048576) : lenA [.I (putF d0 d1 d2 d3 d4 a v).1, .I (putF d0 d1 d2 d3 d4 a v).2.1, .I (putF d0 d1 d2 d3 d4 a v).2.2.1, .B (putF d0 d1 d2 d3 d4 a v).2.2.2.1] ≤ 4294967296 := by
  have q := Nat.le_trans (szA_len _) h
  simp only [lenA, Lf.len] at q ⊢
  unfold putF
  split
  · simp only [putR_len, putI_len, putZ_len, putG_len]; omega
  · simp
section
variable (A0 A1 A2 A3 : Option Addr) (c0 c1 c2 c3 : Nat) (d0 d1 d2 : List Int) (d3 : List Bool) (d4 : Int) (w : World)
set_option maxRecDepth 100000 in
theorem specMemOKA (h : RepA w [.slice A0 d0.length c0, .slice A1 d1.length c1, .slice A2 d2.length c2, .slice A3 d3.length c3] [.I d0, .I d1, .I d2, .B d3]) (_c : CapA [.slice A0 d0.length c0, .slice A1 d1.length c1, .slice A2 d2.length c2, .slice A3 d3.length c3]) (z : szA [.I d0, .I d1, .I d2, .B d3] ≤ 1048576) :
    Calls Try.prog 28 #[.agg #[.slice A0 d0.length c0, .slice A1 d1.length c1, .slice A2 d2.length c2, .slice A3 d3.length c3, .int .i64 d4]] w fun e w' => e = .returned (.bool (okMem d0 d1 d2 d3 d4)) ∧ Below w.heap.size w w' := by
  simp only [szA, Lf.sz] at z
  exact specMemOK A0 A1 A2 A3 _ _ _ _ c0 c1 c2 c3 d0 d1 d2 d3 d4 w rfl rfl rfl rfl (by unfold maxLen; omega) (by unfold maxLen; omega) (by unfold maxLen; omega) (by unfold maxLen; omega) (repI h.1) (repI h.2.1) (repI h.2.2.1)
set_option maxRecDepth 100000 in
theorem implMemOKA (h : RepA w [.slice A0 d0.length c0, .slice A1 d1.length c1, .slice A2 d2.length c2, .slice A3 d3.length c3] [.I d0, .I d1, .I d2, .B d3]) (_c : CapA [.slice A0 d0.length c0, .slice A1 d1.length c1, .slice A2 d2.length c2, .slice A3 d3.length c3]) (z : szA [.I d0, .I d1, .I d2, .B d3] ≤ 1048576) :
    Calls Try.prog 18 #[.agg #[.slice A0 d0.length c0, .slice A1 d1.length c1, .slice A2 d2.length c2, .slice A3 d3.length c3, .int .i64 d4]] w fun e w' => e = .returned (.bool (okMem d0 d1 d2 d3 d4)) ∧ Below w.heap.size w w' := by
  simp only [szA, Lf.sz] at z
  exact implMemOK A0 A1 A2 A3 _ _ _ _ c0 c1 c2 c3 d0 d1 d2 d3 d4 w rfl rfl rfl rfl (by unfold maxLen; omega) (by unfold maxLen; omega) (by unfold maxLen; omega) (by unfold maxLen; omega) (repI h.1) (repI h.2.1) (repI h.2.2.1)
end
section
variable (A0 A1 A2 A3 : Option Addr) (c0 c1 c2 c3 : Nat) (d0 d1 d2 : List Int) (d3 : List Bool) (d4 : Int) (a : Int) (w : World)
set_option maxRecDepth 100000 in
theorem specBusGetA (h : RepA w [.slice A0 d0.length c0, .slice A1 d1.length c1, .slice A2 d2.length c2, .slice A3 d3.length c3] [.I d0, .I d1, .I d2, .B d3]) (_c : CapA [.slice A0 d0.length c0, .slice A1 d1.length c1, .slice A2 d2.length c2, .slice A3 d3.length c3]) (z : szA [.I d0, .I d1, .I d2, .B d3] ≤ 1048576) :
    Calls Try.prog 39 #[.agg #[.slice A0 d0.length c0, .slice A1 d1.length c1, .slice A2 d2.length c2, .slice A3 d3.length c3, .int .i64 d4], .int .i64 a] w fun e w' => e = .returned (.tuple #[.int .i64 (getF d0 d1 d2 d3 d4 a).1, .int .i64 (getF d0 d1 d2 d3 d4 a).2]) ∧ Below w.heap.size w w' := by
  simp only [szA, Lf.sz] at z
  exact specBusGet A0 A1 A2 A3 _ _ _ _ c0 c1 c2 c3 d0 d1 d2 d3 d4 w a rfl rfl rfl rfl (by unfold maxLen; omega) (by unfold maxLen; omega) (by unfold maxLen; omega) (by unfold maxLen; omega) (repI h.1) (repI h.2.1) (repI h.2.2.1) (repB h.2.2.2.1)
set_option maxRecDepth 100000 in
theorem implBusGetA (h : RepA w [.slice A0 d0.length c0, .slice A1 d1.length c1, .slice A2 d2.length c2, .slice A3 d3.length c3] [.I d0, .I d1, .I d2, .B d3]) (_c : CapA [.slice A0 d0.length c0, .slice A1 d1.length c1, .slice A2 d2.length c2, .slice A3 d3.length c3]) (z : szA [.I d0, .I d1, .I d2, .B d3] ≤ 1048576) :
    Calls Try.prog 15 #[.agg #[.slice A0 d0.length c0, .slice A1 d1.length c1, .slice A2 d2.length c2, .slice A3 d3.length c3, .int .i64 d4], .int .i64 a] w fun e w' => e = .returned (.tuple #[.int .i64 (getF d0 d1 d2 d3 d4 a).1, .int .i64 (getF d0 d1 d2 d3 d4 a).2]) ∧ Below w.heap.size w w' := by
  simp only [szA, Lf.sz] at z
  exact implBusGet A0 A1 A2 A3 _ _ _ _ c0 c1 c2 c3 d0 d1 d2 d3 d4 w a rfl rfl rfl rfl (by unfold maxLen; omega) (by unfold maxLen; omega) (by unfold maxLen; omega) (by unfold maxLen; omega) (repI h.1) (repI h.2.1) (repI h.2.2.1) (repB h.2.2.2.1)
end
section
variable (A0 A1 A2 A3 : Option Addr) (c0 c1 c2 c3 : Nat) (d0 d1 d2 : List Int) (d3 : List Bool) (d4 : Int) (a v : Int) (w : World)
set_option maxRecDepth 100000 in
theorem specBusPutA (h : RepA w [.slice A0 d0.length c0, .slice A1 d1.length c1, .slice A2 d2.length c2, .slice A3 d3.length c3] [.I d0, .I d1, .I d2, .B d3]) (_c : CapA [.slice A0 d0.length c0, .slice A1 d1.length c1, .slice A2 d2.length c2, .slice A3 d3.length c3]) (z : szA [.I d0, .I d1, .I d2, .B d3] ≤ 1048576) :
    Calls Try.prog 14 #[.agg #[.slice A0 d0.length c0, .slice A1 d1.length c1, .slice A2 d2.length c2, .slice A3 d3.length c3, .int .i64 d4], .int .i64 a, .int .i64 v] w (fun e w' => ∃ rA0 rA1 rA2 rA3 rc0 rc1 rc2 rc3, e = .returned (.tuple #[.agg #[.slice rA0 (putF d0 d1 d2 d3 d4 a v).1.length rc0, .slice rA1 (putF d0 d1 d2 d3 d4 a v).2.1.length rc1, .slice rA2 (putF d0 d1 d2 d3 d4 a v).2.2.1.length rc2, .slice rA3 (putF d0 d1 d2 d3 d4 a v).2.2.2.1.length rc3, .int .i64 (putF d0 d1 d2 d3 d4 a v).2.2.2.2.1], .int .i64 (putF d0 d1 d2 d3 d4 a v).2.2.2.2.2]) ∧ Hid (OwnA w' w.heap.size w'.heap.size [.slice rA0 (putF d0 d1 d2 d3 d4 a v).1.length rc0, .slice rA1 (putF d0 d1 d2 d3 d4 a v).2.1.length rc1, .slice rA2 (putF d0 d1 d2 d3 d4 a v).2.2.1.length rc2, .slice rA3 (putF d0 d1 d2 d3 d4 a v).2.2.2.1.length rc3] [.I (putF d0 d1 d2 d3 d4 a v).1, .I (putF d0 d1 d2 d3 d4 a v).2.1, .I (putF d0 d1 d2 d3 d4 a v).2.2.1, .B (putF d0 d1 d2 d3 d4 a v).2.2.2.1]) ∧ Below w.heap.size w w') := by
  simp only [szA, Lf.sz] at z
  exact specBusPut A0 A1 A2 A3 _ _ _ _ c0 c1 c2 c3 d0 d1 d2 d3 d4 w a v rfl rfl rfl rfl (by unfold maxLen; omega) (by unfold maxLen; omega) (by unfold maxLen; omega) (by unfold maxLen; omega) (repI h.1) (repI h.2.1) (repI h.2.2.1) (repB h.2.2.2.1)
set_option maxRecDepth 100000 in
theorem implBusPutA (h : RepA w [.slice A0 d0.length c0, .slice A1 d1.length c1, .slice A2 d2.length c2, .slice A3 d3.length c3] [.I d0, .I d1, .I d2, .B d3]) (_c : CapA [.slice A0 d0.length c0, .slice A1 d1.length c1, .slice A2 d2.length c2, .slice A3 d3.length c3]) (z : szA [.I d0, .I d1, .I d2, .B d3] ≤ 1048576) :
    Calls Try.prog 13 #[.agg #[.slice A0 d0.length c0, .slice A1 d1.length c1, .slice A2 d2.length c2, .slice A3 d3.length c3, .int .i64 d4], .int .i64 a, .int .i64 v] w (fun e w' => ∃ rA0 rA1 rA2 rA3 rc0 rc1 rc2 rc3, e = .returned (.tuple #[.agg #[.slice rA0 (putF d0 d1 d2 d3 d4 a v).1.length rc0, .slice rA1 (putF d0 d1 d2 d3 d4 a v).2.1.length rc1, .slice rA2 (putF d0 d1 d2 d3 d4 a v).2.2.1.length rc2, .slice rA3 (putF d0 d1 d2 d3 d4 a v).2.2.2.1.length rc3, .int .i64 (putF d0 d1 d2 d3 d4 a v).2.2.2.2.1], .int .i64 (putF d0 d1 d2 d3 d4 a v).2.2.2.2.2]) ∧ Hid (OwnA w' w.heap.size w'.heap.size [.slice rA0 (putF d0 d1 d2 d3 d4 a v).1.length rc0, .slice rA1 (putF d0 d1 d2 d3 d4 a v).2.1.length rc1, .slice rA2 (putF d0 d1 d2 d3 d4 a v).2.2.1.length rc2, .slice rA3 (putF d0 d1 d2 d3 d4 a v).2.2.2.1.length rc3] [.I (putF d0 d1 d2 d3 d4 a v).1, .I (putF d0 d1 d2 d3 d4 a v).2.1, .I (putF d0 d1 d2 d3 d4 a v).2.2.1, .B (putF d0 d1 d2 d3 d4 a v).2.2.2.1]) ∧ Below w.heap.size w w') := by
  simp only [szA, Lf.sz] at z
  exact implBusPut A0 A1 A2 A3 _ _ _ _ c0 c1 c2 c3 d0 d1 d2 d3 d4 w a v rfl rfl rfl rfl (by unfold maxLen; omega) (by unfold maxLen; omega) (by unfold maxLen; omega) (by unfold maxLen; omega) (repI h.1) (repI h.2.1) (repI h.2.2.1) (repB h.2.2.2.1)
end
section
variable (A0 A1 A2 A3 : Option Addr) (c0 c1 c2 c3 : Nat) (d0 d1 d2 : List Int) (d3 : List Bool) (d4 : Int) (B0 B1 B2 B3 : Option Addr) (e0 e1 e2 e3 : Nat) (g0 g1 g2 : List Int) (g3 : List Bool) (g4 : Int) (w : World)
set_option maxRecDepth 100000 in
theorem specSameMemA (h : RepA w [.slice A0 d0.length c0, .slice A1 d1.length c1, .slice A2 d2.length c2, .slice A3 d3.length c3] [.I d0, .I d1, .I d2, .B d3]) (_c : CapA [.slice A0 d0.length c0, .slice A1 d1.length c1, .slice A2 d2.length c2, .slice A3 d3.length c3]) (z : szA [.I d0, .I d1, .I d2, .B d3] ≤ 1048576) (h' : RepA w [.slice B0 g0.length e0, .slice B1 g1.length e1, .slice B2 g2.length e2, .slice B3 g3.length e3] [.I g0, .I g1, .I g2, .B g3]) (_c' : CapA [.slice B0 g0.length e0, .slice B1 g1.length e1, .slice B2 g2.length e2, .slice B3 g3.length e3]) (z' : szA [.I g0, .I g1, .I g2, .B g3] ≤ 1048576) :
    Calls Try.prog 40 #[.agg #[.slice A0 d0.length c0, .slice A1 d1.length c1, .slice A2 d2.length c2, .slice A3 d3.length c3, .int .i64 d4], .agg #[.slice B0 g0.length e0, .slice B1 g1.length e1, .slice B2 g2.length e2, .slice B3 g3.length e3, .int .i64 g4]] w fun e w' => e = .returned (.bool (sameMm d0 d1 d2 d3 d4 g0 g1 g2 g3 g4)) ∧ Below w.heap.size w w' := by
  simp only [szA, Lf.sz] at z z'
  exact specSameMem A0 A1 A2 A3 _ _ _ _ c0 c1 c2 c3 d0 d1 d2 d3 d4 B0 B1 B2 B3 _ _ _ _ e0 e1 e2 e3 g0 g1 g2 g3 g4 w rfl rfl rfl rfl rfl rfl rfl rfl (by unfold maxLen; omega) (by unfold maxLen; omega) (by unfold maxLen; omega) (by unfold maxLen; omega) (by unfold maxLen; omega) (by unfold maxLen; omega) (by unfold maxLen; omega) (by unfold maxLen; omega) (repI h.1) (repI h.2.1) (repI h.2.2.1) (repB h.2.2.2.1) (repI h'.1) (repI h'.2.1) (repI h'.2.2.1) (repB h'.2.2.2.1)
set_option maxRecDepth 100000 in
theorem implSameMemA (h : RepA w [.slice A0 d0.length c0, .slice A1 d1.length c1, .slice A2 d2.length c2, .slice A3 d3.length c3] [.I d0, .I d1, .I d2, .B d3]) (_c : CapA [.slice A0 d0.length c0, .slice A1 d1.length c1, .slice A2 d2.length c2, .slice A3 d3.length c3]) (z : szA [.I d0, .I d1, .I d2, .B d3] ≤ 1048576) (h' : RepA w [.slice B0 g0.length e0, .slice B1 g1.length e1, .slice B2 g2.length e2, .slice B3 g3.length e3] [.I g0, .I g1, .I g2, .B g3]) (_c' : CapA [.slice B0 g0.length e0, .slice B1 g1.length e1, .slice B2 g2.length e2, .slice B3 g3.length e3]) (z' : szA [.I g0, .I g1, .I g2, .B g3] ≤ 1048576) :
    Calls Try.prog 19 #[.agg #[.slice A0 d0.length c0, .slice A1 d1.length c1, .slice A2 d2.length c2, .slice A3 d3.length c3, .int .i64 d4], .agg #[.slice B0 g0.length e0, .slice B1 g1.length e1, .slice B2 g2.length e2, .slice B3 g3.length e3, .int .i64 g4]] w fun e w' => e = .returned (.bool (sameMm d0 d1 d2 d3 d4 g0 g1 g2 g3 g4)) ∧ Below w.heap.size w w' := by
  simp only [szA, Lf.sz] at z z'
  exact implSameMem A0 A1 A2 A3 _ _ _ _ c0 c1 c2 c3 d0 d1 d2 d3 d4 B0 B1 B2 B3 _ _ _ _ e0 e1 e2 e3 g0 g1 g2 g3 g4 w rfl rfl rfl rfl rfl rfl rfl rfl (by unfold maxLen; omega) (by unfold maxLen; omega) (by unfold maxLen; omega) (by unfold maxLen; omega) (by unfold maxLen; omega) (by unfold maxLen; omega) (by unfold maxLen; omega) (by unfold maxLen; omega) (repI h.1) (repI h.2.1) (repI h.2.2.1) (repB h.2.2.2.1) (repI h'.1) (repI h'.2.1) (repI h'.2.2.1) (repB h'.2.2.2.1)
end
end Go.Proofs.Ytdanefhfngmipaa

/- A disk that came in, opened: its two slices as lists. Nothing here walks. -/
namespace Go.Proofs.Ytdanefhfngmipaa
open Go.RowKit Go.ChangeShapes Go.WideShapes

section
variable {H : Type} {enc : TypeId × Value → H} {P : Program} {w : World} {spare : Nat → Bool} {held : Bool}

theorem getD_range {α : Type} (n : Nat) (f : Nat → α) (d : α) (i : Nat) (h : i < n) : ((List.range n).map f).getD i d = f i := by
  simp [List.getD_eq_getElem?_getD, h]

theorem add_plain {a : Addr} {b off i : Nat} {v : Value} (h : w.cell? (a.add i) = some v) (ha : a = ⟨b, off, none⟩) : w.cell? ⟨b, off + i, none⟩ = some v := by
  subst ha
  unfold Addr.add at h
  by_cases hi : i = 0
  · subst hi; simpa using h
  · rw [if_neg hi] at h; exact h

theorem open_strs {t e : TypeId} {fuel : Nat} {v : Value} {x : DataW H × List MemPlace} (ht : P.underlying t = some (.slice e)) (he : P.underlying e = some .string) (hce : P.cellsOf e = 1)
    (h : DataW.trod enc P w 0 spare held fuel t [v] = some x) :
    ∃ A n c, ∃ ss : List ByteArray, v = .slice A n c ∧ ss.length = n ∧ n ≤ maxLen ∧ StrL w A ss ∧ FitS ss := by
  rcases Deep.open_slice1 ht hce h with ⟨hcs, _⟩ | ⟨a, len, cap, m, k, V, D, Pl, hcs, _, hl, hm, hmm, _, hx⟩
  · injection hcs with hv _
    exact ⟨none, 0, 0, [], hv, rfl, by unfold maxLen; omega, fun i hi => by simp at hi, fun s hs => by simp at hs⟩
  · injection hcs with hv _
    have hlm : len ≤ m := by rw [hmm]; split <;> omega
    obtain ⟨S, hS⟩ := Deep.choose_lt (n := len) (p := fun i (s : ByteArray) => w.cell? (a.add i) = some (.string s) ∧ s.size ≤ maxLen) (fun i hi => by
      obtain ⟨h1, h2⟩ := hx i (by omega)
      obtain ⟨s, hc, _, hs⟩ := DataW.trod_string he h2
      injection hc with hc _
      exact ⟨s, by rw [← hc]; exact h1, hs⟩)
    refine ⟨some a, len, cap, (List.range len).map S, hv, by simp, by omega, fun i hi => ?_, fun s hs => ?_⟩
    · have hi' : i < len := by simpa using hi
      have h0 := (hS 0 (by omega)).1
      have hsp := World.cell?_spot h0
      obtain ⟨b, off, spot⟩ := a
      have hsp' : spot = none := by simpa [Addr.add] using hsp
      subst hsp'
      exact ⟨b, off, rfl, by rw [getD_range len S _ i hi']; exact add_plain (hS i hi').1 rfl⟩
    · obtain ⟨i, hi, rfl⟩ := List.mem_map.1 hs
      exact (hS i (by simpa using hi)).2

theorem open_writes {t e : TypeId} {f0 f1 : Field} {fuel : Nat} {v : Value} {x : DataW H × List MemPlace} (ht : P.underlying t = some (.slice e)) (he : P.underlying e = some (.struct #[f0, f1])) (hce : P.cellsOf e = 2)
    (h0 : P.underlying f0.type = some (.int .i64)) (h1 : P.underlying f1.type = some .string) (c0 : P.cellsOf f0.type = 1) (c1 : P.cellsOf f1.type = 1) (o0 : f0.offset = 0) (o1 : f1.offset = 1)
    (h : DataW.trod enc P w 0 spare held fuel t [v] = some x) :
    ∃ A n c, ∃ ws : List (Int × ByteArray), v = .slice A n c ∧ ws.length = n ∧ n ≤ maxLen ∧ WrL w A ws ∧ FitW ws := by
  rcases Deep.open_slice ht h with ⟨hcs, _⟩ | ⟨a, len, cap, m, k, D, Pl, hcs, _, hl, hm, hmm, _, hx⟩
  · injection hcs with hv _
    exact ⟨none, 0, 0, [], hv, rfl, by unfold maxLen; omega, fun i hi => by simp at hi, fun s hs => by simp at hs⟩
  · injection hcs with hv _
    have hlm : len ≤ m := by rw [hmm]; split <;> omega
    rw [hce] at hx
    obtain ⟨S, hS⟩ := Deep.choose_lt (n := len) (p := fun i (s : Int × ByteArray) => w.cell? ((a.add (i * 2)).add 0) = some (.int .i64 s.1) ∧ w.cell? ((a.add (i * 2)).add 1) = some (.string s.2) ∧ s.2.size ≤ maxLen) (fun i hi => by
      obtain ⟨cs, g1, g2⟩ := hx i (by omega)
      obtain ⟨_, hlen, hcell⟩ := World.cells?_some g1
      obtain ⟨y0, y1, q, _, _, g3, g4⟩ := trod_struct2 he g2
      rw [o0, c0] at g3
      rw [o1, c1] at g4
      obtain ⟨u0, u1, rfl⟩ : ∃ u0 u1, cs = [u0, u1] := by
        match cs, hlen with
        | [u0, u1], _ => exact ⟨u0, u1, rfl⟩
      obtain ⟨z, hz, _, _⟩ := DataW.trod_int h0 g3
      obtain ⟨s, hs, _, hsz⟩ := DataW.trod_string h1 g4
      simp at hz hs
      have k0 := hcell 0 (by omega)
      have k1 := hcell 1 (by omega)
      simp at k0 k1
      exact ⟨(z, s), by rw [k0, hz], by rw [k1, hs], hsz⟩)
    refine ⟨some a, len, cap, (List.range len).map S, hv, by simp, by omega, fun i hi => ?_, fun s hs => ?_⟩
    · have hi' : i < len := by simpa using hi
      have h0 := (hS 0 (by omega)).1
      have hsp := World.cell?_spot h0
      obtain ⟨b, off, spot⟩ := a
      have hsp' : spot = none := by simpa [Addr.add] using hsp
      subst hsp'
      refine ⟨b, off, rfl, ?_, ?_⟩
      · rw [getD_range len S _ i hi']
        have := (hS i hi').1
        rw [Deep.add_add] at this
        exact add_plain this rfl
      · rw [getD_range len S _ i hi']
        have := (hS i hi').2.1
        rw [Deep.add_add] at this
        have := add_plain (b := b) (off := off) this rfl
        rwa [← Nat.add_assoc] at this
    · obtain ⟨i, hi, rfl⟩ := List.mem_map.1 hs
      exact (hS i (by simpa using hi)).2.2

theorem open_ints64 {t e : TypeId} {fuel : Nat} {v : Value} {x : DataW H × List MemPlace} (ht : P.underlying t = some (.slice e)) (he : P.underlying e = some (.int .i64)) (hce : P.cellsOf e = 1)
    (h : DataW.trod enc P w 0 spare held fuel t [v] = some x) :
    ∃ A n c, ∃ zs : List Int, v = .slice A n c ∧ zs.length = n ∧ n ≤ maxLen ∧ IntL w A zs ∧ ∀ z ∈ zs, (Lit.int .i64 z).wf = true := by
  rcases Deep.open_slice1 ht hce h with ⟨hcs, _⟩ | ⟨a, len, cap, m, k, V, D, Pl, hcs, _, hl, hm, hmm, _, hx⟩
  · injection hcs with hv _
    exact ⟨none, 0, 0, [], hv, rfl, by unfold maxLen; omega, fun i hi => by simp at hi, fun s hs => by simp at hs⟩
  · injection hcs with hv _
    have hlm : len ≤ m := by rw [hmm]; split <;> omega
    obtain ⟨S, hS⟩ := Deep.choose_lt (n := len) (p := fun i (s : Int) => w.cell? (a.add i) = some (.int .i64 s) ∧ (Lit.int .i64 s).wf = true) (fun i hi => by
      obtain ⟨h1, h2⟩ := hx i (by omega)
      obtain ⟨s, hc, _, hs⟩ := DataW.trod_int he h2
      injection hc with hc _
      exact ⟨s, by rw [← hc]; exact h1, hs⟩)
    refine ⟨some a, len, cap, (List.range len).map S, hv, by simp, by omega, fun i hi => ?_, fun s hs => ?_⟩
    · have hi' : i < len := by simpa using hi
      have h0 := (hS 0 (by omega)).1
      have hsp := World.cell?_spot h0
      obtain ⟨b, off, spot⟩ := a
      have hsp' : spot = none := by simpa [Addr.add] using hsp
      subst hsp'
      exact ⟨b, off, rfl, by rw [getD_range len S _ i hi']; exact add_plain (hS i hi').1 rfl⟩
    · obtain ⟨i, hi, rfl⟩ := List.mem_map.1 hs
      exact (hS i (by simpa using hi)).2
end

set_option maxRecDepth 100000 in
theorem cellsStr : Try.prog.cellsOf 9 = 1 := by kernel_rfl
set_option maxRecDepth 100000 in
theorem cellsInt : Try.prog.cellsOf 3 = 1 := by kernel_rfl
end Go.Proofs.Ytdanefhfngmipaa

/- A []bool that came in, opened. -/
namespace Go.Proofs.Ytdanefhfngmipaa
open Go.RowKit Go.ChangeShapes Go.WideShapes

theorem open_bools {H : Type} {enc : TypeId × Value → H} {P : Program} {w : World} {spare : Nat → Bool} {held : Bool} {t e : TypeId} {fuel : Nat} {v : Value} {x : DataW H × List MemPlace} (ht : P.underlying t = some (.slice e)) (he : P.underlying e = some .bool) (hce : P.cellsOf e = 1)
    (h : DataW.trod enc P w 0 spare held fuel t [v] = some x) :
    ∃ A n c, ∃ gs : List Bool, v = .slice A n c ∧ gs.length = n ∧ n ≤ maxLen ∧ BoolL w A gs := by
  rcases Deep.open_slice1 ht hce h with ⟨hcs, _⟩ | ⟨a, len, cap, m, k, V, D, Pl, hcs, _, hl, hm, hmm, _, hx⟩
  · injection hcs with hv _
    exact ⟨none, 0, 0, [], hv, rfl, by unfold maxLen; omega, fun i hi => by simp at hi⟩
  · injection hcs with hv _
    have hlm : len ≤ m := by rw [hmm]; split <;> omega
    obtain ⟨S, hS⟩ := Deep.choose_lt (n := len) (p := fun i (s : Bool) => w.cell? (a.add i) = some (.bool s)) (fun i hi => by
      obtain ⟨h1, h2⟩ := hx i (by omega)
      obtain ⟨s, hc, _⟩ := DataW.trod_bool he h2
      injection hc with hc _
      exact ⟨s, by rw [h1, hc]⟩)
    refine ⟨some a, len, cap, (List.range len).map S, hv, by simp, by omega, fun i hi => ?_⟩
    have hi' : i < len := by simpa using hi
    have h0 := hS 0 (by omega)
    have hsp := World.cell?_spot h0
    obtain ⟨b, off, spot⟩ := a
    have hsp' : spot = none := by simpa [Addr.add] using hsp
    subst hsp'
    have hc := add_plain (hS i hi') rfl
    exact ⟨b, off, rfl, by rw [getD_range len S _ i hi']; exact hc⟩
set_option maxRecDepth 100000 in
theorem cellsBool : Try.prog.cellsOf 4 = 1 := by kernel_rfl
set_option maxRecDepth 100000 in
theorem cellsOfI : Try.prog.cellsOf 23 = 1 := by kernel_rfl
set_option maxRecDepth 100000 in
theorem cellsOfB : Try.prog.cellsOf 24 = 1 := by kernel_rfl
end Go.Proofs.Ytdanefhfngmipaa

/- What came in, opened into leaves. Written by gen_open.py. -/
namespace Go.Proofs.Ytdanefhfngmipaa
open Go.RowKit Go.ChangeShapes Go.WideShapes
section
variable {H : Type} {enc : TypeId × Value → H} {W : World} {spare : Nat → Bool} {held : Bool}
theorem at_field {P : Program} {n : Nat} {fs : Array Field} {cs : List Value} {xs : List (DataW H × List MemPlace)} (hf : ∀ (i : Nat) (f : Field), fs[i]? = some f → DataW.trod enc P W 0 spare held n f.type (List.take (P.cellsOf f.type) (List.drop f.offset cs)) = xs[i]?) (hlen : xs.length = fs.size) (i : Nat) (f : Field) (hi : fs[i]? = some f) (k : Nat) (hk : P.cellsOf f.type = k) : ∃ y, DataW.trod enc P W 0 spare held n f.type (List.take k (List.drop f.offset cs)) = some y := by
  have h := hf i f hi
  have hlt : i < fs.size := (Array.getElem?_eq_some_iff.1 hi).1
  rw [hk, List.getElem?_eq_getElem (by omega)] at h
  exact ⟨_, h⟩
set_option maxRecDepth 100000 in
theorem openI {fuel : Nat} {v : Value} {x : DataW H × List MemPlace} (h : DataW.trod enc Try.prog W 0 spare held fuel 23 [v] = some x) : ∃ A c zs, v = .slice A zs.length c ∧ RepL W v (.I zs) ∧ (Lf.I zs).fit := by
  obtain ⟨A, n, c, zs, rfl, hl, hn, hs, _⟩ := open_ints64 Try.underlying23 Try.underlying3 cellsInt h
  subst hl
  exact ⟨A, c, zs, rfl, ⟨A, c, rfl, hs⟩, hn⟩
set_option maxRecDepth 100000 in
theorem openB {fuel : Nat} {v : Value} {x : DataW H × List MemPlace} (h : DataW.trod enc Try.prog W 0 spare held fuel 24 [v] = some x) : ∃ A c zs, v = .slice A zs.length c ∧ RepL W v (.B zs) ∧ (Lf.B zs).fit := by
  obtain ⟨A, n, c, zs, rfl, hl, hn, hs⟩ := open_bools Try.underlying24 Try.underlying4 cellsBool h
  subst hl
  exact ⟨A, c, zs, rfl, ⟨A, c, rfl, hs⟩, hn⟩
end
theorem list3 {l : List Value} (h : l.length = 3) : ∃ c0 c1 c2 : Value, l = [c0, c1, c2] := by
  match l, h with
  | [c0, c1, c2], _ => exact ⟨c0, c1, c2, rfl⟩
set_option maxRecDepth 100000 in
theorem cellsLFlash : Try.prog.cellsOf 42 = 3 := by kernel_rfl
set_option maxRecDepth 100000 in
theorem opencFlash {H : Type} {enc : TypeId × Value → H} {W : World} {spare : Nat → Bool} {held : Bool} {fuel : Nat} {cs : List Value} {x : DataW H × List MemPlace} (h : DataW.trod enc Try.prog W 0 spare held fuel 42 cs = some x) :
    ∃ (vA0 : Option Addr) (vA1 : Option Addr) (vc0 : Nat) (vc1 : Nat) (d0 : List Int) (d1 : List Bool) (d2 : Int), cs = [.slice vA0 d0.length vc0, .slice vA1 d1.length vc1, .int .i64 d2] ∧ RepA W [.slice vA0 d0.length vc0, .slice vA1 d1.length vc1] [Lf.I d0, Lf.B d1] ∧ FitA [Lf.I d0, Lf.B d1] := by
  obtain ⟨xs, n, _, rfl, hl, hlen, hf⟩ := DataW.trod_struct Try.underlying42 h
  obtain ⟨c0, c1, c2, rfl⟩ := list3 (hl.trans cellsLFlash)
  obtain ⟨y0, h0⟩ : ∃ y, DataW.trod enc Try.prog W 0 spare held n 23 [c0] = some y := at_field hf hlen 0 _ rfl 1 cellsOfI
  obtain ⟨vA0, vc0, d0, e0, R0, G0⟩ := openI h0
  subst e0
  obtain ⟨y1, h1⟩ : ∃ y, DataW.trod enc Try.prog W 0 spare held n 24 [c1] = some y := at_field hf hlen 1 _ rfl 1 cellsOfB
  obtain ⟨vA1, vc1, d1, e1, R1, G1⟩ := openB h1
  subst e1
  obtain ⟨y2, h2⟩ : ∃ y, DataW.trod enc Try.prog W 0 spare held n 3 [c2] = some y := at_field hf hlen 2 _ rfl 1 cellsInt
  obtain ⟨d2, e2, _, _⟩ := DataW.trod_int Try.underlying3 h2
  injection e2 with e2 _
  subst e2
  refine ⟨vA0, vA1, vc0, vc1, d0, d1, d2, rfl, ⟨R0, R1, trivial⟩, ?_⟩
  intro d hd
  simp only [List.mem_cons, List.not_mem_nil, or_false] at hd
  rcases hd with rfl | rfl
  · exact G0
  · exact G1
set_option maxRecDepth 100000 in
theorem openFlash {H : Type} {enc : TypeId × Value → H} {W : World} {r : Reach} {b0 : Nat} {v : Value} {d : DataW H} {p : List MemPlace} (hv : Value.okWide Try.prog W r b0 42 v) (h : DataW.Trod enc Try.prog W 0 (fun _ => true) true 42 v d p) :
    ∃ (vA0 : Option Addr) (vA1 : Option Addr) (vc0 : Nat) (vc1 : Nat) (d0 : List Int) (d1 : List Bool) (d2 : Int), v = .agg #[.slice vA0 d0.length vc0, .slice vA1 d1.length vc1, .int .i64 d2] ∧ RepA W [.slice vA0 d0.length vc0, .slice vA1 d1.length vc1] [Lf.I d0, Lf.B d1] ∧ FitA [Lf.I d0, Lf.B d1] := by
  obtain ⟨cs, rfl, _⟩ := okWide_struct Try.underlying42 hv
  obtain ⟨fuel, hf⟩ := h
  obtain ⟨vA0, vA1, vc0, vc1, d0, d1, d2, e, R, G⟩ := opencFlash hf
  refine ⟨vA0, vA1, vc0, vc1, d0, d1, d2, ?_, R, G⟩
  congr 1
  apply Array.ext'
  simpa [Value.cells] using e
theorem list5 {l : List Value} (h : l.length = 5) : ∃ c0 c1 c2 c3 c4 : Value, l = [c0, c1, c2, c3, c4] := by
  match l, h with
  | [c0, c1, c2, c3, c4], _ => exact ⟨c0, c1, c2, c3, c4, rfl⟩
set_option maxRecDepth 100000 in
theorem cellsLMem : Try.prog.cellsOf 48 = 5 := by kernel_rfl
set_option maxRecDepth 100000 in
theorem opencMem {H : Type} {enc : TypeId × Value → H} {W : World} {spare : Nat → Bool} {held : Bool} {fuel : Nat} {cs : List Value} {x : DataW H × List MemPlace} (h : DataW.trod enc Try.prog W 0 spare held fuel 48 cs = some x) :
    ∃ (vA0 : Option Addr) (vA1 : Option Addr) (vA2 : Option Addr) (vA3 : Option Addr) (vc0 : Nat) (vc1 : Nat) (vc2 : Nat) (vc3 : Nat) (d0 : List Int) (d1 : List Int) (d2 : List Int) (d3 : List Bool) (d4 : Int), cs = [.slice vA0 d0.length vc0, .slice vA1 d1.length vc1, .slice vA2 d2.length vc2, .slice vA3 d3.length vc3, .int .i64 d4] ∧ RepA W [.slice vA0 d0.length vc0, .slice vA1 d1.length vc1, .slice vA2 d2.length vc2, .slice vA3 d3.length vc3] [Lf.I d0, Lf.I d1, Lf.I d2, Lf.B d3] ∧ FitA [Lf.I d0, Lf.I d1, Lf.I d2, Lf.B d3] := by
  obtain ⟨xs, n, _, rfl, hl, hlen, hf⟩ := DataW.trod_struct Try.underlying48 h
  obtain ⟨c0, c1, c2, c3, c4, rfl⟩ := list5 (hl.trans cellsLMem)
  obtain ⟨y0, h0⟩ : ∃ y, DataW.trod enc Try.prog W 0 spare held n 23 [c0] = some y := at_field hf hlen 0 _ rfl 1 cellsOfI
  obtain ⟨vA0, vc0, d0, e0, R0, G0⟩ := openI h0
  subst e0
  obtain ⟨y1, h1⟩ : ∃ y, DataW.trod enc Try.prog W 0 spare held n 23 [c1] = some y := at_field hf hlen 1 _ rfl 1 cellsOfI
  obtain ⟨vA1, vc1, d1, e1, R1, G1⟩ := openI h1
  subst e1
  obtain ⟨y2, h2⟩ : ∃ y, DataW.trod enc Try.prog W 0 spare held n 42 [c2, c3, c4] = some y := at_field hf hlen 2 _ rfl 3 cellsLFlash
  obtain ⟨vA2, vA3, vc2, vc3, d2, d3, d4, e2, R2, G2⟩ := opencFlash h2
  simp only [List.cons.injEq, and_true] at e2
  obtain ⟨rfl, rfl, rfl⟩ := e2
  refine ⟨vA0, vA1, vA2, vA3, vc0, vc1, vc2, vc3, d0, d1, d2, d3, d4, rfl, ⟨R0, R1, R2.1, R2.2.1, trivial⟩, ?_⟩
  intro d hd
  simp only [List.mem_cons, List.not_mem_nil, or_false] at hd
  rcases hd with rfl | rfl | rfl | rfl
  · exact G0
  · exact G1
  · exact G2 _ (by simp)
  · exact G2 _ (by simp)
set_option maxRecDepth 100000 in
theorem openMem {H : Type} {enc : TypeId × Value → H} {W : World} {r : Reach} {b0 : Nat} {v : Value} {d : DataW H} {p : List MemPlace} (hv : Value.okWide Try.prog W r b0 48 v) (h : DataW.Trod enc Try.prog W 0 (fun _ => true) true 48 v d p) :
    ∃ (vA0 : Option Addr) (vA1 : Option Addr) (vA2 : Option Addr) (vA3 : Option Addr) (vc0 : Nat) (vc1 : Nat) (vc2 : Nat) (vc3 : Nat) (d0 : List Int) (d1 : List Int) (d2 : List Int) (d3 : List Bool) (d4 : Int), v = .agg #[.slice vA0 d0.length vc0, .slice vA1 d1.length vc1, .slice vA2 d2.length vc2, .slice vA3 d3.length vc3, .int .i64 d4] ∧ RepA W [.slice vA0 d0.length vc0, .slice vA1 d1.length vc1, .slice vA2 d2.length vc2, .slice vA3 d3.length vc3] [Lf.I d0, Lf.I d1, Lf.I d2, Lf.B d3] ∧ FitA [Lf.I d0, Lf.I d1, Lf.I d2, Lf.B d3] := by
  obtain ⟨cs, rfl, _⟩ := okWide_struct Try.underlying48 hv
  obtain ⟨fuel, hf⟩ := h
  obtain ⟨vA0, vA1, vA2, vA3, vc0, vc1, vc2, vc3, d0, d1, d2, d3, d4, e, R, G⟩ := opencMem hf
  refine ⟨vA0, vA1, vA2, vA3, vc0, vc1, vc2, vc3, d0, d1, d2, d3, d4, ?_, R, G⟩
  congr 1
  apply Array.ext'
  simpa [Value.cells] using e
end Go.Proofs.Ytdanefhfngmipaa
