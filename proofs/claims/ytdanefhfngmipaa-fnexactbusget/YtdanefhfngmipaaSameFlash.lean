/- Contracts of slices.Equal over []int and []bool, and of both SameFlash. -/
import Derived.Test.YtdanefhfngmipaaFlashOk
import Derived.Deep.RegionHeld3
namespace Go.Proofs.Ytdanefhfngmipaa
open Go.RowKit

set_option maxRecDepth 100000 in
set_option maxHeartbeats 1000000 in
theorem equalI (A A' : Option Addr) (n n' c c' : Nat) (ss ss' : List Int) (w : World) (hl : ss.length = n) (hl' : ss'.length = n') (hn : n ≤ maxLen) (hn' : n' ≤ maxLen)
    (h : IntL w A ss) (h' : IntL w A' ss') :
    Calls Try.prog 55 #[.slice A n c, .slice A' n' c'] w fun e w' => e = .returned (.bool (decide (ss = ss'))) ∧ Below w.heap.size w w' := by
  unfold maxLen at hn hn'
  have HL := Lib.hid hl
  have HL' := Lib.hid hl'
  have H := Lib.hid h
  have H' := Lib.hid h'
  clear hl hl' h h'
  by_cases hne : n = n'
  · subst hne
    have hb : ((n : Int) != (n : Int)) = false := by simp
    go_enter Try.func55, Try.ntmps55
    go_wp2
    go_loopw [13] (fun i wr => ∃ k : Nat, k ≤ n ∧ i = .int .i64 k ∧ Hid (ss.take k = ss'.take k) ∧ Below w.heap.size w wr) (fun i _ => n - (intOf i).toNat)
    case atStart => exact ⟨0, Nat.zero_le _, rfl, Lib.hid rfl, Below.refl _ _⟩
    case round =>
      obtain ⟨k, hk, rfl, HT, hbw⟩ := hrel
      by_cases hlt : k < n
      · obtain ⟨b, off, rfl, hc⟩ := (H.out.below hbw) k (by rw [HL.out]; exact hlt)
        obtain ⟨b', off', rfl, hc'⟩ := (H'.out.below hbw) k (by rw [HL'.out]; exact hlt)
        have HN := Lib.hid (fun e => take_next 0 HT.out (by rw [HL.out]; exact hlt) (by rw [HL'.out]; exact hlt) e)
        have HX := Lib.hid (fun e => ne_of_at (l := ss) (m := ss') (k := k) 0 e)
        generalize ss.getD k 0 = x at hc HN HX
        generalize ss'.getD k 0 = y at hc' HN HX
        have hi : (k : Int) < (n : Int) := by omega
        by_cases hE : x = y
        · have hq1 : (x == y) = true := by simp [hE]
          have hq2 : (x != y) = false := by simp [hE]
          have HE := Lib.hid hE
          clear hE
          go_wp2
          go_quiet (fail)
          go_wp2
          go_roundw
          case rel => exact ⟨k + 1, by omega, by go_num, Lib.hid (HN.out HE.out), below_drewN hbw _⟩
          case measure => simp [intOf]; omega
        · have hq1 : (x == y) = false := by simp [hE]
          have hq2 : (x != y) = true := by simp [hE]
          have HE := Lib.hid hE
          clear hE
          go_wp2
          go_quiet (fail)
          go_wp2
          go_ret
          exact ⟨ret_bool (by simp [HX.out HE.out]), below_drewN hbw _⟩
      · go_wp2
        go_ret
        exact ⟨ret_bool (by simp [take_all HT.out (by rw [HL.out]; omega) (by rw [HL'.out]; omega)]), hbw⟩
  · have hb : ((n : Int) != (n' : Int)) = true := by simp; omega
    have HF : Hid (decide (ss = ss') = false) := Lib.hid (by simp; intro e; apply hne; rw [← HL.out, ← HL'.out, e])
    clear hne
    go_enter Try.func55, Try.ntmps55
    go_wp2
    go_ret
    exact ⟨ret_bool HF.out.symm, Below.refl _ _⟩

set_option maxRecDepth 100000 in
set_option maxHeartbeats 1000000 in
theorem equalB (A A' : Option Addr) (n n' c c' : Nat) (ss ss' : List Bool) (w : World) (hl : ss.length = n) (hl' : ss'.length = n') (hn : n ≤ maxLen) (hn' : n' ≤ maxLen)
    (h : BoolL w A ss) (h' : BoolL w A' ss') :
    Calls Try.prog 106 #[.slice A n c, .slice A' n' c'] w fun e w' => e = .returned (.bool (decide (ss = ss'))) ∧ Below w.heap.size w w' := by
  unfold maxLen at hn hn'
  have HL := Lib.hid hl
  have HL' := Lib.hid hl'
  have H := Lib.hid h
  have H' := Lib.hid h'
  clear hl hl' h h'
  by_cases hne : n = n'
  · subst hne
    have hb : ((n : Int) != (n : Int)) = false := by simp
    go_enter Try.func106, Try.ntmps106
    go_wp2
    go_loopw [13] (fun i wr => ∃ k : Nat, k ≤ n ∧ i = .int .i64 k ∧ Hid (ss.take k = ss'.take k) ∧ Below w.heap.size w wr) (fun i _ => n - (intOf i).toNat)
    case atStart => exact ⟨0, Nat.zero_le _, rfl, Lib.hid rfl, Below.refl _ _⟩
    case round =>
      obtain ⟨k, hk, rfl, HT, hbw⟩ := hrel
      by_cases hlt : k < n
      · obtain ⟨b, off, rfl, hc⟩ := (H.out.below hbw) k (by rw [HL.out]; exact hlt)
        obtain ⟨b', off', rfl, hc'⟩ := (H'.out.below hbw) k (by rw [HL'.out]; exact hlt)
        have HN := Lib.hid (fun e => take_next false HT.out (by rw [HL.out]; exact hlt) (by rw [HL'.out]; exact hlt) e)
        have HX := Lib.hid (fun e => ne_of_at (l := ss) (m := ss') (k := k) false e)
        generalize ss.getD k false = x at hc HN HX
        generalize ss'.getD k false = y at hc' HN HX
        have hi : (k : Int) < (n : Int) := by omega
        by_cases hE : x = y
        · have hq1 : (x == y) = true := by simp [hE]
          have hq2 : (x != y) = false := by simp [hE]
          have HE := Lib.hid hE
          clear hE
          go_wp2
          go_quiet (fail)
          go_wp2
          go_roundw
          case rel => exact ⟨k + 1, by omega, by go_num, Lib.hid (HN.out HE.out), below_drewN hbw _⟩
          case measure => simp [intOf]; omega
        · have hq1 : (x == y) = false := by simp [hE]
          have hq2 : (x != y) = true := by simp [hE]
          have HE := Lib.hid hE
          clear hE
          go_wp2
          go_quiet (fail)
          go_wp2
          go_ret
          exact ⟨ret_bool (by simp [HX.out HE.out]), below_drewN hbw _⟩
      · go_wp2
        go_ret
        exact ⟨ret_bool (by simp [take_all HT.out (by rw [HL.out]; omega) (by rw [HL'.out]; omega)]), hbw⟩
  · have hb : ((n : Int) != (n' : Int)) = true := by simp; omega
    have HF : Hid (decide (ss = ss') = false) := Lib.hid (by simp; intro e; apply hne; rw [← HL.out, ← HL'.out, e])
    clear hne
    go_enter Try.func106, Try.ntmps106
    go_wp2
    go_ret
    exact ⟨ret_bool HF.out.symm, Below.refl _ _⟩

def sameFl (zs zs' : List Int) (gs gs' : List Bool) (st st' : Int) : Bool := decide (zs = zs') && (decide (gs = gs') && decide (st = st'))

/-- The same bytes and the same protection. -/
def sameArr (zs zs' : List Int) (gs gs' : List Bool) : Bool := decide (zs = zs') && decide (gs = gs')

set_option maxRecDepth 100000 in
set_option maxHeartbeats 1000000 in
theorem sameArray (A A' C C' : Option Addr) (n n' m m' c c' d d' : Nat) (st st' : Int) (zs zs' : List Int) (gs gs' : List Bool) (w : World)
    (hl : zs.length = n) (hl' : zs'.length = n') (hm : gs.length = m) (hm' : gs'.length = m') (hn : n ≤ maxLen) (hn' : n' ≤ maxLen) (gn : m ≤ maxLen) (gn' : m' ≤ maxLen)
    (h : IntL w A zs) (h' : IntL w A' zs') (g : BoolL w C gs) (g' : BoolL w C' gs') :
    Calls Try.prog 90 #[.agg #[.slice A n c, .slice C m d, .int .i64 st], .agg #[.slice A' n' c', .slice C' m' d', .int .i64 st']] w fun e w' => e = .returned (.bool (sameArr zs zs' gs gs')) ∧ Below w.heap.size w w' := by
  have H1 := Lib.hid (fun W hb => equalI A A' n n' c c' zs zs' W hl hl' hn hn' (h.below hb) (h'.below hb))
  have H2 := Lib.hid (fun W hb => equalB C C' m m' d d' gs gs' W hm hm' gn gn' (g.below hb) (g'.below hb))
  obtain ⟨W0, hW0⟩ : ∃ W0, W0 = ((w.alloc (.cells #[.slice A n c, .slice C m d, .int .i64 st] 26)).alloc (.cells #[.slice A' n' c', .slice C' m' d', .int .i64 st'] 26)) := ⟨_, rfl⟩
  have hb0 : Below w.heap.size w W0 := by rw [hW0]; exact ((Below.refl _ _).alloc (Nat.le_refl _) _).alloc (by simp) _
  have X0 : Hid (Box W0 w.heap.size 26 #[.slice A n c, .slice C m d, .int .i64 st]) := Lib.hid (by rw [hW0]; exact (Box.new _ _ _).alloc _)
  have Y0 : Hid (Box W0 (w.heap.size + 1) 26 #[.slice A' n' c', .slice C' m' d', .int .i64 st']) := Lib.hid (by rw [hW0]; simpa using Box.new (w.alloc (.cells #[.slice A n c, .slice C m d, .int .i64 st] 26)) 26 #[.slice A' n' c', .slice C' m' d', .int .i64 st'])
  have HW0 := Lib.hid hW0
  have HR : Hid (sameArr zs zs' gs gs' = (decide (zs = zs') && decide (gs = gs'))) := Lib.hid rfl
  generalize sameArr zs zs' gs gs' = r at HR
  generalize decide (zs = zs') = q1 at H1 HR
  generalize decide (gs = gs') = q2 at H2 HR
  clear hl hl' hm hm' hn hn' gn gn' h h' g g' hW0
  go_enter Try.func90, Try.ntmps90
  go_wp2_with fail
  rw [← HW0.out]
  refine (H1.out _ hb0).mono ?_
  rintro e w1 ⟨rfl, hb1⟩
  have X1 := Lib.hid (X0.out.step hb1)
  have Y1 := Lib.hid (Y0.out.step hb1)
  have f1 := X1.out.cell 1 rfl
  have f2 := Y1.out.cell 1 rfl
  have hb := bt hb0 hb1
  clear X0 Y0 HW0 hb0 hb1 H1
  cases q1
  · go_wp2
    go_ret
    exact ⟨ret_bool (by rw [HR.out]; rfl), hb⟩
  · go_wp2_with fail
    refine (H2.out _ hb).mono ?_
    rintro e w2 ⟨rfl, hb2⟩
    have hb3 := bt hb hb2
    clear X1 Y1 H2 f1 f2 hb hb2
    go_wp2
    go_ret
    exact ⟨ret_bool (by rw [HR.out]; rfl), hb3⟩

set_option maxRecDepth 100000 in
set_option maxHeartbeats 1000000 in
theorem implSame (A A' C C' : Option Addr) (n n' m m' c c' d d' : Nat) (st st' : Int) (zs zs' : List Int) (gs gs' : List Bool) (w : World)
    (hl : zs.length = n) (hl' : zs'.length = n') (hm : gs.length = m) (hm' : gs'.length = m') (hn : n ≤ maxLen) (hn' : n' ≤ maxLen) (gn : m ≤ maxLen) (gn' : m' ≤ maxLen)
    (h : IntL w A zs) (h' : IntL w A' zs') (g : BoolL w C gs) (g' : BoolL w C' gs') :
    Calls Try.prog 56 #[.agg #[.slice A n c, .slice C m d, .int .i64 st], .agg #[.slice A' n' c', .slice C' m' d', .int .i64 st']] w fun e w' => e = .returned (.bool (sameFl zs zs' gs gs' st st')) ∧ Below w.heap.size w w' := by
  have H1 := Lib.hid (fun W hb => sameArray A A' C C' n n' m m' c c' d d' st st' zs zs' gs gs' W hl hl' hm hm' hn hn' gn gn' (h.below hb) (h'.below hb) (g.below hb) (g'.below hb))
  obtain ⟨W0, hW0⟩ : ∃ W0, W0 = ((w.alloc (.cells #[.slice A n c, .slice C m d, .int .i64 st] 26)).alloc (.cells #[.slice A' n' c', .slice C' m' d', .int .i64 st'] 26)) := ⟨_, rfl⟩
  have hb0 : Below w.heap.size w W0 := by rw [hW0]; exact ((Below.refl _ _).alloc (Nat.le_refl _) _).alloc (by simp) _
  have X0 : Hid (Box W0 w.heap.size 26 #[.slice A n c, .slice C m d, .int .i64 st]) := Lib.hid (by rw [hW0]; exact (Box.new _ _ _).alloc _)
  have Y0 : Hid (Box W0 (w.heap.size + 1) 26 #[.slice A' n' c', .slice C' m' d', .int .i64 st']) := Lib.hid (by rw [hW0]; simpa using Box.new (w.alloc (.cells #[.slice A n c, .slice C m d, .int .i64 st] 26)) 26 #[.slice A' n' c', .slice C' m' d', .int .i64 st'])
  have HW0 := Lib.hid hW0
  have HR : Hid (sameFl zs zs' gs gs' st st' = (sameArr zs zs' gs gs' && decide (st = st'))) := Lib.hid (by unfold sameFl sameArr; rw [Bool.and_assoc])
  generalize sameFl zs zs' gs gs' st st' = r at HR
  generalize sameArr zs zs' gs gs' = q1 at H1 HR
  clear hl hl' hm hm' hn hn' gn gn' h h' g g' hW0
  go_enter Try.func56, Try.ntmps56
  go_wp2_with fail
  rw [← HW0.out]
  refine (H1.out _ hb0).mono ?_
  rintro e w1 ⟨rfl, hb1⟩
  have k1 := (X0.out.step hb1).cell 2 rfl
  have k2 := (Y0.out.step hb1).cell 2 rfl
  have hb := bt hb0 hb1
  clear X0 Y0 HW0 hb0 hb1 H1
  cases q1
  · go_wp2
    go_ret
    exact ⟨ret_bool (by rw [HR.out]; rfl), hb⟩
  · by_cases hE : st = st'
    · have hq : (st == st') = true := by simp [hE]
      have HE := Lib.hid hE
      clear hE
      go_wp2
      go_ret
      exact ⟨ret_bool (by rw [HR.out]; simp [HE.out]), hb⟩
    · have hq : (st == st') = false := by simp [hE]
      have HE := Lib.hid hE
      clear hE
      go_wp2
      go_ret
      exact ⟨ret_bool (by rw [HR.out]; simp [HE.out]), hb⟩

set_option maxRecDepth 100000 in
set_option maxHeartbeats 4000000 in
theorem specSame (A A' C C' : Option Addr) (n n' m m' c c' d d' : Nat) (st st' : Int) (zs zs' : List Int) (gs gs' : List Bool) (w : World)
    (hl : zs.length = n) (hl' : zs'.length = n') (hm : gs.length = m) (hm' : gs'.length = m') (hn : n ≤ maxLen) (hn' : n' ≤ maxLen) (gn : m ≤ maxLen) (gn' : m' ≤ maxLen)
    (h : IntL w A zs) (h' : IntL w A' zs') (g : BoolL w C gs) (g' : BoolL w C' gs') :
    Calls Try.prog 78 #[.agg #[.slice A n c, .slice C m d, .int .i64 st], .agg #[.slice A' n' c', .slice C' m' d', .int .i64 st']] w fun e w' => e = .returned (.bool (sameFl zs zs' gs gs' st st')) ∧ Below w.heap.size w w' := by
  unfold maxLen at hn hn' gn gn'
  have HL := Lib.hid (And.intro hl hl')
  have HM := Lib.hid (And.intro hm hm')
  have H := Lib.hid (And.intro h h')
  have G := Lib.hid (And.intro g g')
  obtain ⟨W0, hW0⟩ : ∃ W0, W0 = ((w.alloc (.cells #[.slice A n c, .slice C m d, .int .i64 st] 26)).alloc (.cells #[.slice A' n' c', .slice C' m' d', .int .i64 st'] 26)) := ⟨_, rfl⟩
  have hb0 : Below w.heap.size w W0 := by rw [hW0]; exact ((Below.refl _ _).alloc (Nat.le_refl _) _).alloc (by simp) _
  have X0 : Hid (Box W0 w.heap.size 26 #[.slice A n c, .slice C m d, .int .i64 st]) := Lib.hid (by rw [hW0]; exact (Box.new _ _ _).alloc _)
  have Y0 : Hid (Box W0 (w.heap.size + 1) 26 #[.slice A' n' c', .slice C' m' d', .int .i64 st']) := Lib.hid (by rw [hW0]; simpa using Box.new (w.alloc (.cells #[.slice A n c, .slice C m d, .int .i64 st] 26)) 26 #[.slice A' n' c', .slice C' m' d', .int .i64 st'])
  have HW0 := Lib.hid hW0
  have HR : Hid (sameFl zs zs' gs gs' st st' = (decide (zs = zs') && (decide (gs = gs') && decide (st = st')))) := Lib.hid rfl
  generalize sameFl zs zs' gs gs' st st' = r at HR
  clear hl hl' hm hm' h h' g g' hW0
  by_cases hS : st = st'
  · subst hS
    have s0 : (st != st) = false := by simp
    by_cases hN : n = n'
    · subst hN
      have s1 : ((n : Int) != (n : Int)) = false := by simp
      by_cases hM : m = m'
      · subst hM
        have s2 : ((m : Int) != (m : Int)) = false := by simp
        go_enter Try.func78, Try.ntmps78
        go_wp2
        rw [← HW0.out]
        clear HW0
        go_loopw [5] (fun i wr => ∃ k : Nat, k ≤ n ∧ i = .int .i64 k ∧ Hid (zs.take k = zs'.take k) ∧ Below w.heap.size w wr ∧ Hid (Box wr w.heap.size 26 #[.slice A n c, .slice C m d, .int .i64 st]) ∧ Hid (Box wr (w.heap.size + 1) 26 #[.slice A' n c', .slice C' m d', .int .i64 st])) (fun i _ => n - (intOf i).toNat)
        case atStart => exact ⟨0, Nat.zero_le _, rfl, Lib.hid rfl, hb0, X0, Y0⟩
        case round =>
          clear hb0 X0 Y0
          obtain ⟨k, hk, rfl, HT, hbw, X, Y⟩ := hrel
          have f0 := X.out.cell 0 rfl
          have f1 := X.out.cell 1 rfl
          have e0 := Y.out.cell 0 rfl
          have e1 := Y.out.cell 1 rfl
          by_cases hlt : k < n
          · obtain ⟨b, off, rfl, hc⟩ := (H.out.1.below hbw) k (by rw [HL.out.1]; exact hlt)
            obtain ⟨b', off', rfl, hc'⟩ := (H.out.2.below hbw) k (by rw [HL.out.2]; exact hlt)
            have HN := Lib.hid (fun e => take_next 0 HT.out (by rw [HL.out.1]; exact hlt) (by rw [HL.out.2]; exact hlt) e)
            have HX := Lib.hid (fun e => ne_of_at (l := zs) (m := zs') (k := k) 0 e)
            generalize zs.getD k 0 = x at hc HN HX
            generalize zs'.getD k 0 = y at hc' HN HX
            have hi : (k : Int) < (n : Int) := by omega
            by_cases hE : x = y
            · have hq1 : (x == y) = true := by simp [hE]
              have hq2 : (x != y) = false := by simp [hE]
              have HE := Lib.hid hE
              clear hE
              go_wp2
              go_quiet (fail)
              go_wp2
              go_roundw
              case rel => exact ⟨k + 1, by omega, by go_num, Lib.hid (HN.out HE.out), below_drewN hbw _, Lib.hid (X.out.drewN _), Lib.hid (Y.out.drewN _)⟩
              case measure => simp [intOf]; omega
            · have hq1 : (x == y) = false := by simp [hE]
              have hq2 : (x != y) = true := by simp [hE]
              have HE := Lib.hid hE
              clear hE
              go_wp2
              go_quiet (fail)
              go_wp2
              go_ret
              exact ⟨ret_bool (by rw [HR.out]; simp [HX.out HE.out]), below_drewN hbw _⟩
          · have HZ := Lib.hid (take_all HT.out (by rw [HL.out.1]; omega) (by rw [HL.out.2]; omega))
            clear HT
            go_wp2
            clear f0 e0 f1 e1
            go_loopw [6] (fun i wr => ∃ k : Nat, k ≤ m ∧ i = .int .i64 k ∧ Hid (gs.take k = gs'.take k) ∧ Below w.heap.size w wr ∧ Hid (Box wr w.heap.size 26 #[.slice A n c, .slice C m d, .int .i64 st]) ∧ Hid (Box wr (w.heap.size + 1) 26 #[.slice A' n c', .slice C' m d', .int .i64 st])) (fun i _ => m - (intOf i).toNat)
            case atStart => exact ⟨0, Nat.zero_le _, rfl, Lib.hid rfl, hbw, X, Y⟩
            case round =>
              clear hbw X Y
              obtain ⟨j, hj, rfl, HT, hbw, X, Y⟩ := hrel
              have f1 := X.out.cell 1 rfl
              have e1 := Y.out.cell 1 rfl
              by_cases hjt : j < m
              · obtain ⟨b, off, rfl, hc⟩ := (G.out.1.below hbw) j (by rw [HM.out.1]; exact hjt)
                obtain ⟨b', off', rfl, hc'⟩ := (G.out.2.below hbw) j (by rw [HM.out.2]; exact hjt)
                have HN := Lib.hid (fun e => take_next false HT.out (by rw [HM.out.1]; exact hjt) (by rw [HM.out.2]; exact hjt) e)
                have HX := Lib.hid (fun e => ne_of_at (l := gs) (m := gs') (k := j) false e)
                generalize gs.getD j false = x at hc HN HX
                generalize gs'.getD j false = y at hc' HN HX
                have hi : (j : Int) < (m : Int) := by omega
                by_cases hE : x = y
                · have hq1 : (x == y) = true := by simp [hE]
                  have hq2 : (x != y) = false := by simp [hE]
                  have HE := Lib.hid hE
                  clear hE
                  go_wp2
                  go_quiet (fail)
                  go_wp2
                  go_roundw
                  case rel => exact ⟨j + 1, by omega, by go_num, Lib.hid (HN.out HE.out), below_drewN hbw _, Lib.hid (X.out.drewN _), Lib.hid (Y.out.drewN _)⟩
                  case measure => simp [intOf]; omega
                · have hq1 : (x == y) = false := by simp [hE]
                  have hq2 : (x != y) = true := by simp [hE]
                  have HE := Lib.hid hE
                  clear hE
                  go_wp2
                  go_quiet (fail)
                  go_wp2
                  go_ret
                  exact ⟨ret_bool (by rw [HR.out]; simp [HX.out HE.out]), below_drewN hbw _⟩
              · have HG := Lib.hid (take_all HT.out (by rw [HM.out.1]; omega) (by rw [HM.out.2]; omega))
                go_wp2
                go_ret
                exact ⟨ret_bool (by rw [HR.out, HZ.out, HG.out]; simp), hbw⟩
      · have s2 : ((m : Int) != (m' : Int)) = true := by simp; omega
        have HF : Hid (r = false) := Lib.hid (by rw [HR.out]; simp; intro _ e; apply hM; rw [← HM.out.1, ← HM.out.2, e])
        clear hM HR
        go_enter Try.func78, Try.ntmps78
        go_wp2
        rw [← HW0.out]
        go_ret
        exact ⟨ret_bool HF.out.symm, hb0⟩
    · have s1 : ((n : Int) != (n' : Int)) = true := by simp; omega
      have HF : Hid (r = false) := Lib.hid (by rw [HR.out]; simp; intro e; exfalso; apply hN; rw [← HL.out.1, ← HL.out.2, e])
      clear hN HR
      go_enter Try.func78, Try.ntmps78
      go_wp2
      rw [← HW0.out]
      go_ret
      exact ⟨ret_bool HF.out.symm, hb0⟩
  · have s0 : (st != st') = true := by simp [hS]
    have HF : Hid (r = false) := Lib.hid (by rw [HR.out]; simp [hS])
    clear hS HR
    go_enter Try.func78, Try.ntmps78
    go_wp2
    rw [← HW0.out]
    go_ret
    exact ⟨ret_bool HF.out.symm, hb0⟩
end Go.Proofs.Ytdanefhfngmipaa
