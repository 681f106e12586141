/- Texts of this claim, one behind the other: SameFlash, SameArray, SameFlashA, MemApi, NewMem, NewMemS. -/
import Derived.Deep.RegionHeld3
import Derived.Test.YtdanefhfngmipaaM6
/- Contracts of slices.Equal over []int and []bool, and of both SameFlash. -/
namespace Go.Proofs.Ytdanefhfngmipaa
open Go.RowKit

set_option maxRecDepth 100000 in
set_option maxHeartbeats 1000000 in
theorem equalI (A A' : Option Addr) (n n' c c' : Nat) (ss ss' : List Int) (w : World) (hl : ss.length = n) (hl' : ss'.length = n') (hn : n ≤ maxLen) (hn' : n' ≤ maxLen)
    (h : IntL w A ss) (h' : IntL w A' ss') :
    Calls Try.prog 55 #[.slice A n c, .slice A' n' c'] w fun e w' => e = .returned (.bool (decide (ss = ss'))) ∧ Below w.heap.size w w' := by
  unfold maxLen at hn hn'
  have HL := Lib.hid hl
  have HL' := Lib.hid hl'
  have H := Lib.hid h
  have H' := Lib.hid h'
  clear hl hl' h h'
  by_cases hne : n = n'
  · subst hne
    have hb : ((n : Int) != (n : Int)) = false := by simp
    go_enter Try.func55, Try.ntmps55
    go_wp2
    go_loopw [13] (fun i wr => ∃ k : Nat, k ≤ n ∧ i = .int .i64 k ∧ Hid (ss.take k = ss'.take k) ∧ Below w.heap.size w wr) (fun i _ => n - (intOf i).toNat)
    case atStart => exact ⟨0, Nat.zero_le _, rfl, Lib.hid rfl, Below.refl _ _⟩
    case round =>
      obtain ⟨k, hk, rfl, HT, hbw⟩ := hrel
      by_cases hlt : k < n
      · obtain ⟨b, off, rfl, hc⟩ := (H.out.below hbw) k (by rw [HL.out]; exact hlt)
        obtain ⟨b', off', rfl, hc'⟩ := (H'.out.below hbw) k (by rw [HL'.out]; exact hlt)
        have HN := Lib.hid (fun e => take_next 0 HT.out (by rw [HL.out]; exact hlt) (by rw [HL'.out]; exact hlt) e)
        have HX := Lib.hid (fun e => ne_of_at (l := ss) (m := ss') (k := k) 0 e)
        generalize ss.getD k 0 = x at hc HN HX
        generalize ss'.getD k 0 = y at hc' HN HX
        have hi : (k : Int) < (n : Int) := by omega
        by_cases hE : x = y
        · have hq1 : (x == y) = true := by simp [hE]
          have hq2 : (x != y) = false := by simp [hE]
          have HE := Lib.hid hE
          clear hE
          go_wp2
          go_quiet (fail)
          go_wp2
          go_roundw
          case rel => exact ⟨k + 1, by omega, by go_num, Lib.hid (HN.out HE.out), below_drewN hbw _⟩
          case measure => simp [intOf]; omega
        · have hq1 : (x == y) = false := by simp [hE]
          have hq2 : (x != y) = true := by simp [hE]
          have HE := Lib.hid hE
          clear hE
          go_wp2
          go_quiet (fail)
          go_wp2
          go_ret
          exact ⟨ret_bool (by simp [HX.out HE.out]), below_drewN hbw _⟩
      · go_wp2
        go_ret
        exact ⟨ret_bool (by simp [take_all HT.out (by rw [HL.out]; omega) (by rw [HL'.out]; omega)]), hbw⟩
  · have hb : ((n : Int) != (n' : Int)) = true := by simp; omega
    have HF : Hid (decide (ss = ss') = false) := Lib.hid (by simp; intro e; apply hne; rw [← HL.out, ← HL'.out, e])
    clear hne
    go_enter Try.func55, Try.ntmps55
    go_wp2
    go_ret
    exact ⟨ret_bool HF.out.symm, Below.refl _ _⟩

set_option maxRecDepth 100000 in
set_option maxHeartbeats 1000000 in
theorem equalB (A A' : Option Addr) (n n' c c' : Nat) (ss ss' : List Bool) (w : World) (hl : ss.length = n) (hl' : ss'.length = n') (hn : n ≤ maxLen) (hn' : n' ≤ maxLen)
    (h : BoolL w A ss) (h' : BoolL w A' ss') :
    Calls Try.prog 106 #[.slice A n c, .slice A' n' c'] w fun e w' => e = .returned (.bool (decide (ss = ss'))) ∧ Below w.heap.size w w' := by
  unfold maxLen at hn hn'
  have HL := Lib.hid hl
  have HL' := Lib.hid hl'
  have H := Lib.hid h
  have H' := Lib.hid h'
  clear hl hl' h h'
  by_cases hne : n = n'
  · subst hne
    have hb : ((n : Int) != (n : Int)) = false := by simp
    go_enter Try.func106, Try.ntmps106
    go_wp2
    go_loopw [13] (fun i wr => ∃ k : Nat, k ≤ n ∧ i = .int .i64 k ∧ Hid (ss.take k = ss'.take k) ∧ Below w.heap.size w wr) (fun i _ => n - (intOf i).toNat)
    case atStart => exact ⟨0, Nat.zero_le _, rfl, Lib.hid rfl, Below.refl _ _⟩
    case round =>
      obtain ⟨k, hk, rfl, HT, hbw⟩ := hrel
      by_cases hlt : k < n
      · obtain ⟨b, off, rfl, hc⟩ := (H.out.below hbw) k (by rw [HL.out]; exact hlt)
        obtain ⟨b', off', rfl, hc'⟩ := (H'.out.below hbw) k (by rw [HL'.out]; exact hlt)
        have HN := Lib.hid (fun e => take_next false HT.out (by rw [HL.out]; exact hlt) (by rw [HL'.out]; exact hlt) e)
        have HX := Lib.hid (fun e => ne_of_at (l := ss) (m := ss') (k := k) false e)
        generalize ss.getD k false = x at hc HN HX
        generalize ss'.getD k false = y at hc' HN HX
        have hi : (k : Int) < (n : Int) := by omega
        by_cases hE : x = y
        · have hq1 : (x == y) = true := by simp [hE]
          have hq2 : (x != y) = false := by simp [hE]
          have HE := Lib.hid hE
          clear hE
          go_wp2
          go_quiet (fail)
          go_wp2
          go_roundw
          case rel => exact ⟨k + 1, by omega, by go_num, Lib.hid (HN.out HE.out), below_drewN hbw _⟩
          case measure => simp [intOf]; omega
        · have hq1 : (x == y) = false := by simp [hE]
          have hq2 : (x != y) = true := by simp [hE]
          have HE := Lib.hid hE
          clear hE
          go_wp2
          go_quiet (fail)
          go_wp2
          go_ret
          exact ⟨ret_bool (by simp [HX.out HE.out]), below_drewN hbw _⟩
      · go_wp2
        go_ret
        exact ⟨ret_bool (by simp [take_all HT.out (by rw [HL.out]; omega) (by rw [HL'.out]; omega)]), hbw⟩
  · have hb : ((n : Int) != (n' : Int)) = true := by simp; omega
    have HF : Hid (decide (ss = ss') = false) := Lib.hid (by simp; intro e; apply hne; rw [← HL.out, ← HL'.out, e])
    clear hne
    go_enter Try.func106, Try.ntmps106
    go_wp2
    go_ret
    exact ⟨ret_bool HF.out.symm, Below.refl _ _⟩

def sameFl (zs zs' : List Int) (gs gs' : List Bool) (st st' : Int) : Bool := decide (zs = zs') && (decide (gs = gs') && decide (st = st'))

/-- The same bytes and the same protection. -/
def sameArr (zs zs' : List Int) (gs gs' : List Bool) : Bool := decide (zs = zs') && decide (gs = gs')

set_option maxRecDepth 100000 in
set_option maxHeartbeats 1000000 in
theorem sameArray (A A' C C' : Option Addr) (n n' m m' c c' d d' : Nat) (st st' : Int) (zs zs' : List Int) (gs gs' : List Bool) (w : World)
    (hl : zs.length = n) (hl' : zs'.length = n') (hm : gs.length = m) (hm' : gs'.length = m') (hn : n ≤ maxLen) (hn' : n' ≤ maxLen) (gn : m ≤ maxLen) (gn' : m' ≤ maxLen)
    (h : IntL w A zs) (h' : IntL w A' zs') (g : BoolL w C gs) (g' : BoolL w C' gs') :
    Calls Try.prog 90 #[.agg #[.slice A n c, .slice C m d, .int .i64 st], .agg #[.slice A' n' c', .slice C' m' d', .int .i64 st']] w fun e w' => e = .returned (.bool (sameArr zs zs' gs gs')) ∧ Below w.heap.size w w' := by
  have H1 := Lib.hid (fun W hb => equalI A A' n n' c c' zs zs' W hl hl' hn hn' (h.below hb) (h'.below hb))
  have H2 := Lib.hid (fun W hb => equalB C C' m m' d d' gs gs' W hm hm' gn gn' (g.below hb) (g'.below hb))
  obtain ⟨W0, hW0⟩ : ∃ W0, W0 = ((w.alloc (.cells #[.slice A n c, .slice C m d, .int .i64 st] 26)).alloc (.cells #[.slice A' n' c', .slice C' m' d', .int .i64 st'] 26)) := ⟨_, rfl⟩
  have hb0 : Below w.heap.size w W0 := by rw [hW0]; exact ((Below.refl _ _).alloc (Nat.le_refl _) _).alloc (by simp) _
  have X0 : Hid (Box W0 w.heap.size 26 #[.slice A n c, .slice C m d, .int .i64 st]) := Lib.hid (by rw [hW0]; exact (Box.new _ _ _).alloc _)
  have Y0 : Hid (Box W0 (w.heap.size + 1) 26 #[.slice A' n' c', .slice C' m' d', .int .i64 st']) := Lib.hid (by rw [hW0]; simpa using Box.new (w.alloc (.cells #[.slice A n c, .slice C m d, .int .i64 st] 26)) 26 #[.slice A' n' c', .slice C' m' d', .int .i64 st'])
  have HW0 := Lib.hid hW0
  have HR : Hid (sameArr zs zs' gs gs' = (decide (zs = zs') && decide (gs = gs'))) := Lib.hid rfl
  generalize sameArr zs zs' gs gs' = r at HR
  generalize decide (zs = zs') = q1 at H1 HR
  generalize decide (gs = gs') = q2 at H2 HR
  clear hl hl' hm hm' hn hn' gn gn' h h' g g' hW0
  go_enter Try.func90, Try.ntmps90
  go_wp2_with fail
  rw [← HW0.out]
  refine (H1.out _ hb0).mono ?_
  rintro e w1 ⟨rfl, hb1⟩
  have X1 := Lib.hid (X0.out.step hb1)
  have Y1 := Lib.hid (Y0.out.step hb1)
  have f1 := X1.out.cell 1 rfl
  have f2 := Y1.out.cell 1 rfl
  have hb := bt hb0 hb1
  clear X0 Y0 HW0 hb0 hb1 H1
  cases q1
  · go_wp2
    go_ret
    exact ⟨ret_bool (by rw [HR.out]; rfl), hb⟩
  · go_wp2_with fail
    refine (H2.out _ hb).mono ?_
    rintro e w2 ⟨rfl, hb2⟩
    have hb3 := bt hb hb2
    clear X1 Y1 H2 f1 f2 hb hb2
    go_wp2
    go_ret
    exact ⟨ret_bool (by rw [HR.out]; rfl), hb3⟩

set_option maxRecDepth 100000 in
set_option maxHeartbeats 1000000 in
theorem implSame (A A' C C' : Option Addr) (n n' m m' c c' d d' : Nat) (st st' : Int) (zs zs' : List Int) (gs gs' : List Bool) (w : World)
    (hl : zs.length = n) (hl' : zs'.length = n') (hm : gs.length = m) (hm' : gs'.length = m') (hn : n ≤ maxLen) (hn' : n' ≤ maxLen) (gn : m ≤ maxLen) (gn' : m' ≤ maxLen)
    (h : IntL w A zs) (h' : IntL w A' zs') (g : BoolL w C gs) (g' : BoolL w C' gs') :
    Calls Try.prog 56 #[.agg #[.slice A n c, .slice C m d, .int .i64 st], .agg #[.slice A' n' c', .slice C' m' d', .int .i64 st']] w fun e w' => e = .returned (.bool (sameFl zs zs' gs gs' st st')) ∧ Below w.heap.size w w' := by
  have H1 := Lib.hid (fun W hb => sameArray A A' C C' n n' m m' c c' d d' st st' zs zs' gs gs' W hl hl' hm hm' hn hn' gn gn' (h.below hb) (h'.below hb) (g.below hb) (g'.below hb))
  obtain ⟨W0, hW0⟩ : ∃ W0, W0 = ((w.alloc (.cells #[.slice A n c, .slice C m d, .int .i64 st] 26)).alloc (.cells #[.slice A' n' c', .slice C' m' d', .int .i64 st'] 26)) := ⟨_, rfl⟩
  have hb0 : Below w.heap.size w W0 := by rw [hW0]; exact ((Below.refl _ _).alloc (Nat.le_refl _) _).alloc (by simp) _
  have X0 : Hid (Box W0 w.heap.size 26 #[.slice A n c, .slice C m d, .int .i64 st]) := Lib.hid (by rw [hW0]; exact (Box.new _ _ _).alloc _)
  have Y0 : Hid (Box W0 (w.heap.size + 1) 26 #[.slice A' n' c', .slice C' m' d', .int .i64 st']) := Lib.hid (by rw [hW0]; simpa using Box.new (w.alloc (.cells #[.slice A n c, .slice C m d, .int .i64 st] 26)) 26 #[.slice A' n' c', .slice C' m' d', .int .i64 st'])
  have HW0 := Lib.hid hW0
  have HR : Hid (sameFl zs zs' gs gs' st st' = (sameArr zs zs' gs gs' && decide (st = st'))) := Lib.hid (by unfold sameFl sameArr; rw [Bool.and_assoc])
  generalize sameFl zs zs' gs gs' st st' = r at HR
  generalize sameArr zs zs' gs gs' = q1 at H1 HR
  clear hl hl' hm hm' hn hn' gn gn' h h' g g' hW0
  go_enter Try.func56, Try.ntmps56
  go_wp2_with fail
  rw [← HW0.out]
  refine (H1.out _ hb0).mono ?_
  rintro e w1 ⟨rfl, hb1⟩
  have k1 := (X0.out.step hb1).cell 2 rfl
  have k2 := (Y0.out.step hb1).cell 2 rfl
  have hb := bt hb0 hb1
  clear X0 Y0 HW0 hb0 hb1 H1
  cases q1
  · go_wp2
    go_ret
    exact ⟨ret_bool (by rw [HR.out]; rfl), hb⟩
  · by_cases hE : st = st'
    · have hq : (st == st') = true := by simp [hE]
      have HE := Lib.hid hE
      clear hE
      go_wp2
      go_ret
      exact ⟨ret_bool (by rw [HR.out]; simp [HE.out]), hb⟩
    · have hq : (st == st') = false := by simp [hE]
      have HE := Lib.hid hE
      clear hE
      go_wp2
      go_ret
      exact ⟨ret_bool (by rw [HR.out]; simp [HE.out]), hb⟩

set_option maxRecDepth 100000 in
set_option maxHeartbeats 4000000 in
theorem specSame (A A' C C' : Option Addr) (n n' m m' c c' d d' : Nat) (st st' : Int) (zs zs' : List Int) (gs gs' : List Bool) (w : World)
    (hl : zs.length = n) (hl' : zs'.length = n') (hm : gs.length = m) (hm' : gs'.length = m') (hn : n ≤ maxLen) (hn' : n' ≤ maxLen) (gn : m ≤ maxLen) (gn' : m' ≤ maxLen)
    (h : IntL w A zs) (h' : IntL w A' zs') (g : BoolL w C gs) (g' : BoolL w C' gs') :
    Calls Try.prog 78 #[.agg #[.slice A n c, .slice C m d, .int .i64 st], .agg #[.slice A' n' c', .slice C' m' d', .int .i64 st']] w fun e w' => e = .returned (.bool (sameFl zs zs' gs gs' st st')) ∧ Below w.heap.size w w' := by
  unfold maxLen at hn hn' gn gn'
  have HL := Lib.hid (And.intro hl hl')
  have HM := Lib.hid (And.intro hm hm')
  have H := Lib.hid (And.intro h h')
  have G := Lib.hid (And.intro g g')
  obtain ⟨W0, hW0⟩ : ∃ W0, W0 = ((w.alloc (.cells #[.slice A n c, .slice C m d, .int .i64 st] 26)).alloc (.cells #[.slice A' n' c', .slice C' m' d', .int .i64 st'] 26)) := ⟨_, rfl⟩
  have hb0 : Below w.heap.size w W0 := by rw [hW0]; exact ((Below.refl _ _).alloc (Nat.le_refl _) _).alloc (by simp) _
  have X0 : Hid (Box W0 w.heap.size 26 #[.slice A n c, .slice C m d, .int .i64 st]) := Lib.hid (by rw [hW0]; exact (Box.new _ _ _).alloc _)
  have Y0 : Hid (Box W0 (w.heap.size + 1) 26 #[.slice A' n' c', .slice C' m' d', .int .i64 st']) := Lib.hid (by rw [hW0]; simpa using Box.new (w.alloc (.cells #[.slice A n c, .slice C m d, .int .i64 st] 26)) 26 #[.slice A' n' c', .slice C' m' d', .int .i64 st'])
  have HW0 := Lib.hid hW0
  have HR : Hid (sameFl zs zs' gs gs' st st' = (decide (zs = zs') && (decide (gs = gs') && decide (st = st')))) := Lib.hid rfl
  generalize sameFl zs zs' gs gs' st st' = r at HR
  clear hl hl' hm hm' h h' g g' hW0
  by_cases hS : st = st'
  · subst hS
    have s0 : (st != st) = false := by simp
    by_cases hN : n = n'
    · subst hN
      have s1 : ((n : Int) != (n : Int)) = false := by simp
      by_cases hM : m = m'
      · subst hM
        have s2 : ((m : Int) != (m : Int)) = false := by simp
        go_enter Try.func78, Try.ntmps78
        go_wp2
        rw [← HW0.out]
        clear HW0
        go_loopw [5] (fun i wr => ∃ k : Nat, k ≤ n ∧ i = .int .i64 k ∧ Hid (zs.take k = zs'.take k) ∧ Below w.heap.size w wr ∧ Hid (Box wr w.heap.size 26 #[.slice A n c, .slice C m d, .int .i64 st]) ∧ Hid (Box wr (w.heap.size + 1) 26 #[.slice A' n c', .slice C' m d', .int .i64 st])) (fun i _ => n - (intOf i).toNat)
        case atStart => exact ⟨0, Nat.zero_le _, rfl, Lib.hid rfl, hb0, X0, Y0⟩
        case round =>
          clear hb0 X0 Y0
          obtain ⟨k, hk, rfl, HT, hbw, X, Y⟩ := hrel
          have f0 := X.out.cell 0 rfl
          have f1 := X.out.cell 1 rfl
          have e0 := Y.out.cell 0 rfl
          have e1 := Y.out.cell 1 rfl
          by_cases hlt : k < n
          · obtain ⟨b, off, rfl, hc⟩ := (H.out.1.below hbw) k (by rw [HL.out.1]; exact hlt)
            obtain ⟨b', off', rfl, hc'⟩ := (H.out.2.below hbw) k (by rw [HL.out.2]; exact hlt)
            have HN := Lib.hid (fun e => take_next 0 HT.out (by rw [HL.out.1]; exact hlt) (by rw [HL.out.2]; exact hlt) e)
            have HX := Lib.hid (fun e => ne_of_at (l := zs) (m := zs') (k := k) 0 e)
            generalize zs.getD k 0 = x at hc HN HX
            generalize zs'.getD k 0 = y at hc' HN HX
            have hi : (k : Int) < (n : Int) := by omega
            by_cases hE : x = y
            · have hq1 : (x == y) = true := by simp [hE]
              have hq2 : (x != y) = false := by simp [hE]
              have HE := Lib.hid hE
              clear hE
              go_wp2
              go_quiet (fail)
              go_wp2
              go_roundw
              case rel => exact ⟨k + 1, by omega, by go_num, Lib.hid (HN.out HE.out), below_drewN hbw _, Lib.hid (X.out.drewN _), Lib.hid (Y.out.drewN _)⟩
              case measure => simp [intOf]; omega
            · have hq1 : (x == y) = false := by simp [hE]
              have hq2 : (x != y) = true := by simp [hE]
              have HE := Lib.hid hE
              clear hE
              go_wp2
              go_quiet (fail)
              go_wp2
              go_ret
              exact ⟨ret_bool (by rw [HR.out]; simp [HX.out HE.out]), below_drewN hbw _⟩
          · have HZ := Lib.hid (take_all HT.out (by rw [HL.out.1]; omega) (by rw [HL.out.2]; omega))
            clear HT
            go_wp2
            clear f0 e0 f1 e1
            go_loopw [6] (fun i wr => ∃ k : Nat, k ≤ m ∧ i = .int .i64 k ∧ Hid (gs.take k = gs'.take k) ∧ Below w.heap.size w wr ∧ Hid (Box wr w.heap.size 26 #[.slice A n c, .slice C m d, .int .i64 st]) ∧ Hid (Box wr (w.heap.size + 1) 26 #[.slice A' n c', .slice C' m d', .int .i64 st])) (fun i _ => m - (intOf i).toNat)
            case atStart => exact ⟨0, Nat.zero_le _, rfl, Lib.hid rfl, hbw, X, Y⟩
            case round =>
              clear hbw X Y
              obtain ⟨j, hj, rfl, HT, hbw, X, Y⟩ := hrel
              have f1 := X.out.cell 1 rfl
              have e1 := Y.out.cell 1 rfl
              by_cases hjt : j < m
              · obtain ⟨b, off, rfl, hc⟩ := (G.out.1.below hbw) j (by rw [HM.out.1]; exact hjt)
                obtain ⟨b', off', rfl, hc'⟩ := (G.out.2.below hbw) j (by rw [HM.out.2]; exact hjt)
                have HN := Lib.hid (fun e => take_next false HT.out (by rw [HM.out.1]; exact hjt) (by rw [HM.out.2]; exact hjt) e)
                have HX := Lib.hid (fun e => ne_of_at (l := gs) (m := gs') (k := j) false e)
                generalize gs.getD j false = x at hc HN HX
                generalize gs'.getD j false = y at hc' HN HX
                have hi : (j : Int) < (m : Int) := by omega
                by_cases hE : x = y
                · have hq1 : (x == y) = true := by simp [hE]
                  have hq2 : (x != y) = false := by simp [hE]
                  have HE := Lib.hid hE
                  clear hE
                  go_wp2
                  go_quiet (fail)
                  go_wp2
                  go_roundw
                  case rel => exact ⟨j + 1, by omega, by go_num, Lib.hid (HN.out HE.out), below_drewN hbw _, Lib.hid (X.out.drewN _), Lib.hid (Y.out.drewN _)⟩
                  case measure => simp [intOf]; omega
                · have hq1 : (x == y) = false := by simp [hE]
                  have hq2 : (x != y) = true := by simp [hE]
                  have HE := Lib.hid hE
                  clear hE
                  go_wp2
                  go_quiet (fail)
                  go_wp2
                  go_ret
                  exact ⟨ret_bool (by rw [HR.out]; simp [HX.out HE.out]), below_drewN hbw _⟩
              · have HG := Lib.hid (take_all HT.out (by rw [HM.out.1]; omega) (by rw [HM.out.2]; omega))
                go_wp2
                go_ret
                exact ⟨ret_bool (by rw [HR.out, HZ.out, HG.out]; simp), hbw⟩
      · have s2 : ((m : Int) != (m' : Int)) = true := by simp; omega
        have HF : Hid (r = false) := Lib.hid (by rw [HR.out]; simp; intro _ e; apply hM; rw [← HM.out.1, ← HM.out.2, e])
        clear hM HR
        go_enter Try.func78, Try.ntmps78
        go_wp2
        rw [← HW0.out]
        go_ret
        exact ⟨ret_bool HF.out.symm, hb0⟩
    · have s1 : ((n : Int) != (n' : Int)) = true := by simp; omega
      have HF : Hid (r = false) := Lib.hid (by rw [HR.out]; simp; intro e; exfalso; apply hN; rw [← HL.out.1, ← HL.out.2, e])
      clear hN HR
      go_enter Try.func78, Try.ntmps78
      go_wp2
      rw [← HW0.out]
      go_ret
      exact ⟨ret_bool HF.out.symm, hb0⟩
  · have s0 : (st != st') = true := by simp [hS]
    have HF : Hid (r = false) := Lib.hid (by rw [HR.out]; simp [hS])
    clear hS HR
    go_enter Try.func78, Try.ntmps78
    go_wp2
    rw [← HW0.out]
    go_ret
    exact ⟨ret_bool HF.out.symm, hb0⟩
end Go.Proofs.Ytdanefhfngmipaa

/- Contracts of l04Same and both SameArray. -/
namespace Go.Proofs.Ytdanefhfngmipaa
open Go.RowKit

/-- What SameArray answers. -/
def sameArrC (zs zs' : List Int) (gs gs' : List Bool) (st st' : Int) : Bool × Int := if okFlash zs gs st && okFlash zs' gs' st' then (sameArr zs zs' gs gs', 0) else (false, 1)

end Go.Proofs.Ytdanefhfngmipaa

/- SameFlash and SameArray on leaves. -/
namespace Go.Proofs.Ytdanefhfngmipaa
open Go.RowKit

section
variable (A0 A1 : Option Addr) (c0 c1 : Nat) (d0 : List Int) (d1 : List Bool) (d2 : Int) (B0 B1 : Option Addr) (e0 e1 : Nat) (g0 : List Int) (g1 : List Bool) (g2 : Int) (w : World)
set_option maxRecDepth 100000 in
theorem specSameFlashA (h : RepA w [.slice A0 d0.length c0, .slice A1 d1.length c1] [.I d0, .B d1]) (_c : CapA [.slice A0 d0.length c0, .slice A1 d1.length c1]) (z : szA [.I d0, .B d1] ≤ 1048576)
    (h' : RepA w [.slice B0 g0.length e0, .slice B1 g1.length e1] [.I g0, .B g1]) (_c' : CapA [.slice B0 g0.length e0, .slice B1 g1.length e1]) (z' : szA [.I g0, .B g1] ≤ 1048576) :
    Calls Try.prog 78 #[.agg #[.slice A0 d0.length c0, .slice A1 d1.length c1, .int .i64 d2], .agg #[.slice B0 g0.length e0, .slice B1 g1.length e1, .int .i64 g2]] w fun e w' => e = .returned (.bool (sameFl d0 g0 d1 g1 d2 g2)) ∧ Below w.heap.size w w' := by
  simp only [szA, Lf.sz] at z z'
  exact specSame A0 B0 A1 B1 _ _ _ _ _ _ _ _ d2 g2 d0 g0 d1 g1 w rfl rfl rfl rfl (by unfold maxLen; omega) (by unfold maxLen; omega) (by unfold maxLen; omega) (by unfold maxLen; omega) (repI h.1) (repI h'.1) (repB h.2.1) (repB h'.2.1)
set_option maxRecDepth 100000 in
theorem implSameFlashA (h : RepA w [.slice A0 d0.length c0, .slice A1 d1.length c1] [.I d0, .B d1]) (_c : CapA [.slice A0 d0.length c0, .slice A1 d1.length c1]) (z : szA [.I d0, .B d1] ≤ 1048576)
    (h' : RepA w [.slice B0 g0.length e0, .slice B1 g1.length e1] [.I g0, .B g1]) (_c' : CapA [.slice B0 g0.length e0, .slice B1 g1.length e1]) (z' : szA [.I g0, .B g1] ≤ 1048576) :
    Calls Try.prog 56 #[.agg #[.slice A0 d0.length c0, .slice A1 d1.length c1, .int .i64 d2], .agg #[.slice B0 g0.length e0, .slice B1 g1.length e1, .int .i64 g2]] w fun e w' => e = .returned (.bool (sameFl d0 g0 d1 g1 d2 g2)) ∧ Below w.heap.size w w' := by
  simp only [szA, Lf.sz] at z z'
  exact implSame A0 B0 A1 B1 _ _ _ _ _ _ _ _ d2 g2 d0 g0 d1 g1 w rfl rfl rfl rfl (by unfold maxLen; omega) (by unfold maxLen; omega) (by unfold maxLen; omega) (by unfold maxLen; omega) (repI h.1) (repI h'.1) (repB h.2.1) (repB h'.2.1)
end
end Go.Proofs.Ytdanefhfngmipaa

/- SameMem on both sides; the memory bus's functions on leaves. Written by a script (gen_memapi.py). -/
namespace Go.Proofs.Ytdanefhfngmipaa
open Go.RowKit

set_option maxRecDepth 100000 in
set_option maxHeartbeats 1000000 in
theorem l05Ints (A A' : Option Addr) (n n' c c' : Nat) (ss ss' : List Int) (w : World) (hl : ss.length = n) (hl' : ss'.length = n') (hn : n ≤ maxLen) (hn' : n' ≤ maxLen)
    (h : IntL w A ss) (h' : IntL w A' ss') :
    Calls Try.prog 77 #[.slice A n c, .slice A' n' c'] w fun e w' => e = .returned (.bool (decide (ss = ss'))) ∧ Below w.heap.size w w' := by
  unfold maxLen at hn hn'
  have HL := Lib.hid hl
  have HL' := Lib.hid hl'
  have H := Lib.hid h
  have H' := Lib.hid h'
  clear hl hl' h h'
  by_cases hne : n = n'
  · subst hne
    have hb : ((n : Int) != (n : Int)) = false := by simp
    go_enter Try.func77, Try.ntmps77
    go_wp2
    go_loopw [5] (fun i wr => ∃ k : Nat, k ≤ n ∧ i = .int .i64 k ∧ Hid (ss.take k = ss'.take k) ∧ Below w.heap.size w wr) (fun i _ => n - (intOf i).toNat)
    case atStart => exact ⟨0, Nat.zero_le _, rfl, Lib.hid rfl, Below.refl _ _⟩
    case round =>
      obtain ⟨k, hk, rfl, HT, hbw⟩ := hrel
      by_cases hlt : k < n
      · obtain ⟨b, off, rfl, hc⟩ := (H.out.below hbw) k (by rw [HL.out]; exact hlt)
        obtain ⟨b', off', rfl, hc'⟩ := (H'.out.below hbw) k (by rw [HL'.out]; exact hlt)
        have HN := Lib.hid (fun e => take_next 0 HT.out (by rw [HL.out]; exact hlt) (by rw [HL'.out]; exact hlt) e)
        have HX := Lib.hid (fun e => ne_of_at (l := ss) (m := ss') (k := k) 0 e)
        generalize ss.getD k 0 = x at hc HN HX
        generalize ss'.getD k 0 = y at hc' HN HX
        have hi : (k : Int) < (n : Int) := by omega
        by_cases hE : x = y
        · have hq1 : (x == y) = true := by simp [hE]
          have hq2 : (x != y) = false := by simp [hE]
          have HE := Lib.hid hE
          clear hE
          go_wp2
          go_quiet (fail)
          go_wp2
          go_roundw
          case rel => exact ⟨k + 1, by omega, by go_num, Lib.hid (HN.out HE.out), below_drewN hbw _⟩
          case measure => simp [intOf]; omega
        · have hq1 : (x == y) = false := by simp [hE]
          have hq2 : (x != y) = true := by simp [hE]
          have HE := Lib.hid hE
          clear hE
          go_wp2
          go_quiet (fail)
          go_wp2
          go_ret
          exact ⟨ret_bool (by simp [HX.out HE.out]), below_drewN hbw _⟩
      · go_wp2
        go_ret
        exact ⟨ret_bool (by simp [take_all HT.out (by rw [HL.out]; omega) (by rw [HL'.out]; omega)]), hbw⟩
  · have hb : ((n : Int) != (n' : Int)) = true := by simp; omega
    have HF : Hid (decide (ss = ss') = false) := Lib.hid (by simp; intro e; apply hne; rw [← HL.out, ← HL'.out, e])
    clear hne
    go_enter Try.func77, Try.ntmps77
    go_wp2
    go_ret
    exact ⟨ret_bool HF.out.symm, Below.refl _ _⟩


def sameMm (d0 d1 d2 : List Int) (d3 : List Bool) (d4 : Int) (g0 g1 g2 : List Int) (g3 : List Bool) (g4 : Int) : Bool := decide (d0 = g0) && (decide (d1 = g1) && sameFl d2 g2 d3 g3 d4 g4)
section
variable (A0 A1 A2 A3 : Option Addr) (n0 n1 n2 n3 c0 c1 c2 c3 : Nat) (d0 d1 d2 : List Int) (d3 : List Bool) (d4 : Int) (B0 B1 B2 B3 : Option Addr) (m0 m1 m2 m3 e0 e1 e2 e3 : Nat) (g0 g1 g2 : List Int) (g3 : List Bool) (g4 : Int) (w : World)
set_option maxRecDepth 100000 in
set_option maxHeartbeats 2000000 in
theorem implSameMem (l0 : d0.length = n0) (l1 : d1.length = n1) (l2 : d2.length = n2) (l3 : d3.length = n3) (p0 : g0.length = m0) (p1 : g1.length = m1) (p2 : g2.length = m2) (p3 : g3.length = m3)
    (b0 : n0 ≤ maxLen) (b1 : n1 ≤ maxLen) (b2 : n2 ≤ maxLen) (b3 : n3 ≤ maxLen) (k0 : m0 ≤ maxLen) (k1 : m1 ≤ maxLen) (k2 : m2 ≤ maxLen) (k3 : m3 ≤ maxLen)
    (h0 : IntL w A0 d0) (h1 : IntL w A1 d1) (h2 : IntL w A2 d2) (h3 : BoolL w A3 d3) (j0 : IntL w B0 g0) (j1 : IntL w B1 g1) (j2 : IntL w B2 g2) (j3 : BoolL w B3 g3) :
    Calls Try.prog 19 #[.agg #[.slice A0 n0 c0, .slice A1 n1 c1, .slice A2 n2 c2, .slice A3 n3 c3, .int .i64 d4], .agg #[.slice B0 m0 e0, .slice B1 m1 e1, .slice B2 m2 e2, .slice B3 m3 e3, .int .i64 g4]] w fun e w' => e = .returned (.bool (sameMm d0 d1 d2 d3 d4 g0 g1 g2 g3 g4)) ∧ Below w.heap.size w w' := by
  obtain ⟨W0, hW0⟩ : ∃ W0, W0 = ((w.alloc (.cells #[.slice A0 n0 c0, .slice A1 n1 c1, .slice A2 n2 c2, .slice A3 n3 c3, .int .i64 d4] 28)).alloc (.cells #[.slice B0 m0 e0, .slice B1 m1 e1, .slice B2 m2 e2, .slice B3 m3 e3, .int .i64 g4] 28)) := ⟨_, rfl⟩
  have hb0 : Below w.heap.size w W0 := by rw [hW0]; exact bt (alloc_below _ _) (alloc_below _ _)
  have X0 : Hid (Box W0 w.heap.size 28 #[.slice A0 n0 c0, .slice A1 n1 c1, .slice A2 n2 c2, .slice A3 n3 c3, .int .i64 d4]) := Lib.hid (by rw [hW0]; exact (Box.new _ _ _).alloc _)
  have Y0 : Hid (Box W0 (w.heap.size + 1) 28 #[.slice B0 m0 e0, .slice B1 m1 e1, .slice B2 m2 e2, .slice B3 m3 e3, .int .i64 g4]) := Lib.hid (by rw [hW0]; simpa using Box.new (w.alloc (.cells #[.slice A0 n0 c0, .slice A1 n1 c1, .slice A2 n2 c2, .slice A3 n3 c3, .int .i64 d4] 28)) 28 #[.slice B0 m0 e0, .slice B1 m1 e1, .slice B2 m2 e2, .slice B3 m3 e3, .int .i64 g4])
  have H0 := Lib.hid (fun W (hb : Below w.heap.size w W) => equalI A0 B0 n0 m0 c0 e0 d0 g0 W l0 p0 b0 k0 (h0.below hb) (j0.below hb))
  have H1 := Lib.hid (fun W (hb : Below w.heap.size w W) => equalI A1 B1 n1 m1 c1 e1 d1 g1 W l1 p1 b1 k1 (h1.below hb) (j1.below hb))
  have H2 := Lib.hid (fun W (hb : Below w.heap.size w W) => implSame A2 B2 A3 B3 n2 m2 n3 m3 c2 e2 c3 e3 d4 g4 d2 g2 d3 g3 W l2 p2 l3 p3 b2 k2 b3 k3 (h2.below hb) (j2.below hb) (h3.below hb) (j3.below hb))
  have HR : Hid (sameMm d0 d1 d2 d3 d4 g0 g1 g2 g3 g4 = (decide (d0 = g0) && (decide (d1 = g1) && sameFl d2 g2 d3 g3 d4 g4))) := Lib.hid rfl
  generalize sameMm d0 d1 d2 d3 d4 g0 g1 g2 g3 g4 = r at HR
  generalize decide (d0 = g0) = r0 at H0 HR
  generalize decide (d1 = g1) = r1 at H1 HR
  generalize sameFl d2 g2 d3 g3 d4 g4 = r2 at H2 HR
  have HW0 := Lib.hid hW0
  have x0 := X0.out.cell 0 rfl
  have y0 := Y0.out.cell 0 rfl
  rw [HW0.out] at x0 y0
  clear l0 l1 l2 l3 p0 p1 p2 p3 b0 b1 b2 b3 k0 k1 k2 k3 h0 h1 h2 h3 j0 j1 j2 j3 hW0
  go_enter Try.func19, Try.ntmps19
  go_wp2_with fail
  rw [← HW0.out]
  refine (H0.out _ hb0).mono ?_
  rintro e w1 ⟨rfl, hb1⟩
  have q1 := bt hb0 hb1
  have X1 := X0.out.step hb1
  have Y1 := Y0.out.step hb1
  have x1 := X1.cell 1 rfl
  have y1 := Y1.cell 1 rfl
  have HX1 := Lib.hid (And.intro X1 Y1)
  clear x0 y0 X1 Y1
  cases r0
  · go_wp2
    go_ret
    exact ⟨ret_bool HR.out.symm, q1⟩
  · go_wp2_with fail
    refine (H1.out _ q1).mono ?_
    rintro e w2 ⟨rfl, hb2⟩
    have q2 := bt q1 hb2
    have X2 := HX1.out.1.step hb2
    have Y2 := HX1.out.2.step hb2
    have x2 := X2.cell 2 rfl
    have x3 := X2.cell 3 rfl
    have x4 := X2.cell 4 rfl
    have y2 := Y2.cell 2 rfl
    have y3 := Y2.cell 3 rfl
    have y4 := Y2.cell 4 rfl
    clear x1 y1 X2 Y2 HX1
    cases r1
    · go_wp2
      go_ret
      exact ⟨ret_bool HR.out.symm, q2⟩
    · go_wp2_with fail
      refine (H2.out _ q2).mono ?_
      rintro e w3 ⟨rfl, hb3⟩
      go_wp2
      go_ret
      exact ⟨ret_bool HR.out.symm, bt q2 hb3⟩
set_option maxRecDepth 100000 in
set_option maxHeartbeats 2000000 in
theorem specSameMem (l0 : d0.length = n0) (l1 : d1.length = n1) (l2 : d2.length = n2) (l3 : d3.length = n3) (p0 : g0.length = m0) (p1 : g1.length = m1) (p2 : g2.length = m2) (p3 : g3.length = m3)
    (b0 : n0 ≤ maxLen) (b1 : n1 ≤ maxLen) (b2 : n2 ≤ maxLen) (b3 : n3 ≤ maxLen) (k0 : m0 ≤ maxLen) (k1 : m1 ≤ maxLen) (k2 : m2 ≤ maxLen) (k3 : m3 ≤ maxLen)
    (h0 : IntL w A0 d0) (h1 : IntL w A1 d1) (h2 : IntL w A2 d2) (h3 : BoolL w A3 d3) (j0 : IntL w B0 g0) (j1 : IntL w B1 g1) (j2 : IntL w B2 g2) (j3 : BoolL w B3 g3) :
    Calls Try.prog 40 #[.agg #[.slice A0 n0 c0, .slice A1 n1 c1, .slice A2 n2 c2, .slice A3 n3 c3, .int .i64 d4], .agg #[.slice B0 m0 e0, .slice B1 m1 e1, .slice B2 m2 e2, .slice B3 m3 e3, .int .i64 g4]] w fun e w' => e = .returned (.bool (sameMm d0 d1 d2 d3 d4 g0 g1 g2 g3 g4)) ∧ Below w.heap.size w w' := by
  obtain ⟨W0, hW0⟩ : ∃ W0, W0 = ((w.alloc (.cells #[.slice A0 n0 c0, .slice A1 n1 c1, .slice A2 n2 c2, .slice A3 n3 c3, .int .i64 d4] 28)).alloc (.cells #[.slice B0 m0 e0, .slice B1 m1 e1, .slice B2 m2 e2, .slice B3 m3 e3, .int .i64 g4] 28)) := ⟨_, rfl⟩
  have hb0 : Below w.heap.size w W0 := by rw [hW0]; exact bt (alloc_below _ _) (alloc_below _ _)
  have X0 : Hid (Box W0 w.heap.size 28 #[.slice A0 n0 c0, .slice A1 n1 c1, .slice A2 n2 c2, .slice A3 n3 c3, .int .i64 d4]) := Lib.hid (by rw [hW0]; exact (Box.new _ _ _).alloc _)
  have Y0 : Hid (Box W0 (w.heap.size + 1) 28 #[.slice B0 m0 e0, .slice B1 m1 e1, .slice B2 m2 e2, .slice B3 m3 e3, .int .i64 g4]) := Lib.hid (by rw [hW0]; simpa using Box.new (w.alloc (.cells #[.slice A0 n0 c0, .slice A1 n1 c1, .slice A2 n2 c2, .slice A3 n3 c3, .int .i64 d4] 28)) 28 #[.slice B0 m0 e0, .slice B1 m1 e1, .slice B2 m2 e2, .slice B3 m3 e3, .int .i64 g4])
  have H0 := Lib.hid (fun W (hb : Below w.heap.size w W) => l05Ints A0 B0 n0 m0 c0 e0 d0 g0 W l0 p0 b0 k0 (h0.below hb) (j0.below hb))
  have H1 := Lib.hid (fun W (hb : Below w.heap.size w W) => l05Ints A1 B1 n1 m1 c1 e1 d1 g1 W l1 p1 b1 k1 (h1.below hb) (j1.below hb))
  have H2 := Lib.hid (fun W (hb : Below w.heap.size w W) => specSame A2 B2 A3 B3 n2 m2 n3 m3 c2 e2 c3 e3 d4 g4 d2 g2 d3 g3 W l2 p2 l3 p3 b2 k2 b3 k3 (h2.below hb) (j2.below hb) (h3.below hb) (j3.below hb))
  have HR : Hid (sameMm d0 d1 d2 d3 d4 g0 g1 g2 g3 g4 = (decide (d0 = g0) && (decide (d1 = g1) && sameFl d2 g2 d3 g3 d4 g4))) := Lib.hid rfl
  generalize sameMm d0 d1 d2 d3 d4 g0 g1 g2 g3 g4 = r at HR
  generalize decide (d0 = g0) = r0 at H0 HR
  generalize decide (d1 = g1) = r1 at H1 HR
  generalize sameFl d2 g2 d3 g3 d4 g4 = r2 at H2 HR
  have HW0 := Lib.hid hW0
  have x0 := X0.out.cell 0 rfl
  have y0 := Y0.out.cell 0 rfl
  rw [HW0.out] at x0 y0
  clear l0 l1 l2 l3 p0 p1 p2 p3 b0 b1 b2 b3 k0 k1 k2 k3 h0 h1 h2 h3 j0 j1 j2 j3 hW0
  go_enter Try.func40, Try.ntmps40
  go_wp2_with fail
  rw [← HW0.out]
  refine (H0.out _ hb0).mono ?_
  rintro e w1 ⟨rfl, hb1⟩
  have q1 := bt hb0 hb1
  have X1 := X0.out.step hb1
  have Y1 := Y0.out.step hb1
  have x1 := X1.cell 1 rfl
  have y1 := Y1.cell 1 rfl
  have HX1 := Lib.hid (And.intro X1 Y1)
  clear x0 y0 X1 Y1
  cases r0
  · go_wp2
    go_ret
    exact ⟨ret_bool HR.out.symm, q1⟩
  · go_wp2_with fail
    refine (H1.out _ q1).mono ?_
    rintro e w2 ⟨rfl, hb2⟩
    have q2 := bt q1 hb2
    have X2 := HX1.out.1.step hb2
    have Y2 := HX1.out.2.step hb2
    have x2 := X2.cell 2 rfl
    have x3 := X2.cell 3 rfl
    have x4 := X2.cell 4 rfl
    have y2 := Y2.cell 2 rfl
    have y3 := Y2.cell 3 rfl
    have y4 := Y2.cell 4 rfl
    clear x1 y1 X2 Y2 HX1
    cases r1
    · go_wp2
      go_ret
      exact ⟨ret_bool HR.out.symm, q2⟩
    · go_wp2_with fail
      refine (H2.out _ q2).mono ?_
      rintro e w3 ⟨rfl, hb3⟩
      go_wp2
      go_ret
      exact ⟨ret_bool HR.out.symm, bt q2 hb3⟩
end

theorem putF_bnd (d0 d1 d2 : List Int) (d3 : List Bool) (d4 a v : Int) (h : szA [.I d0, .I d1, .I d2, .B d3] ≤ 1048576) : lenA [.I (putF d0 d1 d2 d3 d4 a v).1, .I (putF d0 d1 d2 d3 d4 a v).2.1, .I (putF d0 d1 d2 d3 d4 a v).2.2.1, .B (putF d0 d1 d2 d3 d4 a v).2.2.2.1] ≤ 4294967296 := by
  have q := Nat.le_trans (szA_len _) h
  simp only [lenA, Lf.len] at q ⊢
  unfold putF
  split
  · simp only [putR_len, putI_len, putZ_len, putG_len]; omega
  · simp
section
variable (A0 A1 A2 A3 : Option Addr) (c0 c1 c2 c3 : Nat) (d0 d1 d2 : List Int) (d3 : List Bool) (d4 : Int) (w : World)
set_option maxRecDepth 100000 in
theorem specMemOKA (h : RepA w [.slice A0 d0.length c0, .slice A1 d1.length c1, .slice A2 d2.length c2, .slice A3 d3.length c3] [.I d0, .I d1, .I d2, .B d3]) (_c : CapA [.slice A0 d0.length c0, .slice A1 d1.length c1, .slice A2 d2.length c2, .slice A3 d3.length c3]) (z : szA [.I d0, .I d1, .I d2, .B d3] ≤ 1048576) :
    Calls Try.prog 28 #[.agg #[.slice A0 d0.length c0, .slice A1 d1.length c1, .slice A2 d2.length c2, .slice A3 d3.length c3, .int .i64 d4]] w fun e w' => e = .returned (.bool (okMem d0 d1 d2 d3 d4)) ∧ Below w.heap.size w w' := by
  simp only [szA, Lf.sz] at z
  exact specMemOK A0 A1 A2 A3 _ _ _ _ c0 c1 c2 c3 d0 d1 d2 d3 d4 w rfl rfl rfl rfl (by unfold maxLen; omega) (by unfold maxLen; omega) (by unfold maxLen; omega) (by unfold maxLen; omega) (repI h.1) (repI h.2.1) (repI h.2.2.1)
set_option maxRecDepth 100000 in
theorem implMemOKA (h : RepA w [.slice A0 d0.length c0, .slice A1 d1.length c1, .slice A2 d2.length c2, .slice A3 d3.length c3] [.I d0, .I d1, .I d2, .B d3]) (_c : CapA [.slice A0 d0.length c0, .slice A1 d1.length c1, .slice A2 d2.length c2, .slice A3 d3.length c3]) (z : szA [.I d0, .I d1, .I d2, .B d3] ≤ 1048576) :
    Calls Try.prog 18 #[.agg #[.slice A0 d0.length c0, .slice A1 d1.length c1, .slice A2 d2.length c2, .slice A3 d3.length c3, .int .i64 d4]] w fun e w' => e = .returned (.bool (okMem d0 d1 d2 d3 d4)) ∧ Below w.heap.size w w' := by
  simp only [szA, Lf.sz] at z
  exact implMemOK A0 A1 A2 A3 _ _ _ _ c0 c1 c2 c3 d0 d1 d2 d3 d4 w rfl rfl rfl rfl (by unfold maxLen; omega) (by unfold maxLen; omega) (by unfold maxLen; omega) (by unfold maxLen; omega) (repI h.1) (repI h.2.1) (repI h.2.2.1)
end
section
variable (A0 A1 A2 A3 : Option Addr) (c0 c1 c2 c3 : Nat) (d0 d1 d2 : List Int) (d3 : List Bool) (d4 : Int) (a : Int) (w : World)
set_option maxRecDepth 100000 in
theorem specBusGetA (h : RepA w [.slice A0 d0.length c0, .slice A1 d1.length c1, .slice A2 d2.length c2, .slice A3 d3.length c3] [.I d0, .I d1, .I d2, .B d3]) (_c : CapA [.slice A0 d0.length c0, .slice A1 d1.length c1, .slice A2 d2.length c2, .slice A3 d3.length c3]) (z : szA [.I d0, .I d1, .I d2, .B d3] ≤ 1048576) :
    Calls Try.prog 39 #[.agg #[.slice A0 d0.length c0, .slice A1 d1.length c1, .slice A2 d2.length c2, .slice A3 d3.length c3, .int .i64 d4], .int .i64 a] w fun e w' => e = .returned (.tuple #[.int .i64 (getF d0 d1 d2 d3 d4 a).1, .int .i64 (getF d0 d1 d2 d3 d4 a).2]) ∧ Below w.heap.size w w' := by
  simp only [szA, Lf.sz] at z
  exact specBusGet A0 A1 A2 A3 _ _ _ _ c0 c1 c2 c3 d0 d1 d2 d3 d4 w a rfl rfl rfl rfl (by unfold maxLen; omega) (by unfold maxLen; omega) (by unfold maxLen; omega) (by unfold maxLen; omega) (repI h.1) (repI h.2.1) (repI h.2.2.1) (repB h.2.2.2.1)
set_option maxRecDepth 100000 in
theorem implBusGetA (h : RepA w [.slice A0 d0.length c0, .slice A1 d1.length c1, .slice A2 d2.length c2, .slice A3 d3.length c3] [.I d0, .I d1, .I d2, .B d3]) (_c : CapA [.slice A0 d0.length c0, .slice A1 d1.length c1, .slice A2 d2.length c2, .slice A3 d3.length c3]) (z : szA [.I d0, .I d1, .I d2, .B d3] ≤ 1048576) :
    Calls Try.prog 15 #[.agg #[.slice A0 d0.length c0, .slice A1 d1.length c1, .slice A2 d2.length c2, .slice A3 d3.length c3, .int .i64 d4], .int .i64 a] w fun e w' => e = .returned (.tuple #[.int .i64 (getF d0 d1 d2 d3 d4 a).1, .int .i64 (getF d0 d1 d2 d3 d4 a).2]) ∧ Below w.heap.size w w' := by
  simp only [szA, Lf.sz] at z
  exact implBusGet A0 A1 A2 A3 _ _ _ _ c0 c1 c2 c3 d0 d1 d2 d3 d4 w a rfl rfl rfl rfl (by unfold maxLen; omega) (by unfold maxLen; omega) (by unfold maxLen; omega) (by unfold maxLen; omega) (repI h.1) (repI h.2.1) (repI h.2.2.1) (repB h.2.2.2.1)
end
section
variable (A0 A1 A2 A3 : Option Addr) (c0 c1 c2 c3 : Nat) (d0 d1 d2 : List Int) (d3 : List Bool) (d4 : Int) (a v : Int) (w : World)
set_option maxRecDepth 100000 in
theorem specBusPutA (h : RepA w [.slice A0 d0.length c0, .slice A1 d1.length c1, .slice A2 d2.length c2, .slice A3 d3.length c3] [.I d0, .I d1, .I d2, .B d3]) (_c : CapA [.slice A0 d0.length c0, .slice A1 d1.length c1, .slice A2 d2.length c2, .slice A3 d3.length c3]) (z : szA [.I d0, .I d1, .I d2, .B d3] ≤ 1048576) :
    Calls Try.prog 14 #[.agg #[.slice A0 d0.length c0, .slice A1 d1.length c1, .slice A2 d2.length c2, .slice A3 d3.length c3, .int .i64 d4], .int .i64 a, .int .i64 v] w (fun e w' => ∃ rA0 rA1 rA2 rA3 rc0 rc1 rc2 rc3, e = .returned (.tuple #[.agg #[.slice rA0 (putF d0 d1 d2 d3 d4 a v).1.length rc0, .slice rA1 (putF d0 d1 d2 d3 d4 a v).2.1.length rc1, .slice rA2 (putF d0 d1 d2 d3 d4 a v).2.2.1.length rc2, .slice rA3 (putF d0 d1 d2 d3 d4 a v).2.2.2.1.length rc3, .int .i64 (putF d0 d1 d2 d3 d4 a v).2.2.2.2.1], .int .i64 (putF d0 d1 d2 d3 d4 a v).2.2.2.2.2]) ∧ Hid (OwnA w' w.heap.size w'.heap.size [.slice rA0 (putF d0 d1 d2 d3 d4 a v).1.length rc0, .slice rA1 (putF d0 d1 d2 d3 d4 a v).2.1.length rc1, .slice rA2 (putF d0 d1 d2 d3 d4 a v).2.2.1.length rc2, .slice rA3 (putF d0 d1 d2 d3 d4 a v).2.2.2.1.length rc3] [.I (putF d0 d1 d2 d3 d4 a v).1, .I (putF d0 d1 d2 d3 d4 a v).2.1, .I (putF d0 d1 d2 d3 d4 a v).2.2.1, .B (putF d0 d1 d2 d3 d4 a v).2.2.2.1]) ∧ Below w.heap.size w w') := by
  simp only [szA, Lf.sz] at z
  exact specBusPut A0 A1 A2 A3 _ _ _ _ c0 c1 c2 c3 d0 d1 d2 d3 d4 w a v rfl rfl rfl rfl (by unfold maxLen; omega) (by unfold maxLen; omega) (by unfold maxLen; omega) (by unfold maxLen; omega) (repI h.1) (repI h.2.1) (repI h.2.2.1) (repB h.2.2.2.1)
set_option maxRecDepth 100000 in
theorem implBusPutA (h : RepA w [.slice A0 d0.length c0, .slice A1 d1.length c1, .slice A2 d2.length c2, .slice A3 d3.length c3] [.I d0, .I d1, .I d2, .B d3]) (_c : CapA [.slice A0 d0.length c0, .slice A1 d1.length c1, .slice A2 d2.length c2, .slice A3 d3.length c3]) (z : szA [.I d0, .I d1, .I d2, .B d3] ≤ 1048576) :
    Calls Try.prog 13 #[.agg #[.slice A0 d0.length c0, .slice A1 d1.length c1, .slice A2 d2.length c2, .slice A3 d3.length c3, .int .i64 d4], .int .i64 a, .int .i64 v] w (fun e w' => ∃ rA0 rA1 rA2 rA3 rc0 rc1 rc2 rc3, e = .returned (.tuple #[.agg #[.slice rA0 (putF d0 d1 d2 d3 d4 a v).1.length rc0, .slice rA1 (putF d0 d1 d2 d3 d4 a v).2.1.length rc1, .slice rA2 (putF d0 d1 d2 d3 d4 a v).2.2.1.length rc2, .slice rA3 (putF d0 d1 d2 d3 d4 a v).2.2.2.1.length rc3, .int .i64 (putF d0 d1 d2 d3 d4 a v).2.2.2.2.1], .int .i64 (putF d0 d1 d2 d3 d4 a v).2.2.2.2.2]) ∧ Hid (OwnA w' w.heap.size w'.heap.size [.slice rA0 (putF d0 d1 d2 d3 d4 a v).1.length rc0, .slice rA1 (putF d0 d1 d2 d3 d4 a v).2.1.length rc1, .slice rA2 (putF d0 d1 d2 d3 d4 a v).2.2.1.length rc2, .slice rA3 (putF d0 d1 d2 d3 d4 a v).2.2.2.1.length rc3] [.I (putF d0 d1 d2 d3 d4 a v).1, .I (putF d0 d1 d2 d3 d4 a v).2.1, .I (putF d0 d1 d2 d3 d4 a v).2.2.1, .B (putF d0 d1 d2 d3 d4 a v).2.2.2.1]) ∧ Below w.heap.size w w') := by
  simp only [szA, Lf.sz] at z
  exact implBusPut A0 A1 A2 A3 _ _ _ _ c0 c1 c2 c3 d0 d1 d2 d3 d4 w a v rfl rfl rfl rfl (by unfold maxLen; omega) (by unfold maxLen; omega) (by unfold maxLen; omega) (by unfold maxLen; omega) (repI h.1) (repI h.2.1) (repI h.2.2.1) (repB h.2.2.2.1)
end
section
variable (A0 A1 A2 A3 : Option Addr) (c0 c1 c2 c3 : Nat) (d0 d1 d2 : List Int) (d3 : List Bool) (d4 : Int) (B0 B1 B2 B3 : Option Addr) (e0 e1 e2 e3 : Nat) (g0 g1 g2 : List Int) (g3 : List Bool) (g4 : Int) (w : World)
set_option maxRecDepth 100000 in
theorem specSameMemA (h : RepA w [.slice A0 d0.length c0, .slice A1 d1.length c1, .slice A2 d2.length c2, .slice A3 d3.length c3] [.I d0, .I d1, .I d2, .B d3]) (_c : CapA [.slice A0 d0.length c0, .slice A1 d1.length c1, .slice A2 d2.length c2, .slice A3 d3.length c3]) (z : szA [.I d0, .I d1, .I d2, .B d3] ≤ 1048576) (h' : RepA w [.slice B0 g0.length e0, .slice B1 g1.length e1, .slice B2 g2.length e2, .slice B3 g3.length e3] [.I g0, .I g1, .I g2, .B g3]) (_c' : CapA [.slice B0 g0.length e0, .slice B1 g1.length e1, .slice B2 g2.length e2, .slice B3 g3.length e3]) (z' : szA [.I g0, .I g1, .I g2, .B g3] ≤ 1048576) :
    Calls Try.prog 40 #[.agg #[.slice A0 d0.length c0, .slice A1 d1.length c1, .slice A2 d2.length c2, .slice A3 d3.length c3, .int .i64 d4], .agg #[.slice B0 g0.length e0, .slice B1 g1.length e1, .slice B2 g2.length e2, .slice B3 g3.length e3, .int .i64 g4]] w fun e w' => e = .returned (.bool (sameMm d0 d1 d2 d3 d4 g0 g1 g2 g3 g4)) ∧ Below w.heap.size w w' := by
  simp only [szA, Lf.sz] at z z'
  exact specSameMem A0 A1 A2 A3 _ _ _ _ c0 c1 c2 c3 d0 d1 d2 d3 d4 B0 B1 B2 B3 _ _ _ _ e0 e1 e2 e3 g0 g1 g2 g3 g4 w rfl rfl rfl rfl rfl rfl rfl rfl (by unfold maxLen; omega) (by unfold maxLen; omega) (by unfold maxLen; omega) (by unfold maxLen; omega) (by unfold maxLen; omega) (by unfold maxLen; omega) (by unfold maxLen; omega) (by unfold maxLen; omega) (repI h.1) (repI h.2.1) (repI h.2.2.1) (repB h.2.2.2.1) (repI h'.1) (repI h'.2.1) (repI h'.2.2.1) (repB h'.2.2.2.1)
set_option maxRecDepth 100000 in
theorem implSameMemA (h : RepA w [.slice A0 d0.length c0, .slice A1 d1.length c1, .slice A2 d2.length c2, .slice A3 d3.length c3] [.I d0, .I d1, .I d2, .B d3]) (_c : CapA [.slice A0 d0.length c0, .slice A1 d1.length c1, .slice A2 d2.length c2, .slice A3 d3.length c3]) (z : szA [.I d0, .I d1, .I d2, .B d3] ≤ 1048576) (h' : RepA w [.slice B0 g0.length e0, .slice B1 g1.length e1, .slice B2 g2.length e2, .slice B3 g3.length e3] [.I g0, .I g1, .I g2, .B g3]) (_c' : CapA [.slice B0 g0.length e0, .slice B1 g1.length e1, .slice B2 g2.length e2, .slice B3 g3.length e3]) (z' : szA [.I g0, .I g1, .I g2, .B g3] ≤ 1048576) :
    Calls Try.prog 19 #[.agg #[.slice A0 d0.length c0, .slice A1 d1.length c1, .slice A2 d2.length c2, .slice A3 d3.length c3, .int .i64 d4], .agg #[.slice B0 g0.length e0, .slice B1 g1.length e1, .slice B2 g2.length e2, .slice B3 g3.length e3, .int .i64 g4]] w fun e w' => e = .returned (.bool (sameMm d0 d1 d2 d3 d4 g0 g1 g2 g3 g4)) ∧ Below w.heap.size w w' := by
  simp only [szA, Lf.sz] at z z'
  exact implSameMem A0 A1 A2 A3 _ _ _ _ c0 c1 c2 c3 d0 d1 d2 d3 d4 B0 B1 B2 B3 _ _ _ _ e0 e1 e2 e3 g0 g1 g2 g3 g4 w rfl rfl rfl rfl rfl rfl rfl rfl (by unfold maxLen; omega) (by unfold maxLen; omega) (by unfold maxLen; omega) (by unfold maxLen; omega) (by unfold maxLen; omega) (by unfold maxLen; omega) (by unfold maxLen; omega) (by unfold maxLen; omega) (repI h.1) (repI h.2.1) (repI h.2.2.1) (repB h.2.2.2.1) (repI h'.1) (repI h'.2.1) (repI h'.2.2.1) (repB h'.2.2.2.1)
end
end Go.Proofs.Ytdanefhfngmipaa

/- NewMem on both sides. Written by gen_newmem.py. -/
namespace Go.Proofs.Ytdanefhfngmipaa
open Go.RowKit

/-- The first j of p, then 255. -/
def progZ (p : List Int) (j : Nat) : List Int := (List.range 256).map fun i => if i < j then p.getD i 0 else 255
theorem progZ_len (p : List Int) (j : Nat) : (progZ p j).length = 256 := by simp [progZ]
theorem progZ_at (p : List Int) (j i : Nat) (h : i < 256) : (progZ p j).getD i 0 = if i < j then p.getD i 0 else 255 := by
  unfold progZ
  rw [List.getD_eq_getElem?_getD, List.getElem?_map, List.getElem?_range h]
  rfl
theorem progZ_zero (p : List Int) : progZ p 0 = newZ := by
  apply ext_getD 0 (by rw [progZ_len, newZ_len])
  intro i hi
  rw [progZ_len] at hi
  rw [progZ_at _ _ _ hi, if_neg (by omega)]
  unfold newZ
  rw [List.getD_eq_getElem?_getD, List.getElem?_replicate, if_pos hi]
  rfl
theorem progZ_next (p : List Int) (j : Nat) (hj : j < 256) : (progZ p j).set j (p.getD j 0) = progZ p (j + 1) := by
  apply ext_getD 0 (by simp [progZ_len])
  intro i hi
  have hi' : i < 256 := by simpa [progZ_len] using hi
  rw [progZ_at _ _ _ hi']
  by_cases e : i = j
  · subst e
    rw [List.getD_eq_getElem?_getD, List.getElem?_set_self (by rw [progZ_len]; exact hj), if_pos (by omega)]
    rfl
  · rw [List.getD_eq_getElem?_getD, List.getElem?_set_ne (fun q => e q.symm), ← List.getD_eq_getElem?_getD, progZ_at _ _ _ hi']
    by_cases q : i < j
    · rw [if_pos q, if_pos (by omega)]
    · rw [if_neg q, if_neg (by omega)]
def zR : List Int := List.replicate 256 0
def zI : List Int := List.replicate 32 0
theorem zR_len : zR.length = 256 := List.length_replicate
theorem zI_len : zI.length = 32 := List.length_replicate
def newCode (p : List Int) : Int := if 4096 < p.length then 2 else if 256 < p.length then 8 else if p.all byB = true then 0 else 4
def newF (p : List Int) : List Int × List Int × List Int × List Bool × Int × Int := if newCode p = 0 then (zR, zI, progZ p p.length, zG, 0, 0) else ([], [], [], [], 0, newCode p)
theorem newCode0 {p : List Int} (h : newCode p = 0) : p.length ≤ 256 ∧ p.all byB = true := by
  unfold newCode at h
  split at h
  · omega
  · split at h
    · omega
    · split at h
      · exact ⟨by omega, by assumption⟩
      · omega
theorem newF_bnd (p : List Int) : lenA [.I (newF p).1, .I (newF p).2.1, .I (newF p).2.2.1, .B (newF p).2.2.2.1] ≤ 4294967296 := by
  unfold newF
  split
  · simp only [lenA, Lf.len, zR_len, zI_len, progZ_len, zG_len]; omega
  · simp [lenA, Lf.len]

/-- Rows of four blocks. -/
theorem ownA4b {w : World} {L R b0 b1 b2 : Nat} {C : Option Addr} {c0 c1 c2 c3 : Nat} {d0 d1 d2 : List Int} {d3 : List Bool} (a : OwnI w L R (some ⟨b0, 0, none⟩) d0) (b : OwnI w L R (some ⟨b1, 0, none⟩) d1) (c : OwnI w L R (some ⟨b2, 0, none⟩) d2) (d : OwnB w L R C d3) (h01 : b0 ≠ b1) (h02 : b0 ≠ b2) (h12 : b1 ≠ b2) :
    OwnA w L R [.slice (some ⟨b0, 0, none⟩) d0.length c0, .slice (some ⟨b1, 0, none⟩) d1.length c1, .slice (some ⟨b2, 0, none⟩) d2.length c2, .slice C d3.length c3] [.I d0, .I d1, .I d2, .B d3] := by
  have blk : ∀ {g n k b : Nat}, blkL (.slice (some ⟨g, 0, none⟩) n k) = some b → b = g := by
    intro g n k b h
    rcases Nat.eq_zero_or_pos n with hz | hz
    · rw [hz, blkL_zero] at h; cases h
    · rw [blkL_some hz] at h; injection h with h; exact h.symm
  have far : ∀ {g : Nat} {dd : List Int} {k kk b : Nat}, OwnI w L R (some ⟨g, 0, none⟩) dd → blkL (.slice (some ⟨g, 0, none⟩) dd.length k) = some b → blkL (.slice C d3.length kk) = some b → False := by
    intro g dd k kk b h h1 h2
    obtain ⟨m, f, hr⟩ := h.rowOf h1
    obtain ⟨m', f', hr'⟩ := d.rowOf h2
    exact row_ne hr hr' (by decide) rfl
  refine OwnA.cons ⟨_, c0, rfl, a⟩ (OwnA.cons ⟨_, c1, rfl, b⟩ (ownIB c d) ?_) ?_
  · intro g hg hm
    obtain ⟨v, hv, he⟩ := List.mem_filterMap.1 hm
    simp only [List.mem_cons, List.not_mem_nil, or_false] at hv
    rcases hv with rfl | rfl
    · exact h12 ((blk hg).symm.trans (blk he))
    · exact far b hg he
  · intro g hg hm
    obtain ⟨v, hv, he⟩ := List.mem_filterMap.1 hm
    simp only [List.mem_cons, List.not_mem_nil, or_false] at hv
    rcases hv with rfl | rfl | rfl
    · exact h01 ((blk hg).symm.trans (blk he))
    · exact h02 ((blk hg).symm.trans (blk he))
    · exact far a hg he
theorem made_own {w : World} {b n L R : Nat} (h : Box w b 3 (madeCells #[.int .i64 0] n)) (hl : L ≤ b) (hr : b < R) : OwnI w L R (some ⟨b, 0, none⟩) (List.replicate n 0) :=
  .inr ⟨b, n, fun _ => .int .i64 0, rfl, hl, hr, by simp, made_row h, fun i hi => by
    rw [List.getD_eq_getElem?_getD, List.getElem?_replicate, if_pos (by simpa using hi)]; rfl⟩
theorem made_size (n : Nat) : (madeCells #[Value.int .i64 0] n).size = n := by simp [madeCells]
theorem made_ne {w : World} {b b1 n m : Nat} (h : Box w b 3 (madeCells #[.int .i64 0] n)) (k : Box w b1 3 (madeCells #[.int .i64 0] m)) (hne : n ≠ m) : b ≠ b1 := by
  rintro rfl
  have q : some (Obj.cells (madeCells #[.int .i64 0] n) 3 (0, 0)) = some (Obj.cells (madeCells #[.int .i64 0] m) 3 (0, 0)) := h.symm.trans k
  injection q with q
  injection q with q
  exact hne (by rw [← made_size n, q, made_size])
theorem ownI_blk {w : World} {L R : Nat} {A : Option Addr} {zs : List Int} (h : OwnI w L R A zs) (hn : 0 < zs.length) : ∃ ba, A = some ⟨ba, 0, none⟩ ∧ L ≤ ba ∧ ba < R ∧ w.cell? ⟨ba, 0, none⟩ = some (.int .i64 (zs.getD 0 0)) := by
  obtain ⟨b, m, f, e, hc, _, h1, h2, _, _⟩ := h.put 0 hn
  exact ⟨b, e, h1, h2, hc⟩
theorem made_row_ne {w : World} {b ba n : Nat} {x : Int} (h : Box w b 3 (madeCells #[.int .i64 0] n)) (hn : 0 < n) (hc : w.cell? ⟨ba, 0, none⟩ = some (.int .i64 x)) (hx : x ≠ 0) : b ≠ ba := by
  rintro rfl
  have := (made_row h).cell hn
  rw [this] at hc
  injection hc with hc
  injection hc with _ hc
  exact hx hc.symm

set_option maxRecDepth 100000 in
theorem checkProgram (A : Option Addr) (n c : Nat) (p : List Int) (w : World) (hl : p.length = n) (hn : n ≤ maxLen) (h : IntL w A p) :
    Calls Try.prog 70 #[.slice A n c] w fun e w' => e = .returned (.int .i64 (newCode p)) ∧ w = w' := by
  have HB := Lib.hid (allBytes A n c p w hl hn h)
  have HL := Lib.hid hl
  unfold maxLen at hn
  obtain ⟨r, hr⟩ : ∃ r, newCode p = r := ⟨_, rfl⟩
  rw [hr]
  have HR := Lib.hid hr
  clear hl h hr
  by_cases h1 : 4096 < n
  · have HE : Hid (r = 2) := Lib.hid (by rw [← HR.out]; unfold newCode; rw [HL.out, if_pos h1])
    have q1 : (4096 : Int) < (n : Int) := by omega
    go_enter Try.func70, Try.ntmps70
    go_wp2
    go_ret
    exact ⟨ret_int HE.out.symm, rfl⟩
  · have q1 : ¬ (4096 : Int) < (n : Int) := by omega
    by_cases h2 : 256 < n
    · have HE : Hid (r = 8) := Lib.hid (by rw [← HR.out]; unfold newCode; rw [HL.out, if_neg h1, if_pos h2])
      have q2 : (256 : Int) < (n : Int) := by omega
      go_enter Try.func70, Try.ntmps70
      go_wp2
      go_ret
      exact ⟨ret_int HE.out.symm, rfl⟩
    · have q2 : ¬ (256 : Int) < (n : Int) := by omega
      have HE : Hid (r = if p.all byB = true then 0 else 4) := Lib.hid (by rw [← HR.out]; unfold newCode; rw [HL.out, if_neg h1, if_neg h2])
      generalize p.all byB = ab at HB HE
      clear h1 h2
      cases ab
      · go_enter Try.func70, Try.ntmps70
        go_wp2_with (first | (go_at_call 88; refine HB.out.mono ?_; rintro e w' ⟨rfl, rfl⟩))
        go_ret
        exact ⟨ret_int HE.out.symm, rfl⟩
      · go_enter Try.func70, Try.ntmps70
        go_wp2_with (first | (go_at_call 88; refine HB.out.mono ?_; rintro e w' ⟨rfl, rfl⟩))
        go_ret
        exact ⟨ret_int HE.out.symm, rfl⟩

/-- copy of a row into a row of the call's own: nothing but that block turns. -/
theorem wpList_copy_btw {P : Program} {w : World} {ops : Array Oper} {rest : List Oper} {o : Oper} {a : Act} {Q : Exit → Act → World → Prop} (hgd : o.guard = none) (d s : Operand) (dT sT : TypeId)
    (ho : o.op = .call { callee := .builtin .copy, args := #[d, s], argTypes := #[dT, sT] }) (elem : TypeId) (hu : P.underlying dT = some (.slice elem)) (hsz : (P.info? elem).map (·.size) = some 1)
    (dp sp : Option Addr) (dLen dCap sLen sCap : Nat) (hd : a.eval d = .slice dp dLen dCap) (hs : a.eval s = .slice sp sLen sCap)
    (g off : Nat) (cur : List Value) (t : TypeId) (hg : w.heap[g]? = some (.cells cur.toArray t (0, 0))) (cs : List Value) (hn : cs.length = Nat.min sLen dLen)
    (hpos : 0 < cs.length → dp = some ⟨g, off, none⟩ ∧ ∃ ad, sp = some ad ∧ ∀ j v, cs[j]? = some v → w.cell? (ad.add j) = some v)
    (hfit : off + cs.length ≤ cur.length) (h1 : ∀ v ∈ cs, v.oneCell' = true)
    (h : ∀ w', Hid (w'.heap[g]? = some (.cells (splice cur off cs).toArray t (0, 0))) → Btw g (g + 1) w w' → w'.heap.size = w.heap.size → wpList P ops Q rest (a.put o.dst (goInt cs.length)) w') :
    wpList P ops Q (o :: rest) a w := by
  by_cases h0 : cs.length = 0
  · obtain rfl : cs = [] := List.eq_nil_of_length_eq_zero h0
    refine wpList_copy_nothing hgd d s dT sT ho elem hu hsz dp sp dLen dCap sLen sCap hd hs (by simpa using hn.symm) ?_
    exact h w (show _ = _ by simpa [splice] using hg) (Btw.refl _ _ _) rfl
  · obtain ⟨rfl, ad, rfl, hsrc⟩ := hpos (by omega)
    refine wpList_copy_own hgd d s dT sT ho elem hu hsz g off dLen dCap ad sLen sCap hd hs cur.toArray t hg cs hn hsrc (by simpa using hfit) h1 ?_
    exact h _ (show _ = _ by simpa [splice] using setRow_heap w g _ _ t _ hg) ⟨rfl, rfl, rfl, by simp [World.setRow], fun k _ hk => setRow_other w g k _ (by omega)⟩ (by simp [World.setRow])
theorem ownI_spliced {w w' : World} {L R b : Nat} {zs p : List Int} {m : Nat} {f : Nat → Value} {cur : List Value} (hr : w.rowIs b 3 m f) (hcur : w.heap[b]? = some (.cells cur.toArray 3 (0, 0))) (hm : zs.length ≤ m) (hf : ∀ i, i < zs.length → f i = .int .i64 (zs.getD i 0)) (hp : p.length ≤ zs.length) (hl : L ≤ b) (hR : b < R)
    (h : w'.heap[b]? = some (.cells (splice cur 0 (cellsI p)).toArray 3 (0, 0))) (qs : List Int) (hq : qs.length = zs.length) (hqi : ∀ i, i < qs.length → qs.getD i 0 = if i < p.length then p.getD i 0 else zs.getD i 0) : OwnI w' L R (some ⟨b, 0, none⟩) qs := by
  obtain ⟨cs, hc, hs, hi⟩ := hr
  have e : cs = cur.toArray := by
    have := hc.symm.trans hcur
    injection this with this
    injection this
  subst e
  have hcl : cur.length = m := by simpa using hs
  have hsl : (splice cur 0 (cellsI p)).length = m := by rw [length_splice _ _ _ (by rw [cellsI_len]; omega)]; exact hcl
  refine .inr ⟨b, m, fun i => (splice cur 0 (cellsI p)).getD i undef, rfl, hl, hR, by omega, ⟨_, h, by simpa using hsl, fun i hi' => ?_⟩, fun i hi' => ?_⟩
  · show _ = some ((splice cur 0 (cellsI p)).getD i undef)
    rw [List.getElem?_toArray, List.getD_eq_getElem?_getD, List.getElem?_eq_getElem (by omega)]; rfl
  · show (splice cur 0 (cellsI p)).getD i undef = _
    rw [hqi i hi', List.getD_eq_getElem?_getD]
    unfold splice
    rw [List.take_zero, List.nil_append, Nat.zero_add]
    by_cases q : i < p.length
    · rw [if_pos q, List.getElem?_append_left (by rw [cellsI_len]; exact q)]
      unfold cellsI
      rw [List.getElem?_map, List.getD_eq_getElem?_getD, List.getElem?_eq_getElem q]
      rfl
    · rw [if_neg q, List.getElem?_append_right (by rw [cellsI_len]; omega), List.getElem?_drop, cellsI_len, show p.length + (i - p.length) = i by omega]
      have := hi i (by omega)
      rw [List.getElem?_toArray] at this
      rw [this, ← hf i (by omega)]
      rfl
set_option maxRecDepth 100000 in
theorem szInt : (Try.prog.info? 3).map (·.size) = some 1 := by kernel_rfl
theorem arr21n (T : Array Value) (h : T.size = 21) : ∃ t0 t1 t2 t3 t4 t5 t6 t7 t8 t9 t10 t11 t12 t13 t14 t15 t16 t17 t18 t19 t20 : Value, T = #[t0, t1, t2, t3, t4, t5, t6, t7, t8, t9, t10, t11, t12, t13, t14, t15, t16, t17, t18, t19, t20] := by
  obtain ⟨l⟩ := T
  match l, h with
  | [t0, t1, t2, t3, t4, t5, t6, t7, t8, t9, t10, t11, t12, t13, t14, t15, t16, t17, t18, t19, t20], _ => exact ⟨t0, t1, t2, t3, t4, t5, t6, t7, t8, t9, t10, t11, t12, t13, t14, t15, t16, t17, t18, t19, t20, rfl⟩

def newiF (M S : Nat) (fl : Value) (s2 s3 : Value) : Nat → (Nat → Value) → World → Prop
  | 0, t, w => ∃ b, t 17 = .slice (some ⟨b, 0, none⟩) 256 256 ∧ Box w b 3 (madeCells #[.int .i64 0] 256) ∧ S ≤ b
  | 1, t, w => ∃ b, t 18 = .slice (some ⟨b, 0, none⟩) 32 32 ∧ Box w b 3 (madeCells #[.int .i64 0] 32) ∧ S ≤ b
  | 2, t, _ => t 19 = fl
  | 3, t, _ => ∃ b b1, t 17 = .slice (some ⟨b, 0, none⟩) 256 256 ∧ t 18 = .slice (some ⟨b1, 0, none⟩) 32 32 ∧ t 20 = .agg #[.slice (some ⟨b, 0, none⟩) 256 256, .slice (some ⟨b1, 0, none⟩) 32 32, s2, s3, .int .i64 0]
  | 4, t, w => ∃ b b1, t 17 = .slice (some ⟨b, 0, none⟩) 256 256 ∧ t 18 = .slice (some ⟨b1, 0, none⟩) 32 32 ∧ Box w M 28 #[.slice (some ⟨b, 0, none⟩) 256 256, .slice (some ⟨b1, 0, none⟩) 32 32, s2, s3, .int .i64 0]
  | 5, t, _ => t 3 = .int .i64 0
  | _, _, _ => True
section
variable {M S : Nat} {fl s2 s3 : Value} {w w' : World}
theorem newiF_below (k : Below w.heap.size w w') : ∀ (j : Nat) (t : Nat → Value), newiF M S fl s2 s3 j t w → newiF M S fl s2 s3 j t w'
  | 2, _, h | 3, _, h | 5, _, h => h
  | 0, _, ⟨b, e, h, q⟩ => ⟨b, e, h.step k, q⟩
  | 1, _, ⟨b, e, h, q⟩ => ⟨b, e, h.step k, q⟩
  | 4, _, ⟨b, b1, e, e2, h⟩ => ⟨b, b1, e, e2, h.step k⟩
  | _ + 6, _, _ => trivial
theorem newiF_store {ys : Array Value} (Y : Box w M 28 ys) (i : Nat) (u : Value) : ∀ (j : Nat) (t : Nat → Value), j ≠ 4 → newiF M S fl s2 s3 j t w → newiF M S fl s2 s3 j t (w.setCell ⟨M, i, none⟩ u)
  | 2, _, _, h | 3, _, _, h | 5, _, _, h => h
  | 0, _, _, ⟨b, e, h, q⟩ => ⟨b, e, h.far (p := ⟨M, i, none⟩) (h.box_ne Y (by decide)) u, q⟩
  | 1, _, _, ⟨b, e, h, q⟩ => ⟨b, e, h.far (p := ⟨M, i, none⟩) (h.box_ne Y (by decide)) u, q⟩
  | 4, _, n, _ => (n rfl).elim
  | _ + 6, _, _, _ => trivial
end
def RN (W3 : World) (m : Nat) (W : World) : Prop := Btw m (m + 1) W3 W ∧ ∃ cs : Array Value, cs.size = 5 ∧ Box W m 28 cs
theorem RN.alloc {W3 W : World} {m : Nat} (h : RN W3 m W) (o : Obj) : RN W3 m (W.alloc o) := by
  obtain ⟨a, cs, hs, b⟩ := h
  exact ⟨a.alloc o, cs, hs, b.alloc o⟩
theorem RN.set {W3 W : World} {m : Nat} (h : RN W3 m W) (j : Nat) (v : Value) : RN W3 m (W.setCell ⟨m, j, none⟩ v) := by
  obtain ⟨a, cs, hs, b⟩ := h
  exact ⟨a.setCell (p := ⟨m, j, none⟩) (Nat.le_refl _) (Nat.lt_succ_self _) v, _, by simpa using hs, b.set j v⟩
theorem OwnI.awayM {w w' : World} {lo hi b : Nat} {A : Option Addr} {zs : List Int} {cs : Array Value} (h : OwnI w lo hi A zs) (X : Box w b 28 cs) (hb : Btw b (b + 1) w w') : OwnI w' lo hi A zs := h.awayB X (by decide) hb
theorem OwnB.awayM {w w' : World} {lo hi b : Nat} {A : Option Addr} {gs : List Bool} {cs : Array Value} (h : OwnB w lo hi A gs) (X : Box w b 28 cs) (hb : Btw b (b + 1) w w') : OwnB w' lo hi A gs := by
  rcases h with e | ⟨g, m, f, e, h1, h2, hm, hr, hf⟩
  · exact .inl e
  · exact .inr ⟨g, m, f, e, h1, h2, hm, hb.row hr (by have := X.ne hr (by decide); omega), hf⟩

set_option maxRecDepth 100000 in
set_option maxHeartbeats 8000000 in
theorem implNewMem (A0 : Option Addr) (n c0 : Nat) (p : List Int) (w : World) (hl : p.length = n) (hn : n ≤ maxLen) (h : IntL w A0 p) :
    Calls Try.prog 33 #[.slice A0 n c0] w (GivesMemCode (newF p).1 (newF p).2.1 (newF p).2.2.1 (newF p).2.2.2.1 (newF p).2.2.2.2.1 (newF p).2.2.2.2.2 w) := by
  obtain ⟨W0, hW0⟩ : ∃ W0, W0 = (w.alloc (.cells #[.slice none 0 0, .slice none 0 0, .slice none 0 0, .slice none 0 0, .int .i64 0] 28)) := ⟨_, rfl⟩
  have hb0 : Below w.heap.size w W0 := by rw [hW0]; exact alloc_below _ _
  have Y0 : Hid (Box W0 w.heap.size 28 #[.slice none 0 0, .slice none 0 0, .slice none 0 0, .slice none 0 0, .int .i64 0]) := Lib.hid (by rw [hW0]; exact Box.new _ _ _)
  have HC := Lib.hid (checkProgram A0 n c0 p W0 hl hn (h.below hb0))
  have HN := Lib.hid (implNewFlash W0)
  have H := Lib.hid (And.intro hl h)
  obtain ⟨r, hr⟩ : ∃ r, newF p = r := ⟨_, rfl⟩
  rw [hr]
  have HR : Hid (r = if newCode p = 0 then (zR, zI, progZ p p.length, zG, 0, 0) else ([], [], [], [], 0, newCode p)) := Lib.hid hr.symm
  have HK0 : Hid (newCode p = 0 → p.length ≤ 256) := Lib.hid (fun q => (newCode0 q).1)
  generalize newCode p = cd at HC HR HK0
  have HW0 := Lib.hid hW0
  have hs0 : W0.heap.size = w.heap.size + 1 := by rw [hW0]; simp
  have HS0 := Lib.hid hs0
  have HBb := Lib.hid hb0
  clear hl h hW0 hr hs0
  go_enter Try.func33, Try.ntmps33
  go_wp2_with fail
  rw [← HW0.out]
  refine HC.out.mono ?_
  rintro e w1 ⟨rfl, rfl⟩
  by_cases hz : cd = 0
  · subst hz
    have hp : p.length ≤ 256 := HK0.out rfl
    have HRz : Hid (r = (zR, zI, progZ p p.length, zG, 0, 0)) := Lib.hid (by rw [HR.out, if_pos rfl])
    clear HR HK0
    go_wp2_with fail
    refine HN.out.mono ?_
    rintro e w1 ⟨A, n1, c, C, m1, d, rfl, L1, M1, S1, R1, hb1⟩
    obtain rfl : n1 = 256 := by have := L1.out; have := newZ_len; omega
    obtain rfl : m1 = 16 := by have := M1.out; have := zG_len; omega
    obtain ⟨bf, hbf⟩ : ∃ bf, bf = w1.heap.size := ⟨_, rfl⟩
    obtain ⟨W2, hW2⟩ : ∃ W2, W2 = w1.alloc (.cells #[.slice A 256 c, .slice C 16 d, .int .i64 0] 26) := ⟨_, rfl⟩
    have hb2 : Below w1.heap.size w1 W2 := by rw [hW2]; exact alloc_below _ _
    have F2 : Box W2 bf 26 #[.slice A 256 c, .slice C 16 d, .int .i64 0] := by rw [hW2, hbf]; exact Box.new _ _ _
    have Y2 : Box W2 w.heap.size 28 #[.slice none 0 0, .slice none 0 0, .slice none 0 0, .slice none 0 0, .int .i64 0] := (Y0.out.step hb1).step hb2
    have S2 := S1.out.below hb2
    have R2 := R1.out.below hb2
    obtain e0 | ⟨ba, m, f, rfl, hlo, hhi, hm, hrow, hf⟩ : (newZ = [] ∨ ∃ ba m f, A = some ⟨ba, 0, none⟩ ∧ W0.heap.size ≤ ba ∧ ba < w1.heap.size ∧ newZ.length ≤ m ∧ W2.rowIs ba 3 m f ∧ ∀ i, i < newZ.length → f i = .int .i64 (newZ.getD i 0)) := S2
    · exact absurd (congrArg List.length e0) (by rw [newZ_len]; simp)
    obtain ⟨cur, hcl, hcur⟩ := row_heap hrow
    have hbW2 : Below w.heap.size w W2 := bt (bt hb0 hb1) hb2
    have f0 := F2.cell 0 rfl
    have HSrc : Hid (0 < (cellsI p).length → ∃ ad, A0 = some ad ∧ ∀ j v, (cellsI p)[j]? = some v → W2.cell? (ad.add j) = some v) := Lib.hid (fun q => (H.out.2.below hbW2).src (by rw [cellsI_len] at q; exact q))
    have HCl : Hid ((cellsI p).length = Nat.min n 256) := Lib.hid (by rw [cellsI_len, H.out.1]; have := H.out.1; exact (Nat.min_eq_left (by omega)).symm)
    have HFit : Hid (0 + (cellsI p).length ≤ cur.length) := Lib.hid (by rw [cellsI_len, hcl]; rw [newZ_len] at hm; omega)
    have HOne : Hid (∀ v ∈ cellsI p, v.oneCell' = true) := Lib.hid (fun v hv => by unfold cellsI at hv; obtain ⟨q, _, rfl⟩ := List.mem_map.1 hv; rfl)
    have HG := Lib.hid hcur
    have HNext : Hid (∀ w', w'.heap[ba]? = some (.cells (splice cur 0 (cellsI p)).toArray 3 (0, 0)) → OwnI w' W0.heap.size w1.heap.size (some ⟨ba, 0, none⟩) (progZ p p.length)) := Lib.hid (fun w' hw => ownI_spliced hrow hcur hm hf (by rw [newZ_len]; exact hp) hlo hhi hw _ (by rw [progZ_len, newZ_len]) (fun i hi => by
      rw [progZ_len] at hi
      rw [progZ_at _ _ _ hi]
      unfold newZ
      rw [List.getD_eq_getElem?_getD (l := List.replicate 256 255), List.getElem?_replicate, if_pos hi]; rfl))
    have HKeep := Lib.hid (And.intro F2 (And.intro Y2 (And.intro hrow R2)))
    have HBa : Hid (ba < w1.heap.size ∧ W2.heap.size = w1.heap.size + 1 ∧ bf = w1.heap.size) := Lib.hid ⟨hhi, by rw [hW2]; simp, hbf⟩
    have HW2 := Lib.hid hW2
    have HBW2 := Lib.hid hbW2
    rw [hW2] at f0
    rw [hbf] at f0
    have hlo2 : w.heap.size ≤ ba := by have := HS0.out; omega
    clear F2 Y2 R2 S1 R1 hrow hcur hcl hm hf hb2 hbf hW2 hbW2 hb1 L1 M1 hlo hhi
    go_wp2_with (first | (rw [← HW2.out]; with_reducible refine wpList_copy_btw rfl (.tmp 14) (.tmp 15) 23 23 rfl 3 Try.underlying23 szInt (some ⟨ba, 0, none⟩) A0 256 c n c0 rfl rfl ba 0 cur 3 HG.out (cellsI p) HCl.out (fun q => ⟨rfl, HSrc.out q⟩) HFit.out HOne.out ?_))
    intro W3 hg3 hb3 hsz3
    have F3 := HKeep.out.1.btw hb3 (by have := HKeep.out.1.ne HKeep.out.2.2.1 (by decide); omega)
    have Y3 := HKeep.out.2.1.btw hb3 (by have := HKeep.out.2.1.ne HKeep.out.2.2.1 (by decide); omega)
    have HO3 : Hid (OwnI W3 W0.heap.size w1.heap.size (some ⟨ba, 0, none⟩) (progZ p p.length) ∧ OwnB W3 W0.heap.size w1.heap.size C zG) := Lib.hid ⟨HNext.out _ hg3.out, by
      rcases HKeep.out.2.2.2 with e | ⟨g, m, f, e, h1, h2, hm, hr, hf⟩
      · exact .inl e
      · exact .inr ⟨g, m, f, e, h1, h2, hm, hb3.row hr (by have := row_ne hr HKeep.out.2.2.1 (by decide); omega), hf⟩⟩
    have HB3 : Hid (Below w.heap.size w W3) := Lib.hid (HBW2.out.trans ((hb3.below (by have := HBa.out; omega)).mono hlo2))
    have HBa3 : Hid (ba < W3.heap.size ∧ bf < W3.heap.size ∧ w1.heap.size ≤ W3.heap.size ∧ W0.heap.size ≤ ba) := Lib.hid ⟨by have := HBa.out; omega, by have := HBa.out; omega, by have := HBa.out; omega, by
      rcases HO3.out.1 with e | ⟨g, m, f, e, h1, h2, hm, hr, hf⟩
      · exact absurd (congrArg List.length e) (by rw [progZ_len]; simp)
      · injection e with e; injection e with e; omega⟩
    have HY3 := Lib.hid Y3
    have HF3 := Lib.hid F3
    have hbfe := HBa.out.2.2
    clear HBa
    have HBa := HBa3
    have R0 : RN W3 w.heap.size W3.drew := ⟨(Btw.refl _ _ _).drew, _, rfl, Y3⟩
    have HK : Hid (∀ W', RN W3 w.heap.size W' → W'.cell? ⟨bf, 0, none⟩ = some (.slice (some ⟨ba, 0, none⟩) 256 c) ∧ W'.cell? ⟨bf, 1, none⟩ = some (.slice C 16 d) ∧ W'.cell? ⟨bf, 2, none⟩ = some (.int .i64 0)) := Lib.hid (fun W' r => by
      have X := HF3.out.btw r.1 (by have := HF3.out.box_ne HY3.out (by decide); omega)
      exact ⟨X.cell 0 rfl, X.cell 1 rfl, X.cell 2 rfl⟩)
    have hmk0 : ∀ W : World, (Instr.makeSlice 23 (.int .i64 256) (.int .i64 256)).run Try.prog W = .ok (.slice (some ⟨W.heap.size, 0, none⟩) 256 256) (W.alloc (.cells (madeCells #[.int .i64 0] 256) 3)) := fun W => run_make_row' (P := Try.prog) 23 3 (.int .i64 0) 8 Try.underlying23 infoI rfl .i64 .i64 256 (by omega) (by omega) W
    have hmk1 : ∀ W : World, (Instr.makeSlice 23 (.int .i64 32) (.int .i64 32)).run Try.prog W = .ok (.slice (some ⟨W.heap.size, 0, none⟩) 32 32) (W.alloc (.cells (madeCells #[.int .i64 0] 32) 3)) := fun W => run_make_row' (P := Try.prog) 23 3 (.int .i64 0) 8 Try.underlying23 infoI rfl .i64 .i64 32 (by omega) (by omega) W
    clear f0 hg3 hb3 hsz3 F3 Y3 HKeep HNext HG HOne HFit HCl HSrc HW2 HBW2
    go_wp2
    rw [← hbfe]
    clear hbfe
    refine wp_region_facts (by kernel_rfl) [[17], [18], [19], [17, 18, 20], [17, 18], [3]] [[], [], [], [0, 1, 2], [0, 1, 2, 3], [4, 0, 1, 2, 3]] [0, 2, 5] (by kernel_rfl) (RN W3 w.heap.size) (newiF w.heap.size W3.heap.size (.agg #[.slice (some ⟨ba, 0, none⟩) 256 c, .slice C 16 d, .int .i64 0]) (.slice (some ⟨ba, 0, none⟩) 256 c) (.slice C 16 d)) R0 ?_ ?_
    · refine ⟨?_, ?_, ?_, ?_, ?_, ?_, trivial⟩
      · intro T W hT hs hC hF K hK
        obtain ⟨t0, t1, t2, t3, t4, t5, t6, t7, t8, t9, t10, t11, t12, t13, t14, t15, t16, t17, t18, t19, t20, rfl⟩ := arr21n T hT
        obtain rfl : t2 = .pointer (some ⟨w.heap.size, 0, none⟩) := hs 2 (by decide)
        obtain rfl : t5 = .pointer (some ⟨bf, 0, none⟩) := hs 5 (by decide)
        clear hF hs hT
        have k := alloc_below W (.cells (madeCells #[.int .i64 0] 256) 3)
        have hm := hmk0 W
        go_simp
        exact hK.out _ _ (hC.alloc _) (fun j t _ h => newiF_below k j t h) ⟨W.heap.size, rfl, Box.new _ _ _, hC.1.size⟩
      · intro T W hT hs hC hF K hK
        obtain ⟨t0, t1, t2, t3, t4, t5, t6, t7, t8, t9, t10, t11, t12, t13, t14, t15, t16, t17, t18, t19, t20, rfl⟩ := arr21n T hT
        obtain rfl : t2 = .pointer (some ⟨w.heap.size, 0, none⟩) := hs 2 (by decide)
        obtain rfl : t5 = .pointer (some ⟨bf, 0, none⟩) := hs 5 (by decide)
        clear hF hs hT
        have k := alloc_below W (.cells (madeCells #[.int .i64 0] 32) 3)
        have hm := hmk1 W
        go_simp
        exact hK.out _ _ (hC.alloc _) (fun j t _ h => newiF_below k j t h) ⟨W.heap.size, rfl, Box.new _ _ _, hC.1.size⟩
      · intro T W hT hs hC hF K hK
        obtain ⟨t0, t1, t2, t3, t4, t5, t6, t7, t8, t9, t10, t11, t12, t13, t14, t15, t16, t17, t18, t19, t20, rfl⟩ := arr21n T hT
        obtain rfl : t2 = .pointer (some ⟨w.heap.size, 0, none⟩) := hs 2 (by decide)
        obtain rfl : t5 = .pointer (some ⟨bf, 0, none⟩) := hs 5 (by decide)
        clear hF hs hT
        obtain ⟨k0, k1, k2⟩ := HK.out W hC
        go_simp
        exact hK.out _ W hC (fun _ _ _ h => h) rfl
      · intro T W hT hs hC hF K hK
        obtain ⟨t0, t1, t2, t3, t4, t5, t6, t7, t8, t9, t10, t11, t12, t13, t14, t15, t16, t17, t18, t19, t20, rfl⟩ := arr21n T hT
        obtain rfl : t2 = .pointer (some ⟨w.heap.size, 0, none⟩) := hs 2 (by decide)
        obtain rfl : t5 = .pointer (some ⟨bf, 0, none⟩) := hs 5 (by decide)
        have f0 := hF 0 (by decide)
        simp only [newiF, mask] at f0
        have f1 := hF 1 (by decide)
        simp only [newiF, mask] at f1
        have f2 := hF 2 (by decide)
        simp only [newiF, mask] at f2
        clear hF hs hT
        obtain ⟨b, e17, B0, q0⟩ := f0
        obtain ⟨b1, e18, B1, q1⟩ := f1
        subst e17 e18 f2
        clear B0 B1
        go_simp
        exact hK.out _ W hC (fun _ _ _ h => h) ⟨b, b1, rfl, rfl, rfl⟩
      · intro T W hT hs hC hF K hK
        obtain ⟨t0, t1, t2, t3, t4, t5, t6, t7, t8, t9, t10, t11, t12, t13, t14, t15, t16, t17, t18, t19, t20, rfl⟩ := arr21n T hT
        obtain rfl : t2 = .pointer (some ⟨w.heap.size, 0, none⟩) := hs 2 (by decide)
        obtain rfl : t5 = .pointer (some ⟨bf, 0, none⟩) := hs 5 (by decide)
        have f3 := hF 3 (by decide)
        simp only [newiF, mask] at f3
        clear hF hs hT
        obtain ⟨b, b1, e17, e18, e20⟩ := f3
        subst e17 e18 e20
        obtain ⟨hCa, ys, hys, Y⟩ := hC
        have y0 := YV5.of Y hys 0 (by omega)
        have y1 := YV5.of Y hys 1 (by omega)
        have y2 := YV5.of Y hys 2 (by omega)
        have y3 := YV5.of Y hys 3 (by omega)
        have y4 := YV5.of Y hys 4 (by omega)
        have z0 := Y.frozen 0
        have z1 := Y.frozen 1
        have z2 := Y.frozen 2
        have z3 := Y.frozen 3
        have z4 := Y.frozen 4
        have HYs := Lib.hid (And.intro hys Y)
        have hC : RN W3 w.heap.size W := ⟨hCa, ys, hys, Y⟩
        clear hys Y hCa
        go_simp
        exact hK.out undef _ (((((hC.set 0 _).set 1 _).set 2 _).set 3 _).set 4 _) (fun j t n h => newiF_store ((((HYs.out.2.set 0 _).set 1 _).set 2 _).set 3 _) 4 _ j t n (newiF_store (((HYs.out.2.set 0 _).set 1 _).set 2 _) 3 _ j t n (newiF_store ((HYs.out.2.set 0 _).set 1 _) 2 _ j t n (newiF_store (HYs.out.2.set 0 _) 1 _ j t n (newiF_store HYs.out.2 0 _ j t n h))))) ⟨b, b1, rfl, rfl, HYs.out.2.all5 HYs.out.1 _ _ _ _ _⟩
      · intro T W hT hs hC hF K hK
        obtain ⟨t0, t1, t2, t3, t4, t5, t6, t7, t8, t9, t10, t11, t12, t13, t14, t15, t16, t17, t18, t19, t20, rfl⟩ := arr21n T hT
        obtain rfl : t2 = .pointer (some ⟨w.heap.size, 0, none⟩) := hs 2 (by decide)
        obtain rfl : t5 = .pointer (some ⟨bf, 0, none⟩) := hs 5 (by decide)
        clear hF hs hT
        go_simp
        exact hK.out _ W hC (fun _ _ _ h => h) rfl
    · intro T W hT hs hC hF
      obtain ⟨t0, t1, t2, t3, t4, t5, t6, t7, t8, t9, t10, t11, t12, t13, t14, t15, t16, t17, t18, t19, t20, rfl⟩ := arr21n T hT
      obtain rfl : t2 = .pointer (some ⟨w.heap.size, 0, none⟩) := hs 2 (by decide)
      obtain rfl : t5 = .pointer (some ⟨bf, 0, none⟩) := hs 5 (by decide)
      obtain ⟨b, e17, B0, q0⟩ := hF 0 (by decide)
      obtain ⟨b1, e18, B1, q1⟩ := hF 1 (by decide)
      obtain ⟨b', b1', f17, f18, Y⟩ := hF 4 (by decide)
      have e3 : t3 = .int .i64 0 := hF 5 (by decide)
      have E1 : Value.slice (some ⟨b, 0, none⟩) 256 256 = .slice (some ⟨b', 0, none⟩) 256 256 := (show t17 = _ from e17).symm.trans f17
      have E2 : Value.slice (some ⟨b1, 0, none⟩) 32 32 = .slice (some ⟨b1', 0, none⟩) 32 32 := (show t18 = _ from e18).symm.trans f18
      obtain rfl : b = b' := by injection E1 with E1; injection E1 with E1; injection E1
      obtain rfl : b1 = b1' := by injection E2 with E2; injection E2 with E2; injection E2
      subst e3
      have y0 := Y.cell 0 rfl
      have y1 := Y.cell 1 rfl
      have y2 := Y.cell 2 rfl
      have y3 := Y.cell 3 rfl
      have y4 := Y.cell 4 rfl
      have HQ : Hid (w.heap.size ≤ W3.heap.size ∧ W3.heap.size ≤ W.heap.size) := Lib.hid ⟨HB3.out.size, hC.1.size⟩
      have HR : Hid (OwnA W w.heap.size W.heap.size [.slice (some ⟨b, 0, none⟩) 256 256, .slice (some ⟨b1, 0, none⟩) 32 32, .slice (some ⟨ba, 0, none⟩) 256 c, .slice C 16 d] [.I zR, .I zI, .I (progZ p p.length), .B zG]) := Lib.hid (by
        have q := HQ.out
        have hs0 := HS0.out
        have hba := HBa.out
        have hO := (HO3.out.1.awayM HY3.out hC.1).wideB (lo' := w.heap.size) (hi' := W.heap.size) (by omega) (by omega)
        have hG := (HO3.out.2.awayM HY3.out hC.1).wide (lo' := w.heap.size) (hi' := W.heap.size) (by omega) (by omega)
        have := ownA4b (c0 := 256) (c1 := 32) (c2 := c) (c3 := d) (made_own (R := W.heap.size) B0 (by omega) B0.lt) (made_own (R := W.heap.size) B1 (by omega) B1.lt) hO hG (made_ne B0 B1 (by omega)) (by omega) (by omega)
        rw [List.length_replicate, List.length_replicate, progZ_len, zG_len] at this
        exact this)
      have HBw : Hid (Below w.heap.size w W) := Lib.hid (HB3.out.trans (hC.1.below (Nat.le_of_lt HY3.out.lt)))
      clear e17 e18 f17 f18 B0 B1 Y hF hs hT hC R0 E1 E2
      go_wp2
      refine bodyPost_ret (v := .tuple #[.agg #[.slice (some ⟨b, 0, none⟩) 256 256, .slice (some ⟨b1, 0, none⟩) 32 32, .slice (some ⟨ba, 0, none⟩) 256 c, .slice C 16 d, .int .i64 0], .int .i64 0]) (by simp [results, Try.results33, go_sem, y0, y1, y2, y3, y4]) rfl ?_
      rw [HRz.out]
      refine ⟨some ⟨b, 0, none⟩, some ⟨b1, 0, none⟩, some ⟨ba, 0, none⟩, C, 256, 32, c, d, ?_, Lib.hid ?_, HBw.out⟩
      · show _ = Ending.returned (.tuple #[.agg #[.slice _ zR.length _, .slice _ zI.length _, .slice _ (progZ p p.length).length _, .slice _ zG.length _, _], _])
        rw [zR_len, zI_len, progZ_len, zG_len]
      · show OwnA _ _ _ [.slice _ zR.length _, .slice _ zI.length _, .slice _ (progZ p p.length).length _, .slice _ zG.length _] _
        rw [zR_len, zI_len, progZ_len, zG_len]; exact HR.out
  · have hcb : (cd != 0) = true := by simp [hz]
    have HRz : Hid (r = ([], [], [], [], 0, cd)) := Lib.hid (by rw [HR.out, if_neg hz])
    have s0 := Y0.out.cell 0 rfl
    have s1 := Y0.out.cell 1 rfl
    have s2 := Y0.out.cell 2 rfl
    have s3 := Y0.out.cell 3 rfl
    have s4 := Y0.out.cell 4 rfl
    have s0z := Y0.out.frozen 0
    have s1z := Y0.out.frozen 1
    have s2z := Y0.out.frozen 2
    have s3z := Y0.out.frozen 3
    have s4z := Y0.out.frozen 4
    clear hz HR HK0 H HN HC
    go_wp2
    refine bodyPost_ret (v := .tuple #[.agg #[.slice none 0 0, .slice none 0 0, .slice none 0 0, .slice none 0 0, .int .i64 0], .int .i64 cd]) (by simp [results, Try.results33, go_sem, s0, s1, s2, s3, s4]) rfl ?_
    rw [HRz.out]
    exact ⟨none, none, none, none, 0, 0, 0, 0, rfl, Lib.hid (ownA4_nil _ _ _ (by rw [size5]; exact hb0.size)), below5 hb0 (Nat.le_refl _) _ _ _ _ _⟩
end Go.Proofs.Ytdanefhfngmipaa

/- The model's l05New and NewMem; NewMem on leaves. Written by gen_newmems.py. -/
namespace Go.Proofs.Ytdanefhfngmipaa
open Go.RowKit

theorem arr25 (T : Array Value) (h : T.size = 25) : ∃ t0 t1 t2 t3 t4 t5 t6 t7 t8 t9 t10 t11 t12 t13 t14 t15 t16 t17 t18 t19 t20 t21 t22 t23 t24 : Value, T = #[t0, t1, t2, t3, t4, t5, t6, t7, t8, t9, t10, t11, t12, t13, t14, t15, t16, t17, t18, t19, t20, t21, t22, t23, t24] := by
  obtain ⟨l⟩ := T
  match l, h with
  | [t0, t1, t2, t3, t4, t5, t6, t7, t8, t9, t10, t11, t12, t13, t14, t15, t16, t17, t18, t19, t20, t21, t22, t23, t24], _ => exact ⟨t0, t1, t2, t3, t4, t5, t6, t7, t8, t9, t10, t11, t12, t13, t14, t15, t16, t17, t18, t19, t20, t21, t22, t23, t24, rfl⟩

theorem setCell_self {w : World} {p : Addr} {u v : Value} (h : w.cell? p = some u) : ∃ x, (w.setCell p v).cell? p = some x := by
  exact ⟨_, World.cell?_setCell_same' w p v (by rw [h]; rfl)⟩
theorem frozen_setCell (w : World) (p q : Addr) (v : Value) : (w.setCell p v).frozen? q = w.frozen? q := by simp
def newsF (S : Nat) : Nat → (Nat → Value) → World → Prop
  | 0, t, w => ∃ b, t 5 = .slice (some ⟨b, 0, none⟩) 256 256 ∧ Box w b 3 (madeCells #[.int .i64 0] 256) ∧ S ≤ b
  | 1, t, w => ∃ b, t 6 = .slice (some ⟨b, 0, none⟩) 32 32 ∧ Box w b 3 (madeCells #[.int .i64 0] 32) ∧ S ≤ b
  | 2, t, w => ∃ A c C d, t 7 = .agg #[.slice A 256 c, .slice C 16 d, .int .i64 0] ∧ OwnI w S w.heap.size A newZ ∧ OwnB w S w.heap.size C zG
  | 3, t, _ => ∃ b b1 A c C d, t 5 = .slice (some ⟨b, 0, none⟩) 256 256 ∧ t 6 = .slice (some ⟨b1, 0, none⟩) 32 32 ∧ t 7 = .agg #[.slice A 256 c, .slice C 16 d, .int .i64 0] ∧ t 8 = .agg #[.slice (some ⟨b, 0, none⟩) 256 256, .slice (some ⟨b1, 0, none⟩) 32 32, .slice A 256 c, .slice C 16 d, .int .i64 0]
  | 4, t, w => ∃ bm, t 3 = .pointer (some ⟨bm, 0, none⟩) ∧ S ≤ bm ∧ ∃ cs : Array Value, cs.size = 5 ∧ Box w bm 28 cs
  | 5, t, w => ∃ b b1 A c C d bm, t 5 = .slice (some ⟨b, 0, none⟩) 256 256 ∧ t 6 = .slice (some ⟨b1, 0, none⟩) 32 32 ∧ t 7 = .agg #[.slice A 256 c, .slice C 16 d, .int .i64 0] ∧ t 3 = .pointer (some ⟨bm, 0, none⟩) ∧ Box w bm 28 #[.slice (some ⟨b, 0, none⟩) 256 256, .slice (some ⟨b1, 0, none⟩) 32 32, .slice A 256 c, .slice C 16 d, .int .i64 0]
  | _, _, _ => True
section
variable {S : Nat} {w w' : World}
theorem newsF_below (k : Below w.heap.size w w') : ∀ (j : Nat) (t : Nat → Value), newsF S j t w → newsF S j t w'
  | 3, _, h => h
  | 0, _, ⟨b, e, h, q⟩ => ⟨b, e, h.step k, q⟩
  | 1, _, ⟨b, e, h, q⟩ => ⟨b, e, h.step k, q⟩
  | 2, _, ⟨A, c, C, d, e, h, g⟩ => ⟨A, c, C, d, e, (h.below k).wideB (Nat.le_refl _) k.size, (g.below k).wide (Nat.le_refl _) k.size⟩
  | 4, _, ⟨bm, e, q, cs, hs, h⟩ => ⟨bm, e, q, cs, hs, h.step k⟩
  | 5, _, ⟨b, b1, A, c, C, d, bm, e1, e2, e3, e4, h⟩ => ⟨b, b1, A, c, C, d, bm, e1, e2, e3, e4, h.step k⟩
  | _ + 6, _, _ => trivial
theorem newsF_store {bm : Nat} {ys : Array Value} (Y : Box w bm 28 ys) (i : Nat) (u : Value) : ∀ (j : Nat) (t : Nat → Value), j ≠ 5 → newsF S j t w → newsF S j t (w.setCell ⟨bm, i, none⟩ u)
  | 3, _, _, h => h
  | 0, _, _, ⟨b, e, h, q⟩ => ⟨b, e, h.far (p := ⟨bm, i, none⟩) (h.box_ne Y (by decide)) u, q⟩
  | 1, _, _, ⟨b, e, h, q⟩ => ⟨b, e, h.far (p := ⟨bm, i, none⟩) (h.box_ne Y (by decide)) u, q⟩
  | 2, _, _, ⟨A, c, C, d, e, h, g⟩ => ⟨A, c, C, d, e, (h.farB Y (by decide) i u).wideB (Nat.le_refl _) (by simp [World.setCell]), (g.far Y (by decide) i u).wide (Nat.le_refl _) (by simp [World.setCell])⟩
  | 4, _, _, ⟨b, e, q, cs, hs, h⟩ => by
    by_cases hb : b = bm
    · subst hb; exact ⟨b, e, q, _, by simpa using hs, h.set i u⟩
    · exact ⟨b, e, q, cs, hs, h.far (p := ⟨bm, i, none⟩) hb u⟩
  | 5, _, n, _ => (n rfl).elim
  | _ + 6, _, _, _ => trivial
end
/-- The new memory while the program is written into its flash. -/
structure NewAt (S hi b b1 ba bm c : Nat) (C : Option Addr) (d : Nat) (p : List Int) (j : Nat) (w : World) : Prop where
  B0 : Box w b 3 (madeCells #[.int .i64 0] 256)
  B1 : Box w b1 3 (madeCells #[.int .i64 0] 32)
  A : OwnI w S hi (some ⟨ba, 0, none⟩) (progZ p j)
  G : OwnB w S hi C zG
  M : Box w bm 28 #[.slice (some ⟨b, 0, none⟩) 256 256, .slice (some ⟨b1, 0, none⟩) 32 32, .slice (some ⟨ba, 0, none⟩) 256 c, .slice C 16 d, .int .i64 0]
  q0 : S ≤ b
  q1 : S ≤ b1
  qm : S ≤ bm
  r0 : b < hi
  r1 : b1 < hi
theorem NewAt.drew {S hi b b1 ba bm c : Nat} {C : Option Addr} {d : Nat} {p : List Int} {j : Nat} {w : World} (h : NewAt S hi b b1 ba bm c C d p j w) : NewAt S hi b b1 ba bm c C d p j w.drew := ⟨h.B0, h.B1, h.A, h.G, h.M, h.q0, h.q1, h.qm, h.r0, h.r1⟩
theorem NewAt.next {S hi b b1 ba bm c : Nat} {C : Option Addr} {d : Nat} {p : List Int} {w : World} (j : Nat) (h : NewAt S hi b b1 ba bm c C d p j w) (hj : j < 256) (h0 : b ≠ ba) (h1 : b1 ≠ ba) {m : Nat} {f : Nat → Value} (hr : w.rowIs ba 3 m f) (hput : ∀ x, OwnI (w.setCell ⟨ba, j, none⟩ (.int .i64 x)) S hi (some ⟨ba, 0, none⟩) ((progZ p j).set j x)) : NewAt S hi b b1 ba bm c C d p (j + 1) (w.setCell ⟨ba, j, none⟩ (.int .i64 (p.getD j 0))) :=
  ⟨h.B0.far (p := ⟨ba, j, none⟩) h0 _, h.B1.far (p := ⟨ba, j, none⟩) h1 _, by have := hput (p.getD j 0); rwa [progZ_next p j hj] at this, h.G.other hr (by decide) j _, h.M.other hr (by decide) j _, h.q0, h.q1, h.qm, h.r0, h.r1⟩

set_option maxRecDepth 100000 in
set_option maxHeartbeats 8000000 in
theorem l05New (A0 : Option Addr) (n c0 : Nat) (p : List Int) (w : World) (hl : p.length = n) (hn : n ≤ 256) (h : IntL w A0 p) :
    Calls Try.prog 69 #[.slice A0 n c0] w (GivesMem zR zI (progZ p p.length) zG 0 w) := by
  obtain ⟨W0, hW0⟩ : ∃ W0, W0 = (w.alloc (.cells #[.slice none 0 0, .slice none 0 0, .slice none 0 0, .slice none 0 0, .int .i64 0] 28)) := ⟨_, rfl⟩
  have hb0 : Below w.heap.size w W0 := by rw [hW0]; exact alloc_below _ _
  have Y0 : Hid (Box W0 w.heap.size 28 #[.slice none 0 0, .slice none 0 0, .slice none 0 0, .slice none 0 0, .int .i64 0]) := Lib.hid (by rw [hW0]; exact Box.new _ _ _)
  have HN := Lib.hid (fun W => specNewFlash W)
  have H := Lib.hid (And.intro hl h)
  have HPb : Hid (∀ ad : Addr, A0 = some ad → ∀ j, j < p.length → ad.block < w.heap.size) := Lib.hid (fun ad e j hj => by
    obtain ⟨b, off, e2, hc⟩ := h j hj
    rw [e] at e2
    injection e2 with e2
    rw [e2]
    exact cell_lt (p := ⟨b, off + j, none⟩) hc)
  have HW0 := Lib.hid hW0
  have R0 : Below W0.heap.size W0 W0.drew := (Below.refl _ _).drew
  have hmk0 : ∀ W : World, (Instr.makeSlice 23 (.int .i64 256) (.int .i64 256)).run Try.prog W = .ok (.slice (some ⟨W.heap.size, 0, none⟩) 256 256) (W.alloc (.cells (madeCells #[.int .i64 0] 256) 3)) := fun W => run_make_row' (P := Try.prog) 23 3 (.int .i64 0) 8 Try.underlying23 infoI rfl .i64 .i64 256 (by omega) (by omega) W
  have hmk1 : ∀ W : World, (Instr.makeSlice 23 (.int .i64 32) (.int .i64 32)).run Try.prog W = .ok (.slice (some ⟨W.heap.size, 0, none⟩) 32 32) (W.alloc (.cells (madeCells #[.int .i64 0] 32) 3)) := fun W => run_make_row' (P := Try.prog) 23 3 (.int .i64 0) 8 Try.underlying23 infoI rfl .i64 .i64 32 (by omega) (by omega) W
  clear hl h hW0
  go_enter Try.func69, Try.ntmps69
  go_wp2
  rw [← HW0.out]
  refine wp_region_facts (by kernel_rfl) [[5], [6], [7], [5, 6, 7, 8], [3], [5, 6, 7, 3]] [[], [], [], [0, 1, 2], [], [0, 1, 2, 3, 4]] [0, 2] (by kernel_rfl) (Below W0.heap.size W0) (newsF W0.heap.size) R0 ?_ ?_
  · refine ⟨?_, ?_, ?_, ?_, ?_, ?_, trivial⟩
    · intro T W hT hs hC hF K hK
      obtain ⟨t0, t1, t2, t3, t4, t5, t6, t7, t8, t9, t10, t11, t12, t13, t14, t15, t16, t17, t18, t19, t20, t21, t22, t23, t24, rfl⟩ := arr25 T hT
      obtain rfl : t0 = .slice A0 n c0 := hs 0 (by decide)
      obtain rfl : t2 = .pointer (some ⟨w.heap.size, 0, none⟩) := hs 2 (by decide)
      clear hF hs hT
      have k := alloc_below W (.cells (madeCells #[.int .i64 0] 256) 3)
      have hm := hmk0 W
      go_simp
      exact hK.out _ _ (bt hC (alloc_below _ _)) (fun j t _ h => newsF_below k j t h) ⟨W.heap.size, rfl, Box.new _ _ _, hC.size⟩
    · intro T W hT hs hC hF K hK
      obtain ⟨t0, t1, t2, t3, t4, t5, t6, t7, t8, t9, t10, t11, t12, t13, t14, t15, t16, t17, t18, t19, t20, t21, t22, t23, t24, rfl⟩ := arr25 T hT
      obtain rfl : t0 = .slice A0 n c0 := hs 0 (by decide)
      obtain rfl : t2 = .pointer (some ⟨w.heap.size, 0, none⟩) := hs 2 (by decide)
      clear hF hs hT
      have k := alloc_below W (.cells (madeCells #[.int .i64 0] 32) 3)
      have hm := hmk1 W
      go_simp
      exact hK.out _ _ (bt hC (alloc_below _ _)) (fun j t _ h => newsF_below k j t h) ⟨W.heap.size, rfl, Box.new _ _ _, hC.size⟩
    · intro T W hT hs hC hF K hK
      obtain ⟨t0, t1, t2, t3, t4, t5, t6, t7, t8, t9, t10, t11, t12, t13, t14, t15, t16, t17, t18, t19, t20, t21, t22, t23, t24, rfl⟩ := arr25 T hT
      obtain rfl : t0 = .slice A0 n c0 := hs 0 (by decide)
      obtain rfl : t2 = .pointer (some ⟨w.heap.size, 0, none⟩) := hs 2 (by decide)
      clear hF hs hT
      go_simp
      refine (HN.out W).mono ?_
      rintro e w1 ⟨A, n1, c, C, m1, d, rfl, L1, M1, S1, R1, k⟩
      obtain rfl : n1 = 256 := by have := L1.out; have := newZ_len; omega
      obtain rfl : m1 = 16 := by have := M1.out; have := zG_len; omega
      exact hK.out _ w1 (bt hC k) (fun j t _ h => newsF_below k j t h) ⟨A, c, C, d, rfl, S1.out.wideB hC.size (Nat.le_refl _), R1.out.wide hC.size (Nat.le_refl _)⟩
    · intro T W hT hs hC hF K hK
      obtain ⟨t0, t1, t2, t3, t4, t5, t6, t7, t8, t9, t10, t11, t12, t13, t14, t15, t16, t17, t18, t19, t20, t21, t22, t23, t24, rfl⟩ := arr25 T hT
      obtain rfl : t0 = .slice A0 n c0 := hs 0 (by decide)
      obtain rfl : t2 = .pointer (some ⟨w.heap.size, 0, none⟩) := hs 2 (by decide)
      have f0 := hF 0 (by decide)
      simp only [newsF, mask] at f0
      have f1 := hF 1 (by decide)
      simp only [newsF, mask] at f1
      have f2 := hF 2 (by decide)
      simp only [newsF, mask] at f2
      clear hF hs hT
      obtain ⟨b, e5, B0, q0⟩ := f0
      obtain ⟨b1, e6, B1, q1⟩ := f1
      obtain ⟨A, c, C, d, e7, S, Q⟩ := f2
      subst e5 e6 e7
      clear B0 B1 S Q
      go_simp
      exact hK.out _ W hC (fun _ _ _ h => h) ⟨b, b1, A, c, C, d, rfl, rfl, rfl, rfl⟩
    · intro T W hT hs hC hF K hK
      obtain ⟨t0, t1, t2, t3, t4, t5, t6, t7, t8, t9, t10, t11, t12, t13, t14, t15, t16, t17, t18, t19, t20, t21, t22, t23, t24, rfl⟩ := arr25 T hT
      obtain rfl : t0 = .slice A0 n c0 := hs 0 (by decide)
      obtain rfl : t2 = .pointer (some ⟨w.heap.size, 0, none⟩) := hs 2 (by decide)
      clear hF hs hT
      have k := alloc_below W (.cells #[.slice none 0 0, .slice none 0 0, .slice none 0 0, .slice none 0 0, .int .i64 0] 28)
      go_simp
      exact hK.out _ _ (bt hC (alloc_below _ _)) (fun j t _ h => newsF_below k j t h) ⟨W.heap.size, rfl, hC.size, _, rfl, Box.new _ _ _⟩
    · intro T W hT hs hC hF K hK
      obtain ⟨t0, t1, t2, t3, t4, t5, t6, t7, t8, t9, t10, t11, t12, t13, t14, t15, t16, t17, t18, t19, t20, t21, t22, t23, t24, rfl⟩ := arr25 T hT
      obtain rfl : t0 = .slice A0 n c0 := hs 0 (by decide)
      obtain rfl : t2 = .pointer (some ⟨w.heap.size, 0, none⟩) := hs 2 (by decide)
      have f3 := hF 3 (by decide)
      simp only [newsF, mask] at f3
      have f4 := hF 4 (by decide)
      simp only [newsF, mask] at f4
      clear hF hs hT
      obtain ⟨b, b1, A, c, C, d, e5, e6, e7, e8⟩ := f3
      obtain ⟨bm, e3, q, ys, hys, Y⟩ := f4
      subst e5 e6 e7 e8 e3
      have y0 := YV5.of Y hys 0 (by omega)
      have y1 := YV5.of Y hys 1 (by omega)
      have y2 := YV5.of Y hys 2 (by omega)
      have y3 := YV5.of Y hys 3 (by omega)
      have y4 := YV5.of Y hys 4 (by omega)
      have z0 := Y.frozen 0
      have z1 := Y.frozen 1
      have z2 := Y.frozen 2
      have z3 := Y.frozen 3
      have z4 := Y.frozen 4
      have HYs := Lib.hid (And.intro hys Y)
      clear hys Y
      go_simp
      exact hK.out undef _ (below5 hC q _ _ _ _ _) (fun j t n h => newsF_store ((((HYs.out.2.set 0 _).set 1 _).set 2 _).set 3 _) 4 _ j t n (newsF_store (((HYs.out.2.set 0 _).set 1 _).set 2 _) 3 _ j t n (newsF_store ((HYs.out.2.set 0 _).set 1 _) 2 _ j t n (newsF_store (HYs.out.2.set 0 _) 1 _ j t n (newsF_store HYs.out.2 0 _ j t n h))))) ⟨b, b1, A, c, C, d, bm, rfl, rfl, rfl, rfl, HYs.out.2.all5 HYs.out.1 _ _ _ _ _⟩
  · intro T W hT hs hC hF
    obtain ⟨t0, t1, t2, t3, t4, t5, t6, t7, t8, t9, t10, t11, t12, t13, t14, t15, t16, t17, t18, t19, t20, t21, t22, t23, t24, rfl⟩ := arr25 T hT
    obtain rfl : t0 = .slice A0 n c0 := hs 0 (by decide)
    obtain rfl : t2 = .pointer (some ⟨w.heap.size, 0, none⟩) := hs 2 (by decide)
    obtain ⟨b, e5, B0, q0⟩ := hF 0 (by decide)
    obtain ⟨b1, e6, B1, q1⟩ := hF 1 (by decide)
    obtain ⟨A, c, C, d, e7, SA, SC⟩ := hF 2 (by decide)
    obtain ⟨bm, e3, qm, ys, hys, Ym⟩ := hF 4 (by decide)
    obtain ⟨b', b1', A', c', C', d', bm', f5, f6, f7, f3, Y⟩ := hF 5 (by decide)
    have E1 : Value.slice (some ⟨b, 0, none⟩) 256 256 = .slice (some ⟨b', 0, none⟩) 256 256 := (show t5 = _ from e5).symm.trans f5
    have E2 : Value.slice (some ⟨b1, 0, none⟩) 32 32 = .slice (some ⟨b1', 0, none⟩) 32 32 := (show t6 = _ from e6).symm.trans f6
    have E3 : Value.agg #[.slice A 256 c, .slice C 16 d, .int .i64 0] = .agg #[.slice A' 256 c', .slice C' 16 d', .int .i64 0] := (show t7 = _ from e7).symm.trans f7
    have E4 : Value.pointer (some ⟨bm, 0, none⟩) = .pointer (some ⟨bm', 0, none⟩) := (show t3 = _ from e3).symm.trans f3
    obtain rfl : b = b' := by injection E1 with E1; injection E1 with E1; injection E1
    obtain rfl : b1 = b1' := by injection E2 with E2; injection E2 with E2; injection E2
    obtain rfl : bm = bm' := by injection E4 with E4; injection E4 with E4; injection E4
    simp only [Value.agg.injEq, Array.mk.injEq, List.cons.injEq, Value.slice.injEq, true_and, and_true] at E3
    obtain ⟨⟨x1, x2⟩, x3, x4⟩ := E3
    subst x1 x2 x3 x4
    obtain rfl : t3 = .pointer (some ⟨bm, 0, none⟩) := e3
    obtain ⟨ba, rfl, hba1, hba2, hbc⟩ := ownI_blk SA (by rw [newZ_len]; omega)
    have HNe : Hid (b ≠ b1 ∧ b ≠ ba ∧ b1 ≠ ba) := Lib.hid ⟨made_ne B0 B1 (by omega), made_row_ne B0 (by omega) hbc (by unfold newZ; decide), made_row_ne B1 (by omega) hbc (by unfold newZ; decide)⟩
    have HSt : Hid (NewAt W0.heap.size W.heap.size b b1 ba bm c C d p 0 W) := Lib.hid ⟨B0, B1, by rw [progZ_zero]; exact SA, SC, Y, q0, q1, qm, B0.lt, B1.lt⟩
    have HY0 : Hid (Box W w.heap.size 28 #[.slice none 0 0, .slice none 0 0, .slice none 0 0, .slice none 0 0, .int .i64 0]) := Lib.hid (Y0.out.step hC)
    have hbW := bt hb0 hC
    have HSz : Hid (W0.heap.size ≤ W.heap.size) := Lib.hid hC.size
    clear e5 e6 e7 f5 f6 f7 f3 E1 E2 E4 B0 B1 SA SC Ym Y hF hs hT hC hbc hys hba1 hba2 qm q0 q1 R0
    go_wp2
    go_loopw [4] (fun i wr => ∃ j : Nat, j ≤ n ∧ i = .int .i64 j ∧ Below w.heap.size w wr ∧ Hid (NewAt W0.heap.size W.heap.size b b1 ba bm c C d p j wr) ∧ Hid (Box wr w.heap.size 28 #[.slice none 0 0, .slice none 0 0, .slice none 0 0, .slice none 0 0, .int .i64 0]) ∧ Hid (wr.heap.size = W.heap.size)) (fun i _ => n - (intOf i).toNat)
    case atStart => exact ⟨0, by omega, rfl, hbW, HSt, HY0, Lib.hid rfl⟩
    case round =>
      clear HSt HY0 hbW
      obtain ⟨j, hj, rfl, hbw, X, Y, Z⟩ := hrel
      by_cases hlt : j < n
      · obtain ⟨pb, off, rfl, hc⟩ := (H.out.2.below hbw) j (by rw [H.out.1]; exact hlt)
        obtain ⟨ba', m, f, ea, hca, hfa, h1, h2, hra, hput⟩ := X.out.A.put j (by rw [progZ_len]; omega)
        obtain rfl : ba = ba' := by injection ea with ea; injection ea
        have HNx : Hid (NewAt W0.heap.size W.heap.size b b1 ba bm c C d p (j + 1) (wr.setCell ⟨ba, j, none⟩ (.int .i64 (p.getD j 0)))) := Lib.hid (X.out.next j (by omega) HNe.out.2.1 HNe.out.2.2 hra hput)
        have HY2 := Lib.hid (Y.out.other hra (by decide) j (.int .i64 (p.getD j 0)))
        have hb2 : Below w.heap.size w (wr.setCell ⟨ba, j, none⟩ (.int .i64 (p.getD j 0))) := hbw.setCell (p := ⟨ba, j, none⟩) (by show w.heap.size ≤ ba; have := hb0.size; omega) _
        have HPc : Hid (∀ x : Int, (wr.setCell ⟨ba, j, none⟩ (.int .i64 x)).cell? ⟨pb, off + j, none⟩ = wr.cell? ⟨pb, off + j, none⟩) := Lib.hid (fun x => World.cell?_setCell_far wr ⟨ba, j, none⟩ ⟨pb, off + j, none⟩ _ (fun q => by
          have q1 : pb < w.heap.size := HPb.out _ rfl j (by rw [H.out.1]; exact hlt)
          have q2 : ba = pb := q
          have := hb0.size
          omega))
        generalize (progZ p j).getD j 0 = y at hca
        generalize hx : p.getD j 0 = x at hc HNx HY2 hb2
        have hi : (j : Int) < (n : Int) := by omega
        have hi2 : (j : Int) < 256 := by omega
        have HM2 : Hid (wr.cell? ⟨bm, 2, none⟩ = some (.slice (some ⟨ba, 0, none⟩) 256 c) ∧ (wr.setCell ⟨ba, j, none⟩ (.int .i64 x)).cell? ⟨bm, 2, none⟩ = some (.slice (some ⟨ba, 0, none⟩) 256 c)) := Lib.hid ⟨X.out.M.cell 2 rfl, HNx.out.M.cell 2 rfl⟩
        have HK : Hid (∀ W', (W' = wr.drew ∨ W' = (wr.setCell ⟨ba, j, none⟩ (.int .i64 x)).drew) → W'.cell? ⟨bm, 2, none⟩ = some (.slice (some ⟨ba, 0, none⟩) 256 c) ∧ W'.cell? ⟨pb, off + j, none⟩ = some (.int .i64 x) ∧ W'.cell? ⟨ba, j, none⟩ = some (YV5 ba W' j) ∧ W'.frozen? ⟨ba, j, none⟩ = false) := Lib.hid (by
          rintro W' (rfl | rfl)
          · exact ⟨HM2.out.1, hc, by unfold YV5; show wr.cell? _ = some ((wr.cell? _).getD undef); rw [hca]; rfl, hfa⟩
          · refine ⟨HM2.out.2, (HPc.out x).trans hc, ?_, ?_⟩
            · obtain ⟨u, hu⟩ := setCell_self (v := .int .i64 x) hca
              unfold YV5; show (wr.setCell _ _).cell? _ = some (((wr.setCell _ _).cell? _).getD undef); rw [hu]; rfl
            · exact (frozen_setCell _ _ _ _).trans hfa)
        have HX := Lib.hid hx
        clear hx hput hra X Y ea h1 h2 hbw hca hfa hc
        go_wp2
    
        go_region_held3 (fun W' => W'.cell? ⟨bm, 2, none⟩ = some (.slice (some ⟨ba, 0, none⟩) 256 c) ∧ W'.cell? ⟨pb, off + j, none⟩ = some (.int .i64 x) ∧ W'.cell? ⟨ba, j, none⟩ = some (YV5 ba W' j) ∧ W'.frozen? ⟨ba, j, none⟩ = false)
          (first | exact HK.out _ (.inl rfl) | exact HK.out _ (.inr rfl))
          (fail)
        all_goals (
          go_wp2
          go_roundw
          case rel => exact ⟨j + 1, by omega, by go_num, hb2.drew, Lib.hid HNx.out.drew, Lib.hid HY2.out, Lib.hid (by have := Z.out; simpa [World.setCell, World.drew] using this)⟩
          case measure => simp [intOf]; omega)
      · obtain rfl : j = n := by omega
        have m0 := X.out.M.cell 0 rfl
        have m1 := X.out.M.cell 1 rfl
        have m2 := X.out.M.cell 2 rfl
        have m3 := X.out.M.cell 3 rfl
        have m4 := X.out.M.cell 4 rfl
        have s0 := Y.out.cell 0 rfl
        have s1 := Y.out.cell 1 rfl
        have s2 := Y.out.cell 2 rfl
        have s3 := Y.out.cell 3 rfl
        have s4 := Y.out.cell 4 rfl
        have s0z := Y.out.frozen 0
        have s1z := Y.out.frozen 1
        have s2z := Y.out.frozen 2
        have s3z := Y.out.frozen 3
        have s4z := Y.out.frozen 4
        have HR : Hid (OwnA wr w.heap.size wr.heap.size [.slice (some ⟨b, 0, none⟩) 256 256, .slice (some ⟨b1, 0, none⟩) 32 32, .slice (some ⟨ba, 0, none⟩) 256 c, .slice C 16 d] [.I zR, .I zI, .I (progZ p j), .B zG]) := Lib.hid (by
          have q := hb0.size
          have z := Z.out
          have x := X.out
          have := ownA4b (c0 := 256) (c1 := 32) (c2 := c) (c3 := d) (made_own (L := w.heap.size) (R := wr.heap.size) x.B0 (Nat.le_trans q x.q0) x.B0.lt) (made_own (L := w.heap.size) (R := wr.heap.size) x.B1 (Nat.le_trans q x.q1) x.B1.lt) (x.A.wideB q (by omega)) (x.G.wide q (by omega)) HNe.out.1 HNe.out.2.1 HNe.out.2.2
          rw [List.length_replicate, List.length_replicate, progZ_len, zG_len] at this
          exact this)
        have HYx := Lib.hid Y.out
        have HBw := Lib.hid hbw
        clear X Y hbw
        go_wp2
        refine bodyPost_ret (v := .agg #[.slice (some ⟨b, 0, none⟩) 256 256, .slice (some ⟨b1, 0, none⟩) 32 32, .slice (some ⟨ba, 0, none⟩) 256 c, .slice C 16 d, .int .i64 0]) (by simp [results, Try.results69, go_sem, s0, s1, s2, s3, s4]) rfl ?_
        exact ⟨some ⟨b, 0, none⟩, some ⟨b1, 0, none⟩, some ⟨ba, 0, none⟩, C, 256, 32, c, d, rfl, Lib.hid (by rw [H.out.1]; exact (HR.out.far5 HYx.out _ _ _ _ _).wide (Nat.le_refl _) (by rw [size5]; exact Nat.le_refl _)), below5 HBw.out (Nat.le_refl _) _ _ _ _ _⟩

set_option maxRecDepth 100000 in
set_option maxHeartbeats 4000000 in
theorem specNewMem (A0 : Option Addr) (n c0 : Nat) (p : List Int) (w : World) (hl : p.length = n) (hn : n ≤ maxLen) (h : IntL w A0 p) :
    Calls Try.prog 31 #[.slice A0 n c0] w (GivesMemCode (newF p).1 (newF p).2.1 (newF p).2.2.1 (newF p).2.2.2.1 (newF p).2.2.2.2.1 (newF p).2.2.2.2.2 w) := by
  obtain ⟨W0, hW0⟩ : ∃ W0, W0 = (w.alloc (.cells #[.slice none 0 0, .slice none 0 0, .slice none 0 0, .slice none 0 0, .int .i64 0] 28)) := ⟨_, rfl⟩
  have hb0 : Below w.heap.size w W0 := by rw [hW0]; exact alloc_below _ _
  have Y0 : Hid (Box W0 w.heap.size 28 #[.slice none 0 0, .slice none 0 0, .slice none 0 0, .slice none 0 0, .int .i64 0]) := Lib.hid (by rw [hW0]; exact Box.new _ _ _)
  have HB := Lib.hid (l05Bytes A0 n c0 p W0 hl hn (h.below hb0))
  have H := Lib.hid (And.intro hl h)
  obtain ⟨r, hr⟩ : ∃ r, newF p = r := ⟨_, rfl⟩
  rw [hr]
  have HR : Hid (r = if newCode p = 0 then (zR, zI, progZ p p.length, zG, 0, 0) else ([], [], [], [], 0, newCode p)) := Lib.hid hr.symm
  have HW0 := Lib.hid hW0
  have s0 := Y0.out.cell 0 rfl
  have s1 := Y0.out.cell 1 rfl
  have s2 := Y0.out.cell 2 rfl
  have s3 := Y0.out.cell 3 rfl
  have s4 := Y0.out.cell 4 rfl
  have s0z := Y0.out.frozen 0
  have s1z := Y0.out.frozen 1
  have s2z := Y0.out.frozen 2
  have s3z := Y0.out.frozen 3
  have s4z := Y0.out.frozen 4
  unfold maxLen at hn
  clear hl h hr hW0
  by_cases h1 : 4096 < n
  · have q1 : (4096 : Int) < (n : Int) := by omega
    have HRz : Hid (r = ([], [], [], [], 0, 2)) := Lib.hid (by rw [HR.out, show newCode p = 2 from by unfold newCode; rw [H.out.1, if_pos h1]]; rfl)
    rw [HW0.out] at s0 s1 s2 s3 s4 s0z s1z s2z s3z s4z
    clear HR HB
    go_enter Try.func31, Try.ntmps31
    go_wp2
    refine bodyPost_ret (v := .tuple #[.agg #[.slice none 0 0, .slice none 0 0, .slice none 0 0, .slice none 0 0, .int .i64 0], .int .i64 2]) (by simp [results, Try.results31, go_sem, s0, s1, s2, s3, s4]) rfl ?_
    rw [HRz.out]
    exact ⟨none, none, none, none, 0, 0, 0, 0, rfl, Lib.hid (ownA4_nil _ _ _ (by simp)), alloc_below _ _⟩
  · have q1 : ¬ (4096 : Int) < (n : Int) := by omega
    by_cases h2 : 256 < n
    · have q2 : (256 : Int) < (n : Int) := by omega
      have HRz : Hid (r = ([], [], [], [], 0, 8)) := Lib.hid (by rw [HR.out, show newCode p = 8 from by unfold newCode; rw [H.out.1, if_neg h1, if_pos h2]]; rfl)
      rw [HW0.out] at s0 s1 s2 s3 s4 s0z s1z s2z s3z s4z
      clear HR HB
      go_enter Try.func31, Try.ntmps31
      go_wp2
      refine bodyPost_ret (v := .tuple #[.agg #[.slice none 0 0, .slice none 0 0, .slice none 0 0, .slice none 0 0, .int .i64 0], .int .i64 8]) (by simp [results, Try.results31, go_sem, s0, s1, s2, s3, s4]) rfl ?_
      rw [HRz.out]
      exact ⟨none, none, none, none, 0, 0, 0, 0, rfl, Lib.hid (ownA4_nil _ _ _ (by simp)), alloc_below _ _⟩
    · have q2 : ¬ (256 : Int) < (n : Int) := by omega
      by_cases hE : p.all byB = true
      · have HRz : Hid (r = (zR, zI, progZ p p.length, zG, 0, 0)) := Lib.hid (by rw [HR.out, show newCode p = 0 from by unfold newCode; rw [H.out.1, if_neg h1, if_neg h2, if_pos hE]]; rfl)
        rw [hE] at HB
        have HNw := Lib.hid (l05New A0 n c0 p W0 H.out.1 (by omega) (H.out.2.below hb0))
        clear HR s0 s1 s2 s3 s4 s0z s1z s2z s3z s4z hE h1 h2
        go_enter Try.func31, Try.ntmps31
        go_wp2_with fail
        rw [← HW0.out]
        refine HB.out.mono ?_
        rintro e w1 ⟨rfl, rfl⟩
        go_wp2_with fail
        refine HNw.out.mono ?_
        rintro e w3 ⟨D0, D1, D2, D3, g0, g1, g2, g3, rfl, HA, hb3⟩
        have Y3 := Y0.out.step hb3
        have t0 := Y3.cell 0 rfl
        have t1 := Y3.cell 1 rfl
        have t2 := Y3.cell 2 rfl
        have t3 := Y3.cell 3 rfl
        have t4 := Y3.cell 4 rfl
        have t0z := Y3.frozen 0
        have t1z := Y3.frozen 1
        have t2z := Y3.frozen 2
        have t3z := Y3.frozen 3
        have t4z := Y3.frozen 4
        have HY3 := Lib.hid Y3
        clear Y3 HNw
        go_wp2
        refine bodyPost_ret (v := .tuple #[.agg #[.slice D0 256 g0, .slice D1 32 g1, .slice D2 256 g2, .slice D3 16 g3, .int .i64 0], .int .i64 0]) (by simp [results, Try.results31, go_sem, t0, t1, t2, t3, t4]) rfl ?_
        rw [HRz.out]
        refine ⟨D0, D1, D2, D3, g0, g1, g2, g3, ?_, Lib.hid ?_, below5 (bt hb0 hb3) (Nat.le_refl _) _ _ _ _ _⟩
        · show _ = Ending.returned (.tuple #[.agg #[.slice _ zR.length _, .slice _ zI.length _, .slice _ (progZ p p.length).length _, .slice _ zG.length _, _], _])
          rw [zR_len, zI_len, progZ_len, zG_len]
        · show OwnA _ _ _ [.slice _ zR.length _, .slice _ zI.length _, .slice _ (progZ p p.length).length _, .slice _ zG.length _] _
          rw [zR_len, zI_len, progZ_len, zG_len]
          exact (HA.out.far5 HY3.out _ _ _ _ _).wide hb0.size (by rw [size5]; exact Nat.le_refl _)
      · have hE' : p.all byB = false := by simpa using hE
        have HRz : Hid (r = ([], [], [], [], 0, 4)) := Lib.hid (by rw [HR.out, show newCode p = 4 from by unfold newCode; rw [H.out.1, if_neg h1, if_neg h2, if_neg hE]]; rfl)
        rw [hE'] at HB
        clear HR hE hE' h1 h2
        go_enter Try.func31, Try.ntmps31
        go_wp2_with fail
        rw [← HW0.out]
        refine HB.out.mono ?_
        rintro e w1 ⟨rfl, rfl⟩
        go_wp2
        refine bodyPost_ret (v := .tuple #[.agg #[.slice none 0 0, .slice none 0 0, .slice none 0 0, .slice none 0 0, .int .i64 0], .int .i64 4]) (by simp [results, Try.results31, go_sem, s0, s1, s2, s3, s4]) rfl ?_
        rw [HRz.out]
        exact ⟨none, none, none, none, 0, 0, 0, 0, rfl, Lib.hid (ownA4_nil _ _ _ (by rw [size5]; exact hb0.size)), below5 hb0 (Nat.le_refl _) _ _ _ _ _⟩

section
variable (A0 : Option Addr) (c0 : Nat) (d0 : List Int) (w : World)
set_option maxRecDepth 100000 in
theorem specNewMemA (h : RepA w [.slice A0 d0.length c0] [.I d0]) (_c : CapA [.slice A0 d0.length c0]) (z : szA [.I d0] ≤ 1048576) :
    Calls Try.prog 31 #[.slice A0 d0.length c0] w (fun e w' => ∃ rA0 rA1 rA2 rA3 rc0 rc1 rc2 rc3, e = .returned (.tuple #[.agg #[.slice rA0 (newF d0).1.length rc0, .slice rA1 (newF d0).2.1.length rc1, .slice rA2 (newF d0).2.2.1.length rc2, .slice rA3 (newF d0).2.2.2.1.length rc3, .int .i64 (newF d0).2.2.2.2.1], .int .i64 (newF d0).2.2.2.2.2]) ∧ Hid (OwnA w' w.heap.size w'.heap.size [.slice rA0 (newF d0).1.length rc0, .slice rA1 (newF d0).2.1.length rc1, .slice rA2 (newF d0).2.2.1.length rc2, .slice rA3 (newF d0).2.2.2.1.length rc3] [.I (newF d0).1, .I (newF d0).2.1, .I (newF d0).2.2.1, .B (newF d0).2.2.2.1]) ∧ Below w.heap.size w w') := by
  simp only [szA, Lf.sz] at z
  exact specNewMem A0 _ c0 d0 w rfl (by unfold maxLen; omega) (repI h.1)
set_option maxRecDepth 100000 in
theorem implNewMemA (h : RepA w [.slice A0 d0.length c0] [.I d0]) (_c : CapA [.slice A0 d0.length c0]) (z : szA [.I d0] ≤ 1048576) :
    Calls Try.prog 33 #[.slice A0 d0.length c0] w (fun e w' => ∃ rA0 rA1 rA2 rA3 rc0 rc1 rc2 rc3, e = .returned (.tuple #[.agg #[.slice rA0 (newF d0).1.length rc0, .slice rA1 (newF d0).2.1.length rc1, .slice rA2 (newF d0).2.2.1.length rc2, .slice rA3 (newF d0).2.2.2.1.length rc3, .int .i64 (newF d0).2.2.2.2.1], .int .i64 (newF d0).2.2.2.2.2]) ∧ Hid (OwnA w' w.heap.size w'.heap.size [.slice rA0 (newF d0).1.length rc0, .slice rA1 (newF d0).2.1.length rc1, .slice rA2 (newF d0).2.2.1.length rc2, .slice rA3 (newF d0).2.2.2.1.length rc3] [.I (newF d0).1, .I (newF d0).2.1, .I (newF d0).2.2.1, .B (newF d0).2.2.2.1]) ∧ Below w.heap.size w w') := by
  simp only [szA, Lf.sz] at z
  exact implNewMem A0 _ c0 d0 w rfl (by unfold maxLen; omega) (repI h.1)
end
end Go.Proofs.Ytdanefhfngmipaa
