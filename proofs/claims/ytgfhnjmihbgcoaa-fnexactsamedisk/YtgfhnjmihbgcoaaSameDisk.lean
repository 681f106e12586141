/- Contracts of slices.Equal at strings and writes, and of both SameDisk. -/
import Derived.Test.YtgfhnjmihbgcoaaEqDisk
import Derived.Test.YtgfhnjmihbgcoaaOwn
import Derived.Laws.StructEq
namespace Go.Proofs.Ytgfhnjmihbgcoaa
open Go.RowKit

theorem guardW : Try.prog.eqGuardType Try.prog.depth 64 = false := by kernel_rfl
theorem fieldsW : Try.prog.underlying 64 = some (.struct (Try.prog.fieldsOf 64)) := by kernel_rfl
theorem stoodW : Try.prog.stoodInHeld 64 = false := by kernel_rfl
theorem eqW (a b : Int) (s t : ByteArray) (W : World) : (Op.equalIn 10000 64 (.agg #[.int .i64 a, .string s]) (.agg #[.int .i64 b, .string t])).run Try.prog W = .ok (decide ((a, s) = (b, t))) W := by
  rw [run_equalIn_struct W 9999 64 _ _ fieldsW stoodW]
  have hf : (Try.prog.fieldsOf 64).toList = (match Try.prog.underlying 64 with | some (.struct fs) => fs | _ => #[]).toList := rfl
  rw [hf, Try.underlying64]
  have hq := bytes_beq s t
  by_cases h1 : a = b
  · subst h1
    by_cases h2 : s = t
    · subst h2
      simp [go_sem, Op.eqFields]
    · have : (s.toList == t.toList) = false := by rw [hq]; simp [h2]
      simp [go_sem, Op.eqFields, this, h2]
  · have : (a == b) = false := by simp [h1]
    simp [go_sem, Op.eqFields, this, h1]
theorem neqW (a b : Int) (s t : ByteArray) (W : World) : (binOp .neq 64 (.agg #[.int .i64 a, .string s]) (.agg #[.int .i64 b, .string t])).run Try.prog W = .ok (.bool (!decide ((a, s) = (b, t)))) W := by
  rw [run_neq_struct, eqW]; rfl
theorem guardNeqW (x y : Operand) (xs ys : Array Value) (W : World) : (eqGuard .neq 64 x y (.agg xs) (.agg ys)).run Try.prog W = .ok () W := run_eqGuard_agg W _ _ _ _ _ _ guardW

set_option maxHeartbeats 1000000 in
theorem equalS (A A' : Option Addr) (n n' c c' : Nat) (ss ss' : List ByteArray) (w : World) (hl : ss.length = n) (hl' : ss'.length = n') (hn : n ≤ maxLen) (hn' : n' ≤ maxLen)
    (h : StrL w A ss) (h' : StrL w A' ss') :
    Calls Try.prog 53 #[.slice A n c, .slice A' n' c'] w fun e w' => e = .returned (.bool (decide (ss = ss'))) ∧ Below w.heap.size w w' := by
  unfold maxLen at hn hn'
  have HL := Lib.hid hl
  have HL' := Lib.hid hl'
  have H := Lib.hid h
  have H' := Lib.hid h'
  clear hl hl' h h'
  by_cases hne : n = n'
  · subst hne
    have hb : ((n : Int) != (n : Int)) = false := by simp
    go_enter Try.func53, Try.ntmps53
    go_wp2
    go_loopw [13] (fun i wr => ∃ k : Nat, k ≤ n ∧ i = .int .i64 k ∧ Hid (ss.take k = ss'.take k) ∧ Below w.heap.size w wr) (fun i _ => n - (intOf i).toNat)
    case atStart => exact ⟨0, Nat.zero_le _, rfl, Lib.hid rfl, Below.refl _ _⟩
    case round =>
      obtain ⟨k, hk, rfl, HT, hbw⟩ := hrel
      by_cases hlt : k < n
      · obtain ⟨b, off, rfl, hc⟩ := (H.out.below hbw) k (by rw [HL.out]; exact hlt)
        obtain ⟨b', off', rfl, hc'⟩ := (H'.out.below hbw) k (by rw [HL'.out]; exact hlt)
        have HN := Lib.hid (fun e => take_next ByteArray.empty HT.out (by rw [HL.out]; exact hlt) (by rw [HL'.out]; exact hlt) e)
        have HX := Lib.hid (fun e => ne_of_at (l := ss) (m := ss') (k := k) ByteArray.empty e)
        generalize ss.getD k ByteArray.empty = x at hc HN HX
        generalize ss'.getD k ByteArray.empty = y at hc' HN HX
        have hi : (k : Int) < (n : Int) := by omega
        have hq := bytes_beq x y
        by_cases hE : x = y
        · have hq1 : (x.toList == y.toList) = true := by rw [hq]; simp [hE]
          have HE := Lib.hid hE
          clear hq hE
          go_wp2
          go_quiet (fail)
          go_wp2
          go_roundw
          case rel => exact ⟨k + 1, by omega, by go_num, Lib.hid (HN.out HE.out), below_drewN hbw _⟩
          case measure => simp [intOf]; omega
        · have hq1 : (x.toList == y.toList) = false := by rw [hq]; simp [hE]
          have HE := Lib.hid hE
          clear hq hE
          go_wp2
          go_quiet (fail)
          go_wp2
          go_ret
          exact ⟨ret_bool (by simp [HX.out HE.out]), below_drewN hbw _⟩
      · go_wp2
        go_ret
        exact ⟨ret_bool (by simp [take_all HT.out (by rw [HL.out]; omega) (by rw [HL'.out]; omega)]), hbw⟩
  · have hb : ((n : Int) != (n' : Int)) = true := by simp; omega
    have HF : Hid (decide (ss = ss') = false) := Lib.hid (by simp; intro e; apply hne; rw [← HL.out, ← HL'.out, e])
    clear hne
    go_enter Try.func53, Try.ntmps53
    go_wp2
    go_ret
    exact ⟨ret_bool HF.out.symm, Below.refl _ _⟩

set_option maxHeartbeats 1000000 in
theorem equalW (A A' : Option Addr) (n n' c c' : Nat) (ws ws' : List (Int × ByteArray)) (w : World) (hl : ws.length = n) (hl' : ws'.length = n') (hn : n ≤ maxLen) (hn' : n' ≤ maxLen)
    (h : WrL w A ws) (h' : WrL w A' ws') :
    Calls Try.prog 54 #[.slice A n c, .slice A' n' c'] w fun e w' => e = .returned (.bool (decide (ws = ws'))) ∧ Below w.heap.size w w' := by
  unfold maxLen at hn hn'
  have HL := Lib.hid hl
  have HL' := Lib.hid hl'
  have H := Lib.hid h
  have H' := Lib.hid h'
  clear hl hl' h h'
  have hgu := guardNeqW
  by_cases hne : n = n'
  · subst hne
    have hb : ((n : Int) != (n : Int)) = false := by simp
    go_enter Try.func54, Try.ntmps54
    go_wp2
    go_loopw [13] (fun i wr => ∃ k : Nat, k ≤ n ∧ i = .int .i64 k ∧ Hid (ws.take k = ws'.take k) ∧ Below w.heap.size w wr) (fun i _ => n - (intOf i).toNat)
    case atStart => exact ⟨0, Nat.zero_le _, rfl, Lib.hid rfl, Below.refl _ _⟩
    case round =>
      obtain ⟨k, hk, rfl, HT, hbw⟩ := hrel
      by_cases hlt : k < n
      · obtain ⟨b, off, rfl, hc, hd⟩ := (H.out.below hbw) k (by rw [HL.out]; exact hlt)
        obtain ⟨b', off', rfl, hc', hd'⟩ := (H'.out.below hbw) k (by rw [HL'.out]; exact hlt)
        have HN := Lib.hid (fun e => take_next (0, ByteArray.empty) HT.out (by rw [HL.out]; exact hlt) (by rw [HL'.out]; exact hlt) e)
        have HX := Lib.hid (fun e => ne_of_at (l := ws) (m := ws') (k := k) (0, ByteArray.empty) e)
        generalize ws.getD k (0, ByteArray.empty) = x at hc hd HN HX
        generalize ws'.getD k (0, ByteArray.empty) = y at hc' hd' HN HX
        obtain ⟨x1, x2⟩ := x
        obtain ⟨y1, y2⟩ := y
        have hi : (k : Int) < (n : Int) := by omega
        by_cases hE : (x1, x2) = (y1, y2)
        · have hop : ∀ W, (binOp .neq 64 (.agg #[.int .i64 x1, .string x2]) (.agg #[.int .i64 y1, .string y2])).run Try.prog W = .ok (.bool false) W := fun W => by rw [neqW]; simp only [hE, decide_true, Bool.not_true]
          have HE := Lib.hid hE
          clear hE
          go_wp2
          go_quiet (fail)
          go_wp2
          go_roundw
          case rel => exact ⟨k + 1, by omega, by go_num, Lib.hid (HN.out HE.out), below_drewN hbw _⟩
          case measure => simp [intOf]; omega
        · have hop : ∀ W, (binOp .neq 64 (.agg #[.int .i64 x1, .string x2]) (.agg #[.int .i64 y1, .string y2])).run Try.prog W = .ok (.bool true) W := fun W => by rw [neqW]; simp only [hE, decide_false, Bool.not_false]
          have HE := Lib.hid hE
          clear hE
          go_wp2
          go_quiet (fail)
          go_wp2
          go_ret
          exact ⟨ret_bool (by simp [HX.out HE.out]), below_drewN hbw _⟩
      · go_wp2
        go_ret
        exact ⟨ret_bool (by simp [take_all HT.out (by rw [HL.out]; omega) (by rw [HL'.out]; omega)]), hbw⟩
  · have hb : ((n : Int) != (n' : Int)) = true := by simp; omega
    have HF : Hid (decide (ws = ws') = false) := Lib.hid (by simp; intro e; apply hne; rw [← HL.out, ← HL'.out, e])
    clear hne
    go_enter Try.func54, Try.ntmps54
    go_wp2
    go_ret
    exact ⟨ret_bool HF.out.symm, Below.refl _ _⟩

theorem implSame (A A' C C' : Option Addr) (n n' m m' c c' d d' : Nat) (ss ss' : List ByteArray) (ws ws' : List (Int × ByteArray)) (w : World)
    (hl : ss.length = n) (hl' : ss'.length = n') (hm : ws.length = m) (hm' : ws'.length = m') (hn : n ≤ maxLen) (hn' : n' ≤ maxLen) (gn : m ≤ maxLen) (gn' : m' ≤ maxLen)
    (h : StrL w A ss) (h' : StrL w A' ss') (g : WrL w C ws) (g' : WrL w C' ws') :
    Calls Try.prog 24 #[.agg #[.slice A n c, .slice C m d], .agg #[.slice A' n' c', .slice C' m' d']] w fun e w' => e = .returned (.bool (decide (ss = ss' ∧ ws = ws'))) ∧ Below w.heap.size w w' := by
  have H1 := Lib.hid (fun W hb => equalS A A' n n' c c' ss ss' W hl hl' hn hn' (h.below hb) (h'.below hb))
  have H2 := Lib.hid (fun W hb => equalW C C' m m' d d' ws ws' W hm hm' gn gn' (g.below hb) (g'.below hb))
  clear hl hl' hm hm' hn hn' gn gn' h h' g g'
  by_cases hE : ss = ss'
  · have hq1 : decide (ss = ss') = true := by simp only [hE, decide_true]
    have HQ := Lib.hid hq1
    have HE := Lib.hid hE
    clear hE hq1
    go_enter Try.func24, Try.ntmps24
    go_wp2_with fail
    refine (H1.out _ (((Below.refl _ _).alloc (Nat.le_refl _) _).alloc (by simp) _)).mono ?_
    rintro e w1 ⟨rfl, hb1⟩
    have hb : Below w.heap.size w w1 := (((Below.refl _ _).alloc (Nat.le_refl _) _).alloc (by simp) _).trans (hb1.mono (by simp; omega))
    rw [HQ.out]
    have hc := hb1.cell (p := ⟨w.heap.size, 1, none⟩) (by simp; omega)
    have hd := hb1.cell (p := ⟨w.heap.size + 1, 1, none⟩) (by simp)
    simp at hc hd
    go_wp2_with fail
    refine (H2.out _ hb).mono ?_
    rintro e w2 ⟨rfl, hb2⟩
    go_wp2
    go_ret
    exact ⟨ret_bool (by simp [HE.out]), bt hb hb2⟩
  · have hq1 : decide (ss = ss') = false := by simp only [hE, decide_false]
    have HQ := Lib.hid hq1
    have HE := Lib.hid hE
    clear hE hq1
    go_enter Try.func24, Try.ntmps24
    go_wp2_with fail
    refine (H1.out _ (((Below.refl _ _).alloc (Nat.le_refl _) _).alloc (by simp) _)).mono ?_
    rintro e w1 ⟨rfl, hb1⟩
    have hb : Below w.heap.size w w1 := (((Below.refl _ _).alloc (Nat.le_refl _) _).alloc (by simp) _).trans (hb1.mono (by simp; omega))
    rw [HQ.out]
    go_wp2
    go_ret
    exact ⟨ret_bool (by simp [HE.out]), hb⟩

set_option maxHeartbeats 2000000 in
theorem specSame (A A' C C' : Option Addr) (n n' m m' c c' d d' : Nat) (ss ss' : List ByteArray) (ws ws' : List (Int × ByteArray)) (w : World)
    (hl : ss.length = n) (hl' : ss'.length = n') (hm : ws.length = m) (hm' : ws'.length = m') (hn : n ≤ maxLen) (hn' : n' ≤ maxLen) (gn : m ≤ maxLen) (gn' : m' ≤ maxLen)
    (h : StrL w A ss) (h' : StrL w A' ss') (g : WrL w C ws) (g' : WrL w C' ws') :
    Calls Try.prog 41 #[.agg #[.slice A n c, .slice C m d], .agg #[.slice A' n' c', .slice C' m' d']] w fun e w' => e = .returned (.bool (decide (ss = ss' ∧ ws = ws'))) ∧ Below w.heap.size w w' := by
  unfold maxLen at hn hn' gn gn'
  have HL := Lib.hid hl
  have HL' := Lib.hid hl'
  have HM := Lib.hid hm
  have HM' := Lib.hid hm'
  have H := Lib.hid h
  have H' := Lib.hid h'
  have G := Lib.hid g
  have G' := Lib.hid g'
  clear hl hl' hm hm' h h' g g'
  have hgu := guardNeqW
  by_cases hne : n = n'
  · by_cases hme : m = m'
    · subst hne hme
      have hb : ((n : Int) != (n : Int)) = false := by simp
      have hb2 : ((m : Int) != (m : Int)) = false := by simp
      go_enter Try.func41, Try.ntmps41
      go_wp2
      obtain ⟨W0, hW0⟩ : ∃ W0, W0 = ((w.alloc (.cells #[.slice A n c, .slice C m d] 26)).alloc (.cells #[.slice A' n c', .slice C' m d'] 26)) := ⟨_, rfl⟩
      have hb0 : Below w.heap.size w W0 := by rw [hW0]; exact ((Below.refl _ _).alloc (Nat.le_refl _) _).alloc (by simp) _
      have X0 : Box W0 w.heap.size 26 #[.slice A n c, .slice C m d] := by rw [hW0]; exact (Box.new _ _ _).alloc _
      have X1 : Box W0 (w.heap.size + 1) 26 #[.slice A' n c', .slice C' m d'] := by rw [hW0]; simpa using Box.new (w.alloc (.cells #[.slice A n c, .slice C m d] 26)) 26 #[.slice A' n c', .slice C' m d']
      rw [← hW0]
      clear hW0
      have HX := Lib.hid (And.intro X0 X1)
      clear X0 X1
      go_loopw [5] (fun i wr => ∃ k : Nat, k ≤ n ∧ i = .int .i64 k ∧ Hid (ss.take k = ss'.take k) ∧ Below W0.heap.size W0 wr) (fun i _ => n - (intOf i).toNat)
      case atStart => exact ⟨0, Nat.zero_le _, rfl, Lib.hid rfl, Below.refl _ _⟩
      case round =>
        obtain ⟨k, hk, rfl, HT, hbw⟩ := hrel
        have hbw' := bt hb0 hbw
        have f0 : wr.cell? ⟨w.heap.size, 0, none⟩ = some (.slice A n c) := (HX.out.1.step hbw).cell 0 rfl
        have f1 : wr.cell? ⟨w.heap.size + 1, 0, none⟩ = some (.slice A' n c') := (HX.out.2.step hbw).cell 0 rfl
        by_cases hlt : k < n
        · obtain ⟨b, off, rfl, hc⟩ := (H.out.below hbw') k (by rw [HL.out]; exact hlt)
          obtain ⟨b', off', rfl, hc'⟩ := (H'.out.below hbw') k (by rw [HL'.out]; exact hlt)
          have HN := Lib.hid (fun e => take_next ByteArray.empty HT.out (by rw [HL.out]; exact hlt) (by rw [HL'.out]; exact hlt) e)
          have HXx := Lib.hid (fun e => ne_of_at (l := ss) (m := ss') (k := k) ByteArray.empty e)
          generalize ss.getD k ByteArray.empty = x at hc HN HXx
          generalize ss'.getD k ByteArray.empty = y at hc' HN HXx
          have hi : (k : Int) < (n : Int) := by omega
          have hq := bytes_beq x y
          by_cases hE : x = y
          · have hq1 : (x.toList == y.toList) = true := by rw [hq]; simp [hE]
            have HE := Lib.hid hE
            clear hq hE
            go_wp2
            go_quiet (fail)
            go_wp2
            go_roundw
            case rel => exact ⟨k + 1, by omega, by go_num, Lib.hid (HN.out HE.out), below_drewN hbw _⟩
            case measure => simp [intOf]; omega
          · have hq1 : (x.toList == y.toList) = false := by rw [hq]; simp [hE]
            have HE := Lib.hid hE
            clear hq hE
            go_wp2
            go_quiet (fail)
            go_wp2
            go_ret
            exact ⟨ret_bool (by simp [HXx.out HE.out]), below_drewN hbw' _⟩
        · have HSS := Lib.hid (take_all HT.out (by rw [HL.out]; omega) (by rw [HL'.out]; omega))
          go_wp2
          clear f0 f1
          obtain ⟨wo, hwo⟩ : ∃ wo : World, wo = wr := ⟨_, rfl⟩
          subst hwo
          go_loopw [6] (fun i wr => ∃ k : Nat, k ≤ m ∧ i = .int .i64 k ∧ Hid (ws.take k = ws'.take k) ∧ Below W0.heap.size W0 wr) (fun i _ => m - (intOf i).toNat)
          case atStart => exact ⟨0, Nat.zero_le _, rfl, Lib.hid rfl, hbw⟩
          case round =>
            obtain ⟨j, hj, rfl, HU, hbu⟩ := hrel
            have hbu' := bt hb0 hbu
            have f2 : wr.cell? ⟨w.heap.size, 1, none⟩ = some (.slice C m d) := (HX.out.1.step hbu).cell 1 rfl
            have f3 : wr.cell? ⟨w.heap.size + 1, 1, none⟩ = some (.slice C' m d') := (HX.out.2.step hbu).cell 1 rfl
            by_cases hjt : j < m
            · obtain ⟨b, off, rfl, hc, hd⟩ := (G.out.below hbu') j (by rw [HM.out]; exact hjt)
              obtain ⟨b', off', rfl, hc', hd'⟩ := (G'.out.below hbu') j (by rw [HM'.out]; exact hjt)
              have HN := Lib.hid (fun e => take_next (0, ByteArray.empty) HU.out (by rw [HM.out]; exact hjt) (by rw [HM'.out]; exact hjt) e)
              have HXx := Lib.hid (fun e => ne_of_at (l := ws) (m := ws') (k := j) (0, ByteArray.empty) e)
              generalize ws.getD j (0, ByteArray.empty) = x at hc hd HN HXx
              generalize ws'.getD j (0, ByteArray.empty) = y at hc' hd' HN HXx
              obtain ⟨x1, x2⟩ := x
              obtain ⟨y1, y2⟩ := y
              have hi : (j : Int) < (m : Int) := by omega
              by_cases hE : (x1, x2) = (y1, y2)
              · have hop : ∀ W, (binOp .neq 64 (.agg #[.int .i64 x1, .string x2]) (.agg #[.int .i64 y1, .string y2])).run Try.prog W = .ok (.bool false) W := fun W => by rw [neqW]; simp only [hE, decide_true, Bool.not_true]
                have HE := Lib.hid hE
                clear hE
                go_wp2
                go_quiet (fail)
                go_wp2
                go_roundw
                case rel => exact ⟨j + 1, by omega, by go_num, Lib.hid (HN.out HE.out), below_drewN hbu _⟩
                case measure => simp [intOf]; omega
              · have hop : ∀ W, (binOp .neq 64 (.agg #[.int .i64 x1, .string x2]) (.agg #[.int .i64 y1, .string y2])).run Try.prog W = .ok (.bool true) W := fun W => by rw [neqW]; simp only [hE, decide_false, Bool.not_false]
                have HE := Lib.hid hE
                clear hE
                go_wp2
                go_quiet (fail)
                go_wp2
                go_ret
                exact ⟨ret_bool (by simp [HXx.out HE.out]), below_drewN hbu' _⟩
            · go_wp2
              go_ret
              exact ⟨ret_bool (by simp [HSS.out, take_all HU.out (by rw [HM.out]; omega) (by rw [HM'.out]; omega)]), hbu'⟩
    · have hb : ((n : Int) != (n' : Int)) = false := by simp; omega
      have hb2 : ((m : Int) != (m' : Int)) = true := by simp; omega
      have HF : Hid (decide (ss = ss' ∧ ws = ws') = false) := Lib.hid (by simp; intro _ e; apply hme; rw [← HM.out, ← HM'.out, e])
      clear hne hme
      go_enter Try.func41, Try.ntmps41
      go_wp2
      go_ret
      exact ⟨ret_bool HF.out.symm, ((Below.refl _ _).alloc (Nat.le_refl _) _).alloc (by simp) _⟩
  · have hb : ((n : Int) != (n' : Int)) = true := by simp; omega
    have HF : Hid (decide (ss = ss' ∧ ws = ws') = false) := Lib.hid (by simp; intro e; exact absurd (by rw [← HL.out, ← HL'.out, e]) hne)
    clear hne
    go_enter Try.func41, Try.ntmps41
    go_wp2
    go_ret
    exact ⟨ret_bool HF.out.symm, ((Below.refl _ _).alloc (Nat.le_refl _) _).alloc (by simp) _⟩

/-- Both disks are alike: a word that the walk does not take apart. -/
def sameB (ss ss' : List ByteArray) (ws ws' : List (Int × ByteArray)) : Bool := decide (ss = ss' ∧ ws = ws')
theorem implSameB (A A' C C' : Option Addr) (n n' m m' c c' d d' : Nat) (ss ss' : List ByteArray) (ws ws' : List (Int × ByteArray)) (w : World)
    (hl : ss.length = n) (hl' : ss'.length = n') (hm : ws.length = m) (hm' : ws'.length = m') (hn : n ≤ maxLen) (hn' : n' ≤ maxLen) (gn : m ≤ maxLen) (gn' : m' ≤ maxLen)
    (h : StrL w A ss) (h' : StrL w A' ss') (g : WrL w C ws) (g' : WrL w C' ws') :
    Calls Try.prog 24 #[.agg #[.slice A n c, .slice C m d], .agg #[.slice A' n' c', .slice C' m' d']] w fun e w' => e = .returned (.bool (sameB ss ss' ws ws')) ∧ Below w.heap.size w w' :=
  implSame A A' C C' n n' m m' c c' d d' ss ss' ws ws' w hl hl' hm hm' hn hn' gn gn' h h' g g'
theorem specSameB (A A' C C' : Option Addr) (n n' m m' c c' d d' : Nat) (ss ss' : List ByteArray) (ws ws' : List (Int × ByteArray)) (w : World)
    (hl : ss.length = n) (hl' : ss'.length = n') (hm : ws.length = m) (hm' : ws'.length = m') (hn : n ≤ maxLen) (hn' : n' ≤ maxLen) (gn : m ≤ maxLen) (gn' : m' ≤ maxLen)
    (h : StrL w A ss) (h' : StrL w A' ss') (g : WrL w C ws) (g' : WrL w C' ws') :
    Calls Try.prog 41 #[.agg #[.slice A n c, .slice C m d], .agg #[.slice A' n' c', .slice C' m' d']] w fun e w' => e = .returned (.bool (sameB ss ss' ws ws')) ∧ Below w.heap.size w w' :=
  specSame A A' C C' n n' m m' c c' d d' ss ss' ws ws' w hl hl' hm hm' hn hn' gn gn' h h' g g'
end Go.Proofs.Ytgfhnjmihbgcoaa
