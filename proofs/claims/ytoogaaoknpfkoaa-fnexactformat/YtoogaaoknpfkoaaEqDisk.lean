/- Contracts of the comparisons: eqStringS, eqWrite, eqWriteS, eqDisk. -/
import Derived.Test.YtoogaaoknpfkoaaRows
import Derived.Test.YtoogaaoknpfkoaaMem
import Derived.Deep.QuietTactic
import Derived.BigQuiet
import Derived.StillTailTactics
namespace Go.Proofs.Ytoogaaoknpfkoaa
open Go.RowKit

set_option maxRecDepth 100000 in
set_option maxHeartbeats 1000000 in
theorem eqStringS (A A' : Option Addr) (n n' c c' : Nat) (ss ss' : List ByteArray) (w : World) (hl : ss.length = n) (hl' : ss'.length = n') (hn : n ≤ maxLen) (hn' : n' ≤ maxLen)
    (h : StrL w A ss) (h' : StrL w A' ss') :
    Calls Try.prog 57 #[.slice A n c, .slice A' n' c'] w fun e w' => e = .returned (.bool (decide (ss = ss'))) ∧ Below w.heap.size w w' := by
  unfold maxLen at hn hn'
  have HL := Lib.hid hl
  have HL' := Lib.hid hl'
  have H := Lib.hid h
  have H' := Lib.hid h'
  clear hl hl' h h'
  by_cases hne : n = n'
  · subst hne
    have hb : ((n : Int) != (n : Int)) = false := by simp
    go_enter Try.func57, Try.ntmps57
    go_wp2
    go_loopw [5] (fun i wr => ∃ k : Nat, k ≤ n ∧ i = .int .i64 k ∧ Hid (ss.take k = ss'.take k) ∧ Below w.heap.size w wr) (fun i _ => n - (intOf i).toNat)
    case atStart => exact ⟨0, Nat.zero_le _, rfl, Lib.hid rfl, Below.refl _ _⟩
    case round =>
      obtain ⟨k, hk, rfl, HT, hbw⟩ := hrel
      by_cases hlt : k < n
      · obtain ⟨b, off, rfl, hc⟩ := (H.out.below hbw) k (by rw [HL.out]; exact hlt)
        obtain ⟨b', off', rfl, hc'⟩ := (H'.out.below hbw) k (by rw [HL'.out]; exact hlt)
        have HN := Lib.hid (fun e => take_next ByteArray.empty HT.out (by rw [HL.out]; exact hlt) (by rw [HL'.out]; exact hlt) e)
        have HX := Lib.hid (fun e => ne_of_at (l := ss) (m := ss') (k := k) ByteArray.empty e)
        generalize ss.getD k ByteArray.empty = x at hc HN HX
        generalize ss'.getD k ByteArray.empty = y at hc' HN HX
        have hi : (k : Int) < (n : Int) := by omega
        have hq := bytes_beq x y
        by_cases hE : x = y
        · have hq1 : (x.toList == y.toList) = true := by rw [hq]; simp [hE]
          have HE := Lib.hid hE
          clear hq hE
          go_wp2
          go_quiet (fail)
          go_wp2
          go_roundw
          case rel => exact ⟨k + 1, by omega, by go_num, Lib.hid (HN.out HE.out), below_drewN hbw _⟩
          case measure => simp [intOf]; omega
        · have hq1 : (x.toList == y.toList) = false := by rw [hq]; simp [hE]
          have HE := Lib.hid hE
          clear hq hE
          go_wp2
          go_quiet (fail)
          go_wp2
          go_ret
          exact ⟨ret_bool (by simp [HX.out HE.out]), below_drewN hbw _⟩
      · go_wp2
        go_ret
        exact ⟨ret_bool (by simp [take_all HT.out (by rw [HL.out]; omega) (by rw [HL'.out]; omega)]), hbw⟩
  · have hb : ((n : Int) != (n' : Int)) = true := by simp; omega
    have HF : Hid (decide (ss = ss') = false) := Lib.hid (by simp; intro e; apply hne; rw [← HL.out, ← HL'.out, e])
    clear hne
    go_enter Try.func57, Try.ntmps57
    go_wp2
    go_ret
    exact ⟨ret_bool HF.out.symm, Below.refl _ _⟩

set_option maxRecDepth 100000 in
theorem eqWrite (a a' : Int) (s s' : ByteArray) (w : World) :
    Calls Try.prog 144 #[.agg #[.int .i64 a, .string s], .agg #[.int .i64 a', .string s']] w fun e w' => e = .returned (.bool (decide ((a, s) = (a', s')))) ∧ Below w.heap.size w w' := by
  have hq := bytes_beq s s'
  by_cases h1 : a = a'
  · subst h1
    have hb : (a == a) = true := by simp
    by_cases h2 : s = s'
    · have hq1 : (s.toList == s'.toList) = true := by rw [hq]; simp [h2]
      have HF : Hid (decide ((a, s) = (a, s')) = true) := Lib.hid (by simp [h2])
      clear hq h2
      go_enter Try.func144, Try.ntmps144
      go_wp2
      go_ret
      exact ⟨ret_bool HF.out.symm, ((Below.refl _ _).alloc (Nat.le_refl _) _).alloc (by simp) _⟩
    · have hq1 : (s.toList == s'.toList) = false := by rw [hq]; simp [h2]
      have HF : Hid (decide ((a, s) = (a, s')) = false) := Lib.hid (by simp [h2])
      clear hq h2
      go_enter Try.func144, Try.ntmps144
      go_wp2
      go_ret
      exact ⟨ret_bool HF.out.symm, ((Below.refl _ _).alloc (Nat.le_refl _) _).alloc (by simp) _⟩
  · have hb : (a == a') = false := by simp [h1]
    have hb2 : (a != a') = true := by simp [h1]
    have HF : Hid (decide ((a, s) = (a', s')) = false) := Lib.hid (by simp [h1])
    clear hq h1
    go_enter Try.func144, Try.ntmps144
    go_wp2
    go_ret
    exact ⟨ret_bool HF.out.symm, ((Below.refl _ _).alloc (Nat.le_refl _) _).alloc (by simp) _⟩

set_option maxRecDepth 100000 in
set_option maxHeartbeats 1000000 in
theorem eqWriteS (A A' : Option Addr) (n n' c c' : Nat) (ws ws' : List (Int × ByteArray)) (w : World) (hl : ws.length = n) (hl' : ws'.length = n') (hn : n ≤ maxLen) (hn' : n' ≤ maxLen)
    (h : WrL w A ws) (h' : WrL w A' ws') :
    Calls Try.prog 94 #[.slice A n c, .slice A' n' c'] w fun e w' => e = .returned (.bool (decide (ws = ws'))) ∧ Below w.heap.size w w' := by
  unfold maxLen at hn hn'
  have HL := Lib.hid hl
  have HL' := Lib.hid hl'
  have H := Lib.hid h
  have H' := Lib.hid h'
  clear hl hl' h h'
  by_cases hne : n = n'
  · subst hne
    have hb : ((n : Int) != (n : Int)) = false := by simp
    go_enter Try.func94, Try.ntmps94
    go_wp2
    go_loopw [5] (fun i wr => ∃ k : Nat, k ≤ n ∧ i = .int .i64 k ∧ Hid (ws.take k = ws'.take k) ∧ Below w.heap.size w wr) (fun i _ => n - (intOf i).toNat)
    case atStart => exact ⟨0, Nat.zero_le _, rfl, Lib.hid rfl, Below.refl _ _⟩
    case round =>
      obtain ⟨k, hk, rfl, HT, hbw⟩ := hrel
      by_cases hlt : k < n
      · obtain ⟨b, off, rfl, hc, hd⟩ := (H.out.below hbw) k (by rw [HL.out]; exact hlt)
        obtain ⟨b', off', rfl, hc', hd'⟩ := (H'.out.below hbw) k (by rw [HL'.out]; exact hlt)
        have HN := Lib.hid (fun e => take_next (0, ByteArray.empty) HT.out (by rw [HL.out]; exact hlt) (by rw [HL'.out]; exact hlt) e)
        have HX := Lib.hid (fun e => ne_of_at (l := ws) (m := ws') (k := k) (0, ByteArray.empty) e)
        generalize ws.getD k (0, ByteArray.empty) = x at hc hd HN HX
        generalize ws'.getD k (0, ByteArray.empty) = y at hc' hd' HN HX
        obtain ⟨x1, x2⟩ := x
        obtain ⟨y1, y2⟩ := y
        have hi : (k : Int) < (n : Int) := by omega
        have hcall := fun W => eqWrite x1 y1 x2 y2 W
        have HC := Lib.hid hcall
        clear hcall
        go_wp2
        go_still_tail 8, (by kernel_rfl)
        change wpList _ _ _ _ _ wr.drew
        clear hc hd hc' hd'
        have hbd := hbw.drew
        generalize wr.drew = wd at hbd ⊢
        go_wp2_with fail
        refine (HC.out _).mono ?_
        rintro e w1 ⟨rfl, hb1⟩
        by_cases hE : (x1, x2) = (y1, y2)
        · have hq1 : decide ((x1, x2) = (y1, y2)) = true := by simp only [hE, decide_true]
          have HE := Lib.hid hE
          clear hE
          rw [hq1]
          clear hq1
          go_wp2
          go_roundw
          case rel => exact ⟨k + 1, by omega, by go_num, Lib.hid (HN.out HE.out), hbd.trans (hb1.mono hbd.size)⟩
          case measure => simp [intOf]; omega
        · have hq1 : decide ((x1, x2) = (y1, y2)) = false := by simp only [hE, decide_false]
          have HE := Lib.hid hE
          clear hE
          rw [hq1]
          clear hq1
          go_wp2
          go_ret
          exact ⟨ret_bool (by simp [HX.out HE.out]), hbd.trans (hb1.mono hbd.size)⟩
      · go_wp2
        go_ret
        exact ⟨ret_bool (by simp [take_all HT.out (by rw [HL.out]; omega) (by rw [HL'.out]; omega)]), hbw⟩
  · have hb : ((n : Int) != (n' : Int)) = true := by simp; omega
    have HF : Hid (decide (ws = ws') = false) := Lib.hid (by simp; intro e; apply hne; rw [← HL.out, ← HL'.out, e])
    clear hne
    go_enter Try.func94, Try.ntmps94
    go_wp2
    go_ret
    exact ⟨ret_bool HF.out.symm, Below.refl _ _⟩

theorem bdecide {p : Prop} [Decidable p] : (decide p = true) = p := by simp

set_option maxRecDepth 100000 in
theorem eqDisk (A A' C C' : Option Addr) (n n' m m' c c' d d' : Nat) (ss ss' : List ByteArray) (ws ws' : List (Int × ByteArray)) (w : World)
    (hl : ss.length = n) (hl' : ss'.length = n') (hm : ws.length = m) (hm' : ws'.length = m') (hn : n ≤ maxLen) (hn' : n' ≤ maxLen) (gn : m ≤ maxLen) (gn' : m' ≤ maxLen)
    (h : StrL w A ss) (h' : StrL w A' ss') (g : WrL w C ws) (g' : WrL w C' ws') :
    Calls Try.prog 36 #[.agg #[.slice A n c, .slice C m d], .agg #[.slice A' n' c', .slice C' m' d']] w fun e w' => e = .returned (.bool (decide (ss = ss' ∧ ws = ws'))) ∧ Below w.heap.size w w' := by
  have H1 := Lib.hid (fun W hb => eqStringS A A' n n' c c' ss ss' W hl hl' hn hn' (h.below hb) (h'.below hb))
  have H2 := Lib.hid (fun W hb => eqWriteS C C' m m' d d' ws ws' W hm hm' gn gn' (g.below hb) (g'.below hb))
  clear hl hl' hm hm' hn hn' gn gn' h h' g g'
  go_enter Try.func36, Try.ntmps36
  go_wp2_with fail
  refine (H1.out _ (((Below.refl _ _).alloc (Nat.le_refl _) _).alloc (by simp) _)).mono ?_
  rintro e w1 ⟨rfl, hb1⟩
  have hb : Below w.heap.size w w1 := (((Below.refl _ _).alloc (Nat.le_refl _) _).alloc (by simp) _).trans (hb1.mono (by simp; omega))
  by_cases hE : ss = ss'
  · have hq1 : decide (ss = ss') = true := by simp only [hE, decide_true]
    have HE := Lib.hid hE
    clear hE
    rw [hq1]
    clear hq1
    have hc := hb1.cell (p := ⟨w.heap.size, 1, none⟩) (by simp; omega)
    have hd := hb1.cell (p := ⟨w.heap.size + 1, 1, none⟩) (by simp)
    simp at hc hd
    go_wp2_with fail
    refine (H2.out _ hb).mono ?_
    rintro e w2 ⟨rfl, hb2⟩
    by_cases hE2 : ws = ws'
    · have hq1 : decide (ws = ws') = true := by simp only [hE2, decide_true]
      have HE2 := Lib.hid hE2
      clear hE2
      rw [hq1]
      clear hq1
      go_wp2
      go_ret
      exact ⟨ret_bool (by simp [HE.out, HE2.out]), bt hb hb2⟩
    · have hq1 : decide (ws = ws') = false := by simp only [hE2, decide_false]
      have HE2 := Lib.hid hE2
      clear hE2
      rw [hq1]
      clear hq1
      go_wp2
      go_ret
      exact ⟨ret_bool (by simp [HE2.out]), bt hb hb2⟩
  · have hq1 : decide (ss = ss') = false := by simp only [hE, decide_false]
    have HE := Lib.hid hE
    clear hE
    rw [hq1]
    clear hq1
    go_wp2
    go_ret
    exact ⟨ret_bool (by simp [HE.out]), hb⟩

set_option maxRecDepth 100000 in
theorem eqDiskSame (A A' C C' : Option Addr) (n n' m m' c c' d d' : Nat) (ss : List ByteArray) (ws : List (Int × ByteArray)) (w : World)
    (hl : ss.length = n) (hl' : ss.length = n') (hm : ws.length = m) (hm' : ws.length = m') (hn : n ≤ maxLen) (gn : m ≤ maxLen)
    (h : StrL w A ss) (h' : StrL w A' ss) (g : WrL w C ws) (g' : WrL w C' ws) :
    Calls Try.prog 36 #[.agg #[.slice A n c, .slice C m d], .agg #[.slice A' n' c', .slice C' m' d']] w fun e w' => e = .returned (.bool true) ∧ Below w.heap.size w w' :=
  (eqDisk A A' C C' n n' m m' c c' d d' ss ss ws ws w hl hl' hm hm' hn (by omega) gn (by omega) h h' g g').mono fun e w' ⟨he, hb⟩ => ⟨by rw [he]; simp, hb⟩
end Go.Proofs.Ytoogaaoknpfkoaa
