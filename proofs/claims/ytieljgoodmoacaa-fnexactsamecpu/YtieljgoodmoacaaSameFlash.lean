/- Contracts of slices.Equal over []int and []bool, and of both SameFlash. -/
import Derived.Test.YtieljgoodmoacaaFlashOk
import Derived.Deep.RegionHeld3
namespace Go.Proofs.Ytieljgoodmoacaa
open Go.RowKit

set_option maxRecDepth 100000 in
set_option maxHeartbeats 1000000 in
theorem equalI (A A' : Option Addr) (n n' c c' : Nat) (ss ss' : List Int) (w : World) (hl : ss.length = n) (hl' : ss'.length = n') (hn : n ≤ maxLen) (hn' : n' ≤ maxLen)
    (h : IntL w A ss) (h' : IntL w A' ss') :
    Calls Try.prog 56 #[.slice A n c, .slice A' n' c'] w fun e w' => e = .returned (.bool (decide (ss = ss'))) ∧ Below w.heap.size w w' := by
  unfold maxLen at hn hn'
  have HL := Lib.hid hl
  have HL' := Lib.hid hl'
  have H := Lib.hid h
  have H' := Lib.hid h'
  clear hl hl' h h'
  by_cases hne : n = n'
  · subst hne
    have hb : ((n : Int) != (n : Int)) = false := by simp
    go_enter Try.func56, Try.ntmps56
    go_wp2
    go_loopw [13] (fun i wr => ∃ k : Nat, k ≤ n ∧ i = .int .i64 k ∧ Hid (ss.take k = ss'.take k) ∧ Below w.heap.size w wr) (fun i _ => n - (intOf i).toNat)
    case atStart => exact ⟨0, Nat.zero_le _, rfl, Lib.hid rfl, Below.refl _ _⟩
    case round =>
      obtain ⟨k, hk, rfl, HT, hbw⟩ := hrel
      by_cases hlt : k < n
      · obtain ⟨b, off, rfl, hc⟩ := (H.out.below hbw) k (by rw [HL.out]; exact hlt)
        obtain ⟨b', off', rfl, hc'⟩ := (H'.out.below hbw) k (by rw [HL'.out]; exact hlt)
        have HN := Lib.hid (fun e => take_next 0 HT.out (by rw [HL.out]; exact hlt) (by rw [HL'.out]; exact hlt) e)
        have HX := Lib.hid (fun e => ne_of_at (l := ss) (m := ss') (k := k) 0 e)
        generalize ss.getD k 0 = x at hc HN HX
        generalize ss'.getD k 0 = y at hc' HN HX
        have hi : (k : Int) < (n : Int) := by omega
        by_cases hE : x = y
        · have hq1 : (x == y) = true := by simp [hE]
          have hq2 : (x != y) = false := by simp [hE]
          have HE := Lib.hid hE
          clear hE
          go_wp2
          go_quiet (fail)
          go_wp2
          go_roundw
          case rel => exact ⟨k + 1, by omega, by go_num, Lib.hid (HN.out HE.out), below_drewN hbw _⟩
          case measure => simp [intOf]; omega
        · have hq1 : (x == y) = false := by simp [hE]
          have hq2 : (x != y) = true := by simp [hE]
          have HE := Lib.hid hE
          clear hE
          go_wp2
          go_quiet (fail)
          go_wp2
          go_ret
          exact ⟨ret_bool (by simp [HX.out HE.out]), below_drewN hbw _⟩
      · go_wp2
        go_ret
        exact ⟨ret_bool (by simp [take_all HT.out (by rw [HL.out]; omega) (by rw [HL'.out]; omega)]), hbw⟩
  · have hb : ((n : Int) != (n' : Int)) = true := by simp; omega
    have HF : Hid (decide (ss = ss') = false) := Lib.hid (by simp; intro e; apply hne; rw [← HL.out, ← HL'.out, e])
    clear hne
    go_enter Try.func56, Try.ntmps56
    go_wp2
    go_ret
    exact ⟨ret_bool HF.out.symm, Below.refl _ _⟩

def sameFl (zs zs' : List Int) (gs gs' : List Bool) (st st' : Int) : Bool := decide (zs = zs') && (decide (gs = gs') && decide (st = st'))

/-- The same bytes and the same protection. -/
def sameArr (zs zs' : List Int) (gs gs' : List Bool) : Bool := decide (zs = zs') && decide (gs = gs')

end Go.Proofs.Ytieljgoodmoacaa
