/- Contracts of toIntS, eqIntS, markIntS. -/
import Derived.Test.YtagdclbpgkilgaaEqDisk
import Derived.Test.YtagdclbpgkilgaaOwn
import Derived.Test.YtagdclbpgkilgaaToDisk
namespace Go.Proofs.Ytagdclbpgkilgaa
open Go.RowKit

set_option maxRecDepth 100000 in
theorem infoI : (Try.prog.info? 3).map (fun i => (i.zero, i.size, i.bytes)) = some (some (.int .i64 0), 1, 8) := by kernel_rfl

/-- The call hands back a []int of its own, and its capacity is no less than its length. -/
def GivesIntsC (zs : List Int) (w : World) (e : Ending) (w' : World) : Prop :=
  ∃ A n c, e = .returned (.slice A n c) ∧ Hid (zs.length = n) ∧ Hid (OwnI w' w.heap.size w'.heap.size A zs) ∧ n ≤ c ∧ Below w.heap.size w w'
/-- The call hands back a []int of its own. -/
def GivesInts (zs : List Int) (w : World) (e : Ending) (w' : World) : Prop :=
  ∃ A n c, e = .returned (.slice A n c) ∧ Hid (zs.length = n) ∧ Hid (OwnI w' w.heap.size w'.heap.size A zs) ∧ Below w.heap.size w w'

set_option maxRecDepth 100000 in
set_option maxHeartbeats 1000000 in
theorem eqIntSame (A A' : Option Addr) (n n' c c' : Nat) (zs : List Int) (w : World) (hl : zs.length = n) (hl' : zs.length = n') (hn : n ≤ maxLen) (h : IntL w A zs) (h' : IntL w A' zs) :
    Calls Try.prog 35 #[.slice A n c, .slice A' n' c'] w fun e w' => e = .returned (.bool true) ∧ Below w.heap.size w w' := by
  unfold maxLen at hn
  have HL := Lib.hid hl
  obtain rfl : n = n' := by omega
  have H := Lib.hid h
  have H' := Lib.hid h'
  clear hl hl' h h'
  have hb : ((n : Int) != (n : Int)) = false := by simp
  go_enter Try.func35, Try.ntmps35
  go_wp2
  go_loopw [5] (fun i wr => ∃ k : Nat, k ≤ n ∧ i = .int .i64 k ∧ Below w.heap.size w wr) (fun i _ => n - (intOf i).toNat)
  case atStart => exact ⟨0, Nat.zero_le _, rfl, Below.refl _ _⟩
  case round =>
    obtain ⟨k, hk, rfl, hbw⟩ := hrel
    by_cases hlt : k < n
    · obtain ⟨b, off, rfl, hc⟩ := (H.out.below hbw) k (by rw [HL.out]; exact hlt)
      obtain ⟨b', off', rfl, hc'⟩ := (H'.out.below hbw) k (by rw [HL.out]; exact hlt)
      generalize zs.getD k 0 = x at hc hc'
      have hi : (k : Int) < (n : Int) := by omega
      have hq1 : (x != x) = false := by simp
      have hq2 : (x == x) = true := by simp
      go_wp2
      go_quiet (fail)
      go_wp2
      go_roundw
      case rel => exact ⟨k + 1, by omega, by go_num, below_drewN hbw _⟩
      case measure => simp [intOf]; omega
    · go_wp2
      go_ret
      exact ⟨rfl, hbw⟩

def MarkedI (lo hi k n : Nat) (w : World) (e : Ending) (w' : World) : Prop := e = .returned (.int .i64 ((k + n : Nat) : Int)) ∧ Btw lo hi w w'

set_option maxRecDepth 100000 in
set_option maxHeartbeats 2000000 in
theorem markIntS (A : Option Addr) (n c k lo hi : Nat) (zs : List Int) (w : World) (hl : zs.length = n) (hk : 1 ≤ k) (hn : n ≤ 1099511627776) (hk2 : k + n ≤ 1099511627776) (h : OwnI w lo hi A zs) :
    Calls Try.prog 36 #[.slice A n c, .int .i64 k] w (MarkedI lo hi k n w) := by
  rcases h with rfl | ⟨b, m, f, rfl, h1, h2, hm, hr, hf⟩
  · obtain rfl : n = 0 := hl.symm
    go_enter Try.func36, Try.ntmps36
    go_wp2
    go_loop [5, 1] (fun i kk => i = .int .i64 0 ∧ kk = .int .i64 k) (fun _ _ => 0)
    case atStart => exact ⟨rfl, rfl⟩
    case round =>
      obtain ⟨rfl, rfl⟩ := hrel
      go_wp2
      go_ret
      exact ⟨rfl, Btw.refl _ _ _⟩
  · have HM : Hid (n ≤ m) := Lib.hid (by omega)
    have HR := Lib.hid hr
    clear hl hm hr hf
    go_enter Try.func36, Try.ntmps36
    go_wp2
    go_loopw [5, 1] (fun i kk wr => ∃ j : Nat, j ≤ n ∧ i = .int .i64 j ∧ kk = .int .i64 ((k + j : Nat) : Int) ∧ Btw lo hi w wr ∧ Hid (∃ f, wr.rowIs b 3 m f)) (fun i _ _ => n - (intOf i).toNat)
    case atStart => exact ⟨0, Nat.zero_le _, rfl, rfl, Btw.refl _ _ _, Lib.hid ⟨_, HR.out⟩⟩
    case round =>
      obtain ⟨j, hj, rfl, rfl, hbw, HW⟩ := hrel
      by_cases hlt : j < n
      · have hi' : (j : Int) < (n : Int) := by omega
        obtain ⟨f', hf'⟩ := HW.out
        have hc := hf'.cell (i := j) (by have := HM.out; omega)
        have hfz := hf'.frozen j
        generalize hz : k + j = z
        have HZ := Lib.hid hz
        have hz1 : z + 1 ≤ 1099511627776 := by omega
        have HS : Hid (∃ f, (wr.setCell ⟨b, j, none⟩ (.int .i64 (z : Int))).rowIs b 3 m f) := Lib.hid ⟨_, hf'.set j _⟩
        clear hf' HW hz
        generalize f' j = y at hc
        go_wp2
        go_roundw
        case rel => exact ⟨j + 1, by omega, by go_num, by have := HZ.out; congr 1; omega, hbw.setCell h1 h2 _, HS⟩
        case measure => simp [intOf]; omega
      · go_wp2
        go_ret
        have ej : j = n := by omega
        subst ej
        exact ⟨rfl, hbw⟩
end Go.Proofs.Ytagdclbpgkilgaa
