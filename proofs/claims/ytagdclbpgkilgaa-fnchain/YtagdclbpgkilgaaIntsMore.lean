/- Contracts of szIntS, of markIntS with what it leaves, of heldIntS. -/
import Derived.Test.YtagdclbpgkilgaaInts
import Derived.Test.YtagdclbpgkilgaaSzDisk
namespace Go.Proofs.Ytagdclbpgkilgaa
open Go.RowKit

def marksI (k n : Nat) : List Int := (List.range n).map fun i => ((k + i : Nat) : Int)
theorem marksI_len (k n : Nat) : (marksI k n).length = n := by simp [marksI]
theorem marksI_at (k n i : Nat) (h : i < n) : (marksI k n).getD i 0 = ((k + i : Nat) : Int) := by simp [marksI, List.getD_eq_getElem?_getD, h]
def MarkedIs (lo hi : Nat) (A : Option Addr) (k n : Nat) (w : World) (e : Ending) (w' : World) : Prop :=
  e = .returned (.int .i64 ((k + n : Nat) : Int)) ∧ Hid (OwnI w' lo hi A (marksI k n)) ∧ Btw lo hi w w'

set_option maxRecDepth 100000 in
set_option maxHeartbeats 2000000 in
theorem markIntSs (A : Option Addr) (n c k lo hi : Nat) (zs : List Int) (w : World) (hl : zs.length = n) (hk : 1 ≤ k) (hn : n ≤ 1099511627776) (hk2 : k + n ≤ 1099511627776) (h : OwnI w lo hi A zs) :
    Calls Try.prog 36 #[.slice A n c, .int .i64 k] w (MarkedIs lo hi A k n w) := by
  rcases h with rfl | ⟨b, m, f, rfl, h1, h2, hm, hr, hf⟩
  · obtain rfl : n = 0 := hl.symm
    go_enter Try.func36, Try.ntmps36
    go_wp2
    go_loop [5, 1] (fun i kk => i = .int .i64 0 ∧ kk = .int .i64 k) (fun _ _ => 0)
    case atStart => exact ⟨rfl, rfl⟩
    case round =>
      obtain ⟨rfl, rfl⟩ := hrel
      go_wp2
      go_ret
      exact ⟨rfl, Lib.hid (.inl rfl), Btw.refl _ _ _⟩
  · have HM : Hid (n ≤ m) := Lib.hid (by omega)
    have HR := Lib.hid hr
    clear hl hm hr hf
    go_enter Try.func36, Try.ntmps36
    go_wp2
    go_loopw [5, 1] (fun i kk wr => ∃ j : Nat, j ≤ n ∧ i = .int .i64 j ∧ kk = .int .i64 ((k + j : Nat) : Int) ∧ Btw lo hi w wr ∧ Hid (wr.rowIs b 3 m (fun x => if x < j then .int .i64 ((k + x : Nat) : Int) else f x))) (fun i _ _ => n - (intOf i).toNat)
    case atStart => exact ⟨0, Nat.zero_le _, rfl, rfl, Btw.refl _ _ _, Lib.hid (HR.out.congr (fun i _ => by simp))⟩
    case round =>
      obtain ⟨j, hj, rfl, rfl, hbw, HW⟩ := hrel
      by_cases hlt : j < n
      · have hi' : (j : Int) < (n : Int) := by omega
        have hc := HW.out.cell (i := j) (by have := HM.out; omega)
        simp only [Nat.lt_irrefl, if_false] at hc
        have hfz := HW.out.frozen j
        generalize hz : k + j = z
        have HZ := Lib.hid hz
        have hz1 : z + 1 ≤ 1099511627776 := by omega
        have HS := Lib.hid (HW.out.set j (.int .i64 (z : Int)))
        clear HW hz
        generalize f j = y at hc
        go_wp2
        go_roundw
        case rel =>
          refine ⟨j + 1, by omega, by go_num, by have := HZ.out; congr 1; omega, hbw.setCell h1 h2 _, Lib.hid (HS.out.congr (fun x _ => ?_))⟩
          show (if x = j then Value.int .i64 (z : Int) else if x < j then _ else _) = _
          by_cases e : x = j
          · subst e; rw [if_pos rfl, if_pos (by omega), HZ.out]
          · rw [if_neg e]
            by_cases e2 : x < j
            · rw [if_pos e2, if_pos (by omega)]
            · rw [if_neg e2, if_neg (by omega)]
        case measure => simp [intOf]; omega
      · go_wp2
        go_ret
        have ej : j = n := by omega
        subst ej
        exact ⟨rfl, Lib.hid (.inr ⟨b, m, _, rfl, h1, h2, by rw [marksI_len]; exact HM.out, HW.out, fun i hi' => by rw [marksI_len] at hi'; rw [if_pos hi', marksI_at k j i hi']⟩), hbw⟩

set_option maxRecDepth 100000 in
set_option maxHeartbeats 2000000 in
theorem heldIntS (A : Option Addr) (n c k : Nat) (w : World) (hk : 1 ≤ k) (hk2 : k + n ≤ 1099511627776) (h : IntL w A (marksI k n)) :
    Calls Try.prog 37 #[.slice A n c, .int .i64 k] w fun e w' => e = .returned (.int .i64 ((k + n : Nat) : Int)) ∧ w = w' := by
  have H := Lib.hid h
  clear h
  go_enter Try.func37, Try.ntmps37
  go_wp2
  go_loop [5, 1] (fun i kk => ∃ j : Nat, j ≤ n ∧ i = .int .i64 j ∧ kk = .int .i64 ((k + j : Nat) : Int)) (fun i _ => n - (intOf i).toNat)
  case atStart => exact ⟨0, Nat.zero_le _, rfl, rfl⟩
  case round =>
    obtain ⟨j, hj, rfl, rfl⟩ := hrel
    by_cases hlt : j < n
    · obtain ⟨b, off, rfl, hc⟩ := H.out j (by rw [marksI_len]; exact hlt)
      rw [marksI_at k n j hlt] at hc
      have hi' : (j : Int) < (n : Int) := by omega
      generalize hz : k + j = z at hc
      have HZ := Lib.hid hz
      have hz1 : z + 1 ≤ 1099511627776 := by omega
      have hq : ((z : Int) != (z : Int)) = false := by simp
      clear hz
      go_wp2
      go_round
      case rel => exact ⟨j + 1, by omega, by go_num, by have := HZ.out; congr 1; omega⟩
      case measure => simp [intOf]; omega
    · go_wp2
      go_ret
      have ej : j = n := by omega
      subst ej
      exact ⟨rfl, rfl⟩
end Go.Proofs.Ytagdclbpgkilgaa
