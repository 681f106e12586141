/- Contracts of toIntS, eqIntS, markIntS. -/
import Derived.Test.YtngoijchebfolaaEqDisk
import Derived.Test.YtngoijchebfolaaOwn
import Derived.Test.YtngoijchebfolaaToDisk
namespace Go.Proofs.Ytngoijchebfolaa
open Go.RowKit

set_option maxRecDepth 100000 in
theorem infoI : (Try.prog.info? 3).map (fun i => (i.zero, i.size, i.bytes)) = some (some (.int .i64 0), 1, 8) := by kernel_rfl

/-- The call hands back a []int of its own, and its capacity is no less than its length. -/
def GivesIntsC (zs : List Int) (w : World) (e : Ending) (w' : World) : Prop :=
  ∃ A n c, e = .returned (.slice A n c) ∧ Hid (zs.length = n) ∧ Hid (OwnI w' w.heap.size w'.heap.size A zs) ∧ n ≤ c ∧ Below w.heap.size w w'
/-- The call hands back a []int of its own. -/
def GivesInts (zs : List Int) (w : World) (e : Ending) (w' : World) : Prop :=
  ∃ A n c, e = .returned (.slice A n c) ∧ Hid (zs.length = n) ∧ Hid (OwnI w' w.heap.size w'.heap.size A zs) ∧ Below w.heap.size w w'

set_option maxRecDepth 100000 in
set_option maxHeartbeats 1000000 in
theorem toIntSc (A : Option Addr) (n c : Nat) (zs : List Int) (w : World) (hl : zs.length = n) (hn : n ≤ 1048576) (h : IntL w A zs) :
    Calls Try.prog 61 #[.slice A n c] w (GivesIntsC zs w) := by
  have HL := Lib.hid hl
  have H := Lib.hid h
  clear hl h
  have hmk := fun W => run_make_row' (P := Try.prog) 23 3 (.int .i64 0) 8 Try.underlying23 infoI rfl .i64 .i64 n (by omega) (by omega) W
  go_enter Try.func61, Try.ntmps61
  go_wp2
  clear hmk
  have hrow := World.rowIs_made w (.int .i64 0) n 3
  have hbel : Below w.heap.size w (w.alloc (.cells (madeCells #[.int .i64 0] n) 3)) := (Below.refl _ _).alloc (Nat.le_refl _) _
  have HR := Lib.hid hrow
  clear hrow
  generalize w.alloc (.cells (madeCells #[.int .i64 0] n) 3) = wa at hbel HR ⊢
  go_loopw [4] (fun i wr => ∃ k : Nat, k ≤ n ∧ i = .int .i64 k ∧ Below w.heap.size w wr ∧ wr.rowIs w.heap.size 3 n (fun j => if j < k then .int .i64 (zs.getD j 0) else .int .i64 0)) (fun i _ => n - (intOf i).toNat)
  case atStart => exact ⟨0, Nat.zero_le _, rfl, hbel, HR.out.congr (fun i _ => by simp)⟩
  case round =>
    obtain ⟨k, hk, rfl, hbw, hrw⟩ := hrel
    by_cases hlt : k < n
    · obtain ⟨b, off, rfl, hc⟩ := (H.out.below hbw) k (by rw [HL.out]; exact hlt)
      have hcd := hrw.cell hlt
      have hfr := hrw.frozen k
      have HW := Lib.hid (hrw.set k (.int .i64 (zs.getD k 0)))
      simp only [Nat.lt_irrefl, if_false] at hcd
      clear hrw
      generalize hx : zs.getD k 0 = x at hc HW
      have HX := Lib.hid hx
      clear hx
      have hi : (k : Int) < (n : Int) := by omega
      go_wp2
      go_roundw
      case rel =>
        refine ⟨k + 1, by omega, by go_num, hbw.setCell (Nat.le_refl _) _, HW.out.congr (fun i _ => ?_)⟩
        show (if i = k then Value.int .i64 x else if i < k then _ else _) = _
        by_cases e : i = k
        · subst e; rw [if_pos rfl, if_pos (by omega), HX.out]
        · rw [if_neg e]
          by_cases e2 : i < k
          · rw [if_pos e2, if_pos (by omega)]
          · rw [if_neg e2, if_neg (by omega)]
      case measure => simp [intOf]; omega
    · have HRW := Lib.hid hrw
      clear hrw
      go_wp2
      go_ret
      have ek : k = n := by omega
      subst ek
      exact ⟨_, _, _, rfl, HL, Lib.hid (.inr ⟨w.heap.size, k, _, rfl, Nat.le_refl _, HRW.out.lt, by rw [HL.out]; omega, HRW.out, fun i hi => by rw [if_pos (by rw [HL.out] at hi; exact hi)]⟩), Nat.le_refl _, hbw⟩
set_option maxRecDepth 100000 in
theorem toIntS (A : Option Addr) (n c : Nat) (zs : List Int) (w : World) (hl : zs.length = n) (hn : n ≤ 1048576) (h : IntL w A zs) :
    Calls Try.prog 61 #[.slice A n c] w (GivesInts zs w) :=
  (toIntSc A n c zs w hl hn h).mono fun _ _ ⟨A, n, c, h1, h2, h3, _, h5⟩ => ⟨A, n, c, h1, h2, h3, h5⟩

set_option maxRecDepth 100000 in
set_option maxHeartbeats 1000000 in
theorem eqIntSame (A A' : Option Addr) (n n' c c' : Nat) (zs : List Int) (w : World) (hl : zs.length = n) (hl' : zs.length = n') (hn : n ≤ maxLen) (h : IntL w A zs) (h' : IntL w A' zs) :
    Calls Try.prog 69 #[.slice A n c, .slice A' n' c'] w fun e w' => e = .returned (.bool true) ∧ Below w.heap.size w w' := by
  unfold maxLen at hn
  have HL := Lib.hid hl
  obtain rfl : n = n' := by omega
  have H := Lib.hid h
  have H' := Lib.hid h'
  clear hl hl' h h'
  have hb : ((n : Int) != (n : Int)) = false := by simp
  go_enter Try.func69, Try.ntmps69
  go_wp2
  go_loopw [5] (fun i wr => ∃ k : Nat, k ≤ n ∧ i = .int .i64 k ∧ Below w.heap.size w wr) (fun i _ => n - (intOf i).toNat)
  case atStart => exact ⟨0, Nat.zero_le _, rfl, Below.refl _ _⟩
  case round =>
    obtain ⟨k, hk, rfl, hbw⟩ := hrel
    by_cases hlt : k < n
    · obtain ⟨b, off, rfl, hc⟩ := (H.out.below hbw) k (by rw [HL.out]; exact hlt)
      obtain ⟨b', off', rfl, hc'⟩ := (H'.out.below hbw) k (by rw [HL.out]; exact hlt)
      generalize zs.getD k 0 = x at hc hc'
      have hi : (k : Int) < (n : Int) := by omega
      have hq1 : (x != x) = false := by simp
      have hq2 : (x == x) = true := by simp
      go_wp2
      go_quiet (fail)
      go_wp2
      go_roundw
      case rel => exact ⟨k + 1, by omega, by go_num, below_drewN hbw _⟩
      case measure => simp [intOf]; omega
    · go_wp2
      go_ret
      exact ⟨rfl, hbw⟩

def MarkedI (lo hi k n : Nat) (w : World) (e : Ending) (w' : World) : Prop := e = .returned (.int .i64 ((k + n : Nat) : Int)) ∧ Btw lo hi w w'

set_option maxRecDepth 100000 in
set_option maxHeartbeats 2000000 in
theorem markIntS (A : Option Addr) (n c k lo hi : Nat) (zs : List Int) (w : World) (hl : zs.length = n) (hk : 1 ≤ k) (hn : n ≤ 1099511627776) (hk2 : k + n ≤ 1099511627776) (h : OwnI w lo hi A zs) :
    Calls Try.prog 71 #[.slice A n c, .int .i64 k] w (MarkedI lo hi k n w) := by
  rcases h with rfl | ⟨b, m, f, rfl, h1, h2, hm, hr, hf⟩
  · obtain rfl : n = 0 := hl.symm
    go_enter Try.func71, Try.ntmps71
    go_wp2
    go_loop [5, 1] (fun i kk => i = .int .i64 0 ∧ kk = .int .i64 k) (fun _ _ => 0)
    case atStart => exact ⟨rfl, rfl⟩
    case round =>
      obtain ⟨rfl, rfl⟩ := hrel
      go_wp2
      go_ret
      exact ⟨rfl, Btw.refl _ _ _⟩
  · have HM : Hid (n ≤ m) := Lib.hid (by omega)
    have HR := Lib.hid hr
    clear hl hm hr hf
    go_enter Try.func71, Try.ntmps71
    go_wp2
    go_loopw [5, 1] (fun i kk wr => ∃ j : Nat, j ≤ n ∧ i = .int .i64 j ∧ kk = .int .i64 ((k + j : Nat) : Int) ∧ Btw lo hi w wr ∧ Hid (∃ f, wr.rowIs b 3 m f)) (fun i _ _ => n - (intOf i).toNat)
    case atStart => exact ⟨0, Nat.zero_le _, rfl, rfl, Btw.refl _ _ _, Lib.hid ⟨_, HR.out⟩⟩
    case round =>
      obtain ⟨j, hj, rfl, rfl, hbw, HW⟩ := hrel
      by_cases hlt : j < n
      · have hi' : (j : Int) < (n : Int) := by omega
        obtain ⟨f', hf'⟩ := HW.out
        have hc := hf'.cell (i := j) (by have := HM.out; omega)
        have hfz := hf'.frozen j
        generalize hz : k + j = z
        have HZ := Lib.hid hz
        have hz1 : z + 1 ≤ 1099511627776 := by omega
        have HS : Hid (∃ f, (wr.setCell ⟨b, j, none⟩ (.int .i64 (z : Int))).rowIs b 3 m f) := Lib.hid ⟨_, hf'.set j _⟩
        clear hf' HW hz
        generalize f' j = y at hc
        go_wp2
        go_roundw
        case rel => exact ⟨j + 1, by omega, by go_num, by have := HZ.out; congr 1; omega, hbw.setCell h1 h2 _, HS⟩
        case measure => simp [intOf]; omega
      · go_wp2
        go_ret
        have ej : j = n := by omega
        subst ej
        exact ⟨rfl, hbw⟩
end Go.Proofs.Ytngoijchebfolaa
