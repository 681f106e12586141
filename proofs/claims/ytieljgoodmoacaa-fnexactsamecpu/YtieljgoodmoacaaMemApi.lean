/- SameMem on both sides; the memory bus's functions on leaves. Written by a script (gen_memapi.py). -/
import Derived.Test.YtieljgoodmoacaaMemOwn
import Derived.Test.YtieljgoodmoacaaSameFlashA
namespace Go.Proofs.Ytieljgoodmoacaa
open Go.RowKit

set_option maxRecDepth 100000 in
set_option maxHeartbeats 1000000 in
theorem l05Ints (A A' : Option Addr) (n n' c c' : Nat) (ss ss' : List Int) (w : World) (hl : ss.length = n) (hl' : ss'.length = n') (hn : n ≤ maxLen) (hn' : n' ≤ maxLen)
    (h : IntL w A ss) (h' : IntL w A' ss') :
    Calls Try.prog 55 #[.slice A n c, .slice A' n' c'] w fun e w' => e = .returned (.bool (decide (ss = ss'))) ∧ Below w.heap.size w w' := by
  unfold maxLen at hn hn'
  have HL := Lib.hid hl
  have HL' := Lib.hid hl'
  have H := Lib.hid h
  have H' := Lib.hid h'
  clear hl hl' h h'
  by_cases hne : n = n'
  · subst hne
    have hb : ((n : Int) != (n : Int)) = false := by simp
    go_enter Try.func55, Try.ntmps55
    go_wp2
    go_loopw [5] (fun i wr => ∃ k : Nat, k ≤ n ∧ i = .int .i64 k ∧ Hid (ss.take k = ss'.take k) ∧ Below w.heap.size w wr) (fun i _ => n - (intOf i).toNat)
    case atStart => exact ⟨0, Nat.zero_le _, rfl, Lib.hid rfl, Below.refl _ _⟩
    case round =>
      obtain ⟨k, hk, rfl, HT, hbw⟩ := hrel
      by_cases hlt : k < n
      · obtain ⟨b, off, rfl, hc⟩ := (H.out.below hbw) k (by rw [HL.out]; exact hlt)
        obtain ⟨b', off', rfl, hc'⟩ := (H'.out.below hbw) k (by rw [HL'.out]; exact hlt)
        have HN := Lib.hid (fun e => take_next 0 HT.out (by rw [HL.out]; exact hlt) (by rw [HL'.out]; exact hlt) e)
        have HX := Lib.hid (fun e => ne_of_at (l := ss) (m := ss') (k := k) 0 e)
        generalize ss.getD k 0 = x at hc HN HX
        generalize ss'.getD k 0 = y at hc' HN HX
        have hi : (k : Int) < (n : Int) := by omega
        by_cases hE : x = y
        · have hq1 : (x == y) = true := by simp [hE]
          have hq2 : (x != y) = false := by simp [hE]
          have HE := Lib.hid hE
          clear hE
          go_wp2
          go_quiet (fail)
          go_wp2
          go_roundw
          case rel => exact ⟨k + 1, by omega, by go_num, Lib.hid (HN.out HE.out), below_drewN hbw _⟩
          case measure => simp [intOf]; omega
        · have hq1 : (x == y) = false := by simp [hE]
          have hq2 : (x != y) = true := by simp [hE]
          have HE := Lib.hid hE
          clear hE
          go_wp2
          go_quiet (fail)
          go_wp2
          go_ret
          exact ⟨ret_bool (by simp [HX.out HE.out]), below_drewN hbw _⟩
      · go_wp2
        go_ret
        exact ⟨ret_bool (by simp [take_all HT.out (by rw [HL.out]; omega) (by rw [HL'.out]; omega)]), hbw⟩
  · have hb : ((n : Int) != (n' : Int)) = true := by simp; omega
    have HF : Hid (decide (ss = ss') = false) := Lib.hid (by simp; intro e; apply hne; rw [← HL.out, ← HL'.out, e])
    clear hne
    go_enter Try.func55, Try.ntmps55
    go_wp2
    go_ret
    exact ⟨ret_bool HF.out.symm, Below.refl _ _⟩


def sameMm (d0 d1 d2 : List Int) (d3 : List Bool) (d4 : Int) (g0 g1 g2 : List Int) (g3 : List Bool) (g4 : Int) : Bool := decide (d0 = g0) && (decide (d1 = g1) && sameFl d2 g2 d3 g3 d4 g4)
section
variable (A0 A1 A2 A3 : Option Addr) (n0 n1 n2 n3 c0 c1 c2 c3 : Nat) (d0 d1 d2 : List Int) (d3 : List Bool) (d4 : Int) (B0 B1 B2 B3 : Option Addr) (m0 m1 m2 m3 e0 e1 e2 e3 : Nat) (g0 g1 g2 : List Int) (g3 : List Bool) (g4 : Int) (w : World)
end

theorem putF_bnd (d0 d1 d2 : List Int) (d3 : List Bool) (d4 a v : Int) (h : szA [.I d0, .I d1, .I d2, .B d3] ≤ 1048576) : lenA [.I (putF d0 d1 d2 d3 d4 a v).1, .I (putF d0 d1 d2 d3 d4 a v).2.1, .I (putF d0 d1 d2 d3 d4 a v).2.2.1, .B (putF d0 d1 d2 d3 d4 a v).2.2.2.1] ≤ 4294967296 := by
  have q := Nat.le_trans (szA_len _) h
  simp only [lenA, Lf.len] at q ⊢
  unfold putF
  split
  · simp only [putR_len, putI_len, putZ_len, putG_len]; omega
  · simp
section
variable (A0 A1 A2 A3 : Option Addr) (c0 c1 c2 c3 : Nat) (d0 d1 d2 : List Int) (d3 : List Bool) (d4 : Int) (w : World)
set_option maxRecDepth 100000 in
theorem specMemOKA (h : RepA w [.slice A0 d0.length c0, .slice A1 d1.length c1, .slice A2 d2.length c2, .slice A3 d3.length c3] [.I d0, .I d1, .I d2, .B d3]) (_c : CapA [.slice A0 d0.length c0, .slice A1 d1.length c1, .slice A2 d2.length c2, .slice A3 d3.length c3]) (z : szA [.I d0, .I d1, .I d2, .B d3] ≤ 1048576) :
    Calls Try.prog 41 #[.agg #[.slice A0 d0.length c0, .slice A1 d1.length c1, .slice A2 d2.length c2, .slice A3 d3.length c3, .int .i64 d4]] w fun e w' => e = .returned (.bool (okMem d0 d1 d2 d3 d4)) ∧ Below w.heap.size w w' := by
  simp only [szA, Lf.sz] at z
  exact specMemOK A0 A1 A2 A3 _ _ _ _ c0 c1 c2 c3 d0 d1 d2 d3 d4 w rfl rfl rfl rfl (by unfold maxLen; omega) (by unfold maxLen; omega) (by unfold maxLen; omega) (by unfold maxLen; omega) (repI h.1) (repI h.2.1) (repI h.2.2.1)
end
section
variable (A0 A1 A2 A3 : Option Addr) (c0 c1 c2 c3 : Nat) (d0 d1 d2 : List Int) (d3 : List Bool) (d4 : Int) (a : Int) (w : World)
end
section
variable (A0 A1 A2 A3 : Option Addr) (c0 c1 c2 c3 : Nat) (d0 d1 d2 : List Int) (d3 : List Bool) (d4 : Int) (a v : Int) (w : World)
end
section
variable (A0 A1 A2 A3 : Option Addr) (c0 c1 c2 c3 : Nat) (d0 d1 d2 : List Int) (d3 : List Bool) (d4 : Int) (B0 B1 B2 B3 : Option Addr) (e0 e1 e2 e3 : Nat) (g0 g1 g2 : List Int) (g3 : List Bool) (g4 : Int) (w : World)
end
end Go.Proofs.Ytieljgoodmoacaa
