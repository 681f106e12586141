/- The interrupt controller's functions on leaves. Written by gen_irqapi.py. -/
import Derived.Test.YtamfapmkdojhcaaIrqNext
import Derived.Test.YtamfapmkdojhcaaIrqSpec
namespace Go.Proofs.Ytamfapmkdojhcaa
open Go.RowKit
theorem pendF_len (ls : List Int) (ps : List Bool) (n : Int) (x : Bool) : lenA [.I (pendF ls ps n x).1, .B (pendF ls ps n x).2.1] ≤ 4294967296 := by
  unfold pendF
  split
  · obtain ⟨h1, h2, -⟩ := okIrq_len (lineC_zero (by assumption)).1
    simp only [lenA, Lf.len, List.length_set]; omega
  · simp [lenA, Lf.len]
theorem levF_len (ls : List Int) (ps : List Bool) (n v : Int) : lenA [.I (levF ls ps n v).1, .B (levF ls ps n v).2.1] ≤ 4294967296 := by
  unfold levF
  split
  · obtain ⟨h1, h2, -⟩ := okIrq_len (lineC_zero (by assumption)).1
    split
    · simp only [lenA, Lf.len, List.length_set]; omega
    · simp [lenA, Lf.len]
  · simp [lenA, Lf.len]
section
variable (A0 A1 : Option Addr) (c0 c1 : Nat) (d0 : List Int) (d1 : List Bool)
set_option maxRecDepth 100000 in
theorem specIrqOKA (w : World) (h : RepA w [.slice A0 d0.length c0, .slice A1 d1.length c1] [.I d0, .B d1]) (_c : CapA [.slice A0 d0.length c0, .slice A1 d1.length c1]) (z : szA [.I d0, .B d1] ≤ 1048576) :
    Calls Try.prog 24 #[.agg #[.slice A0 d0.length c0, .slice A1 d1.length c1]] w fun e w' => e = .returned (.bool (okIrq d0 d1)) ∧ Below w.heap.size w w' := by
  simp only [szA, Lf.sz] at z
  exact specIrqOK A0 A1 _ _ c0 c1 d0 d1 w rfl rfl (by unfold maxLen; omega) (by unfold maxLen; omega) (repI h.1)
set_option maxRecDepth 100000 in
theorem specNextIrqA (a : Int) (w : World) (h : RepA w [.slice A0 d0.length c0, .slice A1 d1.length c1] [.I d0, .B d1]) (_c : CapA [.slice A0 d0.length c0, .slice A1 d1.length c1]) (z : szA [.I d0, .B d1] ≤ 1048576) :
    Calls Try.prog 13 #[.agg #[.slice A0 d0.length c0, .slice A1 d1.length c1], .int .i64 a] w fun e w' => e = .returned (.tuple #[.int .i64 (nxtF d0 d1 a).1, .int .i64 (nxtF d0 d1 a).2]) ∧ Below w.heap.size w w' := by
  simp only [szA, Lf.sz] at z
  exact specNextIrq A0 A1 _ _ c0 c1 d0 d1 w a rfl rfl (by unfold maxLen; omega) (by unfold maxLen; omega) (repI h.1) (repB h.2.1)
set_option maxRecDepth 100000 in
theorem specSetLevelA (n v : Int) (w : World) (h : RepA w [.slice A0 d0.length c0, .slice A1 d1.length c1] [.I d0, .B d1]) (_c : CapA [.slice A0 d0.length c0, .slice A1 d1.length c1]) (z : szA [.I d0, .B d1] ≤ 1048576) :
    Calls Try.prog 26 #[.agg #[.slice A0 d0.length c0, .slice A1 d1.length c1], .int .i64 n, .int .i64 v] w (fun e w' => ∃ rA0 rA1 rc0 rc1, e = .returned (.tuple #[.agg #[.slice rA0 (levF d0 d1 n v).1.length rc0, .slice rA1 (levF d0 d1 n v).2.1.length rc1], .int .i64 (levF d0 d1 n v).2.2]) ∧ Hid (OwnA w' w.heap.size w'.heap.size [.slice rA0 (levF d0 d1 n v).1.length rc0, .slice rA1 (levF d0 d1 n v).2.1.length rc1] [.I (levF d0 d1 n v).1, .B (levF d0 d1 n v).2.1]) ∧ Below w.heap.size w w') := by
  simp only [szA, Lf.sz] at z
  exact specSetLevel A0 A1 _ _ c0 c1 d0 d1 w n v rfl rfl (by unfold maxLen; omega) (by unfold maxLen; omega) (repI h.1) (repB h.2.1)
set_option maxRecDepth 100000 in
theorem specRaiseA (n : Int) (w : World) (h : RepA w [.slice A0 d0.length c0, .slice A1 d1.length c1] [.I d0, .B d1]) (_c : CapA [.slice A0 d0.length c0, .slice A1 d1.length c1]) (z : szA [.I d0, .B d1] ≤ 1048576) :
    Calls Try.prog 27 #[.agg #[.slice A0 d0.length c0, .slice A1 d1.length c1], .int .i64 n] w (fun e w' => ∃ rA0 rA1 rc0 rc1, e = .returned (.tuple #[.agg #[.slice rA0 (pendF d0 d1 n true).1.length rc0, .slice rA1 (pendF d0 d1 n true).2.1.length rc1], .int .i64 (pendF d0 d1 n true).2.2]) ∧ Hid (OwnA w' w.heap.size w'.heap.size [.slice rA0 (pendF d0 d1 n true).1.length rc0, .slice rA1 (pendF d0 d1 n true).2.1.length rc1] [.I (pendF d0 d1 n true).1, .B (pendF d0 d1 n true).2.1]) ∧ Below w.heap.size w w') := by
  simp only [szA, Lf.sz] at z
  exact specRaise A0 A1 _ _ c0 c1 d0 d1 w n rfl rfl (by unfold maxLen; omega) (by unfold maxLen; omega) (repI h.1) (repB h.2.1)
set_option maxRecDepth 100000 in
theorem specAckA (n : Int) (w : World) (h : RepA w [.slice A0 d0.length c0, .slice A1 d1.length c1] [.I d0, .B d1]) (_c : CapA [.slice A0 d0.length c0, .slice A1 d1.length c1]) (z : szA [.I d0, .B d1] ≤ 1048576) :
    Calls Try.prog 28 #[.agg #[.slice A0 d0.length c0, .slice A1 d1.length c1], .int .i64 n] w (fun e w' => ∃ rA0 rA1 rc0 rc1, e = .returned (.tuple #[.agg #[.slice rA0 (pendF d0 d1 n false).1.length rc0, .slice rA1 (pendF d0 d1 n false).2.1.length rc1], .int .i64 (pendF d0 d1 n false).2.2]) ∧ Hid (OwnA w' w.heap.size w'.heap.size [.slice rA0 (pendF d0 d1 n false).1.length rc0, .slice rA1 (pendF d0 d1 n false).2.1.length rc1] [.I (pendF d0 d1 n false).1, .B (pendF d0 d1 n false).2.1]) ∧ Below w.heap.size w w') := by
  simp only [szA, Lf.sz] at z
  exact specAck A0 A1 _ _ c0 c1 d0 d1 w n rfl rfl (by unfold maxLen; omega) (by unfold maxLen; omega) (repI h.1) (repB h.2.1)
set_option maxRecDepth 100000 in
theorem implIrqOKA (w : World) (h : RepA w [.slice A0 d0.length c0, .slice A1 d1.length c1] [.I d0, .B d1]) (_c : CapA [.slice A0 d0.length c0, .slice A1 d1.length c1]) (z : szA [.I d0, .B d1] ≤ 1048576) :
    Calls Try.prog 17 #[.agg #[.slice A0 d0.length c0, .slice A1 d1.length c1]] w fun e w' => e = .returned (.bool (okIrq d0 d1)) ∧ Below w.heap.size w w' := by
  simp only [szA, Lf.sz] at z
  exact implIrqOK A0 A1 _ _ c0 c1 d0 d1 w rfl rfl (by unfold maxLen; omega) (by unfold maxLen; omega) (repI h.1)
set_option maxRecDepth 100000 in
theorem implNextIrqA (a : Int) (w : World) (h : RepA w [.slice A0 d0.length c0, .slice A1 d1.length c1] [.I d0, .B d1]) (_c : CapA [.slice A0 d0.length c0, .slice A1 d1.length c1]) (z : szA [.I d0, .B d1] ≤ 1048576) :
    Calls Try.prog 12 #[.agg #[.slice A0 d0.length c0, .slice A1 d1.length c1], .int .i64 a] w fun e w' => e = .returned (.tuple #[.int .i64 (nxtF d0 d1 a).1, .int .i64 (nxtF d0 d1 a).2]) ∧ Below w.heap.size w w' := by
  simp only [szA, Lf.sz] at z
  exact implNextIrq A0 A1 _ _ c0 c1 d0 d1 w a rfl rfl (by unfold maxLen; omega) (by unfold maxLen; omega) (repI h.1) (repB h.2.1)
set_option maxRecDepth 100000 in
theorem implSetLevelA (n v : Int) (w : World) (h : RepA w [.slice A0 d0.length c0, .slice A1 d1.length c1] [.I d0, .B d1]) (_c : CapA [.slice A0 d0.length c0, .slice A1 d1.length c1]) (z : szA [.I d0, .B d1] ≤ 1048576) :
    Calls Try.prog 15 #[.agg #[.slice A0 d0.length c0, .slice A1 d1.length c1], .int .i64 n, .int .i64 v] w (fun e w' => ∃ rA0 rA1 rc0 rc1, e = .returned (.tuple #[.agg #[.slice rA0 (levF d0 d1 n v).1.length rc0, .slice rA1 (levF d0 d1 n v).2.1.length rc1], .int .i64 (levF d0 d1 n v).2.2]) ∧ Hid (OwnA w' w.heap.size w'.heap.size [.slice rA0 (levF d0 d1 n v).1.length rc0, .slice rA1 (levF d0 d1 n v).2.1.length rc1] [.I (levF d0 d1 n v).1, .B (levF d0 d1 n v).2.1]) ∧ Below w.heap.size w w') := by
  simp only [szA, Lf.sz] at z
  exact implSetLevel A0 A1 _ _ c0 c1 d0 d1 w n v rfl rfl (by unfold maxLen; omega) (by unfold maxLen; omega) (repI h.1) (repB h.2.1)
set_option maxRecDepth 100000 in
theorem implRaiseA (n : Int) (w : World) (h : RepA w [.slice A0 d0.length c0, .slice A1 d1.length c1] [.I d0, .B d1]) (_c : CapA [.slice A0 d0.length c0, .slice A1 d1.length c1]) (z : szA [.I d0, .B d1] ≤ 1048576) :
    Calls Try.prog 14 #[.agg #[.slice A0 d0.length c0, .slice A1 d1.length c1], .int .i64 n] w (fun e w' => ∃ rA0 rA1 rc0 rc1, e = .returned (.tuple #[.agg #[.slice rA0 (pendF d0 d1 n true).1.length rc0, .slice rA1 (pendF d0 d1 n true).2.1.length rc1], .int .i64 (pendF d0 d1 n true).2.2]) ∧ Hid (OwnA w' w.heap.size w'.heap.size [.slice rA0 (pendF d0 d1 n true).1.length rc0, .slice rA1 (pendF d0 d1 n true).2.1.length rc1] [.I (pendF d0 d1 n true).1, .B (pendF d0 d1 n true).2.1]) ∧ Below w.heap.size w w') := by
  simp only [szA, Lf.sz] at z
  exact implRaise A0 A1 _ _ c0 c1 d0 d1 w n rfl rfl (by unfold maxLen; omega) (by unfold maxLen; omega) (repI h.1) (repB h.2.1)
set_option maxRecDepth 100000 in
theorem implAckA (n : Int) (w : World) (h : RepA w [.slice A0 d0.length c0, .slice A1 d1.length c1] [.I d0, .B d1]) (_c : CapA [.slice A0 d0.length c0, .slice A1 d1.length c1]) (z : szA [.I d0, .B d1] ≤ 1048576) :
    Calls Try.prog 16 #[.agg #[.slice A0 d0.length c0, .slice A1 d1.length c1], .int .i64 n] w (fun e w' => ∃ rA0 rA1 rc0 rc1, e = .returned (.tuple #[.agg #[.slice rA0 (pendF d0 d1 n false).1.length rc0, .slice rA1 (pendF d0 d1 n false).2.1.length rc1], .int .i64 (pendF d0 d1 n false).2.2]) ∧ Hid (OwnA w' w.heap.size w'.heap.size [.slice rA0 (pendF d0 d1 n false).1.length rc0, .slice rA1 (pendF d0 d1 n false).2.1.length rc1] [.I (pendF d0 d1 n false).1, .B (pendF d0 d1 n false).2.1]) ∧ Below w.heap.size w w') := by
  simp only [szA, Lf.sz] at z
  exact implAck A0 A1 _ _ c0 c1 d0 d1 w n rfl rfl (by unfold maxLen; omega) (by unfold maxLen; omega) (repI h.1) (repB h.2.1)
end
set_option maxRecDepth 100000 in
theorem implNewIrqA (w : World) : Calls Try.prog 18 #[] w (fun e w' => ∃ rA0 rA1 rc0 rc1, e = .returned (.agg #[.slice rA0 zL.length rc0, .slice rA1 zP.length rc1]) ∧ Hid (OwnA w' w.heap.size w'.heap.size [.slice rA0 zL.length rc0, .slice rA1 zP.length rc1] [.I zL, .B zP]) ∧ Below w.heap.size w w') := implNewIrq w
set_option maxRecDepth 100000 in
theorem specNewIrqA (w : World) : Calls Try.prog 19 #[] w (fun e w' => ∃ rA0 rA1 rc0 rc1, e = .returned (.agg #[.slice rA0 zL.length rc0, .slice rA1 zP.length rc1]) ∧ Hid (OwnA w' w.heap.size w'.heap.size [.slice rA0 zL.length rc0, .slice rA1 zP.length rc1] [.I zL, .B zP]) ∧ Below w.heap.size w w') := (specNewIrq w).mono fun _ _ h => h.irq rfl rfl
end Go.Proofs.Ytamfapmkdojhcaa
