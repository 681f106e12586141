/- Channels as data: what is valid, what is set, what a byte moved leaves. Nothing here walks. -/
import Derived.Test.YtngoijchebfolaaGenRChannel
namespace Go.Proofs.Ytngoijchebfolaa
open Go.RowKit

def upB (n : Int) : Bool := decide (0 ≤ n ∧ n ≤ 1)
def adC (n : Int) : Bool := decide (0 ≤ n ∧ n ≤ 4095)
def byC (n : Int) : Bool := decide (0 ≤ n ∧ n ≤ 255)
theorem adC_range {n : Int} (h : adC n = true) : 0 ≤ n ∧ n ≤ 4095 := by simpa [adC] using h
theorem byC_range {n : Int} (h : byC n = true) : 0 ≤ n ∧ n ≤ 255 := by simpa [byC] using h
def chB (x : TChannel) : Bool := adC x.1 && (adC x.2.1 && (byC x.2.2.1 && upB x.2.2.2))
def dmaB (rs : List TChannel) : Bool := decide (rs.length = 4) && rs.all chB
def chanB (i : Int) : Bool := decide (0 ≤ i ∧ i ≤ 3)
theorem upB_range {n : Int} (h : upB n = true) : 0 ≤ n ∧ n ≤ 1 := by simpa [upB] using h
theorem chanB_range {n : Int} (h : chanB n = true) : 0 ≤ n ∧ n ≤ 3 := by simpa [chanB] using h
theorem chB_range {x : TChannel} (h : chB x = true) : (0 ≤ x.1 ∧ x.1 ≤ 4095) ∧ (0 ≤ x.2.1 ∧ x.2.1 ≤ 4095) ∧ (0 ≤ x.2.2.1 ∧ x.2.2.1 ≤ 255) ∧ (0 ≤ x.2.2.2 ∧ x.2.2.2 ≤ 1) := by
  unfold chB at h
  simp only [Bool.and_eq_true] at h
  exact ⟨adC_range h.1, adC_range h.2.1, byC_range h.2.2.1, upB_range h.2.2.2⟩
theorem dmaB_len {rs : List TChannel} (h : dmaB rs = true) : rs.length = 4 ∧ rs.all chB = true := by
  unfold dmaB at h
  simpa using h
theorem dmaB_no {rs : List TChannel} (h : rs.length ≠ 4) : dmaB rs = false := by unfold dmaB; simp [h]
theorem dmaB_yes {rs : List TChannel} (h : rs.length = 4) : dmaB rs = rs.all chB := by unfold dmaB; simp [h]
theorem dmaB_at {rs : List TChannel} (h : dmaB rs = true) (i : Nat) (hi : i < 4) : chB (rs.getD i zChannel) = true := by
  obtain ⟨hl, ha⟩ := dmaB_len h
  rw [List.getD_eq_getElem?_getD, List.getElem?_eq_getElem (by omega)]
  exact List.all_eq_true.1 ha _ (List.getElem_mem _)
/-- The code of a list and a number; of a channel too. -/
def chanC (rs : List TChannel) (i : Int) : Int := if 4096 < rs.length then 2 else if dmaB rs = true then (if chanB i = true then 0 else 4) else 1
def setCode (rs : List TChannel) (i : Int) (c : TChannel) : Int := if 4096 < rs.length then 2 else if dmaB rs = true then (if (chanB i && chB c) = true then 0 else 4) else 1
def setRs (rs : List TChannel) (i : Int) (c : TChannel) : List TChannel := if setCode rs i c = 0 then rs.set i.toNat c else []
theorem setCode0 {rs : List TChannel} {i : Int} {c : TChannel} (h : setCode rs i c = 0) : dmaB rs = true ∧ chanB i = true ∧ chB c = true := by
  unfold setCode at h
  by_cases h1 : 4096 < rs.length
  · rw [if_pos h1] at h; omega
  · rw [if_neg h1] at h
    by_cases h2 : dmaB rs = true
    · rw [if_pos h2] at h
      by_cases h3 : (chanB i && chB c) = true
      · rw [Bool.and_eq_true] at h3; exact ⟨h2, h3⟩
      · rw [if_neg h3] at h; omega
    · rw [if_neg h2] at h; omega
theorem setCode_ge (rs : List TChannel) (i : Int) (c : TChannel) : 0 ≤ setCode rs i c := by unfold setCode; split <;> (try split) <;> (try split) <;> omega
theorem setRs_len (rs : List TChannel) (i : Int) (c : TChannel) : (setRs rs i c).length ≤ rs.length := by unfold setRs; split <;> simp
theorem set_getD (rs : List TChannel) (i : Nat) (h : i < rs.length) : rs.set i (rs.getD i zChannel) = rs := by
  rw [List.getD_eq_getElem?_getD, List.getElem?_eq_getElem h]
  exact List.set_getElem_self h
end Go.Proofs.Ytngoijchebfolaa
