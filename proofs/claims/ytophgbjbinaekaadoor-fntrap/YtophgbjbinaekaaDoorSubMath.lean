/- A call and its return, a trap: what the three steps and the one step leave, by reckoning. -/
import Derived.Test.YtophgbjbinaekaaDoorM10
import Derived.Test.YtophgbjbinaekaaDoorM5
import Derived.Test.YtophgbjbinaekaaDoorCpuOk
import Derived.Test.YtophgbjbinaekaaDoorNewMem
namespace Go.Proofs.YtophgbjbinaekaaDoor
open Go.RowKit

def newCD : CD := ⟨512, 255, 0, 0, false, false, false, false, zRegs⟩
def newMD (p : List Int) : MD := ⟨zR, zI, progZ p p.length, zG, 0⟩
def trapEnd (k : Nat) : Bool :=
  let m0 := newMD [176 + (k : Int)]; let d1 := stepD newCD m0; let m1 := stepM newCD m0
  decide (d1.pc = 752) && (decide (d1.sp = 253) && (decide (stepN newCD m0 = 12) && (decide (stepS newCD m0 = -1) && (decide (m1.get 254 = 1) && decide (m1.get 255 = 2)))))
theorem trap_all : ((List.range 80).all fun k => trapEnd k) = true := by decide +kernel
theorem trap_end {k : Nat} (hk : k < 80) : trapEnd k = true := List.all_eq_true.1 trap_all k (List.mem_range.2 hk)
theorem newCD_ok : newCD.Ok := CD.ok_iff.1 (by decide +kernel)
theorem zR_b : ∀ z ∈ zR, 0 ≤ z ∧ z ≤ 255 := fun z hz => by obtain rfl := List.eq_of_mem_replicate hz; omega
theorem zI_b : ∀ z ∈ zI, 0 ≤ z ∧ z ≤ 255 := fun z hz => by obtain rfl := List.eq_of_mem_replicate hz; omega
theorem progZ_b {p : List Int} (h : ∀ z ∈ p, 0 ≤ z ∧ z ≤ 255) : ∀ z ∈ progZ p p.length, 0 ≤ z ∧ z ≤ 255 := fun z hz => by
  unfold progZ at hz
  obtain ⟨i, _, rfl⟩ := List.mem_map.1 hz
  split
  · next hi =>
    rw [List.getD_eq_getElem?_getD, List.getElem?_eq_getElem hi]
    exact h _ (List.getElem_mem _)
  · omega
theorem newMD_ok {p : List Int} (h : ∀ z ∈ p, 0 ≤ z ∧ z ≤ 255) : (newMD p).Ok := ⟨List.length_replicate, List.length_replicate, progZ_len _ _, List.length_replicate, by show (0 : Int) ≤ 0 ∧ (0 : Int) ≤ 8; omega, zR_b, zI_b, progZ_b h⟩
theorem newF_ok {p : List Int} (h : ∀ z ∈ p, 0 ≤ z ∧ z ≤ 255) (hl : p.length ≤ 256) : newF p = (zR, zI, progZ p p.length, zG, 0, 0) := by
  have : newCode p = 0 := by
    unfold newCode
    rw [if_neg (by omega), if_neg (by omega), if_pos (List.all_eq_true.2 fun z hz => byB_iff.2 (h z hz))]
  unfold newF; rw [if_pos this]

end Go.Proofs.YtophgbjbinaekaaDoor
