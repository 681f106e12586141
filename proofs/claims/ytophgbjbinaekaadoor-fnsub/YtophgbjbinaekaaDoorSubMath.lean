/- A call and its return, a trap: what the three steps and the one step leave, by reckoning. -/
import Derived.Test.YtophgbjbinaekaaDoorM10
import Derived.Test.YtophgbjbinaekaaDoorM5
import Derived.Test.YtophgbjbinaekaaDoorCpuOk
import Derived.Test.YtophgbjbinaekaaDoorNewMem
namespace Go.Proofs.YtophgbjbinaekaaDoor
open Go.RowKit

def newCD : CD := ⟨512, 255, 0, 0, false, false, false, false, zRegs⟩
def newMD (p : List Int) : MD := ⟨zR, zI, progZ p p.length, zG, 0⟩
def subZ (k c : Nat) : List Int := ((progZ [144, (k : Int), 2] 3).set k (64 + c)).set (k + 1) 152
def subMD (k c : Nat) : MD := ⟨zR, zI, subZ k c, zG, 0⟩
def subEnd (k c : Nat) : Bool :=
  let m0 := subMD k c; let d1 := stepD newCD m0; let m1 := stepM newCD m0; let d2 := stepD d1 m1; let m2 := stepM d1 m1; let d3 := stepD d2 m2
  decide (d3.pc = 515) && (decide (d3.sp = 255) && decide (d3.regs.getD (4 * d3.bank + c).toNat 0 = 1))
def subRow (a : Nat) : Bool := (List.range 10).all fun k => (List.range 4).all fun c => subEnd (10 + (10 * a + k)) c
theorem sub_row0 : subRow 0 = true := by decide +kernel
theorem sub_row1 : subRow 1 = true := by decide +kernel
theorem sub_row2 : subRow 2 = true := by decide +kernel
theorem sub_row3 : subRow 3 = true := by decide +kernel
theorem sub_row4 : subRow 4 = true := by decide +kernel
theorem sub_row5 : subRow 5 = true := by decide +kernel
theorem sub_row6 : subRow 6 = true := by decide +kernel
theorem sub_row7 : subRow 7 = true := by decide +kernel
theorem sub_row8 : subRow 8 = true := by decide +kernel
theorem sub_row9 : subRow 9 = true := by decide +kernel
theorem sub_row10 : subRow 10 = true := by decide +kernel
theorem sub_row11 : subRow 11 = true := by decide +kernel
theorem sub_row12 : subRow 12 = true := by decide +kernel
theorem sub_row13 : subRow 13 = true := by decide +kernel
theorem sub_row14 : subRow 14 = true := by decide +kernel
theorem sub_row15 : subRow 15 = true := by decide +kernel
theorem sub_row16 : subRow 16 = true := by decide +kernel
theorem sub_row17 : subRow 17 = true := by decide +kernel
theorem sub_row18 : subRow 18 = true := by decide +kernel
theorem sub_row19 : subRow 19 = true := by decide +kernel
theorem sub_rows : ∀ a, a < 20 → subRow a = true
  | 0, _ => sub_row0
  | 1, _ => sub_row1
  | 2, _ => sub_row2
  | 3, _ => sub_row3
  | 4, _ => sub_row4
  | 5, _ => sub_row5
  | 6, _ => sub_row6
  | 7, _ => sub_row7
  | 8, _ => sub_row8
  | 9, _ => sub_row9
  | 10, _ => sub_row10
  | 11, _ => sub_row11
  | 12, _ => sub_row12
  | 13, _ => sub_row13
  | 14, _ => sub_row14
  | 15, _ => sub_row15
  | 16, _ => sub_row16
  | 17, _ => sub_row17
  | 18, _ => sub_row18
  | 19, _ => sub_row19
  | _ + 20, h => absurd h (by omega)
theorem sub_end {k c : Nat} (hk : k < 200) (hc : c < 4) : subEnd (10 + k) c = true := by
  have := List.all_eq_true.1 (List.all_eq_true.1 (sub_rows (k / 10) (by omega)) (k % 10) (List.mem_range.2 (by omega))) c (List.mem_range.2 hc)
  rwa [show 10 * (k / 10) + k % 10 = k by omega] at this
theorem newCD_ok : newCD.Ok := CD.ok_iff.1 (by decide +kernel)
theorem zR_b : ∀ z ∈ zR, 0 ≤ z ∧ z ≤ 255 := fun z hz => by obtain rfl := List.eq_of_mem_replicate hz; omega
theorem zI_b : ∀ z ∈ zI, 0 ≤ z ∧ z ≤ 255 := fun z hz => by obtain rfl := List.eq_of_mem_replicate hz; omega
theorem progZ_b {p : List Int} (h : ∀ z ∈ p, 0 ≤ z ∧ z ≤ 255) : ∀ z ∈ progZ p p.length, 0 ≤ z ∧ z ≤ 255 := fun z hz => by
  unfold progZ at hz
  obtain ⟨i, _, rfl⟩ := List.mem_map.1 hz
  split
  · next hi =>
    rw [List.getD_eq_getElem?_getD, List.getElem?_eq_getElem hi]
    exact h _ (List.getElem_mem _)
  · omega
theorem newMD_ok {p : List Int} (h : ∀ z ∈ p, 0 ≤ z ∧ z ≤ 255) : (newMD p).Ok := ⟨List.length_replicate, List.length_replicate, progZ_len _ _, List.length_replicate, by show (0 : Int) ≤ 0 ∧ (0 : Int) ≤ 8; omega, zR_b, zI_b, progZ_b h⟩
theorem newF_ok {p : List Int} (h : ∀ z ∈ p, 0 ≤ z ∧ z ≤ 255) (hl : p.length ≤ 256) : newF p = (zR, zI, progZ p p.length, zG, 0, 0) := by
  have : newCode p = 0 := by
    unfold newCode
    rw [if_neg (by omega), if_neg (by omega), if_pos (List.all_eq_true.2 fun z hz => byB_iff.2 (h z hz))]
  unfold newF; rw [if_pos this]

end Go.Proofs.YtophgbjbinaekaaDoor
