/- The memory bus in plain words: which memories are valid, the regions, what a read gives and a write leaves. -/
import Derived.Test.YtieljgoodmoacaaFlashOk
import Derived.Test.YtieljgoodmoacaaCycleOf
namespace Go.Proofs.Ytieljgoodmoacaa
open Go.RowKit

def okMem (r i : List Int) (zs : List Int) (gs : List Bool) (st : Int) : Bool := (decide (r.length = 256) && decide (i.length = 32)) && ((r.all byB && i.all byB) && okFlash zs gs st)
def adB (a : Int) : Bool := decide (0 ≤ a ∧ a ≤ 4095)
def regR (a : Int) : Int := if a < 256 then 1 else if a < 288 then 2 else if 512 ≤ a ∧ a ≤ 767 then 3 else 0
def regK (a : Int) : Int := if a < 256 then a else if a < 288 then a - 256 else if 512 ≤ a ∧ a ≤ 767 then a - 512 else 0
theorem adB_range {a : Int} (h : adB a = true) : 0 ≤ a ∧ a ≤ 4095 := by unfold adB at h; simpa using h
theorem adB_of {a : Int} (h : 0 ≤ a ∧ a ≤ 4095) : adB a = true := by unfold adB; simpa using h
theorem all_bytes {zs : List Int} (h : zs.all byB = true) : ∀ z ∈ zs, 0 ≤ z ∧ z ≤ 255 := fun z hz => byB_range (List.all_eq_true.1 h z hz)
theorem okMem_len {r i zs : List Int} {gs : List Bool} {st : Int} (h : okMem r i zs gs st = true) : r.length = 256 ∧ i.length = 32 ∧ r.all byB = true ∧ i.all byB = true ∧ okFlash zs gs st = true := by
  unfold okMem at h
  simp only [Bool.and_eq_true, decide_eq_true_eq] at h
  exact ⟨h.1.1, h.1.2, h.2.1.1, h.2.1.2, h.2.2⟩
theorem okMem_mk {r i zs : List Int} {gs : List Bool} {st : Int} (h1 : r.length = 256) (h2 : i.length = 32) (h3 : r.all byB = true) (h4 : i.all byB = true) (h5 : okFlash zs gs st = true) : okMem r i zs gs st = true := by
  unfold okMem; simp [h1, h2, h3, h4, h5]
theorem okMem_no1 (r i zs : List Int) (gs : List Bool) (st : Int) (h : r.length ≠ 256) : okMem r i zs gs st = false := by unfold okMem; simp [h]
theorem okMem_no2 (r i zs : List Int) (gs : List Bool) (st : Int) (h : i.length ≠ 32) : okMem r i zs gs st = false := by unfold okMem; simp [h]
theorem okMem_no3 (r i zs : List Int) (gs : List Bool) (st : Int) (h : r.all byB = false) : okMem r i zs gs st = false := by unfold okMem; simp [h]
theorem okMem_no4 (r i zs : List Int) (gs : List Bool) (st : Int) (h : i.all byB = false) : okMem r i zs gs st = false := by unfold okMem; simp [h]
theorem okMem_yes (r i zs : List Int) (gs : List Bool) (st : Int) (h1 : r.length = 256) (h2 : i.length = 32) (h3 : r.all byB = true) (h4 : i.all byB = true) : okMem r i zs gs st = okFlash zs gs st := by unfold okMem; simp [h1, h2, h3, h4]

/-- What is read at an address. -/
def getV (r i zs : List Int) (gs : List Bool) (rd : List Int → List Bool → Int → Nat → Int) (st a : Int) : Int :=
  if regR a = 1 then r.getD (regK a).toNat 0 else if regR a = 2 then i.getD (regK a).toNat 0 else if regR a = 3 then rd zs gs st (regK a).toNat else 255
/-- The memory behind a write. -/
def putR (r : List Int) (a v : Int) : List Int := if regR a = 1 then r.set (regK a).toNat v else r
def putI (i : List Int) (a v : Int) : List Int := if regR a = 2 ∧ 0 < regK a then i.set (regK a).toNat v else i
def putZ (zs : List Int) (gs : List Bool) (st a v : Int) : List Int := if regR a = 3 then cycZ zs gs st (regK a).toNat v.toNat else zs
def putG (gs : List Bool) (st a : Int) : List Bool := if regR a = 3 then cycG gs st (regK a).toNat else gs
def putS (st a v : Int) : Int := if regR a = 3 then nextS st (regK a) v else st
theorem putR_len (r : List Int) (a v : Int) : (putR r a v).length = r.length := by unfold putR; split <;> simp
theorem putI_len (i : List Int) (a v : Int) : (putI i a v).length = i.length := by unfold putI; split <;> simp
theorem putZ_len (zs : List Int) (gs : List Bool) (st a v : Int) : (putZ zs gs st a v).length = zs.length := by unfold putZ; split <;> simp [cycZ_len]
theorem putG_len (gs : List Bool) (st a : Int) : (putG gs st a).length = gs.length := by unfold putG; split <;> simp [cycG_len]

/-- The four ways of an address. -/
theorem reg_ways (k : Nat) (hk : k < 4096) : (k < 256 ∧ regR k = 1 ∧ regK k = k) ∨ (256 ≤ k ∧ k < 288 ∧ regR k = 2 ∧ regK k = ((k - 256 : Nat) : Int)) ∨ (512 ≤ k ∧ k < 768 ∧ regR k = 3 ∧ regK k = ((k - 512 : Nat) : Int)) ∨ (288 ≤ k ∧ (k < 512 ∨ 768 ≤ k) ∧ regR k = 0 ∧ regK k = 0) := by
  unfold regR regK
  by_cases h1 : k < 256
  · left; rw [if_pos (by omega), if_pos (by omega)]; exact ⟨h1, rfl, rfl⟩
  · right
    by_cases h2 : k < 288
    · left; rw [if_neg (by omega), if_pos (by omega), if_neg (by omega), if_pos (by omega)]; exact ⟨by omega, h2, rfl, by omega⟩
    · right
      by_cases h3 : 512 ≤ k ∧ k < 768
      · left; rw [if_neg (by omega), if_neg (by omega), if_pos (by omega), if_neg (by omega), if_neg (by omega), if_pos (by omega)]; exact ⟨h3.1, h3.2, rfl, by omega⟩
      · right; rw [if_neg (by omega), if_neg (by omega), if_neg (by omega), if_neg (by omega), if_neg (by omega), if_neg (by omega)]; exact ⟨by omega, by omega, rfl, rfl⟩
end Go.Proofs.Ytieljgoodmoacaa
