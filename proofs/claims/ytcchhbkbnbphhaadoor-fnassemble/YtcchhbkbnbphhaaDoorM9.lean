/- Texts of this claim, one behind the other: AsmLaws2. -/
import Derived.Test.YtcchhbkbnbphhaaDoorNewMem
import Derived.Test.YtcchhbkbnbphhaaDoorM8
/- What FnAssemble finds behind its loop: the program's bytes at the start of a flash, a text that is no instruction. -/
namespace Go.Proofs.YtcchhbkbnbphhaaDoor
open Go.RowKit

theorem strL_own {w : World} {base n c : Nat} {A : Option Addr} {ss : List ByteArray} (hl : ss.length = n) (h : w.ownsRow base 9 1 (.slice A n c) n (cellsS ss)) : StrL w A ss := fun i hi => by
  rcases h.2 with ⟨h0, hn0⟩ | ⟨g, cap, cur, h0, _, hg, _⟩
  · omega
  · injection h0 with q1 q2 q3
    subst q1
    refine ⟨g, 0, rfl, ?_⟩
    rw [Nat.zero_add, World.ownsRow.cellAt h i (by omega)]
    unfold cellsS
    rw [List.getElem?_map, List.getElem?_eq_getElem hi, List.getD_eq_getElem?_getD, List.getElem?_eq_getElem hi]
    rfl
theorem intL_own {w : World} {base n c : Nat} {A : Option Addr} {ds : List Int} (hl : ds.length = n) (h : w.ownsRow base 3 1 (.slice A n c) n (cellsI ds)) : IntL w A ds := fun i hi => by
  rcases h.2 with ⟨h0, hn0⟩ | ⟨g, cap, cur, h0, _, hg, _⟩
  · omega
  · injection h0 with q1 q2 q3
    subst q1
    refine ⟨g, 0, rfl, ?_⟩
    rw [Nat.zero_add, World.ownsRow.cellAt h i (by omega)]
    unfold cellsI
    rw [List.getElem?_map, List.getElem?_eq_getElem hi, List.getD_eq_getElem?_getD, List.getElem?_eq_getElem hi]
    rfl
theorem bytes_all {ds : List Int} (h : ∀ x ∈ ds, 0 ≤ x ∧ x ≤ 255) : ds.all byB = true := by
  rw [List.all_eq_true]
  intro x hx
  have := h x hx
  unfold byB; simp; omega
theorem newF_ok {ds : List Int} (hl : ds.length ≤ 256) (h : ∀ x ∈ ds, 0 ≤ x ∧ x ≤ 255) : newF ds = (zR, zI, progZ ds ds.length, zG, 0, 0) := by
  unfold newF newCode
  rw [if_neg (by omega : ¬ 4096 < ds.length), if_neg (by omega : ¬ 256 < ds.length), if_pos (bytes_all h), if_pos rfl]
theorem progZ_front {ds : List Int} (hl : ds.length ≤ 256) {w : World} {A : Option Addr} (h : IntL w A (progZ ds ds.length)) : IntL w A ds := fun i hi => by
  obtain ⟨b, off, e, hc⟩ := h i (by rw [progZ_len]; omega)
  refine ⟨b, off, e, ?_⟩
  rw [hc, progZ_at _ _ _ (by omega), if_pos hi]
theorem progZ_ok {ds : List Int} (hl : ds.length ≤ 256) (h : ∀ x ∈ ds, 0 ≤ x ∧ x ≤ 255) : okMem zR zI (progZ ds ds.length) zG 0 = true := by
  have hz : (progZ ds ds.length).all byB = true := bytes_all fun x hx => by
    obtain ⟨i, hi, rfl⟩ := List.getElem_of_mem hx
    have hi' : i < 256 := by rw [progZ_len] at hi; exact hi
    have e := progZ_at ds ds.length i hi'
    rw [List.getD_eq_getElem?_getD, List.getElem?_eq_getElem hi, Option.getD_some] at e
    rw [e]
    split
    · rename_i q
      rw [List.getD_eq_getElem?_getD, List.getElem?_eq_getElem q]
      exact h _ (List.getElem_mem _)
    · omega
  refine okMem_mk zR_len zI_len (by decide +kernel) (by decide +kernel) ?_
  unfold okFlash
  rw [progZ_len, zG_len, hz]
  decide
theorem asm_go : asmF [⟨#[103, 111]⟩] = ([], 3) := asm_no (k := 0) (by simp) (by simp) (by kernel_rfl)
end Go.Proofs.YtcchhbkbnbphhaaDoor
