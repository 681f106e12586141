/- A program is its instructions: the model's Assemble. Written by gen_asm.py. -/
import Derived.Test.YtcchhbkbnbphhaaDoorReadI
import Derived.Test.YtcchhbkbnbphhaaDoorM1
namespace Go.Proofs.YtcchhbkbnbphhaaDoor
open Go.RowKit

def codC (x : ByteArray) : List Int := encL (rdF x).1.1 (rdF x).1.2.1 (rdF x).1.2.2
def cdK (ss : List ByteArray) : Nat → List Int
  | 0 => []
  | k + 1 => cdK ss k ++ codC (ss.getD k ByteArray.empty)
def asmF (ss : List ByteArray) : List Int × Int :=
  if 4096 < ss.length then ([], 2) else if ss.all (fun x => (rdF x).2) = true then (if 256 < (cdK ss ss.length).length then ([], 8) else (cdK ss ss.length, 0)) else ([], 3)
theorem codC_len (x : ByteArray) : (codC x).length ≤ 3 ∧ 1 ≤ (codC x).length := by
  unfold codC
  rw [encL_len]
  have := lenT_range (rdF x).1.1
  omega
theorem codC_eq {x : ByteArray} {a b c : Int} {ok : Bool} (h : rdF x = ((a, b, c), ok)) : codC x = encL a b c := by unfold codC; rw [h]
theorem cdK_len (ss : List ByteArray) : ∀ k, (cdK ss k).length ≤ 3 * k
  | 0 => Nat.le_refl _
  | k + 1 => by rw [cdK, List.length_append]; have := cdK_len ss k; have := (codC_len (ss.getD k ByteArray.empty)).1; omega
theorem rd_ok {x : ByteArray} {a b c : Int} (h : rdF x = ((a, b, c), true)) : okIns a b c = true := by
  unfold rdF rdW at h
  split at h
  · injection h with _ h; cases h
  · split at h
    · rename_i hh
      injection h with h1 _
      injection h1 with h1 h2
      injection h2 with h2 h3
      rw [← h1, ← h2, ← h3]; exact hh.2.2
    · injection h with _ h; cases h
theorem asm_long {ss : List ByteArray} (h : 4096 < ss.length) : asmF ss = ([], 2) := by unfold asmF; rw [if_pos h]
theorem asm_no {ss : List ByteArray} {k : Nat} (h : ¬ 4096 < ss.length) (hk : k < ss.length) (hr : (rdF (ss.getD k ByteArray.empty)).2 = false) : asmF ss = ([], 3) := by
  unfold asmF
  rw [if_neg h, if_neg]
  intro ha
  rw [List.all_eq_true] at ha
  have hm : ss.getD k ByteArray.empty ∈ ss := by
    rw [List.getD_eq_getElem?_getD, List.getElem?_eq_getElem hk, Option.getD_some]; exact List.getElem_mem _
  rw [ha _ hm] at hr
  cases hr
theorem asm_all {ss : List ByteArray} (h : ∀ k, k < ss.length → (rdF (ss.getD k ByteArray.empty)).2 = true) : ss.all (fun x => (rdF x).2) = true := by
  rw [List.all_eq_true]
  intro x hx
  obtain ⟨i, hi⟩ := List.getElem?_of_mem hx
  have hlt : i < ss.length := (List.getElem?_eq_some_iff.1 hi).1
  have := h i hlt
  rw [List.getD_eq_getElem?_getD, hi] at this
  exact this
theorem asm_size {ss : List ByteArray} (h : ¬ 4096 < ss.length) (ha : ∀ k, k < ss.length → (rdF (ss.getD k ByteArray.empty)).2 = true) (hs : 256 < (cdK ss ss.length).length) : asmF ss = ([], 8) := by
  unfold asmF; rw [if_neg h, if_pos (asm_all ha), if_pos hs]
theorem asm_yes {ss : List ByteArray} (h : ¬ 4096 < ss.length) (ha : ∀ k, k < ss.length → (rdF (ss.getD k ByteArray.empty)).2 = true) (hs : ¬ 256 < (cdK ss ss.length).length) : asmF ss = (cdK ss ss.length, 0) := by
  unfold asmF; rw [if_neg h, if_pos (asm_all ha), if_neg hs]
theorem add_0 (b j : Nat) : (⟨b, 0, none⟩ : Addr).add j = ⟨b, j, none⟩ := by
  unfold Addr.add
  by_cases h : j = 0
  · subst h; simp
  · simp [h]
theorem own_cells {w : World} {lo hi : Nat} {A : Option Addr} {zs : List Int} (h : OwnI w lo hi A zs) (hn : 0 < zs.length) : ∃ b, A = some ⟨b, 0, none⟩ ∧ ∀ j u, (zs.map (Value.int .i64))[j]? = some u → w.cell? ((⟨b, 0, none⟩ : Addr).add j) = some u := by
  rcases h with rfl | ⟨b, m, f, rfl, _, _, hm, hr, hf⟩
  · simp at hn
  · refine ⟨b, rfl, fun j u hj => ?_⟩
    have hj' : j < zs.length := by
      have := (List.getElem?_eq_some_iff.1 hj).1
      simpa using this
    rw [add_0 b j, hr.cell (by omega), hf j hj']
    rw [List.getElem?_map, List.getElem?_eq_getElem hj'] at hj
    simp only [Option.map_some, Option.some.injEq] at hj
    rw [← hj, List.getD_eq_getElem?_getD, List.getElem?_eq_getElem hj', Option.getD_some]
def GivesLC (r : List Int × Int) (w : World) (e : Ending) (w' : World) : Prop := ∃ A n c, e = .returned (.tuple #[.slice A n c, .int .i64 r.2]) ∧ r.1.length = n ∧ Hid (OwnI w' w.heap.size w'.heap.size A r.1) ∧ Below w.heap.size w w'

end Go.Proofs.YtcchhbkbnbphhaaDoor
