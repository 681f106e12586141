/- Words of a text: maximal runs of bytes other than spaces. Nothing here walks. -/
import Derived.Test.YtoaeofahknknhaaDoorDigs
namespace Go.Proofs.YtoaeofahknknhaaDoor

/-- The words of a text that begins within the word cur. -/
def wordsA (cur : List UInt8) : List UInt8 → List (List UInt8)
  | [] => if cur = [] then [] else [cur]
  | c :: r => if c = 32 then (if cur = [] then wordsA [] r else cur :: wordsA [] r) else wordsA (cur ++ [c]) r
def wordsB (s : ByteArray) : List ByteArray := (wordsA [] s.data.toList).map bs
theorem wordsA_trim : ∀ l : List UInt8, wordsA [] (l.dropWhile (· == 32)) = wordsA [] l
  | [] => rfl
  | c :: r => by
    by_cases h : c = 32
    · subst h
      rw [List.dropWhile_cons_of_pos (by simp), wordsA_trim r]
      simp [wordsA]
    · rw [List.dropWhile_cons_of_neg (by simpa using h)]
theorem wordsA_none : ∀ (l cur : List UInt8), (∀ k : Nat, l[k]? ≠ some 32) → wordsA cur l = if cur ++ l = [] then [] else [cur ++ l]
  | [], cur, _ => by simp [wordsA]
  | c :: r, cur, h => by
    have hc : c ≠ 32 := fun e => h 0 (by simp [e])
    rw [wordsA, if_neg hc, wordsA_none r (cur ++ [c]) (fun k => by have := h (k + 1); simpa using this)]
    simp
theorem wordsA_some : ∀ (l cur : List UInt8) (i : Nat), l[i]? = some 32 → (∀ k : Nat, k < i → l[k]? ≠ some 32) → wordsA cur l = if cur ++ l.take i = [] then wordsA [] (l.drop (i + 1)) else (cur ++ l.take i) :: wordsA [] (l.drop (i + 1))
  | [], cur, i, h, _ => by simp at h
  | c :: r, cur, 0, h, _ => by
    have hc : c = 32 := by simpa using h
    rw [wordsA, if_pos hc]
    simp
  | c :: r, cur, i + 1, h, hk => by
    have hc : c ≠ 32 := fun e => hk 0 (by omega) (by simp [e])
    rw [wordsA, if_neg hc, wordsA_some r (cur ++ [c]) i (by simpa using h) (fun k hki => by have := hk (k + 1) (by omega); simpa using this)]
    simp
theorem wordsA_len : ∀ (l cur : List UInt8), (wordsA cur l).length ≤ l.length + cur.length
  | [], cur => by
    unfold wordsA
    split
    · simp
    · rename_i h
      have := List.length_pos_iff.2 h
      simp; omega
  | c :: r, cur => by
    unfold wordsA
    split
    · split
      · have := wordsA_len r []; simp at this ⊢; omega
      · rename_i h
        have h1 := wordsA_len r []
        have h2 := List.length_pos_iff.2 h
        simp only [List.length_nil, Nat.add_zero] at h1
        simp only [List.length_cons]; omega
    · have := wordsA_len r (cur ++ [c]); simp at this ⊢; omega
/-- No word is empty, none has a space, none is longer than the text. -/
theorem wordsA_mem : ∀ (l cur : List UInt8), ∀ x ∈ wordsA cur l, x ≠ [] ∧ x.length ≤ l.length + cur.length
  | [], cur => by
    intro x hx
    unfold wordsA at hx
    split at hx
    · cases hx
    · rename_i h
      simp at hx
      subst hx
      exact ⟨h, by omega⟩
  | c :: r, cur => by
    intro x hx
    unfold wordsA at hx
    split at hx
    · split at hx
      · have := wordsA_mem r [] x hx; simp at this ⊢; exact ⟨this.1, by omega⟩
      · rename_i h
        rcases List.mem_cons.1 hx with rfl | hx
        · exact ⟨h, by simp only [List.length_cons]; omega⟩
        · have := wordsA_mem r [] x hx; simp at this ⊢; exact ⟨this.1, by omega⟩
    · have := wordsA_mem r (cur ++ [c]) x hx; simp at this ⊢; exact ⟨this.1, by omega⟩
theorem bs_toList (l : List UInt8) : (bs l).data.toList = l := by simp [bs]
theorem bs_of (s : ByteArray) : bs s.data.toList = s := by cases s; simp [bs]
theorem wordsB_bs (l : List UInt8) : wordsB (bs l) = (wordsA [] l).map bs := by unfold wordsB; rw [bs_toList]
end Go.Proofs.YtoaeofahknknhaaDoor
