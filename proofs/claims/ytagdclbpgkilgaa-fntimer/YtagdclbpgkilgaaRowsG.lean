/- Rows of structs of k cells: laid flat, fresh behind an append, an element written anew. Nothing here walks. -/
import Derived.Test.YtagdclbpgkilgaaGenC
import Derived.Test.YtagdclbpgkilgaaGenK
import Derived.Test.YtagdclbpgkilgaaAppNew
namespace Go.Proofs.Ytagdclbpgkilgaa
open Go.RowKit

theorem flat_len {k : Nat} : ∀ (rows : List (List Value)), (∀ r ∈ rows, r.length = k) → rows.flatten.length = rows.length * k
  | [], _ => by simp
  | r :: rows, h => by
    rw [List.flatten_cons, List.length_append, flat_len rows (fun x hx => h x (by simp [hx])), h r (by simp), List.length_cons, Nat.succ_mul]
    omega
theorem flat_at {k : Nat} : ∀ (rows : List (List Value)), (∀ r ∈ rows, r.length = k) → ∀ i, i < rows.length → ∀ j, j < k → rows.flatten[i * k + j]? = some ((rows.getD i []).getD j undef)
  | [], _, i, hi, _, _ => by simp at hi
  | r :: rows, h, 0, _, j, hj => by
    have hr : r.length = k := h r (by simp)
    rw [List.flatten_cons, Nat.zero_mul, Nat.zero_add, List.getElem?_append_left (by omega)]
    simp [List.getD_eq_getElem?_getD, List.getElem?_eq_getElem (show j < r.length by omega)]
  | r :: rows, h, i + 1, hi, j, hj => by
    have hr : r.length = k := h r (by simp)
    have ih := flat_at rows (fun x hx => h x (by simp [hx])) i (by simpa using hi) j hj
    rw [List.flatten_cons, List.getElem?_append_right (by rw [hr, Nat.succ_mul]; omega), hr, show (i + 1) * k + j - k = i * k + j by rw [Nat.succ_mul]; omega, ih]
    rfl
theorem RowL.src {w : World} {A : Option Addr} {k : Nat} {rows : List (List Value)} (h : RowL w A k rows) (hk : ∀ r ∈ rows, r.length = k) (hn : 0 < rows.length) (k0 : 0 < k) : ∃ ad, A = some ad ∧ ∀ j u, rows.flatten[j]? = some u → w.cell? (ad.add j) = some u := by
  obtain ⟨b, off, e, _⟩ := h 0 hn 0 k0
  refine ⟨_, e, fun j u hj => ?_⟩
  have hj' : j < rows.length * k := by
    have := (List.getElem?_eq_some_iff.1 hj).1
    rwa [flat_len rows hk] at this
  have hd : j / k < rows.length := (Nat.div_lt_iff_lt_mul k0).2 hj'
  have hm : j % k < k := Nat.mod_lt _ k0
  have hs : j / k * k + j % k = j := by rw [Nat.mul_comm]; exact Nat.div_add_mod j k
  obtain ⟨b', off', e', hc⟩ := h (j / k) hd (j % k) hm
  have hf := flat_at rows hk (j / k) hd (j % k) hm
  rw [hs, hj] at hf
  rw [e] at e'
  injection e' with e'
  injection e' with e1 e2 _
  subst e1 e2
  rw [addr_add, Nat.add_assoc, hs] at *
  rw [hc]
  exact hf.symm
theorem ownR_fresh {w' : World} {T : TypeId} {A : Option Addr} {n cap k lo base : Nat} {rows : List (List Value)} (h : w'.ownsRow base T k (.slice A n cap) n rows.flatten) (hk : ∀ r ∈ rows, r.length = k) (hl : rows.length = n) (hlo : lo ≤ base) : OwnR w' lo w'.heap.size T A k rows := by
  obtain ⟨_, h0 | ⟨g, cap', cur, e, hb, hg, hnc, _, hsz, htk⟩⟩ := h
  · exact .inl (List.eq_nil_of_length_eq_zero (by omega))
  · injection e with e _ _
    subst e
    have hcap : n * k ≤ cap' * k := Nat.mul_le_mul_right k hnc
    refine .inr ⟨g, cap' * k, fun i => cur.toList.getD i undef, rfl, by omega, ?_, by rw [hl]; exact hcap, ⟨cur, hg, hsz, fun i hi => ?_⟩, fun i hi j hj => ?_⟩
    · rcases Nat.lt_or_ge g w'.heap.size with q | q
      · exact q
      · rw [Array.getElem?_eq_none q] at hg; cases hg
    · have : i < cur.toList.length := by simp [hsz, hi]
      show cur[i]? = some (cur.toList.getD i undef)
      rw [List.getD_eq_getElem?_getD, List.getElem?_eq_getElem this, ← Array.getElem?_toList, List.getElem?_eq_getElem this]
      rfl
    · have hp := row_place hi hj (Nat.le_refl _)
      have h1 : (cur.toList.take (n * k))[i * k + j]? = rows.flatten[i * k + j]? := by rw [htk]
      rw [List.getElem?_take, if_pos (by rw [← hl]; exact hp), flat_at rows hk i hi j hj] at h1
      show cur.toList.getD (i * k + j) undef = _
      rw [List.getD_eq_getElem?_getD, h1]
      rfl
/-- One element is written anew; the others are as they were. -/
theorem OwnR.anew {w' : World} {lo hi b m i k : Nat} {T : TypeId} {f f' : Nat → Value} {rows : List (List Value)} {new : List Value} (h1 : lo ≤ b) (h2 : b < hi) (hm : rows.length * k ≤ m) (hf : ∀ x, x < rows.length → ∀ j, j < k → f (x * k + j) = (rows.getD x []).getD j undef)
    (hr : w'.rowIs b T m f') (hout : ∀ x, x < i * k ∨ i * k + k ≤ x → f' x = f x) (hin : ∀ j, j < k → f' (i * k + j) = new.getD j undef) : OwnR w' lo hi T (some ⟨b, 0, none⟩) k (rows.set i new) :=
  .inr ⟨b, m, f', rfl, h1, h2, by simpa using hm, hr, fun x hx j hj => by
    have hx' : x < rows.length := by simpa using hx
    by_cases e : x = i
    · subst e
      have hs : (rows.set x new).getD x [] = new := by rw [List.getD_eq_getElem?_getD, List.getElem?_set_self hx']; rfl
      rw [hin j hj, hs]
    · have hs : (rows.set i new).getD x [] = rows.getD x [] := by rw [List.getD_eq_getElem?_getD, List.getElem?_set_ne (fun q => e q.symm), List.getD_eq_getElem?_getD]
      rw [hs, ← hf x hx' j hj]
      refine hout _ ?_
      rcases Nat.lt_or_gt_of_ne e with q | q
      · left
        have a1 : (x + 1) * k ≤ i * k := Nat.mul_le_mul_right k q
        rw [Nat.succ_mul] at a1
        omega
      · right
        have a1 : (i + 1) * k ≤ x * k := Nat.mul_le_mul_right k q
        rw [Nat.succ_mul] at a1
        omega⟩
end Go.Proofs.Ytagdclbpgkilgaa
