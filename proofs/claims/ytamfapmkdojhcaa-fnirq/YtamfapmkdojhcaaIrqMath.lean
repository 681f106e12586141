/- The selected line: the model's scan and the program's first maximum give the same. Plain facts on lists. -/
import Derived.Test.YtamfapmkdojhcaaIrqOk
namespace Go.Proofs.Ytamfapmkdojhcaa

/-- The model's scan of the first lines. -/
def nextF (ls : List Int) (ps : List Bool) (a : Int) : Nat → Int
  | 0 => -1
  | k + 1 => if ps.getD k false = true ∧ a < ls.getD k 0 ∧ (nextF ls ps a k < 0 ∨ ls.getD (nextF ls ps a k).toNat 0 < ls.getD k 0) then (k : Int) else nextF ls ps a k
/-- The first greatest among the first. -/
def amaxF (zs : List Int) : Nat → Nat
  | 0 => 0
  | k + 1 => if zs.getD (amaxF zs k) 0 < zs.getD k 0 then k else amaxF zs k
/-- The levels of those that are pending, of the first j lines. -/
def reqT (ls : List Int) (ps : List Bool) (j : Nat) : List Int := (List.range 8).map fun i => if i < j ∧ ps.getD i false = true then ls.getD i 0 else 0
theorem reqT_len (ls : List Int) (ps : List Bool) (j : Nat) : (reqT ls ps j).length = 8 := by simp [reqT]
theorem reqT_at (ls : List Int) (ps : List Bool) (j i : Nat) (h : i < 8) : (reqT ls ps j).getD i 0 = if i < j ∧ ps.getD i false = true then ls.getD i 0 else 0 := by
  unfold reqT
  rw [List.getD_eq_getElem?_getD, List.getElem?_map, List.getElem?_range h]
  rfl
theorem reqT_zero (ls : List Int) (ps : List Bool) : reqT ls ps 0 = List.replicate 8 0 := by
  apply ext_getD 0 (by simp [reqT_len])
  intro i hi
  rw [reqT_len] at hi
  rw [reqT_at _ _ _ _ hi, if_neg (by omega), List.getD_eq_getElem?_getD, List.getElem?_replicate, if_pos hi]
  rfl
theorem reqT_next (ls : List Int) (ps : List Bool) (j : Nat) (hj : j < 8) (hp : ps.getD j false = true) : (reqT ls ps j).set j (ls.getD j 0) = reqT ls ps (j + 1) := by
  apply ext_getD 0 (by simp [reqT_len])
  intro i hi
  have hi' : i < 8 := by simpa [reqT_len] using hi
  rw [reqT_at _ _ _ _ hi']
  by_cases e : i = j
  · subst e
    rw [List.getD_eq_getElem?_getD, List.getElem?_set_self (by rw [reqT_len]; exact hj), if_pos ⟨by omega, hp⟩]
    rfl
  · rw [List.getD_eq_getElem?_getD, List.getElem?_set_ne (fun q => e q.symm), ← List.getD_eq_getElem?_getD, reqT_at _ _ _ _ hi']
    by_cases q : i < j
    · by_cases r : ps.getD i false = true
      · rw [if_pos ⟨q, r⟩, if_pos ⟨by omega, r⟩]
      · rw [if_neg (fun x => r x.2), if_neg (fun x => r x.2)]
    · rw [if_neg (fun x => q x.1), if_neg (fun x => by have := x.1; omega)]
theorem reqT_same (ls : List Int) (ps : List Bool) (j : Nat) (hp : ps.getD j false = false) : reqT ls ps (j + 1) = reqT ls ps j := by
  apply ext_getD 0 (by simp [reqT_len])
  intro i hi
  rw [reqT_len] at hi
  rw [reqT_at _ _ _ _ hi, reqT_at _ _ _ _ hi]
  by_cases r : ps.getD i false = true
  · by_cases e : i = j
    · subst e; rw [hp] at r; cases r
    · by_cases q : i < j
      · rw [if_pos ⟨by omega, r⟩, if_pos ⟨q, r⟩]
      · rw [if_neg (fun x => by have := x.1; omega), if_neg (fun x => q x.1)]
  · rw [if_neg (fun x => r x.2), if_neg (fun x => r x.2)]
theorem amaxF_lt (zs : List Int) : ∀ k, 0 < k → amaxF zs k < k
  | 0, h => by omega
  | k + 1, _ => by
    unfold amaxF
    split
    · omega
    · rcases Nat.eq_zero_or_pos k with rfl | hk
      · simp [amaxF]
      · have := amaxF_lt zs k hk; omega
theorem nextF_lt (ls : List Int) (ps : List Bool) (a : Int) : ∀ k, nextF ls ps a k = -1 ∨ ∃ m : Nat, nextF ls ps a k = m ∧ m < k
  | 0 => .inl rfl
  | k + 1 => by
    unfold nextF
    split
    · exact .inr ⟨k, rfl, by omega⟩
    · rcases nextF_lt ls ps a k with h | ⟨m, h, hm⟩
      · exact .inl h
      · exact .inr ⟨m, h, by omega⟩
/-- What the program answers. -/
def selF (ls : List Int) (ps : List Bool) (a : Int) : Int := if (reqT ls ps 8).getD (amaxF (reqT ls ps 8) 8) 0 ≤ a then -1 else (amaxF (reqT ls ps 8) 8 : Int)

section
variable {ls : List Int} {ps : List Bool} {a : Int}
/-- A level to be served: its line is pending. -/
theorem req_pos {i : Nat} (hi : i < 8) (ha : 0 ≤ a) (h : a < (reqT ls ps 8).getD i 0) : ps.getD i false = true ∧ (reqT ls ps 8).getD i 0 = ls.getD i 0 := by
  rw [reqT_at _ _ _ _ hi] at h ⊢
  by_cases q : ps.getD i false = true
  · rw [if_pos ⟨hi, q⟩]; exact ⟨q, rfl⟩
  · rw [if_neg (fun x => q x.2)] at h; omega
theorem req_le {i : Nat} (hi : i < 8) (hp : ps.getD i false = true) : (reqT ls ps 8).getD i 0 = ls.getD i 0 := by rw [reqT_at _ _ _ _ hi, if_pos ⟨hi, hp⟩]
theorem next_inv (ha : 0 ≤ a) : ∀ k, k ≤ 8 →
    (nextF ls ps a k = -1 ∧ ∀ i, i < k → (reqT ls ps 8).getD i 0 ≤ a) ∨ (nextF ls ps a k = (amaxF (reqT ls ps 8) k : Int) ∧ amaxF (reqT ls ps 8) k < k ∧ a < (reqT ls ps 8).getD (amaxF (reqT ls ps 8) k) 0)
  | 0, _ => .inl ⟨rfl, fun i h => by omega⟩
  | k + 1, hk => by
    have hk8 : k < 8 := by omega
    rcases next_inv ha k (by omega) with ⟨h1, h2⟩ | ⟨h1, h2, h3⟩
    · by_cases q : a < (reqT ls ps 8).getD k 0
      · obtain ⟨p, e⟩ := req_pos hk8 ha q
        right
        have hn : nextF ls ps a (k + 1) = k := by
          unfold nextF
          rw [if_pos ⟨p, by rw [← e]; exact q, .inl (by rw [h1]; omega)⟩]
        have hm : amaxF (reqT ls ps 8) (k + 1) = k := by
          unfold amaxF
          rcases Nat.eq_zero_or_pos k with rfl | hp
          · split <;> rfl
          · rw [if_pos (by have := h2 _ (amaxF_lt (reqT ls ps 8) k hp); omega)]
        rw [hn, hm]
        exact ⟨rfl, by omega, q⟩
      · left
        have hn : nextF ls ps a (k + 1) = -1 := by
          unfold nextF
          rw [if_neg (fun x => q (by rw [req_le hk8 x.1]; exact x.2.1))]
          exact h1
        refine ⟨hn, fun i hi => ?_⟩
        by_cases e : i = k
        · subst e; omega
        · exact h2 i (by omega)
    · right
      have hm8 : amaxF (reqT ls ps 8) k < 8 := by omega
      obtain ⟨pm, em⟩ := req_pos hm8 ha h3
      by_cases q : (reqT ls ps 8).getD (amaxF (reqT ls ps 8) k) 0 < (reqT ls ps 8).getD k 0
      · obtain ⟨p, e⟩ := req_pos hk8 ha (show a < (reqT ls ps 8).getD k 0 by omega)
        have hn : nextF ls ps a (k + 1) = k := by
          unfold nextF
          rw [if_pos ⟨p, by rw [← e]; omega, .inr (by rw [h1, Int.toNat_natCast, ← em, ← e]; exact q)⟩]
        have hm : amaxF (reqT ls ps 8) (k + 1) = k := by unfold amaxF; rw [if_pos q]
        rw [hn, hm]
        exact ⟨rfl, by omega, by omega⟩
      · have hn : nextF ls ps a (k + 1) = nextF ls ps a k := by
          conv => lhs; unfold nextF
          rw [if_neg (fun x => by
            rcases x.2.2 with y | y
            · rw [h1] at y; omega
            · rw [h1, Int.toNat_natCast, ← em, ← req_le hk8 x.1] at y; exact q y)]
        have hm : amaxF (reqT ls ps 8) (k + 1) = amaxF (reqT ls ps 8) k := by conv => lhs; unfold amaxF
                                                                              rw [if_neg q]
        rw [hn, hm]
        exact ⟨h1, by omega, h3⟩
theorem sel_next (ha : 0 ≤ a) : selF ls ps a = nextF ls ps a 8 := by
  unfold selF
  rcases next_inv (ls := ls) (ps := ps) ha 8 (Nat.le_refl _) with ⟨h1, h2⟩ | ⟨h1, h2, h3⟩
  · rw [if_pos (h2 _ (amaxF_lt _ 8 (by omega))), h1]
  · rw [if_neg (by omega), h1]

/-- What is said of the selected line. -/
theorem next_says : ∀ k, (nextF ls ps a k = -1 ∧ ∀ i, i < k → ¬ (ps.getD i false = true ∧ a < ls.getD i 0)) ∨
    ∃ m : Nat, nextF ls ps a k = m ∧ m < k ∧ ps.getD m false = true ∧ a < ls.getD m 0 ∧ (∀ i, i < k → ps.getD i false = true → ls.getD i 0 ≤ ls.getD m 0 ∨ ls.getD i 0 ≤ a) ∧ ∀ i, i < m → ps.getD i false = true → ls.getD i 0 < ls.getD m 0
  | 0 => .inl ⟨rfl, fun i h => by omega⟩
  | k + 1 => by
    rcases next_says k with ⟨h1, h2⟩ | ⟨m, h1, h2, h3, h4, h5, h6⟩
    · by_cases q : ps.getD k false = true ∧ a < ls.getD k 0
      · right
        refine ⟨k, ?_, by omega, q.1, q.2, fun i hi hp => ?_, fun i hi hp => ?_⟩
        · unfold nextF; rw [if_pos ⟨q.1, q.2, .inl (by rw [h1]; omega)⟩]
        · by_cases e : i = k
          · subst e; left; omega
          · right
            have := h2 i (by omega)
            apply Classical.byContradiction; intro c
            exact this ⟨hp, by omega⟩
        · have := h2 i (by omega)
          apply Classical.byContradiction; intro c
          exact this ⟨hp, by have := q.2; omega⟩
      · left
        refine ⟨?_, fun i hi => ?_⟩
        · unfold nextF; rw [if_neg (fun x => q ⟨x.1, x.2.1⟩)]; exact h1
        · by_cases e : i = k
          · subst e; exact q
          · exact h2 i (by omega)
    · right
      by_cases q : ps.getD k false = true ∧ a < ls.getD k 0 ∧ ls.getD m 0 < ls.getD k 0
      · refine ⟨k, ?_, by omega, q.1, q.2.1, fun i hi hp => ?_, fun i hi hp => ?_⟩
        · unfold nextF; rw [if_pos ⟨q.1, q.2.1, .inr (by rw [h1, Int.toNat_natCast]; exact q.2.2)⟩]
        · by_cases e : i = k
          · subst e; left; omega
          · rcases h5 i (by omega) hp with y | y
            · left; have := q.2.2; omega
            · right; exact y
        · rcases h5 i (by omega) hp with y | y
          · have := q.2.2; omega
          · have := q.2.1; omega
      · refine ⟨m, ?_, by omega, h3, h4, fun i hi hp => ?_, h6⟩
        · unfold nextF; rw [if_neg (fun x => q ⟨x.1, x.2.1, by
            rcases x.2.2 with y | y
            · rw [h1] at y; omega
            · rw [h1, Int.toNat_natCast] at y; exact y⟩)]; exact h1
        · by_cases e : i = k
          · subst e
            apply Classical.byContradiction; intro c
            exact q ⟨hp, by omega, by omega⟩
          · exact h5 i (by omega) hp
end
end Go.Proofs.Ytamfapmkdojhcaa
