/- Ticks at once have the same effect as in parts: in timers as data. Nothing here walks. -/
import Derived.Test.YtagdclbpgkilgaaTimMath
namespace Go.Proofs.Ytagdclbpgkilgaa
open Go.RowKit

theorem newT_ok {x : TTimer} {k : Int} (hx : tmB x = true) : tmB (newT x k) = true := by
  unfold newT
  by_cases h : x.2.1 = 0
  · rw [if_pos h]; exact hx
  · rw [if_neg h]
    have r := TmR.of hx
    have := r.l0
    have h1 := Int.emod_nonneg (x.1 + k) h
    have h2 := Int.emod_lt_of_pos (x.1 + k) (show 0 < x.2.1 by omega)
    unfold tmB limB cntB
    simp only [Bool.and_eq_true, decide_eq_true_eq]
    exact ⟨⟨r.l0, r.l1⟩, h1, by omega⟩
theorem newT_chain (x : TTimer) (k : Int) : (newT x k).2.2 = x.2.2 := by unfold newT; split <;> rfl
theorem newT_two (x : TTimer) (a b : Int) : newT (newT x a) b = newT x (a + b) ∧ fireT x (a + b) = fireT x a + fireT (newT x a) b := by
  unfold newT fireT
  by_cases h : x.2.1 = 0
  · simp [h]
  · simp only [if_neg h]
    have e : x.1 + (a + b) = ((x.1 + a) % x.2.1 + b) + x.2.1 * ((x.1 + a) / x.2.1) := by
      have := Int.emod_add_mul_ediv (x.1 + a) x.2.1
      omega
    refine ⟨?_, ?_⟩
    · rw [e, Int.add_mul_emod_self_left]
    · rw [e, Int.add_mul_ediv_left _ _ h]; omega
theorem tickR4 (rs : List TTimer) (n : Int) (i : Nat) (hi : i < 4) : (tickR rs n 4).getD i zTimer = afterT rs n i := by rw [tickR_at rs n 4 i hi, if_pos hi]
theorem ksT_add (x y : TTimer) (n k p q : Int) (h : y.2.2 = x.2.2) : ksT x (n + k) (p + q) = ksT x n p + ksT y k q := by
  unfold ksT
  rw [h]
  split <;> rfl
theorem fires_two (rs : List TTimer) (n k : Int) : ∀ i, i < 4 → firesT rs (n + k) i = firesT rs n i + firesT (tickR rs n 4) k i ∧ afterT (tickR rs n 4) k i = afterT rs (n + k) i := by
  intro i
  induction i with
  | zero =>
    intro hi
    have e := tickR4 rs n 0 hi
    have ek := ksT_add (rs.getD 0 zTimer) (afterT rs n 0) n k 0 0 (newT_chain _ _)
    rw [Int.add_zero] at ek
    have h2 := newT_two (rs.getD 0 zTimer) (ksT (rs.getD 0 zTimer) n 0) (ksT (afterT rs n 0) k 0)
    refine ⟨?_, ?_⟩
    · show fireT _ (ksT _ (n + k) 0) = fireT _ (ksT _ n 0) + fireT _ (ksT _ k 0)
      rw [e, ek]; exact h2.2
    · show newT _ (ksT _ k 0) = newT _ (ksT _ (n + k) 0)
      rw [e, ek]; exact h2.1
  | succ i ih =>
    intro hi
    obtain ⟨ih1, -⟩ := ih (by omega)
    have e := tickR4 rs n (i + 1) hi
    have ek := ksT_add (rs.getD (i + 1) zTimer) (afterT rs n (i + 1)) n k (firesT rs n i) (firesT (tickR rs n 4) k i) (newT_chain _ _)
    rw [← ih1] at ek
    have h2 := newT_two (rs.getD (i + 1) zTimer) (ksT (rs.getD (i + 1) zTimer) n (firesT rs n i)) (ksT (afterT rs n (i + 1)) k (firesT (tickR rs n 4) k i))
    refine ⟨?_, ?_⟩
    · show fireT _ (ksT _ (n + k) (firesT rs (n + k) i)) = fireT _ (ksT _ n (firesT rs n i)) + fireT _ (ksT _ k (firesT (tickR rs n 4) k i))
      rw [e, ek]; exact h2.2
    · show newT _ (ksT _ k (firesT (tickR rs n 4) k i)) = newT _ (ksT _ (n + k) (firesT rs (n + k) i))
      rw [e, ek]; exact h2.1
theorem tick_two (rs : List TTimer) (n k : Int) : tickR (tickR rs n 4) k 4 = tickR rs (n + k) 4 := by
  unfold tickR
  refine List.map_congr_left fun i hi => ?_
  have hi := List.mem_range.1 hi
  rw [if_pos hi, if_pos hi]
  exact (fires_two rs n k i hi).2
theorem tick_ok {rs : List TTimer} (n : Int) (h : timB rs = true) : timB (tickR rs n 4) = true := by
  rw [timB_all (fun i hi => ?_), tickR_len]; rfl
  rw [tickR_len] at hi
  have e := tickR4 rs n i hi
  have := timB_at h i hi
  unfold okT at this ⊢
  rw [Bool.and_eq_true] at this ⊢
  rw [e]
  refine ⟨newT_ok this.1, ?_⟩
  show (!((newT _ _).2.2 && _)) = true
  rw [newT_chain]
  exact this.2
theorem tickF_two (rs : List TTimer) (n k : Int) (i : Nat) (hi : i < 4) : (tickF rs (n + k) 4).getD i 0 = (tickF rs n 4).getD i 0 + (tickF (tickR rs n 4) k 4).getD i 0 := by
  rw [tickF_at _ _ _ _ hi, tickF_at _ _ _ _ hi, tickF_at _ _ _ _ hi, if_pos hi, if_pos hi, if_pos hi]
  exact (fires_two rs n k i hi).1
/-- Two timers of which the second is chained to the first. -/
def chainL (p q : Int) : List TTimer := [(0, p, false), (0, q, true), (0, 0, false), (0, 0, false)]
theorem chain_ok {p q : Int} (hp : 1 ≤ p ∧ p ≤ 9) (hq : 1 ≤ q ∧ q ≤ 9) : timB (chainL p q) = true := by
  unfold chainL timB
  have h1 : tmB (0, p, false) = true := by unfold tmB limB cntB; simp; omega
  have h2 : tmB (0, q, true) = true := by unfold tmB limB cntB; simp; omega
  have h3 : tmB (0, 0, false) = true := by decide
  simp [List.range, List.range.loop, okT, h1, h2, h3]
theorem chain_tick {p q n : Int} (hp : 1 ≤ p) (hq : 1 ≤ q) : tickF (chainL p q) n 4 = [n / p, n / p / q, 0, 0] ∧ (tickR (chainL p q) n 4).getD 0 zTimer = (n % p, p, false) ∧ (tickR (chainL p q) n 4).getD 1 zTimer = (n / p % q, q, true) := by
  have f0 : firesT (chainL p q) n 0 = n / p := by simp [firesT, chainL, fireT, ksT, show p ≠ 0 by omega]
  have f1 : firesT (chainL p q) n 1 = n / p / q := by
    show fireT _ (ksT _ n (firesT (chainL p q) n 0)) = _
    rw [f0]
    simp [chainL, fireT, ksT, show q ≠ 0 by omega]
  have f2 : firesT (chainL p q) n 2 = 0 := by simp [firesT, chainL, fireT]
  have f3 : firesT (chainL p q) n 3 = 0 := by simp [firesT, chainL, fireT]
  refine ⟨?_, ?_, ?_⟩
  · show [firesT _ n 0, firesT _ n 1, firesT _ n 2, firesT _ n 3] = _
    rw [f0, f1, f2, f3]
  · rw [tickR4 _ _ 0 (by decide)]
    simp [afterT, aheadT, chainL, newT, ksT, show p ≠ 0 by omega]
  · rw [tickR4 _ _ 1 (by decide)]
    show newT _ (ksT _ n (firesT (chainL p q) n 0)) = _
    rw [f0]
    simp [chainL, newT, ksT, show q ≠ 0 by omega]
end Go.Proofs.Ytagdclbpgkilgaa
