/- Timers as data: what is valid, what is set, what ticks leave. Nothing here walks. -/
import Derived.Test.YtagdclbpgkilgaaGenRTimer
namespace Go.Proofs.Ytagdclbpgkilgaa
open Go.RowKit

def limB (n : Int) : Bool := decide (0 ≤ n ∧ n ≤ 256)
def cntB (c l : Int) : Bool := decide (0 ≤ c ∧ c ≤ max (l - 1) 0)
def tmB (x : TTimer) : Bool := limB x.2.1 && cntB x.1 x.2.1
def ntB (n : Int) : Bool := decide (0 ≤ n ∧ n ≤ 100000)
def iB (i : Int) : Bool := decide (0 ≤ i ∧ i ≤ 3)
/-- The i-th timer is in order. -/
def okT (rs : List TTimer) (i : Nat) : Bool := tmB (rs.getD i zTimer) && !((rs.getD i zTimer).2.2 && decide (i = 0))
def timB (rs : List TTimer) : Bool := decide (rs.length = 4) && (List.range rs.length).all (okT rs)
theorem timB_no {rs : List TTimer} (h : rs.length ≠ 4) : timB rs = false := by unfold timB; simp [h]
theorem timB_bad {rs : List TTimer} {i : Nat} (hi : i < rs.length) (h : okT rs i = false) : timB rs = false := by
  unfold timB
  rw [Bool.and_eq_false_iff]
  right
  rw [List.all_eq_false]
  exact ⟨i, List.mem_range.2 hi, by simp [h]⟩
theorem timB_all {rs : List TTimer} (h : ∀ i, i < rs.length → okT rs i = true) : timB rs = decide (rs.length = 4) := by
  unfold timB
  have : (List.range rs.length).all (okT rs) = true := List.all_eq_true.2 fun i hi => h i (List.mem_range.1 hi)
  rw [this, Bool.and_true]
theorem timB_len {rs : List TTimer} (h : timB rs = true) : rs.length = 4 := by
  unfold timB at h
  simp only [Bool.and_eq_true, decide_eq_true_eq] at h
  exact h.1
theorem timB_at {rs : List TTimer} (h : timB rs = true) (i : Nat) (hi : i < 4) : okT rs i = true := by
  have hl := timB_len h
  unfold timB at h
  simp only [Bool.and_eq_true] at h
  exact List.all_eq_true.1 h.2 i (List.mem_range.2 (by omega))
/-- A timer's bounds. -/
structure TmR (x : TTimer) : Prop where
  l0 : 0 ≤ x.2.1
  l1 : x.2.1 ≤ 256
  c0 : 0 ≤ x.1
  c1 : x.1 ≤ 255
  c2 : x.2.1 ≠ 0 → x.1 < x.2.1
theorem TmR.of {x : TTimer} (h : tmB x = true) : TmR x := by
  unfold tmB limB cntB at h
  simp only [Bool.and_eq_true, decide_eq_true_eq] at h
  obtain ⟨⟨h1, h2⟩, h3, h4⟩ := h
  have h4 : x.1 ≤ max (x.2.1 - 1) 0 := h4
  exact ⟨h1, h2, h3, by omega, by omega⟩
theorem okT_tm {rs : List TTimer} {i : Nat} (h : okT rs i = true) : TmR (rs.getD i zTimer) := by
  unfold okT at h
  rw [Bool.and_eq_true] at h
  exact TmR.of h.1
theorem okT_first {rs : List TTimer} (h : okT rs 0 = true) : (rs.getD 0 zTimer).2.2 = false := by
  unfold okT at h
  simp at h
  simpa [List.getD_eq_getElem?_getD] using h.2
/-- The codes: of a list; of what is set; of ticks. -/
def timC (rs : List TTimer) : Int := if 4096 < rs.length then 2 else if timB rs = true then 0 else 1
def setTB (i l : Int) (c : Bool) : Bool := iB i && (limB l && !(c && decide (i = 0)))
def setTC (rs : List TTimer) (i l : Int) (c : Bool) : Int := if 4096 < rs.length then 2 else if timB rs = true then (if setTB i l c = true then 0 else 4) else 1
def setTR (rs : List TTimer) (i l : Int) (c : Bool) : List TTimer := if setTC rs i l c = 0 then rs.set i.toNat (0, l, c) else []
def tickC (rs : List TTimer) (n : Int) : Int := if 4096 < rs.length then 2 else if timB rs = true then (if ntB n = true then 0 else 4) else 1
/-- How often a timer comes round in k ticks; what it then is. -/
def fireT (x : TTimer) (k : Int) : Int := if x.2.1 = 0 then 0 else (x.1 + k) / x.2.1
def newT (x : TTimer) (k : Int) : TTimer := if x.2.1 = 0 then x else ((x.1 + k) % x.2.1, x.2.1, x.2.2)
/-- The ticks that a list's timer counts when the one ahead has come round p times. -/
def ksT (x : TTimer) (n p : Int) : Int := if x.2.2 = true then p else n
def firesT (rs : List TTimer) (n : Int) : Nat → Int
  | 0 => fireT (rs.getD 0 zTimer) (ksT (rs.getD 0 zTimer) n 0)
  | i + 1 => fireT (rs.getD (i + 1) zTimer) (ksT (rs.getD (i + 1) zTimer) n (firesT rs n i))
/-- How often the one ahead of i has come round. -/
def aheadT (rs : List TTimer) (n : Int) : Nat → Int
  | 0 => 0
  | i + 1 => firesT rs n i
theorem firesT_eq (rs : List TTimer) (n : Int) (i : Nat) : firesT rs n i = fireT (rs.getD i zTimer) (ksT (rs.getD i zTimer) n (aheadT rs n i)) := by
  cases i <;> rfl
def afterT (rs : List TTimer) (n : Int) (i : Nat) : TTimer := newT (rs.getD i zTimer) (ksT (rs.getD i zTimer) n (aheadT rs n i))
/-- The list, and how often each has come round, when the first k have ticked. -/
def tickR (rs : List TTimer) (n : Int) (k : Nat) : List TTimer := (List.range 4).map fun i => if i < k then afterT rs n i else rs.getD i zTimer
def tickF (rs : List TTimer) (n : Int) (k : Nat) : List Int := (List.range 4).map fun i => if i < k then firesT rs n i else 0
theorem tickR_len (rs : List TTimer) (n : Int) (k : Nat) : (tickR rs n k).length = 4 := by simp [tickR]
theorem tickF_len (rs : List TTimer) (n : Int) (k : Nat) : (tickF rs n k).length = 4 := by simp [tickF]
theorem tickR_at (rs : List TTimer) (n : Int) (k i : Nat) (hi : i < 4) : (tickR rs n k).getD i zTimer = if i < k then afterT rs n i else rs.getD i zTimer := by
  simp [tickR, List.getD_eq_getElem?_getD, hi]
theorem tickF_at (rs : List TTimer) (n : Int) (k i : Nat) (hi : i < 4) : (tickF rs n k).getD i 0 = if i < k then firesT rs n i else 0 := by
  simp [tickF, List.getD_eq_getElem?_getD, hi]
theorem map4 {α : Type} (f g : Nat → α) (k : Nat) (v : α) (hk : k < 4) (h1 : g k = v) (h2 : ∀ i, i ≠ k → g i = f i) : ((List.range 4).map f).set k v = (List.range 4).map g := by
  have : k = 0 ∨ k = 1 ∨ k = 2 ∨ k = 3 := by omega
  subst h1
  show [f 0, f 1, f 2, f 3].set k (g k) = [g 0, g 1, g 2, g 3]
  rcases this with rfl | rfl | rfl | rfl
  · rw [h2 1 (by decide), h2 2 (by decide), h2 3 (by decide)]; rfl
  · rw [h2 0 (by decide), h2 2 (by decide), h2 3 (by decide)]; rfl
  · rw [h2 0 (by decide), h2 1 (by decide), h2 3 (by decide)]; rfl
  · rw [h2 0 (by decide), h2 1 (by decide), h2 2 (by decide)]; rfl
theorem tickR_next (rs : List TTimer) (n : Int) (k : Nat) (hk : k < 4) : (tickR rs n k).set k (afterT rs n k) = tickR rs n (k + 1) :=
  map4 _ _ k _ hk (by simp) (fun i hi => by
    by_cases h : i < k
    · rw [if_pos h, if_pos (by omega)]
    · rw [if_neg h, if_neg (by omega)])
theorem tickF_next (rs : List TTimer) (n : Int) (k : Nat) (hk : k < 4) : (tickF rs n k).set k (firesT rs n k) = tickF rs n (k + 1) :=
  map4 _ _ k _ hk (by simp) (fun i hi => by
    by_cases h : i < k
    · rw [if_pos h, if_pos (by omega)]
    · rw [if_neg h, if_neg (by omega)])
theorem tickR_zero {rs : List TTimer} (n : Int) (h : rs.length = 4) : tickR rs n 0 = rs := by
  match rs, h with
  | [a, b, c, d], _ => rfl
theorem tickF_zero (rs : List TTimer) (n : Int) : tickF rs n 0 = [0, 0, 0, 0] := rfl
/-- Where a timer has not come round, its place in the second list is as it was. -/
theorem tickF_same (rs : List TTimer) (n : Int) (k : Nat) (hk : k < 4) (h : firesT rs n k = 0) : tickF rs n (k + 1) = tickF rs n k := by
  rw [← tickF_next rs n k hk, h]
  have hl : k < (tickF rs n k).length := by rw [tickF_len]; exact hk
  have e : (tickF rs n k)[k]'hl = 0 := by
    have := tickF_at rs n k k hk
    rw [if_neg (by omega), List.getD_eq_getElem?_getD, List.getElem?_eq_getElem hl] at this
    exact this
  conv => lhs; rw [← e]
  exact List.set_getElem_self hl
theorem fireT_range {x : TTimer} {k : Int} (hx : TmR x) (h0 : 0 ≤ k) (h1 : k ≤ 100255) : 0 ≤ fireT x k ∧ fireT x k ≤ 100255 := by
  unfold fireT
  have := hx.l0; have := hx.c0; have := hx.c1; have := hx.c2
  by_cases h : x.2.1 = 0
  · rw [if_pos h]; simp
  · rw [if_neg h]
    refine ⟨Int.ediv_nonneg (by omega) (by omega), ?_⟩
    by_cases h2 : x.2.1 = 1
    · rw [h2, Int.ediv_one]; have := hx.c2 h; omega
    · have e : (x.1 + k) / x.2.1 ≤ (x.1 + k) / 2 := by
        have hd := Int.ediv_mul_le (x.1 + k) (b := x.2.1) h
        have hq : 0 ≤ (x.1 + k) / x.2.1 := Int.ediv_nonneg (by omega) (by omega)
        have : (x.1 + k) / x.2.1 * 2 ≤ (x.1 + k) / x.2.1 * x.2.1 := Int.mul_le_mul_of_nonneg_left (by omega) hq
        omega
      omega
theorem firesT_range {rs : List TTimer} {n : Int} (h : timB rs = true) (hn : ntB n = true) : ∀ i, i < 4 → 0 ≤ firesT rs n i ∧ firesT rs n i ≤ 100255
  | 0, hi => by
    have hx := okT_tm (timB_at h 0 hi)
    have hn : 0 ≤ n ∧ n ≤ 100000 := by simpa [ntB] using hn
    have := fireT_range (k := ksT (rs.getD 0 zTimer) n 0) hx (by unfold ksT; split <;> omega) (by unfold ksT; split <;> omega)
    exact this
  | i + 1, hi => by
    have hx := okT_tm (timB_at h (i + 1) hi)
    have hn' : 0 ≤ n ∧ n ≤ 100000 := by simpa [ntB] using hn
    have ih := firesT_range h hn i (by omega)
    have := fireT_range (k := ksT (rs.getD (i + 1) zTimer) n (firesT rs n i)) hx (by unfold ksT; split <;> omega) (by unfold ksT; split <;> omega)
    exact this
theorem aheadT_range {rs : List TTimer} {n : Int} (h : timB rs = true) (hn : ntB n = true) (i : Nat) (hi : i < 4) : 0 ≤ aheadT rs n i ∧ aheadT rs n i ≤ 100255 := by
  cases i with
  | zero => simp [aheadT]
  | succ i => exact firesT_range h hn i (by omega)
theorem ksT_range {rs : List TTimer} {n : Int} (h : timB rs = true) (hn : ntB n = true) (i : Nat) (hi : i < 4) : 0 ≤ ksT (rs.getD i zTimer) n (aheadT rs n i) ∧ ksT (rs.getD i zTimer) n (aheadT rs n i) ≤ 100255 := by
  have h1 := aheadT_range h hn i hi
  have h2 : 0 ≤ n ∧ n ≤ 100000 := by simpa [ntB] using hn
  unfold ksT
  split <;> omega
def tickRs (rs : List TTimer) (n : Int) : List TTimer := if tickC rs n = 0 then tickR rs n 4 else []
def tickFs (rs : List TTimer) (n : Int) : List Int := if tickC rs n = 0 then tickF rs n 4 else []
theorem timC0 {rs : List TTimer} (h : timC rs = 0) : timB rs = true := by
  unfold timC at h
  by_cases h1 : 4096 < rs.length
  · rw [if_pos h1] at h; omega
  · rw [if_neg h1] at h
    by_cases h2 : timB rs = true
    · exact h2
    · rw [if_neg h2] at h; omega
theorem timC_no {rs : List TTimer} (h : timC rs ≠ 0) : (∀ i l c, setTC rs i l c = timC rs) ∧ ∀ n, tickC rs n = timC rs := by
  unfold setTC tickC timC at *
  by_cases h1 : 4096 < rs.length
  · simp [h1]
  · by_cases h2 : timB rs = true
    · simp [h1, h2] at h
    · simp [h1, h2]
theorem timC_yes {rs : List TTimer} (h : timC rs = 0) : (∀ i l c, setTC rs i l c = if setTB i l c = true then 0 else 4) ∧ ∀ n, tickC rs n = if ntB n = true then 0 else 4 := by
  have h2 := timC0 h
  have h1 : ¬ 4096 < rs.length := by rw [timB_len h2]; omega
  exact ⟨fun i l c => by unfold setTC; rw [if_neg h1, if_pos h2], fun n => by unfold tickC; rw [if_neg h1, if_pos h2]⟩
theorem tickC0 {rs : List TTimer} {n : Int} (h : tickC rs n = 0) : timB rs = true ∧ ntB n = true := by
  by_cases h1 : timC rs = 0
  · rw [(timC_yes h1).2] at h
    by_cases h2 : ntB n = true
    · exact ⟨timC0 h1, h2⟩
    · rw [if_neg h2] at h; omega
  · rw [(timC_no h1).2] at h; exact absurd h h1
theorem setTC0 {rs : List TTimer} {i l : Int} {c : Bool} (h : setTC rs i l c = 0) : timB rs = true ∧ setTB i l c = true := by
  by_cases h1 : timC rs = 0
  · rw [(timC_yes h1).1] at h
    by_cases h2 : setTB i l c = true
    · exact ⟨timC0 h1, h2⟩
    · rw [if_neg h2] at h; omega
  · rw [(timC_no h1).1] at h; exact absurd h h1
theorem setTR_len (rs : List TTimer) (i l : Int) (c : Bool) : (setTR rs i l c).length ≤ rs.length := by unfold setTR; split <;> simp
theorem tickRs_len (rs : List TTimer) (n : Int) : (tickRs rs n).length ≤ 4 := by unfold tickRs; split <;> simp [tickR_len]
theorem tickFs_len (rs : List TTimer) (n : Int) : (tickFs rs n).length ≤ 4 := by unfold tickFs; split <;> simp [tickF_len]
end Go.Proofs.Ytagdclbpgkilgaa
