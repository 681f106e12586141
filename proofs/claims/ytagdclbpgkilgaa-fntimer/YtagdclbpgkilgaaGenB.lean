/- The laws' own functions over []int, []bool, []string, on leaves. -/
import Derived.Test.YtagdclbpgkilgaaGenA
import Derived.Test.YtagdclbpgkilgaaEqDisk
namespace Go.Proofs.Ytagdclbpgkilgaa
open Go.RowKit

/-- The call hands back a slice of its own. -/
def GivesL (n : Nat) (d : Lf) (w : World) (e : Ending) (w' : World) : Prop := ∃ A c, e = .returned (.slice A n c) ∧ Hid (OwnL w' w.heap.size w'.heap.size (.slice A n c) d) ∧ Hid (CapL (.slice A n c)) ∧ Below w.heap.size w w'
/-- The call has marked a slice. -/
def MarkedL (lo hi : Nat) (v : Value) (d : Lf) (k : Nat) (w : World) (e : Ending) (w' : World) : Prop := e = .returned (.int .i64 ((k + d.len : Nat) : Int)) ∧ Hid (OwnL w' lo hi v (d.marks k)) ∧ Touch [v] w w'
theorem capL {A : Option Addr} {n c : Nat} (h : n ≤ c) : CapL (.slice A n c) := fun A' n' c' e => by injection e with _ e2 e3; omega
theorem touch_none {w w' : World} {A : Option Addr} {c : Nat} (h : Btw 0 0 w w') : Touch [.slice A 0 c] w w' := ⟨h.os, h.tape, h.output, h.size, fun k hk _ => h.block k hk (.inr (Nat.zero_le _))⟩
theorem touch_blk {w w' : World} {g n c : Nat} (hn : 0 < n) (h : Btw g (g + 1) w w') : Touch [.slice (some ⟨g, 0, none⟩) n c] w w' := ⟨h.os, h.tape, h.output, h.size, fun k hk hm => h.block k hk (by
  have : k ≠ g := by rintro rfl; exact hm (by simp [blkL_some hn])
  omega)⟩

set_option maxRecDepth 100000 in
theorem eqLI (v v' : Value) (zs : List Int) (w : World) (h : RepL w v (.I zs)) (h' : RepL w v' (.I zs)) (hn : zs.length ≤ maxLen) :
    Calls Try.prog 35 #[v, v'] w fun e w' => e = .returned (.bool true) ∧ Below w.heap.size w w' := by
  obtain ⟨A, c, rfl, hr⟩ := h
  obtain ⟨A', c', rfl, hr'⟩ := h'
  exact eqIntSame A A' zs.length zs.length c c' zs w rfl rfl hn hr hr'
set_option maxRecDepth 100000 in
theorem markLI (v : Value) (zs : List Int) (k lo hi : Nat) (w : World) (h : OwnL w lo hi v (.I zs)) (hk : 1 ≤ k) (hn : zs.length ≤ 4294967296) (hk2 : k ≤ 549755813888) :
    Calls Try.prog 36 #[v, .int .i64 (k : Int)] w (MarkedL lo hi v (.I zs) k w) := by
  obtain ⟨A, c, rfl, ho⟩ := h
  rcases Nat.eq_zero_or_pos zs.length with hz | hz
  · have hz' : zs = [] := List.eq_nil_of_length_eq_zero hz
    subst hz'
    refine (markIntSs A 0 c k 0 0 [] w rfl hk (by omega) (by omega) (.inl rfl)).mono ?_
    rintro e w' ⟨rfl, S, hb⟩
    exact ⟨rfl, Lib.hid ⟨A, c, rfl, .inl rfl⟩, touch_none hb⟩
  · rcases ho with rfl | ⟨b, m, f, rfl, h1, h2, hm, hr, hf⟩
    · simp at hz
    · refine (markIntSs _ zs.length c k b (b + 1) zs w rfl hk (by omega) (by omega) (.inr ⟨b, m, f, rfl, Nat.le_refl _, Nat.lt_succ_self _, hm, hr, hf⟩)).mono ?_
      rintro e w' ⟨rfl, S, hb⟩
      exact ⟨rfl, Lib.hid ⟨_, c, by simp [marksI], S.out.wideB h1 h2⟩, touch_blk hz hb⟩
set_option maxRecDepth 100000 in
theorem heldLI (v : Value) (zs : List Int) (k : Nat) (w : World) (h : RepL w v ((Lf.I zs).marks k)) (hk : 1 ≤ k) (hn : zs.length ≤ 4294967296) (hk2 : k ≤ 549755813888) :
    Calls Try.prog 37 #[v, .int .i64 (k : Int)] w fun e w' => e = .returned (.int .i64 ((k + (Lf.I zs).len : Nat) : Int)) ∧ Below w.heap.size w w' := by
  obtain ⟨A, c, rfl, hr⟩ := h
  have hl : (marksI k zs.length).length = zs.length := by simp [marksI]
  rw [hl]
  refine (heldIntS A zs.length c k w hk (by omega) hr).mono ?_
  rintro e w' ⟨rfl, hb⟩
  exact ⟨rfl, hb ▸ Below.refl _ _⟩
end Go.Proofs.Ytagdclbpgkilgaa
