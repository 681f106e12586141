/- NewMem on both sides. Written by gen_newmem.py. -/
import Derived.Test.YtcchhbkbnbphhaaGreatDoorM10
import Derived.Test.YtcchhbkbnbphhaaGreatDoorM6
namespace Go.Proofs.YtcchhbkbnbphhaaGreatDoor
open Go.RowKit

def progZ (p : List Int) (j : Nat) : List Int := (List.range 256).map fun i => if i < j then p.getD i 0 else 255
theorem progZ_len (p : List Int) (j : Nat) : (progZ p j).length = 256 := by simp [progZ]
theorem progZ_at (p : List Int) (j i : Nat) (h : i < 256) : (progZ p j).getD i 0 = if i < j then p.getD i 0 else 255 := by
  unfold progZ
  rw [List.getD_eq_getElem?_getD, List.getElem?_map, List.getElem?_range h]
  rfl
theorem progZ_zero (p : List Int) : progZ p 0 = newZ := by
  apply ext_getD 0 (by rw [progZ_len, newZ_len])
  intro i hi
  rw [progZ_len] at hi
  rw [progZ_at _ _ _ hi, if_neg (by omega)]
  unfold newZ
  rw [List.getD_eq_getElem?_getD, List.getElem?_replicate, if_pos hi]
  rfl
theorem progZ_next (p : List Int) (j : Nat) (hj : j < 256) : (progZ p j).set j (p.getD j 0) = progZ p (j + 1) := by
  apply ext_getD 0 (by simp [progZ_len])
  intro i hi
  have hi' : i < 256 := by simpa [progZ_len] using hi
  rw [progZ_at _ _ _ hi']
  by_cases e : i = j
  · subst e
    rw [List.getD_eq_getElem?_getD, List.getElem?_set_self (by rw [progZ_len]; exact hj), if_pos (by omega)]
    rfl
  · rw [List.getD_eq_getElem?_getD, List.getElem?_set_ne (fun q => e q.symm), ← List.getD_eq_getElem?_getD, progZ_at _ _ _ hi']
    by_cases q : i < j
    · rw [if_pos q, if_pos (by omega)]
    · rw [if_neg q, if_neg (by omega)]
def zR : List Int := List.replicate 256 0
def zI : List Int := List.replicate 32 0
theorem zR_len : zR.length = 256 := List.length_replicate
theorem ownA4b {w : World} {L R b0 b1 b2 : Nat} {C : Option Addr} {c0 c1 c2 c3 : Nat} {d0 d1 d2 : List Int} {d3 : List Bool} (a : OwnI w L R (some ⟨b0, 0, none⟩) d0) (b : OwnI w L R (some ⟨b1, 0, none⟩) d1) (c : OwnI w L R (some ⟨b2, 0, none⟩) d2) (d : OwnB w L R C d3) (h01 : b0 ≠ b1) (h02 : b0 ≠ b2) (h12 : b1 ≠ b2) :
    OwnA w L R [.slice (some ⟨b0, 0, none⟩) d0.length c0, .slice (some ⟨b1, 0, none⟩) d1.length c1, .slice (some ⟨b2, 0, none⟩) d2.length c2, .slice C d3.length c3] [.I d0, .I d1, .I d2, .B d3] := by
  have blk : ∀ {g n k b : Nat}, blkL (.slice (some ⟨g, 0, none⟩) n k) = some b → b = g := by
    intro g n k b h
    rcases Nat.eq_zero_or_pos n with hz | hz
    · rw [hz, blkL_zero] at h; cases h
    · rw [blkL_some hz] at h; injection h with h; exact h.symm
  have far : ∀ {g : Nat} {dd : List Int} {k kk b : Nat}, OwnI w L R (some ⟨g, 0, none⟩) dd → blkL (.slice (some ⟨g, 0, none⟩) dd.length k) = some b → blkL (.slice C d3.length kk) = some b → False := by
    intro g dd k kk b h h1 h2
    obtain ⟨m, f, hr⟩ := h.rowOf h1
    obtain ⟨m', f', hr'⟩ := d.rowOf h2
    exact row_ne hr hr' (by decide) rfl
  refine OwnA.cons ⟨_, c0, rfl, a⟩ (OwnA.cons ⟨_, c1, rfl, b⟩ (ownIB c d) ?_) ?_
  · intro g hg hm
    obtain ⟨v, hv, he⟩ := List.mem_filterMap.1 hm
    simp only [List.mem_cons, List.not_mem_nil, or_false] at hv
    rcases hv with rfl | rfl
    · exact h12 ((blk hg).symm.trans (blk he))
    · exact far b hg he
  · intro g hg hm
    obtain ⟨v, hv, he⟩ := List.mem_filterMap.1 hm
    simp only [List.mem_cons, List.not_mem_nil, or_false] at hv
    rcases hv with rfl | rfl | rfl
    · exact h01 ((blk hg).symm.trans (blk he))
    · exact h02 ((blk hg).symm.trans (blk he))
    · exact far a hg he
theorem made_own {w : World} {b n L R : Nat} (h : Box w b 3 (madeCells #[.int .i64 0] n)) (hl : L ≤ b) (hr : b < R) : OwnI w L R (some ⟨b, 0, none⟩) (List.replicate n 0) :=
  .inr ⟨b, n, fun _ => .int .i64 0, rfl, hl, hr, by simp, made_row h, fun i hi => by
    rw [List.getD_eq_getElem?_getD, List.getElem?_replicate, if_pos (by simpa using hi)]; rfl⟩
theorem made_size (n : Nat) : (madeCells #[Value.int .i64 0] n).size = n := by simp [madeCells]
theorem made_ne {w : World} {b b1 n m : Nat} (h : Box w b 3 (madeCells #[.int .i64 0] n)) (k : Box w b1 3 (madeCells #[.int .i64 0] m)) (hne : n ≠ m) : b ≠ b1 := by
  rintro rfl
  have q : some (Obj.cells (madeCells #[.int .i64 0] n) 3 (0, 0)) = some (Obj.cells (madeCells #[.int .i64 0] m) 3 (0, 0)) := h.symm.trans k
  injection q with q
  injection q with q
  exact hne (by rw [← made_size n, q, made_size])
theorem ownI_blk {w : World} {L R : Nat} {A : Option Addr} {zs : List Int} (h : OwnI w L R A zs) (hn : 0 < zs.length) : ∃ ba, A = some ⟨ba, 0, none⟩ ∧ L ≤ ba ∧ ba < R ∧ w.cell? ⟨ba, 0, none⟩ = some (.int .i64 (zs.getD 0 0)) := by
  obtain ⟨b, m, f, e, hc, _, h1, h2, _, _⟩ := h.put 0 hn
  exact ⟨b, e, h1, h2, hc⟩
theorem made_row_ne {w : World} {b ba n : Nat} {x : Int} (h : Box w b 3 (madeCells #[.int .i64 0] n)) (hn : 0 < n) (hc : w.cell? ⟨ba, 0, none⟩ = some (.int .i64 x)) (hx : x ≠ 0) : b ≠ ba := by
  rintro rfl
  have := (made_row h).cell hn
  rw [this] at hc
  injection hc with hc
  injection hc with _ hc
  exact hx hc.symm

section
variable {M S : Nat} {fl s2 s3 : Value} {w w' : World}
end
def RN (W3 : World) (m : Nat) (W : World) : Prop := Btw m (m + 1) W3 W ∧ ∃ cs : Array Value, cs.size = 5 ∧ Box W m 31 cs
theorem RN.alloc {W3 W : World} {m : Nat} (h : RN W3 m W) (o : Obj) : RN W3 m (W.alloc o) := by
  obtain ⟨a, cs, hs, b⟩ := h
  exact ⟨a.alloc o, cs, hs, b.alloc o⟩
theorem RN.set {W3 W : World} {m : Nat} (h : RN W3 m W) (j : Nat) (v : Value) : RN W3 m (W.setCell ⟨m, j, none⟩ v) := by
  obtain ⟨a, cs, hs, b⟩ := h
  exact ⟨a.setCell (p := ⟨m, j, none⟩) (Nat.le_refl _) (Nat.lt_succ_self _) v, _, by simpa using hs, b.set j v⟩
end Go.Proofs.YtcchhbkbnbphhaaGreatDoor
