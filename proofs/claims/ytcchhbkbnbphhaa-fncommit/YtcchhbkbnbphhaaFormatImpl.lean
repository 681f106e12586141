/- Contracts of firstRoot and of impl.Format. -/
import Derived.Test.YtcchhbkbnbphhaaM2
import Derived.Test.YtcchhbkbnbphhaaM7
import Derived.Test.YtcchhbkbnbphhaaReadSpec
import Derived.Test.YtcchhbkbnbphhaaM5
import Derived.Deep.RegionHeld3
namespace Go.Proofs.Ytcchhbkbnbphhaa
open Go.RowKit

def tab0 (k : Nat) : List Int := (List.range k).map fun i => ((2 + i : Nat) : Int)
theorem tab0_len (k : Nat) : (tab0 k).length = k := by simp [tab0]
theorem tab0_step (k : Nat) : tab0 (k + 1) = tab0 k ++ [((2 + k : Nat) : Int)] := by simp [tab0, List.range_succ]
theorem tab0_at (i : Nat) (h : i < 17) : (tab0 17).getD i 0 = ((2 + i : Nat) : Int) := by simp [tab0, List.getD_eq_getElem?_getD, h]
theorem tab0_in : ∀ z ∈ tab0 17, 0 ≤ z ∧ z ≤ 99 := fun z hz => by
  obtain ⟨i, hi, rfl⟩ := List.mem_map.1 hz
  have := List.mem_range.1 hi
  omega

set_option maxRecDepth 100000 in
set_option maxHeartbeats 2000000 in
theorem firstRoot (w : World) : Calls Try.prog 51 #[] w (GivesRoot 1 (tab0 17) w) := by
  obtain ⟨W0, hW0⟩ : ∃ W0, W0 = (w.alloc (.cells #[.int .i64 0, .slice none 0 0] 31)).alloc (.cells #[.int .i64 1, .slice none 0 0] 31) := ⟨_, rfl⟩
  have hb0 : Below w.heap.size w W0 := by rw [hW0]; exact bt (alloc_below _ _) (alloc_below _ _)
  have X0 : Hid (Box W0 w.heap.size 31 #[.int .i64 0, .slice none 0 0]) := Lib.hid (by rw [hW0]; exact (Box.new _ _ _).alloc _)
  have X1 : Hid (Box W0 (w.heap.size + 1) 31 #[.int .i64 1, .slice none 0 0]) := Lib.hid (by
    rw [hW0]; simpa using Box.new (w.alloc (.cells #[.int .i64 0, .slice none 0 0] 31)) 31 #[.int .i64 1, .slice none 0 0])
  have hs0 : w.heap.size + 2 ≤ W0.heap.size := by have := X1.out.lt; omega
  have HW0 := Lib.hid hW0
  clear hW0
  go_enter Try.func51, Try.ntmps51
  go_wp2
  rw [← HW0.out]
  clear HW0
  go_loopw [4] (fun i wr => ∃ (k : Nat) (A : Option Addr) (c : Nat), k ≤ 17 ∧ i = .int .i64 k ∧ Below w.heap.size w wr ∧ Hid (Box wr w.heap.size 31 #[.int .i64 0, .slice none 0 0]) ∧ Hid (Box wr (w.heap.size + 1) 31 #[.int .i64 1, .slice A k c]) ∧ Hid (GroI wr (w.heap.size + 2) (.slice A k c) (tab0 k)) ∧ k ≤ c ∧ w.heap.size + 2 ≤ wr.heap.size) (fun i _ => 17 - (intOf i).toNat)
  case atStart => exact ⟨0, none, 0, by omega, rfl, hb0, X0, X1, Lib.hid (rowv_nil _ _ _ _), Nat.le_refl _, hs0⟩
  case round =>
    clear hb0 X0 X1 hs0
    obtain ⟨k, A, c, hk, rfl, hbw, X0, X1, HG, hcap, hsz⟩ := hrel
    have f1 := X1.out.cell 1 rfl
    by_cases hlt : k < 17
    · have hi : (k : Int) < 17 := by omega
      have HRk : Hid (wr.ownsRow (w.heap.size + 2) 3 1 (.slice A k c) k ((tab0 k).map (Value.int .i64))) := Lib.hid (by have := HG.out; unfold GroI at this; rwa [tab0_len] at this)
      have HSt := Lib.hid (tab0_step k)
      have HLz := Lib.hid (tab0_len k)
      generalize tab0 k = zs at HRk HSt HLz
      rw [show ((2 + k : Nat) : Int) = 2 + (k : Int) by omega] at HSt
      have HBa : Hid (Below wr.heap.size wr (wr.alloc (.cells #[.int .i64 (2 + (k : Int))] 3))) := Lib.hid (alloc_below _ _)
      have HOw := Lib.hid (rowv_below HRk.out HBa.out)
      have HNw : Hid (∀ i u, [Value.int .i64 (2 + (k : Int))][i]? = some u → (wr.alloc (.cells #[.int .i64 (2 + (k : Int))] 3)).cell? ⟨wr.heap.size, i, none⟩ = some u) := Lib.hid (fun i u hi => by
        match i, hi with
        | 0, hi => simp at hi; subst hi; exact (Box.new wr 3 #[.int .i64 (2 + (k : Int))]).cell 0 rfl)
      clear HG
      go_wp2_with (at_builtin; refine wpList_app_one rfl (.tmp 8) (.tmp 11) 29 3 rfl (.int .i64 0) 1 8 elemInt Try.underlying29 (w.heap.size + 2) (.slice A k c) k (zs.map (Value.int .i64)) rfl ?hown wr.heap.size 1 rfl [.int .i64 (2 + (k : Int))] rfl ?hnews ?hone ?h63 ?hby ?hbase ?_)
      case hown => exact HOw.out
      case hnews => exact HNw.out
      case hone => intro u hu; simp at hu; subst hu; rfl
      case h63 => unfold maxLen; omega
      case hby => omega
      case hbase => simp; omega
      intro A2 c2 w2 hR2 hc2 hg2 hb2
      have HR2 := Lib.hid hR2
      have Y0 := Lib.hid ((X0.out.step HBa.out).below hb2 (by omega))
      have Y1 := Lib.hid ((X1.out.step HBa.out).below hb2 (by omega))
      have hbz : Below w.heap.size w w2 := (bt hbw HBa.out).trans (hb2.mono (by omega))
      have hs2 : w.heap.size + 2 ≤ w2.heap.size := Nat.le_trans (Nat.le_trans hsz HBa.out.size) hb2.size
      have y0 := Y1.out.cell 1 rfl
      have y1 := Y1.out.frozen 1
      have HRs := Lib.hid (rowv_setBox HR2.out Y1.out (by decide) 1 (.slice A2 (k + 1) c2))
      clear hR2 hb2 hg2 f1
      go_wp2
      go_roundw
      case rel => exact ⟨k + 1, A2, c2, by omega, by go_num, hbz.setCell (by show w.heap.size ≤ w.heap.size + 1; omega) _, Lib.hid (Y0.out.far (by show w.heap.size ≠ w.heap.size + 1; omega) _), Lib.hid (Y1.out.set 1 _), Lib.hid (by unfold GroI; rw [HSt.out, List.length_append, HLz.out, List.map_append]; exact HRs.out), hc2, by simpa [World.setCell] using hs2⟩
      case measure => simp [intOf]; omega
    · obtain rfl : k = 17 := by omega
      have y0 := X1.out.cell 0 rfl
      have y2 := X0.out.cell 0 rfl
      have y3 := X0.out.cell 1 rfl
      have y4 := X0.out.frozen 0
      have y5 := X0.out.frozen 1
      go_wp2
      refine bodyPost_ret (v := .agg #[.int .i64 1, .slice A 17 c]) (by simp [results, Try.results51, go_sem, y2, y3]) rfl ?_
      refine ⟨_, _, _, rfl, Lib.hid (tab0_len _), Lib.hid ?_, hcap, below_st2 hbw (Nat.le_refl _) _ _⟩
      exact ((HG.out.own (lo := w.heap.size) (by omega)).two X0.out (by decide) _ _).wide (Nat.le_refl _) (by simp [World.setCell])

def fmtN (ps : List ByteArray) : Nat → List ByteArray
  | 0 => newSs
  | k + 1 => (fmtN ps k).set (2 + k) (ps.getD k ByteArray.empty)
theorem fmtN_len (ps : List ByteArray) : ∀ k, (fmtN ps k).length = 48
  | 0 => newSs_len
  | k + 1 => by rw [fmtN, List.length_set, fmtN_len ps k]
def fmtL (ps : List ByteArray) : List ByteArray := (fmtN ps 17).set 0 (rootTx 1 (tab0 17))
theorem fmtL_len (ps : List ByteArray) : (fmtL ps).length = 48 := by unfold fmtL; rw [List.length_set, fmtN_len]
theorem ownS_row {w : World} {lo hi : Nat} {A : Option Addr} {ss : List ByteArray} (h : OwnS w lo hi A ss) (hn : 0 < ss.length) : ∃ b m, A = some ⟨b, 0, none⟩ ∧ lo ≤ b ∧ b < hi ∧ RowS w b ss.length m ss := by
  rcases h with e | ⟨b, m, f, e, h1, h2, hm, hr, hf⟩
  · subst e; simp at hn
  · exact ⟨b, m, e, h1, h2, rfl, hm, f, hr, hf⟩
theorem RowS.boxFar {w : World} {b n m B : Nat} {l : List ByteArray} {cs : Array Value} {t : TypeId} (h : RowS w b n m l) (X : Box w B t cs) (ht : t ≠ 9) : b ≠ B := by
  obtain ⟨_, _, f, hr, _⟩ := h
  exact (X.ne hr ht).symm

end Go.Proofs.Ytcchhbkbnbphhaa
