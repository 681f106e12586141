/- The places of an instruction's numbers, as pointers. Written by gen_txt2.py. -/
import Derived.Test.YtoaeofahknknhaaDoorOpTab
import Derived.Test.YtoaeofahknknhaaDoorApp
namespace Go.Proofs.YtoaeofahknknhaaDoor
open Go.RowKit

/-- The slice at A holds these pointers. -/
def PtrL (w : World) (lo : Nat) (A : Option Addr) (ps : List Addr) : Prop := ∀ i, i < ps.length → ∃ g, lo ≤ g ∧ A = some ⟨g, 0, none⟩ ∧ w.cell? ⟨g, i, none⟩ = some (.pointer (some (ps.getD i ⟨0, 0, none⟩)))
theorem PtrL.below {w w' : World} {lo : Nat} {A : Option Addr} {ps : List Addr} (h : PtrL w lo A ps) (hb : Below w.heap.size w w') : PtrL w' lo A ps := fun i hi => by
  obtain ⟨g, l, e, hc⟩ := h i hi
  exact ⟨g, l, e, (hb.cell (cell_lt hc)).trans hc⟩
set_option maxRecDepth 100000 in
theorem elemPtr : Elem Tryd.prog 98 (.pointer none) 1 8 := ⟨⟨_, rfl, rfl, rfl, rfl⟩, rfl, by decide⟩
def ptrV (p : Addr) : Value := .pointer (some p)
theorem PtrL.of_row {w : World} {base : Nat} {A : Option Addr} {n c : Nat} {ps : List Addr} (h : w.ownsRow base 98 1 (.slice A n c) n (ps.map ptrV)) : PtrL w base A ps := by
  intro i hi
  obtain ⟨h1, ⟨h0, h2⟩ | ⟨g, cap, cur, hv, q1, q2, q3, q4, q5, q6⟩⟩ := h
  · subst h2; simp at h1; rw [h1] at hi; simp at hi
  · injection hv with hv1 hv2 hv3
    refine ⟨g, q1, hv1, ?_⟩
    simp only [List.length_map, Nat.mul_one] at h1
    have : (cur.toList.take (n * 1))[i]? = (ps.map ptrV)[i]? := by rw [q6]
    rw [List.getElem?_take, if_pos (by omega), Array.getElem?_toList, List.getElem?_map, List.getElem?_eq_getElem hi] at this
    refine (show Box w g 98 cur from q2).cell i ?_
    simpa [ptrV, List.getD_eq_getElem?_getD, List.getElem?_eq_getElem hi] using this
theorem PtrL.wide {w : World} {lo lo' : Nat} {A : Option Addr} {ps : List Addr} (h : PtrL w lo A ps) (hl : lo' ≤ lo) : PtrL w lo' A ps := fun i hi => by
  obtain ⟨g, l, e, hc⟩ := h i hi
  exact ⟨g, Nat.le_trans hl l, e, hc⟩
/-- The call hands back pointers. -/
def GivesP (ps : List Addr) (w : World) (e : Ending) (w' : World) : Prop := ∃ A n c, e = .returned (.slice A n c) ∧ ps.length = n ∧ Hid (PtrL w' w.heap.size A ps) ∧ Below w.heap.size w w'
def placesL (r a : Int) (b : Nat) : List Addr := (if 0 < r then [⟨b, 1, none⟩] else []) ++ (if 0 < a then [⟨b, 2, none⟩] else [])
section
variable (s : ByteArray) (r a c : Int) (b : Nat) (w : World)
set_option maxRecDepth 100000 in
set_option maxHeartbeats 4000000 in
theorem numbersI : Calls Tryd.prog 73 #[.agg #[.string s, .int .i64 r, .int .i64 a, .int .i64 c], .pointer (some ⟨b, 0, none⟩)] w (GivesP (placesL r a b) w) := by
  have HE : Hid (placesL r a b = (if 0 < r then [⟨b, 1, none⟩] else []) ++ (if 0 < a then [⟨b, 2, none⟩] else [])) := Lib.hid rfl
  generalize placesL r a b = ps at HE ⊢
  have HB0 : Hid (Below w.heap.size w (w.alloc (.cells #[.string s, .int .i64 r, .int .i64 a, .int .i64 c] 69))) := Lib.hid (alloc_below _ _)
  have X0 : Hid (Box (w.alloc (.cells #[.string s, .int .i64 r, .int .i64 a, .int .i64 c] 69)) w.heap.size 69 #[.string s, .int .i64 r, .int .i64 a, .int .i64 c]) := Lib.hid (Box.new _ _ _)
  by_cases h1 : 0 < r
  · by_cases h2 : 0 < a
    · skip
      have HP : Hid (ps = [⟨b, 1, none⟩, ⟨b, 2, none⟩]) := Lib.hid (by rw [HE.out, if_pos h1, if_pos h2]; rfl)
      clear HE
      have x1 := X0.out.cell 1 rfl
      have x2 := X0.out.cell 2 rfl
      have HR : Hid ((w.alloc (.cells #[.string s, .int .i64 r, .int .i64 a, .int .i64 c] 69)).ownsRow (w.heap.size + 1) 98 1 (.slice none 0 0) 0 []) := Lib.hid (rowv_nil _ _ _ _)
      have X := X0
      have HB := HB0
      have hs : w.heap.size + 1 ≤ (w.alloc (.cells #[.string s, .int .i64 r, .int .i64 a, .int .i64 c] 69)).heap.size := by simp
      have HBa : Hid (Below (w.alloc (.cells #[.string s, .int .i64 r, .int .i64 a, .int .i64 c] 69)).heap.size (w.alloc (.cells #[.string s, .int .i64 r, .int .i64 a, .int .i64 c] 69)) ((w.alloc (.cells #[.string s, .int .i64 r, .int .i64 a, .int .i64 c] 69)).alloc (.cells #[.pointer (some ⟨b, 1, none⟩)] 98))) := Lib.hid (alloc_below _ _)
      have HOw := Lib.hid (rowv_below HR.out HBa.out)
      have HNw : Hid (∀ i u, [Value.pointer (some ⟨b, 1, none⟩)][i]? = some u → ((w.alloc (.cells #[.string s, .int .i64 r, .int .i64 a, .int .i64 c] 69)).alloc (.cells #[.pointer (some ⟨b, 1, none⟩)] 98)).cell? ⟨w.heap.size + 1, i, none⟩ = some u) := Lib.hid (fun i u hi => by
        match i, hi with
        | 0, hi => simp at hi; subst hi; simp)
      go_enter Tryd.func73, Tryd.ntmps73
      go_wp2_with (at_builtin; refine wpList_app_one rfl (.tmp 9) (.tmp 13) 95 98 rfl (.pointer none) 1 8 elemPtr Tryd.underlying95 (w.heap.size + 1) (.slice none 0 0) 0 ([]) rfl ?_ (w.heap.size + 1) 1 rfl [.pointer (some ⟨b, 1, none⟩)] rfl ?_ ?_ ?_ ?_ ?_ ?_)
      any_goals first | rfl | exact HOw.out | exact HNw.out | (intro u hu; simp at hu; subst hu; rfl) | (unfold maxLen; omega) | omega | (simp; done) | (simp; omega)
      intro A1 c1 w1 hR hc hg hb
      have HR := Lib.hid hR
      have X1 := Lib.hid ((X.out.step HBa.out).below hb (by omega))
      have HB1 := Lib.hid ((bt HB.out HBa.out).trans (hb.mono (by omega)))
      have hs1 : w.heap.size + 1 ≤ w1.heap.size := Nat.le_trans (Nat.le_trans hs HBa.out.size) hb.size
      clear hR hb hg HOw HNw HBa
      have X := X1
      have HB := HB1
      have hs := hs1
      clear x1 x2
      have x1 := X.out.cell 1 rfl
      have x2 := X.out.cell 2 rfl
      have HBa : Hid (Below w1.heap.size w1 (w1.alloc (.cells #[.pointer (some ⟨b, 2, none⟩)] 98))) := Lib.hid (alloc_below _ _)
      have HOw := Lib.hid (rowv_below HR.out HBa.out)
      have HNw : Hid (∀ i u, [Value.pointer (some ⟨b, 2, none⟩)][i]? = some u → (w1.alloc (.cells #[.pointer (some ⟨b, 2, none⟩)] 98)).cell? ⟨w1.heap.size, i, none⟩ = some u) := Lib.hid (fun i u hi => by
        match i, hi with
        | 0, hi => simp at hi; subst hi; exact (Box.new w1 98 #[.pointer (some ⟨b, 2, none⟩)]).cell 0 rfl)
      go_wp2_with (at_builtin; refine wpList_app_one rfl (.tmp 18) (.tmp 22) 95 98 rfl (.pointer none) 1 8 elemPtr Tryd.underlying95 (w.heap.size + 1) (.slice A1 1 c1) 1 ([.pointer (some ⟨b, 1, none⟩)]) rfl ?_ (w1.heap.size) 1 rfl [.pointer (some ⟨b, 2, none⟩)] rfl ?_ ?_ ?_ ?_ ?_ ?_)
      any_goals first | rfl | exact HOw.out | exact HNw.out | (intro u hu; simp at hu; subst hu; rfl) | (unfold maxLen; omega) | omega | (simp; done) | (simp; omega)
      intro A2 c2 w2 hR hc hg hb
      have HR := Lib.hid hR
      have X2 := Lib.hid ((X.out.step HBa.out).below hb (by omega))
      have HB2 := Lib.hid ((bt HB.out HBa.out).trans (hb.mono (by omega)))
      have hs2 : w.heap.size + 1 ≤ w2.heap.size := Nat.le_trans (Nat.le_trans hs HBa.out.size) hb.size
      clear hR hb hg HOw HNw HBa
      have X := X2
      have HB := HB2
      have hs := hs2
      clear x1 x2
      have x1 := X.out.cell 1 rfl
      have x2 := X.out.cell 2 rfl
      go_wp2
      go_ret
      exact ⟨_, _, _, rfl, by rw [HP.out]; rfl, Lib.hid (PtrL.wide (PtrL.of_row (by rw [HP.out]; exact HR.out)) (Nat.le_succ _)), HB.out⟩
    · skip
      have HP : Hid (ps = [⟨b, 1, none⟩]) := Lib.hid (by rw [HE.out, if_pos h1, if_neg h2]; rfl)
      clear HE
      have x1 := X0.out.cell 1 rfl
      have x2 := X0.out.cell 2 rfl
      have HR : Hid ((w.alloc (.cells #[.string s, .int .i64 r, .int .i64 a, .int .i64 c] 69)).ownsRow (w.heap.size + 1) 98 1 (.slice none 0 0) 0 []) := Lib.hid (rowv_nil _ _ _ _)
      have X := X0
      have HB := HB0
      have hs : w.heap.size + 1 ≤ (w.alloc (.cells #[.string s, .int .i64 r, .int .i64 a, .int .i64 c] 69)).heap.size := by simp
      have HBa : Hid (Below (w.alloc (.cells #[.string s, .int .i64 r, .int .i64 a, .int .i64 c] 69)).heap.size (w.alloc (.cells #[.string s, .int .i64 r, .int .i64 a, .int .i64 c] 69)) ((w.alloc (.cells #[.string s, .int .i64 r, .int .i64 a, .int .i64 c] 69)).alloc (.cells #[.pointer (some ⟨b, 1, none⟩)] 98))) := Lib.hid (alloc_below _ _)
      have HOw := Lib.hid (rowv_below HR.out HBa.out)
      have HNw : Hid (∀ i u, [Value.pointer (some ⟨b, 1, none⟩)][i]? = some u → ((w.alloc (.cells #[.string s, .int .i64 r, .int .i64 a, .int .i64 c] 69)).alloc (.cells #[.pointer (some ⟨b, 1, none⟩)] 98)).cell? ⟨w.heap.size + 1, i, none⟩ = some u) := Lib.hid (fun i u hi => by
        match i, hi with
        | 0, hi => simp at hi; subst hi; simp)
      go_enter Tryd.func73, Tryd.ntmps73
      go_wp2_with (at_builtin; refine wpList_app_one rfl (.tmp 9) (.tmp 13) 95 98 rfl (.pointer none) 1 8 elemPtr Tryd.underlying95 (w.heap.size + 1) (.slice none 0 0) 0 ([]) rfl ?_ (w.heap.size + 1) 1 rfl [.pointer (some ⟨b, 1, none⟩)] rfl ?_ ?_ ?_ ?_ ?_ ?_)
      any_goals first | rfl | exact HOw.out | exact HNw.out | (intro u hu; simp at hu; subst hu; rfl) | (unfold maxLen; omega) | omega | (simp; done) | (simp; omega)
      intro A1 c1 w1 hR hc hg hb
      have HR := Lib.hid hR
      have X1 := Lib.hid ((X.out.step HBa.out).below hb (by omega))
      have HB1 := Lib.hid ((bt HB.out HBa.out).trans (hb.mono (by omega)))
      have hs1 : w.heap.size + 1 ≤ w1.heap.size := Nat.le_trans (Nat.le_trans hs HBa.out.size) hb.size
      clear hR hb hg HOw HNw HBa
      have X := X1
      have HB := HB1
      have hs := hs1
      clear x1 x2
      have x1 := X.out.cell 1 rfl
      have x2 := X.out.cell 2 rfl
      go_wp2
      go_ret
      exact ⟨_, _, _, rfl, by rw [HP.out]; rfl, Lib.hid (PtrL.wide (PtrL.of_row (by rw [HP.out]; exact HR.out)) (Nat.le_succ _)), HB.out⟩
  · by_cases h2 : 0 < a
    · skip
      have HP : Hid (ps = [⟨b, 2, none⟩]) := Lib.hid (by rw [HE.out, if_neg h1, if_pos h2]; rfl)
      clear HE
      have x1 := X0.out.cell 1 rfl
      have x2 := X0.out.cell 2 rfl
      have HR : Hid ((w.alloc (.cells #[.string s, .int .i64 r, .int .i64 a, .int .i64 c] 69)).ownsRow (w.heap.size + 1) 98 1 (.slice none 0 0) 0 []) := Lib.hid (rowv_nil _ _ _ _)
      have X := X0
      have HB := HB0
      have hs : w.heap.size + 1 ≤ (w.alloc (.cells #[.string s, .int .i64 r, .int .i64 a, .int .i64 c] 69)).heap.size := by simp
      have HBa : Hid (Below (w.alloc (.cells #[.string s, .int .i64 r, .int .i64 a, .int .i64 c] 69)).heap.size (w.alloc (.cells #[.string s, .int .i64 r, .int .i64 a, .int .i64 c] 69)) ((w.alloc (.cells #[.string s, .int .i64 r, .int .i64 a, .int .i64 c] 69)).alloc (.cells #[.pointer (some ⟨b, 2, none⟩)] 98))) := Lib.hid (alloc_below _ _)
      have HOw := Lib.hid (rowv_below HR.out HBa.out)
      have HNw : Hid (∀ i u, [Value.pointer (some ⟨b, 2, none⟩)][i]? = some u → ((w.alloc (.cells #[.string s, .int .i64 r, .int .i64 a, .int .i64 c] 69)).alloc (.cells #[.pointer (some ⟨b, 2, none⟩)] 98)).cell? ⟨w.heap.size + 1, i, none⟩ = some u) := Lib.hid (fun i u hi => by
        match i, hi with
        | 0, hi => simp at hi; subst hi; simp)
      go_enter Tryd.func73, Tryd.ntmps73
      go_wp2_with (at_builtin; refine wpList_app_one rfl (.tmp 18) (.tmp 22) 95 98 rfl (.pointer none) 1 8 elemPtr Tryd.underlying95 (w.heap.size + 1) (.slice none 0 0) 0 ([]) rfl ?_ (w.heap.size + 1) 1 rfl [.pointer (some ⟨b, 2, none⟩)] rfl ?_ ?_ ?_ ?_ ?_ ?_)
      any_goals first | rfl | exact HOw.out | exact HNw.out | (intro u hu; simp at hu; subst hu; rfl) | (unfold maxLen; omega) | omega | (simp; done) | (simp; omega)
      intro A2 c2 w2 hR hc hg hb
      have HR := Lib.hid hR
      have X2 := Lib.hid ((X.out.step HBa.out).below hb (by omega))
      have HB2 := Lib.hid ((bt HB.out HBa.out).trans (hb.mono (by omega)))
      have hs2 : w.heap.size + 1 ≤ w2.heap.size := Nat.le_trans (Nat.le_trans hs HBa.out.size) hb.size
      clear hR hb hg HOw HNw HBa
      have X := X2
      have HB := HB2
      have hs := hs2
      clear x1 x2
      have x1 := X.out.cell 1 rfl
      have x2 := X.out.cell 2 rfl
      go_wp2
      go_ret
      exact ⟨_, _, _, rfl, by rw [HP.out]; rfl, Lib.hid (PtrL.wide (PtrL.of_row (by rw [HP.out]; exact HR.out)) (Nat.le_succ _)), HB.out⟩
    · skip
      have HP : Hid (ps = []) := Lib.hid (by rw [HE.out, if_neg h1, if_neg h2]; rfl)
      clear HE
      have x1 := X0.out.cell 1 rfl
      have x2 := X0.out.cell 2 rfl
      have HR : Hid ((w.alloc (.cells #[.string s, .int .i64 r, .int .i64 a, .int .i64 c] 69)).ownsRow (w.heap.size + 1) 98 1 (.slice none 0 0) 0 []) := Lib.hid (rowv_nil _ _ _ _)
      have X := X0
      have HB := HB0
      have hs : w.heap.size + 1 ≤ (w.alloc (.cells #[.string s, .int .i64 r, .int .i64 a, .int .i64 c] 69)).heap.size := by simp
      go_enter Tryd.func73, Tryd.ntmps73
      go_wp2
      go_ret
      exact ⟨_, _, _, rfl, by rw [HP.out]; rfl, Lib.hid (PtrL.wide (PtrL.of_row (by rw [HP.out]; exact HR.out)) (Nat.le_succ _)), HB.out⟩
end
end Go.Proofs.YtoaeofahknknhaaDoor
