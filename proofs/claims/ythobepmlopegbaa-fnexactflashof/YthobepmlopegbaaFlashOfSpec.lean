/- Contracts of the model's l04Flash and FlashOf. -/
import Derived.Test.YthobepmlopegbaaFlashOfImpl
import Derived.Test.YthobepmlopegbaaNewFlash
namespace Go.Proofs.Ythobepmlopegbaa
open Go.RowKit

set_option maxRecDepth 100000 in
theorem elemBool : Elem Try.prog 4 (.bool false) 1 1 := ⟨⟨_, rfl, rfl, rfl, rfl⟩, rfl, by decide⟩
/-- A []bool of the call's own that grows. -/
def GroB (w : World) (base : Nat) (v : Value) (gs : List Bool) : Prop := w.ownsRow base 4 1 v gs.length (gs.map Value.bool)
theorem GroB.own {w : World} {base lo : Nat} {A : Option Addr} {n c : Nat} {zs : List Bool} (h : GroB w base (.slice A n c) zs) (hb : lo ≤ base) : OwnB w lo w.heap.size A zs := by
  obtain ⟨h1, ⟨h0, h2⟩ | ⟨g, cap, cur, hv, q1, q2, q3, q4, q5, q6⟩⟩ := h
  · exact .inl (List.eq_nil_of_length_eq_zero h2)
  · injection hv with hv1 hv2 hv3
    refine .inr ⟨g, cap, fun i => cur.getD i (.int .i64 0), hv1, by omega, (Array.getElem?_eq_some_iff.1 q2).1, q3, ⟨cur, q2, by omega, fun i hi => ?_⟩, fun i hi => ?_⟩
    · simp [Array.getElem?_eq_getElem (show i < cur.size by omega)]
    · have : (cur.toList.take (zs.length * 1))[i]? = (zs.map (Value.bool))[i]? := by rw [q6]
      rw [List.getElem?_take, if_pos (by omega), Array.getElem?_toList, List.getElem?_map, List.getElem?_eq_getElem hi] at this
      simp [this, List.getD_eq_getElem?_getD, List.getElem?_eq_getElem hi]

/-- The page's bytes from the k-th on, as the model reads them. -/
theorem byte_at (t : ByteArray) (k : Nat) (ht : t.size = 32) (hk : k < 16) : byteOf (t.extract (2 * k) (2 * k + 2)) = readNum hexL 0 ((t.data.toList.drop (k * 2)).take 2) := by
  unfold byteOf
  have hs : (t.extract (2 * k) (2 * k + 2)).size = 2 := by rw [ByteArray.size_extract, ht]; omega
  rw [if_pos hs, ext_list, show 2 * k + 2 - 2 * k = 2 by omega, Nat.mul_comm 2 k]
theorem nums_step (t : ByteArray) (k : Nat) (hk : k < 16) : pageNums hexL 2 (16 - k) (t.data.toList.drop (k * 2)) = match readNum hexL 0 ((t.data.toList.drop (k * 2)).take 2) with | none => none | some v => (pageNums hexL 2 (16 - (k + 1)) (t.data.toList.drop ((k + 1) * 2))).map ((v : Int) :: ·) := by
  rw [show 16 - k = (16 - (k + 1)) + 1 by omega, pageNums, List.drop_drop, show k * 2 + 2 = (k + 1) * 2 by omega]
  cases readNum hexL 0 ((t.data.toList.drop (k * 2)).take 2) <;> rfl
theorem dig_bin (b : UInt8) : digI binL (b.toNat : Int) = if b.toNat = 48 then some 0 else if b.toNat = 49 then some 1 else none := by
  unfold binL
  by_cases h : b.toNat = 48
  · rw [if_pos h, digI_hit _ _ _ (by rw [h]; rfl)]
  · rw [if_neg h, digI_miss _ _ _ (by intro e; apply h; have : (48 : UInt8).toNat = 48 := rfl; omega)]
    by_cases h2 : b.toNat = 49
    · rw [if_pos h2, digI_hit _ _ _ (by rw [h2]; rfl)]; rfl
    · rw [if_neg h2, digI_miss _ _ _ (by intro e; apply h2; have : (49 : UInt8).toNat = 49 := rfl; omega), digI_nil]; rfl
/-- The protection from the k-th block on. -/
def guardFrom (t : ByteArray) (k : Nat) : Option (List Bool) := (pageNums binL 1 (16 - k) (t.data.toList.drop k)).map (·.map (fun z => decide (z = 1)))
theorem guardFrom_step (t : ByteArray) (k : Nat) (hk : k < 16) (ht : t.size = 16) : guardFrom t k = if (t[k]'(by omega)).toNat = 48 ∨ (t[k]'(by omega)).toNat = 49 then (guardFrom t (k + 1)).map (decide ((t[k]'(by omega)).toNat = 49) :: ·) else none := by
  unfold guardFrom
  rw [show 16 - k = (16 - (k + 1)) + 1 by omega, pageNums, drop_byte t k (by omega)]
  generalize t[k]'(by omega) = b
  show Option.map _ (match (match digI binL (b.toNat : Int) with | none => none | some v => readNum binL (0 * binL.length + v) []) with | none => none | some v => (pageNums binL 1 (16 - (k + 1)) (t.data.toList.drop (k + 1))).map ((v : Int) :: ·)) = _
  rw [dig_bin]
  by_cases h : b.toNat = 48
  · rw [if_pos h, if_pos (.inl h)]
    have h9 : decide (b.toNat = 49) = false := by simp; omega
    rw [h9]
    cases pageNums binL 1 (16 - (k + 1)) (t.data.toList.drop (k + 1)) <;> simp [readNum]
  · rw [if_neg h]
    by_cases h2 : b.toNat = 49
    · rw [if_pos h2, if_pos (.inr h2)]
      have h9 : decide (b.toNat = 49) = true := by simp; omega
      rw [h9]
      cases pageNums binL 1 (16 - (k + 1)) (t.data.toList.drop (k + 1)) <;> simp [readNum]
    · rw [if_neg h2, if_neg (by omega)]; rfl
theorem guardFrom_zero (t : ByteArray) (ht : t.size = 16) : guardFrom t 0 = guardP t := by
  unfold guardFrom guardP page1
  rw [if_pos ht]; rfl
theorem guardFrom_end (t : ByteArray) : guardFrom t 16 = some [] := by simp [guardFrom, pageNums]

/-- A row of another element type is as it was when a row has grown. -/
theorem rowv_grown {w w' : World} {base base' n n' : Nat} {e e' : TypeId} {v v' : Value} {xs xs' : List Value} (h : w.ownsRow base' e' 1 v' n' xs') (hr : w.ownsRow base e 1 v n xs) (ht : e' ≠ e) (hg : w.grownBy w' v.ownBlock) : w'.ownsRow base' e' 1 v' n' xs' := by
  obtain ⟨h1, h0 | ⟨g, cap, cur, rfl, q1, q2, q3⟩⟩ := h
  · exact ⟨h1, .inl h0⟩
  · exact ⟨h1, .inr ⟨g, cap, cur, rfl, q1, Box.grown (cs := cur) q2 hr ht hg, q3⟩⟩
/-- What l04Flash reads. -/
def pairO : Option (List Int) → Option (List Bool) → Option (List Int × List Bool)
  | some z, some g => some (z, g)
  | _, _ => none
def flashL (ss : List ByteArray) : Option (List Int × List Bool) := pairO (cellsP (ss.take 16)) (guardP (ss.getD 16 ByteArray.empty))
theorem nonePair {a : Option (List Int)} {b : Option (List Bool)} (h : a = none ∨ b = none) : pairO a b = none := by
  rcases h with rfl | rfl
  · rfl
  · cases a <;> rfl
def GivesL04 (ss : List ByteArray) (w : World) (e : Ending) (w' : World) : Prop :=
  ((flashL ss = none ∧ e = .returned (.tuple #[.agg #[.slice none 0 0, .slice none 0 0, .int .i64 0], .bool false])) ∨ (∃ z g A c C d, flashL ss = some (z, g) ∧ e = .returned (.tuple #[.agg #[.slice A 256 c, .slice C 16 d, .int .i64 0], .bool true]) ∧ Hid (OwnI w' w.heap.size w'.heap.size A z) ∧ Hid (OwnB w' w.heap.size w'.heap.size C g) ∧ z.length = 256 ∧ g.length = 16)) ∧ Below w.heap.size w w'
/-- What the loops keep of memory. -/
structure FL (w wr : World) (A : Option Addr) (n c : Nat) (acc : List Int) (C : Option Addr) (m d : Nat) (gs : List Bool) : Prop where
  bel : Below w.heap.size w wr
  r : Box wr w.heap.size 26 #[.slice none 0 0, .slice none 0 0, .int .i64 0]
  f : Box wr (w.heap.size + 3) 26 #[.slice A n c, .slice C m d, .int .i64 0]
  i : wr.ownsRow (w.heap.size + 1) 3 1 (.slice A n c) n (acc.map (Value.int .i64))
  b : wr.ownsRow (w.heap.size + 1) 4 1 (.slice C m d) m (gs.map Value.bool)
  len : acc.length = n
  lem : gs.length = m
theorem FL.step {w wr w2 : World} {A : Option Addr} {n c : Nat} {acc : List Int} {C : Option Addr} {m d : Nat} {gs : List Bool} (h : FL w wr A n c acc C m d gs) (hb : Below wr.heap.size wr w2) : FL w w2 A n c acc C m d gs :=
  ⟨bt h.bel hb, h.r.step hb, h.f.step hb, rowv_below h.i hb, rowv_below h.b hb, h.len, h.lem⟩
theorem FL.size {w wr : World} {A : Option Addr} {n c : Nat} {acc : List Int} {C : Option Addr} {m d : Nat} {gs : List Bool} (h : FL w wr A n c acc C m d gs) : w.heap.size + 4 ≤ wr.heap.size := by have := h.f.lt; omega
/-- A number was appended, and the slice stored. -/
theorem FL.int {w w1 w2 : World} {A A2 : Option Addr} {n c c2 : Nat} {acc : List Int} {C : Option Addr} {m d : Nat} {gs : List Bool} {v : Int} (h : FL w w1 A n c acc C m d gs) (hR : w2.ownsRow (w.heap.size + 1) 3 1 (.slice A2 (n + 1) c2) (n + 1) (acc.map (Value.int .i64) ++ [.int .i64 v])) (hg : w1.grownBy w2 (Value.slice A n c).ownBlock) (hb : Below (w.heap.size + 1) w1 w2) :
    FL w (w2.setCell ⟨w.heap.size + 3, 0, none⟩ (.slice A2 (n + 1) c2)) A2 (n + 1) c2 (acc ++ [v]) C m d gs := by
  have F2 := h.f.grown h.i (by decide) hg
  have R2 := h.r.below hb (by omega)
  have B2 := rowv_grown h.b h.i (by decide) hg
  have bz : Below w.heap.size w w2 := h.bel.trans (hb.mono (by omega))
  refine ⟨bz.setCell (p := ⟨w.heap.size + 3, 0, none⟩) (by show w.heap.size ≤ w.heap.size + 3; omega) _, R2.far (p := ⟨w.heap.size + 3, 0, none⟩) (by show w.heap.size ≠ w.heap.size + 3; omega) _, F2.set 0 _, ?_, rowv_setBox B2 F2 (by decide) 0 _, by simp [h.len], h.lem⟩
  have := rowv_setBox hR F2 (by decide) 0 (.slice A2 (n + 1) c2)
  simpa using this
theorem FL.bool {w w1 w2 : World} {A C2 : Option Addr} {n c d2 : Nat} {acc : List Int} {C : Option Addr} {m d : Nat} {gs : List Bool} {v : Bool} (h : FL w w1 A n c acc C m d gs) (hR : w2.ownsRow (w.heap.size + 1) 4 1 (.slice C2 (m + 1) d2) (m + 1) (gs.map Value.bool ++ [.bool v])) (hg : w1.grownBy w2 (Value.slice C m d).ownBlock) (hb : Below (w.heap.size + 1) w1 w2) :
    FL w (w2.setCell ⟨w.heap.size + 3, 1, none⟩ (.slice C2 (m + 1) d2)) A n c acc C2 (m + 1) d2 (gs ++ [v]) := by
  have F2 := h.f.grown h.b (by decide) hg
  have R2 := h.r.below hb (by omega)
  have B2 := rowv_grown h.i h.b (by decide) hg
  have bz : Below w.heap.size w w2 := h.bel.trans (hb.mono (by omega))
  refine ⟨bz.setCell (p := ⟨w.heap.size + 3, 1, none⟩) (by show w.heap.size ≤ w.heap.size + 3; omega) _, R2.far (p := ⟨w.heap.size + 3, 1, none⟩) (by show w.heap.size ≠ w.heap.size + 3; omega) _, F2.set 1 _, rowv_setBox B2 F2 (by decide) 1 _, ?_, h.len, by simp [h.lem]⟩
  have := rowv_setBox hR F2 (by decide) 1 (.slice C2 (m + 1) d2)
  simpa using this
theorem FL.new (w : World) : FL w ((((w.alloc (.cells #[.slice none 0 0, .slice none 0 0, .int .i64 0] 26)).alloc (.cells #[] 3)).alloc (.cells #[] 4)).alloc (.cells #[.slice (some ⟨w.heap.size + 1, 0, none⟩) 0 0, .slice (some ⟨w.heap.size + 1 + 1, 0, none⟩) 0 0, .int .i64 0] 26)) (some ⟨w.heap.size + 1, 0, none⟩) 0 0 [] (some ⟨w.heap.size + 1 + 1, 0, none⟩) 0 0 [] := by
  refine ⟨bt (bt (bt (alloc_below _ _) (alloc_below _ _)) (alloc_below _ _)) (alloc_below _ _), (((Box.new _ _ _).alloc _).alloc _).alloc _, ?_, ?_, ?_, rfl, rfl⟩
  · have := Box.new (((w.alloc (.cells #[.slice none 0 0, .slice none 0 0, .int .i64 0] 26)).alloc (.cells #[] 3)).alloc (.cells #[] 4)) 26 #[.slice (some ⟨w.heap.size + 1, 0, none⟩) 0 0, .slice (some ⟨w.heap.size + 1 + 1, 0, none⟩) 0 0, .int .i64 0]
    simpa using this
  · refine rowv_empty (Nat.le_refl _) ?_
    have := ((Box.new (w.alloc (.cells #[.slice none 0 0, .slice none 0 0, .int .i64 0] 26)) 3 #[]).alloc (.cells #[] 4)).alloc (.cells #[.slice (some ⟨w.heap.size + 1, 0, none⟩) 0 0, .slice (some ⟨w.heap.size + 1 + 1, 0, none⟩) 0 0, .int .i64 0] 26)
    simpa using this
  · refine rowv_empty (by omega) ?_
    have := (Box.new ((w.alloc (.cells #[.slice none 0 0, .slice none 0 0, .int .i64 0] 26)).alloc (.cells #[] 3)) 4 #[]).alloc (.cells #[.slice (some ⟨w.heap.size + 1, 0, none⟩) 0 0, .slice (some ⟨w.heap.size + 1 + 1, 0, none⟩) 0 0, .int .i64 0] 26)
    simpa using this
end Go.Proofs.Ythobepmlopegbaa
