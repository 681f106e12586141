/- Contracts of readPage: 16 numbers of one or two digits each. Written by gen_readpage.py. -/
import Derived.Test.YthobepmlopegbaaHexByte
import Derived.Test.YthobepmlopegbaaPages4
import Derived.Test.YthobepmlopegbaaReadExt
namespace Go.Proofs.Ythobepmlopegbaa
open Go.RowKit

/-- Numbers of wd digits each, one behind the other. -/
def pageNums (ds : List UInt8) (wd : Nat) : Nat → List UInt8 → Option (List Int)
  | 0, _ => some []
  | c + 1, l => match readNum ds 0 (l.take wd) with
    | none => none
    | some v => (pageNums ds wd c (l.drop wd)).map ((v : Int) :: ·)
theorem pageNums_len {ds : List UInt8} {wd : Nat} : ∀ {c : Nat} {l : List UInt8} {r : List Int}, pageNums ds wd c l = some r → r.length = c
  | 0, _, _, h => by simp [pageNums] at h; subst h; rfl
  | c + 1, l, r, h => by
    unfold pageNums at h
    split at h
    · cases h
    · cases hp : pageNums ds wd c (l.drop wd) with
      | none => rw [hp] at h; cases h
      | some r' => rw [hp] at h; simp at h; subst h; simp [pageNums_len hp]
theorem optmap_app (o : Option (List Int)) (a : List Int) (x : Int) : (o.map (x :: ·)).map (a ++ ·) = o.map ((a ++ [x]) ++ ·) := by cases o <;> simp
theorem row_app {w : World} {b n k : Nat} {t : TypeId} {acc : List Int} {v : Int} (hk : acc.length = k) (h : w.rowIs b t n (fun i => if i = k then .int .i64 v else (fun j => if j < k then Value.int .i64 (acc.getD j 0) else .int .i64 0) i)) : w.rowIs b t n (fun j => if j < k + 1 then Value.int .i64 ((acc ++ [v]).getD j 0) else .int .i64 0) :=
  h.congr fun i _ => by
    by_cases e : i = k
    · subst e
      rw [if_pos rfl, if_pos (by omega)]
      subst hk
      simp [List.getD_eq_getElem?_getD]
    · rw [if_neg e]
      by_cases e2 : i < k
      · rw [if_pos (by omega)]; simp only; rw [if_pos e2, List.getD_eq_getElem?_getD, List.getD_eq_getElem?_getD, List.getElem?_append_left (by omega)]
      · rw [if_neg (by omega)]; simp only; rw [if_neg e2]


def page1 (ds : List UInt8) (t : ByteArray) : Option (List Int) := if t.size = 16 then pageNums ds 1 16 t.data.toList else none
set_option maxRecDepth 100000 in
set_option maxHeartbeats 4000000 in
theorem readPage1 (t ds : ByteArray) (w : World) (ha : ∀ b ∈ ds.data.toList, b.toNat < 128) (hs : ds.size ≤ 16) (ht : t.size ≤ maxLen) :
    Calls Try.prog 74 #[.string t, .string ds, .int .i64 1, .int .i64 16] w fun e w' =>
      ((page1 ds.data.toList t = none ∧ e = .returned (.tuple #[.slice none 0 0, .bool false])) ∨ (∃ r A c, page1 ds.data.toList t = some r ∧ e = .returned (.tuple #[.slice A 16 c, .bool true]) ∧ Hid (OwnI w' w.heap.size w'.heap.size A r) ∧ r.length = 16)) ∧ Below w.heap.size w w' := by
  unfold maxLen at ht
  by_cases hq0 : t.size = 16
  · have hq : ((t.size : Int) != 16) = false := by simp; omega
    have HP : Hid (page1 ds.data.toList t = pageNums ds.data.toList 1 16 t.data.toList) := Lib.hid (by unfold page1; rw [if_pos hq0])
    generalize page1 ds.data.toList t = res at HP ⊢
    obtain ⟨w1, hw1⟩ : ∃ w1, w1 = (w.alloc (.cells #[.string ds] 9)).alloc (.cells #[.int .i64 ((1 : Nat) : Int)] 3) := ⟨_, rfl⟩
    have hb1 : Below w.heap.size w w1 := by rw [hw1]; exact ((Below.refl _ _).alloc (Nat.le_refl _) _).alloc (by simp) _
    have X0 : Box w1 w.heap.size 9 #[.string ds] := by rw [hw1]; exact (Box.new _ _ _).alloc _
    have X1 : Box w1 (w.heap.size + 1) 3 #[.int .i64 ((1 : Nat) : Int)] := by rw [hw1]; simpa using Box.new (w.alloc (.cells #[.string ds] 9)) 3 #[.int .i64 ((1 : Nat) : Int)]
    have hs1 : w1.heap.size = w.heap.size + 2 := by rw [hw1]; simp
    have HD := Lib.hid (digitReader ds 1 w)
    rw [← hw1] at HD
    have HX := Lib.hid (fun s W (x0 : Box W w.heap.size 9 #[.string ds]) (x1 : Box W (w.heap.size + 1) 3 #[.int .i64 ((1 : Nat) : Int)]) => digitRead s ds 1 (w.heap.size + 1) w.heap.size W ha hs (by omega) (x1.cell 0 rfl) (x0.cell 0 rfl))
    have hmk : ∀ W, (Instr.makeSlice 23 (.int .i64 16) (.int .i64 16)).run Try.prog W = .ok (.slice (some ⟨W.heap.size, 0, none⟩) 16 16) (W.alloc (.cells (madeCells #[.int .i64 0] 16) 3)) := fun W => run_make_row' (P := Try.prog) 23 3 (.int .i64 0) 8 Try.underlying23 infoI rfl .i64 .i64 16 (by omega) (by omega) W
    have HQ0 := Lib.hid hq0
    have HX0 := Lib.hid X0
    have HX1 := Lib.hid X1
    have HS1 := Lib.hid hs1
    clear hw1 X0 X1 ha hs hq0 hs1
    go_enter Try.func74, Try.ntmps74
    go_wp2_with fail
    refine HD.out.mono ?_
    rintro e w' ⟨rfl, rfl⟩
    have HR : Hid ((w1.alloc (.cells (madeCells #[.int .i64 0] 16) 3)).rowIs (w.heap.size + 2) 3 16 (fun _ => .int .i64 0)) := Lib.hid (by have := World.rowIs_made w1 (.int .i64 0) 16 3; rwa [HS1.out] at this)
    have hb2 : Below w.heap.size w (w1.alloc (.cells (madeCells #[.int .i64 0] 16) 3)) := bt hb1 (alloc_below _ _)
    have HY0 := Lib.hid (HX0.out.alloc (.cells (madeCells #[.int .i64 0] 16) 3))
    have HY1 := Lib.hid (HX1.out.alloc (.cells (madeCells #[.int .i64 0] 16) 3))
    clear HX0 HX1 hb1 HD
    go_wp2
    clear hmk
    rw [HS1.out]
    generalize w1.alloc (.cells (madeCells #[.int .i64 0] 16) 3) = w2 at HR hb2 HY0 HY1
    go_loopw [28] (fun i wr => ∃ (k : Nat) (acc : List Int), k ≤ 16 ∧ i = .int .i64 k ∧ acc.length = k ∧ Below w.heap.size w wr ∧ Hid (wr.rowIs (w.heap.size + 2) 3 16 (fun j => if j < k then Value.int .i64 (acc.getD j 0) else .int .i64 0)) ∧ Hid (res = (pageNums ds.data.toList 1 (16 - k) (t.data.toList.drop (k * 1))).map (acc ++ ·)) ∧ Hid (Box wr w.heap.size 9 #[.string ds]) ∧ Hid (Box wr (w.heap.size + 1) 3 #[.int .i64 ((1 : Nat) : Int)])) (fun i _ => 16 - (intOf i).toNat)
    case atStart => exact ⟨0, [], by omega, rfl, rfl, hb2, Lib.hid (HR.out.congr (fun i _ => by simp)), Lib.hid (by rw [HP.out]; simp), HY0, HY1⟩
    case round =>
      clear HR hb2 HY0 HY1
      obtain ⟨k, acc, hk, rfl, hacc, hbw, HRk, HT, Y0, Y1⟩ := hrel
      by_cases hlt : k < 16
      · have hi : (k : Int) < 16 := by omega
        have e1 : IntKind.i64.wrap ((k : Int) * 1) = (k : Int) * 1 := IntWalk.i64_in _ (by omega)
        have e2 : IntKind.i64.wrap ((k : Int) + 1) = (k : Int) + 1 := IntWalk.i64_in _ (by omega)
        have e3 : IntKind.i64.wrap (((k : Int) + 1) * 1) = ((k : Int) + 1) * 1 := IntWalk.i64_in _ (by omega)
        have HXk := Lib.hid (HX.out (t.extract (k) (k + 1)) wr Y0.out Y1.out)
        have hsz : (t.extract (k) (k + 1)).size = 1 := by rw [ByteArray.size_extract, HQ0.out]; omega
        have HE : Hid ((if (t.extract (k) (k + 1)).size = 1 then readNum ds.data.toList 0 (t.extract (k) (k + 1)).data.toList else none) = readNum ds.data.toList 0 ((t.data.toList.drop (k * 1)).take 1)) := Lib.hid (by rw [if_pos hsz, ext_list, show (k + 1) - (k) = 1 by omega]; simp)
        rw [HE.out] at HXk
        have HN : Hid (pageNums ds.data.toList 1 (16 - k) (t.data.toList.drop (k * 1)) = match readNum ds.data.toList 0 ((t.data.toList.drop (k * 1)).take 1) with | none => none | some v => (pageNums ds.data.toList 1 (16 - (k + 1)) (t.data.toList.drop ((k + 1) * 1))).map ((v : Int) :: ·)) := Lib.hid (by
          rw [show 16 - k = (16 - (k + 1)) + 1 by omega, pageNums, List.drop_drop, show k * 1 + 1 = (k + 1) * 1 by omega])
        generalize readNum ds.data.toList 0 ((t.data.toList.drop (k * 1)).take 1) = o at HXk HN
        have HSz := Lib.hid hsz
        have b1 : (0 : Int) ≤ (k : Int) * 1 := by omega
        have b2 : (k : Int) * 1 ≤ ((k : Int) + 1) * 1 := by omega
        have b3 : ((k : Int) + 1) * 1 ≤ (t.size : Int) := by rw [HQ0.out]; omega
        have b4 : ((k : Int) * 1).toNat = k * 1 := by omega
        have b5 : (((k : Int) + 1) * 1).toNat = (k + 1) * 1 := by omega
        clear hsz HE
        go_wp2_with fail
        refine HXk.out.mono ?_
        rintro e w3 ⟨rfl, hb3⟩
        have hbz := bt hbw hb3
        have Z0 := Lib.hid (Y0.out.step hb3)
        have Z1 := Lib.hid (Y1.out.step hb3)
        have HR3 := Lib.hid (row_below hb3 HRk.out HRk.out.lt)
        clear HRk Y0 Y1 hb3 hbw HXk b1 b2 b3 b4 b5
        cases o with
        | none =>
          have HF : Hid (res = none) := Lib.hid (by rw [HT.out, HN.out]; rfl)
          simp only [dvV, Option.isSome_none]
          go_wp2
          refine bodyPost_ret (v := .tuple #[.slice none 0 0, .bool false]) (by simp [results, Try.results74, go_sem]) rfl ?_
          exact ⟨.inl ⟨HF.out, rfl⟩, hbz⟩
        | some v =>
          simp only [dvV, Option.isSome_some]
          have hcd := HR3.out.cell hlt
          have hfr := HR3.out.frozen k
          simp only [Nat.lt_irrefl, if_false] at hcd
          have HW : Hid ((w3.setCell ⟨w.heap.size + 2, k, none⟩ (.int .i64 (v : Int))).rowIs (w.heap.size + 2) 3 16 (fun j => if j < k + 1 then Value.int .i64 ((acc ++ [(v : Int)]).getD j 0) else .int .i64 0)) := Lib.hid (row_app hacc (HR3.out.set k (.int .i64 (v : Int))))
          have HT2 : Hid (res = (pageNums ds.data.toList 1 (16 - (k + 1)) (t.data.toList.drop ((k + 1) * 1))).map ((acc ++ [(v : Int)]) ++ ·)) := Lib.hid (by rw [HT.out, HN.out]; simp only; rw [optmap_app])
          have q0 := Lib.hid (Z0.out.far (p := ⟨w.heap.size + 2, k, none⟩) (by show w.heap.size ≠ w.heap.size + 2; omega) (.int .i64 (v : Int)))
          have q1 := Lib.hid (Z1.out.far (p := ⟨w.heap.size + 2, k, none⟩) (by show w.heap.size + 1 ≠ w.heap.size + 2; omega) (.int .i64 (v : Int)))
          have hbs : Below w.heap.size w (w3.setCell ⟨w.heap.size + 2, k, none⟩ (.int .i64 (v : Int))) := hbz.setCell (by show w.heap.size ≤ w.heap.size + 2; omega) _
          have hl2 : (acc ++ [(v : Int)]).length = k + 1 := by simp [hacc]
          have HL2 := Lib.hid hl2
          clear HR3 Z0 Z1 hbz HT HN hacc hl2
          go_wp2
          go_roundw
          case rel => first | exact ⟨k + 1, acc ++ [(v : Int)], by omega, by go_num, HL2.out, hbs, HW, HT2, q0, q1⟩ | ((repeat apply Exists.intro); exact ⟨⟨k + 1, acc ++ [(v : Int)], by omega, by go_num, HL2.out, hbs, HW, HT2, q0, q1⟩, rfl⟩)
          case measure => simp [intOf]; omega
      · obtain rfl : k = 16 := by omega
        have HF : Hid (res = some acc) := Lib.hid (by rw [HT.out]; simp [pageNums])
        have HO : Hid (OwnI wr w.heap.size wr.heap.size (some ⟨w.heap.size + 2, 0, none⟩) acc) := Lib.hid (.inr ⟨w.heap.size + 2, 16, _, rfl, by omega, HRk.out.lt, by omega, HRk.out, fun i hi' => by rw [if_pos (by omega)]⟩)
        have HA := Lib.hid hacc
        clear HRk HT hacc
        go_wp2
        refine bodyPost_ret (v := .tuple #[.slice (some ⟨w.heap.size + 2, 0, none⟩) 16 16, .bool true]) (by simp [results, Try.results74, go_sem]) rfl ?_
        exact ⟨.inr ⟨acc, _, _, HF.out, rfl, HO, HA.out⟩, hbw⟩
  · have hq : ((t.size : Int) != 16) = true := by simp; omega
    have HP : Hid (page1 ds.data.toList t = none) := Lib.hid (by unfold page1; rw [if_neg hq0])
    generalize page1 ds.data.toList t = res at HP ⊢
    clear hq0 ha hs
    go_enter Try.func74, Try.ntmps74
    go_wp2
    refine bodyPost_ret (v := .tuple #[.slice none 0 0, .bool false]) (by simp [results, Try.results74, go_sem]) rfl ?_
    exact ⟨.inl ⟨HP.out, rfl⟩, Below.refl _ _⟩


def page2 (ds : List UInt8) (t : ByteArray) : Option (List Int) := if t.size = 32 then pageNums ds 2 16 t.data.toList else none
set_option maxRecDepth 100000 in
set_option maxHeartbeats 4000000 in
theorem readPage2 (t ds : ByteArray) (w : World) (ha : ∀ b ∈ ds.data.toList, b.toNat < 128) (hs : ds.size ≤ 16) (ht : t.size ≤ maxLen) :
    Calls Try.prog 74 #[.string t, .string ds, .int .i64 2, .int .i64 16] w fun e w' =>
      ((page2 ds.data.toList t = none ∧ e = .returned (.tuple #[.slice none 0 0, .bool false])) ∨ (∃ r A c, page2 ds.data.toList t = some r ∧ e = .returned (.tuple #[.slice A 16 c, .bool true]) ∧ Hid (OwnI w' w.heap.size w'.heap.size A r) ∧ r.length = 16)) ∧ Below w.heap.size w w' := by
  unfold maxLen at ht
  by_cases hq0 : t.size = 32
  · have hq : ((t.size : Int) != 32) = false := by simp; omega
    have HP : Hid (page2 ds.data.toList t = pageNums ds.data.toList 2 16 t.data.toList) := Lib.hid (by unfold page2; rw [if_pos hq0])
    generalize page2 ds.data.toList t = res at HP ⊢
    obtain ⟨w1, hw1⟩ : ∃ w1, w1 = (w.alloc (.cells #[.string ds] 9)).alloc (.cells #[.int .i64 ((2 : Nat) : Int)] 3) := ⟨_, rfl⟩
    have hb1 : Below w.heap.size w w1 := by rw [hw1]; exact ((Below.refl _ _).alloc (Nat.le_refl _) _).alloc (by simp) _
    have X0 : Box w1 w.heap.size 9 #[.string ds] := by rw [hw1]; exact (Box.new _ _ _).alloc _
    have X1 : Box w1 (w.heap.size + 1) 3 #[.int .i64 ((2 : Nat) : Int)] := by rw [hw1]; simpa using Box.new (w.alloc (.cells #[.string ds] 9)) 3 #[.int .i64 ((2 : Nat) : Int)]
    have hs1 : w1.heap.size = w.heap.size + 2 := by rw [hw1]; simp
    have HD := Lib.hid (digitReader ds 2 w)
    rw [← hw1] at HD
    have HX := Lib.hid (fun s W (x0 : Box W w.heap.size 9 #[.string ds]) (x1 : Box W (w.heap.size + 1) 3 #[.int .i64 ((2 : Nat) : Int)]) => digitRead s ds 2 (w.heap.size + 1) w.heap.size W ha hs (by omega) (x1.cell 0 rfl) (x0.cell 0 rfl))
    have hmk : ∀ W, (Instr.makeSlice 23 (.int .i64 16) (.int .i64 16)).run Try.prog W = .ok (.slice (some ⟨W.heap.size, 0, none⟩) 16 16) (W.alloc (.cells (madeCells #[.int .i64 0] 16) 3)) := fun W => run_make_row' (P := Try.prog) 23 3 (.int .i64 0) 8 Try.underlying23 infoI rfl .i64 .i64 16 (by omega) (by omega) W
    have HQ0 := Lib.hid hq0
    have HX0 := Lib.hid X0
    have HX1 := Lib.hid X1
    have HS1 := Lib.hid hs1
    clear hw1 X0 X1 ha hs hq0 hs1
    go_enter Try.func74, Try.ntmps74
    go_wp2_with fail
    refine HD.out.mono ?_
    rintro e w' ⟨rfl, rfl⟩
    have HR : Hid ((w1.alloc (.cells (madeCells #[.int .i64 0] 16) 3)).rowIs (w.heap.size + 2) 3 16 (fun _ => .int .i64 0)) := Lib.hid (by have := World.rowIs_made w1 (.int .i64 0) 16 3; rwa [HS1.out] at this)
    have hb2 : Below w.heap.size w (w1.alloc (.cells (madeCells #[.int .i64 0] 16) 3)) := bt hb1 (alloc_below _ _)
    have HY0 := Lib.hid (HX0.out.alloc (.cells (madeCells #[.int .i64 0] 16) 3))
    have HY1 := Lib.hid (HX1.out.alloc (.cells (madeCells #[.int .i64 0] 16) 3))
    clear HX0 HX1 hb1 HD
    go_wp2
    clear hmk
    rw [HS1.out]
    generalize w1.alloc (.cells (madeCells #[.int .i64 0] 16) 3) = w2 at HR hb2 HY0 HY1
    go_loopw [28] (fun i wr => ∃ (k : Nat) (acc : List Int), k ≤ 16 ∧ i = .int .i64 k ∧ acc.length = k ∧ Below w.heap.size w wr ∧ Hid (wr.rowIs (w.heap.size + 2) 3 16 (fun j => if j < k then Value.int .i64 (acc.getD j 0) else .int .i64 0)) ∧ Hid (res = (pageNums ds.data.toList 2 (16 - k) (t.data.toList.drop (k * 2))).map (acc ++ ·)) ∧ Hid (Box wr w.heap.size 9 #[.string ds]) ∧ Hid (Box wr (w.heap.size + 1) 3 #[.int .i64 ((2 : Nat) : Int)])) (fun i _ => 16 - (intOf i).toNat)
    case atStart => exact ⟨0, [], by omega, rfl, rfl, hb2, Lib.hid (HR.out.congr (fun i _ => by simp)), Lib.hid (by rw [HP.out]; simp), HY0, HY1⟩
    case round =>
      clear HR hb2 HY0 HY1
      obtain ⟨k, acc, hk, rfl, hacc, hbw, HRk, HT, Y0, Y1⟩ := hrel
      by_cases hlt : k < 16
      · have hi : (k : Int) < 16 := by omega
        have e1 : IntKind.i64.wrap ((k : Int) * 2) = (k : Int) * 2 := IntWalk.i64_in _ (by omega)
        have e2 : IntKind.i64.wrap ((k : Int) + 1) = (k : Int) + 1 := IntWalk.i64_in _ (by omega)
        have e3 : IntKind.i64.wrap (((k : Int) + 1) * 2) = ((k : Int) + 1) * 2 := IntWalk.i64_in _ (by omega)
        have HXk := Lib.hid (HX.out (t.extract (k * 2) ((k + 1) * 2)) wr Y0.out Y1.out)
        have hsz : (t.extract (k * 2) ((k + 1) * 2)).size = 2 := by rw [ByteArray.size_extract, HQ0.out]; omega
        have HE : Hid ((if (t.extract (k * 2) ((k + 1) * 2)).size = 2 then readNum ds.data.toList 0 (t.extract (k * 2) ((k + 1) * 2)).data.toList else none) = readNum ds.data.toList 0 ((t.data.toList.drop (k * 2)).take 2)) := Lib.hid (by rw [if_pos hsz, ext_list, show ((k + 1) * 2) - (k * 2) = 2 by omega])
        rw [HE.out] at HXk
        have HN : Hid (pageNums ds.data.toList 2 (16 - k) (t.data.toList.drop (k * 2)) = match readNum ds.data.toList 0 ((t.data.toList.drop (k * 2)).take 2) with | none => none | some v => (pageNums ds.data.toList 2 (16 - (k + 1)) (t.data.toList.drop ((k + 1) * 2))).map ((v : Int) :: ·)) := Lib.hid (by
          rw [show 16 - k = (16 - (k + 1)) + 1 by omega, pageNums, List.drop_drop, show k * 2 + 2 = (k + 1) * 2 by omega])
        generalize readNum ds.data.toList 0 ((t.data.toList.drop (k * 2)).take 2) = o at HXk HN
        have HSz := Lib.hid hsz
        have b1 : (0 : Int) ≤ (k : Int) * 2 := by omega
        have b2 : (k : Int) * 2 ≤ ((k : Int) + 1) * 2 := by omega
        have b3 : ((k : Int) + 1) * 2 ≤ (t.size : Int) := by rw [HQ0.out]; omega
        have b4 : ((k : Int) * 2).toNat = k * 2 := by omega
        have b5 : (((k : Int) + 1) * 2).toNat = (k + 1) * 2 := by omega
        clear hsz HE
        go_wp2_with fail
        refine HXk.out.mono ?_
        rintro e w3 ⟨rfl, hb3⟩
        have hbz := bt hbw hb3
        have Z0 := Lib.hid (Y0.out.step hb3)
        have Z1 := Lib.hid (Y1.out.step hb3)
        have HR3 := Lib.hid (row_below hb3 HRk.out HRk.out.lt)
        clear HRk Y0 Y1 hb3 hbw HXk b1 b2 b3 b4 b5
        cases o with
        | none =>
          have HF : Hid (res = none) := Lib.hid (by rw [HT.out, HN.out]; rfl)
          simp only [dvV, Option.isSome_none]
          go_wp2
          refine bodyPost_ret (v := .tuple #[.slice none 0 0, .bool false]) (by simp [results, Try.results74, go_sem]) rfl ?_
          exact ⟨.inl ⟨HF.out, rfl⟩, hbz⟩
        | some v =>
          simp only [dvV, Option.isSome_some]
          have hcd := HR3.out.cell hlt
          have hfr := HR3.out.frozen k
          simp only [Nat.lt_irrefl, if_false] at hcd
          have HW : Hid ((w3.setCell ⟨w.heap.size + 2, k, none⟩ (.int .i64 (v : Int))).rowIs (w.heap.size + 2) 3 16 (fun j => if j < k + 1 then Value.int .i64 ((acc ++ [(v : Int)]).getD j 0) else .int .i64 0)) := Lib.hid (row_app hacc (HR3.out.set k (.int .i64 (v : Int))))
          have HT2 : Hid (res = (pageNums ds.data.toList 2 (16 - (k + 1)) (t.data.toList.drop ((k + 1) * 2))).map ((acc ++ [(v : Int)]) ++ ·)) := Lib.hid (by rw [HT.out, HN.out]; simp only; rw [optmap_app])
          have q0 := Lib.hid (Z0.out.far (p := ⟨w.heap.size + 2, k, none⟩) (by show w.heap.size ≠ w.heap.size + 2; omega) (.int .i64 (v : Int)))
          have q1 := Lib.hid (Z1.out.far (p := ⟨w.heap.size + 2, k, none⟩) (by show w.heap.size + 1 ≠ w.heap.size + 2; omega) (.int .i64 (v : Int)))
          have hbs : Below w.heap.size w (w3.setCell ⟨w.heap.size + 2, k, none⟩ (.int .i64 (v : Int))) := hbz.setCell (by show w.heap.size ≤ w.heap.size + 2; omega) _
          have hl2 : (acc ++ [(v : Int)]).length = k + 1 := by simp [hacc]
          have HL2 := Lib.hid hl2
          clear HR3 Z0 Z1 hbz HT HN hacc hl2
          go_wp2
          go_roundw
          case rel => first | exact ⟨k + 1, acc ++ [(v : Int)], by omega, by go_num, HL2.out, hbs, HW, HT2, q0, q1⟩ | ((repeat apply Exists.intro); exact ⟨⟨k + 1, acc ++ [(v : Int)], by omega, by go_num, HL2.out, hbs, HW, HT2, q0, q1⟩, rfl⟩)
          case measure => simp [intOf]; omega
      · obtain rfl : k = 16 := by omega
        have HF : Hid (res = some acc) := Lib.hid (by rw [HT.out]; simp [pageNums])
        have HO : Hid (OwnI wr w.heap.size wr.heap.size (some ⟨w.heap.size + 2, 0, none⟩) acc) := Lib.hid (.inr ⟨w.heap.size + 2, 16, _, rfl, by omega, HRk.out.lt, by omega, HRk.out, fun i hi' => by rw [if_pos (by omega)]⟩)
        have HA := Lib.hid hacc
        clear HRk HT hacc
        go_wp2
        refine bodyPost_ret (v := .tuple #[.slice (some ⟨w.heap.size + 2, 0, none⟩) 16 16, .bool true]) (by simp [results, Try.results74, go_sem]) rfl ?_
        exact ⟨.inr ⟨acc, _, _, HF.out, rfl, HO, HA.out⟩, hbw⟩
  · have hq : ((t.size : Int) != 32) = true := by simp; omega
    have HP : Hid (page2 ds.data.toList t = none) := Lib.hid (by unfold page2; rw [if_neg hq0])
    generalize page2 ds.data.toList t = res at HP ⊢
    clear hq0 ha hs
    go_enter Try.func74, Try.ntmps74
    go_wp2
    refine bodyPost_ret (v := .tuple #[.slice none 0 0, .bool false]) (by simp [results, Try.results74, go_sem]) rfl ?_
    exact ⟨.inl ⟨HP.out, rfl⟩, Below.refl _ _⟩

end Go.Proofs.Ythobepmlopegbaa
