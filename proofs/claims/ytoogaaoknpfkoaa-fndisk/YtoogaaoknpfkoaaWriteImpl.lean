/- Contract of impl.WriteDisk. -/
import Derived.Test.YtoogaaoknpfkoaaClone
import Derived.Test.YtoogaaoknpfkoaaFlushDisk
import Derived.Test.YtoogaaoknpfkoaaCrashDisk
import Derived.OwnWalk
namespace Go.Proofs.Ytoogaaoknpfkoaa
open Go.RowKit

/-- What WriteDisk answers: the sectors, the writes, the code. -/
def writeOf (ss : List ByteArray) (ws : List (Int × ByteArray)) (a : Int) (t : ByteArray) : List ByteArray × List (Int × ByteArray) × Int :=
  if 65536 < t.size then ([], [], 2) else if okDisk ss ws = true then (if secB a = true then (if 100 < t.size then (ss, ws, 8) else if 60 ≤ ws.length then (ss, ws, 7) else (ss, ws ++ [(a, t)], 0)) else ([], [], 4)) else ([], [], 1)

theorem own_of_fill {w : World} {b m lo hi : Nat} {ws : List (Int × ByteArray)} (hm : ws.length = m) (h : w.rowIs b 90 (m * 2) (fillW ws m)) (h1 : lo ≤ b) (h2 : b < hi) : OwnW w lo hi (some ⟨b, 0, none⟩) ws := own_of_rowW hm h h1 h2
theorem ownsW_of_row {w : World} {base b m : Nat} {ws : List (Int × ByteArray)} (hb : base ≤ b) (hm : ws.length = m) (hmm : m ≤ maxLen) (h : w.rowIs b 90 (m * 2) (fillW ws m)) : w.ownsRow base 90 2 (.slice (some ⟨b, 0, none⟩) m m) m (cellsW ws) := by
  obtain ⟨cs, hc, hs, hf⟩ := h
  refine ⟨by rw [cellsW_len, hm], .inr ⟨b, m, cs, rfl, hb, hc, Nat.le_refl _, hmm, hs, ?_⟩⟩
  apply List.ext_getElem?
  intro i
  rw [List.take_of_length_le (by simp [hs])]
  by_cases hi : i < m * 2
  · rw [Array.getElem?_toList, hf i hi]
    have := fill_of_cells ws i (by rw [hm]; exact hi)
    rw [hm] at this
    rw [← this, List.getD_eq_getElem?_getD, List.getElem?_eq_getElem (by rw [cellsW_len, hm]; exact hi)]; rfl
  · rw [List.getElem?_eq_none (by simp [hs]; omega), List.getElem?_eq_none (by rw [cellsW_len, hm]; omega)]
theorem ownW_of_owns {w : World} {base n : Nat} {v : Value} {ws : List (Int × ByteArray)} (h : w.ownsRow base 90 2 v n (cellsW ws)) (hn : 0 < n) : ∃ g cap, v = .slice (some ⟨g, 0, none⟩) n cap ∧ base ≤ g ∧ g < w.heap.size ∧ ws.length = n ∧ ∀ lo hi, lo ≤ g → g < hi → OwnW w lo hi (some ⟨g, 0, none⟩) ws := by
  obtain ⟨hl, h0 | ⟨g, cap, cur, rfl, hb, hg, hnc, _, hsz, htk⟩⟩ := h
  · omega
  · rw [cellsW_len] at hl
    have hln : ws.length = n := by omega
    have hr : w.rowIs g 90 (cap * 2) (fun i => cur.toList.getD i undef) := ⟨cur, hg, hsz, fun i hi => by
      have : i < cur.toList.length := by simp [hsz, hi]
      show cur[i]? = some (cur.toList.getD i undef)
      rw [List.getD_eq_getElem?_getD, List.getElem?_eq_getElem this, ← Array.getElem?_toList, List.getElem?_eq_getElem this]
      rfl⟩
    refine ⟨g, cap, rfl, hb, hr.lt, hln, fun lo hi h1 h2 => .inr ⟨g, cap * 2, _, rfl, h1, h2, by omega, hr, fun i hi => ?_⟩⟩
    have key : ∀ j, j < n * 2 → cur.toList.getD j undef = (cellsW ws).getD j undef := fun j hj => by
      have h1 : (cur.toList.take (n * 2))[j]? = (cellsW ws)[j]? := by rw [htk]
      rw [List.getElem?_take, if_pos hj] at h1
      rw [List.getD_eq_getElem?_getD, h1, List.getD_eq_getElem?_getD]
    have q := cellsW_at ws i hi
    show cur.toList.getD (i * 2) undef = _ ∧ cur.toList.getD (i * 2 + 1) undef = _
    have k1 : (cellsW ws).getD (i * 2) undef = .int .i64 (ws.getD i (0, ByteArray.empty)).1 := by rw [List.getD_eq_getElem?_getD (l := cellsW ws), q.1]; rfl
    have k2 : (cellsW ws).getD (i * 2 + 1) undef = .string (ws.getD i (0, ByteArray.empty)).2 := by rw [List.getD_eq_getElem?_getD (l := cellsW ws), q.2]; rfl
    rw [key _ (by omega), key _ (by omega), k1, k2]
    exact ⟨rfl, rfl⟩
theorem cellsW_snoc (ws : List (Int × ByteArray)) (a : Int) (t : ByteArray) : cellsW ws ++ [.int .i64 a, .string t] = cellsW (ws ++ [(a, t)]) := by
  unfold cellsW; rw [List.flatMap_append]; rfl
set_option maxRecDepth 100000 in
theorem infoWx : ∃ i : TypeInfo, Try.prog.info? 90 = some i ∧ i.zero = some (.agg #[.int .i64 0, .string ByteArray.empty]) ∧ i.size = 2 ∧ i.bytes = 24 := by
  obtain ⟨i, hi, hzz⟩ := Option.map_eq_some_iff.1 infoW
  simp only [Prod.mk.injEq] at hzz
  exact ⟨i, hi, hzz.1, hzz.2.1, hzz.2.2⟩

/-- Stored into the result's cell: rows that lie elsewhere stay. -/
theorem own_stored2 {w w2 : World} {A2 C2 : Option Addr} {n2 c2 m2 d2 b : Nat} {rs : List ByteArray} (h1 : w.heap.size ≤ b) (h2 : w.heap.size + 1 < b) (S2 : OwnS w2 b w2.heap.size A2 rs) :
    OwnS ((w2.setCell ⟨w.heap.size + 1, 0, none⟩ (.slice A2 n2 c2)).setCell ⟨w.heap.size + 1, 1, none⟩ (.slice C2 m2 d2)) w.heap.size ((w2.setCell ⟨w.heap.size + 1, 0, none⟩ (.slice A2 n2 c2)).setCell ⟨w.heap.size + 1, 1, none⟩ (.slice C2 m2 d2)).heap.size A2 rs := by
  have e1 : (((w2.setCell ⟨w.heap.size + 1, 0, none⟩ (.slice A2 n2 c2)).setCell ⟨w.heap.size + 1, 1, none⟩ (.slice C2 m2 d2)).heap.size) = w2.heap.size := by simp [World.setCell]
  have k1 : Btw (w.heap.size + 1) (w.heap.size + 1 + 1) w2 ((w2.setCell ⟨w.heap.size + 1, 0, none⟩ (.slice A2 n2 c2)).setCell ⟨w.heap.size + 1, 1, none⟩ (.slice C2 m2 d2)) :=
    ((Btw.refl _ _ _).setCell (by show w.heap.size + 1 ≤ w.heap.size + 1; omega) (by show w.heap.size + 1 < w.heap.size + 1 + 1; omega) _).setCell (by show w.heap.size + 1 ≤ w.heap.size + 1; omega) (by show w.heap.size + 1 < w.heap.size + 1 + 1; omega) _
  rw [e1]
  exact (S2.btw k1 (.inr (by omega))).wide h1 (Nat.le_refl _)
theorem ownW_stored2 {w w2 : World} {A2 C2 : Option Addr} {n2 c2 m2 d2 b : Nat} {rw' : List (Int × ByteArray)} (h1 : w.heap.size ≤ b) (h2 : w.heap.size + 1 < b) (S2 : OwnW w2 b w2.heap.size C2 rw') :
    OwnW ((w2.setCell ⟨w.heap.size + 1, 0, none⟩ (.slice A2 n2 c2)).setCell ⟨w.heap.size + 1, 1, none⟩ (.slice C2 m2 d2)) w.heap.size ((w2.setCell ⟨w.heap.size + 1, 0, none⟩ (.slice A2 n2 c2)).setCell ⟨w.heap.size + 1, 1, none⟩ (.slice C2 m2 d2)).heap.size C2 rw' := by
  have e1 : (((w2.setCell ⟨w.heap.size + 1, 0, none⟩ (.slice A2 n2 c2)).setCell ⟨w.heap.size + 1, 1, none⟩ (.slice C2 m2 d2)).heap.size) = w2.heap.size := by simp [World.setCell]
  have k1 : Btw (w.heap.size + 1) (w.heap.size + 1 + 1) w2 ((w2.setCell ⟨w.heap.size + 1, 0, none⟩ (.slice A2 n2 c2)).setCell ⟨w.heap.size + 1, 1, none⟩ (.slice C2 m2 d2)) :=
    ((Btw.refl _ _ _).setCell (by show w.heap.size + 1 ≤ w.heap.size + 1; omega) (by show w.heap.size + 1 < w.heap.size + 1 + 1; omega) _).setCell (by show w.heap.size + 1 ≤ w.heap.size + 1; omega) (by show w.heap.size + 1 < w.heap.size + 1 + 1; omega) _
  rw [e1]
  exact (S2.btw k1 (.inr (by omega))).wide h1 (Nat.le_refl _)
theorem ownW_stored3 {w w2 : World} {A2 C2 : Option Addr} {n2 c2 m2 d2 gg : Nat} {rw' : List (Int × ByteArray)} (h1 : w.heap.size ≤ gg) (h2 : gg ≠ w.heap.size + 1) (h3 : gg < w2.heap.size) (S2 : OwnW w2 gg (gg + 1) C2 rw') :
    OwnW ((w2.setCell ⟨w.heap.size + 1, 0, none⟩ (.slice A2 n2 c2)).setCell ⟨w.heap.size + 1, 1, none⟩ (.slice C2 m2 d2)) w.heap.size ((w2.setCell ⟨w.heap.size + 1, 0, none⟩ (.slice A2 n2 c2)).setCell ⟨w.heap.size + 1, 1, none⟩ (.slice C2 m2 d2)).heap.size C2 rw' := by
  have e1 : (((w2.setCell ⟨w.heap.size + 1, 0, none⟩ (.slice A2 n2 c2)).setCell ⟨w.heap.size + 1, 1, none⟩ (.slice C2 m2 d2)).heap.size) = w2.heap.size := by simp [World.setCell]
  have k1 : Btw (w.heap.size + 1) (w.heap.size + 1 + 1) w2 ((w2.setCell ⟨w.heap.size + 1, 0, none⟩ (.slice A2 n2 c2)).setCell ⟨w.heap.size + 1, 1, none⟩ (.slice C2 m2 d2)) :=
    ((Btw.refl _ _ _).setCell (by show w.heap.size + 1 ≤ w.heap.size + 1; omega) (by show w.heap.size + 1 < w.heap.size + 1 + 1; omega) _).setCell (by show w.heap.size + 1 ≤ w.heap.size + 1; omega) (by show w.heap.size + 1 < w.heap.size + 1 + 1; omega) _
  rw [e1]
  exact (S2.btw k1 (by omega)).wide h1 (by omega)

set_option maxRecDepth 100000 in
set_option maxHeartbeats 4000000 in
theorem implWrite (A C : Option Addr) (n c m d : Nat) (ss : List ByteArray) (ws : List (Int × ByteArray)) (a : Int) (t : ByteArray) (w : World) (hl : ss.length = n) (hm : ws.length = m) (hn : n ≤ maxLen) (hmm : m ≤ maxLen) (h : StrL w A ss) (g : WrL w C ws) (fs : FitS ss) (fw : FitW ws) (ht : t.size ≤ maxLen) :
    Calls Try.prog 23 #[.agg #[.slice A n c, .slice C m d], .int .i64 a, .string t] w (GivesDiskCode (writeOf ss ws a t).1 (writeOf ss ws a t).2.1 (writeOf ss ws a t).2.2 w) := by
  obtain ⟨W0, hW0⟩ : ∃ W0, W0 = ((w.alloc (.cells #[.slice A n c, .slice C m d] 26)).alloc (.cells #[.slice none 0 0, .slice none 0 0] 26)) := ⟨_, rfl⟩
  have hb0 : Below w.heap.size w W0 := by rw [hW0]; exact ((Below.refl _ _).alloc (Nat.le_refl _) _).alloc (by simp) _
  have X0 : Box W0 w.heap.size 26 #[.slice A n c, .slice C m d] := by rw [hW0]; exact (Box.new _ _ _).alloc _
  have Y0 : Box W0 (w.heap.size + 1) 26 #[.slice none 0 0, .slice none 0 0] := by rw [hW0]; simpa using Box.new (w.alloc (.cells #[.slice A n c, .slice C m d] 26)) 26 #[.slice none 0 0, .slice none 0 0]
  have HC := Lib.hid (diskValid A C n c m d ss ws W0 hl hm hn hmm (h.below hb0) (g.below hb0) fs fw)
  have HCl := Lib.hid (fun W (hb : Below w.heap.size w W) (h1 : n ≤ 1048576) (h2 : m ≤ 1048576) => clone A C n c m d ss ws W hl hm h1 h2 (h.below hb) (g.below hb))
  have HX := Lib.hid (And.intro X0 Y0)
  have HW0 := Lib.hid hW0
  have HL := Lib.hid (And.intro hl hm)
  unfold maxLen at ht hn hmm
  clear hl hm h g fs fw X0 Y0 hW0
  by_cases hlong : 65536 < t.size
  · have HV : Hid (writeOf ss ws a t = ([], [], 2)) := Lib.hid (by unfold writeOf; rw [if_pos hlong])
    have hlong' : (65536 : Int) < (t.size : Int) := by omega
    rw [HV.out]
    go_enter Try.func23, Try.ntmps23
    go_wp2
    refine bodyPost_ret (v := .tuple #[.agg #[.slice none 0 0, .slice none 0 0], .int .i64 2]) (by simp [results, Try.results23, go_sem]) rfl ?_
    exact gives_none (((Below.refl _ _).alloc (Nat.le_refl _) _).alloc (by simp) _)
  have hlong' : ¬ (65536 : Int) < (t.size : Int) := by omega
  by_cases hok : okDisk ss ws = true
  · have OK := Lib.hid (ok_of hok)
    have HO := Lib.hid hok
    have hn48 : n ≤ 48 := by have := OK.out.n48; have := HL.out.1; omega
    have hm60 : m ≤ 60 := by have := OK.out.m60; have := HL.out.2; omega
    clear hok
    by_cases hs : secB a = true
    · have HSx := Lib.hid hs
      by_cases hbig : 100 < t.size
      · have HV : Hid (writeOf ss ws a t = (ss, ws, 8)) := Lib.hid (by unfold writeOf; rw [if_neg hlong, if_pos HO.out, if_pos hs, if_pos hbig])
        have hbig' : (100 : Int) < (t.size : Int) := by omega
        clear hs hlong
        rw [HV.out]
        go_enter Try.func23, Try.ntmps23
        go_wp2_with fail
        rw [← HW0.out]
        refine HC.out.mono ?_
        rintro e w1 ⟨rfl, hb1⟩
        rw [HO.out]
        have hb2 := bt hb0 hb1
        have X1 := HX.out.1.step hb1
        have Y1 := Lib.hid (HX.out.2.step hb1)
        have f0 : w1.cell? ⟨w.heap.size, 0, none⟩ = some (.slice A n c) := X1.cell 0 rfl
        have f1 : w1.cell? ⟨w.heap.size, 1, none⟩ = some (.slice C m d) := X1.cell 1 rfl
        clear X1 HC HX HW0
        go_wp2_with fail
        refine (isSector _ _).mono ?_
        rintro e w1' ⟨rfl, rfl⟩
        rw [HSx.out]
        go_wp2_with fail
        refine (HCl.out w1 hb2 (by omega) (by omega)).mono ?_
        rintro e w2 ⟨b, b', rfl, R2, hb3⟩
        have Y2 := Y1.out.step hb3
        have HYl : Hid (w.heap.size + 1 < w1.heap.size) := Lib.hid Y1.out.lt
        have HYl2 : Hid (w.heap.size + 1 < w2.heap.size) := Lib.hid Y2.lt
        have hba := alloc_below w2 (.cells #[.slice (some ⟨b, 0, none⟩) n n, .slice (some ⟨b', 0, none⟩) m m] 26)
        have Y3 := Y2.step hba
        have g0 := Y3.cell 0 rfl
        have g1 := Y3.cell 1 rfl
        have g2 := Y3.frozen 0
        have g3 := Y3.frozen 1
        clear Y2 Y3 f0 f1
        go_wp2
        generalize w2.alloc (.cells #[.slice (some ⟨b, 0, none⟩) n n, .slice (some ⟨b', 0, none⟩) m m] 26) = w3 at g0 g1 g2 g3 hba ⊢
        refine bodyPost_ret (v := .tuple #[.agg #[.slice (some ⟨b, 0, none⟩) n n, .slice (some ⟨b', 0, none⟩) m m], .int .i64 8]) (by simp [results, Try.results23, go_sem, g0, g1]) rfl ?_
        obtain ⟨q1, q2, q3, q4⟩ := R2.out
        exact ⟨_, _, _, _, _, _, rfl, Lib.hid HL.out.1, Lib.hid HL.out.2, Lib.hid (own_stored2 (by have := HYl.out; omega) (by have := HYl.out; omega) (own_of_rowS HL.out.1 (row_below hba q3 q3.lt) (Nat.le_refl _) (row_below hba q3 q3.lt).lt)), Lib.hid (ownW_stored2 (by have := HYl.out; omega) (by have := HYl.out; omega) (own_of_rowW HL.out.2 (row_below hba q4 q4.lt) (Nat.le_refl _) (row_below hba q4 q4.lt).lt)), below_stored (bt (bt hb2 hb3) hba)⟩
      · have hbig' : ¬ (100 : Int) < (t.size : Int) := by omega
        by_cases hfull : 60 ≤ m
        · have HV : Hid (writeOf ss ws a t = (ss, ws, 7)) := Lib.hid (by unfold writeOf; rw [if_neg hlong, if_pos HO.out, if_pos hs, if_neg hbig, if_pos (by rw [HL.out.2]; exact hfull)])
          have hfull' : (60 : Int) ≤ (m : Int) := by omega
          clear hs hlong
          rw [HV.out]
          go_enter Try.func23, Try.ntmps23
          go_wp2_with fail
          rw [← HW0.out]
          refine HC.out.mono ?_
          rintro e w1 ⟨rfl, hb1⟩
          rw [HO.out]
          have hb2 := bt hb0 hb1
          have X1 := Lib.hid (HX.out.1.step hb1)
          have Y1 := Lib.hid (HX.out.2.step hb1)
          have f0 : w1.cell? ⟨w.heap.size, 0, none⟩ = some (.slice A n c) := X1.out.cell 0 rfl
          have f1 : w1.cell? ⟨w.heap.size, 1, none⟩ = some (.slice C m d) := X1.out.cell 1 rfl
          clear HC HX HW0
          go_wp2_with fail
          refine (isSector _ _).mono ?_
          rintro e w1' ⟨rfl, rfl⟩
          rw [HSx.out]
          go_wp2_with fail
          refine (HCl.out w1 hb2 (by omega) (by omega)).mono ?_
          rintro e w2 ⟨b, b', rfl, R2, hb3⟩
          have Y2 := Y1.out.step hb3
          clear f0 f1
          have HYl : Hid (w.heap.size + 1 < w1.heap.size) := Lib.hid Y1.out.lt
          have HYl2 : Hid (w.heap.size + 1 < w2.heap.size) := Lib.hid Y2.lt
          have hba := alloc_below w2 (.cells #[.slice (some ⟨b, 0, none⟩) n n, .slice (some ⟨b', 0, none⟩) m m] 26)
          have Y3 := Y2.step hba
          have g0 := Y3.cell 0 rfl
          have g1 := Y3.cell 1 rfl
          have g2 := Y3.frozen 0
          have g3 := Y3.frozen 1
          have X3 := (X1.out.step hb3).step hba
          have f1 := X3.cell 1 rfl
          clear Y2 Y3 X3
          go_wp2
          generalize w2.alloc (.cells #[.slice (some ⟨b, 0, none⟩) n n, .slice (some ⟨b', 0, none⟩) m m] 26) = w3 at g0 g1 g2 g3 f1 hba ⊢
          refine bodyPost_ret (v := .tuple #[.agg #[.slice (some ⟨b, 0, none⟩) n n, .slice (some ⟨b', 0, none⟩) m m], .int .i64 7]) (by simp [results, Try.results23, go_sem, g0, g1]) rfl ?_
          obtain ⟨q1, q2, q3, q4⟩ := R2.out
          exact ⟨_, _, _, _, _, _, rfl, Lib.hid HL.out.1, Lib.hid HL.out.2, Lib.hid (own_stored2 (by have := HYl.out; omega) (by have := HYl.out; omega) (own_of_rowS HL.out.1 (row_below hba q3 q3.lt) (Nat.le_refl _) (row_below hba q3 q3.lt).lt)), Lib.hid (ownW_stored2 (by have := HYl.out; omega) (by have := HYl.out; omega) (own_of_rowW HL.out.2 (row_below hba q4 q4.lt) (Nat.le_refl _) (row_below hba q4 q4.lt).lt)), below_stored (bt (bt hb2 hb3) hba)⟩
        · have HV : Hid (writeOf ss ws a t = (ss, ws ++ [(a, t)], 0)) := Lib.hid (by unfold writeOf; rw [if_neg hlong, if_pos HO.out, if_pos hs, if_neg hbig, if_neg (by rw [HL.out.2]; exact hfull)])
          have hfull' : ¬ (60 : Int) ≤ (m : Int) := by omega
          clear hs hlong
          rw [HV.out]
          go_enter Try.func23, Try.ntmps23
          go_wp2_with fail
          rw [← HW0.out]
          refine HC.out.mono ?_
          rintro e w1 ⟨rfl, hb1⟩
          rw [HO.out]
          have hb2 := bt hb0 hb1
          have X1 := Lib.hid (HX.out.1.step hb1)
          have Y1 := Lib.hid (HX.out.2.step hb1)
          have f0 : w1.cell? ⟨w.heap.size, 0, none⟩ = some (.slice A n c) := X1.out.cell 0 rfl
          have f1 : w1.cell? ⟨w.heap.size, 1, none⟩ = some (.slice C m d) := X1.out.cell 1 rfl
          clear HC HX HW0
          go_wp2_with fail
          refine (isSector _ _).mono ?_
          rintro e w1' ⟨rfl, rfl⟩
          rw [HSx.out]
          go_wp2_with fail
          refine (HCl.out w1 hb2 (by omega) (by omega)).mono ?_
          rintro e w2 ⟨b, b', rfl, R2, hb3⟩
          have Y2 := Y1.out.step hb3
          clear f0 f1
          have HYl : Hid (w.heap.size + 1 < w1.heap.size) := Lib.hid Y1.out.lt
          have HYl2 : Hid (w.heap.size + 1 < w2.heap.size) := Lib.hid Y2.lt
          have hba := alloc_below w2 (.cells #[.slice (some ⟨b, 0, none⟩) n n, .slice (some ⟨b', 0, none⟩) m m] 26)
          have Y3 := Y2.step hba
          have g0 := Y3.cell 0 rfl
          have g1 := Y3.cell 1 rfl
          have g2 := Y3.frozen 0
          have g3 := Y3.frozen 1
          have X3 := (X1.out.step hb3).step hba
          have f1 := X3.cell 1 rfl
          clear Y2 Y3 X3
          obtain ⟨q1, q2, q3, q4⟩ := R2.out
          have HRS := Lib.hid (row_below hba q3 q3.lt)
          have HRW := Lib.hid (row_below hba q4 q4.lt)
          have HBx := Lib.hid (Box.new w2 26 #[.slice (some ⟨b, 0, none⟩) n n, .slice (some ⟨b', 0, none⟩) m m])
          have HQ : Hid (w.heap.size + 1 < b ∧ w.heap.size + 1 < b' ∧ b < w2.heap.size ∧ b' < w2.heap.size ∧ b ≠ b') := Lib.hid ⟨by have := HYl.out; omega, by have := HYl.out; omega, q3.lt, q4.lt, row_ne q3 q4 (by decide)⟩
          clear q1 q2 q3 q4 R2
          obtain ⟨i0, hi0, hz0, hz1, hz2⟩ := infoWx
          have HI := Lib.hid (And.intro hi0 (And.intro hz0 (And.intro hz1 hz2)))
          clear hi0 hz0 hz1 hz2
          have hb4 := bt (bt hb2 hb3) hba
          have HY3 := Lib.hid ((Y1.out.step hb3).step hba)
          obtain ⟨w3, hw3⟩ : ∃ w3, w3 = w2.alloc (.cells #[.slice (some ⟨b, 0, none⟩) n n, .slice (some ⟨b', 0, none⟩) m m] 26) := ⟨_, rfl⟩
          rw [← hw3] at HRS HRW HBx HY3 hb4
          have e3 : w3.heap.size = w2.heap.size + 1 := by rw [hw3]; simp
          have HE3 := Lib.hid e3
          have k4 := alloc_below w3 (.cells #[.int .i64 a, .string t] 90)
          have HOw := Lib.hid (ownsW_of_row (base := w.heap.size) (by have := HQ.out; omega) HL.out.2 (by unfold maxLen; omega) (row_below k4 HRW.out HRW.out.lt))
          have HNw : Hid (∀ j u, [Value.int .i64 a, Value.string t][j]? = some u → (w3.alloc (.cells #[.int .i64 a, .string t] 90)).cell? ((⟨w2.heap.size + 1, 0, none⟩ : Addr).add j) = some u) := Lib.hid (fun j u hj => by
            have hB := Box.new w3 90 #[.int .i64 a, .string t]
            rw [e3] at hB
            match j, hj with
            | 0, hj => simp at hj; subst hj; exact hB.cell 0 rfl
            | 1, hj => simp at hj; subst hj; exact hB.cell 1 rfl)
          have HW3 := Lib.hid hw3
          clear hw3 g0 g1 g2 g3 hba e3
          go_wp2_with (at_builtin; refine wpList_append_own _ rfl (.tmp 33) (.tmp 37) 24 rfl w.heap.size 90 i0 (.agg #[.int .i64 0, .string ByteArray.empty]) 2 24 Try.underlying24 HI.out.1 HI.out.2.1 HI.out.2.2.1 HI.out.2.2.2 rfl (by decide) _ m (cellsW ws) rfl ?hown ⟨w2.heap.size + 1, 0, none⟩ 1 1 [.int .i64 a, .string t] rfl rfl ?hnews ?hone ?h63 ?hby ?hbase ?_)
          case hown => rw [← HW3.out]; exact HOw.out
          case hnews => rw [← HW3.out]; exact HNw.out
          case hone => intro u hu; simp at hu; rcases hu with rfl | rfl <;> rfl
          case h63 => unfold maxLen; omega
          case hby => omega
          case hbase => simp; have := HYl2.out; omega
          rw [← HW3.out]
          intro v1 w4 hown hgr hniff
          rw [cellsW_snoc] at hown
          obtain ⟨gg, cap, hv, p1, p2, p3, p4⟩ := ownW_of_owns hown (by omega)
          rw [hv]
          have HBl : ∀ k, k < (w3.alloc (.cells #[.int .i64 a, .string t] 90)).heap.size → k ≠ b' → w4.heap[k]? = (w3.alloc (.cells #[.int .i64 a, .string t] 90)).heap[k]? := fun k hk hne => hgr.block k hk (by simp [Value.ownBlock]; exact hne)
          have HP4 := Lib.hid p4
          have hb5 := Lib.hid (below_of_grown (B := w.heap.size) hgr (fun k hk => by simp [Value.ownBlock] at hk; have := HQ.out; omega) (by have := HYl2.out; have := k4.size; have := HE3.out; omega))
          have HB6 := Lib.hid (hb4.trans (((Below.refl _ _).alloc (by have := HYl2.out; have := HE3.out; omega) _).trans hb5.out))
          have HRS4 := Lib.hid ((row_below k4 HRS.out HRS.out.lt).of_block (HBl b (Nat.lt_of_lt_of_le HRS.out.lt k4.size) (by have := HQ.out; omega)))
          have HBx4 : Hid (Box w4 w2.heap.size 26 #[.slice (some ⟨b, 0, none⟩) n n, .slice (some ⟨b', 0, none⟩) m m]) := Lib.hid ((HBl w2.heap.size (Nat.lt_of_lt_of_le HBx.out.lt k4.size) (by have := HQ.out; omega)).trans (HBx.out.step k4))
          have HY4 : Hid (Box w4 (w.heap.size + 1) 26 #[.slice none 0 0, .slice none 0 0]) := Lib.hid ((HBl (w.heap.size + 1) (Nat.lt_of_lt_of_le HY3.out.lt k4.size) (by have := HQ.out; omega)).trans (HY3.out.step k4))
          have HG : Hid (gg ≠ w2.heap.size ∧ gg ≠ w.heap.size + 1 ∧ w.heap.size ≤ gg ∧ gg < w4.heap.size ∧ b < w4.heap.size) := by
            rcases HP4.out gg (gg + 1) (Nat.le_refl _) (by omega) with e | ⟨x1, x2, x3, x4, x5, x6, x7, x8, x9⟩
            · simp at e
            · injection x4 with x4; injection x4 with x4; subst x4
              exact Lib.hid ⟨(HBx4.out.ne x8 (by decide)).symm, (HY4.out.ne x8 (by decide)).symm, p1, p2, HRS4.out.lt⟩
          have g0 := HBx4.out.cell 0 rfl
          have g1 := HBx4.out.cell 1 rfl
          have g2 := HBx4.out.frozen 1
          have y0 := HY4.out.cell 0 rfl
          have y1 := HY4.out.cell 1 rfl
          have y2 := HY4.out.frozen 0
          have y3 := HY4.out.frozen 1
          have hne8 : ¬ w.heap.size + 1 = w2.heap.size := by have := HYl2.out; omega
          clear hown hgr hniff hv p1 p2 p3 p4 HBl f1 k4 HOw HNw HRS HRW HBx HY3 HW3 hb5 v1 HI i0
          go_wp2
          refine bodyPost_ret (v := .tuple #[.agg #[.slice (some ⟨b, 0, none⟩) n n, .slice (some ⟨gg, 0, none⟩) (m + 1) cap], .int .i64 0]) (by simp [results, Try.results23, go_sem, y0, y1]) rfl ?_
          have kA : Btw w2.heap.size (w2.heap.size + 1) w4 (w4.setCell ⟨w2.heap.size, 1, none⟩ (.slice (some ⟨gg, 0, none⟩) (m + 1) cap)) := (Btw.refl _ _ _).setCell (by show w2.heap.size ≤ w2.heap.size; omega) (by show w2.heap.size < w2.heap.size + 1; omega) _
          have hq := HQ.out
          have hg' := HG.out
          have hy2 := HYl2.out
          have es : (w4.setCell ⟨w2.heap.size, 1, none⟩ (.slice (some ⟨gg, 0, none⟩) (m + 1) cap)).heap.size = w4.heap.size := by simp [World.setCell]
          have OS := (own_of_rowS (lo := b) (hi := b + 1) HL.out.1 HRS4.out (Nat.le_refl _) (by omega)).btw kA (by omega)
          have OW := (HP4.out gg (gg + 1) (Nat.le_refl _) (by omega)).btw kA (by omega)
          exact ⟨_, _, _, _, _, _, rfl, Lib.hid HL.out.1, Lib.hid (by rw [List.length_append, HL.out.2]; rfl), Lib.hid (own_stored2 (by omega) (by omega) (OS.wide (Nat.le_refl _) (by rw [es]; omega))), Lib.hid (ownW_stored3 hg'.2.2.1 hg'.2.1 (by rw [es]; exact hg'.2.2.2.1) OW), below_stored (HB6.out.setCell (by show w.heap.size ≤ w2.heap.size; omega) _)⟩
    · have HV : Hid (writeOf ss ws a t = ([], [], 4)) := Lib.hid (by unfold writeOf; rw [if_neg hlong, if_pos HO.out, if_neg hs])
      have hs' : secB a = false := by simpa using hs
      have HSx := Lib.hid hs'
      clear hs hs' hlong
      rw [HV.out]
      go_enter Try.func23, Try.ntmps23
      go_wp2_with fail
      rw [← HW0.out]
      refine HC.out.mono ?_
      rintro e w1 ⟨rfl, hb1⟩
      rw [HO.out]
      have hb2 := bt hb0 hb1
      have Y1 := HX.out.2.step hb1
      have g0 := Y1.cell 0 rfl
      have g1 := Y1.cell 1 rfl
      have g2 := Y1.frozen 0
      have g3 := Y1.frozen 1
      clear Y1 HX HC
      go_wp2_with fail
      refine (isSector _ _).mono ?_
      rintro e w1' ⟨rfl, rfl⟩
      rw [HSx.out]
      go_wp2
      refine bodyPost_ret (v := .tuple #[.agg #[.slice none 0 0, .slice none 0 0], .int .i64 4]) (by simp [results, Try.results23, go_sem, g0, g1]) rfl ?_
      exact gives_none (below_stored hb2)
  · have HV : Hid (writeOf ss ws a t = ([], [], 1)) := Lib.hid (by unfold writeOf; rw [if_neg hlong, if_neg hok])
    have hok' : okDisk ss ws = false := by simpa using hok
    have HO := Lib.hid hok'
    clear hok hok' hlong
    rw [HV.out]
    go_enter Try.func23, Try.ntmps23
    go_wp2_with fail
    rw [← HW0.out]
    refine HC.out.mono ?_
    rintro e w1 ⟨rfl, hb1⟩
    rw [HO.out]
    have hb2 := bt hb0 hb1
    have Y1 := HX.out.2.step hb1
    have g0 := Y1.cell 0 rfl
    have g1 := Y1.cell 1 rfl
    have g2 := Y1.frozen 0
    have g3 := Y1.frozen 1
    clear Y1 HX HC
    go_wp2
    refine bodyPost_ret (v := .tuple #[.agg #[.slice none 0 0, .slice none 0 0], .int .i64 1]) (by simp [results, Try.results23, go_sem, g0, g1]) rfl ?_
    exact gives_none (below_stored hb2)
end Go.Proofs.Ytoogaaoknpfkoaa
