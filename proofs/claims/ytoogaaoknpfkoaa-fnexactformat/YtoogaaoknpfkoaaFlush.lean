/- Contract of the model's flush: l01Flush. -/
import Derived.Test.YtoogaaoknpfkoaaSettle
import Derived.OwnWalk
import Derived.Laws.OwnMore
namespace Go.Proofs.Ytoogaaoknpfkoaa
open Go.RowKit

theorem fate_one (k : Nat) : fateAt [1] k = 1 := by simp [fateAt, Nat.mod_one]
theorem settle_one (ss : List ByteArray) (ws : List (Int × ByteArray)) (k : Nat) : settleN ss ws [1] (k + 1) = (settleN ss ws [1] k).set (ws.getD k (0, ByteArray.empty)).1.toNat (ws.getD k (0, ByteArray.empty)).2 := by
  rw [settleN, stepF, if_pos (fate_one k)]

/-- From a row that an append made to a row by its index. -/
theorem row_of_own {w : World} {base n : Nat} {v : Value} {ss : List ByteArray} (h : w.ownsRow base 9 1 v n (cellsS ss)) (hn : 0 < n) : ∃ g cap m f, v = .slice (some ⟨g, 0, none⟩) n cap ∧ base ≤ g ∧ n ≤ m ∧ ss.length = n ∧ w.rowIs g 9 m f ∧ ∀ i, i < n → f i = .string (ss.getD i ByteArray.empty) := by
  obtain ⟨hl, h0 | ⟨g, cap, cur, rfl, hb, hg, hnc, _, hsz, htk⟩⟩ := h
  · omega
  · rw [cellsS_len, Nat.mul_one] at hl
    rw [Nat.mul_one] at hsz htk
    refine ⟨g, cap, cap, fun i => cur.toList.getD i undef, rfl, hb, hnc, hl, ⟨cur, hg, hsz, fun i hi => ?_⟩, fun i hi => ?_⟩
    · have : i < cur.toList.length := by simp [hsz, hi]
      show cur[i]? = some (cur.toList.getD i undef)
      rw [List.getD_eq_getElem?_getD, List.getElem?_eq_getElem this, ← Array.getElem?_toList, List.getElem?_eq_getElem this]
      rfl
    · have h1 : (cur.toList.take n)[i]? = (cellsS ss)[i]? := by rw [htk]
      rw [List.getElem?_take, if_pos hi] at h1
      show cur.toList.getD i undef = _
      rw [List.getD_eq_getElem?_getD, h1]
      unfold cellsS
      rw [List.getElem?_map, List.getD_eq_getElem?_getD, List.getElem?_eq_getElem (by omega)]
      rfl
theorem own_empty {w : World} {base g : Nat} {t : TypeId} (hb : base ≤ g) (hg : Box w g t #[]) : w.ownsRow base t 1 (.slice (some ⟨g, 0, none⟩) 0 0) 0 (cellsS []) :=
  ⟨rfl, .inr ⟨g, 0, #[], rfl, hb, hg, Nat.le_refl _, Nat.zero_le _, rfl, rfl⟩⟩
theorem cellsS_app (ss : List ByteArray) : cellsS [] ++ cellsS ss = cellsS ss := rfl
theorem below_of_grown {B : Nat} {w w' : World} {r : Option Nat} (h : w.grownBy w' r) (hr : ∀ k, r = some k → B ≤ k) (hB : B ≤ w.heap.size) : Below B w w' := (Below.refl B w).grown h hB hr

/-- A row of strings with room to spare: the first n are these. -/
def RowS (w : World) (b n m : Nat) (l : List ByteArray) : Prop := l.length = n ∧ n ≤ m ∧ ∃ f, w.rowIs b 9 m f ∧ ∀ i, i < n → f i = .string (l.getD i ByteArray.empty)
theorem RowS.cell {w : World} {b n m p : Nat} {l : List ByteArray} (h : RowS w b n m l) (hp : p < n) : w.cell? ⟨b, p, none⟩ = some (.string (l.getD p ByteArray.empty)) := by
  obtain ⟨_, hm, f, hr, hf⟩ := h
  rw [← hf p hp]; exact hr.cell (by omega)
theorem RowS.frozen {w : World} {b n m : Nat} {l : List ByteArray} (h : RowS w b n m l) (p : Nat) : w.frozen? ⟨b, p, none⟩ = false := by
  obtain ⟨_, hm, f, hr, hf⟩ := h
  exact hr.frozen p
theorem RowS.lt {w : World} {b n m : Nat} {l : List ByteArray} (h : RowS w b n m l) : b < w.heap.size := by
  obtain ⟨_, hm, f, hr, hf⟩ := h
  exact hr.lt
theorem RowS.below {w w' : World} {b n m : Nat} {l : List ByteArray} (h : RowS w b n m l) (hb : Below w.heap.size w w') : RowS w' b n m l := by
  obtain ⟨hl, hm, f, hr, hf⟩ := h
  exact ⟨hl, hm, f, row_below hb hr hr.lt, hf⟩
theorem RowS.set {w : World} {b n m p : Nat} {l : List ByteArray} (h : RowS w b n m l) (hp : p < n) (x : ByteArray) : RowS (w.setCell ⟨b, p, none⟩ (.string x)) b n m (l.set p x) := by
  obtain ⟨hl, hm, f, hr, hf⟩ := h
  refine ⟨by simpa using hl, hm, _, hr.set p (.string x), fun i hi => ?_⟩
  rw [getD_set l p i x (by omega)]
  by_cases e : i = p
  · rw [if_pos e, if_pos e]
  · rw [if_neg e, if_neg e]; exact hf i hi
theorem RowS.far {w : World} {b n m : Nat} {l : List ByteArray} (h : RowS w b n m l) {a : Addr} (ha : b ≠ a.block) (v : Value) : RowS (w.setCell a v) b n m l := by
  obtain ⟨hl, hm, f, hr, hf⟩ := h
  exact ⟨hl, hm, f, hr.setOther ha v, hf⟩
theorem RowS.own {w : World} {b n m lo hi : Nat} {l : List ByteArray} (h : RowS w b n m l) (h1 : lo ≤ b) (h2 : b < hi) : OwnS w lo hi (some ⟨b, 0, none⟩) l := by
  obtain ⟨hl, hm, f, hr, hf⟩ := h
  exact .inr ⟨b, m, f, rfl, h1, h2, by omega, hr, fun i hi => hf i (by omega)⟩

set_option maxRecDepth 100000 in
theorem infoSx : ∃ i : TypeInfo, Try.prog.info? 9 = some i ∧ i.zero = some (.string ByteArray.empty) ∧ i.size = 1 ∧ i.bytes = 16 := by
  obtain ⟨i, hi, hzz⟩ := Option.map_eq_some_iff.1 infoS
  simp only [Prod.mk.injEq] at hzz
  exact ⟨i, hi, hzz.1, hzz.2.1, hzz.2.2⟩

set_option maxRecDepth 100000 in
set_option maxHeartbeats 4000000 in
theorem l01Flush (A C : Option Addr) (n c m d : Nat) (ss : List ByteArray) (ws : List (Int × ByteArray)) (w : World) (hl : ss.length = n) (hm : ws.length = m) (h : StrL w A ss) (g : WrL w C ws) (ok : Ok ss ws) :
    Calls Try.prog 136 #[.agg #[.slice A n c, .slice C m d]] w (GivesDisk (settleN ss ws [1] m) [] w) := by
  have HL := Lib.hid hl
  have HM := Lib.hid hm
  have HSt := Lib.hid h
  have G := Lib.hid g
  have OK := Lib.hid ok
  have hm60 : m ≤ 60 := by have := ok.m60; omega
  have hn48 : n ≤ 48 := by have := ok.n48; omega
  have hn48' : 48 ≤ n := by have := ok.n48; omega
  clear hl hm h g ok
  obtain ⟨i0, hi0, hz0, hz1, hz2⟩ := infoSx
  have HI := Lib.hid (And.intro hi0 (And.intro hz0 (And.intro hz1 hz2)))
  clear hi0 hz0 hz1 hz2
  obtain ⟨W0, hW0⟩ : ∃ W0, W0 = (((w.alloc (.cells #[.slice A n c, .slice C m d] 26)).alloc (.cells #[.slice none 0 0, .slice none 0 0] 26)).alloc (.cells #[] 9)) := ⟨_, rfl⟩
  have hb0 : Below w.heap.size w W0 := by rw [hW0]; exact (((Below.refl _ _).alloc (Nat.le_refl _) _).alloc (by simp) _).alloc (by simp; omega) _
  have hs0 : W0.heap.size = w.heap.size + 1 + 1 + 1 := by rw [hW0]; simp
  have X0 : Box W0 w.heap.size 26 #[.slice A n c, .slice C m d] := by rw [hW0]; exact ((Box.new _ _ _).alloc _).alloc _
  have Y0 : Box W0 (w.heap.size + 1) 26 #[.slice none 0 0, .slice none 0 0] := by rw [hW0]; simpa using (Box.new (w.alloc (.cells #[.slice A n c, .slice C m d] 26)) 26 #[.slice none 0 0, .slice none 0 0]).alloc (.cells #[] 9)
  have Z0 : Box W0 (w.heap.size + 1 + 1) 9 #[] := by rw [hW0]; simpa using Box.new ((w.alloc (.cells #[.slice A n c, .slice C m d] 26)).alloc (.cells #[.slice none 0 0, .slice none 0 0] 26)) 9 #[]
  have HO := Lib.hid (own_empty (base := w.heap.size + 1 + 1) (Nat.le_refl _) Z0)
  have HX := Lib.hid (And.intro X0 Y0)
  have HS0 := Lib.hid hs0
  obtain ⟨ad, hA, hsrc⟩ := (HSt.out.below hb0).src (by rw [cellsS_len, HL.out]; omega)
  have HSrc := Lib.hid hsrc
  have HCl : Hid ((cellsS ss).length = n * 1) := Lib.hid (by rw [cellsS_len, HL.out]; omega)
  subst hA
  clear X0 Y0 Z0 hs0 hsrc
  have HW0 := Lib.hid hW0
  clear hW0
  go_enter Try.func136, Try.ntmps136
  go_wp2_with (at_builtin; refine wpList_append_own _ rfl (.tmp 5) (.tmp 7) 23 rfl (w.heap.size + 1 + 1) 9 i0 (.string ByteArray.empty) 1 16 Try.underlying23 HI.out.1 HI.out.2.1 HI.out.2.2.1 HI.out.2.2.2 rfl (by decide) _ 0 (cellsS []) rfl ?hown ad n c (cellsS ss) rfl HCl.out ?hnews (cellsS_one ss) ?h63 ?hby ?hbase ?_)
  case hown => rw [← HW0.out]; exact HO.out
  case hnews => rw [← HW0.out]; exact HSrc.out
  case h63 => unfold maxLen; omega
  case hby => omega
  case hbase => simp
  rw [← HW0.out]
  intro v1 w1 hown hgr hniff
  have hb1 := Lib.hid (below_of_grown (B := w.heap.size + 1 + 1) hgr (fun k hk => by simp [Value.ownBlock] at hk; omega) (by rw [HS0.out]; omega))
  rw [cellsS_app] at hown
  try rw [Nat.zero_add] at hown
  obtain ⟨gb, cap, mm, f, hv, q1, q2, q3, q4, q5⟩ := row_of_own hown (by omega)
  rw [hv]
  have HR1 : Hid (RowS w1 gb n mm ss) := Lib.hid ⟨q3, q2, f, q4, q5⟩
  have HX1 := Lib.hid (And.intro (HX.out.1.below hb1.out (by omega)) (HX.out.2.below hb1.out (by omega)))
  have hb1' : Below w.heap.size w w1 := hb0.trans (hb1.out.mono (by omega))
  have HG : Hid (w.heap.size + 1 < gb) := Lib.hid (by omega)
  clear hniff hown hgr hv q1 q2 q3 q4 q5 v1 HO HSrc HW0 HX hb0 hb1 HS0 HCl HI i0 HSt
  go_wp2
  obtain ⟨W2, hW2⟩ : ∃ W2, W2 = ((w1.alloc (.cells #[] 90)).alloc (.cells #[.slice (some ⟨gb, 0, none⟩) n cap, .slice (some ⟨w1.heap.size, 0, none⟩) 0 0] 26)) := ⟨_, rfl⟩
  have k2 : Below w1.heap.size w1 W2 := by rw [hW2]; exact ((Below.refl _ _).alloc (Nat.le_refl _) _).alloc (by simp) _
  have Z2 : Hid (Box W2 (w1.heap.size + 1) 26 #[.slice (some ⟨gb, 0, none⟩) n cap, .slice (some ⟨w1.heap.size, 0, none⟩) 0 0]) := Lib.hid (by rw [hW2]; simpa using Box.new (w1.alloc (.cells #[] 90)) 26 #[.slice (some ⟨gb, 0, none⟩) n cap, .slice (some ⟨w1.heap.size, 0, none⟩) 0 0])
  rw [← hW2]
  clear hW2
  have X2 := Lib.hid (HX1.out.1.step k2)
  have Y2 := Lib.hid (HX1.out.2.step k2)
  have R2 := Lib.hid (HR1.out.below k2)
  have hb2 := bt hb1' k2
  have HG2 : Hid (gb < w1.heap.size) := Lib.hid HR1.out.lt
  have HG3 : Hid (w.heap.size + 1 < w1.heap.size) := Lib.hid HX1.out.2.lt
  clear HX1 HR1 hb1' k2
  go_loopw [4] (fun q wr => ∃ k : Nat, k ≤ m ∧ q = .int .i64 k ∧ Below w.heap.size w wr ∧ Hid (Box wr w.heap.size 26 #[.slice (some ad) n c, .slice C m d]) ∧ Hid (Box wr (w.heap.size + 1) 26 #[.slice none 0 0, .slice none 0 0]) ∧ Hid (Box wr (w1.heap.size + 1) 26 #[.slice (some ⟨gb, 0, none⟩) n cap, .slice (some ⟨w1.heap.size, 0, none⟩) 0 0]) ∧ Hid (RowS wr gb n mm (settleN ss ws [1] k))) (fun q _ => m - (intOf q).toNat)
  case atStart => exact ⟨0, Nat.zero_le _, rfl, hb2, X2, Y2, Z2, R2⟩
  case round =>
    obtain ⟨k, hk, rfl, hbw, X, Y, Z, R⟩ := hrel
    by_cases hlt : k < m
    · obtain ⟨b2, off, rfl, hc, hd⟩ := (G.out.below hbw) k (by rw [HM.out]; exact hlt)
      have hmem : ws.getD k (0, ByteArray.empty) ∈ ws := by rw [List.getD_eq_getElem?_getD, List.getElem?_eq_getElem (by rw [HM.out]; exact hlt)]; exact List.getElem_mem _
      have hat := OK.out.at_ _ hmem
      have HK := Lib.hid (settle_one ss ws k)
      generalize ws.getD k (0, ByteArray.empty) = x at hc hd hat HK hmem
      obtain ⟨x1, x2⟩ := x
      simp only at hc hd hat
      obtain ⟨p, rfl⟩ : ∃ p : Nat, x1 = p := ⟨x1.toNat, by omega⟩
      have hpn : p < n := by omega
      have hpi : (p : Int) < (n : Int) := by omega
      have hp0 : (0 : Int) ≤ (p : Int) := by omega
      have hi : (k : Int) < (m : Int) := by omega
      have hi0 : (0 : Int) ≤ (k : Int) := by omega
      generalize settleN ss ws [1] k = cur at R HK
      have hcd := R.out.cell hpn
      have hfr := R.out.frozen p
      have f1 : wr.cell? ⟨w.heap.size, 1, none⟩ = some (.slice (some ⟨b2, off, none⟩) m d) := X.out.cell 1 rfl
      have f2 : wr.cell? ⟨w1.heap.size + 1, 0, none⟩ = some (.slice (some ⟨gb, 0, none⟩) n cap) := Z.out.cell 0 rfl
      have HRs := Lib.hid ((R.out.below (Below.refl _ _).drew).set hpn x2)
      have HXs := Lib.hid ((X.out.drew).far (p := ⟨gb, p, none⟩) (by show w.heap.size ≠ gb; have := HG.out; omega) (.string x2))
      have HYs := Lib.hid ((Y.out.drew).far (p := ⟨gb, p, none⟩) (by show w.heap.size + 1 ≠ gb; have := HG.out; omega) (.string x2))
      have HZs := Lib.hid ((Z.out.drew).far (p := ⟨gb, p, none⟩) (by show w1.heap.size + 1 ≠ gb; have := HG2.out; omega) (.string x2))
      have HBs := Lib.hid (hbw.drew.setCell (p := ⟨gb, p, none⟩) (by show w.heap.size ≤ gb; have := HG.out; omega) (.string x2))
      generalize cur.getD p ByteArray.empty = y at hcd
      clear hmem hat X Y Z R
      go_wp2
      go_still_tail 14, (by kernel_rfl)
      change wpList _ _ _ _ _ wr.drew
      go_wp2
      go_roundw
      case rel => exact ⟨k + 1, by omega, by go_num, HBs.out, HXs, HYs, HZs, by rw [HK.out]; exact HRs⟩
      case measure => simp [intOf]; omega
    · have f1 : wr.cell? ⟨w.heap.size, 1, none⟩ = some (.slice C m d) := X.out.cell 1 rfl
      have f2 : wr.cell? ⟨w1.heap.size + 1, 0, none⟩ = some (.slice (some ⟨gb, 0, none⟩) n cap) := Z.out.cell 0 rfl
      have f3 : wr.cell? ⟨w1.heap.size + 1, 1, none⟩ = some (.slice (some ⟨w1.heap.size, 0, none⟩) 0 0) := Z.out.cell 1 rfl
      have g0 := Y.out.cell 0 rfl
      have g1 := Y.out.cell 1 rfl
      have g2 := Y.out.frozen 0
      have g3 := Y.out.frozen 1
      go_wp2
      have ek : k = m := by omega
      subst ek
      refine bodyPost_ret (v := .agg #[.slice (some ⟨gb, 0, none⟩) n cap, .slice (some ⟨w1.heap.size, 0, none⟩) 0 0]) (by simp [results, Try.results136, go_sem, g0, g1]) rfl ?_
      have hne : gb ≠ w.heap.size + 1 := by have := HG.out; omega
      refine ⟨_, _, _, _, _, _, rfl, Lib.hid (by rw [settleN_len, HL.out]), Lib.hid rfl, Lib.hid ?_, Lib.hid (.inl rfl), (hbw.setCell (by show w.heap.size ≤ w.heap.size + 1; omega) _).setCell (by show w.heap.size ≤ w.heap.size + 1; omega) _⟩
      refine ((R.out.far (a := ⟨w.heap.size + 1, 0, none⟩) hne _).far (a := ⟨w.heap.size + 1, 1, none⟩) hne _).own (by have := HG.out; omega) ?_
      have := R.out.lt
      simpa [World.setCell] using this
end Go.Proofs.Ytoogaaoknpfkoaa
