/- Texts of this claim, one behind the other: Flush, Crash, Src, Draw, SrcMore, Some. -/
import Derived.Test.YtcchhbkbnbphhaaSettle
import Derived.OwnWalk
import Derived.Laws.OwnMore
import Derived.WalkLawsBesides
import Derived.StillTailTactics
import Derived.IntWalk
import Derived.Laws.BytesArg
import Derived.Test.YtcchhbkbnbphhaaM3
/- Contract of the model's flush: l01Flush. -/
namespace Go.Proofs.Ytcchhbkbnbphhaa
open Go.RowKit

theorem fate_one (k : Nat) : fateAt [1] k = 1 := by simp [fateAt, Nat.mod_one]
theorem settle_one (ss : List ByteArray) (ws : List (Int × ByteArray)) (k : Nat) : settleN ss ws [1] (k + 1) = (settleN ss ws [1] k).set (ws.getD k (0, ByteArray.empty)).1.toNat (ws.getD k (0, ByteArray.empty)).2 := by
  rw [settleN, stepF, if_pos (fate_one k)]

theorem row_of_own {w : World} {base n : Nat} {v : Value} {ss : List ByteArray} (h : w.ownsRow base 9 1 v n (cellsS ss)) (hn : 0 < n) : ∃ g cap m f, v = .slice (some ⟨g, 0, none⟩) n cap ∧ base ≤ g ∧ n ≤ m ∧ ss.length = n ∧ w.rowIs g 9 m f ∧ ∀ i, i < n → f i = .string (ss.getD i ByteArray.empty) := by
  obtain ⟨hl, h0 | ⟨g, cap, cur, rfl, hb, hg, hnc, _, hsz, htk⟩⟩ := h
  · omega
  · rw [cellsS_len, Nat.mul_one] at hl
    rw [Nat.mul_one] at hsz htk
    refine ⟨g, cap, cap, fun i => cur.toList.getD i undef, rfl, hb, hnc, hl, ⟨cur, hg, hsz, fun i hi => ?_⟩, fun i hi => ?_⟩
    · have : i < cur.toList.length := by simp [hsz, hi]
      show cur[i]? = some (cur.toList.getD i undef)
      rw [List.getD_eq_getElem?_getD, List.getElem?_eq_getElem this, ← Array.getElem?_toList, List.getElem?_eq_getElem this]
      rfl
    · have h1 : (cur.toList.take n)[i]? = (cellsS ss)[i]? := by rw [htk]
      rw [List.getElem?_take, if_pos hi] at h1
      show cur.toList.getD i undef = _
      rw [List.getD_eq_getElem?_getD, h1]
      unfold cellsS
      rw [List.getElem?_map, List.getD_eq_getElem?_getD, List.getElem?_eq_getElem (by omega)]
      rfl
theorem own_empty {w : World} {base g : Nat} {t : TypeId} (hb : base ≤ g) (hg : Box w g t #[]) : w.ownsRow base t 1 (.slice (some ⟨g, 0, none⟩) 0 0) 0 (cellsS []) :=
  ⟨rfl, .inr ⟨g, 0, #[], rfl, hb, hg, Nat.le_refl _, Nat.zero_le _, rfl, rfl⟩⟩
theorem cellsS_app (ss : List ByteArray) : cellsS [] ++ cellsS ss = cellsS ss := rfl
theorem below_of_grown {B : Nat} {w w' : World} {r : Option Nat} (h : w.grownBy w' r) (hr : ∀ k, r = some k → B ≤ k) (hB : B ≤ w.heap.size) : Below B w w' := (Below.refl B w).grown h hB hr

def RowS (w : World) (b n m : Nat) (l : List ByteArray) : Prop := l.length = n ∧ n ≤ m ∧ ∃ f, w.rowIs b 9 m f ∧ ∀ i, i < n → f i = .string (l.getD i ByteArray.empty)
theorem RowS.cell {w : World} {b n m p : Nat} {l : List ByteArray} (h : RowS w b n m l) (hp : p < n) : w.cell? ⟨b, p, none⟩ = some (.string (l.getD p ByteArray.empty)) := by
  obtain ⟨_, hm, f, hr, hf⟩ := h
  rw [← hf p hp]; exact hr.cell (by omega)
theorem RowS.frozen {w : World} {b n m : Nat} {l : List ByteArray} (h : RowS w b n m l) (p : Nat) : w.frozen? ⟨b, p, none⟩ = false := by
  obtain ⟨_, hm, f, hr, hf⟩ := h
  exact hr.frozen p
theorem RowS.lt {w : World} {b n m : Nat} {l : List ByteArray} (h : RowS w b n m l) : b < w.heap.size := by
  obtain ⟨_, hm, f, hr, hf⟩ := h
  exact hr.lt
theorem RowS.below {w w' : World} {b n m : Nat} {l : List ByteArray} (h : RowS w b n m l) (hb : Below w.heap.size w w') : RowS w' b n m l := by
  obtain ⟨hl, hm, f, hr, hf⟩ := h
  exact ⟨hl, hm, f, row_below hb hr hr.lt, hf⟩
theorem RowS.set {w : World} {b n m p : Nat} {l : List ByteArray} (h : RowS w b n m l) (hp : p < n) (x : ByteArray) : RowS (w.setCell ⟨b, p, none⟩ (.string x)) b n m (l.set p x) := by
  obtain ⟨hl, hm, f, hr, hf⟩ := h
  refine ⟨by simpa using hl, hm, _, hr.set p (.string x), fun i hi => ?_⟩
  rw [getD_set l p i x (by omega)]
  by_cases e : i = p
  · rw [if_pos e, if_pos e]
  · rw [if_neg e, if_neg e]; exact hf i hi
theorem RowS.far {w : World} {b n m : Nat} {l : List ByteArray} (h : RowS w b n m l) {a : Addr} (ha : b ≠ a.block) (v : Value) : RowS (w.setCell a v) b n m l := by
  obtain ⟨hl, hm, f, hr, hf⟩ := h
  exact ⟨hl, hm, f, hr.setOther ha v, hf⟩
theorem RowS.own {w : World} {b n m lo hi : Nat} {l : List ByteArray} (h : RowS w b n m l) (h1 : lo ≤ b) (h2 : b < hi) : OwnS w lo hi (some ⟨b, 0, none⟩) l := by
  obtain ⟨hl, hm, f, hr, hf⟩ := h
  exact .inr ⟨b, m, f, rfl, h1, h2, by omega, hr, fun i hi => hf i (by omega)⟩

set_option maxRecDepth 100000 in
theorem infoSx : ∃ i : TypeInfo, Try.prog.info? 9 = some i ∧ i.zero = some (.string ByteArray.empty) ∧ i.size = 1 ∧ i.bytes = 16 := by
  obtain ⟨i, hi, hzz⟩ := Option.map_eq_some_iff.1 infoS
  simp only [Prod.mk.injEq] at hzz
  exact ⟨i, hi, hzz.1, hzz.2.1, hzz.2.2⟩

set_option maxRecDepth 100000 in
set_option maxHeartbeats 4000000 in
theorem l01Flush (A C : Option Addr) (n c m d : Nat) (ss : List ByteArray) (ws : List (Int × ByteArray)) (w : World) (hl : ss.length = n) (hm : ws.length = m) (h : StrL w A ss) (g : WrL w C ws) (ok : Ok ss ws) :
    Calls Try.prog 68 #[.agg #[.slice A n c, .slice C m d]] w (GivesDisk (settleN ss ws [1] m) [] w) := by
  have HL := Lib.hid hl
  have HM := Lib.hid hm
  have HSt := Lib.hid h
  have G := Lib.hid g
  have OK := Lib.hid ok
  have hm60 : m ≤ 60 := by have := ok.m60; omega
  have hn48 : n ≤ 48 := by have := ok.n48; omega
  have hn48' : 48 ≤ n := by have := ok.n48; omega
  clear hl hm h g ok
  obtain ⟨i0, hi0, hz0, hz1, hz2⟩ := infoSx
  have HI := Lib.hid (And.intro hi0 (And.intro hz0 (And.intro hz1 hz2)))
  clear hi0 hz0 hz1 hz2
  obtain ⟨W0, hW0⟩ : ∃ W0, W0 = (((w.alloc (.cells #[.slice A n c, .slice C m d] 26)).alloc (.cells #[.slice none 0 0, .slice none 0 0] 26)).alloc (.cells #[] 9)) := ⟨_, rfl⟩
  have hb0 : Below w.heap.size w W0 := by rw [hW0]; exact (((Below.refl _ _).alloc (Nat.le_refl _) _).alloc (by simp) _).alloc (by simp; omega) _
  have hs0 : W0.heap.size = w.heap.size + 1 + 1 + 1 := by rw [hW0]; simp
  have X0 : Box W0 w.heap.size 26 #[.slice A n c, .slice C m d] := by rw [hW0]; exact ((Box.new _ _ _).alloc _).alloc _
  have Y0 : Box W0 (w.heap.size + 1) 26 #[.slice none 0 0, .slice none 0 0] := by rw [hW0]; simpa using (Box.new (w.alloc (.cells #[.slice A n c, .slice C m d] 26)) 26 #[.slice none 0 0, .slice none 0 0]).alloc (.cells #[] 9)
  have Z0 : Box W0 (w.heap.size + 1 + 1) 9 #[] := by rw [hW0]; simpa using Box.new ((w.alloc (.cells #[.slice A n c, .slice C m d] 26)).alloc (.cells #[.slice none 0 0, .slice none 0 0] 26)) 9 #[]
  have HO := Lib.hid (own_empty (base := w.heap.size + 1 + 1) (Nat.le_refl _) Z0)
  have HX := Lib.hid (And.intro X0 Y0)
  have HS0 := Lib.hid hs0
  obtain ⟨ad, hA, hsrc⟩ := (HSt.out.below hb0).src (by rw [cellsS_len, HL.out]; omega)
  have HSrc := Lib.hid hsrc
  have HCl : Hid ((cellsS ss).length = n * 1) := Lib.hid (by rw [cellsS_len, HL.out]; omega)
  subst hA
  clear X0 Y0 Z0 hs0 hsrc
  have HW0 := Lib.hid hW0
  clear hW0
  go_enter Try.func68, Try.ntmps68
  go_wp2_with (at_builtin; refine wpList_append_own _ rfl (.tmp 5) (.tmp 7) 23 rfl (w.heap.size + 1 + 1) 9 i0 (.string ByteArray.empty) 1 16 Try.underlying23 HI.out.1 HI.out.2.1 HI.out.2.2.1 HI.out.2.2.2 rfl (by decide) _ 0 (cellsS []) rfl ?hown ad n c (cellsS ss) rfl HCl.out ?hnews (cellsS_one ss) ?h63 ?hby ?hbase ?_)
  case hown => rw [← HW0.out]; exact HO.out
  case hnews => rw [← HW0.out]; exact HSrc.out
  case h63 => unfold maxLen; omega
  case hby => omega
  case hbase => simp
  rw [← HW0.out]
  intro v1 w1 hown hgr hniff
  have hb1 := Lib.hid (below_of_grown (B := w.heap.size + 1 + 1) hgr (fun k hk => by simp [Value.ownBlock] at hk; omega) (by rw [HS0.out]; omega))
  rw [cellsS_app] at hown
  try rw [Nat.zero_add] at hown
  obtain ⟨gb, cap, mm, f, hv, q1, q2, q3, q4, q5⟩ := row_of_own hown (by omega)
  rw [hv]
  have HR1 : Hid (RowS w1 gb n mm ss) := Lib.hid ⟨q3, q2, f, q4, q5⟩
  have HX1 := Lib.hid (And.intro (HX.out.1.below hb1.out (by omega)) (HX.out.2.below hb1.out (by omega)))
  have hb1' : Below w.heap.size w w1 := hb0.trans (hb1.out.mono (by omega))
  have HG : Hid (w.heap.size + 1 < gb) := Lib.hid (by omega)
  clear hniff hown hgr hv q1 q2 q3 q4 q5 v1 HO HSrc HW0 HX hb0 hb1 HS0 HCl HI i0 HSt
  go_wp2
  obtain ⟨W2, hW2⟩ : ∃ W2, W2 = ((w1.alloc (.cells #[] 67)).alloc (.cells #[.slice (some ⟨gb, 0, none⟩) n cap, .slice (some ⟨w1.heap.size, 0, none⟩) 0 0] 26)) := ⟨_, rfl⟩
  have k2 : Below w1.heap.size w1 W2 := by rw [hW2]; exact ((Below.refl _ _).alloc (Nat.le_refl _) _).alloc (by simp) _
  have Z2 : Hid (Box W2 (w1.heap.size + 1) 26 #[.slice (some ⟨gb, 0, none⟩) n cap, .slice (some ⟨w1.heap.size, 0, none⟩) 0 0]) := Lib.hid (by rw [hW2]; simpa using Box.new (w1.alloc (.cells #[] 67)) 26 #[.slice (some ⟨gb, 0, none⟩) n cap, .slice (some ⟨w1.heap.size, 0, none⟩) 0 0])
  rw [← hW2]
  clear hW2
  have X2 := Lib.hid (HX1.out.1.step k2)
  have Y2 := Lib.hid (HX1.out.2.step k2)
  have R2 := Lib.hid (HR1.out.below k2)
  have hb2 := bt hb1' k2
  have HG2 : Hid (gb < w1.heap.size) := Lib.hid HR1.out.lt
  have HG3 : Hid (w.heap.size + 1 < w1.heap.size) := Lib.hid HX1.out.2.lt
  clear HX1 HR1 hb1' k2
  go_loopw [4] (fun q wr => ∃ k : Nat, k ≤ m ∧ q = .int .i64 k ∧ Below w.heap.size w wr ∧ Hid (Box wr w.heap.size 26 #[.slice (some ad) n c, .slice C m d]) ∧ Hid (Box wr (w.heap.size + 1) 26 #[.slice none 0 0, .slice none 0 0]) ∧ Hid (Box wr (w1.heap.size + 1) 26 #[.slice (some ⟨gb, 0, none⟩) n cap, .slice (some ⟨w1.heap.size, 0, none⟩) 0 0]) ∧ Hid (RowS wr gb n mm (settleN ss ws [1] k))) (fun q _ => m - (intOf q).toNat)
  case atStart => exact ⟨0, Nat.zero_le _, rfl, hb2, X2, Y2, Z2, R2⟩
  case round =>
    obtain ⟨k, hk, rfl, hbw, X, Y, Z, R⟩ := hrel
    by_cases hlt : k < m
    · obtain ⟨b2, off, rfl, hc, hd⟩ := (G.out.below hbw) k (by rw [HM.out]; exact hlt)
      have hmem : ws.getD k (0, ByteArray.empty) ∈ ws := by rw [List.getD_eq_getElem?_getD, List.getElem?_eq_getElem (by rw [HM.out]; exact hlt)]; exact List.getElem_mem _
      have hat := OK.out.at_ _ hmem
      have HK := Lib.hid (settle_one ss ws k)
      generalize ws.getD k (0, ByteArray.empty) = x at hc hd hat HK hmem
      obtain ⟨x1, x2⟩ := x
      simp only at hc hd hat
      obtain ⟨p, rfl⟩ : ∃ p : Nat, x1 = p := ⟨x1.toNat, by omega⟩
      have hpn : p < n := by omega
      have hpi : (p : Int) < (n : Int) := by omega
      have hp0 : (0 : Int) ≤ (p : Int) := by omega
      have hi : (k : Int) < (m : Int) := by omega
      have hi0 : (0 : Int) ≤ (k : Int) := by omega
      generalize settleN ss ws [1] k = cur at R HK
      have hcd := R.out.cell hpn
      have hfr := R.out.frozen p
      have f1 : wr.cell? ⟨w.heap.size, 1, none⟩ = some (.slice (some ⟨b2, off, none⟩) m d) := X.out.cell 1 rfl
      have f2 : wr.cell? ⟨w1.heap.size + 1, 0, none⟩ = some (.slice (some ⟨gb, 0, none⟩) n cap) := Z.out.cell 0 rfl
      have HRs := Lib.hid ((R.out.below (Below.refl _ _).drew).set hpn x2)
      have HXs := Lib.hid ((X.out.drew).far (p := ⟨gb, p, none⟩) (by show w.heap.size ≠ gb; have := HG.out; omega) (.string x2))
      have HYs := Lib.hid ((Y.out.drew).far (p := ⟨gb, p, none⟩) (by show w.heap.size + 1 ≠ gb; have := HG.out; omega) (.string x2))
      have HZs := Lib.hid ((Z.out.drew).far (p := ⟨gb, p, none⟩) (by show w1.heap.size + 1 ≠ gb; have := HG2.out; omega) (.string x2))
      have HBs := Lib.hid (hbw.drew.setCell (p := ⟨gb, p, none⟩) (by show w.heap.size ≤ gb; have := HG.out; omega) (.string x2))
      generalize cur.getD p ByteArray.empty = y at hcd
      clear hmem hat X Y Z R
      go_wp2
      go_still_tail 14, (by kernel_rfl)
      change wpList _ _ _ _ _ wr.drew
      go_wp2
      go_roundw
      case rel => exact ⟨k + 1, by omega, by go_num, HBs.out, HXs, HYs, HZs, by rw [HK.out]; exact HRs⟩
      case measure => simp [intOf]; omega
    · have f1 : wr.cell? ⟨w.heap.size, 1, none⟩ = some (.slice C m d) := X.out.cell 1 rfl
      have f2 : wr.cell? ⟨w1.heap.size + 1, 0, none⟩ = some (.slice (some ⟨gb, 0, none⟩) n cap) := Z.out.cell 0 rfl
      have f3 : wr.cell? ⟨w1.heap.size + 1, 1, none⟩ = some (.slice (some ⟨w1.heap.size, 0, none⟩) 0 0) := Z.out.cell 1 rfl
      have g0 := Y.out.cell 0 rfl
      have g1 := Y.out.cell 1 rfl
      have g2 := Y.out.frozen 0
      have g3 := Y.out.frozen 1
      go_wp2
      have ek : k = m := by omega
      subst ek
      refine bodyPost_ret (v := .agg #[.slice (some ⟨gb, 0, none⟩) n cap, .slice (some ⟨w1.heap.size, 0, none⟩) 0 0]) (by simp [results, Try.results68, go_sem, g0, g1]) rfl ?_
      have hne : gb ≠ w.heap.size + 1 := by have := HG.out; omega
      refine ⟨_, _, _, _, _, _, rfl, Lib.hid (by rw [settleN_len, HL.out]), Lib.hid rfl, Lib.hid ?_, Lib.hid (.inl rfl), (hbw.setCell (by show w.heap.size ≤ w.heap.size + 1; omega) _).setCell (by show w.heap.size ≤ w.heap.size + 1; omega) _⟩
      refine ((R.out.far (a := ⟨w.heap.size + 1, 0, none⟩) hne _).far (a := ⟨w.heap.size + 1, 1, none⟩) hne _).own (by have := HG.out; omega) ?_
      have := R.out.lt
      simpa [World.setCell] using this
end Go.Proofs.Ytcchhbkbnbphhaa

/- Contracts of the model's crash: l01Crash; of the tests of fates. -/
namespace Go.Proofs.Ytcchhbkbnbphhaa
open Go.RowKit

theorem tear_min (old x : ByteArray) : x.extract 0 (x.size / 2) ++ old.extract (min (x.size / 2) old.size) old.size = tearOf old x := by
  unfold tearOf
  split
  · rename_i h
    rw [Nat.min_eq_right h]
    apply WideShapes.bytes_inj
    simp [ByteArray.data_extract]
  · rename_i h
    rw [Nat.min_eq_left (by omega)]

set_option maxRecDepth 100000 in
set_option maxHeartbeats 4000000 in
theorem l01Crash (A C F : Option Addr) (n c m d nf cf : Nat) (ss : List ByteArray) (ws : List (Int × ByteArray)) (fs : List Int) (w : World) (hl : ss.length = n) (hm : ws.length = m) (hf : fs.length = nf) (hnf : nf ≤ maxLen) (h : StrL w A ss) (g : WrL w C ws) (i : IntL w F fs) (ok : Ok ss ws) :
    Calls Try.prog 75 #[.agg #[.slice A n c, .slice C m d], .slice F nf cf] w (GivesDisk (settleN ss ws fs m) [] w) := by
  have HL := Lib.hid hl
  have HM := Lib.hid hm
  have HNF := Lib.hid hf
  have HSt := Lib.hid h
  have G := Lib.hid g
  have I := Lib.hid i
  have OK := Lib.hid ok
  have hm60 : m ≤ 60 := by have := ok.m60; omega
  have hn48 : n ≤ 48 := by have := ok.n48; omega
  have hn48' : 48 ≤ n := by have := ok.n48; omega
  unfold maxLen at hnf
  clear hl hm hf h g i ok
  obtain ⟨i0, hi0, hz0, hz1, hz2⟩ := infoSx
  have HI := Lib.hid (And.intro hi0 (And.intro hz0 (And.intro hz1 hz2)))
  clear hi0 hz0 hz1 hz2
  obtain ⟨W0, hW0⟩ : ∃ W0, W0 = (((w.alloc (.cells #[.slice A n c, .slice C m d] 26)).alloc (.cells #[.slice none 0 0, .slice none 0 0] 26)).alloc (.cells #[] 9)) := ⟨_, rfl⟩
  have hb0 : Below w.heap.size w W0 := by rw [hW0]; exact (((Below.refl _ _).alloc (Nat.le_refl _) _).alloc (by simp) _).alloc (by simp; omega) _
  have hs0 : W0.heap.size = w.heap.size + 1 + 1 + 1 := by rw [hW0]; simp
  have X0 : Box W0 w.heap.size 26 #[.slice A n c, .slice C m d] := by rw [hW0]; exact ((Box.new _ _ _).alloc _).alloc _
  have Y0 : Box W0 (w.heap.size + 1) 26 #[.slice none 0 0, .slice none 0 0] := by rw [hW0]; simpa using (Box.new (w.alloc (.cells #[.slice A n c, .slice C m d] 26)) 26 #[.slice none 0 0, .slice none 0 0]).alloc (.cells #[] 9)
  have Z0 : Box W0 (w.heap.size + 1 + 1) 9 #[] := by rw [hW0]; simpa using Box.new ((w.alloc (.cells #[.slice A n c, .slice C m d] 26)).alloc (.cells #[.slice none 0 0, .slice none 0 0] 26)) 9 #[]
  have HO := Lib.hid (own_empty (base := w.heap.size + 1 + 1) (Nat.le_refl _) Z0)
  have HX := Lib.hid (And.intro X0 Y0)
  have HS0 := Lib.hid hs0
  obtain ⟨ad, hA, hsrc⟩ := (HSt.out.below hb0).src (by rw [cellsS_len, HL.out]; omega)
  have HSrc := Lib.hid hsrc
  have HCl : Hid ((cellsS ss).length = n * 1) := Lib.hid (by rw [cellsS_len, HL.out]; omega)
  subst hA
  clear X0 Y0 Z0 hs0 hsrc
  have HW0 := Lib.hid hW0
  clear hW0
  go_enter Try.func75, Try.ntmps75
  go_wp2_with (at_builtin; refine wpList_append_own _ rfl (.tmp 11) (.tmp 13) 23 rfl (w.heap.size + 1 + 1) 9 i0 (.string ByteArray.empty) 1 16 Try.underlying23 HI.out.1 HI.out.2.1 HI.out.2.2.1 HI.out.2.2.2 rfl (by decide) _ 0 (cellsS []) rfl ?hown ad n c (cellsS ss) rfl HCl.out ?hnews (cellsS_one ss) ?h63 ?hby ?hbase ?_)
  case hown => rw [← HW0.out]; exact HO.out
  case hnews => rw [← HW0.out]; exact HSrc.out
  case h63 => unfold maxLen; omega
  case hby => omega
  case hbase => simp
  rw [← HW0.out]
  intro v1 w1 hown hgr hniff
  have hb1 := Lib.hid (below_of_grown (B := w.heap.size + 1 + 1) hgr (fun k hk => by simp [Value.ownBlock] at hk; omega) (by rw [HS0.out]; omega))
  rw [cellsS_app] at hown
  try rw [Nat.zero_add] at hown
  obtain ⟨gb, cap, mm, f, hv, q1, q2, q3, q4, q5⟩ := row_of_own hown (by omega)
  rw [hv]
  have HR1 : Hid (RowS w1 gb n mm ss) := Lib.hid ⟨q3, q2, f, q4, q5⟩
  have HX1 := Lib.hid (And.intro (HX.out.1.below hb1.out (by omega)) (HX.out.2.below hb1.out (by omega)))
  have hb1' : Below w.heap.size w w1 := hb0.trans (hb1.out.mono (by omega))
  have HG : Hid (w.heap.size + 1 < gb) := Lib.hid (by omega)
  clear hniff hown hgr hv q1 q2 q3 q4 q5 v1 HO HSrc HW0 HX hb0 hb1 HS0 HCl HI i0 HSt
  go_wp2
  obtain ⟨W2, hW2⟩ : ∃ W2, W2 = ((w1.alloc (.cells #[] 67)).alloc (.cells #[.slice (some ⟨gb, 0, none⟩) n cap, .slice (some ⟨w1.heap.size, 0, none⟩) 0 0] 26)) := ⟨_, rfl⟩
  have k2 : Below w1.heap.size w1 W2 := by rw [hW2]; exact ((Below.refl _ _).alloc (Nat.le_refl _) _).alloc (by simp) _
  have Z2 : Hid (Box W2 (w1.heap.size + 1) 26 #[.slice (some ⟨gb, 0, none⟩) n cap, .slice (some ⟨w1.heap.size, 0, none⟩) 0 0]) := Lib.hid (by rw [hW2]; simpa using Box.new (w1.alloc (.cells #[] 67)) 26 #[.slice (some ⟨gb, 0, none⟩) n cap, .slice (some ⟨w1.heap.size, 0, none⟩) 0 0])
  rw [← hW2]
  clear hW2
  have X2 := Lib.hid (HX1.out.1.step k2)
  have Y2 := Lib.hid (HX1.out.2.step k2)
  have R2 := Lib.hid (HR1.out.below k2)
  have hb2 := bt hb1' k2
  have HG2 : Hid (gb < w1.heap.size) := Lib.hid HR1.out.lt
  have HG3 : Hid (w.heap.size + 1 < w1.heap.size) := Lib.hid HX1.out.2.lt
  clear HX1 HR1 hb1' k2
  go_loopw [6] (fun q wr => ∃ k : Nat, k ≤ m ∧ q = .int .i64 k ∧ Below w.heap.size w wr ∧ Hid (Box wr w.heap.size 26 #[.slice (some ad) n c, .slice C m d]) ∧ Hid (Box wr (w.heap.size + 1) 26 #[.slice none 0 0, .slice none 0 0]) ∧ Hid (Box wr (w1.heap.size + 1) 26 #[.slice (some ⟨gb, 0, none⟩) n cap, .slice (some ⟨w1.heap.size, 0, none⟩) 0 0]) ∧ Hid (RowS wr gb n mm (settleN ss ws fs k))) (fun q _ => m - (intOf q).toNat)
  case atStart => exact ⟨0, Nat.zero_le _, rfl, hb2, X2, Y2, Z2, R2⟩
  case round =>
    obtain ⟨k, hk, rfl, hbw, X, Y, Z, R⟩ := hrel
    by_cases hlt : k < m
    · obtain ⟨b2, off, rfl, hc, hd⟩ := (G.out.below hbw) k (by rw [HM.out]; exact hlt)
      have hmem : ws.getD k (0, ByteArray.empty) ∈ ws := by rw [List.getD_eq_getElem?_getD, List.getElem?_eq_getElem (by rw [HM.out]; exact hlt)]; exact List.getElem_mem _
      have hat := OK.out.at_ _ hmem
      have hsz := OK.out.smallW _ hmem
      have HK : Hid (settleN ss ws fs (k + 1) = stepF fs k (settleN ss ws fs k) (ws.getD k (0, ByteArray.empty))) := Lib.hid rfl
      have hsm := settleN_small ss ws fs OK.out.small OK.out.smallW k (by rw [HM.out]; omega)
      generalize ws.getD k (0, ByteArray.empty) = x at hc hd hat hsz HK hmem
      obtain ⟨x1, x2⟩ := x
      simp only at hc hd hat hsz
      obtain ⟨p, rfl⟩ : ∃ p : Nat, x1 = p := ⟨x1.toNat, by omega⟩
      have hpn : p < n := by omega
      have hpi : (p : Int) < (n : Int) := by omega
      have hp0 : (0 : Int) ≤ (p : Int) := by omega
      have hi : (k : Int) < (m : Int) := by omega
      have hi0 : (0 : Int) ≤ (k : Int) := by omega
      have hold := getD_small hsm p
      generalize settleN ss ws fs k = cur at R HK hsm hold
      have k3 := (Below.refl wr.heap.size wr).alloc (Nat.le_refl _) (.cells #[.int .i64 (p : Int), .string x2] 67)
      have hcd := (R.out.below k3).cell hpn
      have hfr := (R.out.below k3).frozen p
      have f1 : wr.cell? ⟨w.heap.size, 1, none⟩ = some (.slice (some ⟨b2, off, none⟩) m d) := X.out.cell 1 rfl
      have f2 : (wr.alloc (.cells #[.int .i64 (p : Int), .string x2] 67)).cell? ⟨w1.heap.size + 1, 0, none⟩ = some (.slice (some ⟨gb, 0, none⟩) n cap) := (Z.out.step k3).cell 0 rfl
      have HR3 := Lib.hid (R.out.below k3)
      have HX3 := Lib.hid (X.out.step k3)
      have HY3 := Lib.hid (Y.out.step k3)
      have HZ3 := Lib.hid (Z.out.step k3)
      have HB3 := Lib.hid (bt hbw k3)
      have HT := Lib.hid (tear_min (cur.getD p ByteArray.empty) x2)
      have e64 : w1.heap.size + 1 ≠ gb := by have := HG2.out; omega
      clear hmem hat X Y Z R
      by_cases hz : nf = 0
      · have hz' : ¬ (0 : Int) < (nf : Int) := by omega
        have HN : Hid (settleN ss ws fs (k + 1) = cur) := Lib.hid (by
          rw [HK.out]; unfold stepF
          have : fateAt fs k = 0 := by unfold fateAt; rw [if_pos (by rw [HNF.out]; exact hz)]
          rw [this]; rfl)
        clear hz
        generalize cur.getD p ByteArray.empty = y at hcd hold HT
        go_wp2
        go_roundw
        case rel => exact ⟨k + 1, by omega, by go_num, HB3.out, HX3, HY3, HZ3, by rw [HN.out]; exact HR3⟩
        case measure => simp [intOf]; omega
      · have hz' : (0 : Int) < (nf : Int) := by omega
        have hzn : ¬ (nf : Int) = 0 := by omega
        have hml : k % nf < nf := Nat.mod_lt _ (by omega)
        obtain ⟨bF, offF, rfl, hcF⟩ := (I.out.below hbw) (k % nf) (by rw [HNF.out]; exact hml)
        have HFT : Hid (fateAt fs k = fs.getD (k % nf) 0) := Lib.hid (by unfold fateAt; rw [if_neg (by rw [HNF.out]; exact hz), HNF.out])
        generalize fs.getD (k % nf) 0 = ft at hcF HFT
        clear hz
        by_cases e1 : ft = 1
        · have hq : (ft == 1) = true := by simp [e1]
          have HN : Hid (settleN ss ws fs (k + 1) = cur.set p x2) := Lib.hid (by rw [HK.out]; unfold stepF; rw [HFT.out, if_pos e1]; rfl)
          clear e1
          have HRs := Lib.hid (HR3.out.set hpn x2)
          have HXs := Lib.hid (HX3.out.far (p := ⟨gb, p, none⟩) (by show w.heap.size ≠ gb; have := HG.out; omega) (.string x2))
          have HYs := Lib.hid (HY3.out.far (p := ⟨gb, p, none⟩) (by show w.heap.size + 1 ≠ gb; have := HG.out; omega) (.string x2))
          have HZs := Lib.hid (HZ3.out.far (p := ⟨gb, p, none⟩) e64 (.string x2))
          have HBs := Lib.hid (HB3.out.setCell (p := ⟨gb, p, none⟩) (by show w.heap.size ≤ gb; have := HG.out; omega) (.string x2))
          generalize cur.getD p ByteArray.empty = y at hcd hold HT
          go_wp2
          go_roundw
          case rel => exact ⟨k + 1, by omega, by go_num, HBs.out, HXs, HYs, HZs, by rw [HN.out]; exact HRs⟩
          case measure => simp [intOf]; omega
        · have hq : (ft == 1) = false := by simp [e1]
          by_cases e2 : ft = 2
          · have hq2 : (ft == 2) = true := by simp [e2]
            have HN : Hid (settleN ss ws fs (k + 1) = cur.set p (tearOf (cur.getD p ByteArray.empty) x2)) := Lib.hid (by rw [HK.out]; unfold stepF; rw [HFT.out, if_neg e1, if_pos e2]; rfl)
            clear e1 e2
            have hsl : (cur.getD p ByteArray.empty).size ≤ 100 := hold
            generalize cur.getD p ByteArray.empty = y at hcd hold HT HN hsl
            have HXa := Lib.hid (Box.new wr 67 #[.int .i64 (p : Int), .string x2])
            go_wp2
            generalize wr.alloc (.cells #[.int .i64 (p : Int), .string x2] 67) = wa at hcd hfr f2 HR3 HX3 HY3 HZ3 HB3 HXa ⊢
            have g0 : wa.cell? ⟨wr.heap.size, 0, none⟩ = some (.int .i64 (p : Int)) := HXa.out.cell 0 rfl
            have g1 : wa.cell? ⟨wr.heap.size, 1, none⟩ = some (.string x2) := HXa.out.cell 1 rfl
            have k4 : Below wa.heap.size wa wa.drew := (Below.refl _ _).drew
            have HRs := Lib.hid ((HR3.out.below k4).set hpn (tearOf y x2))
            have HXs := Lib.hid ((HX3.out.step k4).far (p := ⟨gb, p, none⟩) (by show w.heap.size ≠ gb; have := HG.out; omega) (.string (tearOf y x2)))
            have HYs := Lib.hid ((HY3.out.step k4).far (p := ⟨gb, p, none⟩) (by show w.heap.size + 1 ≠ gb; have := HG.out; omega) (.string (tearOf y x2)))
            have HZs := Lib.hid ((HZ3.out.step k4).far (p := ⟨gb, p, none⟩) e64 (.string (tearOf y x2)))
            have HBs := Lib.hid ((bt HB3.out k4).setCell (p := ⟨gb, p, none⟩) (by show w.heap.size ≤ gb; have := HG.out; omega) (.string (tearOf y x2)))
            clear HR3 HX3 HY3 HZ3 HXa
            obtain ⟨uu, HU⟩ : ∃ u, Hid (u = x2.extract 0 (x2.size / 2)) := ⟨_, Lib.hid rfl⟩
            have su : uu.size ≤ 100 := by rw [HU.out, extract_size]; omega
            have hsl1 : ∀ W, (Instr.slice 9 (.string x2) none (some (.int .i64 ((x2.size : Int) / 2))) none).run Try.prog W = .ok (.string uu) W := fun W => by
              rw [run_slice_string_h W 9 x2 Try.underlying9 .i64 ((x2.size : Int) / 2) (by omega) (by omega), HU.out, show ((x2.size : Int) / 2).toNat = x2.size / 2 by omega]
            by_cases hmn : (y.size : Int) < (x2.size : Int) / 2
            · obtain ⟨vv, HVv⟩ : ∃ v, Hid (v = y.extract y.size y.size) := ⟨_, Lib.hid rfl⟩
              have sv : vv.size ≤ 100 := by rw [HVv.out, extract_size]; omega
              have hsl2 : ∀ W, (Instr.slice 9 (.string y) (some (.int .i64 (y.size : Int))) none none).run Try.prog W = .ok (.string vv) W := fun W => by
                rw [run_slice_string_l W 9 y Try.underlying9 .i64 (y.size : Int) (by omega) (by omega), HVv.out]; rfl
              have HE : Hid (uu ++ vv = tearOf y x2) := Lib.hid (by rw [HU.out, HVv.out, ← HT.out, Nat.min_eq_right (by omega)])
              have s3 : ¬ 9223372036854775807 < uu.size + vv.size := by omega
              clear su sv
              go_still_tail 15, (by kernel_rfl)
              change wpList _ _ _ _ _ wa.drew
              rw [HE.out]
              go_wp2
              go_roundw
              case rel => exact ⟨k + 1, by omega, by go_num, HBs.out, HXs, HYs, HZs, by rw [HN.out]; exact HRs⟩
              case measure => simp [intOf]; omega
            · obtain ⟨vv, HVv⟩ : ∃ v, Hid (v = y.extract (x2.size / 2) y.size) := ⟨_, Lib.hid rfl⟩
              have sv : vv.size ≤ 100 := by rw [HVv.out, extract_size]; omega
              have hsl2 : ∀ W, (Instr.slice 9 (.string y) (some (.int .i64 ((x2.size : Int) / 2))) none none).run Try.prog W = .ok (.string vv) W := fun W => by
                rw [run_slice_string_l W 9 y Try.underlying9 .i64 ((x2.size : Int) / 2) (by omega) (by omega), HVv.out, show ((x2.size : Int) / 2).toNat = x2.size / 2 by omega]
              have HE : Hid (uu ++ vv = tearOf y x2) := Lib.hid (by rw [HU.out, HVv.out, ← HT.out, Nat.min_eq_left (by omega)])
              have s3 : ¬ 9223372036854775807 < uu.size + vv.size := by omega
              clear su sv
              go_still_tail 15, (by kernel_rfl)
              change wpList _ _ _ _ _ wa.drew
              rw [HE.out]
              go_wp2
              go_roundw
              case rel => exact ⟨k + 1, by omega, by go_num, HBs.out, HXs, HYs, HZs, by rw [HN.out]; exact HRs⟩
              case measure => simp [intOf]; omega
          · have hq2 : (ft == 2) = false := by simp [e2]
            have HN : Hid (settleN ss ws fs (k + 1) = cur) := Lib.hid (by rw [HK.out]; unfold stepF; rw [HFT.out, if_neg e1, if_neg e2])
            clear e1 e2
            generalize cur.getD p ByteArray.empty = y at hcd hold HT
            go_wp2
            go_roundw
            case rel => exact ⟨k + 1, by omega, by go_num, HB3.out, HX3, HY3, HZ3, by rw [HN.out]; exact HR3⟩
            case measure => simp [intOf]; omega
    · have f1 : wr.cell? ⟨w.heap.size, 1, none⟩ = some (.slice C m d) := X.out.cell 1 rfl
      have f2 : wr.cell? ⟨w1.heap.size + 1, 0, none⟩ = some (.slice (some ⟨gb, 0, none⟩) n cap) := Z.out.cell 0 rfl
      have f3 : wr.cell? ⟨w1.heap.size + 1, 1, none⟩ = some (.slice (some ⟨w1.heap.size, 0, none⟩) 0 0) := Z.out.cell 1 rfl
      have g0 := Y.out.cell 0 rfl
      have g1 := Y.out.cell 1 rfl
      have g2 := Y.out.frozen 0
      have g3 := Y.out.frozen 1
      go_wp2
      have ek : k = m := by omega
      subst ek
      refine bodyPost_ret (v := .agg #[.slice (some ⟨gb, 0, none⟩) n cap, .slice (some ⟨w1.heap.size, 0, none⟩) 0 0]) (by simp [results, Try.results75, go_sem, g0, g1]) rfl ?_
      have hne : gb ≠ w.heap.size + 1 := by have := HG.out; omega
      refine ⟨_, _, _, _, _, _, rfl, Lib.hid (by rw [settleN_len, HL.out]), Lib.hid rfl, Lib.hid ?_, Lib.hid (.inl rfl), (hbw.setCell (by show w.heap.size ≤ w.heap.size + 1; omega) _).setCell (by show w.heap.size ≤ w.heap.size + 1; omega) _⟩
      refine ((R.out.far (a := ⟨w.heap.size + 1, 0, none⟩) hne _).far (a := ⟨w.heap.size + 1, 1, none⟩) hne _).own (by have := HG.out; omega) ?_
      have := R.out.lt
      simpa [World.setCell] using this
end Go.Proofs.Ytcchhbkbnbphhaa

/- The model's source of draws: byte, next, chance. -/
namespace Go.Proofs.Ytcchhbkbnbphhaa
open Go.RowKit

def ByB (w : World) (lo : Nat) (A : Option Addr) (zs : List Nat) : Prop :=
  ∀ i, i < zs.length → ∃ b off, A = some ⟨b, off, none⟩ ∧ b < lo ∧ w.cell? ⟨b, off + i, none⟩ = some (.int .u8 (zs.getD i 0 : Nat)) ∧ zs.getD i 0 < 256
theorem ByB.btw {w w' : World} {lo l h' : Nat} {A : Option Addr} {zs : List Nat} (h : ByB w lo A zs) (hb : Btw l h' w w') (ho : lo ≤ l) : ByB w' lo A zs := fun i hi => by
  obtain ⟨b, off, e, q1, q2, q3⟩ := h i hi
  exact ⟨b, off, e, q1, hb.cell q2 (.inl (by show b < l; omega)), q3⟩
def Src (w : World) (b : Nat) (A : Option Addr) (n c : Nat) (zs : List Nat) (K : Nat) : Prop :=
  ∃ k sd : Nat, Box w b 79 #[.slice A n c, .int .i64 k, .int .i64 sd] ∧ k ≤ K ∧ sd < 2147483648 ∧ zs.length = n ∧ ByB w b A zs
theorem Src.btw {w w' : World} {b l h' : Nat} {A : Option Addr} {n c : Nat} {zs : List Nat} {K : Nat} (h : Src w b A n c zs K) (hb : Btw l h' w w') (ho : b < l) : Src w' b A n c zs K := by
  obtain ⟨k, sd, q1, q2, q3, q4, q5⟩ := h
  exact ⟨k, sd, q1.btw hb (.inl ho), q2, q3, q4, q5.btw hb (by omega)⟩
theorem Src.lt {w : World} {b : Nat} {A : Option Addr} {n c : Nat} {zs : List Nat} {K : Nat} (h : Src w b A n c zs K) : b < w.heap.size := by
  obtain ⟨k, sd, q1, _⟩ := h
  exact q1.lt
theorem Src.mono {w : World} {b : Nat} {A : Option Addr} {n c : Nat} {zs : List Nat} {K K' : Nat} (h : Src w b A n c zs K) (hk : K ≤ K') : Src w b A n c zs K' := by
  obtain ⟨k, sd, q1, q2, q3⟩ := h
  exact ⟨k, sd, q1, by omega, q3⟩

theorem src_at {w : World} {b : Nat} {A : Option Addr} {n c : Nat} {k sd : Nat} (X : Box w b 79 #[.slice A n c, .int .i64 k, .int .i64 sd]) :
    Box (w.setCell ⟨b, 1, none⟩ (.int .i64 ((k : Int) + 1))) b 79 #[.slice A n c, .int .i64 ((k + 1 : Nat) : Int), .int .i64 sd] := X.set 1 (.int .i64 ((k : Int) + 1))
theorem src_seed {w : World} {b : Nat} {A : Option Addr} {n c : Nat} {k sd : Nat} (X : Box w b 79 #[.slice A n c, .int .i64 k, .int .i64 sd]) (s2 : Nat) :
    Box (w.setCell ⟨b, 2, none⟩ (.int .i64 (s2 : Int))) b 79 #[.slice A n c, .int .i64 k, .int .i64 s2] := X.set 2 (.int .i64 (s2 : Int))

def SrcX (w : World) (b : Nat) (A : Option Addr) (n c : Nat) (zs : List Nat) (k sd : Nat) : Prop :=
  Box w b 79 #[.slice A n c, .int .i64 k, .int .i64 sd] ∧ sd < 2147483648 ∧ zs.length = n ∧ ByB w b A zs
def byteV (zs : List Nat) (k sd : Nat) : Nat × Nat × Nat :=
  if k < zs.length then (zs.getD k 0, k + 1, (sd * 31 + zs.getD k 0 + 7) % 2147483648) else if 3000 < k + 1 then (0, k + 1, sd) else ((sd * 1103515245 + 12345) % 2147483648 / 65536 % 256, k + 1, (sd * 1103515245 + 12345) % 2147483648)
theorem byteV_at (zs : List Nat) (k sd : Nat) : (byteV zs k sd).2.1 = k + 1 := by
  unfold byteV; split
  · rfl
  · split <;> rfl
theorem SrcX.src {w : World} {b : Nat} {A : Option Addr} {n c : Nat} {zs : List Nat} {k sd : Nat} (h : SrcX w b A n c zs k sd) {K : Nat} (hk : k ≤ K) : Src w b A n c zs K := ⟨k, sd, h.1, hk, h.2.1, h.2.2.1, h.2.2.2⟩
theorem Src.exact {w : World} {b : Nat} {A : Option Addr} {n c : Nat} {zs : List Nat} {K : Nat} (h : Src w b A n c zs K) : ∃ k sd, k ≤ K ∧ SrcX w b A n c zs k sd := by
  obtain ⟨k, sd, q1, q2, q3, q4, q5⟩ := h
  exact ⟨k, sd, q2, q1, q3, q4, q5⟩
set_option maxRecDepth 100000 in
set_option maxHeartbeats 4000000 in
theorem srcByteX (b : Nat) (A : Option Addr) (n c : Nat) (zs : List Nat) (k sd : Nat) (w : World) (hk9 : k ≤ 1000000000) (h : SrcX w b A n c zs k sd) :
    Calls Try.prog 82 #[.pointer (some ⟨b, 0, none⟩)] w fun e w' => e = .returned (.int .i64 ((byteV zs k sd).1 : Nat)) ∧ Hid (SrcX w' b A n c zs (byteV zs k sd).2.1 (byteV zs k sd).2.2) ∧ Btw b (b + 1) w w' := by
  obtain ⟨X, hs, hl, hz⟩ := h
  have HX := Lib.hid (src_at X)
  have HB : Hid (Btw b (b + 1) w (w.setCell ⟨b, 1, none⟩ (.int .i64 ((k : Int) + 1)))) := Lib.hid ((Btw.refl b (b + 1) w).setCell (p := ⟨b, 1, none⟩) (by show b ≤ b; omega) (by show b < b + 1; omega) _)
  have HZ := Lib.hid (hz.btw HB.out (Nat.le_refl _))
  have HL := Lib.hid hl
  have f1 : w.cell? ⟨b, 1, none⟩ = some (.int .i64 k) := X.cell 1 rfl
  have g1 := X.frozen 1
  clear X hz hl
  go_enter Try.func82, Try.ntmps82
  go_wp2
  generalize w.setCell ⟨b, 1, none⟩ (.int .i64 ((k : Int) + 1)) = w1 at HX HB HZ ⊢
  clear f1 g1
  have f0 : w1.cell? ⟨b, 0, none⟩ = some (.slice A n c) := HX.out.cell 0 rfl
  have f1 : w1.cell? ⟨b, 1, none⟩ = some (.int .i64 ((k : Int) + 1)) := HX.out.cell 1 rfl
  have f2 : w1.cell? ⟨b, 2, none⟩ = some (.int .i64 sd) := HX.out.cell 2 rfl
  have g2 := HX.out.frozen 2
  by_cases hlt : k < n
  · have hlt' : (k : Int) + 1 ≤ (n : Int) := by omega
    have hk0 : (0 : Int) ≤ (k : Int) := by omega
    have hki : (k : Int) < (n : Int) := by omega
    obtain ⟨bb, off, rfl, hbb, hc, hv⟩ := HZ.out k (by rw [HL.out]; exact hlt)
    have HV : Hid (byteV zs k sd = (zs.getD k 0, k + 1, (sd * 31 + zs.getD k 0 + 7) % 2147483648)) := Lib.hid (by unfold byteV; rw [if_pos (by rw [HL.out]; exact hlt)])
    generalize zs.getD k 0 = x at hc hv HV
    have hne : ¬ bb = b := by omega
    go_quiet (fail)
    go_wp2
    have HX2 := Lib.hid (HX.out.drewN nq)
    have HB2 := Lib.hid (HB.out.drewN nq)
    have HZ2 := Lib.hid (HZ.out.btw ((Btw.refl b (b + 1) w1).drewN nq) (Nat.le_refl _))
    have hc2 : (w1.drewN nq).cell? ⟨bb, off + k, none⟩ = some (.int .u8 (x : Nat)) := hc
    clear f0 f1 f2 g2 hc HX HB HZ
    generalize w1.drewN nq = w2 at HX2 HB2 HZ2 hc2 ⊢
    have f0 : w2.cell? ⟨b, 0, none⟩ = some (.slice (some ⟨bb, off, none⟩) n c) := HX2.out.cell 0 rfl
    have f1 : w2.cell? ⟨b, 1, none⟩ = some (.int .i64 ((k : Int) + 1)) := HX2.out.cell 1 rfl
    have f2 : w2.cell? ⟨b, 2, none⟩ = some (.int .i64 sd) := HX2.out.cell 2 rfl
    have g2 := HX2.out.frozen 2
    have t0 : (0 : Int) ≤ (sd : Int) := by omega
    have u1 : IntKind.i64.wrap ((sd : Int) * 31) = (sd : Int) * 31 := IntWalk.i64_in _ ⟨by omega, by omega⟩
    have u2 : IntKind.i64.wrap (k : Int) = (k : Int) := IntWalk.i64_in _ ⟨by omega, by omega⟩
    have u3 : IntKind.i64.wrap (x : Int) = (x : Int) := IntWalk.i64_in _ ⟨by omega, by omega⟩
    have u4 : IntKind.i64.wrap ((sd : Int) * 31 + (x : Int)) = (sd : Int) * 31 + (x : Int) := IntWalk.i64_in _ ⟨by omega, by omega⟩
    have u5 : IntKind.i64.wrap ((sd : Int) * 31 + (x : Int) + 7) = (sd : Int) * 31 + (x : Int) + 7 := IntWalk.i64_in _ ⟨by omega, by omega⟩
    go_still_tail 21, (by kernel_rfl)
    change wpList _ _ _ _ _ w2.drew
    go_wp2
    clear u1 u2 u3 u4 u5
    have e1 : ((sd : Int) * 31 + (x : Int) + 7) % 2147483648 = (((sd * 31 + x + 7) % 2147483648 : Nat) : Int) := by omega
    have e2 : (sd * 31 + x + 7) % 2147483648 < 2147483648 := Nat.mod_lt _ (by omega)
    rw [e1]
    clear e1
    generalize (sd * 31 + x + 7) % 2147483648 = s2 at e2 HV ⊢
    have kA : Btw b (b + 1) w2 ((w2.setCell ⟨b, 2, none⟩ (.int .i64 (s2 : Int))).drew) := ((Btw.refl b (b + 1) _).setCell (p := ⟨b, 2, none⟩) (by show b ≤ b; omega) (by show b < b + 1; omega) _).drew
    have HX3 := Lib.hid (src_seed HX2.out s2).drew
    have HB3 := Lib.hid (HB2.out.trans kA)
    have HZ3 := Lib.hid (HZ2.out.btw kA (Nat.le_refl _))
    have hc3 := kA.cell hc2 (.inl hbb)
    clear f0 f1 f2 g2 hc2 HX2 HB2 HZ2 kA
    generalize (w2.setCell ⟨b, 2, none⟩ (.int .i64 (s2 : Int))).drew = w3 at HX3 HB3 HZ3 hc3 ⊢
    have f0 : w3.cell? ⟨b, 0, none⟩ = some (.slice (some ⟨bb, off, none⟩) n c) := HX3.out.cell 0 rfl
    have f1 : w3.cell? ⟨b, 1, none⟩ = some (.int .i64 ((k : Int) + 1)) := HX3.out.cell 1 rfl
    have u2 : IntKind.i64.wrap (k : Int) = (k : Int) := IntWalk.i64_in _ ⟨by omega, by omega⟩
    have u3 : IntKind.i64.wrap (x : Int) = (x : Int) := IntWalk.i64_in _ ⟨by omega, by omega⟩
    go_quiet (fail)
    clear u2 u3
    go_wp2
    refine bodyPost_ret (v := .int .i64 (x : Int)) (by simp [results, Try.results82, go_sem]) rfl ?_
    rw [HV.out]
    exact ⟨rfl, Lib.hid ⟨HX3.out.drewN _, e2, HL.out, HZ3.out.btw ((Btw.refl b (b + 1) w3).drewN _) (Nat.le_refl _)⟩, HB3.out.drewN _⟩
  · have hlt' : ¬ (k : Int) + 1 ≤ (n : Int) := by omega
    by_cases h3 : 3000 < (k : Int) + 1
    · have HV : Hid (byteV zs k sd = (0, k + 1, sd)) := Lib.hid (by unfold byteV; rw [if_neg (by rw [HL.out]; exact hlt), if_pos (by omega)])
      go_quiet (fail)
      go_wp2
      refine bodyPost_ret (v := .int .i64 ((0 : Nat) : Int)) (by simp [results, Try.results82, go_sem]) rfl ?_
      rw [HV.out]
      exact ⟨rfl, Lib.hid ⟨HX.out.drewN nq, hs, HL.out, HZ.out.btw ((Btw.refl b (b + 1) w1).drewN nq) (Nat.le_refl _)⟩, HB.out.drewN nq⟩
    · have HV : Hid (byteV zs k sd = ((sd * 1103515245 + 12345) % 2147483648 / 65536 % 256, k + 1, (sd * 1103515245 + 12345) % 2147483648)) := Lib.hid (by unfold byteV; rw [if_neg (by rw [HL.out]; exact hlt), if_neg (by omega)])
      go_quiet (fail)
      go_wp2
      have e1 : ((sd : Int) * 1103515245 + 12345) % 2147483648 = (((sd * 1103515245 + 12345) % 2147483648 : Nat) : Int) := by omega
      have e2 : (sd * 1103515245 + 12345) % 2147483648 < 2147483648 := Nat.mod_lt _ (by omega)
      rw [e1]
      generalize (sd * 1103515245 + 12345) % 2147483648 = s2 at e2 HV ⊢
      have e3 : (s2 : Int) / 65536 % 256 = ((s2 / 65536 % 256 : Nat) : Int) := by omega
      rw [e3]
      have kA : Btw b (b + 1) (w1.drewN nq) ((w1.drewN nq).setCell ⟨b, 2, none⟩ (.int .i64 (s2 : Int))) := (Btw.refl b (b + 1) _).setCell (p := ⟨b, 2, none⟩) (by show b ≤ b; omega) (by show b < b + 1; omega) _
      have kB := ((Btw.refl b (b + 1) w1).drewN nq).trans kA
      refine bodyPost_ret (v := .int .i64 ((s2 / 65536 % 256 : Nat) : Int)) (by simp [results, Try.results82, go_sem]) rfl ?_
      rw [HV.out]
      exact ⟨rfl, Lib.hid ⟨src_seed (HX.out.drewN nq) s2, e2, HL.out, HZ.out.btw kB (Nat.le_refl _)⟩, HB.out.trans kB⟩

end Go.Proofs.Ytcchhbkbnbphhaa

/- The model's source of draws: next, chance, the source itself. -/
namespace Go.Proofs.Ytcchhbkbnbphhaa
open Go.RowKit

set_option maxRecDepth 100000 in
set_option maxHeartbeats 4000000 in
theorem srcNextX (N : Nat) (b : Nat) (A : Option Addr) (n c : Nat) (zs : List Nat) (k sd : Nat) (w : World) (hN : 2 ≤ N) (hN2 : N ≤ 256) (hK : k ≤ 1000000000) (h : SrcX w b A n c zs k sd) :
    Calls Try.prog 54 #[.pointer (some ⟨b, 0, none⟩), .int .i64 (N : Nat)] w fun e w' => e = .returned (.int .i64 ((byteV zs k sd).1 % N : Nat)) ∧ Hid (SrcX w' b A n c zs (byteV zs k sd).2.1 (byteV zs k sd).2.2) ∧ Btw b (b + 1) w w' := by
  have HC := Lib.hid (srcByteX b A n c zs k sd w hK h)
  have h1 : ¬ (N : Int) ≤ 1 := by omega
  have h2 : (N : Int) ≤ 256 := by omega
  have h3 : ¬ (N : Int) = 0 := by omega
  clear h
  go_enter Try.func54, Try.ntmps54
  go_wp2_with fail
  refine HC.out.mono ?_
  rintro e w1 ⟨rfl, S1, hb1⟩
  obtain ⟨v, hv⟩ : ∃ v, v = (byteV zs k sd).1 := ⟨_, rfl⟩
  rw [← hv]
  have HV := Lib.hid hv
  clear hv
  have v0 : (0 : Int) ≤ (v : Int) := by omega
  go_wp2
  have e1 : (v : Int) % (N : Int) = ((v % N : Nat) : Int) := by omega
  rw [e1]
  refine bodyPost_ret (v := .int .i64 ((v % N : Nat) : Int)) (by simp [results, Try.results54, go_sem]) rfl ?_
  exact ⟨by rw [HV.out], S1, hb1⟩

set_option maxRecDepth 100000 in
theorem srcNext (N : Nat) (b : Nat) (A : Option Addr) (n c : Nat) (zs : List Nat) (K : Nat) (w : World) (hN : 2 ≤ N) (hN2 : N ≤ 256) (hK : K ≤ 1000000000) (h : Src w b A n c zs K) :
    Calls Try.prog 54 #[.pointer (some ⟨b, 0, none⟩), .int .i64 (N : Nat)] w fun e w' => ∃ v : Nat, e = .returned (.int .i64 v) ∧ v < N ∧ Hid (Src w' b A n c zs (K + 1)) ∧ Btw b (b + 1) w w' := by
  obtain ⟨k, sd, hk, hx⟩ := h.exact
  refine (srcNextX N b A n c zs k sd w hN hN2 (by omega) hx).mono ?_
  rintro e w' ⟨rfl, h2, h3⟩
  exact ⟨_, rfl, Nat.mod_lt _ (by omega), Lib.hid (h2.out.src (by rw [byteV_at]; omega)), h3⟩

set_option maxRecDepth 100000 in
set_option maxHeartbeats 4000000 in
theorem srcNewX (A : Option Addr) (n c : Nat) (zs : List Nat) (w : World) (hn : n ≤ maxLen) (hl : zs.length = n) (h : ByB w w.heap.size A zs) :
    Calls Try.prog 24 #[.slice A n c] w fun e w' => e = .returned (.pointer (some ⟨w.heap.size, 0, none⟩)) ∧ Hid (SrcX w' w.heap.size A n c zs 0 (n % 1000)) ∧ Below w.heap.size w w' := by
  unfold maxLen at hn
  go_enter Try.func24, Try.ntmps24
  go_wp2
  have e1 : (n : Int) % 1000 = ((n % 1000 : Nat) : Int) := by omega
  rw [e1]
  refine bodyPost_ret (v := .pointer (some ⟨w.heap.size, 0, none⟩)) (by simp [results, Try.results24, go_sem]) rfl ?_
  have hb := alloc_below w (.cells #[.slice A n c, .int .i64 0, .int .i64 ((n % 1000 : Nat) : Int)] 79)
  exact ⟨rfl, Lib.hid ⟨Box.new _ _ _, Nat.lt_of_lt_of_le (Nat.mod_lt _ (by omega)) (by omega), hl, h.btw (Btw.of_below hb w.heap.size (w.heap.size + 1)) (Nat.le_refl _)⟩, hb⟩

set_option maxRecDepth 100000 in
theorem srcNew (A : Option Addr) (n c : Nat) (zs : List Nat) (w : World) (hn : n ≤ maxLen) (hl : zs.length = n) (h : ByB w w.heap.size A zs) :
    Calls Try.prog 24 #[.slice A n c] w fun e w' => e = .returned (.pointer (some ⟨w.heap.size, 0, none⟩)) ∧ Hid (Src w' w.heap.size A n c zs 0) ∧ Below w.heap.size w w' := by
  refine (srcNewX A n c zs w hn hl h).mono ?_
  rintro e w' ⟨rfl, h2, h3⟩
  exact ⟨rfl, Lib.hid (h2.out.src (Nat.le_refl _)), h3⟩
end Go.Proofs.Ytcchhbkbnbphhaa

/- The source of draws, carried over what does not touch it. -/
namespace Go.Proofs.Ytcchhbkbnbphhaa
open Go.RowKit

theorem Src.below {w w' : World} {b B : Nat} {A : Option Addr} {n c : Nat} {zs : List Nat} {K : Nat} (h : Src w b A n c zs K) (hb : Below B w w') (ho : b < B) : Src w' b A n c zs K := by
  obtain ⟨k, sd, q1, q2, q3, q4, q5⟩ := h
  refine ⟨k, sd, q1.below hb ho, q2, q3, q4, fun i hi => ?_⟩
  obtain ⟨bb, off, e, p1, p2, p3⟩ := q5 i hi
  exact ⟨bb, off, e, p1, (hb.cell (by show bb < B; omega)).trans p2, p3⟩
theorem Src.drew {w : World} {b : Nat} {A : Option Addr} {n c : Nat} {zs : List Nat} {K : Nat} (h : Src w b A n c zs K) : Src w.drew b A n c zs K := h.below (Below.refl _ _).drew h.lt
theorem Src.alloc {w : World} {b : Nat} {A : Option Addr} {n c : Nat} {zs : List Nat} {K : Nat} (h : Src w b A n c zs K) (o : Obj) : Src (w.alloc o) b A n c zs K := h.below (alloc_below w o) h.lt
theorem ByB.step {w w' : World} {A : Option Addr} {zs : List Nat} (h : ByB w w.heap.size A zs) (hb : Below w.heap.size w w') : ByB w' w'.heap.size A zs := fun i hi => by
  obtain ⟨b, off, e, q1, q2, q3⟩ := h i hi
  exact ⟨b, off, e, Nat.lt_of_lt_of_le q1 hb.size, (hb.cell q1).trans q2, q3⟩
end Go.Proofs.Ytcchhbkbnbphhaa

/- The model's source of draws: a text of n letters, fates. -/
namespace Go.Proofs.Ytcchhbkbnbphhaa
open Go.RowKit

theorem SrcX.below {w w' : World} {b B : Nat} {A : Option Addr} {n c : Nat} {zs : List Nat} {k sd : Nat} (h : SrcX w b A n c zs k sd) (hb : Below B w w') (ho : b < B) : SrcX w' b A n c zs k sd := by
  obtain ⟨q1, q3, q4, q5⟩ := h
  refine ⟨q1.below hb ho, q3, q4, fun i hi => ?_⟩
  obtain ⟨bb, off, e, p1, p2, p3⟩ := q5 i hi
  exact ⟨bb, off, e, p1, (hb.cell (by show bb < B; omega)).trans p2, p3⟩
theorem owns_keep {w w' : World} {base n : Nat} {e : TypeId} {size : Nat} {v : Value} {xs : List Value} (h : w.ownsRow base e size v n xs) (hk : ∀ k, base ≤ k → k < w.heap.size → w'.heap[k]? = w.heap[k]?) : w'.ownsRow base e size v n xs := by
  obtain ⟨h1, h0 | ⟨g, cap, cur, rfl, q1, q2, q3⟩⟩ := h
  · exact ⟨h1, .inl h0⟩
  · refine ⟨h1, .inr ⟨g, cap, cur, rfl, q1, ?_, q3⟩⟩
    have hlt : g < w.heap.size := by
      rcases Nat.lt_or_ge g w.heap.size with hlt | hge
      · exact hlt
      · rw [Array.getElem?_eq_none hge] at q2; cases q2
    rw [hk g q1 hlt]; exact q2
theorem owns_empty {w : World} {base g : Nat} {t : TypeId} (hb : base ≤ g) (hg : Box w g t #[]) : w.ownsRow base t 1 (.slice (some ⟨g, 0, none⟩) 0 0) 0 [] :=
  ⟨rfl, .inr ⟨g, 0, #[], rfl, hb, hg, Nat.le_refl _, Nat.zero_le _, rfl, rfl⟩⟩
theorem btw_grown {lo hi : Nat} {w w1 w2 : World} {r : Option Nat} (h : Btw lo hi w w1) (hg : w1.grownBy w2 r) (hr : ∀ k, r = some k → w.heap.size ≤ k) : Btw lo hi w w2 :=
  ⟨hg.os.trans h.os, hg.tape.trans h.tape, hg.output.trans h.output, Nat.le_trans h.size hg.size, fun k hk ho => (hg.block k (Nat.lt_of_lt_of_le hk h.size) (fun e => by have := hr k e.symm; omega)).trans (h.block k hk ho)⟩
set_option maxRecDepth 100000 in
theorem infoBy : ∃ i : TypeInfo, Try.prog.info? 5 = some i ∧ i.zero = some (.int .u8 0) ∧ i.size = 1 ∧ i.bytes = 1 := ⟨_, rfl, rfl, rfl, rfl⟩
set_option maxRecDepth 100000 in
theorem owns_form {w : World} {base n : Nat} {e : TypeId} {size : Nat} {v : Value} {xs : List Value} (h : w.ownsRow base e size v n xs) (hn : 0 < n) : ∃ g cap, v = .slice (some ⟨g, 0, none⟩) n cap ∧ base ≤ g ∧ g < w.heap.size := by
  rcases h.2 with ⟨_, h0⟩ | ⟨g, cap, cur, hv, hb, hg, _⟩
  · omega
  · refine ⟨g, cap, hv, hb, ?_⟩
    rcases Nat.lt_or_ge g w.heap.size with hlt | hge
    · exact hlt
    · rw [Array.getElem?_eq_none hge] at hg; cases hg
theorem ownBlock_ge1 {w : World} {base n : Nat} {e : TypeId} {size g cap : Nat} {xs : List Value} (h : w.ownsRow base e size (.slice (some ⟨g, 0, none⟩) n cap) n xs) : ∀ k, (Value.slice (some ⟨g, 0, none⟩) n cap).ownBlock = some k → base ≤ k := by
  intro k hk
  obtain ⟨h1, ⟨h0, _⟩ | ⟨g', cap', cur, hv, q1, q2⟩⟩ := h
  · simp at h0
  · injection hv with hv; injection hv with hv; injection hv with hv; subst hv; simp [Value.ownBlock] at hk; omega
theorem map_snoc {α β : Type} (f : α → β) (xs : List α) (x : α) : xs.map f ++ [f x] = (xs ++ [x]).map f := by simp
theorem owns_cells {w : World} {base n : Nat} {e : TypeId} {g cap : Nat} {k : IntKind} {xs : List Int} (h : w.ownsRow base e 1 (.slice (some ⟨g, 0, none⟩) n cap) n (xs.map (Value.int k))) : ∀ i, i < n → w.cell? ⟨g, 0 + i, none⟩ = some (.int k (xs.getD i 0)) := by
  obtain ⟨h1, h0 | ⟨g', cap', cur, hv, q1, q2, q3, q4, q5, q6⟩⟩ := h
  · simp at h0
  · injection hv with hv; injection hv with hv; injection hv with hv; subst hv
    intro i hi
    simp at h1
    rw [Nat.zero_add, cell_of_row w g i cur e (0, 0) q2]
    have : (cur.toList.take (n * 1))[i]? = (xs.map (Value.int k))[i]? := by rw [q6]
    rw [List.getElem?_take, if_pos (by omega), Array.getElem?_toList] at this
    rw [this, List.getElem?_map, List.getElem?_eq_getElem (by omega), List.getD_eq_getElem?_getD, List.getElem?_eq_getElem (by omega)]
    rfl

end Go.Proofs.Ytcchhbkbnbphhaa
