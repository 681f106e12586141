/- Texts of this claim, one behind the other: Settle, Flush, Crash, Src, Draw, DrawBig, SrcMore, SrcRoot, At2, WalkRoot, Open, OpenBytes. -/
import Derived.Laws.CopyOwn
import Derived.Deep.RegionHeld3
import Derived.OwnWalk
import Derived.Laws.OwnMore
import Derived.WalkLawsBesides
import Derived.StillTailTactics
import Derived.IntWalk
import Derived.Deep.RegionLaw
import Derived.Deep.DeepCutAuto
import Derived.Deep.Slices
import Derived.Lib.SmallJoins
import Derived.Test.YtkhhdlclcniklaaM2
/- Contracts of sectors, fateOf, tear, settle: what a crash makes of a disk. -/
namespace Go.Proofs.Ytkhhdlclcniklaa
open Go.RowKit

/-- n empty strings, as cells. -/
def zS (n : Nat) : List Value := List.replicate n (.string ByteArray.empty)
theorem zS_len (n : Nat) : (zS n).length = n := by unfold zS; rw [List.length_replicate]
theorem made_zS (n : Nat) : madeCells #[.string ByteArray.empty] n = (zS n).toArray := by
  apply Array.ext
  · simp [size_madeCells, zS_len]
  · intro i h1 h2
    simp [madeCells, zS, Nat.mod_one]
set_option maxRecDepth 100000 in
theorem makeS (n : Nat) (hn : n ≤ 1048576) (W : World) : (Instr.makeSlice 35 (.int .i64 (n : Int)) (.int .i64 (n : Int))).run Try.prog W = .ok (.slice (some ⟨W.heap.size, 0, none⟩) n n) (W.alloc (.cells (zS n).toArray 9)) := by
  rw [← made_zS]
  exact run_make_row' (P := Try.prog) 35 9 (.string ByteArray.empty) 16 Try.underlying35 infoS rfl .i64 .i64 n (by omega) (by omega) W
set_option maxRecDepth 100000 in
theorem szStr : (Try.prog.info? 9).map (·.size) = some 1 := by kernel_rfl
theorem row_of_list {w : World} {b : Nat} {t : TypeId} {n : Nat} {ss : List ByteArray} (hl : ss.length = n) (h : w.heap[b]? = some (.cells (ss.map Value.string).toArray t (0, 0))) : w.rowIs b t n (fun i => .string (ss.getD i ByteArray.empty)) :=
  ⟨_, h, by simp [hl], fun i hi => by
    have hi' : i < ss.length := by omega
    simp [List.getD_eq_getElem?_getD, hi']⟩

/-- The cells of a slice of strings. -/
def cellsS (ss : List ByteArray) : List Value := ss.map Value.string
theorem cellsS_len (ss : List ByteArray) : (cellsS ss).length = ss.length := by simp [cellsS]
theorem cellsS_one (ss : List ByteArray) : ∀ v ∈ cellsS ss, v.oneCell' = true := fun v hv => by
  obtain ⟨s, _, rfl⟩ := List.mem_map.1 hv
  rfl
theorem StrL.src {w : World} {A : Option Addr} {ss : List ByteArray} (h : StrL w A ss) (hp : 0 < (cellsS ss).length) : ∃ ad, A = some ad ∧ ∀ j v, (cellsS ss)[j]? = some v → w.cell? (ad.add j) = some v := by
  rw [cellsS_len] at hp
  obtain ⟨b, off, e, _⟩ := h 0 hp
  refine ⟨⟨b, off, none⟩, e, fun j v hj => ?_⟩
  have hj' : j < ss.length := by have := (List.getElem?_eq_some_iff.1 hj).1; simpa [cellsS] using this
  obtain ⟨b', off', e', hc⟩ := h j hj'
  rw [e] at e'
  injection e' with e'
  injection e' with e1 e2
  subst e1 e2
  have hv : v = Value.string (ss.getD j ByteArray.empty) := by
    unfold cellsS at hj
    rw [List.getElem?_map, List.getElem?_eq_getElem hj', Option.map_some] at hj
    rw [List.getD_eq_getElem?_getD, List.getElem?_eq_getElem hj']
    exact (Option.some.inj hj).symm
  rw [hv, ← hc]
  unfold Addr.add
  by_cases h0 : j = 0
  · subst h0; simp
  · rw [if_neg h0]

set_option maxRecDepth 100000 in
set_option maxHeartbeats 1000000 in
theorem sectors (A C : Option Addr) (n c m d : Nat) (ss : List ByteArray) (w : World) (hl : ss.length = n) (hn : n ≤ 1048576) (h : StrL w A ss) :
    Calls Try.prog 105 #[.agg #[.slice A n c, .slice C m d]] w fun e w' => e = .returned (.slice (some ⟨w.heap.size + 1, 0, none⟩) n n) ∧ Below w.heap.size w w' ∧ Hid (w'.rowIs (w.heap.size + 1) 9 n (fun i => .string (ss.getD i ByteArray.empty))) := by
  have hmk := makeS n hn
  have hb0 : Below w.heap.size w ((w.alloc (.cells #[.slice A n c, .slice C m d] 38)).alloc (.cells (zS n).toArray 9)) := ((Below.refl _ _).alloc (Nat.le_refl _) _).alloc (by simp) _
  have HP := Lib.hid (fun hp => (h.below hb0).src hp)
  have HL := Lib.hid hl
  have HN : Hid ((cellsS ss).length = n) := Lib.hid (by rw [cellsS_len]; exact hl)
  have hg : Hid (((w.alloc (.cells #[.slice A n c, .slice C m d] 38)).alloc (.cells (zS n).toArray 9)).heap[w.heap.size + 1]? = some (.cells (zS n).toArray 9 (0, 0))) := Lib.hid (by
    have := Box.new (w.alloc (.cells #[.slice A n c, .slice C m d] 38)) 9 (zS n).toArray
    rw [World.size_alloc] at this
    exact this)
  clear h hl
  go_enter Try.func105, Try.ntmps105
  go_wp2_with (with_reducible refine wpList_copy_splice rfl (.tmp 8) (.tmp 10) 35 35 rfl 9 Try.underlying35 szStr _ _ n n n c rfl rfl (w.heap.size + 1) 0 (zS n) 9 hg.out (cellsS ss) ?h1 ?h2 ?h3 ?h4 w.heap.size w hb0 (by omega) ?_)
  case h1 => rw [HN.out]; simp
  case h2 => first | exact fun hp => ⟨rfl, HP.out hp⟩ | exact fun hp => HP.out hp
  case h3 => rw [HN.out, zS_len]; omega
  case h4 => exact cellsS_one ss
  intro w2 hg2 hb2
  have HR : Hid (w2.rowIs (w.heap.size + 1) 9 n (fun i => .string (ss.getD i ByteArray.empty))) := Lib.hid (by
    refine row_of_list HL.out ?_
    have := hg2.out
    rw [show splice (zS n) 0 (cellsS ss) = ss.map Value.string from by
      unfold splice
      rw [HN.out, List.drop_of_length_le (by rw [zS_len]; omega)]; simp [cellsS]] at this
    exact this)
  clear hg2 hg hmk
  go_wp2
  go_ret
  exact ⟨rfl, hb2, HR⟩

/-- The fate of write i. -/
def fateAt (fates : List Int) (i : Nat) : Int := if fates.length = 0 then 0 else fates.getD (i % fates.length) 0

set_option maxRecDepth 100000 in
theorem fateOf (A : Option Addr) (n c : Nat) (fs : List Int) (i : Nat) (w : World) (hl : fs.length = n) (hn : n ≤ maxLen) (hi : i ≤ 1048576) (h : IntL w A fs) :
    Calls Try.prog 124 #[.slice A n c, .int .i64 i] w fun e w' => e = .returned (.int .i64 (fateAt fs i)) ∧ w = w' := by
  unfold maxLen at hn
  by_cases h0 : n = 0
  · have hb : ((n : Int) == 0) = true := by simp; omega
    have HF : Hid (fateAt fs i = 0) := Lib.hid (by unfold fateAt; rw [if_pos (by omega)])
    clear h0 hl h
    go_enter Try.func124, Try.ntmps124
    go_wp2
    go_ret
    exact ⟨ret_int HF.out.symm, rfl⟩
  · have hb : ((n : Int) == 0) = false := by simp; omega
    have HF : Hid (fateAt fs i = fs.getD (i % n) 0) := Lib.hid (by unfold fateAt; rw [if_neg (by omega), hl])
    have hlt : i % n < n := Nat.mod_lt _ (by omega)
    obtain ⟨b, off, rfl, hc⟩ := h (i % n) (by omega)
    generalize fs.getD (i % n) 0 = z at hc HF
    have hn0 : ¬ (n : Int) = 0 := by omega
    clear hl h h0
    go_enter Try.func124, Try.ntmps124
    go_wp2
    go_ret
    exact ⟨ret_int HF.out.symm, rfl⟩

/-- A torn write: the first half of the data, then what was there behind it. -/
def tearOf (old data : ByteArray) : ByteArray := if old.size ≤ data.size / 2 then data.extract 0 (data.size / 2) else data.extract 0 (data.size / 2) ++ old.extract (data.size / 2) old.size

set_option maxRecDepth 100000 in
theorem tear (old data : ByteArray) (w : World) (h1 : old.size ≤ 100) (h2 : data.size ≤ 100) :
    Calls Try.prog 125 #[.string old, .string data] w fun e w' => e = .returned (.string (tearOf old data)) ∧ Below w.heap.size w w' := by
  by_cases h : old.size ≤ data.size / 2
  · have HF : Hid (tearOf old data = data.extract 0 (data.size / 2)) := Lib.hid (by unfold tearOf; rw [if_pos h])
    go_enter Try.func125, Try.ntmps125
    go_wp2
    go_ret
    exact ⟨by rw [HF.out]; rfl, Below.refl _ _⟩
  · have HF : Hid (tearOf old data = data.extract 0 (data.size / 2) ++ old.extract (data.size / 2) old.size) := Lib.hid (by unfold tearOf; rw [if_neg h])
    go_enter Try.func125, Try.ntmps125
    go_wp2
    go_quiet (fail)
    go_wp2
    go_ret
    exact ⟨by rw [HF.out]; rfl, below_drewN (Below.refl _ _) _⟩

/-- What write k makes of the sectors. -/
def stepF (fates : List Int) (k : Nat) (ss : List ByteArray) (x : Int × ByteArray) : List ByteArray :=
  if fateAt fates k = 1 then ss.set x.1.toNat x.2 else if fateAt fates k = 2 then ss.set x.1.toNat (tearOf (ss.getD x.1.toNat ByteArray.empty) x.2) else ss
/-- The sectors behind the first k writes. -/
def settleN (ss : List ByteArray) (ws : List (Int × ByteArray)) (fates : List Int) : Nat → List ByteArray
  | 0 => ss
  | k + 1 => stepF fates k (settleN ss ws fates k) (ws.getD k (0, ByteArray.empty))

theorem stepF_len (fates : List Int) (k : Nat) (ss : List ByteArray) (x : Int × ByteArray) : (stepF fates k ss x).length = ss.length := by
  unfold stepF; split
  · simp
  · split <;> simp
theorem settleN_len (ss : List ByteArray) (ws : List (Int × ByteArray)) (fates : List Int) (k : Nat) : (settleN ss ws fates k).length = ss.length := by
  induction k with
  | zero => rfl
  | succ k ih => rw [settleN, stepF_len, ih]
theorem extract_size (s : ByteArray) (a b : Nat) : (s.extract a b).size = min b s.size - a := by simp [ByteArray.size_extract]
theorem tearOf_size (old data : ByteArray) (h1 : old.size ≤ 100) (h2 : data.size ≤ 100) : (tearOf old data).size ≤ 100 := by
  unfold tearOf
  split
  · rw [extract_size]; omega
  · rw [ByteArray.size_append, extract_size, extract_size]; omega
theorem stepF_small (fates : List Int) (k : Nat) (ss : List ByteArray) (x : Int × ByteArray) (h : ∀ s ∈ ss, s.size ≤ 100) (hx : x.2.size ≤ 100) : ∀ s ∈ stepF fates k ss x, s.size ≤ 100 := by
  intro s hs
  unfold stepF at hs
  have hg : (ss.getD x.1.toNat ByteArray.empty).size ≤ 100 := by
    rw [List.getD_eq_getElem?_getD]
    rcases Nat.lt_or_ge x.1.toNat ss.length with hlt | hge
    · rw [List.getElem?_eq_getElem hlt]; exact h _ (List.getElem_mem _)
    · rw [List.getElem?_eq_none hge]; exact Nat.zero_le _
  split at hs
  · rcases List.mem_or_eq_of_mem_set hs with h1 | h1
    · exact h s h1
    · rw [h1]; exact hx
  · split at hs
    · rcases List.mem_or_eq_of_mem_set hs with h1 | h1
      · exact h s h1
      · rw [h1]; exact tearOf_size _ _ hg hx
    · exact h s hs
theorem settleN_small (ss : List ByteArray) (ws : List (Int × ByteArray)) (fates : List Int) (h : ∀ s ∈ ss, s.size ≤ 100) (hw : ∀ x ∈ ws, x.2.size ≤ 100) (k : Nat) (hk : k ≤ ws.length) : ∀ s ∈ settleN ss ws fates k, s.size ≤ 100 := by
  induction k with
  | zero => exact h
  | succ k ih =>
    rw [settleN]
    refine stepF_small fates k _ _ (ih (by omega)) (hw _ ?_)
    rw [List.getD_eq_getElem?_getD, List.getElem?_eq_getElem (by omega)]; exact List.getElem_mem _
theorem getD_set (l : List ByteArray) (p j : Nat) (x : ByteArray) (h : p < l.length) : (l.set p x).getD j ByteArray.empty = if j = p then x else l.getD j ByteArray.empty := by
  simp only [List.getD_eq_getElem?_getD, List.getElem?_set]
  by_cases e : j = p
  · subst e; rw [if_pos rfl, if_pos rfl, if_pos h]; rfl
  · rw [if_neg (fun h => e h.symm), if_neg e]
/-- A store into the row of strings. -/
theorem row_set {w : World} {b p : Nat} {t : TypeId} {n : Nat} {l : List ByteArray} {x : ByteArray} (h : w.rowIs b t n (fun i => .string (l.getD i ByteArray.empty))) (hp : p < l.length) : (w.setCell ⟨b, p, none⟩ (.string x)).rowIs b t n (fun i => .string ((l.set p x).getD i ByteArray.empty)) :=
  (h.set p (.string x)).congr (fun j _ => by
    rw [getD_set l p j x hp]
    by_cases e : j = p
    · rw [if_pos e, if_pos e]
    · rw [if_neg e, if_neg e])
theorem getD_small {l : List ByteArray} (h : ∀ s ∈ l, s.size ≤ 100) (p : Nat) : (l.getD p ByteArray.empty).size ≤ 100 := by
  rw [List.getD_eq_getElem?_getD]
  rcases Nat.lt_or_ge p l.length with hlt | hge
  · rw [List.getElem?_eq_getElem hlt]; exact h _ (List.getElem_mem _)
  · rw [List.getElem?_eq_none hge]; exact Nat.zero_le _

/-- A disk that DiskOK lets by. -/
structure Ok (ss : List ByteArray) (ws : List (Int × ByteArray)) : Prop where
  n48 : ss.length = 48
  m60 : ws.length ≤ 60
  small : ∀ s ∈ ss, s.size ≤ 100
  smallW : ∀ x ∈ ws, x.2.size ≤ 100
  at_ : ∀ x ∈ ws, 0 ≤ x.1 ∧ x.1 ≤ 47
theorem ok_of {ss : List ByteArray} {ws : List (Int × ByteArray)} (h : okDisk ss ws = true) : Ok ss ws := by
  unfold okDisk at h
  simp only [Bool.and_eq_true, decide_eq_true_eq, List.all_eq_true] at h
  obtain ⟨⟨h1, h2⟩, h3, h4⟩ := h
  refine ⟨h1, h2, fun s hs => ?_, fun x hx => ?_, fun x hx => ?_⟩
  · have := h3 s hs; unfold okSt at this; simpa using this
  · have := h4 x hx; unfold okWr at this; simp at this; exact this.2
  · have := h4 x hx; unfold okWr at this; simp at this; exact secB_range this.1

set_option maxRecDepth 100000 in
set_option maxHeartbeats 4000000 in
theorem settle (A C F : Option Addr) (n c m d nf cf : Nat) (ss : List ByteArray) (ws : List (Int × ByteArray)) (fs : List Int) (w : World) (hl : ss.length = n) (hm : ws.length = m) (hf : fs.length = nf) (hnf : nf ≤ maxLen) (h : StrL w A ss) (g : WrL w C ws) (i : IntL w F fs) (ok : Ok ss ws) :
    Calls Try.prog 112 #[.agg #[.slice A n c, .slice C m d], .slice F nf cf] w (GivesDisk (settleN ss ws fs m) [] w) := by
  have HL := Lib.hid hl
  have HM := Lib.hid hm
  have HSec := Lib.hid (fun W (hb : Below w.heap.size w W) => sectors A C n c m d ss W hl (by have := ok.n48; omega) (h.below hb))
  have HFt := Lib.hid (fun j W (hj : j ≤ 1048576) (hb : Below w.heap.size w W) => fateOf F nf cf fs j W hf hnf hj (i.below hb))
  have G := Lib.hid g
  have OK := Lib.hid ok
  have hm60 : m ≤ 60 := by have := ok.m60; omega
  have hn48 : n ≤ 48 := by have := ok.n48; omega
  clear hl hm hf hnf h g i ok
  go_enter Try.func112, Try.ntmps112
  go_wp2_with fail
  obtain ⟨W0, hW0⟩ : ∃ W0, W0 = ((w.alloc (.cells #[.slice A n c, .slice C m d] 38)).alloc (.cells #[.slice none 0 0, .slice none 0 0] 38)) := ⟨_, rfl⟩
  have hb0 : Below w.heap.size w W0 := by rw [hW0]; exact ((Below.refl _ _).alloc (Nat.le_refl _) _).alloc (by simp) _
  have hs0 : W0.heap.size = w.heap.size + 1 + 1 := by rw [hW0]; simp
  have X0 : Box W0 w.heap.size 38 #[.slice A n c, .slice C m d] := by rw [hW0]; exact (Box.new _ _ _).alloc _
  have Y0 : Box W0 (w.heap.size + 1) 38 #[.slice none 0 0, .slice none 0 0] := by rw [hW0]; simpa using Box.new (w.alloc (.cells #[.slice A n c, .slice C m d] 38)) 38 #[.slice none 0 0, .slice none 0 0]
  rw [← hW0]
  clear hW0
  refine (HSec.out W0 hb0).mono ?_
  rintro e w1 ⟨rfl, hb1, HR1⟩
  have X1 := X0.step hb1
  have Y1 := Lib.hid (Y0.step hb1)
  have hb1' := bt hb0 hb1
  have HB : Hid (w.heap.size + 1 < W0.heap.size + 1) := Lib.hid (by omega)
  have f1 : w1.cell? ⟨w.heap.size, 1, none⟩ = some (.slice C m d) := X1.cell 1 rfl
  clear X0 Y0 X1 hb0 hb1 hs0
  generalize W0.heap.size + 1 = b at HR1 HB ⊢
  go_wp2
  clear f1
  go_loopw [13] (fun q wr => ∃ k : Nat, k ≤ m ∧ q = .int .i64 k ∧ Below w.heap.size w wr ∧ Hid (wr.rowIs b 9 n (fun j => .string ((settleN ss ws fs k).getD j ByteArray.empty))) ∧ Hid (Box wr (w.heap.size + 1) 38 #[.slice none 0 0, .slice none 0 0])) (fun q _ => m - (intOf q).toNat)
  case atStart => exact ⟨0, Nat.zero_le _, rfl, hb1', HR1, Y1⟩
  case round =>
    obtain ⟨k, hk, rfl, hbw, HR, HY⟩ := hrel
    by_cases hlt : k < m
    · obtain ⟨b2, off, rfl, hc, hd⟩ := (G.out.below hbw) k (by rw [HM.out]; exact hlt)
      have hmem : ws.getD k (0, ByteArray.empty) ∈ ws := by rw [List.getD_eq_getElem?_getD, List.getElem?_eq_getElem (by rw [HM.out]; exact hlt)]; exact List.getElem_mem _
      have hat := OK.out.at_ _ hmem
      have hsz := OK.out.smallW _ hmem
      have HK : Hid (settleN ss ws fs (k + 1) = stepF fs k (settleN ss ws fs k) (ws.getD k (0, ByteArray.empty))) := Lib.hid rfl
      have hsm := settleN_small ss ws fs OK.out.small OK.out.smallW k (by rw [HM.out]; omega)
      have HLen : Hid ((settleN ss ws fs k).length = n) := Lib.hid (by rw [settleN_len, HL.out])
      generalize ws.getD k (0, ByteArray.empty) = x at hc hd hat hsz HK hmem
      obtain ⟨x1, x2⟩ := x
      simp only at hc hd hat hsz
      obtain ⟨p, rfl⟩ : ∃ p : Nat, x1 = p := ⟨x1.toNat, by omega⟩
      have hpn : p < n := by have := OK.out.n48; have := HL.out; omega
      have hpi : (p : Int) < (n : Int) := by omega
      have hold := getD_small hsm p
      generalize settleN ss ws fs k = cur at HR HK hsm HLen hold
      have hi : (k : Int) < (m : Int) := by omega
      have hk1 : k ≤ 1048576 := by omega
      have hba : Below w.heap.size w (wr.alloc (.cells #[.int .i64 (p : Int), .string x2] 90)) := hbw.alloc hbw.size _
      have HFk := Lib.hid (HFt.out k _ hk1 hba)
      have HRa := Lib.hid (HR.out.alloc (.cells #[.int .i64 (p : Int), .string x2] 90))
      have HYa := Lib.hid (HY.out.alloc (.cells #[.int .i64 (p : Int), .string x2] 90))
      have HXa := Lib.hid (Box.new wr 90 #[.int .i64 (p : Int), .string x2])
      clear hmem hat hsm
      go_wp2_with fail
      refine HFk.out.mono ?_
      rintro e w2 ⟨rfl, rfl⟩
      generalize hfate : fateAt fs k = ft
      have HFT := Lib.hid hfate
      clear hfate
      clear HFk HR HY
      by_cases e1 : ft = 1
      · have hq : (ft == 1) = true := by simp [e1]
        have HN : Hid (settleN ss ws fs (k + 1) = cur.set p x2) := Lib.hid (by rw [HK.out]; unfold stepF; rw [HFT.out, if_pos e1]; rfl)
        clear e1
        have hcd := HRa.out.cell hpn
        have hfr := HRa.out.frozen p
        have HS := Lib.hid (row_set (x := x2) HRa.out (by rw [HLen.out]; exact hpn))
        have HYs := Lib.hid (HYa.out.far (p := ⟨b, p, none⟩) (by show w.heap.size + 1 ≠ b; have := HB.out; omega) (.string x2))
        have HBs := Lib.hid (hba.setCell (p := ⟨b, p, none⟩) (by show w.heap.size ≤ b; have := HB.out; omega) (.string x2))
        generalize cur.getD p ByteArray.empty = y at hcd
        go_wp2
        go_roundw
        case rel => exact ⟨k + 1, by omega, by go_num, HBs.out, by rw [HN.out]; exact HS, HYs⟩
        case measure => simp [intOf]; omega
      · have hq : (ft == 1) = false := by simp [e1]
        by_cases e2 : ft = 2
        · have hq2 : (ft == 2) = true := by simp [e2]
          have HN : Hid (settleN ss ws fs (k + 1) = cur.set p (tearOf (cur.getD p ByteArray.empty) x2)) := Lib.hid (by rw [HK.out]; unfold stepF; rw [HFT.out, if_neg e1, if_pos e2]; rfl)
          clear e1 e2
          have hcd : (wr.alloc (.cells #[.int .i64 (p : Int), .string x2] 90)).cell? ⟨b, p, none⟩ = some (.string (cur.getD p ByteArray.empty)) := HRa.out.cell hpn
          have g0 : (wr.alloc (.cells #[.int .i64 (p : Int), .string x2] 90)).cell? ⟨wr.heap.size, 0, none⟩ = some (.int .i64 (p : Int)) := HXa.out.cell 0 rfl
          have g1 : (wr.alloc (.cells #[.int .i64 (p : Int), .string x2] 90)).cell? ⟨wr.heap.size, 1, none⟩ = some (.string x2) := HXa.out.cell 1 rfl
          have HTe := Lib.hid (fun W => tear (cur.getD p ByteArray.empty) x2 W hold hsz)
          generalize tearOf (cur.getD p ByteArray.empty) x2 = t at HTe HN
          generalize cur.getD p ByteArray.empty = y at hcd HTe hold
          go_wp2_with fail
          generalize wr.alloc (.cells #[.int .i64 (p : Int), .string x2] 90) = wa at hba HRa HYa HXa hcd g0 g1 ⊢
          have HKp := Lib.hid (fun W (hb : Below wa.heap.size wa W) => And.intro ((hb.cell (cell_lt g0)).trans g0) (And.intro ((hb.cell (cell_lt hcd)).trans hcd) ((hb.frozen (p := ⟨b, p, none⟩) (cell_lt hcd)).trans (HRa.out.frozen p))))
          have h6 : Below wa.heap.size wa wa.drew := (Below.refl _ _).drew
          go_region_with (go_at_call 125; refine (HTe.out _).mono ?_; rintro e w3 ⟨rfl, hb3⟩; have k3 : Below wa.heap.size wa w3 := bt h6 hb3; have z0 := (HKp.out w3 k3).1; have z1 := (HKp.out w3 k3).2.1; have z2 := (HKp.out w3 k3).2.2)
          all_goals
            have HS := Lib.hid (row_set (x := t) (row_below k3 HRa.out HRa.out.lt) (by rw [HLen.out]; exact hpn))
            have HYs := Lib.hid ((HYa.out.step k3).far (p := ⟨b, p, none⟩) (by show w.heap.size + 1 ≠ b; have := HB.out; omega) (.string t))
            have HBs := Lib.hid ((bt hba k3).setCell (p := ⟨b, p, none⟩) (by show w.heap.size ≤ b; have := HB.out; omega) (.string t))
            clear z0 z1 z2 k3 hb3 h6 HKp g0 g1 hcd HRa HYa HXa hba HTe
            go_wp2
            go_roundw
            case rel => exact ⟨k + 1, by omega, by go_num, HBs.out, by rw [HN.out]; exact HS, HYs⟩
            case measure => simp [intOf]; omega
        · have hq2 : (ft == 2) = false := by simp [e2]
          have HN : Hid (settleN ss ws fs (k + 1) = cur) := Lib.hid (by rw [HK.out]; unfold stepF; rw [HFT.out, if_neg e1, if_neg e2])
          clear e1 e2
          go_wp2
          go_roundw
          case rel => exact ⟨k + 1, by omega, by go_num, hba, by rw [HN.out]; exact HRa, HYa⟩
          case measure => simp [intOf]; omega
    · have g0 := HY.out.cell 0 rfl
      have g1 := HY.out.cell 1 rfl
      have g2 := HY.out.frozen 0
      have g3 := HY.out.frozen 1
      go_wp2
      have ek : k = m := by omega
      subst ek
      refine bodyPost_ret (v := .agg #[.slice (some ⟨b, 0, none⟩) n n, .slice none 0 0]) (by simp [results, Try.results112, go_sem, g0, g1]) rfl ?_
      have hne : b ≠ w.heap.size + 1 := by have := HB.out; omega
      refine ⟨_, _, _, _, _, _, rfl, Lib.hid (by rw [settleN_len, HL.out]), Lib.hid rfl, Lib.hid ?_, Lib.hid (.inl rfl), (hbw.setCell (by show w.heap.size ≤ w.heap.size + 1; omega) _).setCell (by show w.heap.size ≤ w.heap.size + 1; omega) _⟩
      refine own_of_rowS (by rw [settleN_len, HL.out]) ((HR.out.setOther (a := ⟨w.heap.size + 1, 0, none⟩) hne _).setOther (a := ⟨w.heap.size + 1, 1, none⟩) hne _) (by have := HB.out; omega) ?_
      have := HR.out.lt
      simpa [World.setCell] using this
end Go.Proofs.Ytkhhdlclcniklaa

/- Contract of the model's flush: l01Flush. -/
namespace Go.Proofs.Ytkhhdlclcniklaa
open Go.RowKit

theorem fate_one (k : Nat) : fateAt [1] k = 1 := by simp [fateAt, Nat.mod_one]
theorem settle_one (ss : List ByteArray) (ws : List (Int × ByteArray)) (k : Nat) : settleN ss ws [1] (k + 1) = (settleN ss ws [1] k).set (ws.getD k (0, ByteArray.empty)).1.toNat (ws.getD k (0, ByteArray.empty)).2 := by
  rw [settleN, stepF, if_pos (fate_one k)]

/-- From a row that an append made to a row by its index. -/
theorem row_of_own {w : World} {base n : Nat} {v : Value} {ss : List ByteArray} (h : w.ownsRow base 9 1 v n (cellsS ss)) (hn : 0 < n) : ∃ g cap m f, v = .slice (some ⟨g, 0, none⟩) n cap ∧ base ≤ g ∧ n ≤ m ∧ ss.length = n ∧ w.rowIs g 9 m f ∧ ∀ i, i < n → f i = .string (ss.getD i ByteArray.empty) := by
  obtain ⟨hl, h0 | ⟨g, cap, cur, rfl, hb, hg, hnc, _, hsz, htk⟩⟩ := h
  · omega
  · rw [cellsS_len, Nat.mul_one] at hl
    rw [Nat.mul_one] at hsz htk
    refine ⟨g, cap, cap, fun i => cur.toList.getD i undef, rfl, hb, hnc, hl, ⟨cur, hg, hsz, fun i hi => ?_⟩, fun i hi => ?_⟩
    · have : i < cur.toList.length := by simp [hsz, hi]
      show cur[i]? = some (cur.toList.getD i undef)
      rw [List.getD_eq_getElem?_getD, List.getElem?_eq_getElem this, ← Array.getElem?_toList, List.getElem?_eq_getElem this]
      rfl
    · have h1 : (cur.toList.take n)[i]? = (cellsS ss)[i]? := by rw [htk]
      rw [List.getElem?_take, if_pos hi] at h1
      show cur.toList.getD i undef = _
      rw [List.getD_eq_getElem?_getD, h1]
      unfold cellsS
      rw [List.getElem?_map, List.getD_eq_getElem?_getD, List.getElem?_eq_getElem (by omega)]
      rfl
theorem own_empty {w : World} {base g : Nat} {t : TypeId} (hb : base ≤ g) (hg : Box w g t #[]) : w.ownsRow base t 1 (.slice (some ⟨g, 0, none⟩) 0 0) 0 (cellsS []) :=
  ⟨rfl, .inr ⟨g, 0, #[], rfl, hb, hg, Nat.le_refl _, Nat.zero_le _, rfl, rfl⟩⟩
theorem cellsS_app (ss : List ByteArray) : cellsS [] ++ cellsS ss = cellsS ss := rfl
theorem below_of_grown {B : Nat} {w w' : World} {r : Option Nat} (h : w.grownBy w' r) (hr : ∀ k, r = some k → B ≤ k) (hB : B ≤ w.heap.size) : Below B w w' := (Below.refl B w).grown h hB hr

/-- A row of strings with room to spare: the first n are these. -/
def RowS (w : World) (b n m : Nat) (l : List ByteArray) : Prop := l.length = n ∧ n ≤ m ∧ ∃ f, w.rowIs b 9 m f ∧ ∀ i, i < n → f i = .string (l.getD i ByteArray.empty)
theorem RowS.cell {w : World} {b n m p : Nat} {l : List ByteArray} (h : RowS w b n m l) (hp : p < n) : w.cell? ⟨b, p, none⟩ = some (.string (l.getD p ByteArray.empty)) := by
  obtain ⟨_, hm, f, hr, hf⟩ := h
  rw [← hf p hp]; exact hr.cell (by omega)
theorem RowS.frozen {w : World} {b n m : Nat} {l : List ByteArray} (h : RowS w b n m l) (p : Nat) : w.frozen? ⟨b, p, none⟩ = false := by
  obtain ⟨_, hm, f, hr, hf⟩ := h
  exact hr.frozen p
theorem RowS.lt {w : World} {b n m : Nat} {l : List ByteArray} (h : RowS w b n m l) : b < w.heap.size := by
  obtain ⟨_, hm, f, hr, hf⟩ := h
  exact hr.lt
theorem RowS.below {w w' : World} {b n m : Nat} {l : List ByteArray} (h : RowS w b n m l) (hb : Below w.heap.size w w') : RowS w' b n m l := by
  obtain ⟨hl, hm, f, hr, hf⟩ := h
  exact ⟨hl, hm, f, row_below hb hr hr.lt, hf⟩
theorem RowS.set {w : World} {b n m p : Nat} {l : List ByteArray} (h : RowS w b n m l) (hp : p < n) (x : ByteArray) : RowS (w.setCell ⟨b, p, none⟩ (.string x)) b n m (l.set p x) := by
  obtain ⟨hl, hm, f, hr, hf⟩ := h
  refine ⟨by simpa using hl, hm, _, hr.set p (.string x), fun i hi => ?_⟩
  rw [getD_set l p i x (by omega)]
  by_cases e : i = p
  · rw [if_pos e, if_pos e]
  · rw [if_neg e, if_neg e]; exact hf i hi
theorem RowS.far {w : World} {b n m : Nat} {l : List ByteArray} (h : RowS w b n m l) {a : Addr} (ha : b ≠ a.block) (v : Value) : RowS (w.setCell a v) b n m l := by
  obtain ⟨hl, hm, f, hr, hf⟩ := h
  exact ⟨hl, hm, f, hr.setOther ha v, hf⟩
theorem RowS.own {w : World} {b n m lo hi : Nat} {l : List ByteArray} (h : RowS w b n m l) (h1 : lo ≤ b) (h2 : b < hi) : OwnS w lo hi (some ⟨b, 0, none⟩) l := by
  obtain ⟨hl, hm, f, hr, hf⟩ := h
  exact .inr ⟨b, m, f, rfl, h1, h2, by omega, hr, fun i hi => hf i (by omega)⟩

set_option maxRecDepth 100000 in
theorem infoSx : ∃ i : TypeInfo, Try.prog.info? 9 = some i ∧ i.zero = some (.string ByteArray.empty) ∧ i.size = 1 ∧ i.bytes = 16 := by
  obtain ⟨i, hi, hzz⟩ := Option.map_eq_some_iff.1 infoS
  simp only [Prod.mk.injEq] at hzz
  exact ⟨i, hi, hzz.1, hzz.2.1, hzz.2.2⟩

set_option maxRecDepth 100000 in
set_option maxHeartbeats 4000000 in
theorem l01Flush (A C : Option Addr) (n c m d : Nat) (ss : List ByteArray) (ws : List (Int × ByteArray)) (w : World) (hl : ss.length = n) (hm : ws.length = m) (h : StrL w A ss) (g : WrL w C ws) (ok : Ok ss ws) :
    Calls Try.prog 108 #[.agg #[.slice A n c, .slice C m d]] w (GivesDisk (settleN ss ws [1] m) [] w) := by
  have HL := Lib.hid hl
  have HM := Lib.hid hm
  have HSt := Lib.hid h
  have G := Lib.hid g
  have OK := Lib.hid ok
  have hm60 : m ≤ 60 := by have := ok.m60; omega
  have hn48 : n ≤ 48 := by have := ok.n48; omega
  have hn48' : 48 ≤ n := by have := ok.n48; omega
  clear hl hm h g ok
  obtain ⟨i0, hi0, hz0, hz1, hz2⟩ := infoSx
  have HI := Lib.hid (And.intro hi0 (And.intro hz0 (And.intro hz1 hz2)))
  clear hi0 hz0 hz1 hz2
  obtain ⟨W0, hW0⟩ : ∃ W0, W0 = (((w.alloc (.cells #[.slice A n c, .slice C m d] 38)).alloc (.cells #[.slice none 0 0, .slice none 0 0] 38)).alloc (.cells #[] 9)) := ⟨_, rfl⟩
  have hb0 : Below w.heap.size w W0 := by rw [hW0]; exact (((Below.refl _ _).alloc (Nat.le_refl _) _).alloc (by simp) _).alloc (by simp; omega) _
  have hs0 : W0.heap.size = w.heap.size + 1 + 1 + 1 := by rw [hW0]; simp
  have X0 : Box W0 w.heap.size 38 #[.slice A n c, .slice C m d] := by rw [hW0]; exact ((Box.new _ _ _).alloc _).alloc _
  have Y0 : Box W0 (w.heap.size + 1) 38 #[.slice none 0 0, .slice none 0 0] := by rw [hW0]; simpa using (Box.new (w.alloc (.cells #[.slice A n c, .slice C m d] 38)) 38 #[.slice none 0 0, .slice none 0 0]).alloc (.cells #[] 9)
  have Z0 : Box W0 (w.heap.size + 1 + 1) 9 #[] := by rw [hW0]; simpa using Box.new ((w.alloc (.cells #[.slice A n c, .slice C m d] 38)).alloc (.cells #[.slice none 0 0, .slice none 0 0] 38)) 9 #[]
  have HO := Lib.hid (own_empty (base := w.heap.size + 1 + 1) (Nat.le_refl _) Z0)
  have HX := Lib.hid (And.intro X0 Y0)
  have HS0 := Lib.hid hs0
  obtain ⟨ad, hA, hsrc⟩ := (HSt.out.below hb0).src (by rw [cellsS_len, HL.out]; omega)
  have HSrc := Lib.hid hsrc
  have HCl : Hid ((cellsS ss).length = n * 1) := Lib.hid (by rw [cellsS_len, HL.out]; omega)
  subst hA
  clear X0 Y0 Z0 hs0 hsrc
  have HW0 := Lib.hid hW0
  clear hW0
  go_enter Try.func108, Try.ntmps108
  go_wp2_with (at_builtin; refine wpList_append_own _ rfl (.tmp 5) (.tmp 7) 35 rfl (w.heap.size + 1 + 1) 9 i0 (.string ByteArray.empty) 1 16 Try.underlying35 HI.out.1 HI.out.2.1 HI.out.2.2.1 HI.out.2.2.2 rfl (by decide) _ 0 (cellsS []) rfl ?hown ad n c (cellsS ss) rfl HCl.out ?hnews (cellsS_one ss) ?h63 ?hby ?hbase ?_)
  case hown => rw [← HW0.out]; exact HO.out
  case hnews => rw [← HW0.out]; exact HSrc.out
  case h63 => unfold maxLen; omega
  case hby => omega
  case hbase => simp
  rw [← HW0.out]
  intro v1 w1 hown hgr hniff
  have hb1 := Lib.hid (below_of_grown (B := w.heap.size + 1 + 1) hgr (fun k hk => by simp [Value.ownBlock] at hk; omega) (by rw [HS0.out]; omega))
  rw [cellsS_app] at hown
  try rw [Nat.zero_add] at hown
  obtain ⟨gb, cap, mm, f, hv, q1, q2, q3, q4, q5⟩ := row_of_own hown (by omega)
  rw [hv]
  have HR1 : Hid (RowS w1 gb n mm ss) := Lib.hid ⟨q3, q2, f, q4, q5⟩
  have HX1 := Lib.hid (And.intro (HX.out.1.below hb1.out (by omega)) (HX.out.2.below hb1.out (by omega)))
  have hb1' : Below w.heap.size w w1 := hb0.trans (hb1.out.mono (by omega))
  have HG : Hid (w.heap.size + 1 < gb) := Lib.hid (by omega)
  clear hniff hown hgr hv q1 q2 q3 q4 q5 v1 HO HSrc HW0 HX hb0 hb1 HS0 HCl HI i0 HSt
  go_wp2
  obtain ⟨W2, hW2⟩ : ∃ W2, W2 = ((w1.alloc (.cells #[] 90)).alloc (.cells #[.slice (some ⟨gb, 0, none⟩) n cap, .slice (some ⟨w1.heap.size, 0, none⟩) 0 0] 38)) := ⟨_, rfl⟩
  have k2 : Below w1.heap.size w1 W2 := by rw [hW2]; exact ((Below.refl _ _).alloc (Nat.le_refl _) _).alloc (by simp) _
  have Z2 : Hid (Box W2 (w1.heap.size + 1) 38 #[.slice (some ⟨gb, 0, none⟩) n cap, .slice (some ⟨w1.heap.size, 0, none⟩) 0 0]) := Lib.hid (by rw [hW2]; simpa using Box.new (w1.alloc (.cells #[] 90)) 38 #[.slice (some ⟨gb, 0, none⟩) n cap, .slice (some ⟨w1.heap.size, 0, none⟩) 0 0])
  rw [← hW2]
  clear hW2
  have X2 := Lib.hid (HX1.out.1.step k2)
  have Y2 := Lib.hid (HX1.out.2.step k2)
  have R2 := Lib.hid (HR1.out.below k2)
  have hb2 := bt hb1' k2
  have HG2 : Hid (gb < w1.heap.size) := Lib.hid HR1.out.lt
  have HG3 : Hid (w.heap.size + 1 < w1.heap.size) := Lib.hid HX1.out.2.lt
  clear HX1 HR1 hb1' k2
  go_loopw [4] (fun q wr => ∃ k : Nat, k ≤ m ∧ q = .int .i64 k ∧ Below w.heap.size w wr ∧ Hid (Box wr w.heap.size 38 #[.slice (some ad) n c, .slice C m d]) ∧ Hid (Box wr (w.heap.size + 1) 38 #[.slice none 0 0, .slice none 0 0]) ∧ Hid (Box wr (w1.heap.size + 1) 38 #[.slice (some ⟨gb, 0, none⟩) n cap, .slice (some ⟨w1.heap.size, 0, none⟩) 0 0]) ∧ Hid (RowS wr gb n mm (settleN ss ws [1] k))) (fun q _ => m - (intOf q).toNat)
  case atStart => exact ⟨0, Nat.zero_le _, rfl, hb2, X2, Y2, Z2, R2⟩
  case round =>
    obtain ⟨k, hk, rfl, hbw, X, Y, Z, R⟩ := hrel
    by_cases hlt : k < m
    · obtain ⟨b2, off, rfl, hc, hd⟩ := (G.out.below hbw) k (by rw [HM.out]; exact hlt)
      have hmem : ws.getD k (0, ByteArray.empty) ∈ ws := by rw [List.getD_eq_getElem?_getD, List.getElem?_eq_getElem (by rw [HM.out]; exact hlt)]; exact List.getElem_mem _
      have hat := OK.out.at_ _ hmem
      have HK := Lib.hid (settle_one ss ws k)
      generalize ws.getD k (0, ByteArray.empty) = x at hc hd hat HK hmem
      obtain ⟨x1, x2⟩ := x
      simp only at hc hd hat
      obtain ⟨p, rfl⟩ : ∃ p : Nat, x1 = p := ⟨x1.toNat, by omega⟩
      have hpn : p < n := by omega
      have hpi : (p : Int) < (n : Int) := by omega
      have hp0 : (0 : Int) ≤ (p : Int) := by omega
      have hi : (k : Int) < (m : Int) := by omega
      have hi0 : (0 : Int) ≤ (k : Int) := by omega
      generalize settleN ss ws [1] k = cur at R HK
      have hcd := R.out.cell hpn
      have hfr := R.out.frozen p
      have f1 : wr.cell? ⟨w.heap.size, 1, none⟩ = some (.slice (some ⟨b2, off, none⟩) m d) := X.out.cell 1 rfl
      have f2 : wr.cell? ⟨w1.heap.size + 1, 0, none⟩ = some (.slice (some ⟨gb, 0, none⟩) n cap) := Z.out.cell 0 rfl
      have HRs := Lib.hid ((R.out.below (Below.refl _ _).drew).set hpn x2)
      have HXs := Lib.hid ((X.out.drew).far (p := ⟨gb, p, none⟩) (by show w.heap.size ≠ gb; have := HG.out; omega) (.string x2))
      have HYs := Lib.hid ((Y.out.drew).far (p := ⟨gb, p, none⟩) (by show w.heap.size + 1 ≠ gb; have := HG.out; omega) (.string x2))
      have HZs := Lib.hid ((Z.out.drew).far (p := ⟨gb, p, none⟩) (by show w1.heap.size + 1 ≠ gb; have := HG2.out; omega) (.string x2))
      have HBs := Lib.hid (hbw.drew.setCell (p := ⟨gb, p, none⟩) (by show w.heap.size ≤ gb; have := HG.out; omega) (.string x2))
      generalize cur.getD p ByteArray.empty = y at hcd
      clear hmem hat X Y Z R
      go_wp2
      go_still_tail 14, (by kernel_rfl)
      change wpList _ _ _ _ _ wr.drew
      go_wp2
      go_roundw
      case rel => exact ⟨k + 1, by omega, by go_num, HBs.out, HXs, HYs, HZs, by rw [HK.out]; exact HRs⟩
      case measure => simp [intOf]; omega
    · have f1 : wr.cell? ⟨w.heap.size, 1, none⟩ = some (.slice C m d) := X.out.cell 1 rfl
      have f2 : wr.cell? ⟨w1.heap.size + 1, 0, none⟩ = some (.slice (some ⟨gb, 0, none⟩) n cap) := Z.out.cell 0 rfl
      have f3 : wr.cell? ⟨w1.heap.size + 1, 1, none⟩ = some (.slice (some ⟨w1.heap.size, 0, none⟩) 0 0) := Z.out.cell 1 rfl
      have g0 := Y.out.cell 0 rfl
      have g1 := Y.out.cell 1 rfl
      have g2 := Y.out.frozen 0
      have g3 := Y.out.frozen 1
      go_wp2
      have ek : k = m := by omega
      subst ek
      refine bodyPost_ret (v := .agg #[.slice (some ⟨gb, 0, none⟩) n cap, .slice (some ⟨w1.heap.size, 0, none⟩) 0 0]) (by simp [results, Try.results108, go_sem, g0, g1]) rfl ?_
      have hne : gb ≠ w.heap.size + 1 := by have := HG.out; omega
      refine ⟨_, _, _, _, _, _, rfl, Lib.hid (by rw [settleN_len, HL.out]), Lib.hid rfl, Lib.hid ?_, Lib.hid (.inl rfl), (hbw.setCell (by show w.heap.size ≤ w.heap.size + 1; omega) _).setCell (by show w.heap.size ≤ w.heap.size + 1; omega) _⟩
      refine ((R.out.far (a := ⟨w.heap.size + 1, 0, none⟩) hne _).far (a := ⟨w.heap.size + 1, 1, none⟩) hne _).own (by have := HG.out; omega) ?_
      have := R.out.lt
      simpa [World.setCell] using this
end Go.Proofs.Ytkhhdlclcniklaa

/- Contracts of the model's crash: l01Crash; of the tests of fates. -/
namespace Go.Proofs.Ytkhhdlclcniklaa
open Go.RowKit

theorem tear_min (old x : ByteArray) : x.extract 0 (x.size / 2) ++ old.extract (min (x.size / 2) old.size) old.size = tearOf old x := by
  unfold tearOf
  split
  · rename_i h
    rw [Nat.min_eq_right h]
    apply WideShapes.bytes_inj
    simp [ByteArray.data_extract]
  · rename_i h
    rw [Nat.min_eq_left (by omega)]

set_option maxRecDepth 100000 in
set_option maxHeartbeats 4000000 in
theorem l01Crash (A C F : Option Addr) (n c m d nf cf : Nat) (ss : List ByteArray) (ws : List (Int × ByteArray)) (fs : List Int) (w : World) (hl : ss.length = n) (hm : ws.length = m) (hf : fs.length = nf) (hnf : nf ≤ maxLen) (h : StrL w A ss) (g : WrL w C ws) (i : IntL w F fs) (ok : Ok ss ws) :
    Calls Try.prog 114 #[.agg #[.slice A n c, .slice C m d], .slice F nf cf] w (GivesDisk (settleN ss ws fs m) [] w) := by
  have HL := Lib.hid hl
  have HM := Lib.hid hm
  have HNF := Lib.hid hf
  have HSt := Lib.hid h
  have G := Lib.hid g
  have I := Lib.hid i
  have OK := Lib.hid ok
  have hm60 : m ≤ 60 := by have := ok.m60; omega
  have hn48 : n ≤ 48 := by have := ok.n48; omega
  have hn48' : 48 ≤ n := by have := ok.n48; omega
  unfold maxLen at hnf
  clear hl hm hf h g i ok
  obtain ⟨i0, hi0, hz0, hz1, hz2⟩ := infoSx
  have HI := Lib.hid (And.intro hi0 (And.intro hz0 (And.intro hz1 hz2)))
  clear hi0 hz0 hz1 hz2
  obtain ⟨W0, hW0⟩ : ∃ W0, W0 = (((w.alloc (.cells #[.slice A n c, .slice C m d] 38)).alloc (.cells #[.slice none 0 0, .slice none 0 0] 38)).alloc (.cells #[] 9)) := ⟨_, rfl⟩
  have hb0 : Below w.heap.size w W0 := by rw [hW0]; exact (((Below.refl _ _).alloc (Nat.le_refl _) _).alloc (by simp) _).alloc (by simp; omega) _
  have hs0 : W0.heap.size = w.heap.size + 1 + 1 + 1 := by rw [hW0]; simp
  have X0 : Box W0 w.heap.size 38 #[.slice A n c, .slice C m d] := by rw [hW0]; exact ((Box.new _ _ _).alloc _).alloc _
  have Y0 : Box W0 (w.heap.size + 1) 38 #[.slice none 0 0, .slice none 0 0] := by rw [hW0]; simpa using (Box.new (w.alloc (.cells #[.slice A n c, .slice C m d] 38)) 38 #[.slice none 0 0, .slice none 0 0]).alloc (.cells #[] 9)
  have Z0 : Box W0 (w.heap.size + 1 + 1) 9 #[] := by rw [hW0]; simpa using Box.new ((w.alloc (.cells #[.slice A n c, .slice C m d] 38)).alloc (.cells #[.slice none 0 0, .slice none 0 0] 38)) 9 #[]
  have HO := Lib.hid (own_empty (base := w.heap.size + 1 + 1) (Nat.le_refl _) Z0)
  have HX := Lib.hid (And.intro X0 Y0)
  have HS0 := Lib.hid hs0
  obtain ⟨ad, hA, hsrc⟩ := (HSt.out.below hb0).src (by rw [cellsS_len, HL.out]; omega)
  have HSrc := Lib.hid hsrc
  have HCl : Hid ((cellsS ss).length = n * 1) := Lib.hid (by rw [cellsS_len, HL.out]; omega)
  subst hA
  clear X0 Y0 Z0 hs0 hsrc
  have HW0 := Lib.hid hW0
  clear hW0
  go_enter Try.func114, Try.ntmps114
  go_wp2_with (at_builtin; refine wpList_append_own _ rfl (.tmp 11) (.tmp 13) 35 rfl (w.heap.size + 1 + 1) 9 i0 (.string ByteArray.empty) 1 16 Try.underlying35 HI.out.1 HI.out.2.1 HI.out.2.2.1 HI.out.2.2.2 rfl (by decide) _ 0 (cellsS []) rfl ?hown ad n c (cellsS ss) rfl HCl.out ?hnews (cellsS_one ss) ?h63 ?hby ?hbase ?_)
  case hown => rw [← HW0.out]; exact HO.out
  case hnews => rw [← HW0.out]; exact HSrc.out
  case h63 => unfold maxLen; omega
  case hby => omega
  case hbase => simp
  rw [← HW0.out]
  intro v1 w1 hown hgr hniff
  have hb1 := Lib.hid (below_of_grown (B := w.heap.size + 1 + 1) hgr (fun k hk => by simp [Value.ownBlock] at hk; omega) (by rw [HS0.out]; omega))
  rw [cellsS_app] at hown
  try rw [Nat.zero_add] at hown
  obtain ⟨gb, cap, mm, f, hv, q1, q2, q3, q4, q5⟩ := row_of_own hown (by omega)
  rw [hv]
  have HR1 : Hid (RowS w1 gb n mm ss) := Lib.hid ⟨q3, q2, f, q4, q5⟩
  have HX1 := Lib.hid (And.intro (HX.out.1.below hb1.out (by omega)) (HX.out.2.below hb1.out (by omega)))
  have hb1' : Below w.heap.size w w1 := hb0.trans (hb1.out.mono (by omega))
  have HG : Hid (w.heap.size + 1 < gb) := Lib.hid (by omega)
  clear hniff hown hgr hv q1 q2 q3 q4 q5 v1 HO HSrc HW0 HX hb0 hb1 HS0 HCl HI i0 HSt
  go_wp2
  obtain ⟨W2, hW2⟩ : ∃ W2, W2 = ((w1.alloc (.cells #[] 90)).alloc (.cells #[.slice (some ⟨gb, 0, none⟩) n cap, .slice (some ⟨w1.heap.size, 0, none⟩) 0 0] 38)) := ⟨_, rfl⟩
  have k2 : Below w1.heap.size w1 W2 := by rw [hW2]; exact ((Below.refl _ _).alloc (Nat.le_refl _) _).alloc (by simp) _
  have Z2 : Hid (Box W2 (w1.heap.size + 1) 38 #[.slice (some ⟨gb, 0, none⟩) n cap, .slice (some ⟨w1.heap.size, 0, none⟩) 0 0]) := Lib.hid (by rw [hW2]; simpa using Box.new (w1.alloc (.cells #[] 90)) 38 #[.slice (some ⟨gb, 0, none⟩) n cap, .slice (some ⟨w1.heap.size, 0, none⟩) 0 0])
  rw [← hW2]
  clear hW2
  have X2 := Lib.hid (HX1.out.1.step k2)
  have Y2 := Lib.hid (HX1.out.2.step k2)
  have R2 := Lib.hid (HR1.out.below k2)
  have hb2 := bt hb1' k2
  have HG2 : Hid (gb < w1.heap.size) := Lib.hid HR1.out.lt
  have HG3 : Hid (w.heap.size + 1 < w1.heap.size) := Lib.hid HX1.out.2.lt
  clear HX1 HR1 hb1' k2
  go_loopw [6] (fun q wr => ∃ k : Nat, k ≤ m ∧ q = .int .i64 k ∧ Below w.heap.size w wr ∧ Hid (Box wr w.heap.size 38 #[.slice (some ad) n c, .slice C m d]) ∧ Hid (Box wr (w.heap.size + 1) 38 #[.slice none 0 0, .slice none 0 0]) ∧ Hid (Box wr (w1.heap.size + 1) 38 #[.slice (some ⟨gb, 0, none⟩) n cap, .slice (some ⟨w1.heap.size, 0, none⟩) 0 0]) ∧ Hid (RowS wr gb n mm (settleN ss ws fs k))) (fun q _ => m - (intOf q).toNat)
  case atStart => exact ⟨0, Nat.zero_le _, rfl, hb2, X2, Y2, Z2, R2⟩
  case round =>
    obtain ⟨k, hk, rfl, hbw, X, Y, Z, R⟩ := hrel
    by_cases hlt : k < m
    · obtain ⟨b2, off, rfl, hc, hd⟩ := (G.out.below hbw) k (by rw [HM.out]; exact hlt)
      have hmem : ws.getD k (0, ByteArray.empty) ∈ ws := by rw [List.getD_eq_getElem?_getD, List.getElem?_eq_getElem (by rw [HM.out]; exact hlt)]; exact List.getElem_mem _
      have hat := OK.out.at_ _ hmem
      have hsz := OK.out.smallW _ hmem
      have HK : Hid (settleN ss ws fs (k + 1) = stepF fs k (settleN ss ws fs k) (ws.getD k (0, ByteArray.empty))) := Lib.hid rfl
      have hsm := settleN_small ss ws fs OK.out.small OK.out.smallW k (by rw [HM.out]; omega)
      generalize ws.getD k (0, ByteArray.empty) = x at hc hd hat hsz HK hmem
      obtain ⟨x1, x2⟩ := x
      simp only at hc hd hat hsz
      obtain ⟨p, rfl⟩ : ∃ p : Nat, x1 = p := ⟨x1.toNat, by omega⟩
      have hpn : p < n := by omega
      have hpi : (p : Int) < (n : Int) := by omega
      have hp0 : (0 : Int) ≤ (p : Int) := by omega
      have hi : (k : Int) < (m : Int) := by omega
      have hi0 : (0 : Int) ≤ (k : Int) := by omega
      have hold := getD_small hsm p
      generalize settleN ss ws fs k = cur at R HK hsm hold
      have k3 := (Below.refl wr.heap.size wr).alloc (Nat.le_refl _) (.cells #[.int .i64 (p : Int), .string x2] 90)
      have hcd := (R.out.below k3).cell hpn
      have hfr := (R.out.below k3).frozen p
      have f1 : wr.cell? ⟨w.heap.size, 1, none⟩ = some (.slice (some ⟨b2, off, none⟩) m d) := X.out.cell 1 rfl
      have f2 : (wr.alloc (.cells #[.int .i64 (p : Int), .string x2] 90)).cell? ⟨w1.heap.size + 1, 0, none⟩ = some (.slice (some ⟨gb, 0, none⟩) n cap) := (Z.out.step k3).cell 0 rfl
      have HR3 := Lib.hid (R.out.below k3)
      have HX3 := Lib.hid (X.out.step k3)
      have HY3 := Lib.hid (Y.out.step k3)
      have HZ3 := Lib.hid (Z.out.step k3)
      have HB3 := Lib.hid (bt hbw k3)
      have HT := Lib.hid (tear_min (cur.getD p ByteArray.empty) x2)
      have e64 : w1.heap.size + 1 ≠ gb := by have := HG2.out; omega
      clear hmem hat X Y Z R
      by_cases hz : nf = 0
      · have hz' : ¬ (0 : Int) < (nf : Int) := by omega
        have HN : Hid (settleN ss ws fs (k + 1) = cur) := Lib.hid (by
          rw [HK.out]; unfold stepF
          have : fateAt fs k = 0 := by unfold fateAt; rw [if_pos (by rw [HNF.out]; exact hz)]
          rw [this]; rfl)
        clear hz
        generalize cur.getD p ByteArray.empty = y at hcd hold HT
        go_wp2
        go_roundw
        case rel => exact ⟨k + 1, by omega, by go_num, HB3.out, HX3, HY3, HZ3, by rw [HN.out]; exact HR3⟩
        case measure => simp [intOf]; omega
      · have hz' : (0 : Int) < (nf : Int) := by omega
        have hzn : ¬ (nf : Int) = 0 := by omega
        have hml : k % nf < nf := Nat.mod_lt _ (by omega)
        obtain ⟨bF, offF, rfl, hcF⟩ := (I.out.below hbw) (k % nf) (by rw [HNF.out]; exact hml)
        have HFT : Hid (fateAt fs k = fs.getD (k % nf) 0) := Lib.hid (by unfold fateAt; rw [if_neg (by rw [HNF.out]; exact hz), HNF.out])
        generalize fs.getD (k % nf) 0 = ft at hcF HFT
        clear hz
        by_cases e1 : ft = 1
        · have hq : (ft == 1) = true := by simp [e1]
          have HN : Hid (settleN ss ws fs (k + 1) = cur.set p x2) := Lib.hid (by rw [HK.out]; unfold stepF; rw [HFT.out, if_pos e1]; rfl)
          clear e1
          have HRs := Lib.hid (HR3.out.set hpn x2)
          have HXs := Lib.hid (HX3.out.far (p := ⟨gb, p, none⟩) (by show w.heap.size ≠ gb; have := HG.out; omega) (.string x2))
          have HYs := Lib.hid (HY3.out.far (p := ⟨gb, p, none⟩) (by show w.heap.size + 1 ≠ gb; have := HG.out; omega) (.string x2))
          have HZs := Lib.hid (HZ3.out.far (p := ⟨gb, p, none⟩) e64 (.string x2))
          have HBs := Lib.hid (HB3.out.setCell (p := ⟨gb, p, none⟩) (by show w.heap.size ≤ gb; have := HG.out; omega) (.string x2))
          generalize cur.getD p ByteArray.empty = y at hcd hold HT
          go_wp2
          go_roundw
          case rel => exact ⟨k + 1, by omega, by go_num, HBs.out, HXs, HYs, HZs, by rw [HN.out]; exact HRs⟩
          case measure => simp [intOf]; omega
        · have hq : (ft == 1) = false := by simp [e1]
          by_cases e2 : ft = 2
          · have hq2 : (ft == 2) = true := by simp [e2]
            have HN : Hid (settleN ss ws fs (k + 1) = cur.set p (tearOf (cur.getD p ByteArray.empty) x2)) := Lib.hid (by rw [HK.out]; unfold stepF; rw [HFT.out, if_neg e1, if_pos e2]; rfl)
            clear e1 e2
            have hsl : (cur.getD p ByteArray.empty).size ≤ 100 := hold
            generalize cur.getD p ByteArray.empty = y at hcd hold HT HN hsl
            have HXa := Lib.hid (Box.new wr 90 #[.int .i64 (p : Int), .string x2])
            go_wp2
            generalize wr.alloc (.cells #[.int .i64 (p : Int), .string x2] 90) = wa at hcd hfr f2 HR3 HX3 HY3 HZ3 HB3 HXa ⊢
            have g0 : wa.cell? ⟨wr.heap.size, 0, none⟩ = some (.int .i64 (p : Int)) := HXa.out.cell 0 rfl
            have g1 : wa.cell? ⟨wr.heap.size, 1, none⟩ = some (.string x2) := HXa.out.cell 1 rfl
            have k4 : Below wa.heap.size wa wa.drew := (Below.refl _ _).drew
            have HRs := Lib.hid ((HR3.out.below k4).set hpn (tearOf y x2))
            have HXs := Lib.hid ((HX3.out.step k4).far (p := ⟨gb, p, none⟩) (by show w.heap.size ≠ gb; have := HG.out; omega) (.string (tearOf y x2)))
            have HYs := Lib.hid ((HY3.out.step k4).far (p := ⟨gb, p, none⟩) (by show w.heap.size + 1 ≠ gb; have := HG.out; omega) (.string (tearOf y x2)))
            have HZs := Lib.hid ((HZ3.out.step k4).far (p := ⟨gb, p, none⟩) e64 (.string (tearOf y x2)))
            have HBs := Lib.hid ((bt HB3.out k4).setCell (p := ⟨gb, p, none⟩) (by show w.heap.size ≤ gb; have := HG.out; omega) (.string (tearOf y x2)))
            clear HR3 HX3 HY3 HZ3 HXa
            obtain ⟨uu, HU⟩ : ∃ u, Hid (u = x2.extract 0 (x2.size / 2)) := ⟨_, Lib.hid rfl⟩
            have su : uu.size ≤ 100 := by rw [HU.out, extract_size]; omega
            have hsl1 : ∀ W, (Instr.slice 9 (.string x2) none (some (.int .i64 ((x2.size : Int) / 2))) none).run Try.prog W = .ok (.string uu) W := fun W => by
              rw [run_slice_string_h W 9 x2 Try.underlying9 .i64 ((x2.size : Int) / 2) (by omega) (by omega), HU.out, show ((x2.size : Int) / 2).toNat = x2.size / 2 by omega]
            by_cases hmn : (y.size : Int) < (x2.size : Int) / 2
            · obtain ⟨vv, HVv⟩ : ∃ v, Hid (v = y.extract y.size y.size) := ⟨_, Lib.hid rfl⟩
              have sv : vv.size ≤ 100 := by rw [HVv.out, extract_size]; omega
              have hsl2 : ∀ W, (Instr.slice 9 (.string y) (some (.int .i64 (y.size : Int))) none none).run Try.prog W = .ok (.string vv) W := fun W => by
                rw [run_slice_string_l W 9 y Try.underlying9 .i64 (y.size : Int) (by omega) (by omega), HVv.out]; rfl
              have HE : Hid (uu ++ vv = tearOf y x2) := Lib.hid (by rw [HU.out, HVv.out, ← HT.out, Nat.min_eq_right (by omega)])
              have s3 : ¬ 9223372036854775807 < uu.size + vv.size := by omega
              clear su sv
              go_still_tail 15, (by kernel_rfl)
              change wpList _ _ _ _ _ wa.drew
              rw [HE.out]
              go_wp2
              go_roundw
              case rel => exact ⟨k + 1, by omega, by go_num, HBs.out, HXs, HYs, HZs, by rw [HN.out]; exact HRs⟩
              case measure => simp [intOf]; omega
            · obtain ⟨vv, HVv⟩ : ∃ v, Hid (v = y.extract (x2.size / 2) y.size) := ⟨_, Lib.hid rfl⟩
              have sv : vv.size ≤ 100 := by rw [HVv.out, extract_size]; omega
              have hsl2 : ∀ W, (Instr.slice 9 (.string y) (some (.int .i64 ((x2.size : Int) / 2))) none none).run Try.prog W = .ok (.string vv) W := fun W => by
                rw [run_slice_string_l W 9 y Try.underlying9 .i64 ((x2.size : Int) / 2) (by omega) (by omega), HVv.out, show ((x2.size : Int) / 2).toNat = x2.size / 2 by omega]
              have HE : Hid (uu ++ vv = tearOf y x2) := Lib.hid (by rw [HU.out, HVv.out, ← HT.out, Nat.min_eq_left (by omega)])
              have s3 : ¬ 9223372036854775807 < uu.size + vv.size := by omega
              clear su sv
              go_still_tail 15, (by kernel_rfl)
              change wpList _ _ _ _ _ wa.drew
              rw [HE.out]
              go_wp2
              go_roundw
              case rel => exact ⟨k + 1, by omega, by go_num, HBs.out, HXs, HYs, HZs, by rw [HN.out]; exact HRs⟩
              case measure => simp [intOf]; omega
          · have hq2 : (ft == 2) = false := by simp [e2]
            have HN : Hid (settleN ss ws fs (k + 1) = cur) := Lib.hid (by rw [HK.out]; unfold stepF; rw [HFT.out, if_neg e1, if_neg e2])
            clear e1 e2
            generalize cur.getD p ByteArray.empty = y at hcd hold HT
            go_wp2
            go_roundw
            case rel => exact ⟨k + 1, by omega, by go_num, HB3.out, HX3, HY3, HZ3, by rw [HN.out]; exact HR3⟩
            case measure => simp [intOf]; omega
    · have f1 : wr.cell? ⟨w.heap.size, 1, none⟩ = some (.slice C m d) := X.out.cell 1 rfl
      have f2 : wr.cell? ⟨w1.heap.size + 1, 0, none⟩ = some (.slice (some ⟨gb, 0, none⟩) n cap) := Z.out.cell 0 rfl
      have f3 : wr.cell? ⟨w1.heap.size + 1, 1, none⟩ = some (.slice (some ⟨w1.heap.size, 0, none⟩) 0 0) := Z.out.cell 1 rfl
      have g0 := Y.out.cell 0 rfl
      have g1 := Y.out.cell 1 rfl
      have g2 := Y.out.frozen 0
      have g3 := Y.out.frozen 1
      go_wp2
      have ek : k = m := by omega
      subst ek
      refine bodyPost_ret (v := .agg #[.slice (some ⟨gb, 0, none⟩) n cap, .slice (some ⟨w1.heap.size, 0, none⟩) 0 0]) (by simp [results, Try.results114, go_sem, g0, g1]) rfl ?_
      have hne : gb ≠ w.heap.size + 1 := by have := HG.out; omega
      refine ⟨_, _, _, _, _, _, rfl, Lib.hid (by rw [settleN_len, HL.out]), Lib.hid rfl, Lib.hid ?_, Lib.hid (.inl rfl), (hbw.setCell (by show w.heap.size ≤ w.heap.size + 1; omega) _).setCell (by show w.heap.size ≤ w.heap.size + 1; omega) _⟩
      refine ((R.out.far (a := ⟨w.heap.size + 1, 0, none⟩) hne _).far (a := ⟨w.heap.size + 1, 1, none⟩) hne _).own (by have := HG.out; omega) ?_
      have := R.out.lt
      simpa [World.setCell] using this
end Go.Proofs.Ytkhhdlclcniklaa

/- The model's source of draws: byte, next, chance. -/
namespace Go.Proofs.Ytkhhdlclcniklaa
open Go.RowKit

/-- The slice at A holds these bytes, in a block below lo. -/
def ByB (w : World) (lo : Nat) (A : Option Addr) (zs : List Nat) : Prop :=
  ∀ i, i < zs.length → ∃ b off, A = some ⟨b, off, none⟩ ∧ b < lo ∧ w.cell? ⟨b, off + i, none⟩ = some (.int .u8 (zs.getD i 0 : Nat)) ∧ zs.getD i 0 < 256
theorem ByB.btw {w w' : World} {lo l h' : Nat} {A : Option Addr} {zs : List Nat} (h : ByB w lo A zs) (hb : Btw l h' w w') (ho : lo ≤ l) : ByB w' lo A zs := fun i hi => by
  obtain ⟨b, off, e, q1, q2, q3⟩ := h i hi
  exact ⟨b, off, e, q1, hb.cell q2 (.inl (by show b < l; omega)), q3⟩
/-- The source at b: its bytes, how many are drawn (at most K), a seed. -/
def Src (w : World) (b : Nat) (A : Option Addr) (n c : Nat) (zs : List Nat) (K : Nat) : Prop :=
  ∃ k sd : Nat, Box w b 104 #[.slice A n c, .int .i64 k, .int .i64 sd] ∧ k ≤ K ∧ sd < 2147483648 ∧ zs.length = n ∧ ByB w b A zs
theorem Src.btw {w w' : World} {b l h' : Nat} {A : Option Addr} {n c : Nat} {zs : List Nat} {K : Nat} (h : Src w b A n c zs K) (hb : Btw l h' w w') (ho : b < l) : Src w' b A n c zs K := by
  obtain ⟨k, sd, q1, q2, q3, q4, q5⟩ := h
  exact ⟨k, sd, q1.btw hb (.inl ho), q2, q3, q4, q5.btw hb (by omega)⟩
theorem Src.lt {w : World} {b : Nat} {A : Option Addr} {n c : Nat} {zs : List Nat} {K : Nat} (h : Src w b A n c zs K) : b < w.heap.size := by
  obtain ⟨k, sd, q1, _⟩ := h
  exact q1.lt
theorem Src.mono {w : World} {b : Nat} {A : Option Addr} {n c : Nat} {zs : List Nat} {K K' : Nat} (h : Src w b A n c zs K) (hk : K ≤ K') : Src w b A n c zs K' := by
  obtain ⟨k, sd, q1, q2, q3⟩ := h
  exact ⟨k, sd, q1, by omega, q3⟩

/-- After 'at++'. -/
theorem src_at {w : World} {b : Nat} {A : Option Addr} {n c : Nat} {k sd : Nat} (X : Box w b 104 #[.slice A n c, .int .i64 k, .int .i64 sd]) :
    Box (w.setCell ⟨b, 1, none⟩ (.int .i64 ((k : Int) + 1))) b 104 #[.slice A n c, .int .i64 ((k + 1 : Nat) : Int), .int .i64 sd] := X.set 1 (.int .i64 ((k : Int) + 1))
theorem src_seed {w : World} {b : Nat} {A : Option Addr} {n c : Nat} {k sd : Nat} (X : Box w b 104 #[.slice A n c, .int .i64 k, .int .i64 sd]) (s2 : Nat) :
    Box (w.setCell ⟨b, 2, none⟩ (.int .i64 (s2 : Int))) b 104 #[.slice A n c, .int .i64 k, .int .i64 s2] := X.set 2 (.int .i64 (s2 : Int))

/-- The source at b, exactly: its bytes, how many are drawn, the seed. -/
def SrcX (w : World) (b : Nat) (A : Option Addr) (n c : Nat) (zs : List Nat) (k sd : Nat) : Prop :=
  Box w b 104 #[.slice A n c, .int .i64 k, .int .i64 sd] ∧ sd < 2147483648 ∧ zs.length = n ∧ ByB w b A zs
/-- What byte draws: the byte, the count, the seed. -/
def byteV (zs : List Nat) (k sd : Nat) : Nat × Nat × Nat :=
  if k < zs.length then (zs.getD k 0, k + 1, (sd * 31 + zs.getD k 0 + 7) % 2147483648) else if 3000 < k + 1 then (0, k + 1, sd) else ((sd * 1103515245 + 12345) % 2147483648 / 65536 % 256, k + 1, (sd * 1103515245 + 12345) % 2147483648)
theorem byteV_at (zs : List Nat) (k sd : Nat) : (byteV zs k sd).2.1 = k + 1 := by
  unfold byteV; split
  · rfl
  · split <;> rfl
theorem SrcX.src {w : World} {b : Nat} {A : Option Addr} {n c : Nat} {zs : List Nat} {k sd : Nat} (h : SrcX w b A n c zs k sd) {K : Nat} (hk : k ≤ K) : Src w b A n c zs K := ⟨k, sd, h.1, hk, h.2.1, h.2.2.1, h.2.2.2⟩
theorem Src.exact {w : World} {b : Nat} {A : Option Addr} {n c : Nat} {zs : List Nat} {K : Nat} (h : Src w b A n c zs K) : ∃ k sd, k ≤ K ∧ SrcX w b A n c zs k sd := by
  obtain ⟨k, sd, q1, q2, q3, q4, q5⟩ := h
  exact ⟨k, sd, q2, q1, q3, q4, q5⟩
theorem SrcX.byteV_lt {w : World} {b : Nat} {A : Option Addr} {n c : Nat} {zs : List Nat} {k sd : Nat} (h : SrcX w b A n c zs k sd) : (byteV zs k sd).1 < 256 := by
  unfold byteV; split
  · rename_i hk; obtain ⟨_, _, _, _, _, hv⟩ := h.2.2.2 k hk; exact hv
  · split
    · exact (by omega : (0 : Nat) < 256)
    · exact Nat.mod_lt _ (by omega)

set_option maxRecDepth 100000 in
set_option maxHeartbeats 4000000 in
theorem srcByteX (b : Nat) (A : Option Addr) (n c : Nat) (zs : List Nat) (k sd : Nat) (w : World) (hk9 : k ≤ 1000000000) (h : SrcX w b A n c zs k sd) :
    Calls Try.prog 120 #[.pointer (some ⟨b, 0, none⟩)] w fun e w' => e = .returned (.int .i64 ((byteV zs k sd).1 : Nat)) ∧ Hid (SrcX w' b A n c zs (byteV zs k sd).2.1 (byteV zs k sd).2.2) ∧ Btw b (b + 1) w w' := by
  obtain ⟨X, hs, hl, hz⟩ := h
  have HX := Lib.hid (src_at X)
  have HB : Hid (Btw b (b + 1) w (w.setCell ⟨b, 1, none⟩ (.int .i64 ((k : Int) + 1)))) := Lib.hid ((Btw.refl b (b + 1) w).setCell (p := ⟨b, 1, none⟩) (by show b ≤ b; omega) (by show b < b + 1; omega) _)
  have HZ := Lib.hid (hz.btw HB.out (Nat.le_refl _))
  have HL := Lib.hid hl
  have f1 : w.cell? ⟨b, 1, none⟩ = some (.int .i64 k) := X.cell 1 rfl
  have g1 := X.frozen 1
  clear X hz hl
  go_enter Try.func120, Try.ntmps120
  go_wp2
  generalize w.setCell ⟨b, 1, none⟩ (.int .i64 ((k : Int) + 1)) = w1 at HX HB HZ ⊢
  clear f1 g1
  have f0 : w1.cell? ⟨b, 0, none⟩ = some (.slice A n c) := HX.out.cell 0 rfl
  have f1 : w1.cell? ⟨b, 1, none⟩ = some (.int .i64 ((k : Int) + 1)) := HX.out.cell 1 rfl
  have f2 : w1.cell? ⟨b, 2, none⟩ = some (.int .i64 sd) := HX.out.cell 2 rfl
  have g2 := HX.out.frozen 2
  by_cases hlt : k < n
  · have hlt' : (k : Int) + 1 ≤ (n : Int) := by omega
    have hk0 : (0 : Int) ≤ (k : Int) := by omega
    have hki : (k : Int) < (n : Int) := by omega
    obtain ⟨bb, off, rfl, hbb, hc, hv⟩ := HZ.out k (by rw [HL.out]; exact hlt)
    have HV : Hid (byteV zs k sd = (zs.getD k 0, k + 1, (sd * 31 + zs.getD k 0 + 7) % 2147483648)) := Lib.hid (by unfold byteV; rw [if_pos (by rw [HL.out]; exact hlt)])
    generalize zs.getD k 0 = x at hc hv HV
    have hne : ¬ bb = b := by omega
    go_quiet (fail)
    go_wp2
    have HX2 := Lib.hid (HX.out.drewN nq)
    have HB2 := Lib.hid (HB.out.drewN nq)
    have HZ2 := Lib.hid (HZ.out.btw ((Btw.refl b (b + 1) w1).drewN nq) (Nat.le_refl _))
    have hc2 : (w1.drewN nq).cell? ⟨bb, off + k, none⟩ = some (.int .u8 (x : Nat)) := hc
    clear f0 f1 f2 g2 hc HX HB HZ
    generalize w1.drewN nq = w2 at HX2 HB2 HZ2 hc2 ⊢
    have f0 : w2.cell? ⟨b, 0, none⟩ = some (.slice (some ⟨bb, off, none⟩) n c) := HX2.out.cell 0 rfl
    have f1 : w2.cell? ⟨b, 1, none⟩ = some (.int .i64 ((k : Int) + 1)) := HX2.out.cell 1 rfl
    have f2 : w2.cell? ⟨b, 2, none⟩ = some (.int .i64 sd) := HX2.out.cell 2 rfl
    have g2 := HX2.out.frozen 2
    have t0 : (0 : Int) ≤ (sd : Int) := by omega
    have u1 : IntKind.i64.wrap ((sd : Int) * 31) = (sd : Int) * 31 := IntWalk.i64_in _ ⟨by omega, by omega⟩
    have u2 : IntKind.i64.wrap (k : Int) = (k : Int) := IntWalk.i64_in _ ⟨by omega, by omega⟩
    have u3 : IntKind.i64.wrap (x : Int) = (x : Int) := IntWalk.i64_in _ ⟨by omega, by omega⟩
    have u4 : IntKind.i64.wrap ((sd : Int) * 31 + (x : Int)) = (sd : Int) * 31 + (x : Int) := IntWalk.i64_in _ ⟨by omega, by omega⟩
    have u5 : IntKind.i64.wrap ((sd : Int) * 31 + (x : Int) + 7) = (sd : Int) * 31 + (x : Int) + 7 := IntWalk.i64_in _ ⟨by omega, by omega⟩
    go_still_tail 21, (by kernel_rfl)
    change wpList _ _ _ _ _ w2.drew
    go_wp2
    clear u1 u2 u3 u4 u5
    have e1 : ((sd : Int) * 31 + (x : Int) + 7) % 2147483648 = (((sd * 31 + x + 7) % 2147483648 : Nat) : Int) := by omega
    have e2 : (sd * 31 + x + 7) % 2147483648 < 2147483648 := Nat.mod_lt _ (by omega)
    rw [e1]
    clear e1
    generalize (sd * 31 + x + 7) % 2147483648 = s2 at e2 HV ⊢
    have kA : Btw b (b + 1) w2 ((w2.setCell ⟨b, 2, none⟩ (.int .i64 (s2 : Int))).drew) := ((Btw.refl b (b + 1) _).setCell (p := ⟨b, 2, none⟩) (by show b ≤ b; omega) (by show b < b + 1; omega) _).drew
    have HX3 := Lib.hid (src_seed HX2.out s2).drew
    have HB3 := Lib.hid (HB2.out.trans kA)
    have HZ3 := Lib.hid (HZ2.out.btw kA (Nat.le_refl _))
    have hc3 := kA.cell hc2 (.inl hbb)
    clear f0 f1 f2 g2 hc2 HX2 HB2 HZ2 kA
    generalize (w2.setCell ⟨b, 2, none⟩ (.int .i64 (s2 : Int))).drew = w3 at HX3 HB3 HZ3 hc3 ⊢
    have f0 : w3.cell? ⟨b, 0, none⟩ = some (.slice (some ⟨bb, off, none⟩) n c) := HX3.out.cell 0 rfl
    have f1 : w3.cell? ⟨b, 1, none⟩ = some (.int .i64 ((k : Int) + 1)) := HX3.out.cell 1 rfl
    have u2 : IntKind.i64.wrap (k : Int) = (k : Int) := IntWalk.i64_in _ ⟨by omega, by omega⟩
    have u3 : IntKind.i64.wrap (x : Int) = (x : Int) := IntWalk.i64_in _ ⟨by omega, by omega⟩
    go_quiet (fail)
    clear u2 u3
    go_wp2
    refine bodyPost_ret (v := .int .i64 (x : Int)) (by simp [results, Try.results120, go_sem]) rfl ?_
    rw [HV.out]
    exact ⟨rfl, Lib.hid ⟨HX3.out.drewN _, e2, HL.out, HZ3.out.btw ((Btw.refl b (b + 1) w3).drewN _) (Nat.le_refl _)⟩, HB3.out.drewN _⟩
  · have hlt' : ¬ (k : Int) + 1 ≤ (n : Int) := by omega
    by_cases h3 : 3000 < (k : Int) + 1
    · have HV : Hid (byteV zs k sd = (0, k + 1, sd)) := Lib.hid (by unfold byteV; rw [if_neg (by rw [HL.out]; exact hlt), if_pos (by omega)])
      go_quiet (fail)
      go_wp2
      refine bodyPost_ret (v := .int .i64 ((0 : Nat) : Int)) (by simp [results, Try.results120, go_sem]) rfl ?_
      rw [HV.out]
      exact ⟨rfl, Lib.hid ⟨HX.out.drewN nq, hs, HL.out, HZ.out.btw ((Btw.refl b (b + 1) w1).drewN nq) (Nat.le_refl _)⟩, HB.out.drewN nq⟩
    · have HV : Hid (byteV zs k sd = ((sd * 1103515245 + 12345) % 2147483648 / 65536 % 256, k + 1, (sd * 1103515245 + 12345) % 2147483648)) := Lib.hid (by unfold byteV; rw [if_neg (by rw [HL.out]; exact hlt), if_neg (by omega)])
      go_quiet (fail)
      go_wp2
      have e1 : ((sd : Int) * 1103515245 + 12345) % 2147483648 = (((sd * 1103515245 + 12345) % 2147483648 : Nat) : Int) := by omega
      have e2 : (sd * 1103515245 + 12345) % 2147483648 < 2147483648 := Nat.mod_lt _ (by omega)
      rw [e1]
      generalize (sd * 1103515245 + 12345) % 2147483648 = s2 at e2 HV ⊢
      have e3 : (s2 : Int) / 65536 % 256 = ((s2 / 65536 % 256 : Nat) : Int) := by omega
      rw [e3]
      have kA : Btw b (b + 1) (w1.drewN nq) ((w1.drewN nq).setCell ⟨b, 2, none⟩ (.int .i64 (s2 : Int))) := (Btw.refl b (b + 1) _).setCell (p := ⟨b, 2, none⟩) (by show b ≤ b; omega) (by show b < b + 1; omega) _
      have kB := ((Btw.refl b (b + 1) w1).drewN nq).trans kA
      refine bodyPost_ret (v := .int .i64 ((s2 / 65536 % 256 : Nat) : Int)) (by simp [results, Try.results120, go_sem]) rfl ?_
      rw [HV.out]
      exact ⟨rfl, Lib.hid ⟨src_seed (HX.out.drewN nq) s2, e2, HL.out, HZ.out.btw kB (Nat.le_refl _)⟩, HB.out.trans kB⟩

set_option maxRecDepth 100000 in
theorem srcByte (b : Nat) (A : Option Addr) (n c : Nat) (zs : List Nat) (K : Nat) (w : World) (hK : K ≤ 1000000000) (h : Src w b A n c zs K) :
    Calls Try.prog 120 #[.pointer (some ⟨b, 0, none⟩)] w fun e w' => ∃ v : Nat, e = .returned (.int .i64 v) ∧ v < 256 ∧ Hid (Src w' b A n c zs (K + 1)) ∧ Btw b (b + 1) w w' := by
  obtain ⟨k, sd, hk, hx⟩ := h.exact
  refine (srcByteX b A n c zs k sd w (by omega) hx).mono ?_
  rintro e w' ⟨rfl, h2, h3⟩
  exact ⟨_, rfl, hx.byteV_lt, Lib.hid (h2.out.src (by rw [byteV_at]; omega)), h3⟩
end Go.Proofs.Ytkhhdlclcniklaa

/- The model's source of draws: next, chance, the source itself. -/
namespace Go.Proofs.Ytkhhdlclcniklaa
open Go.RowKit

set_option maxRecDepth 100000 in
set_option maxHeartbeats 4000000 in
theorem srcNextX (N : Nat) (b : Nat) (A : Option Addr) (n c : Nat) (zs : List Nat) (k sd : Nat) (w : World) (hN : 2 ≤ N) (hN2 : N ≤ 256) (hK : k ≤ 1000000000) (h : SrcX w b A n c zs k sd) :
    Calls Try.prog 86 #[.pointer (some ⟨b, 0, none⟩), .int .i64 (N : Nat)] w fun e w' => e = .returned (.int .i64 ((byteV zs k sd).1 % N : Nat)) ∧ Hid (SrcX w' b A n c zs (byteV zs k sd).2.1 (byteV zs k sd).2.2) ∧ Btw b (b + 1) w w' := by
  have HC := Lib.hid (srcByteX b A n c zs k sd w hK h)
  have h1 : ¬ (N : Int) ≤ 1 := by omega
  have h2 : (N : Int) ≤ 256 := by omega
  have h3 : ¬ (N : Int) = 0 := by omega
  clear h
  go_enter Try.func86, Try.ntmps86
  go_wp2_with fail
  refine HC.out.mono ?_
  rintro e w1 ⟨rfl, S1, hb1⟩
  obtain ⟨v, hv⟩ : ∃ v, v = (byteV zs k sd).1 := ⟨_, rfl⟩
  rw [← hv]
  have HV := Lib.hid hv
  clear hv
  have v0 : (0 : Int) ≤ (v : Int) := by omega
  go_wp2
  have e1 : (v : Int) % (N : Int) = ((v % N : Nat) : Int) := by omega
  rw [e1]
  refine bodyPost_ret (v := .int .i64 ((v % N : Nat) : Int)) (by simp [results, Try.results86, go_sem]) rfl ?_
  exact ⟨by rw [HV.out], S1, hb1⟩

set_option maxRecDepth 100000 in
theorem srcNext (N : Nat) (b : Nat) (A : Option Addr) (n c : Nat) (zs : List Nat) (K : Nat) (w : World) (hN : 2 ≤ N) (hN2 : N ≤ 256) (hK : K ≤ 1000000000) (h : Src w b A n c zs K) :
    Calls Try.prog 86 #[.pointer (some ⟨b, 0, none⟩), .int .i64 (N : Nat)] w fun e w' => ∃ v : Nat, e = .returned (.int .i64 v) ∧ v < N ∧ Hid (Src w' b A n c zs (K + 1)) ∧ Btw b (b + 1) w w' := by
  obtain ⟨k, sd, hk, hx⟩ := h.exact
  refine (srcNextX N b A n c zs k sd w hN hN2 (by omega) hx).mono ?_
  rintro e w' ⟨rfl, h2, h3⟩
  exact ⟨_, rfl, Nat.mod_lt _ (by omega), Lib.hid (h2.out.src (by rw [byteV_at]; omega)), h3⟩

set_option maxRecDepth 100000 in
set_option maxHeartbeats 4000000 in
theorem srcNewX (A : Option Addr) (n c : Nat) (zs : List Nat) (w : World) (hn : n ≤ maxLen) (hl : zs.length = n) (h : ByB w w.heap.size A zs) :
    Calls Try.prog 44 #[.slice A n c] w fun e w' => e = .returned (.pointer (some ⟨w.heap.size, 0, none⟩)) ∧ Hid (SrcX w' w.heap.size A n c zs 0 (n % 1000)) ∧ Below w.heap.size w w' := by
  unfold maxLen at hn
  go_enter Try.func44, Try.ntmps44
  go_wp2
  have e1 : (n : Int) % 1000 = ((n % 1000 : Nat) : Int) := by omega
  rw [e1]
  refine bodyPost_ret (v := .pointer (some ⟨w.heap.size, 0, none⟩)) (by simp [results, Try.results44, go_sem]) rfl ?_
  have hb := alloc_below w (.cells #[.slice A n c, .int .i64 0, .int .i64 ((n % 1000 : Nat) : Int)] 104)
  exact ⟨rfl, Lib.hid ⟨Box.new _ _ _, Nat.lt_of_lt_of_le (Nat.mod_lt _ (by omega)) (by omega), hl, h.btw (Btw.of_below hb w.heap.size (w.heap.size + 1)) (Nat.le_refl _)⟩, hb⟩

set_option maxRecDepth 100000 in
theorem srcNew (A : Option Addr) (n c : Nat) (zs : List Nat) (w : World) (hn : n ≤ maxLen) (hl : zs.length = n) (h : ByB w w.heap.size A zs) :
    Calls Try.prog 44 #[.slice A n c] w fun e w' => e = .returned (.pointer (some ⟨w.heap.size, 0, none⟩)) ∧ Hid (Src w' w.heap.size A n c zs 0) ∧ Below w.heap.size w w' := by
  refine (srcNewX A n c zs w hn hl h).mono ?_
  rintro e w' ⟨rfl, h2, h3⟩
  exact ⟨rfl, Lib.hid (h2.out.src (Nat.le_refl _)), h3⟩
end Go.Proofs.Ytkhhdlclcniklaa

/- The model's source of draws: next for more than 256 choices, out of three bytes. -/
namespace Go.Proofs.Ytkhhdlclcniklaa
open Go.RowKit

set_option maxRecDepth 100000 in
set_option maxHeartbeats 4000000 in
theorem srcNextBig (N : Nat) (b : Nat) (A : Option Addr) (n c : Nat) (zs : List Nat) (K : Nat) (w : World) (hN : 257 ≤ N) (hN2 : N ≤ 1000000) (hK : K ≤ 1000000) (h : Src w b A n c zs K) :
    Calls Try.prog 86 #[.pointer (some ⟨b, 0, none⟩), .int .i64 (N : Nat)] w fun e w' => ∃ v : Nat, e = .returned (.int .i64 v) ∧ v < N ∧ Hid (Src w' b A n c zs (K + 3)) ∧ Btw b (b + 1) w w' := by
  have HB := Lib.hid (fun W k (hk : k ≤ K + 2) (h : Src W b A n c zs k) => srcByte b A n c zs k W (by omega) h)
  have H := Lib.hid h
  have h1 : ¬ (N : Int) ≤ 1 := by omega
  have h2 : ¬ (N : Int) ≤ 256 := by omega
  have h3 : ¬ (N : Int) = 0 := by omega
  clear h
  go_enter Try.func86, Try.ntmps86
  go_wp2_with fail
  refine (HB.out w K (by omega) H.out).mono ?_
  rintro e w1 ⟨v1, rfl, b1, S1, hb1⟩
  go_wp2_with fail
  refine (HB.out w1 (K + 1) (by omega) S1.out).mono ?_
  rintro e w2 ⟨v2, rfl, b2, S2, hb2⟩
  go_wp2_with fail
  refine (HB.out w2 (K + 2) (by omega) S2.out).mono ?_
  rintro e w3 ⟨v3, rfl, b3, S3, hb3⟩
  have q0 : (0 : Int) ≤ (v1 : Int) * 65536 + (v2 : Int) * 256 + (v3 : Int) := by omega
  go_wp2
  have e1 : ((v1 : Int) * 65536 + (v2 : Int) * 256 + (v3 : Int)) % (N : Int) = (((v1 * 65536 + v2 * 256 + v3) % N : Nat) : Int) := by
    rw [show (v1 : Int) * 65536 + (v2 : Int) * 256 + (v3 : Int) = ((v1 * 65536 + v2 * 256 + v3 : Nat) : Int) by omega]
    exact (Int.natCast_emod _ _).symm
  rw [e1]
  refine bodyPost_ret (v := .int .i64 (((v1 * 65536 + v2 * 256 + v3) % N : Nat) : Int)) (by simp [results, Try.results86, go_sem]) rfl ?_
  exact ⟨_, rfl, Nat.mod_lt _ (by omega), S3, (hb1.trans hb2).trans hb3⟩
end Go.Proofs.Ytkhhdlclcniklaa

/- The source of draws, carried over what does not touch it. -/
namespace Go.Proofs.Ytkhhdlclcniklaa
open Go.RowKit

theorem Src.below {w w' : World} {b B : Nat} {A : Option Addr} {n c : Nat} {zs : List Nat} {K : Nat} (h : Src w b A n c zs K) (hb : Below B w w') (ho : b < B) : Src w' b A n c zs K := by
  obtain ⟨k, sd, q1, q2, q3, q4, q5⟩ := h
  refine ⟨k, sd, q1.below hb ho, q2, q3, q4, fun i hi => ?_⟩
  obtain ⟨bb, off, e, p1, p2, p3⟩ := q5 i hi
  exact ⟨bb, off, e, p1, (hb.cell (by show bb < B; omega)).trans p2, p3⟩
theorem Src.drew {w : World} {b : Nat} {A : Option Addr} {n c : Nat} {zs : List Nat} {K : Nat} (h : Src w b A n c zs K) : Src w.drew b A n c zs K := h.below (Below.refl _ _).drew h.lt
theorem Src.alloc {w : World} {b : Nat} {A : Option Addr} {n c : Nat} {zs : List Nat} {K : Nat} (h : Src w b A n c zs K) (o : Obj) : Src (w.alloc o) b A n c zs K := h.below (alloc_below w o) h.lt
theorem ByB.step {w w' : World} {A : Option Addr} {zs : List Nat} (h : ByB w w.heap.size A zs) (hb : Below w.heap.size w w') : ByB w' w'.heap.size A zs := fun i hi => by
  obtain ⟨b, off, e, q1, q2, q3⟩ := h i hi
  exact ⟨b, off, e, Nat.lt_of_lt_of_le q1 hb.size, (hb.cell q1).trans q2, q3⟩
end Go.Proofs.Ytkhhdlclcniklaa

/- What the model draws of a root: the source's root, RootDrawn. -/
namespace Go.Proofs.Ytkhhdlclcniklaa
open Go.RowKit

set_option maxRecDepth 100000 in
theorem seed0 (b : Nat) (w : World) : Calls Try.prog 87 #[.pointer (some ⟨b, 0, none⟩)] w fun e w' => e = .returned (.int .i64 5) ∧ w = w' := by
  go_enter Try.func87, Try.ntmps87
  go_wp2
  go_ret
  exact ⟨rfl, rfl⟩
theorem btw_below' {b : Nat} {w w1 w2 : World} (h : Btw b (b + 1) w w1) (hb : Below w.heap.size w1 w2) : Btw b (b + 1) w w2 :=
  ⟨hb.os.trans h.os, hb.tape.trans h.tape, hb.output.trans h.output, Nat.le_trans h.size hb.size, fun k hk ho => (hb.block k hk).trans (h.block k hk ho)⟩
/-- What the loop keeps. -/
structure RootInv (w wr : World) (b B g k : Nat) (A' : Option Addr) (c' : Nat) : Prop where
  btw : Btw b (b + 1) w wr
  r : Box wr w.heap.size 25 #[.int .i64 0, .slice none 0 0]
  x : Box wr (B + 1) 25 #[.int .i64 (g : Int), .slice A' k c']
  i : wr.ownsRow B 3 1 (.slice A' k c') k ((tab5 k).map (Value.int .i64))

set_option maxRecDepth 100000 in
set_option maxHeartbeats 8000000 in
theorem srcRoot (b : Nat) (A : Option Addr) (n c : Nat) (zs : List Nat) (K : Nat) (w : World) (hK : K ≤ 1000) (h : Src w b A n c zs K) :
    Calls Try.prog 45 #[.pointer (some ⟨b, 0, none⟩)] w fun e w' => ∃ (g : Nat) (A' : Option Addr) (c' : Nat), (1 ≤ g ∧ g ≤ 2000) ∧ e = .returned (.agg #[.int .i64 (g : Int), .slice A' 17 c']) ∧ Hid (17 ≤ c') ∧ Hid (OwnI w' w.heap.size w'.heap.size A' (tab5 17)) ∧ Btw b (b + 1) w w' := by
  have hlt : b < w.heap.size := h.lt
  obtain ⟨W0, hW0⟩ : ∃ W0, W0 = w.alloc (.cells #[.int .i64 0, .slice none 0 0] 25) := ⟨_, rfl⟩
  have hb0 : Below w.heap.size w W0 := by rw [hW0]; exact alloc_below _ _
  have HY0 : Hid (Box W0 w.heap.size 25 #[.int .i64 0, .slice none 0 0]) := Lib.hid (by rw [hW0]; exact Box.new _ _ _)
  have HS0 := Lib.hid (h.below hb0 hlt)
  have HN := Lib.hid (srcNextBig 2000 b A n c zs K W0 (by omega) (by omega) (by omega) HS0.out)
  have HW0 := Lib.hid hW0
  have hs0 : W0.heap.size = w.heap.size + 1 := by rw [hW0]; simp
  clear h hW0
  go_enter Try.func45, Try.ntmps45
  go_wp2_with fail
  rw [← HW0.out]
  refine HN.out.mono ?_
  rintro e w1 ⟨v, rfl, hv, S1, hb1⟩
  have hsz1 : w.heap.size + 1 ≤ w1.heap.size := by have := hb1.size; omega
  have HB1 : Hid (Btw b (b + 1) w w1) := Lib.hid ((Btw.of_below hb0 b (b + 1)).trans hb1)
  have HY1 := Lib.hid (HY0.out.btw hb1 (.inr (by omega)))
  obtain ⟨B, hB⟩ : ∃ B, B = w1.heap.size := ⟨_, rfl⟩
  have HI : Hid (RootInv w ((w1.alloc (.cells #[] 3)).alloc (.cells #[.int .i64 ((v + 1 : Nat) : Int), .slice (some ⟨B, 0, none⟩) 0 0] 25)) b B (v + 1) 0 (some ⟨B, 0, none⟩) 0) := Lib.hid (by
    subst hB
    have ha := bt (alloc_below w1 (.cells #[] 3)) (alloc_below _ (.cells #[.int .i64 ((v + 1 : Nat) : Int), .slice (some ⟨w1.heap.size, 0, none⟩) 0 0] 25))
    refine ⟨btw_below' HB1.out (ha.mono (by omega)), HY1.out.step ha, ?_, rowv_empty (Nat.le_refl _) ((Box.new w1 3 #[]).alloc _)⟩
    simpa using Box.new (w1.alloc (.cells #[] 3)) 25 #[.int .i64 ((v + 1 : Nat) : Int), .slice (some ⟨w1.heap.size, 0, none⟩) 0 0])
  have e1 : ((v + 1 : Nat) : Int) = 1 + (v : Int) := by omega
  rw [e1, hB] at HI
  rw [← hB] at hsz1
  clear S1 HN HS0 HY0 HW0 hb0 hs0 hb1 HB1 HY1 e1
  go_wp2
  generalize (w1.alloc (.cells #[] 3)).alloc (.cells #[.int .i64 (1 + (v : Int)), .slice (some ⟨w1.heap.size, 0, none⟩) 0 0] 25) = w2 at HI ⊢
  rw [← hB] at HI ⊢
  clear hB w1
  go_loopw [4] (fun q wr => ∃ (k : Nat) (A' : Option Addr) (c' : Nat), k ≤ 17 ∧ q = .int .i64 k ∧ Hid (RootInv w wr b B (v + 1) k A' c')) (fun q _ => 17 - (intOf q).toNat)
  case atStart => exact ⟨0, _, _, by omega, rfl, HI⟩
  case round =>
    clear HI
    obtain ⟨k, A', c', hk, rfl, I⟩ := hrel
    by_cases hlt' : k < 17
    · have hi : (k : Int) < 17 := by omega
      obtain ⟨z, hz⟩ : ∃ z, z = 2 + (7 * k + 5) % 46 := ⟨_, rfl⟩
      have HSt : Hid (tab5 (k + 1) = tab5 k ++ [(z : Int)]) := Lib.hid (by rw [tab5_step, hz])
      have u1 : IntKind.i64.wrap (7 * (k : Int)) = 7 * (k : Int) := IntWalk.i64_in _ (by omega)
      have u2 : IntKind.i64.wrap (7 * (k : Int) + 5) = 7 * (k : Int) + 5 := IntWalk.i64_in _ (by omega)
      have u3 : (7 * (k : Int) + 5).tmod 46 = (7 * (k : Int) + 5) % 46 := Int.tmod_eq_emod_of_nonneg (by omega)
      have u4 : IntKind.i64.wrap (2 + (7 * (k : Int) + 5) % 46) = (z : Int) := by rw [IntWalk.i64_in _ (by omega)]; omega
      have u5 : 2 + (7 * (k : Int) + 5) % 46 = (z : Int) := by omega
      have u6 : IntKind.i64.wrap (z : Int) = (z : Int) := IntWalk.i64_in _ (by omega)
      have HLz := Lib.hid (tab5_len k)
      have hlx := I.out.x.lt
      generalize hzz : tab5 k = zz at HSt HLz
      have HZ := Lib.hid hzz
      have HRk : Hid (wr.ownsRow B 3 1 (.slice A' k c') k (zz.map (Value.int .i64))) := Lib.hid (by have := I.out.i; rwa [hzz] at this)
      clear hz hzz
      have HBa : Hid (Below wr.heap.size wr (wr.drew.alloc (.cells #[.int .i64 (z : Int)] 3))) := Lib.hid (bt ((Below.refl _ _).drew) (alloc_below _ _))
      have HOw : Hid ((wr.drew.alloc (.cells #[.int .i64 (z : Int)] 3)).ownsRow B 3 1 (.slice A' k c') k (zz.map (Value.int .i64))) := Lib.hid (rowv_below HRk.out HBa.out)
      have HNw : Hid (∀ j u, [Value.int .i64 (z : Int)][j]? = some u → (wr.drew.alloc (.cells #[.int .i64 (z : Int)] 3)).cell? ⟨wr.heap.size, j, none⟩ = some u) := Lib.hid (fun j u hj => by
        match j, hj with
        | 0, hj => simp at hj; subst hj; exact (Box.new wr.drew 3 #[.int .i64 (z : Int)]).cell 0 rfl)
      have HXa : Hid (Box (wr.drew.alloc (.cells #[.int .i64 (z : Int)] 3)) (B + 1) 25 #[.int .i64 ((v + 1 : Nat) : Int), .slice A' k c']) := Lib.hid (I.out.x.step HBa.out)
      have f1 := I.out.x.cell 1 rfl
      have f2 : (wr.alloc (.cells #[.int .i64 (z : Int)] 3)).drew.cell? ⟨B + 1, 1, none⟩ = some (.slice A' k c') := HXa.out.cell 1 rfl
      go_wp2
      go_region_law (first
        | (refine step_app_one rfl (.tmp 15) (.tmp 23) 23 3 rfl (.int .i64 0) 1 8 elemInt Try.underlying23 B (.slice A' k c') k (zz.map (Value.int .i64)) ?_ HOw.out wr.heap.size 1 ?_ [.int .i64 (z : Int)] rfl HNw.out ?_ ?_ ?_ ?_ ?_; simp [Act.eval]; simp [Act.eval]; (intro u hu; simp at hu; subst hu; rfl); (unfold maxLen; omega); omega; (simp; omega); intro A2 c2 w4 hR4 hc4 hg4 hb4; have HX4 := Lib.hid (HXa.out.grown HOw.out (by decide) hg4); have y0 := HX4.out.cell 1 rfl; have y1 := HX4.out.frozen 1)
        | ((rw [if_pos (by rfl)]); go_simp; go_at_call 87; refine (seed0 _ _).mono ?_; rintro e w' ⟨rfl, rfl⟩))
      all_goals clear f1 f2 u1 u2 u3 u4 u5 u6
      all_goals (
        have HR4 := Lib.hid hR4
        have hbz : Btw b (b + 1) w w4 := btw_below' (btw_below' I.out.btw (HBa.out.mono (by omega))) (hb4.mono (by omega))
        have HX0 := Lib.hid ((I.out.r.step HBa.out).below hb4 (by omega))
        have HN4 : Hid (RootInv w (w4.setCell ⟨B + 1, 1, none⟩ (.slice A2 (k + 1) c2)) b B (v + 1) (k + 1) A2 c2) := Lib.hid ⟨btw_below' hbz ((Below.refl _ _).setCell (p := ⟨B + 1, 1, none⟩) (by show w.heap.size ≤ B + 1; omega) _), HX0.out.far (p := ⟨B + 1, 1, none⟩) (by show w.heap.size ≠ B + 1; omega) _, HX4.out.set 1 _, by
          rw [HSt.out, List.map_append]
          have := rowv_setBox HR4.out HX4.out (by decide) 1 (.slice A2 (k + 1) c2)
          simpa using this⟩
        clear hR4 hb4 hg4 hc4 HOw HRk HBa HNw HXa I HX0
        go_wp2
        go_roundw
        case rel => first | exact ⟨k + 1, A2, c2, by omega, by go_num, HN4⟩ | ((repeat apply Exists.intro); exact ⟨⟨k + 1, A2, c2, by omega, by go_num, HN4⟩, rfl⟩)
        case measure => simp [intOf]; omega)
    · obtain rfl : k = 17 := by omega
      have x0 := I.out.x.cell 0 rfl
      have x1 := I.out.x.cell 1 rfl
      have r0 := I.out.r.cell 0 rfl
      have r1 := I.out.r.cell 1 rfl
      have r0z := I.out.r.frozen 0
      have r1z := I.out.r.frozen 1
      have HO : Hid (OwnI wr w.heap.size wr.heap.size A' (tab5 17)) := Lib.hid (GroI.own (base := B) (n := 17) (c := c') (by unfold GroI; rw [tab5_len]; exact I.out.i) (by omega))
      have HCp : Hid (17 ≤ c') := Lib.hid (by obtain ⟨_, cap, hv', hle⟩ := rowv_form I.out.i; injection hv' with _ _ e3; omega)
      have HBt := Lib.hid I.out.btw
      have HRb := Lib.hid I.out.r
      clear I
      go_wp2
      refine bodyPost_ret (v := .agg #[.int .i64 ((v + 1 : Nat) : Int), .slice A' 17 c']) (by simp [results, Try.results45, go_sem, r0, r1]) rfl ?_
      refine ⟨v + 1, A', c', by omega, rfl, HCp, Lib.hid ?_, btw_below' HBt.out (((Below.refl _ _).setCell (p := ⟨w.heap.size, 0, none⟩) (Nat.le_refl _) _).setCell (p := ⟨w.heap.size, 1, none⟩) (Nat.le_refl _) _)⟩
      have q := (HO.out.far HRb.out (by decide) 0 (.int .i64 ((v + 1 : Nat) : Int))).far (HRb.out.set 0 _) (by decide) 1 (.slice A' 17 c')
      exact q.wide (Nat.le_refl _) (by simp [World.setCell])

set_option maxRecDepth 100000 in
set_option maxHeartbeats 4000000 in
theorem rootDrawn (A : Option Addr) (n c : Nat) (zs : List Nat) (w : World) (hn : n ≤ maxLen) (hl : zs.length = n) (h : ByB w w.heap.size A zs) :
    Calls Try.prog 10 #[.slice A n c] w fun e w' => ∃ (g : Nat) (A' : Option Addr) (c' : Nat), (1 ≤ g ∧ g ≤ 2000) ∧ e = .returned (.agg #[.int .i64 (g : Int), .slice A' 17 c']) ∧ Hid (17 ≤ c') ∧ Hid (OwnI w' w.heap.size w'.heap.size A' (tab5 17)) ∧ Below w.heap.size w w' := by
  obtain ⟨W0, hW0⟩ : ∃ W0, W0 = w.alloc (.cells #[.int .i64 0, .slice none 0 0] 25) := ⟨_, rfl⟩
  have hb0 : Below w.heap.size w W0 := by rw [hW0]; exact alloc_below _ _
  have HY0 : Hid (Box W0 w.heap.size 25 #[.int .i64 0, .slice none 0 0]) := Lib.hid (by rw [hW0]; exact Box.new _ _ _)
  have HC := Lib.hid (srcNew A n c zs W0 hn hl (h.step hb0))
  have HF := Lib.hid (fun W (h : Src W W0.heap.size A n c zs 0) => srcRoot W0.heap.size A n c zs 0 W (by omega) h)
  have HW0 := Lib.hid hW0
  clear hn hl h hW0
  go_enter Try.func10, Try.ntmps10
  go_wp2_with fail
  rw [← HW0.out]
  refine HC.out.mono ?_
  rintro e w1 ⟨rfl, S1, hb1⟩
  have HY1 := Lib.hid (HY0.out.step hb1)
  have hsz : w.heap.size + 1 ≤ W0.heap.size := HY0.out.lt
  go_wp2_with fail
  refine (HF.out w1 S1.out).mono ?_
  rintro e w2 ⟨g, A2, c2, hg, rfl, K2, O2, B2⟩
  have Y2 := Lib.hid (HY1.out.btw B2 (.inl (by omega)))
  have HB2 := Lib.hid ((hb0.trans (hb1.mono (by omega))).trans ((B2.below (hb1.size)).mono (by omega)))
  have hsz1 : W0.heap.size ≤ w1.heap.size := hb1.size
  have g0 := Y2.out.cell 0 rfl
  have g1 := Y2.out.cell 1 rfl
  have g0z := Y2.out.frozen 0
  have g1z := Y2.out.frozen 1
  clear HC HY0 HY1 S1 B2
  go_wp2
  refine bodyPost_ret (v := .agg #[.int .i64 (g : Int), .slice A2 17 c2]) (by simp [results, Try.results10, go_sem, g0, g1]) rfl ?_
  refine ⟨g, A2, c2, hg, rfl, K2, Lib.hid ?_, (HB2.out.setCell (p := ⟨w.heap.size, 0, none⟩) (Nat.le_refl _) _).setCell (p := ⟨w.heap.size, 1, none⟩) (Nat.le_refl _) _⟩
  have q := (O2.out.far Y2.out (by decide) 0 (.int .i64 (g : Int))).far (Y2.out.set 0 _) (by decide) 1 (.slice A2 17 c2)
  exact q.wide (by omega) (by simp [World.setCell])
end Go.Proofs.Ytkhhdlclcniklaa

/- laws.at, told exactly; laws.sameTexts. -/
namespace Go.Proofs.Ytkhhdlclcniklaa
open Go.RowKit

/-- The i-th choice out of N that these bytes make. -/
def atOf (zs : List Nat) (i N : Nat) : Nat := if zs.length = 0 then i * 7 % N else (zs.getD (i % zs.length) 0 * 31 + zs.getD ((i + 1) % zs.length) 0 + i / zs.length) % N
theorem atOf_lt (zs : List Nat) (i N : Nat) (h : 0 < N) : atOf zs i N < N := by unfold atOf; split <;> exact Nat.mod_lt _ h

set_option maxRecDepth 100000 in
set_option maxHeartbeats 4000000 in
theorem lawAtE (i N : Nat) (A : Option Addr) (n c : Nat) (zs : List Nat) (w : World) (hi : i ≤ 1000) (hN : 2 ≤ N) (hN2 : N ≤ 1000) (hn : n ≤ 1048576) (hl : zs.length = n) (h : ByB w w.heap.size A zs) :
    Calls Try.prog 16 #[.slice A n c, .int .i64 (i : Nat), .int .i64 (N : Nat)] w fun e w' => e = .returned (.int .i64 (atOf zs i N : Nat)) ∧ Below w.heap.size w w' := by
  have h1 : ¬ (N : Int) ≤ 1 := by omega
  have h3 : ¬ (N : Int) = 0 := by omega
  have hi0 : (0 : Int) ≤ (i : Int) := by omega
  by_cases h0 : n = 0
  · have h0' : (n : Int) = 0 := by omega
    have HA : Hid (atOf zs i N = i * 7 % N) := Lib.hid (by unfold atOf; rw [if_pos (by omega)])
    have u1 : (0 : Int) ≤ (i : Int) * 7 := by omega
    clear h hl
    go_enter Try.func16, Try.ntmps16
    go_wp2
    have e1 : (i : Int) * 7 % (N : Int) = ((i * 7 % N : Nat) : Int) := by simp
    rw [e1]
    refine bodyPost_ret (v := .int .i64 ((i * 7 % N : Nat) : Int)) (by simp [results, Try.results16, go_sem]) rfl ?_
    exact ⟨by rw [HA.out], Below.refl _ _⟩
  · have h0' : ¬ (n : Int) = 0 := by omega
    have HA : Hid (atOf zs i N = (zs.getD (i % n) 0 * 31 + zs.getD ((i + 1) % n) 0 + i / n) % N) := Lib.hid (by unfold atOf; rw [if_neg (by omega), hl])
    obtain ⟨b, off, rfl, hb, hc, hv⟩ := h (i % n) (by rw [hl]; exact Nat.mod_lt _ (by omega))
    obtain ⟨b', off', eA, _, hc', hv'⟩ := h ((i + 1) % n) (by rw [hl]; exact Nat.mod_lt _ (by omega))
    injection eA with eA; injection eA with e1 e2; subst e1 e2
    generalize zs.getD (i % n) 0 = x at hc hv HA
    generalize zs.getD ((i + 1) % n) 0 = y at hc' hv' HA
    obtain ⟨p, hp⟩ : ∃ p, p = i % n := ⟨_, rfl⟩
    obtain ⟨q, hq⟩ : ∃ q, q = (i + 1) % n := ⟨_, rfl⟩
    obtain ⟨r, hr⟩ : ∃ r, r = i / n := ⟨_, rfl⟩
    rw [← hp] at hc
    rw [← hq] at hc'
    have t1 : (i : Int).tmod (n : Int) = (p : Int) := by rw [Int.tmod_eq_emod_of_nonneg (by omega), hp]; simp
    have t2 : ((i : Int) + 1).tmod (n : Int) = (q : Int) := by rw [Int.tmod_eq_emod_of_nonneg (by omega), hq]; simp
    have t3 : (i : Int).tdiv (n : Int) = (r : Int) := by rw [Int.tdiv_eq_ediv_of_nonneg (by omega), hr]; simp
    have hp1 : (p : Int) < (n : Int) := by have := Nat.mod_lt i (show 0 < n by omega); omega
    have hq1 : (q : Int) < (n : Int) := by have := Nat.mod_lt (i + 1) (show 0 < n by omega); omega
    have hr1 : r ≤ 1000 := by rw [hr]; exact Nat.le_trans (Nat.div_le_self _ _) hi
    rw [← hr] at HA
    clear hp hq hr h hl
    have t1' : (i : Int) % (n : Int) = (p : Int) := by rw [← t1, Int.tmod_eq_emod_of_nonneg (by omega)]
    have t2' : ((i : Int) + 1) % (n : Int) = (q : Int) := by rw [← t2, Int.tmod_eq_emod_of_nonneg (by omega)]
    have t3' : (i : Int) / (n : Int) = (r : Int) := by rw [← t3, Int.tdiv_eq_ediv_of_nonneg (by omega)]
    have u0 : IntKind.i64.wrap ((i : Int) + 1) = (i : Int) + 1 := IntWalk.i64_in _ ⟨by omega, by omega⟩
    have u1 : IntKind.i64.wrap (p : Int) = (p : Int) := IntWalk.i64_in _ ⟨by omega, by omega⟩
    have u2 : IntKind.i64.wrap (q : Int) = (q : Int) := IntWalk.i64_in _ ⟨by omega, by omega⟩
    have u3 : IntKind.i64.wrap (r : Int) = (r : Int) := IntWalk.i64_in _ ⟨by omega, by omega⟩
    have u4 : IntKind.i64.wrap (x : Int) = (x : Int) := IntWalk.i64_in _ ⟨by omega, by omega⟩
    have u5 : IntKind.i64.wrap (y : Int) = (y : Int) := IntWalk.i64_in _ ⟨by omega, by omega⟩
    have u6 : IntKind.i64.wrap ((x : Int) * 31) = (x : Int) * 31 := IntWalk.i64_in _ ⟨by omega, by omega⟩
    have u7 : IntKind.i64.wrap ((x : Int) * 31 + (y : Int)) = (x : Int) * 31 + (y : Int) := IntWalk.i64_in _ ⟨by omega, by omega⟩
    have u8 : IntKind.i64.wrap ((x : Int) * 31 + (y : Int) + (r : Int)) = (x : Int) * 31 + (y : Int) + (r : Int) := IntWalk.i64_in _ ⟨by omega, by omega⟩
    obtain ⟨z, hz⟩ : ∃ z, z = (x * 31 + y + r) % N := ⟨_, rfl⟩
    have HA2 : Hid (atOf zs i N = z) := Lib.hid (by rw [HA.out, hz])
    have hz1 : z < N := by rw [hz]; exact Nat.mod_lt _ (by omega)
    have t4' : ((x : Int) * 31 + (y : Int) + (r : Int)) % (N : Int) = (z : Int) := by rw [hz]; simp
    have t4 : ((x : Int) * 31 + (y : Int) + (r : Int)).tmod (N : Int) = (z : Int) := by rw [Int.tmod_eq_emod_of_nonneg (by omega), t4']
    have u9 : IntKind.i64.wrap (z : Int) = (z : Int) := IntWalk.i64_in _ ⟨by omega, by omega⟩
    clear hz
    go_enter Try.func16, Try.ntmps16
    go_wp2
    go_quiet (fail)
    go_wp2
    refine bodyPost_ret (v := .int .i64 (z : Int)) (by simp [results, Try.results16, go_sem]) rfl ?_
    exact ⟨by rw [HA2.out], below_drewN (Below.refl _ _) _⟩

set_option maxRecDepth 100000 in
set_option maxHeartbeats 2000000 in
theorem sameTexts (A A' : Option Addr) (n c c' : Nat) (ss : List ByteArray) (w : World) (hl : ss.length = n) (hn : n ≤ 1048576) (h : StrL w A ss) (h' : StrL w A' ss) :
    Calls Try.prog 24 #[.slice A n c, .slice A' n c'] w fun e w' => e = .returned (.bool true) ∧ Below w.heap.size w w' := by
  have HL := Lib.hid hl
  have H := Lib.hid h
  have H' := Lib.hid h'
  clear hl h h'
  have hb : ((n : Int) != (n : Int)) = false := by simp
  go_enter Try.func24, Try.ntmps24
  go_wp2
  go_loopw [5] (fun i wr => ∃ k : Nat, k ≤ n ∧ i = .int .i64 k ∧ Below w.heap.size w wr) (fun i _ => n - (intOf i).toNat)
  case atStart => exact ⟨0, Nat.zero_le _, rfl, Below.refl _ _⟩
  case round =>
    obtain ⟨k, hk, rfl, hbw⟩ := hrel
    by_cases hlt : k < n
    · obtain ⟨b, off, rfl, hc⟩ := (H.out.below hbw) k (by rw [HL.out]; exact hlt)
      obtain ⟨b', off', rfl, hc'⟩ := (H'.out.below hbw) k (by rw [HL.out]; exact hlt)
      generalize ss.getD k ByteArray.empty = x at hc hc'
      have hi : (k : Int) < (n : Int) := by omega
      have hq1 : (x.toList == x.toList) = true := by simp
      go_wp2
      go_quiet (fail)
      go_wp2
      go_roundw
      case rel => exact ⟨k + 1, by omega, by go_num, below_drewN hbw _⟩
      case measure => simp [intOf]; omega
    · go_wp2
      go_ret
      exact ⟨rfl, hbw⟩

end Go.Proofs.Ytkhhdlclcniklaa

/- The walk of FnRoot. -/
namespace Go.Proofs.Ytkhhdlclcniklaa
open Go.RowKit

set_option maxRecDepth 100000 in
theorem sameInts (A A' : Option Addr) (n c c' : Nat) (zs : List Int) (w : World) (hl : zs.length = n) (hn : n ≤ 1048576) (h : IntL w A zs) (h' : IntL w A' zs) :
    Calls Try.prog 14 #[.slice A n c, .slice A' n c'] w fun e w' => e = .returned (.bool true) ∧ Below w.heap.size w w' := by
  have HL := Lib.hid hl
  have H := Lib.hid h
  have H' := Lib.hid h'
  clear hl h h'
  have hb : ((n : Int) != (n : Int)) = false := by simp
  go_enter Try.func14, Try.ntmps14
  go_wp2
  go_loopw [5] (fun i wr => ∃ k : Nat, k ≤ n ∧ i = .int .i64 k ∧ Below w.heap.size w wr) (fun i _ => n - (intOf i).toNat)
  case atStart => exact ⟨0, Nat.zero_le _, rfl, Below.refl _ _⟩
  case round =>
    obtain ⟨k, hk, rfl, hbw⟩ := hrel
    by_cases hlt : k < n
    · obtain ⟨b, off, rfl, hc⟩ := (H.out.below hbw) k (by rw [HL.out]; exact hlt)
      obtain ⟨b', off', rfl, hc'⟩ := (H'.out.below hbw) k (by rw [HL.out]; exact hlt)
      generalize zs.getD k 0 = x at hc hc'
      have hi : (k : Int) < (n : Int) := by omega
      have hq1 : (x == x) = true := by simp
      have hq2 : (x != x) = false := by simp
      go_wp2
      go_quiet (fail)
      go_wp2
      go_roundw
      case rel => exact ⟨k + 1, by omega, by go_num, below_drewN hbw _⟩
      case measure => simp [intOf]; omega
    · go_wp2
      go_ret
      exact ⟨rfl, hbw⟩

/-- A root in a variable. -/
structure RtV (D : Nat) (g : Int) (A : Option Addr) (c : Nat) (w : World) : Prop where
  x : Box w D 25 #[.int .i64 g, .slice A 17 c]
  s : IntL w A (tab5 17)
theorem RtV.step {D : Nat} {g : Int} {A : Option Addr} {c : Nat} {w w' : World} (h : RtV D g A c w) (hb : Below w.heap.size w w') : RtV D g A c w' := ⟨h.x.step hb, h.s.below hb⟩
theorem RtV.new {g : Int} {A : Option Addr} {c : Nat} {w : World} (s : IntL w A (tab5 17)) : RtV w.heap.size g A c (w.alloc (.cells #[.int .i64 g, .slice A 17 c] 25)) := ⟨Box.new _ _ _, s.below (alloc_below _ _)⟩
theorem rt5 {g : Nat} (h : 1 ≤ g ∧ g ≤ 2000) : rtOf (g : Int) (tab5 17) = (rootTx (g : Int) (tab5 17), 0) := by
  unfold rtOf; rw [if_pos (root5 (by omega))]
theorem rt5_size (g : Nat) : (rootTx (g : Int) (tab5 17)).size = 46 := by
  have := joinL_len (g : Int).toNat (g : Int).toNat (tab5 17) (tab5_len 17)
  rw [← root_list] at this
  simpa using this
theorem rd5 {g : Nat} (h : 1 ≤ g ∧ g ≤ 2000) : rdG (rootTx (g : Int) (tab5 17)) = (g : Int) ∧ rdZ (rootTx (g : Int) (tab5 17)) = tab5 17 ∧ rdC (rootTx (g : Int) (tab5 17)) = 0 := by
  have hb : rdB (rootTx (g : Int) (tab5 17)).data.toList = true := by
    have e : (g : Int).toNat = g := by omega
    rw [root_list, e, join_read g g (by omega) (by omega)]; simp
  have hs := rt5_size g
  have hn : ¬ 65536 < (rootTx (g : Int) (tab5 17)).size := by omega
  unfold rdG rdZ rdC
  rw [if_neg hn, if_neg hn, if_neg hn, if_pos hb, if_pos hb, if_pos hb, root_list, join_gen _ _ _ (by omega), join_tab _ _ _ (tab5_len 17) tab5_in]
  exact ⟨by omega, rfl, rfl⟩
theorem torn5 {g g' k : Nat} (h : 1 ≤ g ∧ g ≤ 2000) (h' : 1 ≤ g' ∧ g' ≤ 2000) (h6 : 6 ≤ k) (h40 : k ≤ 40) : rdC ((rootTx (g : Int) (tab5 17)).extract 0 k ++ (rootTx (g' : Int) (tab5 17)).extract k (rootTx (g' : Int) (tab5 17)).size) = if g = g' then 0 else 9 := by
  have hl : ((rootTx (g : Int) (tab5 17)).extract 0 k ++ (rootTx (g' : Int) (tab5 17)).extract k (rootTx (g' : Int) (tab5 17)).size).data.toList = joinL g g' (tab5 17) := by
    rw [ByteArray.data_append, Array.toList_append, ext_list, ext_list, root_list, root_list, List.drop_zero, Nat.sub_zero, rt5_size, List.take_of_length_le (l := List.drop k _) (by rw [List.length_drop, joinL_len _ _ _ (tab5_len 17)]; omega)]
    have e : (g : Int).toNat = g := by omega
    have e' : (g' : Int).toNat = g' := by omega
    rw [e, e']
    exact cut_join g g' (tab5 17) k (tab5_len 17) h6 h40
  have hs : ((rootTx (g : Int) (tab5 17)).extract 0 k ++ (rootTx (g' : Int) (tab5 17)).extract k (rootTx (g' : Int) (tab5 17)).size).size = 46 := by
    have := congrArg List.length hl
    rw [joinL_len _ _ _ (tab5_len 17)] at this
    simpa using this
  unfold rdC
  rw [if_neg (by omega), hl, join_read g g' (by omega) (by omega)]
  by_cases e : g = g' <;> simp [e]
theorem short5 (t : ByteArray) (h : t.size ≠ 46) (h2 : t.size ≤ 46) : rdC t = 9 := by
  unfold rdC
  rw [if_neg (by omega), if_neg]
  unfold rdB
  have : decide (t.data.toList.length = 46) = false := by simpa using h
  rw [this]
  simp

set_option maxRecDepth 100000 in
set_option maxHeartbeats 16000000 in
theorem walkRoot (A : Option Addr) (n c : Nat) (zs : List Nat) (A' : Option Addr) (n' c' : Nat) (zs' : List Nat) (w : World) (hl : zs.length = n) (hl' : zs'.length = n') (hn : n ≤ maxLen) (hn' : n' ≤ maxLen) (h : ByB w w.heap.size A zs) (h' : ByB w w.heap.size A' zs') :
    Calls Try.prog 3 #[.slice A n c, .slice A' n' c'] w fun e w' => e = .returned (.bool true) ∧ Below w.heap.size w w' := by
  by_cases hle : n ≤ 1048576
  · by_cases hle' : n' ≤ 1048576
    · have i1 : ¬ (1048576 : Int) < (n : Int) := by omega
      have i2 : ¬ (1048576 : Int) < (n' : Int) := by omega
      have HD := Lib.hid (rootDrawn A n c zs w hn hl h)
      have HD2 := Lib.hid (fun W (hb : Below w.heap.size w W) => rootDrawn A' n' c' zs' W hn' hl' (h'.step hb))
      have HAt := Lib.hid (fun W (hb : Below w.heap.size w W) => lawAtE 0 35 A' n' c' zs' W (by omega) (by omega) (by omega) hle' hl' (h'.step hb))
      have hv35 : atOf zs' 0 35 < 35 := atOf_lt zs' 0 35 (by omega)
      generalize atOf zs' 0 35 = v at HAt hv35
      clear hl hl' hn hn' h h'
      go_enter Try.func3, Try.ntmps3
      go_wp2_with fail
      refine HD.out.mono ?_
      rintro e w1 ⟨g1, A1, c1, hg1, rfl, K1, O1, B1⟩
      have F2 := Lib.hid (RtV.new (g := (g1 : Int)) (c := c1) O1.out.reads)
      have hb2 := bt B1 (alloc_below w1 (.cells #[.int .i64 (g1 : Int), .slice A1 17 c1] 25))
      obtain ⟨w2, hw2⟩ : ∃ w2, w2 = w1.alloc (.cells #[.int .i64 (g1 : Int), .slice A1 17 c1] 25) := ⟨_, rfl⟩
      rw [← hw2] at F2 hb2
      have HW2 := Lib.hid hw2
      clear O1 B1 HD hw2
      go_wp2_with fail
      rw [← HW2.out]
      refine (HD2.out w2 hb2).mono ?_
      rintro e w3 ⟨g2, A2, c2, hg2, rfl, K2, O2, B2⟩
      have G4 := Lib.hid (RtV.new (g := (g2 : Int)) (c := c2) O2.out.reads)
      have ha := alloc_below w3 (.cells #[.int .i64 (g2 : Int), .slice A2 17 c2] 25)
      have F4 := Lib.hid ((F2.out.step B2).step ha)
      have hb4 := bt (bt hb2 B2) ha
      obtain ⟨w4, hw4⟩ : ∃ w4, w4 = w3.alloc (.cells #[.int .i64 (g2 : Int), .slice A2 17 c2] 25) := ⟨_, rfl⟩
      rw [← hw4] at G4 F4 hb4
      have f0 := F4.out.x.cell 0 rfl
      have f1 := F4.out.x.cell 1 rfl
      rw [hw4] at f0 f1
      have HW4 := Lib.hid hw4
      have HT := Lib.hid (fun W (q : RtV w1.heap.size (g1 : Int) A1 c1 W) => implRootText (g1 : Int) A1 17 c1 (tab5 17) W (tab5_len 17) (by unfold maxLen; omega) q.s)
      have HU := Lib.hid (fun W (q : RtV w3.heap.size (g2 : Int) A2 c2 W) => implRootText (g2 : Int) A2 17 c2 (tab5 17) W (tab5_len 17) (by unfold maxLen; omega) q.s)
      have HQ := Lib.hid (fun W (q : RtV w1.heap.size (g1 : Int) A1 c1 W) => specRootText (g1 : Int) A1 17 c1 (tab5 17) W (tab5_len 17) (by unfold maxLen; omega) K1.out q.s)
      rw [rt5 hg1] at HT HQ
      rw [rt5 hg2] at HU
      have HR := Lib.hid (fun W => implReadRoot (rootTx (g1 : Int) (tab5 17)) W (by rw [rt5_size]; unfold maxLen; omega))
      rw [(rd5 hg1).1, (rd5 hg1).2.1, (rd5 hg1).2.2] at HR
      have HOk := Lib.hid (fun W (q : RtV w1.heap.size (g1 : Int) A1 c1 W) => implRootOK (g1 : Int) A1 17 c1 (tab5 17) W (tab5_len 17) (by unfold maxLen; omega) q.s)
      rw [root5 (by omega)] at HOk
      have HTn := Lib.hid (fun W => implReadRoot ((rootTx (g1 : Int) (tab5 17)).extract 0 (6 + v) ++ (rootTx (g2 : Int) (tab5 17)).extract (6 + v) (rootTx (g2 : Int) (tab5 17)).size) W (by rw [ByteArray.size_append, ByteArray.size_extract, ByteArray.size_extract, rt5_size, rt5_size]; unfold maxLen; omega))
      rw [torn5 hg1 hg2 (by omega) (by omega)] at HTn
      have HSh := Lib.hid (fun W => implReadRoot ((rootTx (g1 : Int) (tab5 17)).extract 0 (6 + v)) W (by rw [ByteArray.size_extract, rt5_size]; unfold maxLen; omega))
      rw [short5 _ (by rw [ByteArray.size_extract, rt5_size]; omega) (by rw [ByteArray.size_extract, rt5_size]; omega)] at HSh
      have ht46 : (((rootTx (g1 : Int) (tab5 17)).size : Nat) : Int) = 46 := by rw [rt5_size]; rfl
      have hu46 : (((rootTx (g2 : Int) (tab5 17)).size : Nat) : Int) = 46 := by rw [rt5_size]; rfl
      have ht46n := rt5_size g1
      have hu46n := rt5_size g2
      generalize rootTx (g1 : Int) (tab5 17) = t at HT HQ HR HTn HSh ht46 ht46n
      generalize rootTx (g2 : Int) (tab5 17) = u at HU HTn hu46 hu46n
      have HN46 := Lib.hid (And.intro ht46n hu46n)
      clear ht46n hu46n
      obtain ⟨dc, hdc⟩ : ∃ dc : Int, dc = if g1 = g2 then 0 else 9 := ⟨_, rfl⟩
      rw [← hdc] at HTn
      have HDc := Lib.hid hdc
      clear hdc
      have hqt : (t.toList != t.toList) = false := by simp
      have hqg : ((g1 : Int) != (g1 : Int)) = false := by simp
      clear O2 B2 HD2 hw4 ha F2 HW2 hb2 K1 K2
      go_wp2_with fail
      rw [← HW4.out]
      clear HW4 f0 f1
      refine (HT.out w4 F4.out).mono ?_
      rintro e w5 ⟨rfl, hb5⟩
      have F5 := Lib.hid (F4.out.step hb5)
      have G5 := Lib.hid (G4.out.step hb5)
      have hB5 := bt hb4 hb5
      have f0 := F5.out.x.cell 0 rfl
      have f1 := F5.out.x.cell 1 rfl
      clear F4 G4 hb4 hb5 HT
      go_wp2_with fail
      clear f0 f1
      refine (HQ.out w5 F5.out).mono ?_
      rintro e w6 ⟨rfl, hb6⟩
      have F6 := Lib.hid (F5.out.step hb6)
      have G6 := Lib.hid (G5.out.step hb6)
      have hB6 := bt hB5 hb6
      clear F5 G5 hB5 hb6 HQ
      go_wp2_with fail
      refine (HR.out w6).mono ?_
      rintro e w7 ⟨A7, n7, c7, rfl, L7, O7, hb7⟩
      obtain rfl : n7 = 17 := by have := L7.out; rw [tab5_len] at this; exact this.symm
      have X8 := Lib.hid (RtV.new (g := (g1 : Int)) (c := c7) O7.out.reads)
      have ha := alloc_below w7 (.cells #[.int .i64 (g1 : Int), .slice A7 17 c7] 25)
      have F8 := Lib.hid ((F6.out.step hb7).step ha)
      have G8 := Lib.hid ((G6.out.step hb7).step ha)
      have hB8 := bt (bt hB6 hb7) ha
      obtain ⟨w8, hw8⟩ : ∃ w8, w8 = w7.alloc (.cells #[.int .i64 (g1 : Int), .slice A7 17 c7] 25) := ⟨_, rfl⟩
      rw [← hw8] at X8 F8 G8 hB8
      have f0 := G8.out.x.cell 0 rfl
      have f1 := G8.out.x.cell 1 rfl
      rw [hw8] at f0 f1
      have HW8 := Lib.hid hw8
      clear hw8 ha hb7 O7 L7 F6 G6 hB6 HR
      go_wp2_with fail
      rw [← HW8.out]
      clear HW8 f0 f1
      refine (HU.out w8 G8.out).mono ?_
      rintro e w9 ⟨rfl, hb9⟩
      have X9 := Lib.hid (X8.out.step hb9)
      have F9 := Lib.hid (F8.out.step hb9)
      have G9 := Lib.hid (G8.out.step hb9)
      have hB9 := bt hB8 hb9
      have f0 := F9.out.x.cell 0 rfl
      have f1 := F9.out.x.cell 1 rfl
      have k0 := X9.out.x.cell 0 rfl
      have k1 := X9.out.x.cell 1 rfl
      clear X8 F8 G8 hB8 hb9 HU
      go_wp2_with fail
      clear k0 k1 f0 f1
      refine (sameInts A7 A1 17 c7 c1 (tab5 17) w9 (tab5_len 17) (by omega) X9.out.s F9.out.s).mono ?_
      rintro e wa ⟨rfl, hba⟩
      have Fa := Lib.hid (F9.out.step hba)
      have Ga := Lib.hid (G9.out.step hba)
      have hBa := bt hB9 hba
      have f0 := Fa.out.x.cell 0 rfl
      have f1 := Fa.out.x.cell 1 rfl
      clear X9 F9 G9 hB9 hba
      go_wp2_with fail
      clear f0 f1
      refine (HOk.out wa Fa.out).mono ?_
      rintro e wb ⟨rfl, hbb⟩
      have Fb := Lib.hid (Fa.out.step hbb)
      have Gb := Lib.hid (Ga.out.step hbb)
      have hBb := bt hBa hbb
      clear Fa Ga hBa hbb HOk
      go_wp2_with fail
      refine (HAt.out wb hBb).mono ?_
      rintro e wc ⟨rfl, hbc⟩
      have Fc := Lib.hid (Fb.out.step hbc)
      have Gc := Lib.hid (Gb.out.step hbc)
      have hBc := bt hBb hbc
      clear Fb Gb hBb hbc HAt
      have a1 : (0 : Int) ≤ 6 + (v : Int) := by omega
      have a2 : 6 + (v : Int) ≤ (t.size : Int) := by rw [ht46]; omega
      have a3 : 6 + (v : Int) ≤ (u.size : Int) := by rw [hu46]; omega
      have a4 : (6 + (v : Int)).toNat = 6 + v := by omega
      have hnl : ¬ 9223372036854775807 < (t.extract 0 (6 + v)).size + (u.extract (6 + v) u.size).size := by
        rw [ByteArray.size_extract, ByteArray.size_extract, HN46.out.1, HN46.out.2]; omega
      have h6 : Below wc.heap.size wc wc.drew := (Below.refl _ _).drew
      have h7 : Below wc.heap.size wc (wc.alloc (.cells #[.int .i64 0, .slice none 0 0] 25)).drew := (alloc_below _ _).drew
      go_wp2
      go_cut [17] (fun z wx => z = .int .i64 dc ∧ Below wc.heap.size wc wx)
      case first =>
        go_region_with (first
          | (go_at_call 13; refine (HTn.out (wc.alloc (.cells #[.int .i64 0, .slice none 0 0] 25)).drew).mono ?_; rintro e wd ⟨Ad, nd, cd, rfl, Ld, Od, hbd⟩; have kd := bt h7 hbd; have zb := Lib.hid ((Box.new wc 25 #[.int .i64 0, .slice none 0 0]).drew.step hbd); have y0 := zb.out.cell 0 rfl; have y1 := zb.out.cell 1 rfl; have y2 := zb.out.frozen 0; have y3 := zb.out.frozen 1)
          | (go_at_call 13; refine (HTn.out wc.drew).mono ?_; rintro e wd ⟨Ad, nd, cd, rfl, Ld, Od, hbd⟩; have kd := bt h6 hbd))
        all_goals (go_wp2_with fail; go_meet)
        all_goals (first | exact ⟨rfl, (kd.setCell (p := ⟨wc.heap.size, 0, none⟩) (Nat.le_refl _) _).setCell (p := ⟨wc.heap.size, 1, none⟩) (Nat.le_refl _) _⟩ | exact ⟨rfl, bt kd (alloc_below _ _)⟩ | exact ⟨rfl, kd⟩)
      case rest =>
        obtain ⟨rfl, hb3⟩ := hcut
        obtain ⟨we, hwe⟩ : ∃ W', W' = wc := ⟨_, rfl⟩
        rw [← hwe] at hb3 ⊢
        clear hwe
        have Fe := Lib.hid (Fc.out.step hb3)
        have Ge := Lib.hid (Gc.out.step hb3)
        have hBe := bt hBc hb3
        clear Fc Gc hBc hb3 h6 h7 HTn hnl
        go_wp2_with fail
        refine (HSh.out _).mono ?_
        rintro e wf ⟨Af, nf, cf, rfl, Lf, Of, hbf⟩
        clear Lf Of HSh
        generalize rdG (t.extract 0 (6 + v)) = rg
        have hX := alloc_below wf (.cells #[.int .i64 rg, .slice Af nf cf] 25)
        have hB := bt (bt hBe hbf) hX
        have q0 := ((Fe.out.step hbf).step hX).x.cell 0 rfl
        have q1 := ((Ge.out.step hbf).step hX).x.cell 0 rfl
        have a5 : 6 + (v : Int) < 46 := by omega
        have hd := HDc.out
        clear Fe Ge hBe hbf hX
        by_cases hg : g1 = g2
        · subst hg
          rw [if_pos rfl] at hd
          subst hd
          go_wp2_with fail
          go_ret
          exact ⟨rfl, hB⟩
        · rw [if_neg hg] at hd
          subst hd
          have hqn : ((g1 : Int) != (g2 : Int)) = true := by simp; omega
          go_wp2_with fail
          go_ret
          exact ⟨rfl, hB⟩
    · have i1 : ¬ (1048576 : Int) < (n : Int) := by omega
      have i2 : (1048576 : Int) < (n' : Int) := by omega
      unfold maxLen at hn hn'
      clear hl hl' h h'
      go_enter Try.func3, Try.ntmps3
      go_wp2
      go_ret
      exact ⟨rfl, Below.refl _ _⟩
  · have i1 : (1048576 : Int) < (n : Int) := by omega
    unfold maxLen at hn hn'
    clear hl hl' h h'
    go_enter Try.func3, Try.ntmps3
    go_wp2
    go_ret
    exact ⟨rfl, Below.refl _ _⟩
end Go.Proofs.Ytkhhdlclcniklaa

/- A disk that came in, opened: its two slices as lists. Nothing here walks. -/
namespace Go.Proofs.Ytkhhdlclcniklaa
open Go.RowKit Go.ChangeShapes Go.WideShapes

section
variable {H : Type} {enc : TypeId × Value → H} {P : Program} {w : World} {spare : Nat → Bool} {held : Bool}

theorem getD_range {α : Type} (n : Nat) (f : Nat → α) (d : α) (i : Nat) (h : i < n) : ((List.range n).map f).getD i d = f i := by
  simp [List.getD_eq_getElem?_getD, h]

theorem add_plain {a : Addr} {b off i : Nat} {v : Value} (h : w.cell? (a.add i) = some v) (ha : a = ⟨b, off, none⟩) : w.cell? ⟨b, off + i, none⟩ = some v := by
  subst ha
  unfold Addr.add at h
  by_cases hi : i = 0
  · subst hi; simpa using h
  · rw [if_neg hi] at h; exact h

theorem open_strs {t e : TypeId} {fuel : Nat} {v : Value} {x : DataW H × List MemPlace} (ht : P.underlying t = some (.slice e)) (he : P.underlying e = some .string) (hce : P.cellsOf e = 1)
    (h : DataW.trod enc P w 0 spare held fuel t [v] = some x) :
    ∃ A n c, ∃ ss : List ByteArray, v = .slice A n c ∧ ss.length = n ∧ n ≤ maxLen ∧ StrL w A ss ∧ FitS ss := by
  rcases Deep.open_slice1 ht hce h with ⟨hcs, _⟩ | ⟨a, len, cap, m, k, V, D, Pl, hcs, _, hl, hm, hmm, _, hx⟩
  · injection hcs with hv _
    exact ⟨none, 0, 0, [], hv, rfl, by unfold maxLen; omega, fun i hi => by simp at hi, fun s hs => by simp at hs⟩
  · injection hcs with hv _
    have hlm : len ≤ m := by rw [hmm]; split <;> omega
    obtain ⟨S, hS⟩ := Deep.choose_lt (n := len) (p := fun i (s : ByteArray) => w.cell? (a.add i) = some (.string s) ∧ s.size ≤ maxLen) (fun i hi => by
      obtain ⟨h1, h2⟩ := hx i (by omega)
      obtain ⟨s, hc, _, hs⟩ := DataW.trod_string he h2
      injection hc with hc _
      exact ⟨s, by rw [← hc]; exact h1, hs⟩)
    refine ⟨some a, len, cap, (List.range len).map S, hv, by simp, by omega, fun i hi => ?_, fun s hs => ?_⟩
    · have hi' : i < len := by simpa using hi
      have h0 := (hS 0 (by omega)).1
      have hsp := World.cell?_spot h0
      obtain ⟨b, off, spot⟩ := a
      have hsp' : spot = none := by simpa [Addr.add] using hsp
      subst hsp'
      exact ⟨b, off, rfl, by rw [getD_range len S _ i hi']; exact add_plain (hS i hi').1 rfl⟩
    · obtain ⟨i, hi, rfl⟩ := List.mem_map.1 hs
      exact (hS i (by simpa using hi)).2

theorem open_writes {t e : TypeId} {f0 f1 : Field} {fuel : Nat} {v : Value} {x : DataW H × List MemPlace} (ht : P.underlying t = some (.slice e)) (he : P.underlying e = some (.struct #[f0, f1])) (hce : P.cellsOf e = 2)
    (h0 : P.underlying f0.type = some (.int .i64)) (h1 : P.underlying f1.type = some .string) (c0 : P.cellsOf f0.type = 1) (c1 : P.cellsOf f1.type = 1) (o0 : f0.offset = 0) (o1 : f1.offset = 1)
    (h : DataW.trod enc P w 0 spare held fuel t [v] = some x) :
    ∃ A n c, ∃ ws : List (Int × ByteArray), v = .slice A n c ∧ ws.length = n ∧ n ≤ maxLen ∧ WrL w A ws ∧ FitW ws := by
  rcases Deep.open_slice ht h with ⟨hcs, _⟩ | ⟨a, len, cap, m, k, D, Pl, hcs, _, hl, hm, hmm, _, hx⟩
  · injection hcs with hv _
    exact ⟨none, 0, 0, [], hv, rfl, by unfold maxLen; omega, fun i hi => by simp at hi, fun s hs => by simp at hs⟩
  · injection hcs with hv _
    have hlm : len ≤ m := by rw [hmm]; split <;> omega
    rw [hce] at hx
    obtain ⟨S, hS⟩ := Deep.choose_lt (n := len) (p := fun i (s : Int × ByteArray) => w.cell? ((a.add (i * 2)).add 0) = some (.int .i64 s.1) ∧ w.cell? ((a.add (i * 2)).add 1) = some (.string s.2) ∧ s.2.size ≤ maxLen) (fun i hi => by
      obtain ⟨cs, g1, g2⟩ := hx i (by omega)
      obtain ⟨_, hlen, hcell⟩ := World.cells?_some g1
      obtain ⟨y0, y1, q, _, _, g3, g4⟩ := trod_struct2 he g2
      rw [o0, c0] at g3
      rw [o1, c1] at g4
      obtain ⟨u0, u1, rfl⟩ : ∃ u0 u1, cs = [u0, u1] := by
        match cs, hlen with
        | [u0, u1], _ => exact ⟨u0, u1, rfl⟩
      obtain ⟨z, hz, _, _⟩ := DataW.trod_int h0 g3
      obtain ⟨s, hs, _, hsz⟩ := DataW.trod_string h1 g4
      simp at hz hs
      have k0 := hcell 0 (by omega)
      have k1 := hcell 1 (by omega)
      simp at k0 k1
      exact ⟨(z, s), by rw [k0, hz], by rw [k1, hs], hsz⟩)
    refine ⟨some a, len, cap, (List.range len).map S, hv, by simp, by omega, fun i hi => ?_, fun s hs => ?_⟩
    · have hi' : i < len := by simpa using hi
      have h0 := (hS 0 (by omega)).1
      have hsp := World.cell?_spot h0
      obtain ⟨b, off, spot⟩ := a
      have hsp' : spot = none := by simpa [Addr.add] using hsp
      subst hsp'
      refine ⟨b, off, rfl, ?_, ?_⟩
      · rw [getD_range len S _ i hi']
        have := (hS i hi').1
        rw [Deep.add_add] at this
        exact add_plain this rfl
      · rw [getD_range len S _ i hi']
        have := (hS i hi').2.1
        rw [Deep.add_add] at this
        have := add_plain (b := b) (off := off) this rfl
        rwa [← Nat.add_assoc] at this
    · obtain ⟨i, hi, rfl⟩ := List.mem_map.1 hs
      exact (hS i (by simpa using hi)).2.2

theorem open_ints64 {t e : TypeId} {fuel : Nat} {v : Value} {x : DataW H × List MemPlace} (ht : P.underlying t = some (.slice e)) (he : P.underlying e = some (.int .i64)) (hce : P.cellsOf e = 1)
    (h : DataW.trod enc P w 0 spare held fuel t [v] = some x) :
    ∃ A n c, ∃ zs : List Int, v = .slice A n c ∧ zs.length = n ∧ n ≤ maxLen ∧ IntL w A zs ∧ ∀ z ∈ zs, (Lit.int .i64 z).wf = true := by
  rcases Deep.open_slice1 ht hce h with ⟨hcs, _⟩ | ⟨a, len, cap, m, k, V, D, Pl, hcs, _, hl, hm, hmm, _, hx⟩
  · injection hcs with hv _
    exact ⟨none, 0, 0, [], hv, rfl, by unfold maxLen; omega, fun i hi => by simp at hi, fun s hs => by simp at hs⟩
  · injection hcs with hv _
    have hlm : len ≤ m := by rw [hmm]; split <;> omega
    obtain ⟨S, hS⟩ := Deep.choose_lt (n := len) (p := fun i (s : Int) => w.cell? (a.add i) = some (.int .i64 s) ∧ (Lit.int .i64 s).wf = true) (fun i hi => by
      obtain ⟨h1, h2⟩ := hx i (by omega)
      obtain ⟨s, hc, _, hs⟩ := DataW.trod_int he h2
      injection hc with hc _
      exact ⟨s, by rw [← hc]; exact h1, hs⟩)
    refine ⟨some a, len, cap, (List.range len).map S, hv, by simp, by omega, fun i hi => ?_, fun s hs => ?_⟩
    · have hi' : i < len := by simpa using hi
      have h0 := (hS 0 (by omega)).1
      have hsp := World.cell?_spot h0
      obtain ⟨b, off, spot⟩ := a
      have hsp' : spot = none := by simpa [Addr.add] using hsp
      subst hsp'
      exact ⟨b, off, rfl, by rw [getD_range len S _ i hi']; exact add_plain (hS i hi').1 rfl⟩
    · obtain ⟨i, hi, rfl⟩ := List.mem_map.1 hs
      exact (hS i (by simpa using hi)).2
end

set_option maxRecDepth 100000 in
theorem cellsStr : Try.prog.cellsOf 9 = 1 := by kernel_rfl
set_option maxRecDepth 100000 in
theorem cellsInt : Try.prog.cellsOf 3 = 1 := by kernel_rfl
set_option maxRecDepth 100000 in
theorem cellsLW : Try.prog.cellsOf 131 = 2 := by kernel_rfl
set_option maxRecDepth 100000 in
theorem cellsLD : Try.prog.cellsOf 57 = 2 := by kernel_rfl

set_option maxRecDepth 100000 in
/-- A disk that came in. -/
theorem open_disk {H : Type} {enc : TypeId × Value → H} {W : World} {r : Reach} {b0 : Nat} {v : Value} {d : DataW H} {p : List MemPlace}
    (hv : Value.okWide Try.prog W r b0 57 v) (h : DataW.Trod enc Try.prog W 0 (fun _ => true) true 57 v d p) :
    ∃ A n c C m e, ∃ (ss : List ByteArray) (ws : List (Int × ByteArray)), v = .agg #[.slice A n c, .slice C m e] ∧ ss.length = n ∧ ws.length = m ∧ n ≤ maxLen ∧ m ≤ maxLen ∧ StrL W A ss ∧ WrL W C ws ∧ FitS ss ∧ FitW ws := by
  obtain ⟨v0, v1, y0, y1, k, rfl, _, _, h0, h1⟩ := Joins.open_agg2 Try.underlying57 (by kernel_rfl) cellsLD hv h
  obtain ⟨A, n, c, ss, rfl, hl, hn, hs, fs⟩ := open_strs Try.underlying35 Try.underlying9 cellsStr h0
  obtain ⟨C, m, e, ws, rfl, hm, hmm, hw, fw⟩ := open_writes Try.underlying55 Try.underlying131 cellsLW Try.underlying3 Try.underlying9 cellsInt cellsStr rfl rfl h1
  exact ⟨A, n, c, C, m, e, ss, ws, rfl, hl, hm, hn, hmm, hs, hw, fs, fw⟩
end Go.Proofs.Ytkhhdlclcniklaa

/- A []byte that came in, opened: its bytes as numbers below 256, in a block that is there. -/
namespace Go.Proofs.Ytkhhdlclcniklaa
open Go.RowKit Go.ChangeShapes Go.WideShapes

theorem open_bytes {H : Type} {enc : TypeId × Value → H} {P : Program} {w : World} {spare : Nat → Bool} {held : Bool} {t e : TypeId} {fuel : Nat} {v : Value} {x : DataW H × List MemPlace} (ht : P.underlying t = some (.slice e)) (he : P.underlying e = some (.int .u8)) (hce : P.cellsOf e = 1)
    (h : DataW.trod enc P w 0 spare held fuel t [v] = some x) :
    ∃ A n c, ∃ zs : List Nat, v = .slice A n c ∧ zs.length = n ∧ n ≤ maxLen ∧ ByB w w.heap.size A zs := by
  rcases Deep.open_slice1 ht hce h with ⟨hcs, _⟩ | ⟨a, len, cap, m, k, V, D, Pl, hcs, _, hl, hm, hmm, _, hx⟩
  · injection hcs with hv _
    exact ⟨none, 0, 0, [], hv, rfl, by unfold maxLen; omega, fun i hi => by simp at hi⟩
  · injection hcs with hv _
    have hlm : len ≤ m := by rw [hmm]; split <;> omega
    obtain ⟨S, hS⟩ := Deep.choose_lt (n := len) (p := fun i (s : Nat) => w.cell? (a.add i) = some (.int .u8 (s : Int)) ∧ s < 256) (fun i hi => by
      obtain ⟨h1, h2⟩ := hx i (by omega)
      obtain ⟨s, hc, _, hs⟩ := DataW.trod_int he h2
      injection hc with hc _
      have hr : 0 ≤ s ∧ s < 256 := by
        have hs' : decide (IntKind.u8.min ≤ s) && decide (s ≤ IntKind.u8.max) := hs
        rw [Bool.and_eq_true, decide_eq_true_eq, decide_eq_true_eq] at hs'
        have e1 : IntKind.u8.min = 0 := by decide
        have e2 : IntKind.u8.max = 255 := by decide
        rw [e1, e2] at hs'
        omega
      exact ⟨s.toNat, by rw [h1, hc, Int.toNat_of_nonneg hr.1], by omega⟩)
    refine ⟨some a, len, cap, (List.range len).map S, hv, by simp, by omega, fun i hi => ?_⟩
    have hi' : i < len := by simpa using hi
    have h0 := (hS 0 (by omega)).1
    have hsp := World.cell?_spot h0
    obtain ⟨b, off, spot⟩ := a
    have hsp' : spot = none := by simpa [Addr.add] using hsp
    subst hsp'
    have hc := add_plain (hS i hi').1 rfl
    refine ⟨b, off, rfl, cell_lt hc, ?_, ?_⟩
    · rw [getD_range len S _ i hi']; exact hc
    · rw [getD_range len S _ i hi']; exact (hS i hi').2
set_option maxRecDepth 100000 in
theorem cellsU8 : Try.prog.cellsOf 5 = 1 := by kernel_rfl
end Go.Proofs.Ytkhhdlclcniklaa
