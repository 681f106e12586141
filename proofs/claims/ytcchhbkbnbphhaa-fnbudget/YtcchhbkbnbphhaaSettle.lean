/- Contracts of sectors, fateOf, tear, settle: what a crash makes of a disk. -/
import Derived.Test.YtcchhbkbnbphhaaM1
import Derived.Laws.CopyOwn
import Derived.Deep.RegionHeld3
namespace Go.Proofs.Ytcchhbkbnbphhaa
open Go.RowKit

def zS (n : Nat) : List Value := List.replicate n (.string ByteArray.empty)
theorem zS_len (n : Nat) : (zS n).length = n := by unfold zS; rw [List.length_replicate]
theorem made_zS (n : Nat) : madeCells #[.string ByteArray.empty] n = (zS n).toArray := by
  apply Array.ext
  · simp [size_madeCells, zS_len]
  · intro i h1 h2
    simp [madeCells, zS, Nat.mod_one]
set_option maxRecDepth 100000 in
theorem makeS (n : Nat) (hn : n ≤ 1048576) (W : World) : (Instr.makeSlice 23 (.int .i64 (n : Int)) (.int .i64 (n : Int))).run Try.prog W = .ok (.slice (some ⟨W.heap.size, 0, none⟩) n n) (W.alloc (.cells (zS n).toArray 9)) := by
  rw [← made_zS]
  exact run_make_row' (P := Try.prog) 23 9 (.string ByteArray.empty) 16 Try.underlying23 infoS rfl .i64 .i64 n (by omega) (by omega) W
set_option maxRecDepth 100000 in
theorem szStr : (Try.prog.info? 9).map (·.size) = some 1 := by kernel_rfl
theorem row_of_list {w : World} {b : Nat} {t : TypeId} {n : Nat} {ss : List ByteArray} (hl : ss.length = n) (h : w.heap[b]? = some (.cells (ss.map Value.string).toArray t (0, 0))) : w.rowIs b t n (fun i => .string (ss.getD i ByteArray.empty)) :=
  ⟨_, h, by simp [hl], fun i hi => by
    have hi' : i < ss.length := by omega
    simp [List.getD_eq_getElem?_getD, hi']⟩

def cellsS (ss : List ByteArray) : List Value := ss.map Value.string
theorem cellsS_len (ss : List ByteArray) : (cellsS ss).length = ss.length := by simp [cellsS]
theorem cellsS_one (ss : List ByteArray) : ∀ v ∈ cellsS ss, v.oneCell' = true := fun v hv => by
  obtain ⟨s, _, rfl⟩ := List.mem_map.1 hv
  rfl
theorem StrL.src {w : World} {A : Option Addr} {ss : List ByteArray} (h : StrL w A ss) (hp : 0 < (cellsS ss).length) : ∃ ad, A = some ad ∧ ∀ j v, (cellsS ss)[j]? = some v → w.cell? (ad.add j) = some v := by
  rw [cellsS_len] at hp
  obtain ⟨b, off, e, _⟩ := h 0 hp
  refine ⟨⟨b, off, none⟩, e, fun j v hj => ?_⟩
  have hj' : j < ss.length := by have := (List.getElem?_eq_some_iff.1 hj).1; simpa [cellsS] using this
  obtain ⟨b', off', e', hc⟩ := h j hj'
  rw [e] at e'
  injection e' with e'
  injection e' with e1 e2
  subst e1 e2
  have hv : v = Value.string (ss.getD j ByteArray.empty) := by
    unfold cellsS at hj
    rw [List.getElem?_map, List.getElem?_eq_getElem hj', Option.map_some] at hj
    rw [List.getD_eq_getElem?_getD, List.getElem?_eq_getElem hj']
    exact (Option.some.inj hj).symm
  rw [hv, ← hc]
  unfold Addr.add
  by_cases h0 : j = 0
  · subst h0; simp
  · rw [if_neg h0]

set_option maxRecDepth 100000 in
set_option maxHeartbeats 1000000 in
theorem sectors (A C : Option Addr) (n c m d : Nat) (ss : List ByteArray) (w : World) (hl : ss.length = n) (hn : n ≤ 1048576) (h : StrL w A ss) :
    Calls Try.prog 65 #[.agg #[.slice A n c, .slice C m d]] w fun e w' => e = .returned (.slice (some ⟨w.heap.size + 1, 0, none⟩) n n) ∧ Below w.heap.size w w' ∧ Hid (w'.rowIs (w.heap.size + 1) 9 n (fun i => .string (ss.getD i ByteArray.empty))) := by
  have hmk := makeS n hn
  have hb0 : Below w.heap.size w ((w.alloc (.cells #[.slice A n c, .slice C m d] 26)).alloc (.cells (zS n).toArray 9)) := ((Below.refl _ _).alloc (Nat.le_refl _) _).alloc (by simp) _
  have HP := Lib.hid (fun hp => (h.below hb0).src hp)
  have HL := Lib.hid hl
  have HN : Hid ((cellsS ss).length = n) := Lib.hid (by rw [cellsS_len]; exact hl)
  have hg : Hid (((w.alloc (.cells #[.slice A n c, .slice C m d] 26)).alloc (.cells (zS n).toArray 9)).heap[w.heap.size + 1]? = some (.cells (zS n).toArray 9 (0, 0))) := Lib.hid (by
    have := Box.new (w.alloc (.cells #[.slice A n c, .slice C m d] 26)) 9 (zS n).toArray
    rw [World.size_alloc] at this
    exact this)
  clear h hl
  go_enter Try.func65, Try.ntmps65
  go_wp2_with (with_reducible refine wpList_copy_splice rfl (.tmp 8) (.tmp 10) 23 23 rfl 9 Try.underlying23 szStr _ _ n n n c rfl rfl (w.heap.size + 1) 0 (zS n) 9 hg.out (cellsS ss) ?h1 ?h2 ?h3 ?h4 w.heap.size w hb0 (by omega) ?_)
  case h1 => rw [HN.out]; simp
  case h2 => first | exact fun hp => ⟨rfl, HP.out hp⟩ | exact fun hp => HP.out hp
  case h3 => rw [HN.out, zS_len]; omega
  case h4 => exact cellsS_one ss
  intro w2 hg2 hb2
  have HR : Hid (w2.rowIs (w.heap.size + 1) 9 n (fun i => .string (ss.getD i ByteArray.empty))) := Lib.hid (by
    refine row_of_list HL.out ?_
    have := hg2.out
    rw [show splice (zS n) 0 (cellsS ss) = ss.map Value.string from by
      unfold splice
      rw [HN.out, List.drop_of_length_le (by rw [zS_len]; omega)]; simp [cellsS]] at this
    exact this)
  clear hg2 hg hmk
  go_wp2
  go_ret
  exact ⟨rfl, hb2, HR⟩

def fateAt (fates : List Int) (i : Nat) : Int := if fates.length = 0 then 0 else fates.getD (i % fates.length) 0

set_option maxRecDepth 100000 in
theorem fateOf (A : Option Addr) (n c : Nat) (fs : List Int) (i : Nat) (w : World) (hl : fs.length = n) (hn : n ≤ maxLen) (hi : i ≤ 1048576) (h : IntL w A fs) :
    Calls Try.prog 88 #[.slice A n c, .int .i64 i] w fun e w' => e = .returned (.int .i64 (fateAt fs i)) ∧ w = w' := by
  unfold maxLen at hn
  by_cases h0 : n = 0
  · have hb : ((n : Int) == 0) = true := by simp; omega
    have HF : Hid (fateAt fs i = 0) := Lib.hid (by unfold fateAt; rw [if_pos (by omega)])
    clear h0 hl h
    go_enter Try.func88, Try.ntmps88
    go_wp2
    go_ret
    exact ⟨ret_int HF.out.symm, rfl⟩
  · have hb : ((n : Int) == 0) = false := by simp; omega
    have HF : Hid (fateAt fs i = fs.getD (i % n) 0) := Lib.hid (by unfold fateAt; rw [if_neg (by omega), hl])
    have hlt : i % n < n := Nat.mod_lt _ (by omega)
    obtain ⟨b, off, rfl, hc⟩ := h (i % n) (by omega)
    generalize fs.getD (i % n) 0 = z at hc HF
    have hn0 : ¬ (n : Int) = 0 := by omega
    clear hl h h0
    go_enter Try.func88, Try.ntmps88
    go_wp2
    go_ret
    exact ⟨ret_int HF.out.symm, rfl⟩

def tearOf (old data : ByteArray) : ByteArray := if old.size ≤ data.size / 2 then data.extract 0 (data.size / 2) else data.extract 0 (data.size / 2) ++ old.extract (data.size / 2) old.size

set_option maxRecDepth 100000 in
theorem tear (old data : ByteArray) (w : World) (h1 : old.size ≤ 100) (h2 : data.size ≤ 100) :
    Calls Try.prog 89 #[.string old, .string data] w fun e w' => e = .returned (.string (tearOf old data)) ∧ Below w.heap.size w w' := by
  by_cases h : old.size ≤ data.size / 2
  · have HF : Hid (tearOf old data = data.extract 0 (data.size / 2)) := Lib.hid (by unfold tearOf; rw [if_pos h])
    go_enter Try.func89, Try.ntmps89
    go_wp2
    go_ret
    exact ⟨by rw [HF.out]; rfl, Below.refl _ _⟩
  · have HF : Hid (tearOf old data = data.extract 0 (data.size / 2) ++ old.extract (data.size / 2) old.size) := Lib.hid (by unfold tearOf; rw [if_neg h])
    go_enter Try.func89, Try.ntmps89
    go_wp2
    go_quiet (fail)
    go_wp2
    go_ret
    exact ⟨by rw [HF.out]; rfl, below_drewN (Below.refl _ _) _⟩

def stepF (fates : List Int) (k : Nat) (ss : List ByteArray) (x : Int × ByteArray) : List ByteArray :=
  if fateAt fates k = 1 then ss.set x.1.toNat x.2 else if fateAt fates k = 2 then ss.set x.1.toNat (tearOf (ss.getD x.1.toNat ByteArray.empty) x.2) else ss
def settleN (ss : List ByteArray) (ws : List (Int × ByteArray)) (fates : List Int) : Nat → List ByteArray
  | 0 => ss
  | k + 1 => stepF fates k (settleN ss ws fates k) (ws.getD k (0, ByteArray.empty))

theorem stepF_len (fates : List Int) (k : Nat) (ss : List ByteArray) (x : Int × ByteArray) : (stepF fates k ss x).length = ss.length := by
  unfold stepF; split
  · simp
  · split <;> simp
theorem settleN_len (ss : List ByteArray) (ws : List (Int × ByteArray)) (fates : List Int) (k : Nat) : (settleN ss ws fates k).length = ss.length := by
  induction k with
  | zero => rfl
  | succ k ih => rw [settleN, stepF_len, ih]
theorem extract_size (s : ByteArray) (a b : Nat) : (s.extract a b).size = min b s.size - a := by simp [ByteArray.size_extract]
theorem tearOf_size (old data : ByteArray) (h1 : old.size ≤ 100) (h2 : data.size ≤ 100) : (tearOf old data).size ≤ 100 := by
  unfold tearOf
  split
  · rw [extract_size]; omega
  · rw [ByteArray.size_append, extract_size, extract_size]; omega
theorem stepF_small (fates : List Int) (k : Nat) (ss : List ByteArray) (x : Int × ByteArray) (h : ∀ s ∈ ss, s.size ≤ 100) (hx : x.2.size ≤ 100) : ∀ s ∈ stepF fates k ss x, s.size ≤ 100 := by
  intro s hs
  unfold stepF at hs
  have hg : (ss.getD x.1.toNat ByteArray.empty).size ≤ 100 := by
    rw [List.getD_eq_getElem?_getD]
    rcases Nat.lt_or_ge x.1.toNat ss.length with hlt | hge
    · rw [List.getElem?_eq_getElem hlt]; exact h _ (List.getElem_mem _)
    · rw [List.getElem?_eq_none hge]; exact Nat.zero_le _
  split at hs
  · rcases List.mem_or_eq_of_mem_set hs with h1 | h1
    · exact h s h1
    · rw [h1]; exact hx
  · split at hs
    · rcases List.mem_or_eq_of_mem_set hs with h1 | h1
      · exact h s h1
      · rw [h1]; exact tearOf_size _ _ hg hx
    · exact h s hs
theorem settleN_small (ss : List ByteArray) (ws : List (Int × ByteArray)) (fates : List Int) (h : ∀ s ∈ ss, s.size ≤ 100) (hw : ∀ x ∈ ws, x.2.size ≤ 100) (k : Nat) (hk : k ≤ ws.length) : ∀ s ∈ settleN ss ws fates k, s.size ≤ 100 := by
  induction k with
  | zero => exact h
  | succ k ih =>
    rw [settleN]
    refine stepF_small fates k _ _ (ih (by omega)) (hw _ ?_)
    rw [List.getD_eq_getElem?_getD, List.getElem?_eq_getElem (by omega)]; exact List.getElem_mem _
theorem getD_set (l : List ByteArray) (p j : Nat) (x : ByteArray) (h : p < l.length) : (l.set p x).getD j ByteArray.empty = if j = p then x else l.getD j ByteArray.empty := by
  simp only [List.getD_eq_getElem?_getD, List.getElem?_set]
  by_cases e : j = p
  · subst e; rw [if_pos rfl, if_pos rfl, if_pos h]; rfl
  · rw [if_neg (fun h => e h.symm), if_neg e]
theorem row_set {w : World} {b p : Nat} {t : TypeId} {n : Nat} {l : List ByteArray} {x : ByteArray} (h : w.rowIs b t n (fun i => .string (l.getD i ByteArray.empty))) (hp : p < l.length) : (w.setCell ⟨b, p, none⟩ (.string x)).rowIs b t n (fun i => .string ((l.set p x).getD i ByteArray.empty)) :=
  (h.set p (.string x)).congr (fun j _ => by
    rw [getD_set l p j x hp]
    by_cases e : j = p
    · rw [if_pos e, if_pos e]
    · rw [if_neg e, if_neg e])
theorem getD_small {l : List ByteArray} (h : ∀ s ∈ l, s.size ≤ 100) (p : Nat) : (l.getD p ByteArray.empty).size ≤ 100 := by
  rw [List.getD_eq_getElem?_getD]
  rcases Nat.lt_or_ge p l.length with hlt | hge
  · rw [List.getElem?_eq_getElem hlt]; exact h _ (List.getElem_mem _)
  · rw [List.getElem?_eq_none hge]; exact Nat.zero_le _

structure Ok (ss : List ByteArray) (ws : List (Int × ByteArray)) : Prop where
  n48 : ss.length = 48
  m60 : ws.length ≤ 60
  small : ∀ s ∈ ss, s.size ≤ 100
  smallW : ∀ x ∈ ws, x.2.size ≤ 100
  at_ : ∀ x ∈ ws, 0 ≤ x.1 ∧ x.1 ≤ 47
theorem ok_of {ss : List ByteArray} {ws : List (Int × ByteArray)} (h : okDisk ss ws = true) : Ok ss ws := by
  unfold okDisk at h
  simp only [Bool.and_eq_true, decide_eq_true_eq, List.all_eq_true] at h
  obtain ⟨⟨h1, h2⟩, h3, h4⟩ := h
  refine ⟨h1, h2, fun s hs => ?_, fun x hx => ?_, fun x hx => ?_⟩
  · have := h3 s hs; unfold okSt at this; simpa using this
  · have := h4 x hx; unfold okWr at this; simp at this; exact this.2
  · have := h4 x hx; unfold okWr at this; simp at this; exact secB_range this.1

set_option maxRecDepth 100000 in
set_option maxHeartbeats 4000000 in
theorem settle (A C F : Option Addr) (n c m d nf cf : Nat) (ss : List ByteArray) (ws : List (Int × ByteArray)) (fs : List Int) (w : World) (hl : ss.length = n) (hm : ws.length = m) (hf : fs.length = nf) (hnf : nf ≤ maxLen) (h : StrL w A ss) (g : WrL w C ws) (i : IntL w F fs) (ok : Ok ss ws) :
    Calls Try.prog 73 #[.agg #[.slice A n c, .slice C m d], .slice F nf cf] w (GivesDisk (settleN ss ws fs m) [] w) := by
  have HL := Lib.hid hl
  have HM := Lib.hid hm
  have HSec := Lib.hid (fun W (hb : Below w.heap.size w W) => sectors A C n c m d ss W hl (by have := ok.n48; omega) (h.below hb))
  have HFt := Lib.hid (fun j W (hj : j ≤ 1048576) (hb : Below w.heap.size w W) => fateOf F nf cf fs j W hf hnf hj (i.below hb))
  have G := Lib.hid g
  have OK := Lib.hid ok
  have hm60 : m ≤ 60 := by have := ok.m60; omega
  have hn48 : n ≤ 48 := by have := ok.n48; omega
  clear hl hm hf hnf h g i ok
  go_enter Try.func73, Try.ntmps73
  go_wp2_with fail
  obtain ⟨W0, hW0⟩ : ∃ W0, W0 = ((w.alloc (.cells #[.slice A n c, .slice C m d] 26)).alloc (.cells #[.slice none 0 0, .slice none 0 0] 26)) := ⟨_, rfl⟩
  have hb0 : Below w.heap.size w W0 := by rw [hW0]; exact ((Below.refl _ _).alloc (Nat.le_refl _) _).alloc (by simp) _
  have hs0 : W0.heap.size = w.heap.size + 1 + 1 := by rw [hW0]; simp
  have X0 : Box W0 w.heap.size 26 #[.slice A n c, .slice C m d] := by rw [hW0]; exact (Box.new _ _ _).alloc _
  have Y0 : Box W0 (w.heap.size + 1) 26 #[.slice none 0 0, .slice none 0 0] := by rw [hW0]; simpa using Box.new (w.alloc (.cells #[.slice A n c, .slice C m d] 26)) 26 #[.slice none 0 0, .slice none 0 0]
  rw [← hW0]
  clear hW0
  refine (HSec.out W0 hb0).mono ?_
  rintro e w1 ⟨rfl, hb1, HR1⟩
  have X1 := X0.step hb1
  have Y1 := Lib.hid (Y0.step hb1)
  have hb1' := bt hb0 hb1
  have HB : Hid (w.heap.size + 1 < W0.heap.size + 1) := Lib.hid (by omega)
  have f1 : w1.cell? ⟨w.heap.size, 1, none⟩ = some (.slice C m d) := X1.cell 1 rfl
  clear X0 Y0 X1 hb0 hb1 hs0
  generalize W0.heap.size + 1 = b at HR1 HB ⊢
  go_wp2
  clear f1
  go_loopw [13] (fun q wr => ∃ k : Nat, k ≤ m ∧ q = .int .i64 k ∧ Below w.heap.size w wr ∧ Hid (wr.rowIs b 9 n (fun j => .string ((settleN ss ws fs k).getD j ByteArray.empty))) ∧ Hid (Box wr (w.heap.size + 1) 26 #[.slice none 0 0, .slice none 0 0])) (fun q _ => m - (intOf q).toNat)
  case atStart => exact ⟨0, Nat.zero_le _, rfl, hb1', HR1, Y1⟩
  case round =>
    obtain ⟨k, hk, rfl, hbw, HR, HY⟩ := hrel
    by_cases hlt : k < m
    · obtain ⟨b2, off, rfl, hc, hd⟩ := (G.out.below hbw) k (by rw [HM.out]; exact hlt)
      have hmem : ws.getD k (0, ByteArray.empty) ∈ ws := by rw [List.getD_eq_getElem?_getD, List.getElem?_eq_getElem (by rw [HM.out]; exact hlt)]; exact List.getElem_mem _
      have hat := OK.out.at_ _ hmem
      have hsz := OK.out.smallW _ hmem
      have HK : Hid (settleN ss ws fs (k + 1) = stepF fs k (settleN ss ws fs k) (ws.getD k (0, ByteArray.empty))) := Lib.hid rfl
      have hsm := settleN_small ss ws fs OK.out.small OK.out.smallW k (by rw [HM.out]; omega)
      have HLen : Hid ((settleN ss ws fs k).length = n) := Lib.hid (by rw [settleN_len, HL.out])
      generalize ws.getD k (0, ByteArray.empty) = x at hc hd hat hsz HK hmem
      obtain ⟨x1, x2⟩ := x
      simp only at hc hd hat hsz
      obtain ⟨p, rfl⟩ : ∃ p : Nat, x1 = p := ⟨x1.toNat, by omega⟩
      have hpn : p < n := by have := OK.out.n48; have := HL.out; omega
      have hpi : (p : Int) < (n : Int) := by omega
      have hold := getD_small hsm p
      generalize settleN ss ws fs k = cur at HR HK hsm HLen hold
      have hi : (k : Int) < (m : Int) := by omega
      have hk1 : k ≤ 1048576 := by omega
      have hba : Below w.heap.size w (wr.alloc (.cells #[.int .i64 (p : Int), .string x2] 67)) := hbw.alloc hbw.size _
      have HFk := Lib.hid (HFt.out k _ hk1 hba)
      have HRa := Lib.hid (HR.out.alloc (.cells #[.int .i64 (p : Int), .string x2] 67))
      have HYa := Lib.hid (HY.out.alloc (.cells #[.int .i64 (p : Int), .string x2] 67))
      have HXa := Lib.hid (Box.new wr 67 #[.int .i64 (p : Int), .string x2])
      clear hmem hat hsm
      go_wp2_with fail
      refine HFk.out.mono ?_
      rintro e w2 ⟨rfl, rfl⟩
      generalize hfate : fateAt fs k = ft
      have HFT := Lib.hid hfate
      clear hfate
      clear HFk HR HY
      by_cases e1 : ft = 1
      · have hq : (ft == 1) = true := by simp [e1]
        have HN : Hid (settleN ss ws fs (k + 1) = cur.set p x2) := Lib.hid (by rw [HK.out]; unfold stepF; rw [HFT.out, if_pos e1]; rfl)
        clear e1
        have hcd := HRa.out.cell hpn
        have hfr := HRa.out.frozen p
        have HS := Lib.hid (row_set (x := x2) HRa.out (by rw [HLen.out]; exact hpn))
        have HYs := Lib.hid (HYa.out.far (p := ⟨b, p, none⟩) (by show w.heap.size + 1 ≠ b; have := HB.out; omega) (.string x2))
        have HBs := Lib.hid (hba.setCell (p := ⟨b, p, none⟩) (by show w.heap.size ≤ b; have := HB.out; omega) (.string x2))
        generalize cur.getD p ByteArray.empty = y at hcd
        go_wp2
        go_roundw
        case rel => exact ⟨k + 1, by omega, by go_num, HBs.out, by rw [HN.out]; exact HS, HYs⟩
        case measure => simp [intOf]; omega
      · have hq : (ft == 1) = false := by simp [e1]
        by_cases e2 : ft = 2
        · have hq2 : (ft == 2) = true := by simp [e2]
          have HN : Hid (settleN ss ws fs (k + 1) = cur.set p (tearOf (cur.getD p ByteArray.empty) x2)) := Lib.hid (by rw [HK.out]; unfold stepF; rw [HFT.out, if_neg e1, if_pos e2]; rfl)
          clear e1 e2
          have hcd : (wr.alloc (.cells #[.int .i64 (p : Int), .string x2] 67)).cell? ⟨b, p, none⟩ = some (.string (cur.getD p ByteArray.empty)) := HRa.out.cell hpn
          have g0 : (wr.alloc (.cells #[.int .i64 (p : Int), .string x2] 67)).cell? ⟨wr.heap.size, 0, none⟩ = some (.int .i64 (p : Int)) := HXa.out.cell 0 rfl
          have g1 : (wr.alloc (.cells #[.int .i64 (p : Int), .string x2] 67)).cell? ⟨wr.heap.size, 1, none⟩ = some (.string x2) := HXa.out.cell 1 rfl
          have HTe := Lib.hid (fun W => tear (cur.getD p ByteArray.empty) x2 W hold hsz)
          generalize tearOf (cur.getD p ByteArray.empty) x2 = t at HTe HN
          generalize cur.getD p ByteArray.empty = y at hcd HTe hold
          go_wp2_with fail
          generalize wr.alloc (.cells #[.int .i64 (p : Int), .string x2] 67) = wa at hba HRa HYa HXa hcd g0 g1 ⊢
          have HKp := Lib.hid (fun W (hb : Below wa.heap.size wa W) => And.intro ((hb.cell (cell_lt g0)).trans g0) (And.intro ((hb.cell (cell_lt hcd)).trans hcd) ((hb.frozen (p := ⟨b, p, none⟩) (cell_lt hcd)).trans (HRa.out.frozen p))))
          have h6 : Below wa.heap.size wa wa.drew := (Below.refl _ _).drew
          go_region_with (go_at_call 89; refine (HTe.out _).mono ?_; rintro e w3 ⟨rfl, hb3⟩; have k3 : Below wa.heap.size wa w3 := bt h6 hb3; have z0 := (HKp.out w3 k3).1; have z1 := (HKp.out w3 k3).2.1; have z2 := (HKp.out w3 k3).2.2)
          all_goals
            have HS := Lib.hid (row_set (x := t) (row_below k3 HRa.out HRa.out.lt) (by rw [HLen.out]; exact hpn))
            have HYs := Lib.hid ((HYa.out.step k3).far (p := ⟨b, p, none⟩) (by show w.heap.size + 1 ≠ b; have := HB.out; omega) (.string t))
            have HBs := Lib.hid ((bt hba k3).setCell (p := ⟨b, p, none⟩) (by show w.heap.size ≤ b; have := HB.out; omega) (.string t))
            clear z0 z1 z2 k3 hb3 h6 HKp g0 g1 hcd HRa HYa HXa hba HTe
            go_wp2
            go_roundw
            case rel => exact ⟨k + 1, by omega, by go_num, HBs.out, by rw [HN.out]; exact HS, HYs⟩
            case measure => simp [intOf]; omega
        · have hq2 : (ft == 2) = false := by simp [e2]
          have HN : Hid (settleN ss ws fs (k + 1) = cur) := Lib.hid (by rw [HK.out]; unfold stepF; rw [HFT.out, if_neg e1, if_neg e2])
          clear e1 e2
          go_wp2
          go_roundw
          case rel => exact ⟨k + 1, by omega, by go_num, hba, by rw [HN.out]; exact HRa, HYa⟩
          case measure => simp [intOf]; omega
    · have g0 := HY.out.cell 0 rfl
      have g1 := HY.out.cell 1 rfl
      have g2 := HY.out.frozen 0
      have g3 := HY.out.frozen 1
      go_wp2
      have ek : k = m := by omega
      subst ek
      refine bodyPost_ret (v := .agg #[.slice (some ⟨b, 0, none⟩) n n, .slice none 0 0]) (by simp [results, Try.results73, go_sem, g0, g1]) rfl ?_
      have hne : b ≠ w.heap.size + 1 := by have := HB.out; omega
      refine ⟨_, _, _, _, _, _, rfl, Lib.hid (by rw [settleN_len, HL.out]), Lib.hid rfl, Lib.hid ?_, Lib.hid (.inl rfl), (hbw.setCell (by show w.heap.size ≤ w.heap.size + 1; omega) _).setCell (by show w.heap.size ≤ w.heap.size + 1; omega) _⟩
      refine own_of_rowS (by rw [settleN_len, HL.out]) ((HR.out.setOther (a := ⟨w.heap.size + 1, 0, none⟩) hne _).setOther (a := ⟨w.heap.size + 1, 1, none⟩) hne _) (by have := HB.out; omega) ?_
      have := HR.out.lt
      simpa [World.setCell] using this
end Go.Proofs.Ytcchhbkbnbphhaa
