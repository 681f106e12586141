/- Texts of this claim, one behind the other: OkDisk, RootOk, Free, Digs, NumWalk, RootSpec, ReadExt, ReadRoot, ReadSpec, ReadDisk, Newest. -/
import Derived.IntWalk
import Derived.Deep.QuietTactic
import Derived.BigQuiet
import Derived.Deep.RegionLaw
import Derived.Deep.RegionHeld3
import Derived.Test.YtlfmniekbiffjaaM1
/- Contracts of the tests: isSector, l01In, a write's and a disk's valid, both DiskOK. -/
namespace Go.Proofs.Ytlfmniekbiffjaa
open Go.RowKit

def secB (n : Int) : Bool := decide (0 ≤ n ∧ n ≤ 47)
def okWr (x : Int × ByteArray) : Bool := secB x.1 && decide (x.2.size ≤ 100)
def okSt (s : ByteArray) : Bool := decide (s.size ≤ 100)
def okDisk (ss : List ByteArray) (ws : List (Int × ByteArray)) : Bool := (decide (ss.length = 48) && decide (ws.length ≤ 60)) && (ss.all okSt && ws.all okWr)

theorem all_step {α : Type} (p : α → Bool) (l : List α) (d : α) (k : Nat) (h : k < l.length) : (l.drop k).all p = (p (l.getD k d) && (l.drop (k + 1)).all p) := by
  rw [List.drop_eq_getElem_cons h, List.all_cons, List.getD_eq_getElem?_getD, List.getElem?_eq_getElem h]
  rfl
theorem all_end {α : Type} (p : α → Bool) (l : List α) (k : Nat) (h : l.length ≤ k) : (l.drop k).all p = true := by
  rw [List.drop_of_length_le h]; rfl

theorem secB_range {a : Int} (h : secB a = true) : 0 ≤ a ∧ a ≤ 47 := by unfold secB at h; simpa using h

set_option maxRecDepth 100000 in
theorem isSector (n : Int) (w : World) : Calls Try.prog 110 #[.int .i64 n] w fun e w' => e = .returned (.bool (secB n)) ∧ w = w' := by
  go_enter Try.func110, Try.ntmps110
  go_wp2
  all_goals go_ret
  all_goals (refine ⟨ret_bool ?_, rfl⟩)
  all_goals (unfold secB; rw [Bool.eq_iff_iff]; simp; try omega)
set_option maxRecDepth 100000 in
theorem l01In47 (n : Int) (w : World) : Calls Try.prog 40 #[.int .i64 n, .int .i64 0, .int .i64 47] w fun e w' => e = .returned (.bool (secB n)) ∧ w = w' := by
  go_enter Try.func40, Try.ntmps40
  go_wp2
  all_goals go_ret
  all_goals (refine ⟨ret_bool ?_, rfl⟩)
  all_goals (unfold secB; rw [Bool.eq_iff_iff]; simp; try omega)

set_option maxRecDepth 100000 in
theorem writeValid (a : Int) (s : ByteArray) (w : World) (hs : s.size ≤ maxLen) : Calls Try.prog 97 #[.agg #[.int .i64 a, .string s]] w fun e w' => e = .returned (.bool (okWr (a, s))) ∧ Below w.heap.size w w' := by
  unfold maxLen at hs
  by_cases h : secB a = true
  · go_enter Try.func97, Try.ntmps97
    go_wp2_with (first | (go_at_call 110; refine (isSector _ _).mono ?_; rintro e w' ⟨rfl, rfl⟩))
    all_goals go_ret
    all_goals (refine ⟨ret_bool ?_, (Below.refl _ _).alloc (Nat.le_refl _) _⟩)
    all_goals (unfold okWr; rw [Bool.eq_iff_iff]; simp [h]; try omega)
  · have h' : secB a = false := by simpa using h
    clear h
    go_enter Try.func97, Try.ntmps97
    go_wp2_with (first | (go_at_call 110; refine (isSector _ _).mono ?_; rintro e w' ⟨rfl, rfl⟩))
    all_goals go_ret
    all_goals (refine ⟨ret_bool ?_, (Below.refl _ _).alloc (Nat.le_refl _) _⟩)
    all_goals (unfold okWr; simp [h'])

theorem okDisk_no1 (ss : List ByteArray) (ws : List (Int × ByteArray)) (h : ss.length ≠ 48) : okDisk ss ws = false := by unfold okDisk; simp [h]
theorem okDisk_no2 (ss : List ByteArray) (ws : List (Int × ByteArray)) (h : 60 < ws.length) : okDisk ss ws = false := by
  unfold okDisk
  have : decide (ws.length ≤ 60) = false := by simp; omega
  rw [this]; simp
theorem okDisk_yes (ss : List ByteArray) (ws : List (Int × ByteArray)) (h : ss.length = 48) (h2 : ws.length ≤ 60) : okDisk ss ws = (ss.all okSt && ws.all okWr) := by
  unfold okDisk; simp [h, h2]

/-- Each string of the disk is of a size that strings have. -/
def FitS (ss : List ByteArray) : Prop := ∀ s ∈ ss, s.size ≤ maxLen
def FitW (ws : List (Int × ByteArray)) : Prop := ∀ x ∈ ws, x.2.size ≤ maxLen
theorem FitS.at_ {ss : List ByteArray} (h : FitS ss) (k : Nat) (hk : k < ss.length) : (ss.getD k ByteArray.empty).size ≤ maxLen := h _ (by rw [List.getD_eq_getElem?_getD, List.getElem?_eq_getElem hk]; exact List.getElem_mem _)
theorem FitW.at_ {ws : List (Int × ByteArray)} (h : FitW ws) (k : Nat) (hk : k < ws.length) : (ws.getD k (0, ByteArray.empty)).2.size ≤ maxLen := h _ (by rw [List.getD_eq_getElem?_getD, List.getElem?_eq_getElem hk]; exact List.getElem_mem _)

set_option maxRecDepth 100000 in
set_option maxHeartbeats 2000000 in
theorem diskValid (A C : Option Addr) (n c m d : Nat) (ss : List ByteArray) (ws : List (Int × ByteArray)) (w : World) (hl : ss.length = n) (hm : ws.length = m) (hn : n ≤ maxLen) (hmm : m ≤ maxLen) (h : StrL w A ss) (g : WrL w C ws) (fs : FitS ss) (fw : FitW ws) :
    Calls Try.prog 61 #[.agg #[.slice A n c, .slice C m d]] w fun e w' => e = .returned (.bool (okDisk ss ws)) ∧ Below w.heap.size w w' := by
  unfold maxLen at hn hmm
  have HL := Lib.hid hl
  have HM := Lib.hid hm
  have H := Lib.hid h
  have G := Lib.hid g
  have FS := Lib.hid fs
  have FW := Lib.hid fw
  clear hl hm h g fs fw
  by_cases h48 : n = 48
  · by_cases h60 : m ≤ 60
    · have hb : ((n : Int) != 48) = false := by simp; omega
      have hb2 : decide ((60 : Int) < (m : Int)) = false := by simp; omega
      have HY := Lib.hid (okDisk_yes ss ws (by rw [HL.out]; exact h48) (by rw [HM.out]; exact h60))
      have HN := Lib.hid h48
      clear h48
      go_enter Try.func61, Try.ntmps61
      go_wp2
      go_loop [20] (fun i => ∃ k : Nat, k ≤ n ∧ i = .int .i64 k ∧ Hid (ss.all okSt = (ss.drop k).all okSt)) (fun i => n - (intOf i).toNat)
      case atStart => exact ⟨0, Nat.zero_le _, rfl, Lib.hid rfl⟩
      case round =>
        obtain ⟨k, hk, rfl, HT⟩ := hrel
        by_cases hlt : k < n
        · obtain ⟨b, off, rfl, hc⟩ := (H.out.below ((Below.refl _ _).alloc (Nat.le_refl _) (.cells #[.slice A n c, .slice C m d] 30))) k (by rw [HL.out]; exact hlt)
          have hx := FS.out.at_ k (by rw [HL.out]; exact hlt)
          have HS := Lib.hid (all_step okSt ss ByteArray.empty k (by rw [HL.out]; exact hlt))
          generalize ss.getD k ByteArray.empty = x at hc hx HS
          unfold maxLen at hx
          have hi : (k : Int) < (n : Int) := by omega
          by_cases hE : x.size ≤ 100
          · have hE' : ¬ (100 : Int) < (x.size : Int) := by omega
            go_wp2
            go_round
            case rel => exact ⟨k + 1, by omega, by go_num, Lib.hid (by rw [HT.out, HS.out]; simp [okSt, hE])⟩
            case measure => simp [intOf]; omega
          · have hE' : (100 : Int) < (x.size : Int) := by omega
            go_wp2
            go_ret
            exact ⟨ret_bool (by rw [HY.out, HT.out, HS.out]; simp [okSt, hE]), (Below.refl _ _).alloc (Nat.le_refl _) _⟩
        · have HT2 : Hid (ss.all okSt = true) := Lib.hid (by rw [HT.out]; exact all_end _ _ _ (by rw [HL.out]; omega))
          go_wp2
          go_loopw [31] (fun i wr => ∃ k : Nat, k ≤ m ∧ i = .int .i64 k ∧ Hid (ws.all okWr = (ws.drop k).all okWr) ∧ Below w.heap.size w wr) (fun i _ => m - (intOf i).toNat)
          case atStart => exact ⟨0, Nat.zero_le _, rfl, Lib.hid rfl, (Below.refl _ _).alloc (Nat.le_refl _) _⟩
          case round =>
            obtain ⟨j, hj, rfl, HU, hbw⟩ := hrel
            by_cases hjt : j < m
            · obtain ⟨b, off, rfl, hc, hd⟩ := (G.out.below hbw) j (by rw [HM.out]; exact hjt)
              have hx := FW.out.at_ j (by rw [HM.out]; exact hjt)
              have HS := Lib.hid (all_step okWr ws (0, ByteArray.empty) j (by rw [HM.out]; exact hjt))
              generalize ws.getD j (0, ByteArray.empty) = x at hc hd hx HS
              obtain ⟨x1, x2⟩ := x
              simp only at hx hc hd
              have hi : (j : Int) < (m : Int) := by omega
              have HC := Lib.hid (fun W => writeValid x1 x2 W hx)
              clear hx
              go_wp2_with fail
              refine (HC.out _).mono ?_
              rintro e w1 ⟨rfl, hb1⟩
              have hb3 : Below w.heap.size w w1 := bt (hbw.alloc hbw.size _) hb1
              by_cases hE : okWr (x1, x2) = true
              · rw [hE]
                have HE := Lib.hid hE
                clear hE
                go_wp2
                go_roundw
                case rel => exact ⟨j + 1, by omega, by go_num, Lib.hid (by rw [HU.out, HS.out, HE.out]; rfl), hb3⟩
                case measure => simp [intOf]; omega
              · have hE' : okWr (x1, x2) = false := by simpa using hE
                rw [hE']
                have HE := Lib.hid hE'
                clear hE hE'
                go_wp2
                go_ret
                exact ⟨ret_bool (by rw [HY.out, HT2.out, HU.out, HS.out, HE.out]; rfl), hb3⟩
            · have hU2 : Hid (ws.all okWr = true) := Lib.hid (by rw [HU.out]; exact all_end _ _ _ (by rw [HM.out]; omega))
              go_wp2
              go_ret
              exact ⟨ret_bool (by rw [HY.out, HT2.out, hU2.out]; rfl), hbw⟩
    · have hb : ((n : Int) != 48) = false := by simp; omega
      have hb2 : (60 : Int) < (m : Int) := by omega
      have HF := Lib.hid (okDisk_no2 ss ws (by rw [HM.out]; omega))
      clear h48
      go_enter Try.func61, Try.ntmps61
      go_wp2
      go_ret
      exact ⟨ret_bool HF.out.symm, (Below.refl _ _).alloc (Nat.le_refl _) _⟩
  · have hb : ((n : Int) != 48) = true := by simp; omega
    have HF := Lib.hid (okDisk_no1 ss ws (by rw [HL.out]; exact h48))
    clear h48
    go_enter Try.func61, Try.ntmps61
    go_wp2
    go_ret
    exact ⟨ret_bool HF.out.symm, (Below.refl _ _).alloc (Nat.le_refl _) _⟩

set_option maxRecDepth 100000 in
theorem implDiskOK (A C : Option Addr) (n c m d : Nat) (ss : List ByteArray) (ws : List (Int × ByteArray)) (w : World) (hl : ss.length = n) (hm : ws.length = m) (hn : n ≤ maxLen) (hmm : m ≤ maxLen) (h : StrL w A ss) (g : WrL w C ws) (fs : FitS ss) (fw : FitW ws) :
    Calls Try.prog 31 #[.agg #[.slice A n c, .slice C m d]] w fun e w' => e = .returned (.bool (okDisk ss ws)) ∧ Below w.heap.size w w' := by
  have hb0 : Below w.heap.size w (w.alloc (.cells #[.slice A n c, .slice C m d] 30)) := (Below.refl _ _).alloc (Nat.le_refl _) _
  have HC := Lib.hid (diskValid A C n c m d ss ws _ hl hm hn hmm (h.below hb0) (g.below hb0) fs fw)
  clear hl hm hn hmm h g fs fw
  go_enter Try.func31, Try.ntmps31
  go_wp2_with fail
  refine HC.out.mono ?_
  rintro e w1 ⟨rfl, hb1⟩
  go_wp2
  go_ret
  exact ⟨rfl, bt hb0 hb1⟩

set_option maxRecDepth 100000 in
set_option maxHeartbeats 2000000 in
theorem specDiskOK (A C : Option Addr) (n c m d : Nat) (ss : List ByteArray) (ws : List (Int × ByteArray)) (w : World) (hl : ss.length = n) (hm : ws.length = m) (hn : n ≤ maxLen) (hmm : m ≤ maxLen) (h : StrL w A ss) (g : WrL w C ws) (fs : FitS ss) (fw : FitW ws) :
    Calls Try.prog 67 #[.agg #[.slice A n c, .slice C m d]] w fun e w' => e = .returned (.bool (okDisk ss ws)) ∧ Below w.heap.size w w' := by
  unfold maxLen at hn hmm
  have HL := Lib.hid hl
  have HM := Lib.hid hm
  have H := Lib.hid h
  have G := Lib.hid g
  have FS := Lib.hid fs
  have FW := Lib.hid fw
  clear hl hm h g fs fw
  by_cases h48 : n = 48
  · by_cases h60 : m ≤ 60
    · have hb : ((n : Int) != 48) = false := by simp; omega
      have hb2 : decide ((60 : Int) < (m : Int)) = false := by simp; omega
      have HY := Lib.hid (okDisk_yes ss ws (by rw [HL.out]; exact h48) (by rw [HM.out]; exact h60))
      clear h48
      go_enter Try.func67, Try.ntmps67
      go_wp2
      go_loop [3] (fun i => ∃ k : Nat, k ≤ n ∧ i = .int .i64 k ∧ Hid (ss.all okSt = (ss.drop k).all okSt)) (fun i => n - (intOf i).toNat)
      case atStart => exact ⟨0, Nat.zero_le _, rfl, Lib.hid rfl⟩
      case round =>
        obtain ⟨k, hk, rfl, HT⟩ := hrel
        by_cases hlt : k < n
        · obtain ⟨b, off, rfl, hc⟩ := (H.out.below ((Below.refl _ _).alloc (Nat.le_refl _) (.cells #[.slice A n c, .slice C m d] 30))) k (by rw [HL.out]; exact hlt)
          have hx := FS.out.at_ k (by rw [HL.out]; exact hlt)
          have HS := Lib.hid (all_step okSt ss ByteArray.empty k (by rw [HL.out]; exact hlt))
          generalize ss.getD k ByteArray.empty = x at hc hx HS
          unfold maxLen at hx
          have hi : (k : Int) < (n : Int) := by omega
          by_cases hE : x.size ≤ 100
          · have hE' : ¬ (100 : Int) < (x.size : Int) := by omega
            go_wp2
            go_round
            case rel => exact ⟨k + 1, by omega, by go_num, Lib.hid (by rw [HT.out, HS.out]; simp [okSt, hE])⟩
            case measure => simp [intOf]; omega
          · have hE' : (100 : Int) < (x.size : Int) := by omega
            go_wp2
            go_ret
            exact ⟨ret_bool (by rw [HY.out, HT.out, HS.out]; simp [okSt, hE]), (Below.refl _ _).alloc (Nat.le_refl _) _⟩
        · have HT2 : Hid (ss.all okSt = true) := Lib.hid (by rw [HT.out]; exact all_end _ _ _ (by rw [HL.out]; omega))
          go_wp2
          go_loop [4] (fun i => ∃ k : Nat, k ≤ m ∧ i = .int .i64 k ∧ Hid (ws.all okWr = (ws.drop k).all okWr)) (fun i => m - (intOf i).toNat)
          case atStart => exact ⟨0, Nat.zero_le _, rfl, Lib.hid rfl⟩
          case round =>
            obtain ⟨j, hj, rfl, HU⟩ := hrel
            by_cases hjt : j < m
            · obtain ⟨b, off, rfl, hc, hd⟩ := (G.out.below ((Below.refl _ _).alloc (Nat.le_refl _) (.cells #[.slice A n c, .slice C m d] 30))) j (by rw [HM.out]; exact hjt)
              have hx := FW.out.at_ j (by rw [HM.out]; exact hjt)
              have HS := Lib.hid (all_step okWr ws (0, ByteArray.empty) j (by rw [HM.out]; exact hjt))
              generalize ws.getD j (0, ByteArray.empty) = x at hc hd hx HS
              obtain ⟨x1, x2⟩ := x
              simp only at hx hc hd
              unfold maxLen at hx
              have hi : (j : Int) < (m : Int) := by omega
              have HC := Lib.hid (fun W => l01In47 x1 W)
              by_cases hs1 : secB x1 = true
              · by_cases hs2 : x2.size ≤ 100
                · have hE' : decide ((100 : Int) < (x2.size : Int)) = false := by simp; omega
                  have HE : Hid (okWr (x1, x2) = true) := Lib.hid (by simp [okWr, hs1, hs2])
                  go_wp2_with (first | (go_at_call 40; refine (HC.out _).mono ?_; rintro e w' ⟨rfl, rfl⟩))
                  go_round
                  case rel => exact ⟨j + 1, by omega, by go_num, Lib.hid (by rw [HU.out, HS.out, HE.out]; rfl)⟩
                  case measure => simp [intOf]; omega
                · have hE' : (100 : Int) < (x2.size : Int) := by omega
                  have HE : Hid (okWr (x1, x2) = false) := Lib.hid (by simp [okWr, hs2])
                  go_wp2_with (first | (go_at_call 40; refine (HC.out _).mono ?_; rintro e w' ⟨rfl, rfl⟩))
                  go_ret
                  exact ⟨ret_bool (by rw [HY.out, HT2.out, HU.out, HS.out, HE.out]; rfl), (Below.refl _ _).alloc (Nat.le_refl _) _⟩
              · have hs1' : secB x1 = false := by simpa using hs1
                clear hs1
                have HE : Hid (okWr (x1, x2) = false) := Lib.hid (by simp [okWr, hs1'])
                go_wp2_with (first | (go_at_call 40; refine (HC.out _).mono ?_; rintro e w' ⟨rfl, rfl⟩))
                go_ret
                exact ⟨ret_bool (by rw [HY.out, HT2.out, HU.out, HS.out, HE.out]; rfl), (Below.refl _ _).alloc (Nat.le_refl _) _⟩
            · have hU2 : Hid (ws.all okWr = true) := Lib.hid (by rw [HU.out]; exact all_end _ _ _ (by rw [HM.out]; omega))
              go_wp2
              go_ret
              exact ⟨ret_bool (by rw [HY.out, HT2.out, hU2.out]; rfl), (Below.refl _ _).alloc (Nat.le_refl _) _⟩
    · have hb : ((n : Int) != 48) = false := by simp; omega
      have hb2 : (60 : Int) < (m : Int) := by omega
      have HF := Lib.hid (okDisk_no2 ss ws (by rw [HM.out]; omega))
      clear h48
      go_enter Try.func67, Try.ntmps67
      go_wp2
      go_ret
      exact ⟨ret_bool HF.out.symm, (Below.refl _ _).alloc (Nat.le_refl _) _⟩
  · have hb : ((n : Int) != 48) = true := by simp; omega
    have HF := Lib.hid (okDisk_no1 ss ws (by rw [HL.out]; exact h48))
    clear h48
    go_enter Try.func67, Try.ntmps67
    go_wp2
    go_ret
    exact ⟨ret_bool HF.out.symm, (Below.refl _ _).alloc (Nat.le_refl _) _⟩
end Go.Proofs.Ytlfmniekbiffjaa

/- Contracts of both RootOK and of what they call. -/
namespace Go.Proofs.Ytlfmniekbiffjaa
open Go.RowKit

def pageB (z : Int) : Bool := decide (2 ≤ z ∧ z ≤ 47)
/-- Whether a root is valid. -/
def rootB (g : Int) (zs : List Int) : Bool := decide (1 ≤ g ∧ g ≤ 999999) && decide (zs.length = 17) && zs.all pageB && decide zs.Nodup

set_option maxRecDepth 100000 in
theorem isPage (z : Int) (w : World) : Calls Try.prog 119 #[.int .i64 z] w fun e w' => e = .returned (.bool (pageB z)) ∧ w = w' := by
  by_cases h1 : 2 ≤ z
  · by_cases h2 : z < 48
    · have HF : Hid (pageB z = true) := Lib.hid (by unfold pageB; simp; omega)
      go_enter Try.func119, Try.ntmps119
      go_wp2
      go_ret
      exact ⟨ret_bool (by rw [HF.out]), rfl⟩
    · have HF : Hid (pageB z = false) := Lib.hid (by unfold pageB; simp; omega)
      go_enter Try.func119, Try.ntmps119
      go_wp2
      go_ret
      exact ⟨ret_bool (by rw [HF.out]), rfl⟩
  · have HF : Hid (pageB z = false) := Lib.hid (by unfold pageB; simp; omega)
    go_enter Try.func119, Try.ntmps119
    go_wp2
    go_ret
    exact ⟨ret_bool (by rw [HF.out]), rfl⟩

def inB (lo hi z : Int) : Bool := decide (lo ≤ z ∧ z ≤ hi)
set_option maxRecDepth 100000 in
theorem l01InG (z lo hi : Int) (w : World) : Calls Try.prog 40 #[.int .i64 z, .int .i64 lo, .int .i64 hi] w fun e w' => e = .returned (.bool (inB lo hi z)) ∧ w = w' := by
  go_enter Try.func40, Try.ntmps40
  go_wp2
  all_goals go_ret
  all_goals (refine ⟨ret_bool ?_, rfl⟩)
  all_goals (unfold inB; rw [Bool.eq_iff_iff]; simp; try omega)

set_option maxRecDepth 100000 in
theorem l02Page (z : Int) (w : World) : Calls Try.prog 120 #[.int .i64 z] w fun e w' => e = .returned (.bool (pageB z)) ∧ w = w' := by
  have HC := Lib.hid (l01InG z 2 47)
  go_enter Try.func120, Try.ntmps120
  go_wp2_with fail
  refine (HC.out _).mono ?_
  rintro e w' ⟨rfl, rfl⟩
  generalize hq : inB 2 47 z = q
  have HQ := Lib.hid hq
  clear hq
  go_wp2
  go_ret
  exact ⟨ret_bool HQ.out.symm, rfl⟩

/-- The call hands back a set of its own. -/
def GivesSet (ks : List Int) (w : World) (e : Ending) (w' : World) : Prop := ∃ b, e = .returned (.map (some b)) ∧ w.heap.size ≤ b ∧ Hid (SetI w' b ks) ∧ Below w.heap.size w w'

set_option maxRecDepth 100000 in
set_option maxHeartbeats 1000000 in
theorem usedSectors (A : Option Addr) (n c : Nat) (zs : List Int) (w : World) (hl : zs.length = n) (hn : n ≤ maxLen) (h : IntL w A zs) :
    Calls Try.prog 100 #[.slice A n c] w (GivesSet (keysOf zs) w) := by
  unfold maxLen at hn
  have HL := Lib.hid hl
  have H := Lib.hid h
  have hmm := fun t w => run_makeMap (P := Try.prog) t w
  clear hl h
  go_enter Try.func100, Try.ntmps100
  go_wp2
  clear hmm
  have hb0 := alloc_below w (.map #[] 0)
  have hs0 := Lib.hid (SetI.made w)
  generalize w.alloc (.map #[] 0) = wa at hb0 hs0 ⊢
  go_loopw [9] (fun i wr => ∃ k : Nat, k ≤ n ∧ i = .int .i64 k ∧ Below w.heap.size w wr ∧ Hid (SetI wr w.heap.size (keysOf (zs.take k)))) (fun i _ => n - (intOf i).toNat)
  case atStart => exact ⟨0, Nat.zero_le _, rfl, hb0, hs0⟩
  case round =>
    obtain ⟨k, hk, rfl, hbw, HS⟩ := hrel
    by_cases hlt : k < n
    · obtain ⟨b, off, rfl, hc⟩ := (H.out.below hbw) k (by rw [HL.out]; exact hlt)
      have HK := Lib.hid (keysOf_step zs k (by rw [HL.out]; exact hlt))
      generalize zs.getD k 0 = z at hc HK
      have hi : (k : Int) < (n : Int) := by omega
      go_wp2_with (first | (at_mapUpdate; refine wpList_set_add _ rfl _ _ _ 119 rfl 3 4 Try.underlying119 Try.underlying3 w.heap.size (keysOf (zs.take k)) z rfl rfl rfl HS.out ?_; intro w1 hs1 hg1))
      go_roundw
      case rel => exact ⟨k + 1, by omega, by go_num, hbw.grown hg1 hbw.size (fun j hj => by cases hj; exact Nat.le_refl _), Lib.hid (by rw [HK.out]; exact hs1)⟩
      case measure => simp [intOf]; omega
    · go_wp2
      go_ret
      exact ⟨_, rfl, Nat.le_refl _, Lib.hid (by have := HS.out; rwa [List.take_of_length_le (by rw [HL.out]; omega)] at this), hbw⟩

theorem rootB_no {g : Int} {zs : List Int} (h : ¬ (1 ≤ g ∧ g ≤ 999999) ∨ zs.length ≠ 17) : rootB g zs = false := by
  unfold rootB
  rcases h with h | h
  · rw [show decide (1 ≤ g ∧ g ≤ 999999) = false by simpa using h]; rfl
  · rw [show decide (zs.length = 17) = false by simpa using h]; simp
theorem rootB_yes {g : Int} {zs : List Int} (h : 1 ≤ g ∧ g ≤ 999999) (h2 : zs.length = 17) : rootB g zs = (zs.all pageB && decide zs.Nodup) := by
  unfold rootB
  rw [show decide (1 ≤ g ∧ g ≤ 999999) = true by simpa using h, show decide (zs.length = 17) = true by simpa using h2]; simp
theorem nodup_len (zs : List Int) (h : zs.length = 17) : (((keysOf zs).length : Int) == 17) = decide zs.Nodup := by
  have := (keysOf_len zs).2
  rw [h] at this
  by_cases hn : zs.Nodup
  · have e := this.2 hn
    rw [e]; simp [hn]
  · have : (keysOf zs).length ≠ 17 := fun q => hn (this.1 q)
    simp [hn]; omega

set_option maxRecDepth 100000 in
set_option maxHeartbeats 1000000 in
theorem rootValid (g : Int) (A : Option Addr) (n c : Nat) (zs : List Int) (w : World) (hl : zs.length = n) (hn : n ≤ maxLen) (h : IntL w A zs) :
    Calls Try.prog 113 #[.agg #[.int .i64 g, .slice A n c]] w fun e w' => e = .returned (.bool (rootB g zs)) ∧ Below w.heap.size w w' := by
  have hb0 := alloc_below w (.cells #[.int .i64 g, .slice A n c] 49)
  by_cases h1 : 1 ≤ g ∧ g ≤ 999999
  · by_cases h2 : n = 17
    · obtain ⟨g1, g2⟩ := h1
      have HV := Lib.hid (rootB_yes (zs := zs) ⟨g1, g2⟩ (hl.trans h2))
      have HU := Lib.hid (usedSectors A n c zs _ hl hn (h.below hb0))
      have HN := Lib.hid (nodup_len zs (hl.trans h2))
      have HL := Lib.hid hl
      have H := Lib.hid (h.below hb0)
      have X := Box.new w 49 #[.int .i64 g, .slice A n c]
      have f1 := X.cell 1 rfl
      have q1 : ¬ g < 1 := by omega
      have q2 : ¬ 999999 < g := by omega
      have q3 : ((n : Int) != 17) = false := by rw [h2]; rfl
      have q4 : n ≤ 17 := by omega
      clear h hl hn h2
      go_enter Try.func113, Try.ntmps113
      go_wp2
      go_loop [22] (fun i => ∃ k : Nat, k ≤ n ∧ i = .int .i64 k ∧ Hid (zs.all pageB = (zs.drop k).all pageB)) (fun i => n - (intOf i).toNat)
      case atStart => exact ⟨0, Nat.zero_le _, rfl, Lib.hid rfl⟩
      case round =>
        obtain ⟨k, hk, rfl, HT⟩ := hrel
        by_cases hlt : k < n
        · obtain ⟨b, off, rfl, hc⟩ := H.out k (by rw [HL.out]; exact hlt)
          have HS := Lib.hid (all_step pageB zs 0 k (by rw [HL.out]; exact hlt))
          generalize zs.getD k 0 = z at hc HS
          have hi : (k : Int) < (n : Int) := by omega
          have HC := Lib.hid (fun W => isPage z W)
          by_cases hE : pageB z = true
          · go_wp2_with (first | (go_at_call 119; refine (HC.out _).mono ?_; rintro e w' ⟨rfl, rfl⟩))
            go_round
            case rel => exact ⟨k + 1, by omega, by go_num, Lib.hid (by rw [HT.out, HS.out, hE]; rfl)⟩
            case measure => simp [intOf]; omega
          · have hE' : pageB z = false := by simpa using hE
            clear hE
            go_wp2_with (first | (go_at_call 119; refine (HC.out _).mono ?_; rintro e w' ⟨rfl, rfl⟩))
            go_ret
            exact ⟨ret_bool (by rw [HV.out, HT.out, HS.out, hE']; rfl), hb0⟩
        · go_wp2_with fail
          refine HU.out.mono ?_
          rintro e w1 ⟨b, rfl, hbb, HS, hb1⟩
          have hlen := run_set_len (P := Try.prog) Try.underlying119 HS.out 3
          generalize hq : (((keysOf zs).length : Int) == 17) = q at HN
          generalize (keysOf zs).length = m at hlen hq
          go_wp2
          go_ret
          refine ⟨ret_bool ?_, bt hb0 hb1⟩
          rw [HV.out, HT.out, all_end _ _ _ (by rw [HL.out]; omega), ← HN.out]
          exact (Bool.true_and _).symm
    · have HV := Lib.hid (rootB_no (g := g) (zs := zs) (.inr (by omega)))
      have q1 : ¬ g < 1 := by omega
      have q2 : ¬ 999999 < g := by omega
      have q3 : ((n : Int) != 17) = true := by simp; omega
      clear h hl hn
      go_enter Try.func113, Try.ntmps113
      go_wp2
      go_ret
      exact ⟨ret_bool HV.out.symm, hb0⟩
  · have HV := Lib.hid (rootB_no (g := g) (zs := zs) (.inl h1))
    clear h hl hn
    by_cases q1 : g < 1
    · clear h1
      go_enter Try.func113, Try.ntmps113
      go_wp2
      go_ret
      exact ⟨ret_bool HV.out.symm, hb0⟩
    · have q2 : 999999 < g := by omega
      clear h1
      go_enter Try.func113, Try.ntmps113
      go_wp2
      go_ret
      exact ⟨ret_bool HV.out.symm, hb0⟩

set_option maxRecDepth 100000 in
theorem l02In (A : Option Addr) (n c : Nat) (zs : List Int) (z : Int) (w : World) (hl : zs.length = n) (hn : n ≤ maxLen) (h : IntL w A zs) :
    Calls Try.prog 103 #[.slice A n c, .int .i64 z] w fun e w' => e = .returned (.bool (decide (z ∈ zs))) ∧ w = w' := by
  unfold maxLen at hn
  have HL := Lib.hid hl
  have H := Lib.hid h
  clear hl h
  go_enter Try.func103, Try.ntmps103
  go_wp2
  go_loop [5] (fun i => ∃ k : Nat, k ≤ n ∧ i = .int .i64 k ∧ Hid (z ∉ zs.take k)) (fun i => n - (intOf i).toNat)
  case atStart => exact ⟨0, Nat.zero_le _, rfl, Lib.hid (by simp)⟩
  case round =>
    obtain ⟨k, hk, rfl, HT⟩ := hrel
    by_cases hlt : k < n
    · obtain ⟨b, off, rfl, hc⟩ := H.out k (by rw [HL.out]; exact hlt)
      have HS : Hid (∀ x, zs.getD k 0 = x → (x = z → z ∈ zs) ∧ (x ≠ z → z ∉ zs.take (k + 1))) := Lib.hid (fun x hx => by
        have hk' : k < zs.length := by rw [HL.out]; exact hlt
        rw [List.getD_eq_getElem?_getD, List.getElem?_eq_getElem hk', Option.getD_some] at hx
        refine ⟨fun q => by rw [← q, ← hx]; exact List.getElem_mem _, fun q => ?_⟩
        rw [List.take_succ_eq_append_getElem hk', hx, List.mem_append]
        rintro (p | p)
        · exact HT.out p
        · simp at p; exact q p.symm)
      generalize hx : zs.getD k 0 = x at hc
      have HX := Lib.hid hx
      clear hx
      have hi : (k : Int) < (n : Int) := by omega
      by_cases hE : x = z
      · have hq : (x == z) = true := by simp [hE]
        have HE := Lib.hid hE
        clear hE
        go_wp2
        go_ret
        exact ⟨ret_bool (by simp [(HS.out x HX.out).1 HE.out]), rfl⟩
      · have hq : (x == z) = false := by simp [hE]
        have HE := Lib.hid hE
        clear hE
        go_wp2
        go_round
        case rel => exact ⟨k + 1, by omega, by go_num, Lib.hid ((HS.out x HX.out).2 HE.out)⟩
        case measure => simp [intOf]; omega
    · go_wp2
      go_ret
      have ht := HT.out
      rw [List.take_of_length_le (by rw [HL.out]; omega)] at ht
      exact ⟨ret_bool (by simp [ht]), rfl⟩

theorem take_reads {w : World} {A : Option Addr} {zs : List Int} (h : IntL w A zs) (k : Nat) : IntL w A (zs.take k) := fun i hi => by
  simp at hi
  obtain ⟨b, off, e, hc⟩ := h i (by omega)
  refine ⟨b, off, e, ?_⟩
  rw [hc, List.getD_eq_getElem?_getD, List.getD_eq_getElem?_getD, List.getElem?_take_of_lt (by omega)]

/-- The first k of a table are on pages, no two of them the same. -/
def goodK (zs : List Int) (k : Nat) : Bool := (zs.take k).all pageB && decide (zs.take k).Nodup
theorem goodK_step (zs : List Int) (k : Nat) (h : k < zs.length) : goodK zs (k + 1) = (goodK zs k && (pageB (zs.getD k 0) && !decide (zs.getD k 0 ∈ zs.take k))) := by
  unfold goodK
  rw [List.take_succ_eq_append_getElem h, List.getD_eq_getElem?_getD, List.getElem?_eq_getElem h, Option.getD_some]
  rw [List.all_append, Bool.eq_iff_iff]
  simp only [Bool.and_eq_true, decide_eq_true_eq, List.all_cons, List.all_nil, List.nodup_append, Bool.not_eq_true', decide_eq_false_iff_not]
  constructor
  · rintro ⟨⟨a, b, _⟩, c, _, d⟩
    exact ⟨⟨a, c⟩, b, fun q => d _ q _ (by simp) rfl⟩
  · rintro ⟨⟨a, c⟩, b, d⟩
    exact ⟨⟨a, b, trivial⟩, c, by simp, fun x hx y hy q => by simp at hy; subst hy; subst q; exact d hx⟩
theorem goodK_all (zs : List Int) (k : Nat) (h : zs.length ≤ k) : goodK zs k = (zs.all pageB && decide zs.Nodup) := by
  unfold goodK; rw [List.take_of_length_le h]
theorem goodK_no (zs : List Int) (k : Nat) (h : goodK zs k = false) : (zs.all pageB && decide zs.Nodup) = false := by
  cases hx : (zs.all pageB && decide zs.Nodup) with
  | false => rfl
  | true =>
    rw [Bool.and_eq_true, List.all_eq_true, decide_eq_true_eq] at hx
    rw [← h]
    unfold goodK
    symm
    rw [Bool.and_eq_true, List.all_eq_true, decide_eq_true_eq]
    exact ⟨fun x q => hx.1 x (List.mem_of_mem_take q), hx.2.sublist (List.take_sublist _ _)⟩
end Go.Proofs.Ytlfmniekbiffjaa

/- Contracts of Root.free and l02Free. -/
namespace Go.Proofs.Ytlfmniekbiffjaa
open Go.RowKit

/-- The first j sectors behind the slots, but for those of a table. -/
def frN (zs : List Int) : Nat → List Int
  | 0 => []
  | j + 1 => frN zs j ++ (if ((j + 2 : Nat) : Int) ∈ zs then [] else [((j + 2 : Nat) : Int)])
/-- The sectors that a table leaves free. -/
def freeL (zs : List Int) : List Int := frN zs 46
theorem frN_len (zs : List Int) : ∀ j, (frN zs j).length ≤ j
  | 0 => Nat.le_refl _
  | j + 1 => by
    have := frN_len zs j
    rw [frN, List.length_append]
    split <;> simp <;> omega
theorem frN_in (zs : List Int) (j : Nat) (h : ((j + 2 : Nat) : Int) ∈ zs) : frN zs (j + 1) = frN zs j := by rw [frN, if_pos h, List.append_nil]
theorem frN_out (zs : List Int) (j : Nat) (h : ((j + 2 : Nat) : Int) ∉ zs) : frN zs (j + 1) = frN zs j ++ [((j + 2 : Nat) : Int)] := by rw [frN, if_neg h]
theorem SetI.since {w w' : World} {b B : Nat} {ks : List Int} (h : SetI w b ks) (hb : Below B w w') (hB : b < B) : SetI w' b ks := by
  obtain ⟨es, clock, h1, h2, h3⟩ := h
  exact ⟨es, clock, (hb.block b hB).trans h1, h2, h3⟩
theorem IntL.since {w w' : World} {B : Nat} {A : Option Addr} {zs : List Int} (h : IntL w A zs) (hb : Below B w w') (hB : w.heap.size ≤ B) : IntL w' A zs := h.below (hb.mono hB)
set_option maxRecDepth 100000 in
theorem zeroBool (w : World) : (zeroValue 4).run Try.prog w = .ok (.bool false) w := by kernel_rfl

set_option maxRecDepth 100000 in
set_option maxHeartbeats 2000000 in
theorem rootFree (g : Int) (A : Option Addr) (n c : Nat) (zs : List Int) (w : World) (hl : zs.length = n) (hn : n ≤ maxLen) (h : IntL w A zs) :
    Calls Try.prog 66 #[.agg #[.int .i64 g, .slice A n c]] w (GivesInts (freeL zs) w) := by
  have hb0 := alloc_below w (.cells #[.int .i64 g, .slice A n c] 49)
  have HU := Lib.hid (usedSectors A n c zs _ hl hn (h.below hb0))
  clear hl hn h
  go_enter Try.func66, Try.ntmps66
  go_wp2_with fail
  refine HU.out.mono ?_
  rintro e w1 ⟨bm, rfl, hbm, HS, hb1⟩
  have hb := bt hb0 hb1
  have hlt1 : bm < w1.heap.size := HS.out.lt
  have hW1 : w.heap.size ≤ w1.heap.size := hb.size
  clear hb0 hb1 HU hbm
  go_wp2
  go_loopw [5, 4] (fun i v wr => ∃ (j : Nat) (A' : Option Addr) (l c' : Nat), j ≤ 46 ∧ i = .int .i64 ((j + 2 : Nat) : Int) ∧ v = .slice A' l c' ∧ Hid ((frN zs j).length = l) ∧ l ≤ 46 ∧ Below w.heap.size w wr ∧ Hid (GroI wr w1.heap.size (.slice A' l c') (frN zs j)) ∧ Hid (SetI wr bm (keysOf zs)) ∧ w1.heap.size ≤ wr.heap.size) (fun i _ _ => 48 - (intOf i).toNat)
  case atStart => exact ⟨0, none, 0, 0, by omega, rfl, rfl, Lib.hid rfl, by omega, hb, Lib.hid (rowv_nil _ _ _ _), HS, Nat.le_refl _⟩
  case round =>
    clear hb HS
    obtain ⟨j, A', l, c', hj, rfl, rfl, HLl, hl46, hbw, HG, HS, hsz⟩ := hrel
    by_cases hlt : j < 46
    · have hi : ((j + 2 : Nat) : Int) < 48 := by omega
      have hlk := run_set_look (P := Try.prog) Try.underlying119 Try.underlying3 (zeroBool wr) HS.out ((j + 2 : Nat) : Int)
      by_cases hM : ((j + 2 : Nat) : Int) ∈ zs
      · have HF := Lib.hid (frN_in zs j hM)
        rw [show decide (((j + 2 : Nat) : Int) ∈ keysOf zs) = true from decide_eq_true ((keysOf_mem zs _).2 hM)] at hlk
        clear hM
        generalize hz : j + 2 = z at hlk hi
        have HZ := Lib.hid hz
        have hz1 : z ≤ 1000 := by omega
        clear hz
        go_wp2
        go_roundw
        case rel => exact ⟨j + 1, A', l, c', by omega, by have := HZ.out; congr 1; omega, rfl, by rw [HF.out]; exact HLl, hl46, hbw, by rw [HF.out]; exact HG, HS, hsz⟩
        case measure => simp [intOf]; omega
      · have HF := Lib.hid (frN_out zs j hM)
        have HLn := Lib.hid (frN_len zs (j + 1))
        rw [show decide (((j + 2 : Nat) : Int) ∈ keysOf zs) = false from decide_eq_false (fun q => hM ((keysOf_mem zs _).1 q))] at hlk
        clear hM
        generalize hz : j + 2 = z at hlk hi HF
        have HZ := Lib.hid hz
        have hz1 : z ≤ 1000 := by omega
        have HRk : Hid (wr.ownsRow w1.heap.size 3 1 (.slice A' l c') l ((frN zs j).map (Value.int .i64))) := Lib.hid (by have := HG.out; unfold GroI at this; rwa [HLl.out] at this)
        generalize frN zs j = fl at HRk HF HLl
        clear hz HG
        have HBa : Hid (Below wr.heap.size wr (wr.alloc (.cells #[.int .i64 (z : Int)] 3))) := Lib.hid (alloc_below _ _)
        have HOw := Lib.hid (rowv_below HRk.out HBa.out)
        have HNw : Hid (∀ i u, [Value.int .i64 (z : Int)][i]? = some u → (wr.alloc (.cells #[.int .i64 (z : Int)] 3)).cell? ⟨wr.heap.size, i, none⟩ = some u) := Lib.hid (fun i u hi => by
          match i, hi with
          | 0, hi => simp at hi; subst hi; exact (Box.new wr 3 #[.int .i64 (z : Int)]).cell 0 rfl)
        go_wp2_with (at_builtin; refine wpList_app_one rfl (.tmp 17) (.tmp 19) 39 3 rfl (.int .i64 0) 1 8 elemInt Try.underlying39 w1.heap.size (.slice A' l c') l (fl.map (Value.int .i64)) rfl ?hown wr.heap.size 1 rfl [.int .i64 (z : Int)] rfl ?hnews ?hone ?h63 ?hby ?hbase ?_)
        case hown => exact HOw.out
        case hnews => exact HNw.out
        case hone => intro u hu; simp at hu; subst hu; rfl
        case h63 => unfold maxLen; omega
        case hby => omega
        case hbase => simp; omega
        intro A2 c2 w2 hR2 hc2 hg2 hb2
        have HR2 := Lib.hid hR2
        have HS2 := Lib.hid ((HS.out.below HBa.out).since hb2 hlt1)
        have hbz : Below w.heap.size w w2 := (bt hbw HBa.out).trans (hb2.mono hW1)
        have hs2 : w1.heap.size ≤ w2.heap.size := Nat.le_trans (Nat.le_trans hsz HBa.out.size) hb2.size
        clear hR2 hb2 hg2
        go_wp2
        go_roundw
        case rel =>
          refine ⟨j + 1, A2, l + 1, c2, by omega, by have := HZ.out; congr 1; omega, rfl, Lib.hid (by rw [HF.out, List.length_append, HLl.out]; rfl), ?_, hbz, Lib.hid ?_, HS2, hs2⟩
          · have := HLn.out; rw [HF.out, List.length_append, HLl.out] at this; simp at this; omega
          · unfold GroI; rw [HF.out, List.length_append, HLl.out, List.map_append]; exact HR2.out
        case measure => simp [intOf]; omega
    · obtain rfl : j = 46 := by omega
      go_wp2
      refine bodyPost_ret (v := .slice A' l c') (by simp [results, Try.results66, go_sem]) rfl ?_
      exact ⟨_, _, _, rfl, HLl, Lib.hid (HG.out.own hW1), hbw⟩
end Go.Proofs.Ytlfmniekbiffjaa

/- Digits of numbers, as lists of bytes. Nothing here walks. -/
namespace Go.Proofs.Ytlfmniekbiffjaa

def dg (n : Nat) : UInt8 := UInt8.ofNat (48 + n % 10)
/-- The last w digits of n. -/
def digs : Nat → Nat → List UInt8
  | 0, _ => []
  | w + 1, n => digs w (n / 10) ++ [dg n]
theorem digs_len : ∀ w n, (digs w n).length = w
  | 0, _ => rfl
  | w + 1, n => by simp [digs, digs_len w]
theorem digs_front : ∀ w n, digs (w + 1) n = dg (n / 10 ^ w) :: digs w n
  | 0, n => by simp [digs]
  | w + 1, n => by
    rw [digs, digs_front w (n / 10), digs, Nat.div_div_eq_div_mul, Nat.pow_succ, Nat.mul_comm (10 ^ w) 10]
    rfl
/-- The digits of n, of which there are at most f. -/
def decF : Nat → Nat → List UInt8
  | 0, _ => []
  | f + 1, n => if n < 10 then [dg n] else decF f (n / 10) ++ [dg n]
theorem digs_zero : ∀ w, digs w 0 = List.replicate w 48
  | 0 => rfl
  | w + 1 => by rw [digs, digs_zero w]; rw [List.replicate_succ']; rfl
theorem decF_len : ∀ f n, (decF f n).length ≤ f
  | 0, _ => by simp [decF]
  | f + 1, n => by
    rw [decF]
    split
    · simp
    · have := decF_len f (n / 10)
      simp; omega
theorem pad_dec : ∀ f n, n < 10 ^ (f + 1) → List.replicate (f + 1 - (decF (f + 1) n).length) 48 ++ decF (f + 1) n = digs (f + 1) n
  | f, n, h => by
    rw [decF, digs]
    by_cases hn : n < 10
    · rw [if_pos hn]
      rw [show n / 10 = 0 by omega, digs_zero]
      simp
    · rw [if_neg hn]
      match f with
      | 0 => exact absurd h (by simp; omega)
      | f + 1 =>
        have ih := pad_dec f (n / 10) (by rw [Nat.pow_succ] at h; omega)
        rw [← ih]
        have := decF_len (f + 1) (n / 10)
        simp only [List.length_append, List.length_cons, List.length_nil, List.append_assoc]
        rw [show f + 1 + 1 - ((decF (f + 1) (n / 10)).length + (0 + 1)) = f + 1 - (decF (f + 1) (n / 10)).length by omega]
def bs (l : List UInt8) : ByteArray := ⟨l.toArray⟩
theorem bs_app (a b : List UInt8) : bs a ++ bs b = bs (a ++ b) := by
  apply ByteArray.ext
  simp [bs]
theorem bs_size (a : List UInt8) : (bs a).size = a.length := rfl
theorem dg_nat (n : Nat) : (dg n).toNat = 48 + n % 10 := by
  unfold dg
  rw [UInt8.toNat_ofNat']; omega
end Go.Proofs.Ytlfmniekbiffjaa

/- Contracts of the readers of digits: isDigit, l00Digit, allDigits, numberOf, l02Fixed. -/
namespace Go.Proofs.Ytlfmniekbiffjaa
open Go.RowKit

def digB (n : Int) : Bool := decide (48 ≤ n ∧ n ≤ 57)
set_option maxRecDepth 100000 in
theorem isDigit (n : Int) (w : World) : Calls Try.prog 118 #[.int .u8 n] w fun e w' => e = .returned (.bool (digB n)) ∧ w = w' := by
  go_enter Try.func118, Try.ntmps118
  go_wp2
  all_goals go_ret
  all_goals (refine ⟨ret_bool ?_, rfl⟩)
  all_goals (unfold digB; rw [Bool.eq_iff_iff]; simp; try omega)
set_option maxRecDepth 100000 in
theorem l00Digit (n : Int) (w : World) : Calls Try.prog 114 #[.int .u8 n] w fun e w' => e = .returned (.bool (digB n)) ∧ w = w' := by
  go_enter Try.func114, Try.ntmps114
  go_wp2
  all_goals go_ret
  all_goals (refine ⟨ret_bool ?_, rfl⟩)
  all_goals (unfold digB; rw [Bool.eq_iff_iff]; simp; try omega)

def digC (c : UInt8) : Bool := digB c.toNat
def allDig (l : List UInt8) : Bool := l.all digC
theorem allDig_step (s : ByteArray) (k : Nat) (h : k < s.size) : allDig (s.data.toList.drop k) = (digB s[k].toNat && allDig (s.data.toList.drop (k + 1))) := by
  unfold allDig
  rw [List.drop_eq_getElem_cons (by simpa using h)]; rfl
theorem allDig_end (s : ByteArray) (k : Nat) (h : s.size ≤ k) : allDig (s.data.toList.drop k) = true := by
  rw [List.drop_of_length_le (by simpa using h)]; rfl

set_option maxRecDepth 100000 in
set_option maxHeartbeats 1000000 in
theorem allDigits (s : ByteArray) (w : World) (hs : s.size ≤ maxLen) : Calls Try.prog 111 #[.string s] w fun e w' => e = .returned (.bool (allDig s.data.toList)) ∧ w = w' := by
  unfold maxLen at hs
  go_enter Try.func111, Try.ntmps111
  go_wp2
  go_loop [3] (fun i => ∃ k : Nat, k ≤ s.size ∧ i = .int .i64 k ∧ Hid (allDig s.data.toList = allDig (s.data.toList.drop k))) (fun i => s.size - (intOf i).toNat)
  case atStart => exact ⟨0, Nat.zero_le _, rfl, Lib.hid rfl⟩
  case round =>
    obtain ⟨k, hk, rfl, HT⟩ := hrel
    by_cases hlt : k < s.size
    · have HS := Lib.hid (allDig_step s k hlt)
      have HC := Lib.hid (fun W => isDigit (s[k].toNat : Int) W)
      by_cases hE : digB (s[k].toNat : Int) = true
      · have HE := Lib.hid hE
        rw [hE] at HC
        clear hE
        go_wp2_with (first | (go_at_call 118; refine (HC.out _).mono ?_; rintro e w' ⟨rfl, rfl⟩))
        go_round
        case rel => exact ⟨k + 1, by omega, by go_num, Lib.hid (by rw [HT.out, HS.out, HE.out]; rfl)⟩
        case measure => simp [intOf]; omega
      · have hE' : digB (s[k].toNat : Int) = false := by simpa using hE
        have HE := Lib.hid hE'
        rw [hE'] at HC
        clear hE hE'
        go_wp2_with (first | (go_at_call 118; refine (HC.out _).mono ?_; rintro e w' ⟨rfl, rfl⟩))
        go_ret
        exact ⟨ret_bool (by rw [HT.out, HS.out, HE.out]; rfl), rfl⟩
    · go_wp2
      go_ret
      exact ⟨ret_bool (by rw [HT.out]; exact (allDig_end s k (by omega)).symm), rfl⟩

/-- The number that digits say. -/
def numOf (l : List UInt8) : Nat := l.foldl (fun n c => 10 * n + (c.toNat - 48)) 0
theorem numOf_step (s : ByteArray) (k : Nat) (h : k < s.size) : numOf (s.data.toList.take (k + 1)) = 10 * numOf (s.data.toList.take k) + (s[k].toNat - 48) := by
  unfold numOf
  rw [List.take_succ_eq_append_getElem (by simpa using h), List.foldl_append]; rfl
theorem fold_lt (l : List UInt8) (h : allDig l = true) : ∀ m, l.foldl (fun n c => 10 * n + (c.toNat - 48)) m < (m + 1) * 10 ^ l.length := by
  induction l with
  | nil => intro m; simp
  | cons a r ih =>
    intro m
    unfold allDig at h
    rw [List.all_cons, Bool.and_eq_true] at h
    have ha : (a.toNat : Int) ≤ 57 := by have := h.1; unfold digC digB at this; simp at this; omega
    rw [List.foldl_cons]
    refine Nat.lt_of_lt_of_le (ih h.2 _) ?_
    rw [List.length_cons, Nat.pow_succ, Nat.mul_comm (10 ^ r.length) 10, ← Nat.mul_assoc]
    exact Nat.mul_le_mul_right _ (by omega)
theorem numOf_lt (l : List UInt8) (h : allDig l = true) : numOf l < 10 ^ l.length := by
  have := fold_lt l h 0
  simpa [numOf] using this
theorem allDig_take (l : List UInt8) (k : Nat) (h : allDig l = true) : allDig (l.take k) = true := by
  unfold allDig at *
  rw [List.all_eq_true] at *
  exact fun x hx => h x (List.mem_of_mem_take hx)
theorem allDig_drop (l : List UInt8) (k : Nat) (h : allDig l = true) : allDig (l.drop k) = true := by
  unfold allDig at *
  rw [List.all_eq_true] at *
  exact fun x hx => h x (List.mem_of_mem_drop hx)
theorem allDig_at (s : ByteArray) (k : Nat) (h : k < s.size) (ha : allDig s.data.toList = true) : 48 ≤ s[k].toNat ∧ s[k].toNat ≤ 57 := by
  unfold allDig at ha
  rw [List.all_eq_true] at ha
  have := ha s[k] (by exact List.getElem_mem (l := s.data.toList) (n := k) (by simpa using h))
  unfold digC digB at this
  simp at this
  omega

set_option maxRecDepth 100000 in
set_option maxHeartbeats 1000000 in
theorem numberOf (s : ByteArray) (w : World) (hs : s.size ≤ 17) (hd : allDig s.data.toList = true) : Calls Try.prog 112 #[.string s] w fun e w' => e = .returned (.int .i64 (numOf s.data.toList : Nat)) ∧ w = w' := by
  have HD := Lib.hid hd
  clear hd
  go_enter Try.func112, Try.ntmps112
  go_wp2
  go_loop [3, 4] (fun n i => ∃ k : Nat, k ≤ s.size ∧ i = .int .i64 k ∧ n = .int .i64 (numOf (s.data.toList.take k) : Nat)) (fun _ i => s.size - (intOf i).toNat)
  case atStart => exact ⟨0, Nat.zero_le _, rfl, rfl⟩
  case round =>
    obtain ⟨k, hk, rfl, rfl⟩ := hrel
    have hb : numOf (s.data.toList.take k) < 100000000000000000 := by
      refine Nat.lt_of_lt_of_le (numOf_lt _ (allDig_take _ k HD.out)) ?_
      rw [List.length_take]
      exact Nat.le_trans (Nat.pow_le_pow_right (by omega) (show min k s.data.toList.length ≤ 17 by omega)) (by decide)
    by_cases hlt : k < s.size
    · have HS := Lib.hid (numOf_step s k hlt)
      have hc := allDig_at s k hlt HD.out
      generalize numOf (s.data.toList.take k) = m at HS hb
      obtain ⟨hc1, hc2⟩ := hc
      have hw : IntKind.u8.wrap ((s[k].toNat : Int) - 48) = (s[k].toNat : Int) - 48 := IntWalk.u8_in _ (by omega)
      go_wp2
      go_round
      case rel => exact ⟨k + 1, by omega, by go_num, by rw [HS.out]; congr 1; omega⟩
      case measure => simp [intOf]; omega
    · have HF : Hid (numOf (s.data.toList.take k) = numOf s.data.toList) := Lib.hid (by rw [List.take_of_length_le (by simpa using by omega)])
      generalize numOf (s.data.toList.take k) = m at HF hb
      go_wp2
      go_ret
      exact ⟨ret_int (by rw [HF.out]), rfl⟩

set_option maxRecDepth 100000 in
set_option maxHeartbeats 1000000 in
theorem l02Fixed (s : ByteArray) (w : World) (hs : s.size ≤ 17) (hd : allDig s.data.toList = true) : Calls Try.prog 115 #[.string s] w fun e w' => e = .returned (.int .i64 (numOf s.data.toList : Nat)) ∧ w = w' := by
  have HD := Lib.hid hd
  clear hd
  go_enter Try.func115, Try.ntmps115
  go_wp2
  go_loop [3, 4] (fun n i => ∃ k : Nat, k ≤ s.size ∧ i = .int .i64 k ∧ n = .int .i64 (numOf (s.data.toList.take k) : Nat)) (fun _ i => s.size - (intOf i).toNat)
  case atStart => exact ⟨0, Nat.zero_le _, rfl, rfl⟩
  case round =>
    obtain ⟨k, hk, rfl, rfl⟩ := hrel
    have hb : numOf (s.data.toList.take k) < 100000000000000000 := by
      refine Nat.lt_of_lt_of_le (numOf_lt _ (allDig_take _ k HD.out)) ?_
      rw [List.length_take]
      exact Nat.le_trans (Nat.pow_le_pow_right (by omega) (show min k s.data.toList.length ≤ 17 by omega)) (by decide)
    by_cases hlt : k < s.size
    · have HS := Lib.hid (numOf_step s k hlt)
      have hc := allDig_at s k hlt HD.out
      generalize numOf (s.data.toList.take k) = m at HS hb
      obtain ⟨hc1, hc2⟩ := hc
      have hw : IntKind.u8.wrap ((s[k].toNat : Int) - 48) = (s[k].toNat : Int) - 48 := IntWalk.u8_in _ (by omega)
      go_wp2
      go_round
      case rel => exact ⟨k + 1, by omega, by go_num, by rw [HS.out]; congr 1; omega⟩
      case measure => simp [intOf]; omega
    · have HF : Hid (numOf (s.data.toList.take k) = numOf s.data.toList) := Lib.hid (by rw [List.take_of_length_le (by simpa using by omega)])
      generalize numOf (s.data.toList.take k) = m at HF hb
      go_wp2
      go_ret
      exact ⟨ret_int (by rw [HF.out]), rfl⟩

/- What a root's text says. -/
def genT (l : List UInt8) : Int := (numOf (l.take 6) : Nat)
def secT (l : List UInt8) (k : Nat) : Int := (numOf ((l.drop (6 + 2 * k)).take 2) : Nat)
def tabT (l : List UInt8) (k : Nat) : List Int := (List.range k).map (secT l)
theorem tabT_len (l : List UInt8) (k : Nat) : (tabT l k).length = k := by simp [tabT]
theorem tabT_step (l : List UInt8) (k : Nat) : tabT l (k + 1) = tabT l k ++ [secT l k] := by simp [tabT, List.range_succ]
/-- Whether a text is a root's. -/
def rdB (l : List UInt8) : Bool := decide (l.length = 46) && (allDig l && (decide (l.take 6 = l.drop 40) && rootB (genT l) (tabT l 17)))
/-- What ReadRoot answers: the generation, the table, the code. -/
def rdG (t : ByteArray) : Int := if 65536 < t.size then 0 else if rdB t.data.toList = true then genT t.data.toList else 0
def rdZ (t : ByteArray) : List Int := if 65536 < t.size then [] else if rdB t.data.toList = true then tabT t.data.toList 17 else []
def rdC (t : ByteArray) : Int := if 65536 < t.size then 2 else if rdB t.data.toList = true then 0 else 9
end Go.Proofs.Ytlfmniekbiffjaa

/- The contract of spec.RootOK. -/
namespace Go.Proofs.Ytlfmniekbiffjaa
open Go.RowKit

theorem quiet_same {P : Program} {f : FuncId} {args : Array Value} {w : World} {n : Nat} {v : Value}
    (h : Calls P f args (w.drewN n) fun e w' => e = .returned v ∧ w.drewN n = w') : Calls P f args (w.drewN n) fun e w'' => e = .returned v ∧ ∃ m, w'' = w.drewN m :=
  h.mono fun _ _ ⟨he, hm⟩ => ⟨he, n, hm.symm⟩

set_option maxRecDepth 100000 in
set_option maxHeartbeats 2000000 in
theorem specRootOK (g : Int) (A : Option Addr) (n c : Nat) (zs : List Int) (w : World) (hl : zs.length = n) (_hn : n ≤ maxLen) (hcap : n ≤ c) (h : IntL w A zs) :
    Calls Try.prog 116 #[.agg #[.int .i64 g, .slice A n c]] w fun e w' => e = .returned (.bool (rootB g zs)) ∧ Below w.heap.size w w' := by
  have hb0 := alloc_below w (.cells #[.int .i64 g, .slice A n c] 49)
  by_cases h1 : inB 1 999999 g = true
  · have hg : 1 ≤ g ∧ g ≤ 999999 := by unfold inB at h1; simpa using h1
    have HI := Lib.hid h1
    by_cases h2 : n = 17
    · have HV := Lib.hid (rootB_yes (zs := zs) hg (hl.trans h2))
      have HL := Lib.hid hl
      have H := Lib.hid (h.below hb0)
      have X := Box.new w 49 #[.int .i64 g, .slice A n c]
      have q3 : ((n : Int) != 17) = false := by rw [h2]; rfl
      have q4 : n ≤ 17 := by omega
      have q5 : (n : Int) ≤ (c : Int) := by omega
      clear h hl h1 hg h2
      go_enter Try.func116, Try.ntmps116
      go_wp2_with fail
      refine (l01InG _ _ _ _).mono ?_
      rintro e w' ⟨rfl, rfl⟩
      rw [HI.out]
      go_wp2
      have F1 := Lib.hid (X.cell 1 rfl)
      generalize w.alloc (.cells #[.int .i64 g, .slice A n c] 49) = wa at hb0 H F1 ⊢
      go_loopw [3] (fun i wr => ∃ k : Nat, k ≤ n ∧ i = .int .i64 k ∧ Hid (goodK zs k = true) ∧ Below w.heap.size w wr ∧ Hid (IntL wr A zs) ∧ Hid (wr.cell? ⟨w.heap.size, 1, none⟩ = some (.slice A n c))) (fun i _ => n - (intOf i).toNat)
      case atStart => exact ⟨0, Nat.zero_le _, rfl, Lib.hid rfl, hb0, H, F1⟩
      case round =>
        clear F1 H hb0
        obtain ⟨k, hk, rfl, HT, hb0, H, F1⟩ := hrel
        have f1 := F1.out
        by_cases hlt : k < n
        · obtain ⟨b, off, rfl, hc⟩ := H.out k (by rw [HL.out]; exact hlt)
          have HS := Lib.hid (goodK_step zs k (by rw [HL.out]; exact hlt))
          have HIn := Lib.hid (fun W (hW : ∃ nq, W = wr.drewN nq) => l02In (some ⟨b, off, none⟩) k c (zs.take k) (zs.getD k 0) W (by rw [List.length_take, HL.out]; omega) (by unfold maxLen; omega) (by obtain ⟨nq, rfl⟩ := hW; exact take_reads H.out k))
          generalize zs.getD k 0 = z at hc HS HIn
          have hi : (k : Int) < (n : Int) := by omega
          have hi0 : (0 : Int) ≤ (k : Int) := by omega
          have hic : (k : Int) ≤ (c : Int) := by omega
          by_cases hE : pageB z = true
          · have HP := Lib.hid (fun W => l02Page z W)
            generalize hp : pageB z = pz at HP hE
            have HPz := Lib.hid hp
            subst hE
            clear hp
            by_cases hM : z ∈ zs.take k
            · have HM := Lib.hid hM
              generalize hd : decide (z ∈ zs.take k) = dz at HIn HS
              have HD : Hid (dz = true) := Lib.hid (by rw [← hd]; simpa using hM)
              rw [HD.out] at HIn
              clear hM hd
              go_wp2
              go_quiet (first | (go_at_call 120; exact quiet_same (HP.out _)) | (go_at_call 103; exact quiet_same (HIn.out _ ⟨_, rfl⟩)))
              go_wp2
              go_ret
              exact ⟨ret_bool (by rw [HV.out]; exact (goodK_no zs (k + 1) (by rw [HS.out, HD.out]; simp)).symm), below_drewN hb0 _⟩
            · have HM := Lib.hid hM
              generalize hd : decide (z ∈ zs.take k) = dz at HIn HS
              have HD : Hid (dz = false) := Lib.hid (by rw [← hd]; simpa using hM)
              rw [HD.out] at HIn
              clear hM hd
              go_wp2
              go_quiet (first | (go_at_call 120; exact quiet_same (HP.out _)) | (go_at_call 103; exact quiet_same (HIn.out _ ⟨_, rfl⟩)))
              go_wp2
              go_roundw
              case rel => exact ⟨k + 1, by omega, by go_num, Lib.hid (by rw [HS.out, HD.out, HPz.out, HT.out]; rfl), below_drewN hb0 _, Lib.hid H.out, Lib.hid F1.out⟩
              case measure => simp [intOf]; omega
          · have hE' : pageB z = false := by simpa using hE
            have HP := Lib.hid (fun W => l02Page z W)
            rw [hE'] at HP
            have HE := Lib.hid hE'
            clear hE hE' HIn
            go_wp2
            go_quiet (first | (go_at_call 120; exact quiet_same (HP.out _)))
            go_wp2
            go_ret
            exact ⟨ret_bool (by rw [HV.out]; exact (goodK_no zs (k + 1) (by rw [HS.out, HE.out]; simp)).symm), below_drewN hb0 _⟩
        · go_wp2
          go_ret
          exact ⟨ret_bool (by rw [HV.out, ← goodK_all zs k (by rw [HL.out]; omega), HT.out]), hb0⟩
    · have HV := Lib.hid (rootB_no (g := g) (zs := zs) (.inr (by omega)))
      have q3 : ((n : Int) != 17) = true := by simp; omega
      clear h hl h1 hg
      go_enter Try.func116, Try.ntmps116
      go_wp2_with fail
      refine (l01InG _ _ _ _).mono ?_
      rintro e w' ⟨rfl, rfl⟩
      rw [HI.out]
      go_wp2
      go_ret
      exact ⟨ret_bool HV.out.symm, hb0⟩
  · have HV := Lib.hid (rootB_no (g := g) (zs := zs) (.inl (by unfold inB at h1; simpa using h1)))
    have HI : Hid (inB 1 999999 g = false) := Lib.hid (by simpa using h1)
    clear h hl h1
    go_enter Try.func116, Try.ntmps116
    go_wp2_with fail
    refine (l01InG _ _ _ _).mono ?_
    rintro e w' ⟨rfl, rfl⟩
    rw [HI.out]
    go_wp2
    go_ret
    exact ⟨ret_bool HV.out.symm, hb0⟩
end Go.Proofs.Ytlfmniekbiffjaa

/- A part of a text, as a list. -/
namespace Go.Proofs.Ytlfmniekbiffjaa
theorem ext_list (t : ByteArray) (i j : Nat) : (t.extract i j).data.toList = (t.data.toList.drop i).take (j - i) := by
  rw [ByteArray.data_extract, Array.toList_extract, List.extract_eq_take_drop]
end Go.Proofs.Ytlfmniekbiffjaa

/- The contract of impl.ReadRoot. -/
namespace Go.Proofs.Ytlfmniekbiffjaa
open Go.RowKit

/-- The call hands back a root of its own, and a code. -/
def GivesRootCode (g : Int) (zs : List Int) (code : Int) (w : World) (e : Ending) (w' : World) : Prop :=
  ∃ A n c, e = .returned (.tuple #[.agg #[.int .i64 g, .slice A n c], .int .i64 code]) ∧ Hid (zs.length = n) ∧ Hid (OwnI w' w.heap.size w'.heap.size A zs) ∧ Below w.heap.size w w'
theorem givesR_none {w w' : World} {code : Int} (h : Below w.heap.size w w') : GivesRootCode 0 [] code w (.returned (.tuple #[.agg #[.int .i64 0, .slice none 0 0], .int .i64 code])) w' :=
  ⟨_, _, _, rfl, Lib.hid rfl, Lib.hid (.inl rfl), h⟩

theorem below_st2 {w w1 : World} {b : Nat} (h : Below w.heap.size w w1) (hb : w.heap.size ≤ b) (u v : Value) : Below w.heap.size w ((w1.setCell ⟨b, 0, none⟩ u).setCell ⟨b, 1, none⟩ v) := (h.setCell (p := ⟨b, 0, none⟩) hb u).setCell (p := ⟨b, 1, none⟩) hb v
set_option maxRecDepth 100000 in
set_option maxHeartbeats 2000000 in
theorem implReadRoot (t : ByteArray) (w : World) (ht : t.size ≤ maxLen) :
    Calls Try.prog 98 #[.string t] w (GivesRootCode (rdG t) (rdZ t) (rdC t) w) := by
  unfold maxLen at ht
  have hb0 := alloc_below w (.cells #[.int .i64 0, .slice none 0 0] 49)
  by_cases h1 : 65536 < t.size
  · have h1' : (65536 : Int) < (t.size : Int) := by omega
    have HV : Hid (rdG t = 0 ∧ rdZ t = [] ∧ rdC t = 2) := Lib.hid (by unfold rdG rdZ rdC; rw [if_pos h1, if_pos h1, if_pos h1]; exact ⟨rfl, rfl, rfl⟩)
    rw [HV.out.1, HV.out.2.1, HV.out.2.2]
    clear h1
    go_enter Try.func98, Try.ntmps98
    go_wp2
    refine bodyPost_ret (v := .tuple #[.agg #[.int .i64 0, .slice none 0 0], .int .i64 2]) (by simp [results, Try.results98, go_sem]) rfl ?_
    exact givesR_none hb0
  have h1' : ¬ (65536 : Int) < (t.size : Int) := by omega
  by_cases h2 : t.size = 46
  · have h2' : (t.size : Int) = 46 := by omega
    have h2b : ((t.size : Int) != 46) = false := by rw [h2']; rfl
    have HA := Lib.hid (fun W => allDigits t W (by unfold maxLen; omega))
    by_cases h3 : allDig t.data.toList = true
    · rw [h3] at HA
      have H3 := Lib.hid h3
      have hX := ext_list t 0 6
      have hY := ext_list t 40 46
      by_cases h4 : t.data.toList.take 6 = t.data.toList.drop 40
      · have h4b : ((t.extract 0 6).toList == (t.extract 40 46).toList) = true := by
          rw [ByteArray.toList_eq, ByteArray.toList_eq, hX, hY]
          simp only [beq_iff_eq, List.drop_zero]
          rw [h4, List.take_of_length_le (by rw [List.length_drop]; show t.size - 40 ≤ 6; omega)]
        have HNg := Lib.hid (fun W => numberOf (t.extract 0 6) W (by rw [ByteArray.size_extract]; omega) (by rw [hX]; exact allDig_take _ _ (allDig_drop _ _ h3)))
        rw [hX, List.drop_zero, show 6 - 0 = 6 from rfl] at HNg
        rw [show ((numOf (t.data.toList.take 6) : Nat) : Int) = genT t.data.toList from rfl] at HNg
        have HB : Hid (rdB t.data.toList = rootB (genT t.data.toList) (tabT t.data.toList 17)) := Lib.hid (by
          unfold rdB
          rw [show decide (t.data.toList.length = 46) = true by exact decide_eq_true h2, h3, show decide (t.data.toList.take 6 = t.data.toList.drop 40) = true by exact decide_eq_true h4]
          simp)
        generalize hge : genT t.data.toList = g at HNg HB
        have HGe := Lib.hid hge
        clear hge
        have H1 := Lib.hid h1
        clear h3 hX hY h4 h1
        go_enter Try.func98, Try.ntmps98
        go_wp2
        go_quiet (first | (go_at_call 111; exact quiet_same (HA.out _)))
        go_wp2_with fail
        have HT := Lib.hid (And.intro h2 ht)
        clear h2 ht
        refine (HNg.out _).mono ?_
        rintro e w' ⟨rfl, rfl⟩
        go_wp2
        obtain ⟨W1, hW1⟩ : ∃ W1, W1 = ((w.alloc (.cells #[.int .i64 0, .slice none 0 0] 49)).drewN nq).alloc (.cells #[.int .i64 g, .slice none 0 0] 49) := ⟨_, rfl⟩
        have hb1 : Below w.heap.size w W1 := by rw [hW1]; exact bt (below_drewN hb0 nq) (alloc_below _ _)
        have X0 : Hid (Box W1 w.heap.size 49 #[.int .i64 0, .slice none 0 0]) := Lib.hid (by rw [hW1]; exact ((Box.new _ _ _).drewN nq).alloc _)
        have X1 : Hid (Box W1 (w.heap.size + 1) 49 #[.int .i64 g, .slice none 0 0]) := Lib.hid (by
          rw [hW1]; simpa using Box.new ((w.alloc (.cells #[.int .i64 0, .slice none 0 0] 49)).drewN nq) 49 #[.int .i64 g, .slice none 0 0])
        have hsz : w.heap.size + 2 ≤ W1.heap.size := by have := X1.out.lt; omega
        rw [← hW1]
        clear hW1 hb0 HA HNg h4b h2b
        go_loopw [5] (fun i wr => ∃ (k : Nat) (A : Option Addr) (c : Nat), k ≤ 17 ∧ i = .int .i64 ((6 + 2 * k : Nat) : Int) ∧ Below w.heap.size w wr ∧ Hid (Box wr w.heap.size 49 #[.int .i64 0, .slice none 0 0]) ∧ Hid (Box wr (w.heap.size + 1) 49 #[.int .i64 g, .slice A k c]) ∧ Hid (GroI wr (w.heap.size + 2) (.slice A k c) (tabT t.data.toList k)) ∧ w.heap.size + 2 ≤ wr.heap.size) (fun i _ => 40 - (intOf i).toNat)
        case atStart => exact ⟨0, none, 0, by omega, rfl, hb1, X0, X1, Lib.hid (rowv_nil _ _ _ _), hsz⟩
        case round =>
          clear X0 X1 hb1 hsz
          obtain ⟨k, A, c, hk, rfl, hbw, X0, X1, HR, hsz⟩ := hrel
          have f1 := X1.out.cell 1 rfl
          by_cases hlt : k < 17
          · have HNk := Lib.hid (fun W => numberOf (t.extract (6 + 2 * k) (6 + 2 * k + 2)) W (by rw [ByteArray.size_extract]; have := HT.out.1; omega) (by rw [ext_list]; exact allDig_take _ _ (allDig_drop _ _ H3.out)))
            rw [ext_list, show 6 + 2 * k + 2 - (6 + 2 * k) = 2 by omega, show ((numOf ((t.data.toList.drop (6 + 2 * k)).take 2) : Nat) : Int) = secT t.data.toList k from rfl] at HNk
            have HSt := Lib.hid (tabT_step t.data.toList k)
            generalize secT t.data.toList k = z at HNk HSt
            obtain ⟨i, hi⟩ : ∃ i : Nat, i = 6 + 2 * k := ⟨_, rfl⟩
            rw [← hi] at HNk ⊢
            have HI := Lib.hid hi
            have hi1 : (i : Int) < 40 := by omega
            have hi2 : i + 2 ≤ 40 := by omega
            have p1 : (0 : Int) ≤ (i : Int) + 2 := by omega
            have p2 : (i : Int) + 2 ≤ 46 := by omega
            have p3 : (i : Int) ≤ (i : Int) + 2 := by omega
            have p4 : ((i : Int) + 2).toNat = i + 2 := by omega
            have e1 : IntKind.i64.wrap ((i : Int) + 2) = (i : Int) + 2 := IntWalk.i64_in _ (by omega)
            clear hi
            have HRk : Hid (wr.ownsRow (w.heap.size + 2) 3 1 (.slice A k c) k ((tabT t.data.toList k).map (Value.int .i64))) := Lib.hid (by have := HR.out; unfold GroI at this; rwa [tabT_len] at this)
            have HLz := Lib.hid (tabT_len t.data.toList k)
            generalize tabT t.data.toList k = zs at HRk HSt HLz
            have HOw : Hid ((wr.drew.alloc (.cells #[.int .i64 z] 3)).ownsRow (w.heap.size + 2) 3 1 (.slice A k c) k (zs.map (Value.int .i64))) := Lib.hid (rowv_below HRk.out (bt ((Below.refl _ _).drew) (alloc_below _ _)))
            have HNw : Hid (∀ j u, [Value.int .i64 z][j]? = some u → (wr.drew.alloc (.cells #[.int .i64 z] 3)).cell? ⟨wr.heap.size, j, none⟩ = some u) := Lib.hid (fun j u hj => by
              match j, hj with
              | 0, hj => simp at hj; subst hj; exact (Box.new wr.drew 3 #[.int .i64 z]).cell 0 rfl)
            have HBa : Hid (Below wr.heap.size wr (wr.drew.alloc (.cells #[.int .i64 z] 3))) := Lib.hid (bt ((Below.refl _ _).drew) (alloc_below _ _))
            have HXa : Hid (Box (wr.drew.alloc (.cells #[.int .i64 z] 3)) (w.heap.size + 1) 49 #[.int .i64 g, .slice A k c]) := Lib.hid (X1.out.step HBa.out)
            have f2 : (wr.alloc (.cells #[.int .i64 z] 3)).drew.cell? ⟨w.heap.size + 1, 1, none⟩ = some (.slice A k c) := HXa.out.cell 1 rfl
            go_wp2
            go_region_law (first
              | (refine step_app_one rfl (.tmp 35) (.tmp 42) 39 3 rfl (.int .i64 0) 1 8 elemInt Try.underlying39 (w.heap.size + 2) (.slice A k c) k (zs.map (Value.int .i64)) ?_ HOw.out wr.heap.size 1 ?_ [.int .i64 z] rfl HNw.out ?_ ?_ ?_ ?_ ?_; simp [Act.eval]; simp [Act.eval]; (intro u hu; simp at hu; subst hu; rfl); (unfold maxLen; omega); omega; (simp; omega); intro A' c' w4 hR4 hc4 hg4 hb4; have HX4 := Lib.hid (HXa.out.below hb4 (by omega)); have y0 := HX4.out.cell 1 rfl; have y1 := HX4.out.frozen 1)
              | ((rw [if_pos (by rfl)]); go_simp; go_at_call 112; refine (HNk.out _).mono ?_; rintro e w' ⟨rfl, rfl⟩))
            all_goals clear f1 f2 e1 p1 p2 p3 p4
            all_goals (
              have HR4 := Lib.hid hR4
              have hbz : Below w.heap.size w w4 := bt hbw (bt HBa.out (Below.refl _ _)) |>.trans (hb4.mono (by omega))
              have hs4 : w.heap.size + 2 ≤ w4.heap.size := Nat.le_trans (Nat.le_trans hsz HBa.out.size) hb4.size
              have HX0 := Lib.hid ((X0.out.step HBa.out).below hb4 (by omega))
              clear hR4 hb4 hg4 y0 y1
              go_wp2
              go_roundw
              case rel => exact ⟨k + 1, A', c', by omega, by have := HI.out; congr 1; omega, hbz.setCell (by show w.heap.size ≤ w.heap.size + 1; omega) _, Lib.hid (HX0.out.far (by show w.heap.size ≠ w.heap.size + 1; omega) _), Lib.hid (HX4.out.set 1 _), Lib.hid (by unfold GroI; rw [HSt.out, List.length_append]; have := rowv_set HR4.out (p := ⟨w.heap.size + 1, 1, none⟩) (by show w.heap.size + 1 < w.heap.size + 2; omega) (.slice A' (k + 1) c'); simpa [HLz.out] using this), by simpa [World.setCell] using hs4⟩
              case measure => simp [intOf]; omega)
          · obtain rfl : k = 17 := by omega
            have f0 := X1.out.cell 0 rfl
            have hlt' : ¬ ((6 + 2 * 17 : Nat) : Int) < 40 := by omega
            have HV := Lib.hid (rootValid g A 17 c (tabT t.data.toList 17) wr (tabT_len _ _) (by unfold maxLen; omega) (HR.out.own (Nat.le_refl _)).reads)
            have HG1 : Hid (¬ 65536 < t.size) := H1
            by_cases hv : rootB g (tabT t.data.toList 17) = true
            · rw [hv] at HV
              have HW : Hid (rdG t = genT t.data.toList ∧ rdZ t = tabT t.data.toList 17 ∧ rdC t = 0) := Lib.hid (by
                unfold rdG rdZ rdC; rw [if_neg H1.out, if_neg H1.out, if_neg H1.out, HB.out, if_pos hv, if_pos hv, if_pos hv]; exact ⟨rfl, rfl, rfl⟩)
              clear hv
              go_wp2_with fail
              refine HV.out.mono ?_
              rintro e w5 ⟨rfl, hb5⟩
              have HX1 := Lib.hid (X1.out.step hb5)
              have HX0 := Lib.hid (X0.out.step hb5)
              have y0 := HX1.out.cell 0 rfl
              have y1 := HX1.out.cell 1 rfl
              have y2 := HX0.out.cell 0 rfl
              have y3 := HX0.out.cell 1 rfl
              have y4 := HX0.out.frozen 0
              have y5 := HX0.out.frozen 1
              have HO := Lib.hid (((HR.out.own (lo := w.heap.size) (by omega)).below hb5))
              have hbz := bt hbw hb5
              clear f0 f1
              go_wp2
              refine bodyPost_ret (v := .tuple #[.agg #[.int .i64 g, .slice A 17 c], .int .i64 0]) (by simp [results, Try.results98, go_sem, y2, y3]) rfl ?_
              rw [HW.out.1, HW.out.2.1, HW.out.2.2, HGe.out]
              refine ⟨_, _, _, rfl, Lib.hid (tabT_len _ _), Lib.hid ?_, below_st2 hbz (Nat.le_refl _) _ _⟩
              exact (((HO.out.wide (Nat.le_refl _) hb5.size).far HX0.out (by decide) 0 _).far (HX0.out.set 0 _) (by decide) 1 _).wide (Nat.le_refl _) (by simp [World.setCell])
            · have hv' : rootB g (tabT t.data.toList 17) = false := by simpa using hv
              rw [hv'] at HV
              have HW : Hid (rdG t = 0 ∧ rdZ t = [] ∧ rdC t = 9) := Lib.hid (by
                unfold rdG rdZ rdC; rw [if_neg H1.out, if_neg H1.out, if_neg H1.out, HB.out, if_neg hv, if_neg hv, if_neg hv]; exact ⟨rfl, rfl, rfl⟩)
              clear hv hv'
              go_wp2_with fail
              refine HV.out.mono ?_
              rintro e w5 ⟨rfl, hb5⟩
              have HX0 := Lib.hid (X0.out.step hb5)
              have y2 := HX0.out.cell 0 rfl
              have y3 := HX0.out.cell 1 rfl
              have y4 := HX0.out.frozen 0
              have y5 := HX0.out.frozen 1
              have hbz := bt hbw hb5
              clear f0 f1
              go_wp2
              refine bodyPost_ret (v := .tuple #[.agg #[.int .i64 0, .slice none 0 0], .int .i64 9]) (by simp [results, Try.results98, go_sem, y2, y3]) rfl ?_
              rw [HW.out.1, HW.out.2.1, HW.out.2.2]
              exact givesR_none (below_st2 hbz (Nat.le_refl _) _ _)
      · have h4b : ((t.extract 0 6).toList == (t.extract 40 46).toList) = false := by
          rw [ByteArray.toList_eq, ByteArray.toList_eq, hX, hY]
          simp only [beq_eq_false_iff_ne, List.drop_zero]
          rw [List.take_of_length_le (l := t.data.toList.drop 40) (by rw [List.length_drop]; show t.size - 40 ≤ 6; omega)]
          exact h4
        have HW : Hid (rdG t = 0 ∧ rdZ t = [] ∧ rdC t = 9) := Lib.hid (by
          have : rdB t.data.toList = false := by
            unfold rdB
            rw [show decide (t.data.toList.take 6 = t.data.toList.drop 40) = false by exact decide_eq_false h4]
            simp
          unfold rdG rdZ rdC; rw [if_neg h1, if_neg h1, if_neg h1, this]; exact ⟨rfl, rfl, rfl⟩)
        rw [HW.out.1, HW.out.2.1, HW.out.2.2]
        clear h3 hX hY h4 h1
        go_enter Try.func98, Try.ntmps98
        go_wp2
        go_quiet (first | (go_at_call 111; exact quiet_same (HA.out _)))
        go_wp2
        refine bodyPost_ret (v := .tuple #[.agg #[.int .i64 0, .slice none 0 0], .int .i64 9]) (by simp [results, Try.results98, go_sem]) rfl ?_
        exact givesR_none (below_st2 (below_drewN hb0 _) (Nat.le_refl _) _ _)
    · have h3' : allDig t.data.toList = false := by simpa using h3
      rw [h3'] at HA
      have HW : Hid (rdG t = 0 ∧ rdZ t = [] ∧ rdC t = 9) := Lib.hid (by
        have : rdB t.data.toList = false := by unfold rdB; rw [h3']; simp
        unfold rdG rdZ rdC; rw [if_neg h1, if_neg h1, if_neg h1, this]; exact ⟨rfl, rfl, rfl⟩)
      rw [HW.out.1, HW.out.2.1, HW.out.2.2]
      clear h3 h3' h1
      go_enter Try.func98, Try.ntmps98
      go_wp2
      go_quiet (first | (go_at_call 111; exact quiet_same (HA.out _)))
      go_wp2
      refine bodyPost_ret (v := .tuple #[.agg #[.int .i64 0, .slice none 0 0], .int .i64 9]) (by simp [results, Try.results98, go_sem]) rfl ?_
      exact givesR_none (below_st2 (below_drewN hb0 _) (Nat.le_refl _) _ _)
  · have h2b : ((t.size : Int) != 46) = true := by simp; omega
    have HW : Hid (rdG t = 0 ∧ rdZ t = [] ∧ rdC t = 9) := Lib.hid (by
      have : rdB t.data.toList = false := by unfold rdB; rw [show decide (t.data.toList.length = 46) = false by exact decide_eq_false h2]; simp
      unfold rdG rdZ rdC; rw [if_neg h1, if_neg h1, if_neg h1, this]; exact ⟨rfl, rfl, rfl⟩)
    rw [HW.out.1, HW.out.2.1, HW.out.2.2]
    clear h1
    go_enter Try.func98, Try.ntmps98
    go_wp2
    go_quiet (fail)
    go_wp2
    refine bodyPost_ret (v := .tuple #[.agg #[.int .i64 0, .slice none 0 0], .int .i64 9]) (by simp [results, Try.results98, go_sem]) rfl ?_
    exact givesR_none (below_st2 (below_drewN hb0 _) (Nat.le_refl _) _ _)
end Go.Proofs.Ytlfmniekbiffjaa

/- The contracts of spec.l02Read and spec.ReadRoot. -/
namespace Go.Proofs.Ytlfmniekbiffjaa
open Go.RowKit

/-- The call hands back a root of its own, and whether it is one. -/
def GivesRootOk (g : Int) (zs : List Int) (ok : Bool) (w : World) (e : Ending) (w' : World) : Prop :=
  ∃ A n c, e = .returned (.tuple #[.agg #[.int .i64 g, .slice A n c], .bool ok]) ∧ Hid (zs.length = n) ∧ Hid (OwnI w' w.heap.size w'.heap.size A zs) ∧ Below w.heap.size w w'
theorem givesO_none {w w' : World} (h : Below w.heap.size w w') : GivesRootOk 0 [] false w (.returned (.tuple #[.agg #[.int .i64 0, .slice none 0 0], .bool false])) w' :=
  ⟨_, _, _, rfl, Lib.hid rfl, Lib.hid (.inl rfl), h⟩
def okG (l : List UInt8) : Int := if rdB l = true then genT l else 0
def okZ (l : List UInt8) : List Int := if rdB l = true then tabT l 17 else []
theorem ok_no {l : List UInt8} (h : rdB l = false) : okG l = 0 ∧ okZ l = [] := by unfold okG okZ; rw [h]; exact ⟨rfl, rfl⟩

set_option maxRecDepth 100000 in
set_option maxHeartbeats 4000000 in
theorem l02Read (t : ByteArray) (w : World) (ht : t.size ≤ maxLen) :
    Calls Try.prog 101 #[.string t] w (GivesRootOk (okG t.data.toList) (okZ t.data.toList) (rdB t.data.toList) w) := by
  unfold maxLen at ht
  have hb0 := alloc_below w (.cells #[.int .i64 0, .slice none 0 0] 49)
  by_cases h2 : t.size = 46
  · have h2' : (t.size : Int) = 46 := by omega
    have h2b : ((t.size : Int) != 46) = false := by rw [h2']; rfl
    go_enter Try.func101, Try.ntmps101
    go_wp2
    go_loop [4] (fun i => ∃ k : Nat, k ≤ t.size ∧ i = .int .i64 k ∧ Hid (allDig t.data.toList = allDig (t.data.toList.drop k))) (fun i => t.size - (intOf i).toNat)
    case atStart => exact ⟨0, Nat.zero_le _, rfl, Lib.hid rfl⟩
    case round =>
      obtain ⟨k, hk, rfl, HTk⟩ := hrel
      by_cases hlt : k < t.size
      · have HS := Lib.hid (allDig_step t k hlt)
        have HC := Lib.hid (fun W => l00Digit (t[k].toNat : Int) W)
        by_cases hE : digB (t[k].toNat : Int) = true
        · have HE := Lib.hid hE
          rw [hE] at HC
          clear hE
          go_wp2_with (first | (go_at_call 114; refine (HC.out _).mono ?_; rintro e w' ⟨rfl, rfl⟩))
          go_round
          case rel => exact ⟨k + 1, by omega, by go_num, Lib.hid (by rw [HTk.out, HS.out, HE.out]; rfl)⟩
          case measure => simp [intOf]; omega
        · have hE' : digB (t[k].toNat : Int) = false := by simpa using hE
          have HE := Lib.hid hE'
          rw [hE'] at HC
          clear hE hE'
          go_wp2_with (first | (go_at_call 114; refine (HC.out _).mono ?_; rintro e w' ⟨rfl, rfl⟩))
          refine bodyPost_ret (v := .tuple #[.agg #[.int .i64 0, .slice none 0 0], .bool false]) (by simp [results, Try.results101, go_sem]) rfl ?_
          have hn : rdB t.data.toList = false := by unfold rdB; rw [HTk.out, HS.out, HE.out]; simp
          rw [(ok_no hn).1, (ok_no hn).2, hn]
          exact givesO_none hb0
      · have h3 : allDig t.data.toList = true := by rw [HTk.out]; exact allDig_end t k (by omega)
        have H3 := Lib.hid h3
        have HNg := Lib.hid (fun W => l02Fixed (t.extract 0 6) W (by rw [ByteArray.size_extract]; omega) (by rw [ext_list]; exact allDig_take _ _ (allDig_drop _ _ h3)))
        rw [ext_list, List.drop_zero, show 6 - 0 = 6 from rfl] at HNg
        rw [show ((numOf (t.data.toList.take 6) : Nat) : Int) = genT t.data.toList from rfl] at HNg
        generalize hge : genT t.data.toList = g at HNg
        have HGe := Lib.hid hge
        obtain rfl : k = 46 := by omega
        have HB : Hid (rdB t.data.toList = (decide (t.data.toList.take 6 = t.data.toList.drop 40) && rootB g (tabT t.data.toList 17))) := Lib.hid (by
          unfold rdB
          rw [show decide (t.data.toList.length = 46) = true by exact decide_eq_true h2, h3, hge]
          simp)
        have hX := ext_list t 0 6
        have hY := ext_list t 40 46
        have H4 : Hid (((t.extract 40 46).toList == (t.extract 0 6).toList) = decide (t.data.toList.take 6 = t.data.toList.drop 40)) := Lib.hid (by
          rw [ByteArray.toList_eq, ByteArray.toList_eq, hX, hY, Bool.eq_iff_iff]
          simp only [beq_iff_eq, List.drop_zero, decide_eq_true_eq]
          rw [List.take_of_length_le (l := t.data.toList.drop 40) (by rw [List.length_drop]; show t.size - 40 ≤ 6; omega)]
          exact eq_comm)
        clear hge h3 HTk hX hY
        go_wp2_with fail
        refine (HNg.out _).mono ?_
        rintro e w' ⟨rfl, rfl⟩
        go_wp2
        obtain ⟨W1, hW1⟩ : ∃ W1, W1 = ((w.alloc (.cells #[.int .i64 0, .slice none 0 0] 49)).alloc (.cells #[] 3)).alloc (.cells #[.int .i64 g, .slice (some ⟨w.heap.size + 1, 0, none⟩) 0 0] 49) := ⟨_, rfl⟩
        have hb1 : Below w.heap.size w W1 := by rw [hW1]; exact bt (bt hb0 (alloc_below _ _)) (alloc_below _ _)
        have X0 : Hid (Box W1 w.heap.size 49 #[.int .i64 0, .slice none 0 0]) := Lib.hid (by rw [hW1]; exact ((Box.new _ _ _).alloc _).alloc _)
        have X1 : Hid (Box W1 (w.heap.size + 1 + 1) 49 #[.int .i64 g, .slice (some ⟨w.heap.size + 1, 0, none⟩) 0 0]) := Lib.hid (by
          rw [hW1]; simpa using Box.new ((w.alloc (.cells #[.int .i64 0, .slice none 0 0] 49)).alloc (.cells #[] 3)) 49 #[.int .i64 g, .slice (some ⟨w.heap.size + 1, 0, none⟩) 0 0])
        have X2 : Hid (Box W1 (w.heap.size + 1) 3 #[]) := Lib.hid (by
          rw [hW1]; exact (by simpa using Box.new (w.alloc (.cells #[.int .i64 0, .slice none 0 0] 49)) 3 #[] : Box ((w.alloc (.cells #[.int .i64 0, .slice none 0 0] 49)).alloc (.cells #[] 3)) (w.heap.size + 1) 3 #[]).alloc _)
        have hsz : w.heap.size + 2 ≤ W1.heap.size := by have := X1.out.lt; omega
        have HR0 : Hid (GroI W1 (w.heap.size + 1) (.slice (some ⟨w.heap.size + 1, 0, none⟩) 0 0) (tabT t.data.toList 0)) := Lib.hid (rowv_empty (Nat.le_refl _) X2.out)
        rw [← hW1]
        clear hW1 hb0 HNg h2b X2
        have HT := Lib.hid (And.intro h2 ht)
        clear h2 ht hk hlt
        go_loopw [6] (fun i wr => ∃ (k : Nat) (A : Option Addr) (c : Nat), k ≤ 17 ∧ i = .int .i64 (k : Int) ∧ Below w.heap.size w wr ∧ Hid (Box wr w.heap.size 49 #[.int .i64 0, .slice none 0 0]) ∧ Hid (Box wr (w.heap.size + 1 + 1) 49 #[.int .i64 g, .slice A k c]) ∧ Hid (GroI wr (w.heap.size + 1) (.slice A k c) (tabT t.data.toList k)) ∧ k ≤ c ∧ w.heap.size + 2 ≤ wr.heap.size) (fun i _ => 17 - (intOf i).toNat)
        case atStart => exact ⟨0, _, 0, by omega, rfl, hb1, X0, X1, HR0, Nat.le_refl _, hsz⟩
        case round =>
          clear X0 X1 hb1 hsz HR0
          obtain ⟨k, A, c, hk, rfl, hbw, X0, X1, HR, hcap, hsz⟩ := hrel
          have f1 := X1.out.cell 1 rfl
          by_cases hlt : k < 17
          · have HNk := Lib.hid (fun W => l02Fixed (t.extract (6 + 2 * k) (8 + 2 * k)) W (by rw [ByteArray.size_extract]; have := HT.out.1; omega) (by rw [ext_list]; exact allDig_take _ _ (allDig_drop _ _ H3.out)))
            rw [ext_list, show 8 + 2 * k - (6 + 2 * k) = 2 by omega, show ((numOf ((t.data.toList.drop (6 + 2 * k)).take 2) : Nat) : Int) = secT t.data.toList k from rfl] at HNk
            have HSt := Lib.hid (tabT_step t.data.toList k)
            generalize secT t.data.toList k = z at HNk HSt
            have hi1 : (k : Int) < 17 := by omega
            have p1 : (0 : Int) ≤ 6 + 2 * (k : Int) := by omega
            have p2 : 8 + 2 * (k : Int) ≤ 46 := by omega
            have p3 : 6 + 2 * (k : Int) ≤ 8 + 2 * (k : Int) := by omega
            have p5 : (0 : Int) ≤ 8 + 2 * (k : Int) := by omega
            have e1 : IntKind.i64.wrap (2 * (k : Int)) = 2 * (k : Int) := IntWalk.i64_in _ (by omega)
            have e2 : IntKind.i64.wrap (6 + 2 * (k : Int)) = 6 + 2 * (k : Int) := IntWalk.i64_in _ (by omega)
            have e3 : IntKind.i64.wrap (8 + 2 * (k : Int)) = 8 + 2 * (k : Int) := IntWalk.i64_in _ (by omega)
            have p4 : (6 + 2 * (k : Int)).toNat = 6 + 2 * k := by omega
            have p6 : (8 + 2 * (k : Int)).toNat = 8 + 2 * k := by omega
            have HRk : Hid (wr.ownsRow (w.heap.size + 1) 3 1 (.slice A k c) k ((tabT t.data.toList k).map (Value.int .i64))) := Lib.hid (by have := HR.out; unfold GroI at this; rwa [tabT_len] at this)
            have HLz := Lib.hid (tabT_len t.data.toList k)
            generalize tabT t.data.toList k = zs at HRk HSt HLz
            have HBa : Hid (Below wr.heap.size wr (wr.drew.alloc (.cells #[.int .i64 z] 3))) := Lib.hid (bt ((Below.refl _ _).drew) (alloc_below _ _))
            have HOw : Hid ((wr.drew.alloc (.cells #[.int .i64 z] 3)).ownsRow (w.heap.size + 1) 3 1 (.slice A k c) k (zs.map (Value.int .i64))) := Lib.hid (rowv_below HRk.out HBa.out)
            have HNw : Hid (∀ j u, [Value.int .i64 z][j]? = some u → (wr.drew.alloc (.cells #[.int .i64 z] 3)).cell? ⟨wr.heap.size, j, none⟩ = some u) := Lib.hid (fun j u hj => by
              match j, hj with
              | 0, hj => simp at hj; subst hj; exact (Box.new wr.drew 3 #[.int .i64 z]).cell 0 rfl)
            have HXa : Hid (Box (wr.drew.alloc (.cells #[.int .i64 z] 3)) (w.heap.size + 1 + 1) 49 #[.int .i64 g, .slice A k c]) := Lib.hid (X1.out.step HBa.out)
            have f2 : (wr.alloc (.cells #[.int .i64 z] 3)).drew.cell? ⟨w.heap.size + 1 + 1, 1, none⟩ = some (.slice A k c) := HXa.out.cell 1 rfl
            go_wp2
            go_region_law (first
              | (refine step_app_one rfl (.tmp 33) (.tmp 43) 39 3 rfl (.int .i64 0) 1 8 elemInt Try.underlying39 (w.heap.size + 1) (.slice A k c) k (zs.map (Value.int .i64)) ?_ HOw.out wr.heap.size 1 ?_ [.int .i64 z] rfl HNw.out ?_ ?_ ?_ ?_ ?_; simp [Act.eval]; simp [Act.eval]; (intro u hu; simp at hu; subst hu; rfl); (unfold maxLen; omega); omega; (simp; omega); intro A' c' w4 hR4 hc4 hg4 hb4; have HX4 := Lib.hid (HXa.out.grown HOw.out (by decide) hg4); have y0 := HX4.out.cell 1 rfl; have y1 := HX4.out.frozen 1)
              | ((rw [if_pos (by rfl)]); go_simp; go_at_call 115; refine (HNk.out _).mono ?_; rintro e w' ⟨rfl, rfl⟩))
            all_goals clear f1 f2 e1 e2 e3 p1 p2 p3 p4 p5 p6
            all_goals (
              have HR4 := Lib.hid hR4
              have hbz : Below w.heap.size w w4 := bt hbw (bt HBa.out (Below.refl _ _)) |>.trans (hb4.mono (by omega))
              have hs4 : w.heap.size + 2 ≤ w4.heap.size := Nat.le_trans (Nat.le_trans hsz HBa.out.size) hb4.size
              have HX0 := Lib.hid ((X0.out.step HBa.out).below hb4 (by omega))
              have HRs : Hid ((w4.setCell ⟨w.heap.size + 1 + 1, 1, none⟩ (.slice A' (k + 1) c')).ownsRow (w.heap.size + 1) 3 1 (.slice A' (k + 1) c') (k + 1) (zs.map (Value.int .i64) ++ [.int .i64 z])) := Lib.hid (rowv_setBox HR4.out HX4.out (by decide) 1 _)
              clear hR4 hb4 hg4 y0 y1
              go_wp2
              go_roundw
              case rel => exact ⟨k + 1, A', c', by omega, by go_num, hbz.setCell (by show w.heap.size ≤ w.heap.size + 1 + 1; omega) _, Lib.hid (HX0.out.far (by show w.heap.size ≠ w.heap.size + 1 + 1; omega) _), Lib.hid (HX4.out.set 1 _), Lib.hid (by unfold GroI; rw [HSt.out, List.length_append]; have := HRs.out; simpa [HLz.out] using this), hc4, by simpa [World.setCell] using hs4⟩
              case measure => simp [intOf]; omega)
          · obtain rfl : k = 17 := by omega
            have f0 := X1.out.cell 0 rfl
            have h2' : t.size = 46 := HT.out.1
            have HV := Lib.hid (fun W hW => specRootOK g A 17 c (tabT t.data.toList 17) W (tabT_len _ _) (by unfold maxLen; omega) hcap hW)
            have HRr := Lib.hid ((HR.out.own (Nat.le_refl _)).reads)
            by_cases hv : rootB g (tabT t.data.toList 17) = true
            · rw [hv] at HV
              by_cases h4 : t.data.toList.take 6 = t.data.toList.drop 40
              · have hq : ((t.extract 40 46).toList == (t.extract 0 6).toList) = true := by rw [H4.out]; exact decide_eq_true h4
                have HN : Hid (rdB t.data.toList = true) := Lib.hid (by rw [HB.out, hv, show decide (t.data.toList.take 6 = t.data.toList.drop 40) = true from decide_eq_true h4]; rfl)
                clear hv h4
                have h6 : Below wr.heap.size wr wr.drew := (Below.refl _ _).drew
                have HK : Hid (∀ W', Below wr.heap.size wr W' → W'.cell? ⟨w.heap.size + 1 + 1, 0, none⟩ = some (.int .i64 g) ∧ W'.cell? ⟨w.heap.size + 1 + 1, 1, none⟩ = some (.slice A 17 c)) := Lib.hid (fun W' hb => ⟨(X1.out.step hb).cell 0 rfl, (X1.out.step hb).cell 1 rfl⟩)
                have e9 : IntKind.i64.wrap 40 = 40 := IntWalk.i64_in _ (by omega)
                have e8 : IntKind.i64.wrap (46 - 6) = 40 := IntWalk.i64_in _ (by omega)
                go_wp2
                go_region_held3 (fun W' => W'.cell? ⟨w.heap.size + 1 + 1, 0, none⟩ = some (.int .i64 g) ∧ W'.cell? ⟨w.heap.size + 1 + 1, 1, none⟩ = some (.slice A 17 c))
                  (first | exact HK.out _ h6 | exact HK.out _ (bt h6 hb5))
                  (first | (go_at_call 116; refine (HV.out wr.drew ?_).mono ?_; exact HRr.out; rintro e w5 ⟨rfl, hb5⟩))
                have hb5' := bt h6 hb5
                have HX1 := Lib.hid (X1.out.step hb5')
                have HX0 := Lib.hid (X0.out.step hb5')
                have y0 := HX1.out.cell 0 rfl
                have y1 := HX1.out.cell 1 rfl
                have y2 := HX0.out.cell 0 rfl
                have y3 := HX0.out.cell 1 rfl
                have y4 := HX0.out.frozen 0
                have y5 := HX0.out.frozen 1
                have HO := Lib.hid ((HR.out.own (lo := w.heap.size) (by omega)).below hb5')
                have hbz := bt hbw hb5'
                clear f0 f1 e8 e9 hb5
                go_wp2
                refine bodyPost_ret (v := .tuple #[.agg #[.int .i64 g, .slice A 17 c], .bool true]) (by simp [results, Try.results101, go_sem, y2, y3]) rfl ?_
                have hG : okG t.data.toList = g := by unfold okG; rw [if_pos HN.out, HGe.out]
                have hZ : okZ t.data.toList = tabT t.data.toList 17 := by unfold okZ; rw [if_pos HN.out]
                rw [hG, hZ, HN.out]
                refine ⟨_, _, _, rfl, Lib.hid (tabT_len _ _), Lib.hid ?_, below_st2 hbz (Nat.le_refl _) _ _⟩
                exact (((HO.out.wide (Nat.le_refl _) hb5'.size).far HX0.out (by decide) 0 _).far (HX0.out.set 0 _) (by decide) 1 _).wide (Nat.le_refl _) (by simp [World.setCell])
              · have hq : ((t.extract 40 46).toList == (t.extract 0 6).toList) = false := by rw [H4.out]; exact decide_eq_false h4
                have HN : Hid (rdB t.data.toList = false) := Lib.hid (by rw [HB.out, show decide (t.data.toList.take 6 = t.data.toList.drop 40) = false from decide_eq_false h4]; rfl)
                clear hv h4
                have h6 : Below wr.heap.size wr wr.drew := (Below.refl _ _).drew
                have HK : Hid (∀ W', Below wr.heap.size wr W' → W'.cell? ⟨w.heap.size + 1 + 1, 0, none⟩ = some (.int .i64 g) ∧ W'.cell? ⟨w.heap.size + 1 + 1, 1, none⟩ = some (.slice A 17 c)) := Lib.hid (fun W' hb => ⟨(X1.out.step hb).cell 0 rfl, (X1.out.step hb).cell 1 rfl⟩)
                have e9 : IntKind.i64.wrap 40 = 40 := IntWalk.i64_in _ (by omega)
                have e8 : IntKind.i64.wrap (46 - 6) = 40 := IntWalk.i64_in _ (by omega)
                go_wp2
                go_region_held3 (fun W' => W'.cell? ⟨w.heap.size + 1 + 1, 0, none⟩ = some (.int .i64 g) ∧ W'.cell? ⟨w.heap.size + 1 + 1, 1, none⟩ = some (.slice A 17 c))
                  (first | exact HK.out _ h6 | exact HK.out _ (bt h6 hb5))
                  (first | (go_at_call 116; refine (HV.out wr.drew ?_).mono ?_; exact HRr.out; rintro e w5 ⟨rfl, hb5⟩))
                have hb5' := bt h6 hb5
                have HX1 := Lib.hid (X1.out.step hb5')
                have HX0 := Lib.hid (X0.out.step hb5')
                have y0 := HX1.out.cell 0 rfl
                have y1 := HX1.out.cell 1 rfl
                have y2 := HX0.out.cell 0 rfl
                have y3 := HX0.out.cell 1 rfl
                have y4 := HX0.out.frozen 0
                have y5 := HX0.out.frozen 1
                have HO := Lib.hid ((HR.out.own (lo := w.heap.size) (by omega)).below hb5')
                have hbz := bt hbw hb5'
                clear f0 f1 e8 e9 hb5
                go_wp2
                refine bodyPost_ret (v := .tuple #[.agg #[.int .i64 0, .slice none 0 0], .bool false]) (by simp [results, Try.results101, go_sem, y2, y3]) rfl ?_
                rw [(ok_no HN.out).1, (ok_no HN.out).2, HN.out]
                exact givesO_none (below_st2 hbz (Nat.le_refl _) _ _)
            · have hv' : rootB g (tabT t.data.toList 17) = false := by simpa using hv
              rw [hv'] at HV
              have HN : Hid (rdB t.data.toList = false) := Lib.hid (by rw [HB.out, hv']; simp)
              clear hv hv'
              have h6 : Below wr.heap.size wr wr.drew := (Below.refl _ _).drew
              have HK : Hid (∀ W', Below wr.heap.size wr W' → W'.cell? ⟨w.heap.size + 1 + 1, 0, none⟩ = some (.int .i64 g) ∧ W'.cell? ⟨w.heap.size + 1 + 1, 1, none⟩ = some (.slice A 17 c)) := Lib.hid (fun W' hb => ⟨(X1.out.step hb).cell 0 rfl, (X1.out.step hb).cell 1 rfl⟩)
              have e9 : IntKind.i64.wrap 40 = 40 := IntWalk.i64_in _ (by omega)
              have e8 : IntKind.i64.wrap (46 - 6) = 40 := IntWalk.i64_in _ (by omega)
              go_wp2
              refine wp_region_any (by kernel_rfl) ?_
              change wpAny _ _ _ _ _ _ _ (World.drew _)
              refine wpAny_ready (rs := [0]) (by kernel_rfl) (by simp) ?_
              refine AllReady.cons rfl (fun K hK => ?_) AllReady.nil
              go_simp
              refine hK _ _ ?_
              clear hK K
              refine wpAny_ready (rs := [1]) (by kernel_rfl) (by simp) ?_
              refine AllReady.cons rfl (fun K hK => ?_) AllReady.nil
              go_simp
              refine (HV.out wr.drew HRr.out).mono ?_
              rintro e w5 ⟨rfl, hb5⟩
              refine hK _ _ ?_
              clear hK K
              refine wpAny_take (i := 2) (v := .bool true) rfl (by kernel_rfl) (by kernel_rfl) (by kernel_rfl) (fun _ _ _ h => h) (Or.inl ⟨by rfl, by intro w; go_simp⟩) ?_
              refine wpAny_take (i := 3) (v := .bool true) rfl (by kernel_rfl) (by kernel_rfl) (by kernel_rfl) (fun _ _ _ h => h) (Or.inl ⟨by rfl, by intro w; go_simp⟩) ?_
              refine wpAny_take (i := 4) (v := undef) rfl (by kernel_rfl) (by kernel_rfl) (by kernel_rfl) (fun _ _ _ h => h) (Or.inr ⟨by kernel_rfl, rfl⟩) ?_
              refine wpAny_take (i := 5) (v := undef) rfl (by kernel_rfl) (by kernel_rfl) (by kernel_rfl) (fun _ _ _ h => h) (Or.inr ⟨by kernel_rfl, rfl⟩) ?_
              refine wpAny_take (i := 6) (v := undef) rfl (by kernel_rfl) (by kernel_rfl) (by kernel_rfl) (fun _ _ _ h => h) (Or.inr ⟨by kernel_rfl, rfl⟩) ?_
              refine wpAny_take (i := 7) (v := undef) rfl (by kernel_rfl) (by kernel_rfl) (by kernel_rfl) (fun _ _ _ h => h) (Or.inr ⟨by kernel_rfl, rfl⟩) ?_
              refine wpAny_take (i := 8) (v := undef) rfl (by kernel_rfl) (by kernel_rfl) (by kernel_rfl) (fun _ _ _ h => h) (Or.inr ⟨by kernel_rfl, rfl⟩) ?_
              refine wpAny_take (i := 9) (v := undef) rfl (by kernel_rfl) (by kernel_rfl) (by kernel_rfl) (fun _ _ _ h => h) (Or.inr ⟨by kernel_rfl, rfl⟩) ?_
              refine wpAny_take (i := 10) (v := undef) rfl (by kernel_rfl) (by kernel_rfl) (by kernel_rfl) (fun _ _ _ h => h) (Or.inr ⟨by kernel_rfl, rfl⟩) ?_
              refine wpAny_take (i := 11) (v := undef) rfl (by kernel_rfl) (by kernel_rfl) (by kernel_rfl) (fun _ _ _ h => h) (Or.inr ⟨by kernel_rfl, rfl⟩) ?_
              simp only [List.getElem_toArray, List.getElem_cons_zero, List.getElem_cons_succ, Act.put, List.setIfInBounds_toArray, List.set_cons_zero, List.set_cons_succ]
              refine wpAny_take (i := 12) (v := .bool true) rfl (by kernel_rfl) (by kernel_rfl) (by kernel_rfl) (fun _ _ _ h => h) (Or.inl ⟨by kernel_rfl, by intro w; go_simp⟩) ?_
              refine wpAny_done (by kernel_rfl) ?_ _
              simp only [List.getElem_toArray, List.getElem_cons_zero, List.getElem_cons_succ, Act.put, List.setIfInBounds_toArray, List.set_cons_zero, List.set_cons_succ]
              have hb5' := bt h6 hb5
              have HX1 := Lib.hid (X1.out.step hb5')
              have HX0 := Lib.hid (X0.out.step hb5')
              have y0 := HX1.out.cell 0 rfl
              have y1 := HX1.out.cell 1 rfl
              have y2 := HX0.out.cell 0 rfl
              have y3 := HX0.out.cell 1 rfl
              have y4 := HX0.out.frozen 0
              have y5 := HX0.out.frozen 1
              have HO := Lib.hid ((HR.out.own (lo := w.heap.size) (by omega)).below hb5')
              have hbz := bt hbw hb5'
              clear f0 f1 e8 e9 hb5
              go_wp2
              refine bodyPost_ret (v := .tuple #[.agg #[.int .i64 0, .slice none 0 0], .bool false]) (by simp [results, Try.results101, go_sem, y2, y3]) rfl ?_
              rw [(ok_no HN.out).1, (ok_no HN.out).2, HN.out]
              exact givesO_none (below_st2 hbz (Nat.le_refl _) _ _)
  · have h2b : ((t.size : Int) != 46) = true := by simp; omega
    have HW := Lib.hid (show rdB t.data.toList = false by unfold rdB; rw [show decide (t.data.toList.length = 46) = false by exact decide_eq_false h2]; simp)
    go_enter Try.func101, Try.ntmps101
    go_wp2
    refine bodyPost_ret (v := .tuple #[.agg #[.int .i64 0, .slice none 0 0], .bool false]) (by simp [results, Try.results101, go_sem]) rfl ?_
    rw [(ok_no HW.out).1, (ok_no HW.out).2, HW.out]
    exact givesO_none hb0

theorem rd_ok (t : ByteArray) (h : ¬ 65536 < t.size) : rdG t = okG t.data.toList ∧ rdZ t = okZ t.data.toList ∧ rdC t = if rdB t.data.toList = true then 0 else 9 := by
  unfold rdG rdZ rdC okG okZ
  rw [if_neg h, if_neg h, if_neg h]; exact ⟨rfl, rfl, rfl⟩
theorem OwnI.two {w : World} {lo hi b : Nat} {A : Option Addr} {zs : List Int} {t : TypeId} {cs : Array Value} (h : OwnI w lo hi A zs) (X : Box w b t cs) (ht : t ≠ 3) (u v : Value) : OwnI ((w.setCell ⟨b, 0, none⟩ u).setCell ⟨b, 1, none⟩ v) lo hi A zs :=
  (h.far X ht 0 u).far (X.set 0 u) ht 1 v

end Go.Proofs.Ytlfmniekbiffjaa

/- Contracts of l01Read and of both ReadDisk. -/
namespace Go.Proofs.Ytlfmniekbiffjaa
open Go.RowKit

/-- The last of the first k writes to a sector. -/
def down (ws : List (Int × ByteArray)) (at_ : Int) : Nat → Option ByteArray
  | 0 => none
  | k + 1 => if (ws.getD k (0, ByteArray.empty)).1 = at_ then some (ws.getD k (0, ByteArray.empty)).2 else down ws at_ k
def readS (ss : List ByteArray) (ws : List (Int × ByteArray)) (at_ : Int) : ByteArray :=
  match down ws at_ ws.length with
  | some s => s
  | none => ss.getD at_.toNat ByteArray.empty
theorem readS_hit {ss : List ByteArray} {ws : List (Int × ByteArray)} {at_ : Int} {m : Nat} {s : ByteArray} (hm : ws.length = m) (h : down ws at_ m = some s) : readS ss ws at_ = s := by unfold readS; rw [hm, h]
theorem readS_miss {ss : List ByteArray} {ws : List (Int × ByteArray)} {at_ : Int} {m : Nat} (hm : ws.length = m) (h : down ws at_ m = none) : readS ss ws at_ = ss.getD at_.toNat ByteArray.empty := by unfold readS; rw [hm, h]
theorem down_step (ws : List (Int × ByteArray)) (at_ : Int) (j : Nat) : down ws at_ ((j : Int) + 1).toNat = if (ws.getD j (0, ByteArray.empty)).1 = at_ then some (ws.getD j (0, ByteArray.empty)).2 else down ws at_ j := by
  rw [show ((j : Int) + 1).toNat = j + 1 by omega]; rfl

theorem ret_str {a b : ByteArray} (h : a = b) : Ending.returned (.string a) = .returned (.string b) := by rw [h]
theorem ret_str_int {a b : ByteArray} {x y : Int} (h : a = b) (k : x = y) : Ending.returned (.tuple #[.string a, .int .i64 x]) = .returned (.tuple #[.string b, .int .i64 y]) := by rw [h, k]

set_option maxRecDepth 100000 in
set_option maxHeartbeats 2000000 in
theorem l01Read (A C : Option Addr) (n c m d : Nat) (ss : List ByteArray) (ws : List (Int × ByteArray)) (k : Nat) (w : World) (hl : ss.length = n) (hm : ws.length = m) (_hn : n ≤ maxLen) (hmm : m ≤ maxLen) (h : StrL w A ss) (g : WrL w C ws) (hk : k < n) :
    Calls Try.prog 102 #[.agg #[.slice A n c, .slice C m d], .int .i64 k] w fun e w' => e = .returned (.string (readS ss ws k)) ∧ Below w.heap.size w w' := by
  unfold maxLen at hmm
  have hb0 : Below w.heap.size w (w.alloc (.cells #[.slice A n c, .slice C m d] 30)) := (Below.refl _ _).alloc (Nat.le_refl _) _
  have HL := Lib.hid hl
  have HM := Lib.hid hm
  have H := Lib.hid (h.below hb0)
  have G := Lib.hid (g.below hb0)
  clear hl hm h g
  have hk' : (k : Int) < (n : Int) := by omega
  go_enter Try.func102, Try.ntmps102
  go_wp2
  go_loop [5] (fun i => ∃ z : Int, i = .int .i64 z ∧ -1 ≤ z ∧ z < m ∧ Hid (down ws k m = down ws k (z + 1).toNat)) (fun i => (intOf i + 1).toNat)
  case atStart => exact ⟨_, rfl, by omega, by omega, Lib.hid (by rw [show ((m : Int) - 1 + 1).toNat = m by omega])⟩
  case round =>
    obtain ⟨z, rfl, hz1, hz2, HT⟩ := hrel
    by_cases hz : 0 ≤ z
    · obtain ⟨j, rfl⟩ : ∃ j : Nat, z = j := ⟨z.toNat, by omega⟩
      obtain ⟨b, off, rfl, hc, hd⟩ := G.out j (by rw [HM.out]; omega)
      have HS := Lib.hid (down_step ws k j)
      generalize ws.getD j (0, ByteArray.empty) = x at hc hd HS
      obtain ⟨x1, x2⟩ := x
      simp only at hc hd
      have hi : (j : Int) < (m : Int) := hz2
      by_cases hE : x1 = (k : Int)
      · have hq : (x1 == (k : Int)) = true := by simp [hE]
        have HE := Lib.hid hE
        clear hE
        go_wp2
        go_ret
        exact ⟨ret_str (readS_hit HM.out (by rw [HT.out, HS.out]; simp [HE.out])).symm, hb0⟩
      · have hq : (x1 == (k : Int)) = false := by simp [hE]
        have HE := Lib.hid hE
        clear hE
        go_wp2
        go_round
        case rel => exact ⟨_, rfl, by omega, by omega, Lib.hid (by rw [HT.out, HS.out, if_neg HE.out, show ((j : Int) - 1 + 1).toNat = j by omega])⟩
        case measure => simp [intOf]
    · obtain ⟨b, off, rfl, hc⟩ := H.out k (by rw [HL.out]; exact hk)
      have HF := Lib.hid (readS_miss (ss := ss) HM.out (by rw [HT.out, show (z + 1).toNat = 0 by omega]; rfl))
      have hz' : z < 0 := by omega
      go_wp2
      go_ret
      exact ⟨ret_str (by rw [HF.out]; rfl), hb0⟩

set_option maxRecDepth 100000 in
set_option maxHeartbeats 2000000 in
theorem content (A C : Option Addr) (n c m d : Nat) (ss : List ByteArray) (ws : List (Int × ByteArray)) (k : Nat) (w : World) (hl : ss.length = n) (hm : ws.length = m) (_hn : n ≤ maxLen) (hmm : m ≤ maxLen) (h : StrL w A ss) (g : WrL w C ws) (hk : k < n) :
    Calls Try.prog 99 #[.agg #[.slice A n c, .slice C m d], .int .i64 k] w fun e w' => e = .returned (.string (readS ss ws k)) ∧ Below w.heap.size w w' := by
  unfold maxLen at hmm
  have hb0 : Below w.heap.size w (w.alloc (.cells #[.slice A n c, .slice C m d] 30)) := (Below.refl _ _).alloc (Nat.le_refl _) _
  have HL := Lib.hid hl
  have HM := Lib.hid hm
  have H := Lib.hid (h.below hb0)
  have G := Lib.hid (g.below hb0)
  clear hl hm h g
  have hk' : (k : Int) < (n : Int) := by omega
  go_enter Try.func99, Try.ntmps99
  go_wp2
  go_loop [5] (fun i => ∃ z : Int, i = .int .i64 z ∧ -1 ≤ z ∧ z < m ∧ Hid (down ws k m = down ws k (z + 1).toNat)) (fun i => (intOf i + 1).toNat)
  case atStart => exact ⟨_, rfl, by omega, by omega, Lib.hid (by rw [show ((m : Int) - 1 + 1).toNat = m by omega])⟩
  case round =>
    obtain ⟨z, rfl, hz1, hz2, HT⟩ := hrel
    by_cases hz : 0 ≤ z
    · obtain ⟨j, rfl⟩ : ∃ j : Nat, z = j := ⟨z.toNat, by omega⟩
      obtain ⟨b, off, rfl, hc, hd⟩ := G.out j (by rw [HM.out]; omega)
      have HS := Lib.hid (down_step ws k j)
      generalize ws.getD j (0, ByteArray.empty) = x at hc hd HS
      obtain ⟨x1, x2⟩ := x
      simp only at hc hd
      have hi : (j : Int) < (m : Int) := hz2
      by_cases hE : x1 = (k : Int)
      · have hq : (x1 == (k : Int)) = true := by simp [hE]
        have HE := Lib.hid hE
        clear hE
        go_wp2
        go_ret
        exact ⟨ret_str (readS_hit HM.out (by rw [HT.out, HS.out]; simp [HE.out])).symm, hb0⟩
      · have hq : (x1 == (k : Int)) = false := by simp [hE]
        have HE := Lib.hid hE
        clear hE
        go_wp2
        go_round
        case rel => exact ⟨_, rfl, by omega, by omega, Lib.hid (by rw [HT.out, HS.out, if_neg HE.out, show ((j : Int) - 1 + 1).toNat = j by omega])⟩
        case measure => simp [intOf]
    · obtain ⟨b, off, rfl, hc⟩ := H.out k (by rw [HL.out]; exact hk)
      have HF := Lib.hid (readS_miss (ss := ss) HM.out (by rw [HT.out, show (z + 1).toNat = 0 by omega]; rfl))
      have hz' : z < 0 := by omega
      go_wp2
      go_ret
      exact ⟨ret_str (by rw [HF.out]; rfl), hb0⟩

/-- What ReadDisk answers. -/
def readOf (ss : List ByteArray) (ws : List (Int × ByteArray)) (a : Int) : ByteArray × Int :=
  if okDisk ss ws = true then (if secB a = true then (readS ss ws a, 0) else (ByteArray.empty, 4)) else (ByteArray.empty, 1)
theorem secB_lt {a : Int} (h : secB a = true) : 0 ≤ a ∧ a ≤ 47 := by unfold secB at h; simpa using h
theorem okDisk_len {ss : List ByteArray} {ws : List (Int × ByteArray)} (h : okDisk ss ws = true) : ss.length = 48 ∧ ws.length ≤ 60 := by unfold okDisk at h; simp at h; exact h.1

end Go.Proofs.Ytlfmniekbiffjaa

/- The contract of Disk.newest and of impl.Newest. -/
namespace Go.Proofs.Ytlfmniekbiffjaa
open Go.RowKit

/-- The best root of the first k texts: its generation, its table, its slot, the code. -/
structure Best where
  g : Int
  z : List Int
  s : Int
  c : Int
def best (t : Nat → ByteArray) : Nat → Best
  | 0 => ⟨0, [], 0, 9⟩
  | k + 1 => if rdC (t k) = 0 ∧ (best t k).g < rdG (t k) then ⟨rdG (t k), rdZ (t k), k, 0⟩ else best t k

/-- The call hands back a root of its own, its slot and a code. -/
def GivesNew (b : Best) (w : World) (e : Ending) (w' : World) : Prop :=
  ∃ A n c, e = .returned (.tuple #[.agg #[.int .i64 b.g, .slice A n c], .int .i64 b.s, .int .i64 b.c]) ∧ Hid (b.z.length = n) ∧ Hid (OwnI w' w.heap.size w'.heap.size A b.z) ∧ Below w.heap.size w w'

theorem readS_small {ss : List ByteArray} {ws : List (Int × ByteArray)} (h : okDisk ss ws = true) (k : Nat) (hk : k < 48) : (readS ss ws k).size ≤ 100 := by
  unfold okDisk at h
  simp only [Bool.and_eq_true, decide_eq_true_eq, List.all_eq_true] at h
  obtain ⟨⟨h1, h2⟩, h3, h4⟩ := h
  have hd : ∀ m, m ≤ ws.length → ∀ s, down ws k m = some s → s.size ≤ 100 := by
    intro m
    induction m with
    | zero => intro _ s hs; cases hs
    | succ m ih =>
      intro hm s hs
      rw [down] at hs
      split at hs
      · injection hs with hs
        subst hs
        have hx := h4 (ws.getD m (0, ByteArray.empty)) (by rw [List.getD_eq_getElem?_getD, List.getElem?_eq_getElem (by omega)]; exact List.getElem_mem _)
        unfold okWr at hx
        simp only [Bool.and_eq_true, decide_eq_true_eq] at hx
        exact hx.2
      · exact ih (by omega) s hs
  unfold readS
  split
  · rename_i s hs
    exact hd _ (Nat.le_refl _) s hs
  · have hx := h3 (ss.getD k ByteArray.empty) (by rw [List.getD_eq_getElem?_getD, List.getElem?_eq_getElem (by omega)]; exact List.getElem_mem _)
    unfold okSt at hx
    simpa using hx

set_option maxRecDepth 100000 in
set_option maxHeartbeats 4000000 in
theorem newest (A C : Option Addr) (n c m d : Nat) (ss : List ByteArray) (ws : List (Int × ByteArray)) (w : World) (hl : ss.length = n) (hm : ws.length = m) (hok : okDisk ss ws = true) (h : StrL w A ss) (g : WrL w C ws) :
    Calls Try.prog 62 #[.agg #[.slice A n c, .slice C m d]] w (GivesNew (best (fun k => readS ss ws k) 2) w) := by
  have hlen := okDisk_len hok
  have HC := Lib.hid (fun W (hb : Below w.heap.size w W) (k : Nat) (hk : k < 2) => content A C n c m d ss ws k W hl hm (by unfold maxLen; omega) (by unfold maxLen; omega) (h.below hb) (g.below hb) (by omega))
  have HR := Lib.hid (fun W (k : Nat) (hk : k < 2) => implReadRoot (readS ss ws k) W (by have := readS_small hok k (by omega); unfold maxLen; omega))
  have HB := Lib.hid (show ∀ k : Nat, best (fun k => readS ss ws k) (k + 1) = if rdC (readS ss ws k) = 0 ∧ (best (fun k => readS ss ws k) k).g < rdG (readS ss ws k) then ⟨rdG (readS ss ws k), rdZ (readS ss ws k), k, 0⟩ else best (fun k => readS ss ws k) k from fun k => rfl)
  have HB0 := Lib.hid (show best (fun k => readS ss ws k) 0 = ⟨0, [], 0, 9⟩ from rfl)
  generalize best (fun k => readS ss ws k) = B at HB HB0
  clear hl hm hok h g hlen
  obtain ⟨W0, hW0⟩ : ∃ W0, W0 = ((w.alloc (.cells #[.slice A n c, .slice C m d] 30)).alloc (.cells #[.int .i64 0, .slice none 0 0] 49)).alloc (.cells #[.int .i64 0, .slice none 0 0] 49) := ⟨_, rfl⟩
  have hb0 : Below w.heap.size w W0 := by rw [hW0]; exact bt (bt (alloc_below _ _) (alloc_below _ _)) (alloc_below _ _)
  have X0 : Hid (Box W0 w.heap.size 30 #[.slice A n c, .slice C m d]) := Lib.hid (by rw [hW0]; exact ((Box.new _ _ _).alloc _).alloc _)
  have X1 : Hid (Box W0 (w.heap.size + 1) 49 #[.int .i64 0, .slice none 0 0]) := Lib.hid (by
    rw [hW0]; exact (by simpa using Box.new (w.alloc (.cells #[.slice A n c, .slice C m d] 30)) 49 #[.int .i64 0, .slice none 0 0] : Box ((w.alloc (.cells #[.slice A n c, .slice C m d] 30)).alloc (.cells #[.int .i64 0, .slice none 0 0] 49)) (w.heap.size + 1) 49 #[.int .i64 0, .slice none 0 0]).alloc _)
  have X2 : Hid (Box W0 (w.heap.size + 1 + 1) 49 #[.int .i64 0, .slice none 0 0]) := Lib.hid (by
    rw [hW0]; simpa using Box.new ((w.alloc (.cells #[.slice A n c, .slice C m d] 30)).alloc (.cells #[.int .i64 0, .slice none 0 0] 49)) 49 #[.int .i64 0, .slice none 0 0])
  have HW0 := Lib.hid hW0
  clear hW0
  go_enter Try.func62, Try.ntmps62
  go_wp2
  rw [← HW0.out]
  clear HW0
  go_loopw [12, 6, 7] (fun i s q wr => ∃ (k : Nat) (A' : Option Addr) (n' c' : Nat), k ≤ 2 ∧ i = .int .i64 k ∧ s = .int .i64 (B k).s ∧ q = .int .i64 (B k).c ∧ Below w.heap.size w wr ∧ Hid (Box wr w.heap.size 30 #[.slice A n c, .slice C m d]) ∧ Hid (Box wr (w.heap.size + 1) 49 #[.int .i64 0, .slice none 0 0]) ∧ Hid (Box wr (w.heap.size + 1 + 1) 49 #[.int .i64 (B k).g, .slice A' n' c']) ∧ Hid ((B k).z.length = n') ∧ Hid (OwnI wr w.heap.size wr.heap.size A' (B k).z)) (fun i _ _ _ => 2 - (intOf i).toNat)
  case atStart => exact ⟨0, none, 0, 0, by omega, rfl, by rw [HB0.out], by rw [HB0.out], hb0, X0, X1, by rw [HB0.out]; exact X2, by rw [HB0.out]; exact Lib.hid rfl, by rw [HB0.out]; exact Lib.hid (.inl rfl)⟩
  case round =>
    clear X0 X1 X2 hb0
    obtain ⟨k, A', n', c', hk, rfl, rfl, rfl, hbw, X0, X1, X2, LB, OB⟩ := hrel
    have hB := HB.out k
    generalize hbk : B k = bk at X2 LB OB hB
    have HBk := Lib.hid hbk
    clear hbk
    by_cases hlt : k < 2
    · have f0 := X0.out.cell 0 rfl
      have f1 := X0.out.cell 1 rfl
      have hi : (k : Int) < 2 := by omega
      have HBS := Lib.hid hB
      clear hB
      go_wp2_with fail
      refine (HC.out wr hbw k hlt).mono ?_
      rintro e w1 ⟨rfl, hb1⟩
      clear f0 f1
      have HRk := Lib.hid (HR.out w1 k hlt)
      generalize rdG (readS ss ws k) = rg at HRk HBS
      generalize rdZ (readS ss ws k) = rz at HRk HBS
      generalize rdC (readS ss ws k) = rc at HRk HBS
      go_wp2_with fail
      refine HRk.out.mono ?_
      rintro e w2 ⟨A2, n2, c2, rfl, L2, O2, hb2⟩
      have hb3 := bt (bt hb1 hb2) (alloc_below w2 (.cells #[.int .i64 rg, .slice A2 n2 c2] 49))
      have Y0 := Lib.hid (X0.out.step hb3)
      have Y1 := Lib.hid (X1.out.step hb3)
      have Y2 := Lib.hid (X2.out.step hb3)
      have Y3 := Lib.hid (Box.new w2 49 #[.int .i64 rg, .slice A2 n2 c2])
      have OB3 := Lib.hid (OB.out.below hb3)
      have O3 := Lib.hid (O2.out.below (alloc_below w2 (.cells #[.int .i64 rg, .slice A2 n2 c2] 49)))
      have HZ : Hid (wr.heap.size ≤ w1.heap.size ∧ w1.heap.size ≤ w2.heap.size ∧ w2.heap.size < (w2.alloc (.cells #[.int .i64 rg, .slice A2 n2 c2] 49)).heap.size ∧ w.heap.size + 1 + 1 < wr.heap.size) := Lib.hid ⟨hb1.size, hb2.size, Y3.out.lt, X2.out.lt⟩
      have hbz := bt hbw hb3
      have y0 := Y2.out.cell 0 rfl
      have y1 := Y2.out.cell 1 rfl
      have y2 := Y2.out.frozen 0
      have y3 := Y2.out.frozen 1
      by_cases hc : rc = 0
      · have hcb : (rc == 0) = true := by simp [hc]
        by_cases hg : bk.g < rg
        · have HS : Hid (B (k + 1) = ⟨rg, rz, k, 0⟩) := Lib.hid (by rw [HBS.out, if_pos ⟨hc, hg⟩])
          clear hc hb1 hb2 hb3
          go_wp2
          go_roundw
          case rel =>
            have hsz := HZ.out
            refine ⟨k + 1, A2, n2, c2, by omega, by go_num, by rw [HS.out], by rw [HS.out], below_st2 hbz (by omega) _ _, Lib.hid ((Y0.out.far (by show w.heap.size ≠ w.heap.size + 1 + 1; omega) _).far (by show w.heap.size ≠ w.heap.size + 1 + 1; omega) _), Lib.hid ((Y1.out.far (by show w.heap.size + 1 ≠ w.heap.size + 1 + 1; omega) _).far (by show w.heap.size + 1 ≠ w.heap.size + 1 + 1; omega) _), ?_, by rw [HS.out]; exact L2, ?_⟩
            · rw [HS.out]; exact Lib.hid ((Y2.out.set 0 _).set 1 _)
            · rw [HS.out]; exact Lib.hid (((O3.out.wide (lo' := w.heap.size) (hi' := (w2.alloc (.cells #[.int .i64 rg, .slice A2 n2 c2] 49)).heap.size) (by omega) (by omega)).two Y2.out (by decide) _ _).wide (Nat.le_refl _) (by simp [World.setCell]))
          case measure => simp [intOf]; omega
        · have HS : Hid (B (k + 1) = bk) := Lib.hid (by rw [HBS.out, if_neg (fun q => hg q.2)])
          have hg' : ¬ bk.g < rg := hg
          clear hc hb1 hb2 hb3
          go_wp2
          go_roundw
          case rel => exact ⟨k + 1, A', n', c', by omega, by go_num, by rw [HS.out], by rw [HS.out], hbz, Y0, Y1, by rw [HS.out]; exact Y2, by rw [HS.out]; exact LB, by rw [HS.out]; exact Lib.hid (OB3.out.wide (hi' := (w2.alloc (.cells #[.int .i64 rg, .slice A2 n2 c2] 49)).heap.size) (Nat.le_refl _) (by have := HZ.out; omega))⟩
          case measure => simp [intOf]; omega
      · have hcb : (rc == 0) = false := by simp [hc]
        have HS : Hid (B (k + 1) = bk) := Lib.hid (by rw [HBS.out, if_neg (fun q => hc q.1)])
        clear hc hb1 hb2 hb3
        go_wp2
        go_roundw
        case rel => exact ⟨k + 1, A', n', c', by omega, by go_num, by rw [HS.out], by rw [HS.out], hbz, Y0, Y1, by rw [HS.out]; exact Y2, by rw [HS.out]; exact LB, by rw [HS.out]; exact Lib.hid (OB3.out.wide (hi' := (w2.alloc (.cells #[.int .i64 rg, .slice A2 n2 c2] 49)).heap.size) (Nat.le_refl _) (by have := HZ.out; omega))⟩
        case measure => simp [intOf]; omega
    · obtain rfl : k = 2 := by omega
      clear hB
      have y0 := X2.out.cell 0 rfl
      have y1 := X2.out.cell 1 rfl
      have y2 := X1.out.cell 0 rfl
      have y3 := X1.out.cell 1 rfl
      have y4 := X1.out.frozen 0
      have y5 := X1.out.frozen 1
      go_wp2
      refine bodyPost_ret (v := .tuple #[.agg #[.int .i64 bk.g, .slice A' n' c'], .int .i64 bk.s, .int .i64 bk.c]) (by simp [results, Try.results62, go_sem, y2, y3]) rfl ?_
      rw [HBk.out]
      exact ⟨_, _, _, rfl, LB, Lib.hid ((OB.out.two X1.out (by decide) _ _).wide (Nat.le_refl _) (by simp [World.setCell])), below_st2 hbw (by omega) _ _⟩

/-- What Newest answers of any disk. -/
def newOf (ss : List ByteArray) (ws : List (Int × ByteArray)) : Best := if okDisk ss ws = true then best (fun k => readS ss ws k) 2 else ⟨0, [], 0, 1⟩

theorem givesN_none {w w' : World} {s code : Int} (h : Below w.heap.size w w') : GivesNew ⟨0, [], s, code⟩ w (.returned (.tuple #[.agg #[.int .i64 0, .slice none 0 0], .int .i64 s, .int .i64 code])) w' :=
  ⟨_, _, _, rfl, Lib.hid rfl, Lib.hid (.inl rfl), h⟩

set_option maxRecDepth 100000 in
set_option maxHeartbeats 2000000 in
theorem implNewest (A C : Option Addr) (n c m d : Nat) (ss : List ByteArray) (ws : List (Int × ByteArray)) (w : World) (hl : ss.length = n) (hm : ws.length = m) (hn : n ≤ maxLen) (hmm : m ≤ maxLen) (h : StrL w A ss) (g : WrL w C ws) (fs : FitS ss) (fw : FitW ws) :
    Calls Try.prog 27 #[.agg #[.slice A n c, .slice C m d]] w (GivesNew (newOf ss ws) w) := by
  obtain ⟨W0, hW0⟩ : ∃ W0, W0 = (w.alloc (.cells #[.slice A n c, .slice C m d] 30)).alloc (.cells #[.int .i64 0, .slice none 0 0] 49) := ⟨_, rfl⟩
  have hb0 : Below w.heap.size w W0 := by rw [hW0]; exact bt (alloc_below _ _) (alloc_below _ _)
  have X0 : Hid (Box W0 w.heap.size 30 #[.slice A n c, .slice C m d]) := Lib.hid (by rw [hW0]; exact (Box.new _ _ _).alloc _)
  have X1 : Hid (Box W0 (w.heap.size + 1) 49 #[.int .i64 0, .slice none 0 0]) := Lib.hid (by
    rw [hW0]; simpa using Box.new (w.alloc (.cells #[.slice A n c, .slice C m d] 30)) 49 #[.int .i64 0, .slice none 0 0])
  have HV := Lib.hid (diskValid A C n c m d ss ws W0 hl hm hn hmm (h.below hb0) (g.below hb0) fs fw)
  have HN := Lib.hid (fun W (hb : Below w.heap.size w W) (hok : okDisk ss ws = true) => newest A C n c m d ss ws W hl hm hok (h.below hb) (g.below hb))
  have HW0 := Lib.hid hW0
  clear hl hm hn hmm h g fs fw hW0
  by_cases hok : okDisk ss ws = true
  · have HO : Hid (newOf ss ws = best (fun k => readS ss ws k) 2) := Lib.hid (by unfold newOf; rw [if_pos hok])
    rw [hok] at HV
    have HNk := Lib.hid (fun W hb => HN.out W hb hok)
    generalize best (fun k => readS ss ws k) 2 = b at HO HNk
    rw [HO.out]
    clear hok HN HO
    go_enter Try.func27, Try.ntmps27
    go_wp2_with fail
    rw [← HW0.out]
    clear HW0
    refine HV.out.mono ?_
    rintro e w1 ⟨rfl, hb1⟩
    have Y0 := X0.out.step hb1
    have f0 := Y0.cell 0 rfl
    have f1 := Y0.cell 1 rfl
    have hb2 := bt hb0 hb1
    clear Y0
    go_wp2_with fail
    refine (HNk.out w1 hb2).mono ?_
    rintro e w2 ⟨A2, n2, c2, rfl, L2, O2, hb3⟩
    have Y1 := Lib.hid ((X1.out.step hb1).step hb3)
    have HZ : Hid (w.heap.size ≤ w1.heap.size) := Lib.hid hb2.size
    have hb4 := bt hb2 hb3
    have y2 := Y1.out.cell 0 rfl
    have y3 := Y1.out.cell 1 rfl
    have y4 := Y1.out.frozen 0
    have y5 := Y1.out.frozen 1
    clear f0 f1 hb1 hb3
    go_wp2
    refine bodyPost_ret (v := .tuple #[.agg #[.int .i64 b.g, .slice A2 n2 c2], .int .i64 b.s, .int .i64 b.c]) (by simp [results, Try.results27, go_sem, y2, y3]) rfl ?_
    exact ⟨_, _, _, rfl, L2, Lib.hid (((O2.out.wide HZ.out (Nat.le_refl _)).two Y1.out (by decide) _ _).wide (Nat.le_refl _) (by simp [World.setCell])), below_st2 hb4 (by omega) _ _⟩
  · have hok' : okDisk ss ws = false := by simpa using hok
    have HO : Hid (newOf ss ws = ⟨0, [], 0, 1⟩) := Lib.hid (by unfold newOf; rw [if_neg hok])
    rw [hok'] at HV
    rw [HO.out]
    clear hok hok' HN HO
    go_enter Try.func27, Try.ntmps27
    go_wp2_with fail
    rw [← HW0.out]
    clear HW0
    refine HV.out.mono ?_
    rintro e w1 ⟨rfl, hb1⟩
    have Y1 := X1.out.step hb1
    have hb2 := bt hb0 hb1
    have y2 := Y1.cell 0 rfl
    have y3 := Y1.cell 1 rfl
    have y4 := Y1.frozen 0
    have y5 := Y1.frozen 1
    clear Y1 hb1
    go_wp2
    refine bodyPost_ret (v := .tuple #[.agg #[.int .i64 0, .slice none 0 0], .int .i64 0, .int .i64 1]) (by simp [results, Try.results27, go_sem, y2, y3]) rfl ?_
    exact givesN_none (below_st2 hb2 (by omega) _ _)

/- The model's way to the newest root. -/
theorem gen_pos {l : List UInt8} (h : rdB l = true) : 0 < okG l := by
  have h' := h
  unfold rdB at h
  simp only [Bool.and_eq_true] at h
  have hr := h.2.2.2
  unfold rootB at hr
  simp only [Bool.and_eq_true, decide_eq_true_eq] at hr
  unfold okG
  rw [if_pos h']
  omega
theorem rdC_iff {t : ByteArray} (h : t.size ≤ 100) : (rdC t = 0) = (rdB t.data.toList = true) := by
  rw [(rd_ok t (by omega)).2.2]
  cases rdB t.data.toList <;> simp
theorem best_two (t : Nat → ByteArray) (h0 : (t 0).size ≤ 100) (h1 : (t 1).size ≤ 100) :
    best t 2 = if rdB (t 0).data.toList = true ∧ (rdB (t 1).data.toList = false ∨ okG (t 1).data.toList ≤ okG (t 0).data.toList) then ⟨okG (t 0).data.toList, okZ (t 0).data.toList, 0, 0⟩
      else if rdB (t 1).data.toList = true then ⟨okG (t 1).data.toList, okZ (t 1).data.toList, 1, 0⟩ else ⟨0, [], 0, 9⟩ := by
  have r0 := rd_ok (t 0) (by omega)
  have r1 := rd_ok (t 1) (by omega)
  show (if rdC (t 1) = 0 ∧ (if rdC (t 0) = 0 ∧ (0 : Int) < rdG (t 0) then (⟨rdG (t 0), rdZ (t 0), 0, 0⟩ : Best) else ⟨0, [], 0, 9⟩).g < rdG (t 1) then (⟨rdG (t 1), rdZ (t 1), 1, 0⟩ : Best) else (if rdC (t 0) = 0 ∧ (0 : Int) < rdG (t 0) then ⟨rdG (t 0), rdZ (t 0), 0, 0⟩ else ⟨0, [], 0, 9⟩)) = _
  rw [r0.1, r0.2.1, r0.2.2, r1.1, r1.2.1, r1.2.2]
  cases q0 : rdB (t 0).data.toList <;> cases q1 : rdB (t 1).data.toList
  · simp
  · have := gen_pos q1; simp [this]
  · have := gen_pos q0; simp [this]
  · have p0 := gen_pos q0
    have p1 := gen_pos q1
    by_cases hq : okG (t 1).data.toList ≤ okG (t 0).data.toList
    · simp [p0, hq]
    · simp [p0, hq]
end Go.Proofs.Ytlfmniekbiffjaa
