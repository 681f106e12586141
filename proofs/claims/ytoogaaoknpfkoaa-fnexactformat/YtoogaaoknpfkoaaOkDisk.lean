/- Contracts of the tests: isSector, l01In, a write's and a disk's valid, both DiskOK. -/
import Derived.Test.YtoogaaoknpfkoaaEqDisk
import Derived.Test.YtoogaaoknpfkoaaOwn
namespace Go.Proofs.Ytoogaaoknpfkoaa
open Go.RowKit

def secB (n : Int) : Bool := decide (0 ≤ n ∧ n ≤ 47)
def okWr (x : Int × ByteArray) : Bool := secB x.1 && decide (x.2.size ≤ 100)
def okSt (s : ByteArray) : Bool := decide (s.size ≤ 100)
def okDisk (ss : List ByteArray) (ws : List (Int × ByteArray)) : Bool := (decide (ss.length = 48) && decide (ws.length ≤ 60)) && (ss.all okSt && ws.all okWr)

theorem all_step {α : Type} (p : α → Bool) (l : List α) (d : α) (k : Nat) (h : k < l.length) : (l.drop k).all p = (p (l.getD k d) && (l.drop (k + 1)).all p) := by
  rw [List.drop_eq_getElem_cons h, List.all_cons, List.getD_eq_getElem?_getD, List.getElem?_eq_getElem h]
  rfl
theorem all_end {α : Type} (p : α → Bool) (l : List α) (k : Nat) (h : l.length ≤ k) : (l.drop k).all p = true := by
  rw [List.drop_of_length_le h]; rfl

theorem secB_range {a : Int} (h : secB a = true) : 0 ≤ a ∧ a ≤ 47 := by unfold secB at h; simpa using h

set_option maxRecDepth 100000 in
theorem isSector (n : Int) (w : World) : Calls Try.prog 79 #[.int .i64 n] w fun e w' => e = .returned (.bool (secB n)) ∧ w = w' := by
  go_enter Try.func79, Try.ntmps79
  go_wp2
  all_goals go_ret
  all_goals (refine ⟨ret_bool ?_, rfl⟩)
  all_goals (unfold secB; rw [Bool.eq_iff_iff]; simp; try omega)
set_option maxRecDepth 100000 in
theorem l01In47 (n : Int) (w : World) : Calls Try.prog 91 #[.int .i64 n, .int .i64 0, .int .i64 47] w fun e w' => e = .returned (.bool (secB n)) ∧ w = w' := by
  go_enter Try.func91, Try.ntmps91
  go_wp2
  all_goals go_ret
  all_goals (refine ⟨ret_bool ?_, rfl⟩)
  all_goals (unfold secB; rw [Bool.eq_iff_iff]; simp; try omega)

set_option maxRecDepth 100000 in
theorem writeValid (a : Int) (s : ByteArray) (w : World) (hs : s.size ≤ maxLen) : Calls Try.prog 137 #[.agg #[.int .i64 a, .string s]] w fun e w' => e = .returned (.bool (okWr (a, s))) ∧ Below w.heap.size w w' := by
  unfold maxLen at hs
  by_cases h : secB a = true
  · go_enter Try.func137, Try.ntmps137
    go_wp2_with (first | (go_at_call 79; refine (isSector _ _).mono ?_; rintro e w' ⟨rfl, rfl⟩))
    all_goals go_ret
    all_goals (refine ⟨ret_bool ?_, (Below.refl _ _).alloc (Nat.le_refl _) _⟩)
    all_goals (unfold okWr; rw [Bool.eq_iff_iff]; simp [h]; try omega)
  · have h' : secB a = false := by simpa using h
    clear h
    go_enter Try.func137, Try.ntmps137
    go_wp2_with (first | (go_at_call 79; refine (isSector _ _).mono ?_; rintro e w' ⟨rfl, rfl⟩))
    all_goals go_ret
    all_goals (refine ⟨ret_bool ?_, (Below.refl _ _).alloc (Nat.le_refl _) _⟩)
    all_goals (unfold okWr; simp [h'])

theorem okDisk_no1 (ss : List ByteArray) (ws : List (Int × ByteArray)) (h : ss.length ≠ 48) : okDisk ss ws = false := by unfold okDisk; simp [h]
theorem okDisk_no2 (ss : List ByteArray) (ws : List (Int × ByteArray)) (h : 60 < ws.length) : okDisk ss ws = false := by
  unfold okDisk
  have : decide (ws.length ≤ 60) = false := by simp; omega
  rw [this]; simp
theorem okDisk_yes (ss : List ByteArray) (ws : List (Int × ByteArray)) (h : ss.length = 48) (h2 : ws.length ≤ 60) : okDisk ss ws = (ss.all okSt && ws.all okWr) := by
  unfold okDisk; simp [h, h2]

/-- Each string of the disk is of a size that strings have. -/
def FitS (ss : List ByteArray) : Prop := ∀ s ∈ ss, s.size ≤ maxLen
def FitW (ws : List (Int × ByteArray)) : Prop := ∀ x ∈ ws, x.2.size ≤ maxLen
theorem FitS.at_ {ss : List ByteArray} (h : FitS ss) (k : Nat) (hk : k < ss.length) : (ss.getD k ByteArray.empty).size ≤ maxLen := h _ (by rw [List.getD_eq_getElem?_getD, List.getElem?_eq_getElem hk]; exact List.getElem_mem _)
theorem FitW.at_ {ws : List (Int × ByteArray)} (h : FitW ws) (k : Nat) (hk : k < ws.length) : (ws.getD k (0, ByteArray.empty)).2.size ≤ maxLen := h _ (by rw [List.getD_eq_getElem?_getD, List.getElem?_eq_getElem hk]; exact List.getElem_mem _)

set_option maxRecDepth 100000 in
set_option maxHeartbeats 2000000 in
theorem diskValid (A C : Option Addr) (n c m d : Nat) (ss : List ByteArray) (ws : List (Int × ByteArray)) (w : World) (hl : ss.length = n) (hm : ws.length = m) (hn : n ≤ maxLen) (hmm : m ≤ maxLen) (h : StrL w A ss) (g : WrL w C ws) (fs : FitS ss) (fw : FitW ws) :
    Calls Try.prog 78 #[.agg #[.slice A n c, .slice C m d]] w fun e w' => e = .returned (.bool (okDisk ss ws)) ∧ Below w.heap.size w w' := by
  unfold maxLen at hn hmm
  have HL := Lib.hid hl
  have HM := Lib.hid hm
  have H := Lib.hid h
  have G := Lib.hid g
  have FS := Lib.hid fs
  have FW := Lib.hid fw
  clear hl hm h g fs fw
  by_cases h48 : n = 48
  · by_cases h60 : m ≤ 60
    · have hb : ((n : Int) != 48) = false := by simp; omega
      have hb2 : decide ((60 : Int) < (m : Int)) = false := by simp; omega
      have HY := Lib.hid (okDisk_yes ss ws (by rw [HL.out]; exact h48) (by rw [HM.out]; exact h60))
      have HN := Lib.hid h48
      clear h48
      go_enter Try.func78, Try.ntmps78
      go_wp2
      go_loop [20] (fun i => ∃ k : Nat, k ≤ n ∧ i = .int .i64 k ∧ Hid (ss.all okSt = (ss.drop k).all okSt)) (fun i => n - (intOf i).toNat)
      case atStart => exact ⟨0, Nat.zero_le _, rfl, Lib.hid rfl⟩
      case round =>
        obtain ⟨k, hk, rfl, HT⟩ := hrel
        by_cases hlt : k < n
        · obtain ⟨b, off, rfl, hc⟩ := (H.out.below ((Below.refl _ _).alloc (Nat.le_refl _) (.cells #[.slice A n c, .slice C m d] 26))) k (by rw [HL.out]; exact hlt)
          have hx := FS.out.at_ k (by rw [HL.out]; exact hlt)
          have HS := Lib.hid (all_step okSt ss ByteArray.empty k (by rw [HL.out]; exact hlt))
          generalize ss.getD k ByteArray.empty = x at hc hx HS
          unfold maxLen at hx
          have hi : (k : Int) < (n : Int) := by omega
          by_cases hE : x.size ≤ 100
          · have hE' : ¬ (100 : Int) < (x.size : Int) := by omega
            go_wp2
            go_round
            case rel => exact ⟨k + 1, by omega, by go_num, Lib.hid (by rw [HT.out, HS.out]; simp [okSt, hE])⟩
            case measure => simp [intOf]; omega
          · have hE' : (100 : Int) < (x.size : Int) := by omega
            go_wp2
            go_ret
            exact ⟨ret_bool (by rw [HY.out, HT.out, HS.out]; simp [okSt, hE]), (Below.refl _ _).alloc (Nat.le_refl _) _⟩
        · have HT2 : Hid (ss.all okSt = true) := Lib.hid (by rw [HT.out]; exact all_end _ _ _ (by rw [HL.out]; omega))
          go_wp2
          go_loopw [31] (fun i wr => ∃ k : Nat, k ≤ m ∧ i = .int .i64 k ∧ Hid (ws.all okWr = (ws.drop k).all okWr) ∧ Below w.heap.size w wr) (fun i _ => m - (intOf i).toNat)
          case atStart => exact ⟨0, Nat.zero_le _, rfl, Lib.hid rfl, (Below.refl _ _).alloc (Nat.le_refl _) _⟩
          case round =>
            obtain ⟨j, hj, rfl, HU, hbw⟩ := hrel
            by_cases hjt : j < m
            · obtain ⟨b, off, rfl, hc, hd⟩ := (G.out.below hbw) j (by rw [HM.out]; exact hjt)
              have hx := FW.out.at_ j (by rw [HM.out]; exact hjt)
              have HS := Lib.hid (all_step okWr ws (0, ByteArray.empty) j (by rw [HM.out]; exact hjt))
              generalize ws.getD j (0, ByteArray.empty) = x at hc hd hx HS
              obtain ⟨x1, x2⟩ := x
              simp only at hx hc hd
              have hi : (j : Int) < (m : Int) := by omega
              have HC := Lib.hid (fun W => writeValid x1 x2 W hx)
              clear hx
              go_wp2_with fail
              refine (HC.out _).mono ?_
              rintro e w1 ⟨rfl, hb1⟩
              have hb3 : Below w.heap.size w w1 := bt (hbw.alloc hbw.size _) hb1
              by_cases hE : okWr (x1, x2) = true
              · rw [hE]
                have HE := Lib.hid hE
                clear hE
                go_wp2
                go_roundw
                case rel => exact ⟨j + 1, by omega, by go_num, Lib.hid (by rw [HU.out, HS.out, HE.out]; rfl), hb3⟩
                case measure => simp [intOf]; omega
              · have hE' : okWr (x1, x2) = false := by simpa using hE
                rw [hE']
                have HE := Lib.hid hE'
                clear hE hE'
                go_wp2
                go_ret
                exact ⟨ret_bool (by rw [HY.out, HT2.out, HU.out, HS.out, HE.out]; rfl), hb3⟩
            · have hU2 : Hid (ws.all okWr = true) := Lib.hid (by rw [HU.out]; exact all_end _ _ _ (by rw [HM.out]; omega))
              go_wp2
              go_ret
              exact ⟨ret_bool (by rw [HY.out, HT2.out, hU2.out]; rfl), hbw⟩
    · have hb : ((n : Int) != 48) = false := by simp; omega
      have hb2 : (60 : Int) < (m : Int) := by omega
      have HF := Lib.hid (okDisk_no2 ss ws (by rw [HM.out]; omega))
      clear h48
      go_enter Try.func78, Try.ntmps78
      go_wp2
      go_ret
      exact ⟨ret_bool HF.out.symm, (Below.refl _ _).alloc (Nat.le_refl _) _⟩
  · have hb : ((n : Int) != 48) = true := by simp; omega
    have HF := Lib.hid (okDisk_no1 ss ws (by rw [HL.out]; exact h48))
    clear h48
    go_enter Try.func78, Try.ntmps78
    go_wp2
    go_ret
    exact ⟨ret_bool HF.out.symm, (Below.refl _ _).alloc (Nat.le_refl _) _⟩

set_option maxRecDepth 100000 in
theorem implDiskOK (A C : Option Addr) (n c m d : Nat) (ss : List ByteArray) (ws : List (Int × ByteArray)) (w : World) (hl : ss.length = n) (hm : ws.length = m) (hn : n ≤ maxLen) (hmm : m ≤ maxLen) (h : StrL w A ss) (g : WrL w C ws) (fs : FitS ss) (fw : FitW ws) :
    Calls Try.prog 31 #[.agg #[.slice A n c, .slice C m d]] w fun e w' => e = .returned (.bool (okDisk ss ws)) ∧ Below w.heap.size w w' := by
  have hb0 : Below w.heap.size w (w.alloc (.cells #[.slice A n c, .slice C m d] 26)) := (Below.refl _ _).alloc (Nat.le_refl _) _
  have HC := Lib.hid (diskValid A C n c m d ss ws _ hl hm hn hmm (h.below hb0) (g.below hb0) fs fw)
  clear hl hm hn hmm h g fs fw
  go_enter Try.func31, Try.ntmps31
  go_wp2_with fail
  refine HC.out.mono ?_
  rintro e w1 ⟨rfl, hb1⟩
  go_wp2
  go_ret
  exact ⟨rfl, bt hb0 hb1⟩

set_option maxRecDepth 100000 in
set_option maxHeartbeats 2000000 in
theorem specDiskOK (A C : Option Addr) (n c m d : Nat) (ss : List ByteArray) (ws : List (Int × ByteArray)) (w : World) (hl : ss.length = n) (hm : ws.length = m) (hn : n ≤ maxLen) (hmm : m ≤ maxLen) (h : StrL w A ss) (g : WrL w C ws) (fs : FitS ss) (fw : FitW ws) :
    Calls Try.prog 85 #[.agg #[.slice A n c, .slice C m d]] w fun e w' => e = .returned (.bool (okDisk ss ws)) ∧ Below w.heap.size w w' := by
  unfold maxLen at hn hmm
  have HL := Lib.hid hl
  have HM := Lib.hid hm
  have H := Lib.hid h
  have G := Lib.hid g
  have FS := Lib.hid fs
  have FW := Lib.hid fw
  clear hl hm h g fs fw
  by_cases h48 : n = 48
  · by_cases h60 : m ≤ 60
    · have hb : ((n : Int) != 48) = false := by simp; omega
      have hb2 : decide ((60 : Int) < (m : Int)) = false := by simp; omega
      have HY := Lib.hid (okDisk_yes ss ws (by rw [HL.out]; exact h48) (by rw [HM.out]; exact h60))
      clear h48
      go_enter Try.func85, Try.ntmps85
      go_wp2
      go_loop [3] (fun i => ∃ k : Nat, k ≤ n ∧ i = .int .i64 k ∧ Hid (ss.all okSt = (ss.drop k).all okSt)) (fun i => n - (intOf i).toNat)
      case atStart => exact ⟨0, Nat.zero_le _, rfl, Lib.hid rfl⟩
      case round =>
        obtain ⟨k, hk, rfl, HT⟩ := hrel
        by_cases hlt : k < n
        · obtain ⟨b, off, rfl, hc⟩ := (H.out.below ((Below.refl _ _).alloc (Nat.le_refl _) (.cells #[.slice A n c, .slice C m d] 26))) k (by rw [HL.out]; exact hlt)
          have hx := FS.out.at_ k (by rw [HL.out]; exact hlt)
          have HS := Lib.hid (all_step okSt ss ByteArray.empty k (by rw [HL.out]; exact hlt))
          generalize ss.getD k ByteArray.empty = x at hc hx HS
          unfold maxLen at hx
          have hi : (k : Int) < (n : Int) := by omega
          by_cases hE : x.size ≤ 100
          · have hE' : ¬ (100 : Int) < (x.size : Int) := by omega
            go_wp2
            go_round
            case rel => exact ⟨k + 1, by omega, by go_num, Lib.hid (by rw [HT.out, HS.out]; simp [okSt, hE])⟩
            case measure => simp [intOf]; omega
          · have hE' : (100 : Int) < (x.size : Int) := by omega
            go_wp2
            go_ret
            exact ⟨ret_bool (by rw [HY.out, HT.out, HS.out]; simp [okSt, hE]), (Below.refl _ _).alloc (Nat.le_refl _) _⟩
        · have HT2 : Hid (ss.all okSt = true) := Lib.hid (by rw [HT.out]; exact all_end _ _ _ (by rw [HL.out]; omega))
          go_wp2
          go_loop [4] (fun i => ∃ k : Nat, k ≤ m ∧ i = .int .i64 k ∧ Hid (ws.all okWr = (ws.drop k).all okWr)) (fun i => m - (intOf i).toNat)
          case atStart => exact ⟨0, Nat.zero_le _, rfl, Lib.hid rfl⟩
          case round =>
            obtain ⟨j, hj, rfl, HU⟩ := hrel
            by_cases hjt : j < m
            · obtain ⟨b, off, rfl, hc, hd⟩ := (G.out.below ((Below.refl _ _).alloc (Nat.le_refl _) (.cells #[.slice A n c, .slice C m d] 26))) j (by rw [HM.out]; exact hjt)
              have hx := FW.out.at_ j (by rw [HM.out]; exact hjt)
              have HS := Lib.hid (all_step okWr ws (0, ByteArray.empty) j (by rw [HM.out]; exact hjt))
              generalize ws.getD j (0, ByteArray.empty) = x at hc hd hx HS
              obtain ⟨x1, x2⟩ := x
              simp only at hx hc hd
              unfold maxLen at hx
              have hi : (j : Int) < (m : Int) := by omega
              have HC := Lib.hid (fun W => l01In47 x1 W)
              by_cases hs1 : secB x1 = true
              · by_cases hs2 : x2.size ≤ 100
                · have hE' : decide ((100 : Int) < (x2.size : Int)) = false := by simp; omega
                  have HE : Hid (okWr (x1, x2) = true) := Lib.hid (by simp [okWr, hs1, hs2])
                  go_wp2_with (first | (go_at_call 91; refine (HC.out _).mono ?_; rintro e w' ⟨rfl, rfl⟩))
                  go_round
                  case rel => exact ⟨j + 1, by omega, by go_num, Lib.hid (by rw [HU.out, HS.out, HE.out]; rfl)⟩
                  case measure => simp [intOf]; omega
                · have hE' : (100 : Int) < (x2.size : Int) := by omega
                  have HE : Hid (okWr (x1, x2) = false) := Lib.hid (by simp [okWr, hs2])
                  go_wp2_with (first | (go_at_call 91; refine (HC.out _).mono ?_; rintro e w' ⟨rfl, rfl⟩))
                  go_ret
                  exact ⟨ret_bool (by rw [HY.out, HT2.out, HU.out, HS.out, HE.out]; rfl), (Below.refl _ _).alloc (Nat.le_refl _) _⟩
              · have hs1' : secB x1 = false := by simpa using hs1
                clear hs1
                have HE : Hid (okWr (x1, x2) = false) := Lib.hid (by simp [okWr, hs1'])
                go_wp2_with (first | (go_at_call 91; refine (HC.out _).mono ?_; rintro e w' ⟨rfl, rfl⟩))
                go_ret
                exact ⟨ret_bool (by rw [HY.out, HT2.out, HU.out, HS.out, HE.out]; rfl), (Below.refl _ _).alloc (Nat.le_refl _) _⟩
            · have hU2 : Hid (ws.all okWr = true) := Lib.hid (by rw [HU.out]; exact all_end _ _ _ (by rw [HM.out]; omega))
              go_wp2
              go_ret
              exact ⟨ret_bool (by rw [HY.out, HT2.out, hU2.out]; rfl), (Below.refl _ _).alloc (Nat.le_refl _) _⟩
    · have hb : ((n : Int) != 48) = false := by simp; omega
      have hb2 : (60 : Int) < (m : Int) := by omega
      have HF := Lib.hid (okDisk_no2 ss ws (by rw [HM.out]; omega))
      clear h48
      go_enter Try.func85, Try.ntmps85
      go_wp2
      go_ret
      exact ⟨ret_bool HF.out.symm, (Below.refl _ _).alloc (Nat.le_refl _) _⟩
  · have hb : ((n : Int) != 48) = true := by simp; omega
    have HF := Lib.hid (okDisk_no1 ss ws (by rw [HL.out]; exact h48))
    clear h48
    go_enter Try.func85, Try.ntmps85
    go_wp2
    go_ret
    exact ⟨ret_bool HF.out.symm, (Below.refl _ _).alloc (Nat.le_refl _) _⟩
end Go.Proofs.Ytoogaaoknpfkoaa
