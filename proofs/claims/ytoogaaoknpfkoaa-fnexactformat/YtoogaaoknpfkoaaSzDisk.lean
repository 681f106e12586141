/- Contracts of the measures: szStringS, szWrite, szWriteS, szDisk: what is left, or -1. -/
import Derived.Test.YtoogaaoknpfkoaaEqDisk
import Derived.Test.YtoogaaoknpfkoaaOwn
namespace Go.Proofs.Ytoogaaoknpfkoaa
open Go.RowKit

/-- How many letters the strings hold. -/
def lenS (ss : List ByteArray) : Nat := (ss.map (·.size)).sum
def lenW (ws : List (Int × ByteArray)) : Nat := (ws.map (·.2.size)).sum

theorem lenS_take (ss : List ByteArray) (k : Nat) (h : k < ss.length) : lenS (ss.take (k + 1)) = lenS (ss.take k) + (ss.getD k ByteArray.empty).size := by
  unfold lenS
  rw [List.take_succ_eq_append_getElem h, List.map_append, List.sum_append, List.getD_eq_getElem?_getD, List.getElem?_eq_getElem h]
  simp
theorem lenW_take (ws : List (Int × ByteArray)) (k : Nat) (h : k < ws.length) : lenW (ws.take (k + 1)) = lenW (ws.take k) + (ws.getD k (0, ByteArray.empty)).2.size := by
  unfold lenW
  rw [List.take_succ_eq_append_getElem h, List.map_append, List.sum_append, List.getD_eq_getElem?_getD, List.getElem?_eq_getElem h]
  simp

/-- What a measure answers: a negative number, or what is left of the bound. -/
def Left (left : Int) (used : Nat) (w : World) (e : Ending) (w' : World) : Prop :=
  (e = .returned (.int .i64 (-1)) ∨ e = .returned (.int .i64 (left - used)) ∧ (used : Int) ≤ left) ∧ Below w.heap.size w w'

set_option maxRecDepth 100000 in
set_option maxHeartbeats 1000000 in
theorem szStringS (A : Option Addr) (n c : Nat) (ss : List ByteArray) (left : Int) (w : World) (hl : ss.length = n) (hn : n ≤ maxLen) (h0 : 0 ≤ left) (h1 : left ≤ 1048576) (h : StrL w A ss) (hs : ∀ s ∈ ss, s.size ≤ maxLen) :
    Calls Try.prog 53 #[.slice A n c, .int .i64 left] w (Left left (ss.length + lenS ss) w) := by
  unfold maxLen at hn
  have HL := Lib.hid hl
  have H := Lib.hid h
  have HS := Lib.hid hs
  clear hl h hs
  by_cases hb : left < n
  · have hb' : left - (n : Int) < 0 := by omega
    go_enter Try.func53, Try.ntmps53
    go_wp2
    go_ret
    exact ⟨.inl rfl, Below.refl _ _⟩
  · have hb' : ¬ left - (n : Int) < 0 := by omega
    go_enter Try.func53, Try.ntmps53
    go_wp2
    go_loop [5, 1] (fun i l => ∃ k : Nat, k ≤ n ∧ i = .int .i64 k ∧ l = .int .i64 (left - n - lenS (ss.take k)) ∧ 0 ≤ left - n - lenS (ss.take k)) (fun i _ => n - (intOf i).toNat)
    case atStart => exact ⟨0, Nat.zero_le _, rfl, by simp [lenS], by simp [lenS]; omega⟩
    case round =>
      obtain ⟨k, hk, rfl, rfl, hr⟩ := hrel
      by_cases hlt : k < n
      · obtain ⟨b, off, rfl, hc⟩ := H.out k (by rw [HL.out]; exact hlt)
        have hx : (ss.getD k ByteArray.empty).size ≤ maxLen := HS.out _ (by rw [List.getD_eq_getElem?_getD, List.getElem?_eq_getElem (by rw [HL.out]; exact hlt)]; exact List.getElem_mem _)
        have HK := Lib.hid (lenS_take ss k (by rw [HL.out]; exact hlt))
        generalize ss.getD k ByteArray.empty = x at hc HK hx
        unfold maxLen at hx
        generalize lenS (ss.take k) = u at HK hr
        have hi : (k : Int) < (n : Int) := by omega
        by_cases hE : left - n - u < x.size
        · have hE' : left - (n : Int) - (u : Int) - (x.size : Int) < 0 := by omega
          go_wp2
          go_ret
          exact ⟨.inl rfl, Below.refl _ _⟩
        · have hE' : ¬ left - (n : Int) - (u : Int) - (x.size : Int) < 0 := by omega
          go_wp2
          go_round
          case rel => exact ⟨k + 1, by omega, by go_num, by rw [HK.out]; congr 1; omega, by rw [HK.out]; omega⟩
          case measure => simp [intOf]; omega
      · go_wp2
        go_ret
        have ek : ss.take k = ss := List.take_of_length_le (by rw [HL.out]; omega)
        rw [ek] at hr ⊢
        exact ⟨.inr ⟨ret_int (by rw [HL.out]; omega), by rw [HL.out]; omega⟩, Below.refl _ _⟩

set_option maxRecDepth 100000 in
theorem szWrite (a : Int) (s : ByteArray) (left : Int) (w : World) (h0 : 0 ≤ left) (h1 : left ≤ 1048576) (hs : s.size ≤ maxLen) :
    Calls Try.prog 142 #[.agg #[.int .i64 a, .string s], .int .i64 left] w (Left left s.size w) := by
  unfold maxLen at hs
  by_cases hE : left < s.size
  · have hE' : left - (s.size : Int) < 0 := by omega
    go_enter Try.func142, Try.ntmps142
    go_wp2
    go_ret
    exact ⟨.inl rfl, (Below.refl _ _).alloc (Nat.le_refl _) _⟩
  · have hE' : ¬ left - (s.size : Int) < 0 := by omega
    go_enter Try.func142, Try.ntmps142
    go_wp2
    go_ret
    exact ⟨.inr ⟨rfl, by omega⟩, (Below.refl _ _).alloc (Nat.le_refl _) _⟩

set_option maxRecDepth 100000 in
set_option maxHeartbeats 1000000 in
theorem szWriteS (A : Option Addr) (n c : Nat) (ws : List (Int × ByteArray)) (left : Int) (w : World) (hl : ws.length = n) (hn : n ≤ maxLen) (h0 : 0 ≤ left) (h1 : left ≤ 1048576) (h : WrL w A ws) (hs : ∀ x ∈ ws, x.2.size ≤ maxLen) :
    Calls Try.prog 90 #[.slice A n c, .int .i64 left] w (Left left (ws.length + lenW ws) w) := by
  unfold maxLen at hn
  have HL := Lib.hid hl
  have H := Lib.hid h
  have HS := Lib.hid hs
  clear hl h hs
  by_cases hb : left < n
  · have hb' : left - (n : Int) < 0 := by omega
    go_enter Try.func90, Try.ntmps90
    go_wp2
    go_ret
    exact ⟨.inl rfl, Below.refl _ _⟩
  · have hb' : ¬ left - (n : Int) < 0 := by omega
    go_enter Try.func90, Try.ntmps90
    go_wp2
    go_loopw [5, 1] (fun i l wr => ∃ k : Nat, k ≤ n ∧ i = .int .i64 k ∧ l = .int .i64 (left - n - lenW (ws.take k)) ∧ 0 ≤ left - n - lenW (ws.take k) ∧ Below w.heap.size w wr) (fun i _ _ => n - (intOf i).toNat)
    case atStart => exact ⟨0, Nat.zero_le _, rfl, by simp [lenW], by simp [lenW]; omega, Below.refl _ _⟩
    case round =>
      obtain ⟨k, hk, rfl, rfl, hr, hbw⟩ := hrel
      by_cases hlt : k < n
      · obtain ⟨b, off, rfl, hc, hd⟩ := (H.out.below hbw) k (by rw [HL.out]; exact hlt)
        have hx : (ws.getD k (0, ByteArray.empty)).2.size ≤ maxLen := HS.out _ (by rw [List.getD_eq_getElem?_getD, List.getElem?_eq_getElem (by rw [HL.out]; exact hlt)]; exact List.getElem_mem _)
        have HK := Lib.hid (lenW_take ws k (by rw [HL.out]; exact hlt))
        generalize ws.getD k (0, ByteArray.empty) = x at hc hd HK hx
        obtain ⟨x1, x2⟩ := x
        simp only at hx
        generalize lenW (ws.take k) = u at HK hr
        have hi : (k : Int) < (n : Int) := by omega
        have HC := Lib.hid (fun W => szWrite x1 x2 (left - n - u) W (by omega) (by omega) hx)
        go_wp2_with fail
        refine (HC.out _).mono ?_
        rintro e w1 ⟨hres, hb1⟩
        rcases hres with rfl | ⟨rfl, hle⟩
        · go_wp2
          go_ret
          exact ⟨.inl rfl, bt hbw hb1⟩
        · have hE' : ¬ left - (n : Int) - (u : Int) - (x2.size : Int) < 0 := by omega
          go_wp2
          go_roundw
          case rel => exact ⟨k + 1, by omega, by go_num, by rw [HK.out]; congr 1; omega, by rw [HK.out]; omega, bt hbw hb1⟩
          case measure => simp [intOf]; omega
      · go_wp2
        go_ret
        have ek : ws.take k = ws := List.take_of_length_le (by rw [HL.out]; omega)
        rw [ek] at hr ⊢
        exact ⟨.inr ⟨ret_int (by rw [HL.out]; omega), by rw [HL.out]; omega⟩, hbw⟩

/-- The measure of a disk. -/
def szOf (ss : List ByteArray) (ws : List (Int × ByteArray)) : Nat := (ss.length + lenS ss) + (ws.length + lenW ws)

set_option maxRecDepth 100000 in
set_option maxHeartbeats 1000000 in
theorem szDisk (A C : Option Addr) (n c m d : Nat) (ss : List ByteArray) (ws : List (Int × ByteArray)) (left : Int) (w : World) (h0 : 0 ≤ left) (h1 : left ≤ 1048576) (hl : ss.length = n) (hm : ws.length = m) (hn : n ≤ maxLen) (hmm : m ≤ maxLen) (h : StrL w A ss) (g : WrL w C ws) (fs : ∀ s ∈ ss, s.size ≤ maxLen) (fw : ∀ x ∈ ws, x.2.size ≤ maxLen) :
    Calls Try.prog 33 #[.agg #[.slice A n c, .slice C m d], .int .i64 left] w (Left left (szOf ss ws) w) := by
  have hb0 : Below w.heap.size w (w.alloc (.cells #[.slice A n c, .slice C m d] 44)) := (Below.refl _ _).alloc (Nat.le_refl _) _
  have HC := Lib.hid (szStringS A n c ss left _ hl hn h0 h1 (h.below hb0) fs)
  have HD := Lib.hid (fun l W a b hb => szWriteS C m d ws l W hm hmm a b (g.below hb) fw)
  clear hl hm hn hmm h g fs fw
  go_enter Try.func33, Try.ntmps33
  go_wp2_with fail
  refine HC.out.mono ?_
  rintro e w1 ⟨hres, hb1⟩
  have X := (Box.new w 44 #[.slice A n c, .slice C m d]).step hb1
  have f1 := X.cell 1 rfl
  clear X
  rcases hres with rfl | ⟨rfl, hle⟩
  · go_wp2
    go_ret
    exact ⟨.inl rfl, bt hb0 hb1⟩
  · generalize hu : ss.length + lenS ss = u at hle
    have HU := Lib.hid hu
    clear hu
    have hp : ¬ left - (u : Int) < 0 := by omega
    have hb2 := bt hb0 hb1
    go_wp2_with fail
    refine (HD.out (left - (u : Int)) _ (by omega) (by omega) hb2).mono ?_
    rintro e w2 ⟨hres, hb3⟩
    rcases hres with rfl | ⟨rfl, hle2⟩
    · go_wp2
      go_ret
      exact ⟨.inl rfl, bt hb2 hb3⟩
    · generalize hu : ws.length + lenW ws = v at hle2
      have HV := Lib.hid hu
      clear hu
      have hp2 : ¬ left - (u : Int) - (v : Int) < 0 := by omega
      go_wp2
      go_ret
      have e : ((szOf ss ws : Nat) : Int) = (u : Int) + (v : Int) := by unfold szOf; rw [HU.out, HV.out]; omega
      exact ⟨.inr ⟨ret_int (by rw [e]; omega), by rw [e]; omega⟩, bt hb2 hb3⟩
end Go.Proofs.Ytoogaaoknpfkoaa
