/- Contracts of l01Read and of both ReadDisk. -/
import Derived.Test.YtoogaaoknpfkoaaOkDisk
namespace Go.Proofs.Ytoogaaoknpfkoaa
open Go.RowKit

/-- The last of the first k writes to a sector. -/
def down (ws : List (Int × ByteArray)) (at_ : Int) : Nat → Option ByteArray
  | 0 => none
  | k + 1 => if (ws.getD k (0, ByteArray.empty)).1 = at_ then some (ws.getD k (0, ByteArray.empty)).2 else down ws at_ k
def readS (ss : List ByteArray) (ws : List (Int × ByteArray)) (at_ : Int) : ByteArray :=
  match down ws at_ ws.length with
  | some s => s
  | none => ss.getD at_.toNat ByteArray.empty
theorem readS_hit {ss : List ByteArray} {ws : List (Int × ByteArray)} {at_ : Int} {m : Nat} {s : ByteArray} (hm : ws.length = m) (h : down ws at_ m = some s) : readS ss ws at_ = s := by unfold readS; rw [hm, h]
theorem readS_miss {ss : List ByteArray} {ws : List (Int × ByteArray)} {at_ : Int} {m : Nat} (hm : ws.length = m) (h : down ws at_ m = none) : readS ss ws at_ = ss.getD at_.toNat ByteArray.empty := by unfold readS; rw [hm, h]
theorem down_step (ws : List (Int × ByteArray)) (at_ : Int) (j : Nat) : down ws at_ ((j : Int) + 1).toNat = if (ws.getD j (0, ByteArray.empty)).1 = at_ then some (ws.getD j (0, ByteArray.empty)).2 else down ws at_ j := by
  rw [show ((j : Int) + 1).toNat = j + 1 by omega]; rfl

theorem ret_str {a b : ByteArray} (h : a = b) : Ending.returned (.string a) = .returned (.string b) := by rw [h]
theorem ret_str_int {a b : ByteArray} {x y : Int} (h : a = b) (k : x = y) : Ending.returned (.tuple #[.string a, .int .i64 x]) = .returned (.tuple #[.string b, .int .i64 y]) := by rw [h, k]

set_option maxRecDepth 100000 in
set_option maxHeartbeats 2000000 in
theorem l01Read (A C : Option Addr) (n c m d : Nat) (ss : List ByteArray) (ws : List (Int × ByteArray)) (k : Nat) (w : World) (hl : ss.length = n) (hm : ws.length = m) (_hn : n ≤ maxLen) (hmm : m ≤ maxLen) (h : StrL w A ss) (g : WrL w C ws) (hk : k < n) :
    Calls Try.prog 92 #[.agg #[.slice A n c, .slice C m d], .int .i64 k] w fun e w' => e = .returned (.string (readS ss ws k)) ∧ Below w.heap.size w w' := by
  unfold maxLen at hmm
  have hb0 : Below w.heap.size w (w.alloc (.cells #[.slice A n c, .slice C m d] 26)) := (Below.refl _ _).alloc (Nat.le_refl _) _
  have HL := Lib.hid hl
  have HM := Lib.hid hm
  have H := Lib.hid (h.below hb0)
  have G := Lib.hid (g.below hb0)
  clear hl hm h g
  have hk' : (k : Int) < (n : Int) := by omega
  go_enter Try.func92, Try.ntmps92
  go_wp2
  go_loop [5] (fun i => ∃ z : Int, i = .int .i64 z ∧ -1 ≤ z ∧ z < m ∧ Hid (down ws k m = down ws k (z + 1).toNat)) (fun i => (intOf i + 1).toNat)
  case atStart => exact ⟨_, rfl, by omega, by omega, Lib.hid (by rw [show ((m : Int) - 1 + 1).toNat = m by omega])⟩
  case round =>
    obtain ⟨z, rfl, hz1, hz2, HT⟩ := hrel
    by_cases hz : 0 ≤ z
    · obtain ⟨j, rfl⟩ : ∃ j : Nat, z = j := ⟨z.toNat, by omega⟩
      obtain ⟨b, off, rfl, hc, hd⟩ := G.out j (by rw [HM.out]; omega)
      have HS := Lib.hid (down_step ws k j)
      generalize ws.getD j (0, ByteArray.empty) = x at hc hd HS
      obtain ⟨x1, x2⟩ := x
      simp only at hc hd
      have hi : (j : Int) < (m : Int) := hz2
      by_cases hE : x1 = (k : Int)
      · have hq : (x1 == (k : Int)) = true := by simp [hE]
        have HE := Lib.hid hE
        clear hE
        go_wp2
        go_ret
        exact ⟨ret_str (readS_hit HM.out (by rw [HT.out, HS.out]; simp [HE.out])).symm, hb0⟩
      · have hq : (x1 == (k : Int)) = false := by simp [hE]
        have HE := Lib.hid hE
        clear hE
        go_wp2
        go_round
        case rel => exact ⟨_, rfl, by omega, by omega, Lib.hid (by rw [HT.out, HS.out, if_neg HE.out, show ((j : Int) - 1 + 1).toNat = j by omega])⟩
        case measure => simp [intOf]
    · obtain ⟨b, off, rfl, hc⟩ := H.out k (by rw [HL.out]; exact hk)
      have HF := Lib.hid (readS_miss (ss := ss) HM.out (by rw [HT.out, show (z + 1).toNat = 0 by omega]; rfl))
      have hz' : z < 0 := by omega
      go_wp2
      go_ret
      exact ⟨ret_str (by rw [HF.out]; rfl), hb0⟩

set_option maxRecDepth 100000 in
set_option maxHeartbeats 2000000 in
theorem content (A C : Option Addr) (n c m d : Nat) (ss : List ByteArray) (ws : List (Int × ByteArray)) (k : Nat) (w : World) (hl : ss.length = n) (hm : ws.length = m) (_hn : n ≤ maxLen) (hmm : m ≤ maxLen) (h : StrL w A ss) (g : WrL w C ws) (hk : k < n) :
    Calls Try.prog 81 #[.agg #[.slice A n c, .slice C m d], .int .i64 k] w fun e w' => e = .returned (.string (readS ss ws k)) ∧ Below w.heap.size w w' := by
  unfold maxLen at hmm
  have hb0 : Below w.heap.size w (w.alloc (.cells #[.slice A n c, .slice C m d] 26)) := (Below.refl _ _).alloc (Nat.le_refl _) _
  have HL := Lib.hid hl
  have HM := Lib.hid hm
  have H := Lib.hid (h.below hb0)
  have G := Lib.hid (g.below hb0)
  clear hl hm h g
  have hk' : (k : Int) < (n : Int) := by omega
  go_enter Try.func81, Try.ntmps81
  go_wp2
  go_loop [5] (fun i => ∃ z : Int, i = .int .i64 z ∧ -1 ≤ z ∧ z < m ∧ Hid (down ws k m = down ws k (z + 1).toNat)) (fun i => (intOf i + 1).toNat)
  case atStart => exact ⟨_, rfl, by omega, by omega, Lib.hid (by rw [show ((m : Int) - 1 + 1).toNat = m by omega])⟩
  case round =>
    obtain ⟨z, rfl, hz1, hz2, HT⟩ := hrel
    by_cases hz : 0 ≤ z
    · obtain ⟨j, rfl⟩ : ∃ j : Nat, z = j := ⟨z.toNat, by omega⟩
      obtain ⟨b, off, rfl, hc, hd⟩ := G.out j (by rw [HM.out]; omega)
      have HS := Lib.hid (down_step ws k j)
      generalize ws.getD j (0, ByteArray.empty) = x at hc hd HS
      obtain ⟨x1, x2⟩ := x
      simp only at hc hd
      have hi : (j : Int) < (m : Int) := hz2
      by_cases hE : x1 = (k : Int)
      · have hq : (x1 == (k : Int)) = true := by simp [hE]
        have HE := Lib.hid hE
        clear hE
        go_wp2
        go_ret
        exact ⟨ret_str (readS_hit HM.out (by rw [HT.out, HS.out]; simp [HE.out])).symm, hb0⟩
      · have hq : (x1 == (k : Int)) = false := by simp [hE]
        have HE := Lib.hid hE
        clear hE
        go_wp2
        go_round
        case rel => exact ⟨_, rfl, by omega, by omega, Lib.hid (by rw [HT.out, HS.out, if_neg HE.out, show ((j : Int) - 1 + 1).toNat = j by omega])⟩
        case measure => simp [intOf]
    · obtain ⟨b, off, rfl, hc⟩ := H.out k (by rw [HL.out]; exact hk)
      have HF := Lib.hid (readS_miss (ss := ss) HM.out (by rw [HT.out, show (z + 1).toNat = 0 by omega]; rfl))
      have hz' : z < 0 := by omega
      go_wp2
      go_ret
      exact ⟨ret_str (by rw [HF.out]; rfl), hb0⟩

/-- What ReadDisk answers. -/
def readOf (ss : List ByteArray) (ws : List (Int × ByteArray)) (a : Int) : ByteArray × Int :=
  if okDisk ss ws = true then (if secB a = true then (readS ss ws a, 0) else (ByteArray.empty, 4)) else (ByteArray.empty, 1)
theorem secB_lt {a : Int} (h : secB a = true) : 0 ≤ a ∧ a ≤ 47 := by unfold secB at h; simpa using h
theorem okDisk_len {ss : List ByteArray} {ws : List (Int × ByteArray)} (h : okDisk ss ws = true) : ss.length = 48 ∧ ws.length ≤ 60 := by unfold okDisk at h; simp at h; exact h.1

set_option maxRecDepth 100000 in
set_option maxHeartbeats 2000000 in
theorem specRead (A C : Option Addr) (n c m d : Nat) (ss : List ByteArray) (ws : List (Int × ByteArray)) (a : Int) (w : World) (hl : ss.length = n) (hm : ws.length = m) (hn : n ≤ maxLen) (hmm : m ≤ maxLen) (h : StrL w A ss) (g : WrL w C ws) (fs : FitS ss) (fw : FitW ws) :
    Calls Try.prog 34 #[.agg #[.slice A n c, .slice C m d], .int .i64 a] w fun e w' => e = .returned (.tuple #[.string (readOf ss ws a).1, .int .i64 (readOf ss ws a).2]) ∧ Below w.heap.size w w' := by
  have hb0 : Below w.heap.size w (w.alloc (.cells #[.slice A n c, .slice C m d] 26)) := (Below.refl _ _).alloc (Nat.le_refl _) _
  have HC := Lib.hid (specDiskOK A C n c m d ss ws _ hl hm hn hmm (h.below hb0) (g.below hb0) fs fw)
  have HR := Lib.hid (fun k hk W (hb : Below w.heap.size w W) => l01Read A C n c m d ss ws k W hl hm hn hmm (h.below hb) (g.below hb) hk)
  have HL := Lib.hid hl
  clear hl hm hn hmm h g fs fw
  by_cases hok : okDisk ss ws = true
  · by_cases hs : secB a = true
    · have HV : Hid (readOf ss ws a = (readS ss ws a, 0)) := Lib.hid (by unfold readOf; rw [if_pos hok, if_pos hs])
      have hr := secB_lt hs
      obtain ⟨k, rfl⟩ : ∃ k : Nat, a = k := ⟨a.toNat, by omega⟩
      have hlt : k < n := by have := (okDisk_len hok).1; have := HL.out; omega
      have HO := Lib.hid hok
      have HSx := Lib.hid hs
      clear hok hs
      go_enter Try.func34, Try.ntmps34
      go_wp2_with fail
      refine HC.out.mono ?_
      rintro e w1 ⟨rfl, hb1⟩
      rw [HO.out]
      have X := (Box.new w 26 #[.slice A n c, .slice C m d]).step hb1
      have f0 : w1.cell? ⟨w.heap.size, 0, none⟩ = some (.slice A n c) := X.cell 0 rfl
      have f1 : w1.cell? ⟨w.heap.size, 1, none⟩ = some (.slice C m d) := X.cell 1 rfl
      clear X
      have hb2 := bt hb0 hb1
      go_wp2_with fail
      refine (l01In47 _ _).mono ?_
      rintro e w2 ⟨rfl, rfl⟩
      rw [HSx.out]
      go_wp2_with fail
      refine (HR.out k hlt _ hb2).mono ?_
      rintro e w3 ⟨rfl, hb3⟩
      go_wp2
      go_ret2
      exact ⟨ret_str_int (by rw [HV.out]) (by rw [HV.out]), bt hb2 hb3⟩
    · have HV : Hid (readOf ss ws a = (ByteArray.empty, 4)) := Lib.hid (by unfold readOf; rw [if_pos hok, if_neg hs])
      have HO := Lib.hid hok
      have hs' : secB a = false := by simpa using hs
      have HSx := Lib.hid hs'
      clear hok hs hs'
      go_enter Try.func34, Try.ntmps34
      go_wp2_with fail
      refine HC.out.mono ?_
      rintro e w1 ⟨rfl, hb1⟩
      rw [HO.out]
      go_wp2_with fail
      refine (l01In47 _ _).mono ?_
      rintro e w2 ⟨rfl, rfl⟩
      rw [HSx.out]
      go_wp2
      go_ret2
      exact ⟨ret_str_int (by rw [HV.out]; rfl) (by rw [HV.out]), bt hb0 hb1⟩
  · have HV : Hid (readOf ss ws a = (ByteArray.empty, 1)) := Lib.hid (by unfold readOf; rw [if_neg hok])
    have hok' : okDisk ss ws = false := by simpa using hok
    have HO := Lib.hid hok'
    clear hok hok'
    go_enter Try.func34, Try.ntmps34
    go_wp2_with fail
    refine HC.out.mono ?_
    rintro e w1 ⟨rfl, hb1⟩
    rw [HO.out]
    go_wp2
    go_ret2
    exact ⟨ret_str_int (by rw [HV.out]; rfl) (by rw [HV.out]), bt hb0 hb1⟩

set_option maxRecDepth 100000 in
set_option maxHeartbeats 2000000 in
theorem implRead (A C : Option Addr) (n c m d : Nat) (ss : List ByteArray) (ws : List (Int × ByteArray)) (a : Int) (w : World) (hl : ss.length = n) (hm : ws.length = m) (hn : n ≤ maxLen) (hmm : m ≤ maxLen) (h : StrL w A ss) (g : WrL w C ws) (fs : FitS ss) (fw : FitW ws) :
    Calls Try.prog 24 #[.agg #[.slice A n c, .slice C m d], .int .i64 a] w fun e w' => e = .returned (.tuple #[.string (readOf ss ws a).1, .int .i64 (readOf ss ws a).2]) ∧ Below w.heap.size w w' := by
  have hb0 : Below w.heap.size w (w.alloc (.cells #[.slice A n c, .slice C m d] 26)) := (Below.refl _ _).alloc (Nat.le_refl _) _
  have HC := Lib.hid (diskValid A C n c m d ss ws _ hl hm hn hmm (h.below hb0) (g.below hb0) fs fw)
  have HR := Lib.hid (fun k hk W (hb : Below w.heap.size w W) => content A C n c m d ss ws k W hl hm hn hmm (h.below hb) (g.below hb) hk)
  have HL := Lib.hid hl
  clear hl hm hn hmm h g fs fw
  by_cases hok : okDisk ss ws = true
  · by_cases hs : secB a = true
    · have HV : Hid (readOf ss ws a = (readS ss ws a, 0)) := Lib.hid (by unfold readOf; rw [if_pos hok, if_pos hs])
      have hr := secB_lt hs
      obtain ⟨k, rfl⟩ : ∃ k : Nat, a = k := ⟨a.toNat, by omega⟩
      have hlt : k < n := by have := (okDisk_len hok).1; have := HL.out; omega
      have HO := Lib.hid hok
      have HSx := Lib.hid hs
      clear hok hs
      go_enter Try.func24, Try.ntmps24
      go_wp2_with fail
      refine HC.out.mono ?_
      rintro e w1 ⟨rfl, hb1⟩
      rw [HO.out]
      have X := (Box.new w 26 #[.slice A n c, .slice C m d]).step hb1
      have f0 : w1.cell? ⟨w.heap.size, 0, none⟩ = some (.slice A n c) := X.cell 0 rfl
      have f1 : w1.cell? ⟨w.heap.size, 1, none⟩ = some (.slice C m d) := X.cell 1 rfl
      clear X
      have hb2 := bt hb0 hb1
      go_wp2_with fail
      refine (isSector _ _).mono ?_
      rintro e w2 ⟨rfl, rfl⟩
      rw [HSx.out]
      go_wp2_with fail
      refine (HR.out k hlt _ hb2).mono ?_
      rintro e w3 ⟨rfl, hb3⟩
      go_wp2
      go_ret2
      exact ⟨ret_str_int (by rw [HV.out]) (by rw [HV.out]), bt hb2 hb3⟩
    · have HV : Hid (readOf ss ws a = (ByteArray.empty, 4)) := Lib.hid (by unfold readOf; rw [if_pos hok, if_neg hs])
      have HO := Lib.hid hok
      have hs' : secB a = false := by simpa using hs
      have HSx := Lib.hid hs'
      clear hok hs hs'
      go_enter Try.func24, Try.ntmps24
      go_wp2_with fail
      refine HC.out.mono ?_
      rintro e w1 ⟨rfl, hb1⟩
      rw [HO.out]
      go_wp2_with fail
      refine (isSector _ _).mono ?_
      rintro e w2 ⟨rfl, rfl⟩
      rw [HSx.out]
      go_wp2
      go_ret2
      exact ⟨ret_str_int (by rw [HV.out]; rfl) (by rw [HV.out]), bt hb0 hb1⟩
  · have HV : Hid (readOf ss ws a = (ByteArray.empty, 1)) := Lib.hid (by unfold readOf; rw [if_neg hok])
    have hok' : okDisk ss ws = false := by simpa using hok
    have HO := Lib.hid hok'
    clear hok hok'
    go_enter Try.func24, Try.ntmps24
    go_wp2_with fail
    refine HC.out.mono ?_
    rintro e w1 ⟨rfl, hb1⟩
    rw [HO.out]
    go_wp2
    go_ret2
    exact ⟨ret_str_int (by rw [HV.out]; rfl) (by rw [HV.out]), bt hb0 hb1⟩

end Go.Proofs.Ytoogaaoknpfkoaa
