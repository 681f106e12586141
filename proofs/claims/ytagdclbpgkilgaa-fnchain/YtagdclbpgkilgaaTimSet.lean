/- slices.Clone of four timers; NewTimers and SetTimer on both sides. -/
import Derived.Test.YtagdclbpgkilgaaTimOk
import Derived.Lib.SliceRun
namespace Go.Proofs.Ytagdclbpgkilgaa
open Go.RowKit

/-- Timers of the call's own. -/
def GivesTs (n : Nat) (rs : List TTimer) (w : World) (e : Ending) (w' : World) : Prop :=
  ∃ A c, e = .returned (.slice A n c) ∧ Hid (OwnTimer w' w.heap.size w'.heap.size A rs) ∧ Below w.heap.size w w'
def GivesTsCode (rs : List TTimer) (code : Int) (w : World) (e : Ending) (w' : World) : Prop :=
  ∃ A c, e = .returned (.tuple #[.slice A rs.length c, .int .i64 code]) ∧ Hid (OwnA w' w.heap.size w'.heap.size [.slice A rs.length c] [rTimer rs]) ∧ Below w.heap.size w w'

set_option maxRecDepth 100000 in
set_option maxHeartbeats 1000000 in
theorem cloneT (A : Option Addr) (n c : Nat) (rs : List TTimer) (w : World) (hl : rs.length = n) (hn : 0 < n) (hn2 : n ≤ 4096) (h : RowTimer w A rs) :
    Calls Try.prog 58 #[.slice A n c] w (GivesTs n rs w) := by
  obtain ⟨ad, rfl, -⟩ := h.src (by omega)
  have HS := Lib.hid (fun W (hb : Below w.heap.size w W) => (h.below hb).src (by omega))
  have HC : Hid ((cellsTimer rs).length = n * 3) := Lib.hid (by rw [cellsTimer_len]; omega)
  have HL := Lib.hid hl
  have hba := alloc_below w (.cells #[] 54)
  have hnil : ∀ W : World, (binOp .eql 43 (.slice (some ad) n c) (.slice none 0 0)).run Try.prog W = .ok (.bool false) W := fun W => Lib.run_eql_slice_nil W _ _ (some ad) n c 0 0 Try.underlying43
  clear hl h
  go_enter Try.func58, Try.ntmps58
  go_wp2_with (first | (with_reducible refine wpList_app_fresh rfl (.tmp 5) (.tmp 6) 43 rfl 54 (.agg #[.int .i64 0, .int .i64 0, .bool false]) 3 24 Try.underlying43 infoTimerE rfl (by decide) _ rfl (some ad) n c hn (cellsTimer rs) rfl HC.out (HS.out _ hba) (by unfold maxLen; omega) (by omega) ?_))
  intro A1 c1 w1 hb1 O1
  have hk1 := hba.trans (hb1.mono (by omega))
  have S1 := Lib.hid (ownTimer_fresh (lo := w.heap.size) O1.out HL.out (by omega))
  clear HS HC HL hba hb1 O1
  go_wp2
  go_ret
  exact ⟨_, _, rfl, S1, hk1⟩

def newTs : List TTimer := [zTimer, zTimer, zTimer, zTimer]
theorem own_newT (w : World) : OwnTimer (w.alloc (.cells (madeCells #[.int .i64 0, .int .i64 0, .bool false] (4 * 3)) 54)) w.heap.size (w.heap.size + 1) (some ⟨w.heap.size, 0, none⟩) newTs := by
  refine own_fillTimer (rs := newTs) ((madeTimer w 4).congr (fun i hi => ?_)) (Nat.le_refl _) (by simp)
  have : i = 0 ∨ i = 1 ∨ i = 2 ∨ i = 3 ∨ i = 4 ∨ i = 5 ∨ i = 6 ∨ i = 7 ∨ i = 8 ∨ i = 9 ∨ i = 10 ∨ i = 11 := by omega
  rcases this with rfl | rfl | rfl | rfl | rfl | rfl | rfl | rfl | rfl | rfl | rfl | rfl <;> rfl
theorem giveNewT (w : World) : ∃ A c, (Ending.returned (.slice (some ⟨w.heap.size, 0, none⟩) 4 4)) = .returned (.slice A newTs.length c) ∧ Hid (OwnA (w.alloc (.cells (madeCells #[.int .i64 0, .int .i64 0, .bool false] (4 * 3)) 54)) w.heap.size (w.alloc (.cells (madeCells #[.int .i64 0, .int .i64 0, .bool false] (4 * 3)) 54)).heap.size [.slice A newTs.length c] [rTimer newTs]) ∧ Below w.heap.size w (w.alloc (.cells (madeCells #[.int .i64 0, .int .i64 0, .bool false] (4 * 3)) 54)) :=
  ⟨_, _, rfl, Lib.hid (OwnA.one (own_rTimer.2 ⟨rfl, by rw [show (w.alloc (.cells (madeCells #[.int .i64 0, .int .i64 0, .bool false] (4 * 3)) 54)).heap.size = w.heap.size + 1 by simp]; exact own_newT w⟩)), alloc_below _ _⟩
set_option maxRecDepth 100000 in
theorem makeT4 (w : World) : (Instr.makeSlice 43 (.int .i64 4) (.int .i64 4)).run Try.prog w = .ok (.slice (some ⟨w.heap.size, 0, none⟩) 4 4) (w.alloc (.cells (madeCells #[.int .i64 0, .int .i64 0, .bool false] (4 * 3)) 54)) := makeTimer 4 (by omega) w
set_option maxRecDepth 100000 in
theorem specNewTimersA (w : World) : Calls Try.prog 31 #[] w fun e w' => ∃ A c, e = .returned (.slice A newTs.length c) ∧ Hid (OwnA w' w.heap.size w'.heap.size [.slice A newTs.length c] [rTimer newTs]) ∧ Below w.heap.size w w' := by
  have hmk := makeT4 w
  have HG := Lib.hid (giveNewT w)
  go_enter Try.func31, Try.ntmps31
  go_wp2
  go_ret
  exact HG.out
set_option maxRecDepth 100000 in
theorem implNewTimersA (w : World) : Calls Try.prog 26 #[] w fun e w' => ∃ A c, e = .returned (.slice A newTs.length c) ∧ Hid (OwnA w' w.heap.size w'.heap.size [.slice A newTs.length c] [rTimer newTs]) ∧ Below w.heap.size w w' := by
  have hmk := makeT4 w
  have HG := Lib.hid (giveNewT w)
  go_enter Try.func26, Try.ntmps26
  go_wp2
  go_ret
  exact HG.out
theorem setTR_no {rs : List TTimer} {i l : Int} {c : Bool} (h : setTC rs i l c ≠ 0) : setTR rs i l c = [] := by unfold setTR; rw [if_neg h]
theorem setTR_yes {rs : List TTimer} {i l : Int} {c : Bool} (h : setTC rs i l c = 0) : setTR rs i l c = rs.set i.toNat (0, l, c) := by unfold setTR; rw [if_pos h]
theorem setT_bnd (rs : List TTimer) (i l : Int) (c : Bool) (z : szA [rTimer rs] ≤ 1048576) : lenA [rTimer (setTR rs i l c)] ≤ 4294967296 := by
  simp only [szA, sz_rTimer] at z
  simp only [lenA, len_rTimer]
  have := setTR_len rs i l c
  omega
theorem givesT_none (w w' : World) (A : Option Addr) (c : Nat) (code : Int) (h : Below w.heap.size w w') : GivesTsCode [] code w (.returned (.tuple #[.slice A 0 c, .int .i64 code])) w' :=
  ⟨A, c, rfl, Lib.hid (OwnA.one (own_rTimer.2 ⟨rfl, .inl rfl⟩)), h⟩
theorem givesT_some {w w' : World} {A : Option Addr} {n c : Nat} {code : Int} {rs : List TTimer} (hl : rs.length = n) (h : OwnTimer w' w.heap.size w'.heap.size A rs) (hb : Below w.heap.size w w') : GivesTsCode rs code w (.returned (.tuple #[.slice A n c, .int .i64 code])) w' := by
  subst hl
  exact ⟨A, c, rfl, Lib.hid (OwnA.one (own_rTimer.2 ⟨rfl, h⟩)), hb⟩
/-- The three ways of what is set: in range to the end, or one of the parts is not. -/
theorem setTB_cases (i l : Int) (c : Bool) : (iB i = false ∧ setTB i l c = false) ∨ (iB i = true ∧ limB l = false ∧ setTB i l c = false) ∨ (iB i = true ∧ limB l = true ∧ c = false ∧ setTB i l c = true) ∨ (iB i = true ∧ limB l = true ∧ c = true ∧ i = 0 ∧ setTB i l c = false) ∨ (iB i = true ∧ limB l = true ∧ c = true ∧ i ≠ 0 ∧ setTB i l c = true) := by
  unfold setTB
  cases iB i <;> cases limB l <;> cases c <;> simp <;> omega
section
variable (A0 : Option Addr) (c0 : Nat) (d0 : List TTimer) (i l : Int) (ch : Bool) (w : World)
/-- What is left to do once the arguments are in order: the copy is made, and one element of it written anew. -/
theorem setT_end {w w4 : World} {lo : Nat} {A1 : Option Addr} {rs : List TTimer} (k : Nat) (hk : k < 4) (hl : rs.length = 4) (h : OwnTimer w4 w.heap.size w4.heap.size A1 rs) (y : TTimer) (hb : Below w.heap.size w w4) :
    ∃ b, A1 = some ⟨b, 0, none⟩ ∧ ((∃ v, w4.cell? ⟨b, k * 3, none⟩ = some (.int .i64 v)) ∧ (∃ v, w4.cell? ⟨b, k * 3 + 1, none⟩ = some (.int .i64 v)) ∧ (∃ v, w4.cell? ⟨b, k * 3 + 2, none⟩ = some (.bool v))) ∧ (∀ x, w4.frozen? ⟨b, x, none⟩ = false) ∧
      GivesTsCode (rs.set k y) 0 w (.returned (.tuple #[.slice A1 4 lo, .int .i64 0])) (((w4.setCell ⟨b, k * 3, none⟩ (.int .i64 y.1)).setCell ⟨b, k * 3 + 1, none⟩ (.int .i64 y.2.1)).setCell ⟨b, k * 3 + 2, none⟩ (.bool y.2.2)) := by
  obtain ⟨b, m, f, rfl, ⟨g0, g1, g2⟩, gz, q1, q2, hr, hput, -⟩ := h.put k (by omega)
  have hbe := (((hb).setCell (p := ⟨b, k * 3, none⟩) q1 (.int .i64 y.1)).setCell (p := ⟨b, k * 3 + 1, none⟩) q1 (.int .i64 y.2.1)).setCell (p := ⟨b, k * 3 + 2, none⟩) q1 (.bool y.2.2)
  refine ⟨b, rfl, ⟨⟨_, g0⟩, ⟨_, g1⟩, ⟨_, g2⟩⟩, gz, givesT_some (by rw [List.length_set]; exact hl) ?_ hbe⟩
  simpa using hput y
set_option maxRecDepth 100000 in
set_option maxHeartbeats 4000000 in
theorem specSetTimerA (h : RepA w [.slice A0 d0.length c0] [rTimer d0]) (_c : CapA [.slice A0 d0.length c0]) (z : szA [rTimer d0] ≤ 1048576) :
    Calls Try.prog 34 #[.slice A0 d0.length c0, .int .i64 i, .int .i64 l, .bool ch] w (GivesTsCode (setTR d0 i l ch) (setTC d0 i l ch) w) := by
  have hrow := rowsOfT h
  have hn := rowsLenT z
  clear h _c z
  generalize hl : d0.length = n at hn ⊢
  have HD := Lib.hid (specTimersOK A0 n c0 d0 w hl hn hrow)
  have HL := Lib.hid hl
  have HRow := Lib.hid hrow
  unfold maxLen at hn
  clear hl hrow
  by_cases hz : timC d0 = 0
  · have h1 := timC0 hz
    have HS := Lib.hid ((timC_yes hz).1 i l ch)
    have hn4 : n = 4 := by rw [← HL.out]; exact timB_len h1
    subst hn4
    rw [h1] at HD
    clear h1 hz
    rcases setTB_cases i l ch with ⟨k0, kE⟩ | ⟨k0, k1, kE⟩ | ⟨k0, k1, rfl, kE⟩ | ⟨k0, k1, rfl, rfl, kE⟩ | ⟨k0, k1, rfl, kz, kE⟩
    · have e1 : setTC d0 i l ch = 4 := by rw [HS.out, kE]; rfl
      rw [setTR_no (by omega), e1]
      have k0 : decide (0 ≤ i ∧ i ≤ 3) = false := k0
      clear HS e1 kE
      go_enter Try.func34, Try.ntmps34
      go_wp2_with fail
      refine HD.out.mono ?_
      rintro e w1 ⟨rfl, hb1⟩
      have hb2 := bt hb1 (alloc_below w1 (.cells #[] 54))
      go_wp2_with (first | (go_at_call 51; refine (inT _ _ _ _).mono ?_; rintro e w' ⟨rfl, rfl⟩; rw [k0]))
      go_ret2
      exact givesT_none _ _ _ _ _ hb2
    · have e1 : setTC d0 i l ch = 4 := by rw [HS.out, kE]; rfl
      rw [setTR_no (by omega), e1]
      have k0 : decide (0 ≤ i ∧ i ≤ 3) = true := k0
      have k1 : decide (0 ≤ l ∧ l ≤ 256) = false := k1
      clear HS e1 kE
      go_enter Try.func34, Try.ntmps34
      go_wp2_with fail
      refine HD.out.mono ?_
      rintro e w1 ⟨rfl, hb1⟩
      have hb2 := bt hb1 (alloc_below w1 (.cells #[] 54))
      go_wp2_with (first | (go_at_call 51; refine (inT _ _ _ _).mono ?_; rintro e w' ⟨rfl, rfl⟩; (first | rw [k0] | rw [k1])))
      go_ret2
      exact givesT_none _ _ _ _ _ hb2
    · have e1 : setTC d0 i l false = 0 := by rw [HS.out, kE]; rfl
      rw [setTR_yes e1, e1]
      have hi0 : 0 ≤ i ∧ i ≤ 3 := by simpa [iB] using k0
      obtain ⟨k, rfl⟩ : ∃ k : Nat, i = k := ⟨i.toNat, by omega⟩
      have hk : k < 4 := by omega
      have k0 : decide (0 ≤ (k : Int) ∧ (k : Int) ≤ 3) = true := k0
      have k1 : decide (0 ≤ l ∧ l ≤ 256) = true := k1
      clear HS e1 kE hi0
      go_enter Try.func34, Try.ntmps34
      go_wp2_with fail
      refine HD.out.mono ?_
      rintro e w1 ⟨rfl, hb1⟩
      have hb3 := bt hb1 (alloc_below w1 (.cells #[] 54))
      have hz : (w1.alloc (.cells #[] 54)).heap.size = w1.heap.size + 1 := by simp
      have HSrc := Lib.hid ((HRow.out.below hb3).src (by rw [HL.out]; omega))
      have HC : Hid ((cellsTimer d0).length = 4 * 3) := Lib.hid (by rw [cellsTimer_len, HL.out])
      go_wp2_with (first | (go_at_call 51; refine (inT _ _ _ _).mono ?_; rintro e w' ⟨rfl, rfl⟩; (first | rw [k0] | rw [k1])) | (with_reducible refine wpList_app_fresh rfl (.tmp 34) (.tmp 35) 43 rfl 54 (.agg #[.int .i64 0, .int .i64 0, .bool false]) 3 24 Try.underlying43 infoTimerE rfl (by decide) _ rfl A0 4 c0 (by decide) (cellsTimer d0) rfl HC.out HSrc.out (by unfold maxLen; omega) (by omega) ?_))
      intro A1 c1 w4 hb4 O4
      have hb4' := bt hb3 (by rw [hz]; exact hb4)
      obtain ⟨b, rfl, ⟨⟨y0, g0⟩, ⟨y1, g1⟩, ⟨y2, g2⟩⟩, gz, hG⟩ := setT_end (lo := c1) k hk HL.out (ownTimer_fresh (lo := w.heap.size) O4.out HL.out (by have := hb1.size; omega)) (0, l, false) hb4'
      have gz0 := gz (k * 3)
      have gz1 := gz (k * 3 + 1)
      have gz2 := gz (k * 3 + 2)
      have HG := Lib.hid hG
      have hk4 : (k : Int) < 4 := by omega
      have hk0 : (0 : Int) ≤ (k : Int) := by omega
      clear hG gz O4 HSrc HC
      go_wp2
      go_ret2
      simpa using HG.out
    · have e1 : setTC d0 0 l true = 4 := by rw [HS.out, kE]; rfl
      rw [setTR_no (by omega), e1]
      have k0 : decide ((0 : Int) ≤ 0 ∧ (0 : Int) ≤ 3) = true := rfl
      have k1 : decide (0 ≤ l ∧ l ≤ 256) = true := k1
      clear HS e1 kE
      go_enter Try.func34, Try.ntmps34
      go_wp2_with fail
      refine HD.out.mono ?_
      rintro e w1 ⟨rfl, hb1⟩
      have hb2 := bt hb1 (alloc_below w1 (.cells #[] 54))
      go_wp2_with (first | (go_at_call 51; refine (inT _ _ _ _).mono ?_; rintro e w' ⟨rfl, rfl⟩; (first | rw [k0] | rw [k1])))
      go_ret2
      exact givesT_none _ _ _ _ _ hb2
    · have e1 : setTC d0 i l true = 0 := by rw [HS.out, kE]; rfl
      rw [setTR_yes e1, e1]
      have hi0 : 0 ≤ i ∧ i ≤ 3 := by simpa [iB] using k0
      obtain ⟨k, rfl⟩ : ∃ k : Nat, i = k := ⟨i.toNat, by omega⟩
      have hk : k < 4 := by omega
      have k0 : decide (0 ≤ (k : Int) ∧ (k : Int) ≤ 3) = true := k0
      have k1 : decide (0 ≤ l ∧ l ≤ 256) = true := k1
      have kz : ((k : Int) == 0) = false := by simpa using kz
      clear HS e1 kE hi0
      go_enter Try.func34, Try.ntmps34
      go_wp2_with fail
      refine HD.out.mono ?_
      rintro e w1 ⟨rfl, hb1⟩
      have hb3 := bt hb1 (alloc_below w1 (.cells #[] 54))
      have hz : (w1.alloc (.cells #[] 54)).heap.size = w1.heap.size + 1 := by simp
      have HSrc := Lib.hid ((HRow.out.below hb3).src (by rw [HL.out]; omega))
      have HC : Hid ((cellsTimer d0).length = 4 * 3) := Lib.hid (by rw [cellsTimer_len, HL.out])
      go_wp2_with (first | (go_at_call 51; refine (inT _ _ _ _).mono ?_; rintro e w' ⟨rfl, rfl⟩; (first | rw [k0] | rw [k1])) | (with_reducible refine wpList_app_fresh rfl (.tmp 34) (.tmp 35) 43 rfl 54 (.agg #[.int .i64 0, .int .i64 0, .bool false]) 3 24 Try.underlying43 infoTimerE rfl (by decide) _ rfl A0 4 c0 (by decide) (cellsTimer d0) rfl HC.out HSrc.out (by unfold maxLen; omega) (by omega) ?_))
      intro A1 c1 w4 hb4 O4
      have hb4' := bt hb3 (by rw [hz]; exact hb4)
      obtain ⟨b, rfl, ⟨⟨y0, g0⟩, ⟨y1, g1⟩, ⟨y2, g2⟩⟩, gz, hG⟩ := setT_end (lo := c1) k hk HL.out (ownTimer_fresh (lo := w.heap.size) O4.out HL.out (by have := hb1.size; omega)) (0, l, true) hb4'
      have gz0 := gz (k * 3)
      have gz1 := gz (k * 3 + 1)
      have gz2 := gz (k * 3 + 2)
      have HG := Lib.hid hG
      have hk4 : (k : Int) < 4 := by omega
      have hk0 : (0 : Int) ≤ (k : Int) := by omega
      clear hG gz O4 HSrc HC
      go_wp2
      go_ret2
      simpa using HG.out
  · rw [setTR_no (by rw [(timC_no hz).1]; exact hz), (timC_no hz).1]
    have HS : Hid (timC d0 = if 4096 < n then 2 else if timB d0 = true then 0 else 1) := Lib.hid (by unfold timC; rw [HL.out])
    by_cases hm : 4096 < n
    · have hq : (4096 : Int) < (n : Int) := by omega
      have e1 : timC d0 = 2 := by rw [HS.out, if_pos hm]
      rw [e1]
      have hb1 := alloc_below w (.cells #[] 54)
      clear hm HS e1 HD hz
      go_enter Try.func34, Try.ntmps34
      go_wp2
      go_ret2
      exact givesT_none _ _ _ _ _ hb1
    · have hq : ¬ (4096 : Int) < (n : Int) := by omega
      rw [if_neg hm] at HS
      cases h1 : timB d0 with
      | true => rw [h1] at HS; exact absurd HS.out hz
      | false =>
        rw [h1] at HD HS
        have e1 : timC d0 = 1 := by rw [HS.out]; rfl
        rw [e1]
        clear hm HS e1 h1 hz
        go_enter Try.func34, Try.ntmps34
        go_wp2_with fail
        refine HD.out.mono ?_
        rintro e w1 ⟨rfl, hb1⟩
        have hb2 := bt hb1 (alloc_below w1 (.cells #[] 54))
        go_wp2
        go_ret2
        exact givesT_none _ _ _ _ _ hb2
set_option maxRecDepth 100000 in
set_option maxHeartbeats 4000000 in
theorem implSetTimer (hrow : RowTimer w A0 d0) (hn : d0.length ≤ maxLen) :
    Calls Try.prog 25 #[.slice A0 d0.length c0, .int .i64 i, .int .i64 l, .bool ch] w (GivesTsCode (setTR d0 i l ch) (setTC d0 i l ch) w) := by
  generalize hl : d0.length = n at hn ⊢
  have HD := Lib.hid (checkTimers A0 n c0 d0 w hl hn hrow)
  have HL := Lib.hid hl
  have HRow := Lib.hid hrow
  unfold maxLen at hn
  clear hl hrow
  by_cases hz : timC d0 = 0
  · have h1 := timC0 hz
    have HS := Lib.hid ((timC_yes hz).1 i l ch)
    have hn4 : n = 4 := by rw [← HL.out]; exact timB_len h1
    subst hn4
    rw [hz] at HD
    clear h1 hz
    rcases setTB_cases i l ch with ⟨k0, kE⟩ | ⟨k0, k1, kE⟩ | ⟨k0, k1, rfl, kE⟩ | ⟨k0, k1, rfl, rfl, kE⟩ | ⟨k0, k1, rfl, kz, kE⟩
    · have e1 : setTC d0 i l ch = 4 := by rw [HS.out, kE]; rfl
      rw [setTR_no (by omega), e1]
      clear HS e1 kE
      go_enter Try.func25, Try.ntmps25
      go_wp2_with fail
      refine HD.out.mono ?_
      rintro e w1 ⟨rfl, hb1⟩
      go_wp2_with (first | (go_at_call 62; refine (isT _ _).mono ?_; rintro e w' ⟨rfl, rfl⟩; rw [k0]))
      go_ret2
      exact givesT_none _ _ _ _ _ hb1
    · have e1 : setTC d0 i l ch = 4 := by rw [HS.out, kE]; rfl
      rw [setTR_no (by omega), e1]
      have k1 : decide (0 ≤ l ∧ l ≤ 256) = false := k1
      clear HS e1 kE
      go_enter Try.func25, Try.ntmps25
      go_wp2_with fail
      refine HD.out.mono ?_
      rintro e w1 ⟨rfl, hb1⟩
      go_wp2_with (first | (go_at_call 62; refine (isT _ _).mono ?_; rintro e w' ⟨rfl, rfl⟩; rw [k0]) | (go_at_call 57; refine (upT _ _ _).mono ?_; rintro e w' ⟨rfl, rfl⟩; rw [k1]))
      go_ret2
      exact givesT_none _ _ _ _ _ hb1
    · have e1 : setTC d0 i l false = 0 := by rw [HS.out, kE]; rfl
      rw [setTR_yes e1, e1]
      have hi0 : 0 ≤ i ∧ i ≤ 3 := by simpa [iB] using k0
      obtain ⟨k, rfl⟩ : ∃ k : Nat, i = k := ⟨i.toNat, by omega⟩
      have hk : k < 4 := by omega
      have k1 : decide (0 ≤ l ∧ l ≤ 256) = true := k1
      clear HS e1 kE hi0
      go_enter Try.func25, Try.ntmps25
      go_wp2_with fail
      refine HD.out.mono ?_
      rintro e w1 ⟨rfl, hb1⟩
      have HCl := Lib.hid (cloneT A0 4 c0 d0 w1 HL.out (by decide) (by decide) (HRow.out.below hb1))
      go_wp2_with (first | (go_at_call 62; refine (isT _ _).mono ?_; rintro e w' ⟨rfl, rfl⟩; rw [k0]) | (go_at_call 57; refine (upT _ _ _).mono ?_; rintro e w' ⟨rfl, rfl⟩; rw [k1]))
      refine HCl.out.mono ?_
      rintro e w4 ⟨A1, c1, rfl, S4, hb4⟩
      have hs4 := hb1.size
      obtain ⟨b, rfl, ⟨⟨y0, g0⟩, ⟨y1, g1⟩, ⟨y2, g2⟩⟩, gz, hG⟩ := setT_end (lo := c1) (w := w) k hk HL.out (OwnR.wide S4.out hs4 (Nat.le_refl _)) (0, l, false) (bt hb1 hb4)
      have gz0 := gz (k * 3)
      have gz1 := gz (k * 3 + 1)
      have gz2 := gz (k * 3 + 2)
      have HG := Lib.hid hG
      have hk4 : (k : Int) < 4 := by omega
      have hk0 : (0 : Int) ≤ (k : Int) := by omega
      clear hG gz S4 HCl
      go_wp2
      go_ret2
      simpa using HG.out
    · have e1 : setTC d0 0 l true = 4 := by rw [HS.out, kE]; rfl
      rw [setTR_no (by omega), e1]
      have k1 : decide (0 ≤ l ∧ l ≤ 256) = true := k1
      have k2 : decide ((0 : Int) < 0) = false := rfl
      clear HS e1 kE
      go_enter Try.func25, Try.ntmps25
      go_wp2_with fail
      refine HD.out.mono ?_
      rintro e w1 ⟨rfl, hb1⟩
      go_wp2_with (first | (go_at_call 62; refine (isT _ _).mono ?_; rintro e w' ⟨rfl, rfl⟩; rw [k0]) | (go_at_call 57; refine (upT _ _ _).mono ?_; rintro e w' ⟨rfl, rfl⟩; rw [k1]) | (go_at_call 63; refine (mayT _ _).mono ?_; rintro e w' ⟨rfl, rfl⟩; rw [k2]))
      go_ret2
      exact givesT_none _ _ _ _ _ hb1
    · have e1 : setTC d0 i l true = 0 := by rw [HS.out, kE]; rfl
      rw [setTR_yes e1, e1]
      have hi0 : 0 ≤ i ∧ i ≤ 3 := by simpa [iB] using k0
      obtain ⟨k, rfl⟩ : ∃ k : Nat, i = k := ⟨i.toNat, by omega⟩
      have hk : k < 4 := by omega
      have k1 : decide (0 ≤ l ∧ l ≤ 256) = true := k1
      have k2 : decide ((0 : Int) < (k : Int)) = true := by simp; omega
      clear HS e1 kE hi0
      go_enter Try.func25, Try.ntmps25
      go_wp2_with fail
      refine HD.out.mono ?_
      rintro e w1 ⟨rfl, hb1⟩
      have HCl := Lib.hid (cloneT A0 4 c0 d0 w1 HL.out (by decide) (by decide) (HRow.out.below hb1))
      go_wp2_with (first | (go_at_call 62; refine (isT _ _).mono ?_; rintro e w' ⟨rfl, rfl⟩; rw [k0]) | (go_at_call 57; refine (upT _ _ _).mono ?_; rintro e w' ⟨rfl, rfl⟩; rw [k1]) | (go_at_call 63; refine (mayT _ _).mono ?_; rintro e w' ⟨rfl, rfl⟩; rw [k2]))
      refine HCl.out.mono ?_
      rintro e w4 ⟨A1, c1, rfl, S4, hb4⟩
      have hs4 := hb1.size
      obtain ⟨b, rfl, ⟨⟨y0, g0⟩, ⟨y1, g1⟩, ⟨y2, g2⟩⟩, gz, hG⟩ := setT_end (lo := c1) (w := w) k hk HL.out (OwnR.wide S4.out hs4 (Nat.le_refl _)) (0, l, true) (bt hb1 hb4)
      have gz0 := gz (k * 3)
      have gz1 := gz (k * 3 + 1)
      have gz2 := gz (k * 3 + 2)
      have HG := Lib.hid hG
      have hk4 : (k : Int) < 4 := by omega
      have hk0 : (0 : Int) ≤ (k : Int) := by omega
      clear hG gz S4 HCl
      go_wp2
      go_ret2
      simpa using HG.out
  · rw [setTR_no (by rw [(timC_no hz).1]; exact hz), (timC_no hz).1]
    generalize timC d0 = code at hz HD
    have hq : (code != 0) = true := by simpa using hz
    go_enter Try.func25, Try.ntmps25
    go_wp2_with fail
    refine HD.out.mono ?_
    rintro e w1 ⟨rfl, hb1⟩
    go_wp2
    go_ret2
    exact givesT_none _ _ _ _ _ hb1
set_option maxRecDepth 100000 in
theorem implSetTimerA (h : RepA w [.slice A0 d0.length c0] [rTimer d0]) (_c : CapA [.slice A0 d0.length c0]) (z : szA [rTimer d0] ≤ 1048576) :
    Calls Try.prog 25 #[.slice A0 d0.length c0, .int .i64 i, .int .i64 l, .bool ch] w (GivesTsCode (setTR d0 i l ch) (setTC d0 i l ch) w) := implSetTimer A0 c0 d0 i l ch w (rowsOfT h) (rowsLenT z)
end
end Go.Proofs.Ytagdclbpgkilgaa
