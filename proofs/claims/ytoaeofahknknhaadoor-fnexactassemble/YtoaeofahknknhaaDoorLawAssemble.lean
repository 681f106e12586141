/- For every []string, laws.FnExactAssemble returns true: impl.Assemble answers as the model spec.Assemble, every field, leaves its arguments alone, and its result is memory of its own. Condition: the listed tables start as the program's text lays them (the card ties them to it). -/
import Derived.Test.YtoaeofahknknhaaDoorReadS
import Derived.Test.YtoaeofahknknhaaDoorGenC
import Derived.RangeFuncNested
import Derived.RangeFuncBound
import Derived.RangeFuncCalls
import Derived.RangeFuncLeaves
import Derived.Shelf.Abstract
import Derived.Shelf.RegionOpen
import Derived.OwnWalkIn
import Derived.TacticsInMore
import Derived.LoopNIn
import Derived.LoopIn
import Derived.Maps.AppendAt
import Derived.RangeFuncBox
import Derived.Test.YtoaeofahknknhaaDoorGenOpen
import Derived.Test.YtoaeofahknknhaaDoorLaid
import Derived.Test.YtoaeofahknknhaaDoorFactA
import Derived.Test.YtoaeofahknknhaaDoorFactB
import Derived.Test.YtoaeofahknknhaaDoorFactC
import Derived.Test.YtoaeofahknknhaaDoorFactD
import Derived.Deep.RegionHeld3
import Derived.ProofKit
import Derived.OpenShut
import Derived.ShutString
import Derived.ChangeOld
/-! ReadInstr, both sides. Written by gen_readi.py. -/
namespace Go.Proofs.YtoaeofahknknhaaDoor
open Go.RowKit

def rdI (s : ByteArray) : (Int × Int × Int) × Int := if 65536 < s.size then ((0, 0, 0), 2) else if (rdF s).2 then ((rdF s).1, 0) else ((0, 0, 0), 3)
theorem rdI_long {s : ByteArray} (h : 65536 < s.size) : rdI s = ((0, 0, 0), 2) := by unfold rdI; rw [if_pos h]
theorem rdI_ok {s : ByteArray} (h : ¬ 65536 < s.size) {a b c : Int} (r : rdF s = ((a, b, c), true)) : rdI s = ((a, b, c), 0) := by unfold rdI; rw [if_neg h, r]; rfl
theorem rdI_no {s : ByteArray} (h : ¬ 65536 < s.size) {a b c : Int} (r : rdF s = ((a, b, c), false)) : rdI s = ((0, 0, 0), 3) := by unfold rdI; rw [if_neg h, r]; rfl

set_option maxHeartbeats 4000000 in
set_option maxRecDepth 100000 in
theorem implReadInstr (s : ByteArray) (w : World) (hs : s.size ≤ 1048576) (ht : OpsT w) : Calls Tryd.prog 18 #[.string s] w fun e w' => e = .returned (.tuple #[.agg #[.int .i64 (rdI s).1.1, .int .i64 (rdI s).1.2.1, .int .i64 (rdI s).1.2.2], .int .i64 (rdI s).2]) ∧ Below w.heap.size w w' := by
  have HS0 := Lib.hid hs
  obtain ⟨W0, hW0⟩ : ∃ W0, W0 = w.alloc (.cells #[.int .i64 0, .int .i64 0, .int .i64 0] 24) := ⟨_, rfl⟩
  have hb0 : Below w.heap.size w W0 := by rw [hW0]; exact alloc_below _ _
  have X0 : Hid (Box W0 w.heap.size 24 #[.int .i64 0, .int .i64 0, .int .i64 0]) := Lib.hid (by rw [hW0]; exact Box.new _ _ _)
  have HW0 := Lib.hid hW0
  have HB0 := Lib.hid hb0
  have HT := Lib.hid (ht.below hb0)
  clear ht
  clear hW0 hb0
  by_cases hl : 65536 < s.size
  · have i1 : (65536 : Int) < (s.size : Int) := by omega
    have HF := Lib.hid (rdI_long hl)
    generalize rdI s = R at HF ⊢
    clear hl
    go_enter Tryd.func18, Tryd.ntmps18
    go_wp2
    rw [← HW0.out]
    have HRes := X0
    refine bodyPost_ret (v := .tuple #[.agg #[.int .i64 0, .int .i64 0, .int .i64 0], .int .i64 2]) (by simp [results, Tryd.results18, go_sem, HRes.out.cell 0 rfl, HRes.out.cell 1 rfl, HRes.out.cell 2 rfl]) rfl ?_
    exact ⟨by rw [HF.out], HB0.out⟩
  · have i1 : ¬ (65536 : Int) < (s.size : Int) := by omega
    have HOk := Lib.hid (fun a b c r => @rdI_ok s hl a b c r)
    have HNo := Lib.hid (fun a b c r => @rdI_no s hl a b c r)
    generalize rdI s = R at HOk HNo ⊢
    clear hl
    have HC := Lib.hid (fun m W t v => readI m s W (by have := HS0.out; omega) t v)
    generalize rdF s = r at HC HOk HNo
    obtain ⟨⟨a, b, c⟩, ok⟩ := r
    go_enter Tryd.func18, Tryd.ntmps18
    go_wp2_with fail
    rw [← HW0.out]
    refine (newVoc W0 HT.out).mono ?_
    rintro e w1 ⟨m, rfl, HV, hb⟩
    have HB1 := Lib.hid (bt HB0.out hb)
    have X1 := Lib.hid (X0.out.step hb)
    have HT1 := Lib.hid (HT.out.below hb)
    clear hb X0 HB0 HT HW0
    go_wp2_with fail
    refine (HC.out m w1 HT1.out HV.out).mono ?_
    rintro e w2 ⟨rfl, hb⟩
    have HB2 := Lib.hid (bt HB1.out hb)
    have X2 := Lib.hid (X1.out.step hb)
    clear hb
    obtain ⟨W3, hW3⟩ : ∃ W, W = w2.alloc (.cells #[.int .i64 a, .int .i64 b, .int .i64 c] 24) := ⟨_, rfl⟩
    have hb3 : Below w2.heap.size w2 W3 := by rw [hW3]; exact alloc_below _ _
    have Y3 : Hid (Box W3 w2.heap.size 24 #[.int .i64 a, .int .i64 b, .int .i64 c]) := Lib.hid (by rw [hW3]; exact Box.new _ _ _)
    have HW3 := Lib.hid hW3
    have HB3 := Lib.hid (bt HB2.out hb3)
    have X3 := Lib.hid (X2.out.step hb3)
    clear hW3 hb3
    cases ok with
    | false =>
      have HF := Lib.hid (HNo.out a b c rfl)
      have g0 := X3.out.cell 0 rfl
      have g1 := X3.out.cell 1 rfl
      have g2 := X3.out.cell 2 rfl
      have gn0 := X3.out.frozen 0
      have gn1 := X3.out.frozen 1
      have gn2 := X3.out.frozen 2
      rw [HW3.out] at g0 g1 g2 gn0 gn1 gn2
      go_wp2
      rw [← HW3.out]
      have HRes := Lib.hid (((X3.out.set 0 (.int .i64 0)).set 1 (.int .i64 0)).set 2 (.int .i64 0))
      refine bodyPost_ret (v := .tuple #[.agg #[.int .i64 0, .int .i64 0, .int .i64 0], .int .i64 3]) (by simp [results, Tryd.results18, go_sem, HRes.out.cell 0 rfl, HRes.out.cell 1 rfl, HRes.out.cell 2 rfl]) rfl ?_
      exact ⟨by rw [HF.out], ((HB3.out.setCell (Nat.le_refl _) _).setCell (Nat.le_refl _) _).setCell (Nat.le_refl _) _⟩
    | true =>
      have HF := Lib.hid (HOk.out a b c rfl)
      have y0 := Y3.out.cell 0 rfl
      have y1 := Y3.out.cell 1 rfl
      have y2 := Y3.out.cell 2 rfl
      have g0 := X3.out.cell 0 rfl
      have g1 := X3.out.cell 1 rfl
      have g2 := X3.out.cell 2 rfl
      have gn0 := X3.out.frozen 0
      have gn1 := X3.out.frozen 1
      have gn2 := X3.out.frozen 2
      rw [HW3.out] at y0 y1 y2 g0 g1 g2 gn0 gn1 gn2
      go_wp2
      rw [← HW3.out]
      have HRes := Lib.hid (((X3.out.set 0 (.int .i64 a)).set 1 (.int .i64 b)).set 2 (.int .i64 c))
      refine bodyPost_ret (v := .tuple #[.agg #[.int .i64 a, .int .i64 b, .int .i64 c], .int .i64 0]) (by simp [results, Tryd.results18, go_sem, HRes.out.cell 0 rfl, HRes.out.cell 1 rfl, HRes.out.cell 2 rfl]) rfl ?_
      exact ⟨by rw [HF.out], ((HB3.out.setCell (Nat.le_refl _) _).setCell (Nat.le_refl _) _).setCell (Nat.le_refl _) _⟩
set_option maxHeartbeats 4000000 in
set_option maxRecDepth 100000 in
theorem specReadInstr (s : ByteArray) (w : World) (hs : s.size ≤ 1048576) : Calls Tryd.prog 37 #[.string s] w fun e w' => e = .returned (.tuple #[.agg #[.int .i64 (rdI s).1.1, .int .i64 (rdI s).1.2.1, .int .i64 (rdI s).1.2.2], .int .i64 (rdI s).2]) ∧ Below w.heap.size w w' := by
  have HS0 := Lib.hid hs
  obtain ⟨W0, hW0⟩ : ∃ W0, W0 = w.alloc (.cells #[.int .i64 0, .int .i64 0, .int .i64 0] 24) := ⟨_, rfl⟩
  have hb0 : Below w.heap.size w W0 := by rw [hW0]; exact alloc_below _ _
  have X0 : Hid (Box W0 w.heap.size 24 #[.int .i64 0, .int .i64 0, .int .i64 0]) := Lib.hid (by rw [hW0]; exact Box.new _ _ _)
  have HW0 := Lib.hid hW0
  have HB0 := Lib.hid hb0
  clear hW0 hb0
  by_cases hl : 65536 < s.size
  · have i1 : (65536 : Int) < (s.size : Int) := by omega
    have HF := Lib.hid (rdI_long hl)
    generalize rdI s = R at HF ⊢
    clear hl
    go_enter Tryd.func37, Tryd.ntmps37
    go_wp2
    rw [← HW0.out]
    have HRes := X0
    refine bodyPost_ret (v := .tuple #[.agg #[.int .i64 0, .int .i64 0, .int .i64 0], .int .i64 2]) (by simp [results, Tryd.results37, go_sem, HRes.out.cell 0 rfl, HRes.out.cell 1 rfl, HRes.out.cell 2 rfl]) rfl ?_
    exact ⟨by rw [HF.out], HB0.out⟩
  · have i1 : ¬ (65536 : Int) < (s.size : Int) := by omega
    have HOk := Lib.hid (fun a b c r => @rdI_ok s hl a b c r)
    have HNo := Lib.hid (fun a b c r => @rdI_no s hl a b c r)
    generalize rdI s = R at HOk HNo ⊢
    clear hl
    have HC := Lib.hid (fun  W => readM s W (by have := HS0.out; omega))
    generalize rdF s = r at HC HOk HNo
    obtain ⟨⟨a, b, c⟩, ok⟩ := r
    go_enter Tryd.func37, Tryd.ntmps37
    go_wp2_with fail
    rw [← HW0.out]
    refine (HC.out W0).mono ?_
    rintro e w2 ⟨rfl, hb⟩
    have HB2 := Lib.hid (bt HB0.out hb)
    have X2 := Lib.hid (X0.out.step hb)
    clear hb
    obtain ⟨W3, hW3⟩ : ∃ W, W = w2.alloc (.cells #[.int .i64 a, .int .i64 b, .int .i64 c] 24) := ⟨_, rfl⟩
    have hb3 : Below w2.heap.size w2 W3 := by rw [hW3]; exact alloc_below _ _
    have Y3 : Hid (Box W3 w2.heap.size 24 #[.int .i64 a, .int .i64 b, .int .i64 c]) := Lib.hid (by rw [hW3]; exact Box.new _ _ _)
    have HW3 := Lib.hid hW3
    have HB3 := Lib.hid (bt HB2.out hb3)
    have X3 := Lib.hid (X2.out.step hb3)
    clear hW3 hb3
    cases ok with
    | false =>
      have HF := Lib.hid (HNo.out a b c rfl)
      have g0 := X3.out.cell 0 rfl
      have g1 := X3.out.cell 1 rfl
      have g2 := X3.out.cell 2 rfl
      have gn0 := X3.out.frozen 0
      have gn1 := X3.out.frozen 1
      have gn2 := X3.out.frozen 2
      rw [HW3.out] at g0 g1 g2 gn0 gn1 gn2
      go_wp2
      rw [← HW3.out]
      have HRes := Lib.hid (((X3.out.set 0 (.int .i64 0)).set 1 (.int .i64 0)).set 2 (.int .i64 0))
      refine bodyPost_ret (v := .tuple #[.agg #[.int .i64 0, .int .i64 0, .int .i64 0], .int .i64 3]) (by simp [results, Tryd.results37, go_sem, HRes.out.cell 0 rfl, HRes.out.cell 1 rfl, HRes.out.cell 2 rfl]) rfl ?_
      exact ⟨by rw [HF.out], ((HB3.out.setCell (Nat.le_refl _) _).setCell (Nat.le_refl _) _).setCell (Nat.le_refl _) _⟩
    | true =>
      have HF := Lib.hid (HOk.out a b c rfl)
      have y0 := Y3.out.cell 0 rfl
      have y1 := Y3.out.cell 1 rfl
      have y2 := Y3.out.cell 2 rfl
      have g0 := X3.out.cell 0 rfl
      have g1 := X3.out.cell 1 rfl
      have g2 := X3.out.cell 2 rfl
      have gn0 := X3.out.frozen 0
      have gn1 := X3.out.frozen 1
      have gn2 := X3.out.frozen 2
      rw [HW3.out] at y0 y1 y2 g0 g1 g2 gn0 gn1 gn2
      go_wp2
      rw [← HW3.out]
      have HRes := Lib.hid (((X3.out.set 0 (.int .i64 a)).set 1 (.int .i64 b)).set 2 (.int .i64 c))
      refine bodyPost_ret (v := .tuple #[.agg #[.int .i64 a, .int .i64 b, .int .i64 c], .int .i64 0]) (by simp [results, Tryd.results37, go_sem, HRes.out.cell 0 rfl, HRes.out.cell 1 rfl, HRes.out.cell 2 rfl]) rfl ?_
      exact ⟨by rw [HF.out], ((HB3.out.setCell (Nat.le_refl _) _).setCell (Nat.le_refl _) _).setCell (Nat.le_refl _) _⟩
set_option maxRecDepth 100000 in
theorem specReadInstrA (a0d0 : ByteArray) (w : World) (s : a0d0.size ≤ 1048576) : Calls Tryd.prog 37 #[.string a0d0] w fun e w' => e = .returned (.tuple #[.agg #[.int .i64 (rdI a0d0).1.1, .int .i64 (rdI a0d0).1.2.1, .int .i64 (rdI a0d0).1.2.2], .int .i64 (rdI a0d0).2]) ∧ Below w.heap.size w w' := specReadInstr a0d0 w s
set_option maxRecDepth 100000 in
theorem implReadInstrA (a0d0 : ByteArray) (w : World) (s : a0d0.size ≤ 1048576) (t : OpsT w) : Calls Tryd.prog 18 #[.string a0d0] w fun e w' => e = .returned (.tuple #[.agg #[.int .i64 (rdI a0d0).1.1, .int .i64 (rdI a0d0).1.2.1, .int .i64 (rdI a0d0).1.2.2], .int .i64 (rdI a0d0).2]) ∧ Below w.heap.size w w' := implReadInstr a0d0 w s t
end Go.Proofs.YtoaeofahknknhaaDoor

/-! A program is its instructions: the model's Assemble. Written by gen_asm.py. -/
namespace Go.Proofs.YtoaeofahknknhaaDoor
open Go.RowKit

def codC (x : ByteArray) : List Int := encL (rdF x).1.1 (rdF x).1.2.1 (rdF x).1.2.2
/-- The code of the first k lines. -/
def cdK (ss : List ByteArray) : Nat → List Int
  | 0 => []
  | k + 1 => cdK ss k ++ codC (ss.getD k ByteArray.empty)
def asmF (ss : List ByteArray) : List Int × Int :=
  if 4096 < ss.length then ([], 2) else if ss.all (fun x => (rdF x).2) = true then (if 256 < (cdK ss ss.length).length then ([], 8) else (cdK ss ss.length, 0)) else ([], 3)
theorem codC_len (x : ByteArray) : (codC x).length ≤ 3 ∧ 1 ≤ (codC x).length := by
  unfold codC
  rw [encL_len]
  have := lenT_range (rdF x).1.1
  omega
theorem codC_eq {x : ByteArray} {a b c : Int} {ok : Bool} (h : rdF x = ((a, b, c), ok)) : codC x = encL a b c := by unfold codC; rw [h]
theorem cdK_len (ss : List ByteArray) : ∀ k, (cdK ss k).length ≤ 3 * k
  | 0 => Nat.le_refl _
  | k + 1 => by rw [cdK, List.length_append]; have := cdK_len ss k; have := (codC_len (ss.getD k ByteArray.empty)).1; omega
theorem rd_ok {x : ByteArray} {a b c : Int} (h : rdF x = ((a, b, c), true)) : okIns a b c = true := by
  unfold rdF rdW at h
  split at h
  · injection h with _ h; cases h
  · split at h
    · rename_i hh
      injection h with h1 _
      injection h1 with h1 h2
      injection h2 with h2 h3
      rw [← h1, ← h2, ← h3]; exact hh.2.2
    · injection h with _ h; cases h
theorem asm_long {ss : List ByteArray} (h : 4096 < ss.length) : asmF ss = ([], 2) := by unfold asmF; rw [if_pos h]
theorem asm_no {ss : List ByteArray} {k : Nat} (h : ¬ 4096 < ss.length) (hk : k < ss.length) (hr : (rdF (ss.getD k ByteArray.empty)).2 = false) : asmF ss = ([], 3) := by
  unfold asmF
  rw [if_neg h, if_neg]
  intro ha
  rw [List.all_eq_true] at ha
  have hm : ss.getD k ByteArray.empty ∈ ss := by
    rw [List.getD_eq_getElem?_getD, List.getElem?_eq_getElem hk, Option.getD_some]; exact List.getElem_mem _
  rw [ha _ hm] at hr
  cases hr
theorem asm_all {ss : List ByteArray} (h : ∀ k, k < ss.length → (rdF (ss.getD k ByteArray.empty)).2 = true) : ss.all (fun x => (rdF x).2) = true := by
  rw [List.all_eq_true]
  intro x hx
  obtain ⟨i, hi⟩ := List.getElem?_of_mem hx
  have hlt : i < ss.length := (List.getElem?_eq_some_iff.1 hi).1
  have := h i hlt
  rw [List.getD_eq_getElem?_getD, hi] at this
  exact this
theorem asm_size {ss : List ByteArray} (h : ¬ 4096 < ss.length) (ha : ∀ k, k < ss.length → (rdF (ss.getD k ByteArray.empty)).2 = true) (hs : 256 < (cdK ss ss.length).length) : asmF ss = ([], 8) := by
  unfold asmF; rw [if_neg h, if_pos (asm_all ha), if_pos hs]
theorem asm_yes {ss : List ByteArray} (h : ¬ 4096 < ss.length) (ha : ∀ k, k < ss.length → (rdF (ss.getD k ByteArray.empty)).2 = true) (hs : ¬ 256 < (cdK ss ss.length).length) : asmF ss = (cdK ss ss.length, 0) := by
  unfold asmF; rw [if_neg h, if_pos (asm_all ha), if_neg hs]
theorem asm_len (ss : List ByteArray) : (asmF ss).1.length ≤ 256 := by
  unfold asmF
  split
  · exact Nat.zero_le _
  · split
    · split
      · exact Nat.zero_le _
      · simp only; omega
    · exact Nat.zero_le _
theorem add_0 (b j : Nat) : (⟨b, 0, none⟩ : Addr).add j = ⟨b, j, none⟩ := by
  unfold Addr.add
  by_cases h : j = 0
  · subst h; simp
  · simp [h]
theorem own_cells {w : World} {lo hi : Nat} {A : Option Addr} {zs : List Int} (h : OwnI w lo hi A zs) (hn : 0 < zs.length) : ∃ b, A = some ⟨b, 0, none⟩ ∧ ∀ j u, (zs.map (Value.int .i64))[j]? = some u → w.cell? ((⟨b, 0, none⟩ : Addr).add j) = some u := by
  rcases h with rfl | ⟨b, m, f, rfl, _, _, hm, hr, hf⟩
  · simp at hn
  · refine ⟨b, rfl, fun j u hj => ?_⟩
    have hj' : j < zs.length := by
      have := (List.getElem?_eq_some_iff.1 hj).1
      simpa using this
    rw [add_0 b j, hr.cell (by omega), hf j hj']
    rw [List.getElem?_map, List.getElem?_eq_getElem hj'] at hj
    simp only [Option.map_some, Option.some.injEq] at hj
    rw [← hj, List.getD_eq_getElem?_getD, List.getElem?_eq_getElem hj', Option.getD_some]
/-- The call hands back a []int of its own and a code. -/
def GivesLC (r : List Int × Int) (w : World) (e : Ending) (w' : World) : Prop := ∃ A n c, e = .returned (.tuple #[.slice A n c, .int .i64 r.2]) ∧ r.1.length = n ∧ Hid (OwnI w' w.heap.size w'.heap.size A r.1) ∧ Below w.heap.size w w'

set_option maxHeartbeats 8000000 in
set_option maxRecDepth 100000 in
theorem asmS (A : Option Addr) (n c : Nat) (ss : List ByteArray) (w : World) (hn : ss.length = n) (hm : n ≤ 1048576) (hx : ∀ x ∈ ss, x.size ≤ 1048576) (h : StrL w A ss) : Calls Tryd.prog 39 #[.slice A n c] w (GivesLC (asmF ss) w) := by
  have HL := Lib.hid hn
  have HX := Lib.hid hx
  have HS := Lib.hid h
  clear hn hx h
  go_enter Tryd.func39, Tryd.ntmps39
  by_cases hl : 4096 < n
  · have i1 : (4096 : Int) < (n : Int) := by omega
    have HF := Lib.hid (asm_long (ss := ss) (by rw [HL.out]; exact hl))
    go_wp2
    go_ret2
    rw [HF.out]
    exact ⟨_, _, _, rfl, rfl, Lib.hid (.inl rfl), alloc_below _ _⟩
  · have i1 : ¬ (4096 : Int) < (n : Int) := by omega
    have HNo := Lib.hid (fun k => @asm_no ss k (by rw [HL.out]; exact hl))
    have HSz := Lib.hid (@asm_size ss (by rw [HL.out]; exact hl))
    have HY := Lib.hid (@asm_yes ss (by rw [HL.out]; exact hl))
    rw [HL.out] at HSz HY HNo
    generalize asmF ss = R at HNo HSz HY ⊢
    obtain ⟨W0, hW0⟩ : ∃ W0, W0 = w.alloc (.cells #[] 3) := ⟨_, rfl⟩
    have hb0 : Below w.heap.size w W0 := by rw [hW0]; exact alloc_below _ _
    have E0 : Hid (Box W0 w.heap.size 3 #[]) := Lib.hid (by rw [hW0]; exact Box.new _ _ _)
    have HW0 := Lib.hid hW0
    have HB0 := Lib.hid hb0
    clear hW0 hb0
    go_wp2
    rw [← HW0.out]
    go_loopw [4, 5] (fun v i wr => ∃ (k : Nat) (A' : Option Addr) (n' c' : Nat), k ≤ n ∧ v = .slice A' n' c' ∧ i = .int .i64 (k : Int) ∧ (cdK ss k).length = n' ∧ Hid (∀ j, j < k → (rdF (ss.getD j ByteArray.empty)).2 = true) ∧ Hid (GroI wr w.heap.size (.slice A' n' c') (cdK ss k)) ∧ Hid (Below w.heap.size w wr)) (fun _ i _ => n - (intOf i).toNat)
    case atStart => exact ⟨0, _, 0, 0, by omega, rfl, rfl, rfl, Lib.hid (fun j hj => by omega), Lib.hid (rowv_empty (Nat.le_refl _) E0.out), HB0⟩
    case round =>
      clear E0 HB0 HW0
      obtain ⟨k, A', n', c', hk, rfl, rfl, hln, HAll, HG, HB⟩ := hrel
      have hsw : w.heap.size ≤ wr.heap.size := HB.out.size
      have hnk := cdK_len ss k
      by_cases hlt : k < n
      · have i2 : (k : Int) < (n : Int) := by omega
        obtain ⟨b, off, hA, hc⟩ := (HS.out.below HB.out) k (by rw [HL.out]; exact hlt)
        subst hA
        have hmem : ss.getD k ByteArray.empty ∈ ss := by
          rw [List.getD_eq_getElem?_getD, List.getElem?_eq_getElem (by rw [HL.out]; exact hlt), Option.getD_some]; exact List.getElem_mem _
        have hxs := HX.out _ hmem
        have HNk := Lib.hid (HNo.out k hlt)
        have HCd : Hid (cdK ss (k + 1) = cdK ss k ++ codC (ss.getD k ByteArray.empty)) := Lib.hid rfl
        have HAl : Hid ((rdF (ss.getD k ByteArray.empty)).2 = true → ∀ j, j < k + 1 → (rdF (ss.getD j ByteArray.empty)).2 = true) := Lib.hid (fun hx j hj => by
          rcases Nat.lt_or_eq_of_le (Nat.lt_succ_iff.1 hj) with h | rfl
          · exact HAll.out j h
          · exact hx)
        have HCl := Lib.hid (codC_len (ss.getD k ByteArray.empty))
        have HRw : Hid (wr.ownsRow w.heap.size 3 1 (.slice A' n' c') n' ((cdK ss k).map (Value.int .i64))) := Lib.hid (by have := HG.out; unfold GroI at this; rwa [hln] at this)
        generalize ss.getD k ByteArray.empty = x at hc hxs HNk HCd HAl HCl
        clear hmem HG
        have HC := Lib.hid (fun W => readM x W (by omega))
        have HEq := Lib.hid (fun a b c ok => @codC_eq x a b c ok)
        have HOk := Lib.hid (fun a b c => @rd_ok x a b c)
        generalize rdF x = r at HC HNk HAl HEq HOk
        obtain ⟨⟨a, bb, cc⟩, ok⟩ := r
        have HE := Lib.hid (HEq.out a bb cc ok rfl)
        rw [HE.out] at HCd HCl
        clear HE HEq
        go_wp2_with fail
        refine (HC.out _).mono ?_
        rintro e w2 ⟨rfl, hb⟩
        have HB2 := Lib.hid (bt HB.out hb)
        have HRw2 := Lib.hid (rowv_below HRw.out hb)
        clear hb HC
        obtain ⟨W3, hW3⟩ : ∃ W, W = w2.alloc (.cells #[.int .i64 a, .int .i64 bb, .int .i64 cc] 24) := ⟨_, rfl⟩
        have hb3 : Below w2.heap.size w2 W3 := by rw [hW3]; exact alloc_below _ _
        have Y3 : Hid (Box W3 w2.heap.size 24 #[.int .i64 a, .int .i64 bb, .int .i64 cc]) := Lib.hid (by rw [hW3]; exact Box.new _ _ _)
        have HW3 := Lib.hid hW3
        have HB3 := Lib.hid (bt HB2.out hb3)
        have HRw3 := Lib.hid (rowv_below HRw2.out hb3)
        clear hW3 hb3 HRw2 HB2 HRw HB
        cases ok with
        | false =>
          have HF := Lib.hid (HNk.out rfl)
          go_wp2
          rw [← HW3.out]
          refine bodyPost_ret (v := .tuple #[.slice (some ⟨w2.heap.size + 1, 0, none⟩) 0 0, .int .i64 3]) (by simp [results, Tryd.results39, go_sem]) rfl ?_
          rw [HF.out]
          exact ⟨_, _, _, rfl, rfl, Lib.hid (.inl rfl), bt HB3.out (alloc_below _ _)⟩
        | true =>
          have HAl2 := Lib.hid (HAl.out rfl)
          have HI := Lib.hid (HOk.out a bb cc rfl)
          have y0 := Y3.out.cell 0 rfl
          have y1 := Y3.out.cell 1 rfl
          have y2 := Y3.out.cell 2 rfl
          rw [HW3.out] at y0 y1 y2
          go_wp2_with fail
          rw [← HW3.out]
          refine (l07EncodeS a bb cc W3 HI.out).mono ?_
          rintro e w4 ⟨A4, n4, c4, rfl, hl4, HO4, hb⟩
          have HB4 := Lib.hid (bt HB3.out hb)
          have HRw4 := Lib.hid (rowv_below HRw3.out hb)
          have hs4 : w.heap.size ≤ w4.heap.size := HB4.out.size
          clear hb y0 y1 y2 HW3 Y3
          generalize encL a bb cc = zs at HO4 hl4 HCd HCl
          obtain ⟨ab, rfl, hcs⟩ := own_cells HO4.out (by have := HCl.out; omega)
          have hz3 : n4 ≤ 3 := by have := HCl.out; omega
          have HCs := Lib.hid hcs
          clear hcs HO4 HCl
          go_wp2_with (at_builtin; refine wpList_app_many rfl (.tmp 30) (.tmp 32) 26 3 rfl (.int .i64 0) 1 8 elemInt Tryd.underlying26 w.heap.size (.slice A' n' c') n' ((cdK ss k).map (Value.int .i64)) rfl ?_ ⟨ab, 0, none⟩ n4 c4 rfl (zs.map (Value.int .i64)) ?_ ?_ ?_ ?_ ?_ ?_ ?_)
          any_goals first | exact HRw4.out | exact HCs.out | (intro u hu; rw [List.mem_map] at hu; obtain ⟨z, _, rfl⟩ := hu; rfl) | (rw [List.length_map]; omega) | (unfold maxLen; omega) | omega
          intro A5 c5 w5 hR5 hc5 hg5 hb5
          have HR5 := Lib.hid hR5
          have HB5 := Lib.hid (HB4.out.trans hb5)
          clear hR5 hb5 hg5 hc5
          go_wp2
          go_roundw
          case rel =>
            refine ⟨k + 1, A5, n' + n4, c5, by omega, rfl, by go_num, by rw [HCd.out, List.length_append]; omega, HAl2, Lib.hid ?_, HB5⟩
            unfold GroI; rw [HCd.out, List.length_append, hln, hl4, List.map_append]; exact HR5.out
          case measure => simp [intOf]; omega
      · obtain rfl : k = n := by omega
        by_cases hz : 256 < n'
        · have i3 : (256 : Int) < (n' : Int) := by omega
          have HF := Lib.hid (HSz.out HAll.out (by rw [hln]; exact hz))
          go_wp2
          refine bodyPost_ret (v := .tuple #[.slice (some ⟨wr.heap.size, 0, none⟩) 0 0, .int .i64 8]) (by simp [results, Tryd.results39, go_sem]) rfl ?_
          rw [HF.out]
          exact ⟨_, _, _, rfl, rfl, Lib.hid (.inl rfl), bt HB.out (alloc_below _ _)⟩
        · have i3 : ¬ (256 : Int) < (n' : Int) := by omega
          have HF := Lib.hid (HY.out HAll.out (by rw [hln]; exact hz))
          go_wp2
          refine bodyPost_ret (v := .tuple #[.slice A' n' c', .int .i64 0]) (by simp [results, Tryd.results39, go_sem]) rfl ?_
          rw [HF.out]
          exact ⟨_, _, _, rfl, hln, Lib.hid (HG.out.own (Nat.le_refl _)), HB.out⟩
end Go.Proofs.YtoaeofahknknhaaDoor

/-! The lines' instructions, one after the other: the iterator that the program's Assemble ranges over. -/
namespace Go.Proofs.YtoaeofahknknhaaDoor
open Go.RowKit Go.Shelf

attribute [local go_sem] Oper.semAt_some

/-- What reading a line hands back: a valid instruction if there is one. -/
abbrev InsX := { r : (Int × Int × Int) × Bool // r.2 = true → okIns r.1.1 r.1.2.1 r.1.2.2 = true }
def rdX (x : ByteArray) : InsX := ⟨rdF x, fun h => rd_ok (x := x) (by rw [← h])⟩
/-- What a round is handed. -/
def insV (r : InsX) : Array Value := #[.agg #[.int .i64 r.1.1.1, .int .i64 r.1.1.2.1, .int .i64 r.1.1.2.2], .bool r.1.2]
/-- What a round keeps: what lay below, and every map. -/
def KpM (n₀ : Nat) (A B : World) : Prop := Below n₀ A B ∧ KeepsWalks A B
theorem KpM.t {n₀ : Nat} {A B C : World} (h : KpM n₀ A B) (k : KpM n₀ B C) : KpM n₀ A C := ⟨h.1.trans k.1, h.2.trans k.2⟩
theorem KpM.b {n₀ : Nat} {w : World} (hn : n₀ ≤ w.heap.size) (W : World) (l : Nat) (o o' : Obj) (hl : w.heap.size ≤ l) (h : W.heap[l]? = some o) (hc : o.isCells = false) (hw : o.isWalk = false) : KpM n₀ W (W.putObj l o') :=
  ⟨belowK_b (w := w) hn W l o o' hl h hc hw, walksK_b (w := w) W l o o' hl h hc hw⟩
theorem VocM.kept {w w' : World} {b : Nat} {l : List (ByteArray × Int)} (h : VocM w b l) (k : KeepsWalks w w') : VocM w' b l := by
  obtain ⟨es, clock, h1, h2⟩ := h
  exact ⟨es, clock, k.same b _ h1 rfl, h2⟩
theorem grown_of {w w' : World} (h : Below w.heap.size w w') : w.grownBy w' none := ⟨h.os, h.tape, h.output, h.size, fun k hk _ => h.block k hk⟩
def insU (ss : List ByteArray) (k : Nat) : List InsX := (List.range k).map fun j => rdX (ss.getD j ByteArray.empty)
theorem insU_len (ss : List ByteArray) (k : Nat) : (insU ss k).length = k := by simp [insU]
theorem insU_succ (ss : List ByteArray) (k : Nat) : insU ss (k + 1) = insU ss k ++ [rdX (ss.getD k ByteArray.empty)] := by simp [insU, List.range_succ]

set_option maxHeartbeats 8000000 in
set_option maxRecDepth 100000 in
theorem linesI (n l Bs len cap : Nat) (hn : 2 ≤ n) (A : Option Addr) (ss : List ByteArray) (w : World) (hl : ss.length = len) (hx : ∀ x ∈ ss, x.size ≤ 1048576) (hm : len ≤ 1048576) (hS : StrL w A ss) (ht : OpsT w) (J Jx : List InsX → World → Prop)
    (W : World) (hJ : AbidesFrom W.heap.size J)
    (hY : ∀ pre x W, J pre W → pre.length < len → YieldAt Fence.wide (n - 1) Tryd.prog l (insV x) W fun e W' =>
      (e = .returned (.bool true) ∧ J (pre ++ [x]) W' ∧ KpM w.heap.size W W') ∨ (e = .returned (.bool false) ∧ Jx (pre ++ [x]) W'))
    (hB : Below w.heap.size w W) (hBs : W.cell? ⟨Bs, 0, none⟩ = some (.slice A len cap)) (h0 : J [] W) :
    CallsIn Fence.wide n Tryd.prog 77 #[.func (.yield l) #[] #[], .pointer (some ⟨Bs, 0, none⟩)] W fun e W' => (∃ v, e = .returned v) ∧
      ((∃ ys, ys = insU ss len ∧ J ys W') ∨ (∃ pre, (∃ k, k ≤ len ∧ pre = insU ss k) ∧ Jx pre W')) := by
  refine callsIn_of_wp Tryd.func77 rfl trivial ?_ rfl
  simp only [Tryd.ntmps77, List.size_toArray, List.length_cons, List.length_nil, Nat.reduceAdd, Nat.reduceSub, Array.replicate_succ, Array.replicate_zero, List.push_toArray, List.append_toArray, List.nil_append, List.cons_append]
  have HL := Lib.hid hl
  have HX := Lib.hid hx
  have HS := Lib.hid hS
  have HT := Lib.hid ht
  have HY := Lib.hid hY
  have HJ := Lib.hid hJ
  clear hl hx hS ht hY hJ
  gi_wp2
  refine ⟨trivial, fun _ => by omega, ?_⟩
  refine (callsIn_wide.2 (newVoc W (HT.out.below hB))).mono ?_
  rintro e w1 ⟨m, rfl, HV, hb⟩
  have hBs1 := (hb.cell (p := ⟨Bs, 0, none⟩) (cell_lt hBs)).trans hBs
  have HJ1 : Hid (J [] w1) := Lib.hid (HJ.out [] W w1 none h0 (grown_of hb) (fun r e => by cases e))
  have HB1 := Lib.hid (hB.trans (hb.mono hB.size))
  have HsW : Hid (W.heap.size ≤ w1.heap.size) := Lib.hid hb.size
  clear hb hBs h0 hB
  gi_wp2
  gi_loopw [9] (fun i wr => ∃ k : Nat, k ≤ len ∧ i = .int .i64 (k : Int) ∧ Hid (J (insU ss k) wr) ∧ Hid (Below w.heap.size w wr) ∧ Hid (VocM wr m (vocL 22)) ∧ Hid (W.heap.size ≤ wr.heap.size)) (fun i _ => len - (intOf i).toNat)
  case atStart => exact ⟨0, Nat.zero_le _, rfl, HJ1, HB1, HV, HsW⟩
  case round =>
    clear HJ1 HB1 HV hBs1 HsW
    obtain ⟨k, hk, rfl, HJk, HB, HV, HsW⟩ := hrel
    by_cases hlt : k < len
    · have i1 : (k : Int) < (len : Int) := by omega
      obtain ⟨b, off, hA, hc⟩ := (HS.out.below HB.out) k (by rw [HL.out]; exact hlt)
      subst hA
      have hmem : ss.getD k ByteArray.empty ∈ ss := by
        rw [List.getD_eq_getElem?_getD, List.getElem?_eq_getElem (by rw [HL.out]; exact hlt), Option.getD_some]; exact List.getElem_mem _
      have hxs := HX.out _ hmem
      have HU := Lib.hid (insU_succ ss k)
      clear hmem
      generalize ss.getD k ByteArray.empty = x at hc hxs HU
      have HC : Hid (∀ W, OpsT W → VocM W m (vocL 22) → Calls Tryd.prog 52 #[.map (some m), .string x] W (GivesX (rdX x).1 W)) := Lib.hid (fun W t v => readI m x W (by omega) t v)
      generalize hr : rdX x = r at HC HU
      clear hr
      obtain ⟨⟨⟨a, bb, cc⟩, ok⟩, hok⟩ := r
      gi_wp2
      refine ⟨trivial, fun _ => by omega, ?_⟩
      refine (callsIn_wide.2 (HC.out wr (HT.out.below HB.out) HV.out)).mono ?_
      rintro e w2 ⟨rfl, hb⟩
      have HJ2 : Hid (J (insU ss k) w2) := Lib.hid (HJ.out _ wr w2 none HJk.out (grown_of hb) (fun r e => by cases e))
      have HB2 := Lib.hid (HB.out.trans (hb.mono HB.out.size))
      have HV2 := Lib.hid (HV.out.below hb)
      have HsW2 : Hid (W.heap.size ≤ w2.heap.size) := Lib.hid (Nat.le_trans HsW.out hb.size)
      clear hb HC
      obtain ⟨fn, tmps, assign, body, hy, hR⟩ := HY.out (insU ss k) ⟨((a, bb, cc), ok), hok⟩ w2 HJ2.out (by rw [insU_len]; exact hlt)
      dsimp only [insV] at hy
      have HR := Lib.hid hR
      clear hR
      gi_wp2
      refine ⟨fun _ => by omega, ?_⟩
      refine HR.out.mono ?_
      rintro e w3 (⟨rfl, hJ3, hk3⟩ | ⟨rfl, hJx3⟩)
      · have HJ3 : Hid (J (insU ss (k + 1)) w3) := Lib.hid (by rw [HU.out]; exact hJ3)
        have HB3 := Lib.hid (HB2.out.trans hk3.1)
        have HV3 := Lib.hid (HV2.out.kept hk3.2)
        have HsW3 : Hid (W.heap.size ≤ w3.heap.size) := Lib.hid (Nat.le_trans HsW2.out hk3.2.size)
        clear hJ3 hk3 hy
        gi_wp2
        go_roundw
        case rel => exact ⟨k + 1, by omega, by go_num, HJ3, HB3, HV3, HsW3⟩
        case measure => simp [intOf]; omega
      · have HJx3 : Hid (Jx (insU ss (k + 1)) w3) := Lib.hid (by rw [HU.out]; exact hJx3)
        clear hJx3 hy
        gi_wp2
        refine bodyPost_ret (results_none rfl _ _ _) rfl ?_
        exact ⟨⟨_, rfl⟩, .inr ⟨_, ⟨k + 1, by omega, rfl⟩, HJx3.out⟩⟩
    · obtain rfl : k = len := by omega
      gi_wp2
      go_end0
      exact ⟨⟨_, rfl⟩, .inl ⟨_, rfl, HJk.out⟩⟩

set_option maxRecDepth 100000 in
set_option maxHeartbeats 1000000 in
/-- The iterator's maker: the slice is boxed; the function captures the box. -/
theorem linesOf (A : Option Addr) (len cap : Nat) (w : World) : Calls Tryd.prog 60 #[.slice A len cap] w fun e w' => e = .returned (.func (.func 77) #[] #[.pointer (some ⟨w.heap.size, 0, none⟩)]) ∧ w' = w.alloc (.cells #[.slice A len cap] 40) := by
  go_enter Tryd.func60, Tryd.ntmps60
  go_wp2
  go_ret
  exact ⟨rfl, rfl⟩
set_option maxRecDepth 100000 in
/-- What the maker hands back: the instructions of all lines, or of the first few. -/
theorem lines_stops (n Bs len cap : Nat) (hn : 2 ≤ n) (A : Option Addr) (ss : List ByteArray) (w w0 : World) (hl : ss.length = len) (hx : ∀ x ∈ ss, x.size ≤ 1048576) (hm : len ≤ 1048576) (hS : StrL w A ss) (ht : OpsT w)
    (hb : Below w.heap.size w w0) (hBs : w0.cell? ⟨Bs, 0, none⟩ = some (.slice A len cap)) :
    SeqStopsK Fence.wide n Tryd.prog 77 #[.pointer (some ⟨Bs, 0, none⟩)] insV (KpM w.heap.size) (fun ys => ys = insU ss len) (fun pre => ∃ k, k ≤ len ∧ pre = insU ss k) len w0 := fun l J Jx W hW hJ _ hY h0 =>
  linesI n l Bs len cap hn A ss w hl hx hm hS ht J Jx W hJ hY (hb.trans (hW.mono hb.size)) ((hW.cell (p := ⟨Bs, 0, none⟩) (cell_lt hBs)).trans hBs) h0
end Go.Proofs.YtoaeofahknknhaaDoor

/-! The program's Assemble: a range over the lines' iterator. -/
namespace Go.Proofs.YtoaeofahknknhaaDoor
open Go.RowKit Go.Shelf

attribute [local go_sem] Oper.semAt_some
attribute [-go_sem] Builtin.append_

def allOk (pre : List InsX) : Prop := ∀ r ∈ pre, r.1.2 = true
def oneBad (pre : List InsX) : Prop := ∃ r, r ∈ pre ∧ r.1.2 = false
def codes (rs : List InsX) : List Int := rs.flatMap fun r => encL r.1.1.1 r.1.1.2.1 r.1.1.2.2
theorem codes_snoc (rs : List InsX) (r : InsX) : codes (rs ++ [r]) = codes rs ++ encL r.1.1.1 r.1.1.2.1 r.1.1.2.2 := by simp [codes]
theorem codes_insU (ss : List ByteArray) : ∀ k, codes (insU ss k) = cdK ss k
  | 0 => rfl
  | k + 1 => by rw [insU_succ, codes_snoc, codes_insU ss k]; rfl
theorem codes_len : ∀ rs : List InsX, (codes rs).length ≤ 3 * rs.length
  | [] => Nat.le_refl _
  | r :: rs => by
    have h1 := codes_len rs
    have h2 : (codes (r :: rs)).length = (encL r.1.1.1 r.1.1.2.1 r.1.1.2.2).length + (codes rs).length := by simp [codes]
    have h3 := lenT_range r.1.1.1
    rw [h2, encL_len, List.length_cons]; omega
theorem rdL_len (op : Nat) (b c : Int) : 1 ≤ (encL op b c).length ∧ (encL op b c).length ≤ 3 := by
  rw [encL_len]; have := lenT_range (op : Int); omega
theorem box_kept {W W' : World} {row : Option Nat} {b : Nat} {t : TypeId} {cs : Array Value} (h : Box W b t cs) (hg : W.grownBy W' row) (hr : ∀ r, row = some r → ∃ o : Obj, W.heap[r]? = some o ∧ o.isCells = false) : Box W' b t cs := by
  unfold Box at h ⊢
  refine (hg.block b (Array.getElem?_eq_some_iff.1 h).1 (fun e => ?_)).trans h
  obtain ⟨o, ho, hc⟩ := hr b e.symm
  rw [h] at ho; cases ho; cases hc


set_option maxRecDepth 100000 in
theorem Tryd.infoInt : (Tryd.prog.info? 3).map (fun i => (i.zero, i.size, i.bytes)) = some (some (.int .i64 0), 1, 8) := by kernel_rfl

theorem rowv_off {W : World} {N e k b : Nat} {v : Value} {xs : List Value} (h : W.ownsRow N e 1 v k xs) (hb : b < N) : some b ≠ v.ownBlock := by
  rcases h.2 with ⟨rfl, _⟩ | ⟨g, cap, cur, rfl, hg, _⟩
  · simp [Value.ownBlock]
  · simp [Value.ownBlock]; omega
theorem asm_step {W w1 w2 : World} {N m₀ b0 b1 b2 k m : Nat} {r0 c0 v v' : Value} {xs ys : List Value}
    (bR : Boxed W b0 26 r0) (bC : Boxed W b1 3 c0) (bL : Boxed W b2 26 v) (hrow : W.ownsRow N 3 1 v k xs) (hN : N ≤ W.heap.size) (hm : m₀ ≤ b2) (h2 : b2 < N) (h1 : b1 < N) (h0 : b0 < N) (h02 : b0 ≠ b2) (h12 : b1 ≠ b2)
    (hb : Below W.heap.size W w1) (hrow1 : w1.ownsRow N 3 1 v k xs) (hgrow : w1.grownBy w2 v.ownBlock) (hown' : w2.ownsRow N 3 1 v' m ys) :
    KeepsOthers W (w2.setCell ⟨b2, 0, none⟩ v') ∧ KpM m₀ W (w2.setCell ⟨b2, 0, none⟩ v') ∧ (Boxed (w2.setCell ⟨b2, 0, none⟩ v') b0 26 r0 ∧ Boxed (w2.setCell ⟨b2, 0, none⟩ v') b1 3 c0) ∧ (Boxed (w2.setCell ⟨b2, 0, none⟩ v') b2 26 v' ∧ (w2.setCell ⟨b2, 0, none⟩ v').ownsRow N 3 1 v' m ys) ∧ W.heap.size ≤ (w2.setCell ⟨b2, 0, none⟩ v').heap.size ∧ Boxed w2 b2 26 v := by
  have g1 := grown_of hb
  have n2 := rowv_off hrow1 h2
  have k1 : KeepsOthers W w1 := ⟨hb.size, fun j o hk _ => (hb.block j (Array.getElem?_eq_some_iff.1 hk).1).trans hk⟩
  have k2 : KeepsOthers w1 w2 := KeepsOthers.of_grownBy hgrow fun j o ej hj => by
    rcases hrow1.2 with ⟨rfl, _⟩ | ⟨g, cap, cur, rfl, _, hgb, _⟩
    · simp [Value.ownBlock] at ej
    · obtain rfl : g = j := by simpa [Value.ownBlock] using ej
      rw [hgb] at hj; cases hj; rfl
  have K := (k1.trans k2).trans (KeepsOthers.setCell w2 ⟨b2, 0, none⟩ v')
  have B1 : Below m₀ W w1 := hb.mono (by omega)
  have B2 : Below m₀ w1 w2 := (Below.refl m₀ w1).grown hgrow (by have := hb.size; omega) fun j ej => by
    have := rowv_off (b := j) hrow1
    by_cases hj : j < N
    · exact absurd ej.symm (this hj)
    · omega
  have r := ((bR.kept g1 (by simp)).kept hgrow (rowv_off hrow1 h0)).other h02 v'
  have c := ((bC.kept g1 (by simp)).kept hgrow (rowv_off hrow1 h1)).other h12 v'
  have l := ((bL.kept g1 (by simp)).kept hgrow n2).set v'
  refine ⟨K, ⟨(B1.trans B2).setCell (p := ⟨b2, 0, none⟩) hm _, ⟨K.size, fun j o hk ho => K.same j o hk (Obj.not_cells_of_walk ho)⟩⟩, ⟨r, c⟩, ⟨l, hown'.kept (grownBy_setCell' w2 b2 v') (.inr (rowv_off hown' h2).symm)⟩, K.size, (bL.kept g1 (by simp)).kept hgrow n2⟩

set_option maxHeartbeats 8000000 in
set_option maxRecDepth 100000 in
theorem asmI (A : Option Addr) (n c : Nat) (ss : List ByteArray) (w : World) (hn : ss.length = n) (hm : n ≤ 1048576) (hx : ∀ x ∈ ss, x.size ≤ 1048576) (h : StrL w A ss) (ht : OpsT w) : Calls Tryd.prog 26 #[.slice A n c] w (GivesLC (asmF ss) w) := by
  obtain ⟨i0, hi, hz0, hz1, hz2⟩ := info_parts Tryd.infoInt
  refine (callsIn_wide (n := 9)).1 ?_
  refine callsIn_of_wp_marks Tryd.func26 rfl trivial ?_ rfl
  simp only [Tryd.ntmps26, List.size_toArray, List.length_cons, List.length_nil, Nat.reduceAdd, Nat.reduceSub, Array.replicate_succ, Array.replicate_zero, List.push_toArray, List.append_toArray, List.nil_append, List.cons_append]
  by_cases hl : 4096 < n
  · have i1 : (4096 : Int) < (n : Int) := by omega
    have HF := Lib.hid (asm_long (ss := ss) (by rw [hn]; exact hl))
    gi_wp2
    refine ⟨.tuple #[.slice none 0 0, .int .i64 2], by simp [results, Tryd.results26, go_sem], ?_⟩
    rw [HF.out]
    exact ⟨_, _, _, rfl, rfl, Lib.hid (.inl rfl), bt (alloc_below _ _) (alloc_below _ _)⟩
  · have i1 : ¬ (4096 : Int) < (n : Int) := by omega
    gi_wp2
    refine ⟨trivial, ?_⟩
    refine (callsIn_wide.2 (linesOf A n c _)).mono ?_
    rintro e w' ⟨rfl, rfl⟩
    have bR := (((Boxed.new w 26 (.slice none 0 0)).alloc (.cells #[.int .i64 0] 3)).alloc (.cells #[.slice none 0 0] 26)).alloc (.cells #[.slice A n c] 40)
    have bC := ((Boxed.new (w.alloc (.cells #[.slice none 0 0] 26)) 3 (.int .i64 0)).alloc (.cells #[.slice none 0 0] 26)).alloc (.cells #[.slice A n c] 40)
    have bL := (Boxed.new ((w.alloc (.cells #[.slice none 0 0] 26)).alloc (.cells #[.int .i64 0] 3)) 26 (.slice none 0 0)).alloc (.cells #[.slice A n c] 40)
    have bS := Boxed.new (((w.alloc (.cells #[.slice none 0 0] 26)).alloc (.cells #[.int .i64 0] 3)).alloc (.cells #[.slice none 0 0] 26)) 40 (.slice A n c)
    simp only [World.size_alloc] at bC bL bS
    have hB0 : Below w.heap.size w ((((w.alloc (.cells #[.slice none 0 0] 26)).alloc (.cells #[.int .i64 0] 3)).alloc (.cells #[.slice none 0 0] 26)).alloc (.cells #[.slice A n c] 40)) := ((((Below.refl _ w).alloc (Nat.le_refl _) _).alloc (by simp) _).alloc (by simp; omega) _).alloc (by simp; omega) _
    have hsz : ((((w.alloc (.cells #[.slice none 0 0] 26)).alloc (.cells #[.int .i64 0] 3)).alloc (.cells #[.slice none 0 0] 26)).alloc (.cells #[.slice A n c] 40)).heap.size = w.heap.size + 4 := by simp
    simp only [World.size_alloc]
    obtain ⟨W0, hW0⟩ : ∃ W0, ((((w.alloc (.cells #[.slice none 0 0] 26)).alloc (.cells #[.int .i64 0] 3)).alloc (.cells #[.slice none 0 0] 26)).alloc (.cells #[.slice A n c] 40)) = W0 := ⟨_, rfl⟩
    rw [hW0] at bR bC bL bS hB0 hsz
    gi_wp2
    rw [hW0]
    clear hW0
    refine wpIn_rangeFunc_ownH rfl (by omega) (gf := 77) (lb := #[.pointer (some ⟨w.heap.size + 1 + 1 + 1, 0, none⟩)]) rfl trivial (enters_of Tryd.func77 (by kernel_rfl) rfl)
      (lines_stops 8 (w.heap.size + 1 + 1 + 1) n c (by omega) A ss w W0 hn hx hm h ht hB0 bS.cell) KpM.t (KpM.b (by omega)) (Below.refl _ _) (fun _ => rfl)
      (fun pre W => ((Boxed W w.heap.size 26 (.slice none 0 0) ∧ Boxed W (w.heap.size + 1) 3 (.int .i64 0)) ∧ (∃ v, Boxed W (w.heap.size + 1 + 1) 26 v ∧ W.ownsRow W0.heap.size 3 1 v (codes pre).length ((codes pre).map (Value.int .i64)) ∧ True)) ∧ (Below w.heap.size w W ∧ (W0.heap.size ≤ W.heap.size ∧ allOk pre)))
      (fun cd pre W => cd = .ret ∧ ((Boxed W w.heap.size 26 (.slice none 0 0) ∧ Boxed W (w.heap.size + 1) 3 (.int .i64 3)) ∧ (Below w.heap.size w W ∧ oneBad pre)))
      (OwnFrom.and (OwnFrom.and (OwnFrom.and (Own.from (boxed_own _ _ _) _) (Own.from (boxed_own _ _ _) _)) (Own.from (holdsRow_own W0.heap.size (w.heap.size + 1 + 1) 26 3 1 (fun pre => (codes pre).length) (fun pre => (codes pre).map (Value.int .i64)) (fun _ _ => True)) _)) (OwnFrom.and (ownFrom_below (Nat.le_refl _) (by omega)) (OwnFrom.and (fun _ _ _ _ hs hg _ => Nat.le_trans hs hg.size) (ownFrom_pure _ _))))
      (fun cd => OwnFrom.and (ownFrom_pure _ (fun _ => cd = .ret)) (OwnFrom.and (OwnFrom.and (Own.from (boxed_own _ _ _) _) (Own.from (boxed_own _ _ _) _)) (OwnFrom.and (ownFrom_below (Nat.le_refl _) (by omega)) (ownFrom_pure _ _))))
      ⟨⟨⟨bR, bC⟩, _, bL, World.ownsRow_nil _ _ _ _, trivial⟩, hB0, Nat.le_refl _, by intro r hr; cases hr⟩
      (fun x a' W => ∃ Bx, w.heap.size + 1 + 1 < Bx ∧ Box W Bx 24 #[.int .i64 x.1.1.1, .int .i64 x.1.1.2.1, .int .i64 x.1.1.2.2] ∧ a' = { tmps := #[.slice A n c, undef, .pointer (some ⟨w.heap.size, 0, none⟩), .pointer (some ⟨w.heap.size + 1, 0, none⟩), .pointer (some ⟨w.heap.size + 1 + 1, 0, none⟩), .pointer (some ⟨Bx, 0, none⟩), .bool x.1.2, .slice A n c, .int .i64 n, .bool false, .slice A n c, .func (.func 77) #[] #[.pointer (some ⟨w.heap.size + 1 + 1 + 1, 0, none⟩)], .agg #[.int .i64 x.1.1.1, .int .i64 x.1.1.2.1, .int .i64 x.1.1.2.2], .bool x.1.2, undef, undef, undef, undef, undef, undef, undef, undef, undef, undef], defers := [] })
      (fun x a' _ X Y row hs hg hr => by obtain ⟨Bx, h1, h2, h3⟩ := hs; exact ⟨Bx, h1, box_kept h2 hg (fun r e => (hr r e).2), h3⟩)
      ?assign ?body ?done ?stop
    case assign =>
      rintro l pre ⟨⟨⟨a, bb, cc⟩, ok⟩, hok⟩ W K ⟨⟨⟨bR1, bC1⟩, v, bL1, hrow, _⟩, hB1, hs1, hall⟩ hK
      dsimp only [insV]
      gi_wp2
      exact hK _ _ ((KeepsOthers.alloc _ _).from _) ⟨(Below.refl _ W).alloc hB1.size _, KeepsWalks.alloc _ _⟩ ⟨⟨⟨bR1.alloc _, bC1.alloc _⟩, v, bL1.alloc _, hrow.alloc _, trivial⟩, hB1.alloc hB1.size _, by simp; omega, hall⟩ ⟨W.heap.size, bL1.lt, Box.new _ _ _, rfl⟩
    case body =>
      rintro l pre ⟨⟨⟨a, bb, cc⟩, ok⟩, hok⟩ a' W hl0 ⟨rr, hrr⟩ ⟨⟨⟨bR1, bC1⟩, v, bL1, hrow, _⟩, hB1, hs1, hall⟩ ⟨Bx, hBx, bX, rfl⟩ hlt
      cases ok with
      | false =>
        have c0 := bR1.cell
        have c1 := bC1.cell
        have f0 := bR1.frozen
        have f1 := bC1.frozen
        gi_wp2
        exact ⟨((KeepsOthers.setCell _ _ _).trans (KeepsOthers.setCell _ _ _)).from _, rfl, ⟨(bR1.set _).other (by omega) _, (bC1.other (by omega) _).set _⟩, (hB1.setCell (p := ⟨w.heap.size, 0, none⟩) (Nat.le_refl _) _).setCell (p := ⟨w.heap.size + 1, 0, none⟩) (by show _ ≤ w.heap.size + 1; omega) _, _, List.mem_append_right _ (List.mem_singleton.2 rfl), rfl⟩
      | true =>
        obtain ⟨h1, h2, h3, h4, h5, h6⟩ := okIns_iff (hok rfl)
        dsimp only at h1 h2 h3 h4 h5 h6
        have h7 := regT_range a
        have h8 := argT_range a
        have HCd : Hid (codes (pre ++ [⟨((a, bb, cc), true), hok⟩]) = codes pre ++ encL a bb cc) := Lib.hid (codes_snoc _ _)
        obtain ⟨op, rfl⟩ : ∃ op : Nat, a = op := ⟨a.toNat, by omega⟩
        have HBy := Lib.hid (fun W t => insBytes op bb cc W t (by omega) h3 (by omega) h5 (by omega))
        have hTW := ht.below hB1
        clear h1 h2 h3 h4 h5 h6 h7 h8
        have c2 := bL1.cell
        have f2 := bL1.frozen
        have x0 := bX.cell 0 rfl
        have x1 := bX.cell 1 rfl
        have x2 := bX.cell 2 rfl
        have hmx : Tryd.prog.follows .mixedOrders = true := by kernel_rfl
        have c2d : W.drew.cell? ⟨w.heap.size + 1 + 1, 0, none⟩ = some v := c2
        have hTd : OpsT W.drew := ht.below hB1.drew
        have hlv : (codes pre).length ≤ 3 * n := by have := codes_len pre; omega
        gi_wp2
        gi_region_with_o (first | (refine ⟨trivial, ?_⟩; gi_at_call 46; refine (CallsIn.inRound l (callsIn_wide.2 (HBy.out W.drew hTd))).mono ?_; rintro e w1 ⟨A4, n4, c4, rfl, hl4, HO4, hb⟩; have c2e := (hb.cell (p := ⟨w.heap.size + 1 + 1, 0, none⟩) (cell_lt c2d)).trans c2d; have hrow1 := rowv_below (show W.drew.ownsRow _ _ _ _ _ _ from hrow) hb; have hle3 := rdL_len op bb cc; obtain ⟨ab, rfl, hcs⟩ := own_cells HO4.out (by omega); obtain ⟨v', w2, hrun, hown', hgrow, _⟩ := run_append_own (P := Tryd.prog) w1 W0.heap.size 26 26 3 i0 (.int .i64 0) 1 8 Tryd.underlying26 hi hz0 hz1 hz2 rfl (by decide) v _ _ hrow1 ⟨ab, 0, none⟩ n4 c4 ((encL op bb cc).map (Value.int .i64)) (by rw [List.length_map]; omega) hcs (by intro u hu; rw [List.mem_map] at hu; obtain ⟨z, _, rfl⟩ := hu; rfl) (by unfold maxLen; omega) (by omega) (Nat.le_trans hs1 hb.size); obtain ⟨A5, cap5, rfl, _⟩ := rowv_form hown'; obtain ⟨hK, hKp, hRC, hL2, hsz2, bLw⟩ := asm_step (m₀ := w.heap.size) (b2 := w.heap.size + 1 + 1) (show Boxed W.drew _ _ _ from bR1) (show Boxed W.drew _ _ _ from bC1) (show Boxed W.drew _ _ _ from bL1) (show W.drew.ownsRow _ _ _ _ _ _ from hrow) hs1 (by omega) (by omega) (by omega) (by omega) (by omega) (by omega) hb hrow1 hgrow hown'; have c2f := bLw.cell; have f2f := bLw.frozen))
        all_goals gi_wp2
        all_goals
          refine ⟨⟨hK.size, fun k o _ hk ho => hK.same k o hk ho⟩, ⟨(Below.refl _ W).drew.trans hKp.1, ⟨hKp.2.size, hKp.2.same⟩⟩, ⟨⟨hRC, _, hL2.1, ?_, trivial⟩, (hB1.drew).trans hKp.1, Nat.le_trans hs1 hsz2, ?_⟩⟩
          · rw [HCd.out, List.length_append, hl4, List.map_append]; exact hL2.2
          · intro r hr
            rcases List.mem_append.1 hr with h | h
            · exact hall r h
            · rw [List.mem_singleton.1 h]
    case done =>
      rintro D ys W hD rfl ⟨⟨⟨bR1, bC1⟩, v, bL1, hrow, _⟩, hB1, hs1, hall⟩ hK
      rw [codes_insU] at hrow
      obtain ⟨A5, cap5, rfl, _⟩ := rowv_form hrow
      have HAll : Hid (∀ k, k < ss.length → (rdF (ss.getD k ByteArray.empty)).2 = true) := Lib.hid (fun k hk => hall (rdX (ss.getD k ByteArray.empty)) (List.mem_map.2 ⟨k, List.mem_range.2 (by omega), rfl⟩))
      have hN : ¬ 4096 < ss.length := by omega
      have c0 := bR1.cell
      have c1 := bC1.cell
      have c2 := bL1.cell
      have f0 := bR1.frozen
      have f1 := bC1.frozen
      have hbd : (cdK ss n).length ≤ 3 * n := cdK_len ss n
      by_cases hz : 256 < (cdK ss n).length
      · have i3 : (256 : Int) < ((cdK ss n).length : Int) := by omega
        have HF := Lib.hid (asm_size hN HAll.out (by rw [hn]; exact hz))
        gi_wp2
        have hK' := ((KeepsOthers.setCell W ⟨w.heap.size, 0, none⟩ (.slice none 0 0)).trans (KeepsOthers.setCell _ ⟨w.heap.size + 1, 0, none⟩ (.int .i64 8))).same D _ hK rfl
        refine ⟨by simp, .inl ⟨_, _, rfl, run_takeDeferred hK', ?_⟩⟩
        have e0 := cell_kept (((bR1.set (.slice none 0 0)).other (B' := w.heap.size + 1) (by omega) (.int .i64 8)).cell) (grownBy_putObj' _ D (.deferred none)) (fun r e => by cases e; exact ⟨_, hK', rfl⟩)
        have e1 := cell_kept (((bC1.other (B' := w.heap.size) (by omega) (.slice none 0 0)).set (.int .i64 8)).cell) (grownBy_putObj' _ D (.deferred none)) (fun r e => by cases e; exact ⟨_, hK', rfl⟩)
        refine ⟨.tuple #[.slice none 0 0, .int .i64 8], by simp [results, Tryd.results26, go_sem, e0, e1], ?_⟩
        rw [HF.out]
        exact ⟨_, _, _, rfl, rfl, Lib.hid (.inl rfl), ((hB1.setCell (p := ⟨w.heap.size, 0, none⟩) (Nat.le_refl _) _).setCell (p := ⟨w.heap.size + 1, 0, none⟩) (by show _ ≤ w.heap.size + 1; omega) _).trans (belowK_b (w := w) (Nat.le_refl _) _ D _ _ (by omega) hK' rfl rfl)⟩
      · have i3 : ¬ (256 : Int) < ((cdK ss n).length : Int) := by omega
        have HF := Lib.hid (asm_yes hN HAll.out (by rw [hn]; exact hz))
        rw [hn] at HF
        gi_wp2
        have hK' := ((KeepsOthers.setCell W ⟨w.heap.size, 0, none⟩ (.slice A5 (cdK ss n).length cap5)).trans (KeepsOthers.setCell _ ⟨w.heap.size + 1, 0, none⟩ (.int .i64 0))).same D _ hK rfl
        refine ⟨by simp, .inl ⟨_, _, rfl, run_takeDeferred hK', ?_⟩⟩
        have e0 := cell_kept (((bR1.set (.slice A5 (cdK ss n).length cap5)).other (B' := w.heap.size + 1) (by omega) (.int .i64 0)).cell) (grownBy_putObj' _ D (.deferred none)) (fun r e => by cases e; exact ⟨_, hK', rfl⟩)
        have e1 := cell_kept (((bC1.other (B' := w.heap.size) (by omega) (.slice A5 (cdK ss n).length cap5)).set (.int .i64 0)).cell) (grownBy_putObj' _ D (.deferred none)) (fun r e => by cases e; exact ⟨_, hK', rfl⟩)
        have hr1 := hrow.kept (grownBy_setCell' W w.heap.size (.slice A5 (cdK ss n).length cap5)) (.inr (rowv_off hrow (by omega)).symm)
        have hr2 := hr1.kept (grownBy_setCell' _ (w.heap.size + 1) (.int .i64 0)) (.inr (rowv_off hr1 (by omega)).symm)
        have hr3 := ownsRow_putObj hr2 (.deferred none) hK' rfl
        refine ⟨.tuple #[.slice A5 (cdK ss n).length cap5, .int .i64 0], by simp [results, Tryd.results26, go_sem, e0, e1], ?_⟩
        rw [HF.out]
        exact ⟨_, _, _, rfl, rfl, Lib.hid (GroI.own (base := W0.heap.size) (n := (cdK ss n).length) (c := cap5) hr3 (by omega)), ((hB1.setCell (p := ⟨w.heap.size, 0, none⟩) (Nat.le_refl _) _).setCell (p := ⟨w.heap.size + 1, 0, none⟩) (by show _ ≤ w.heap.size + 1; omega) _).trans (belowK_b (w := w) (Nat.le_refl _) _ D _ _ (by omega) hK' rfl rfl)⟩
    case stop =>
      rintro D cd pre W hD ⟨k, hk, rfl⟩ ⟨rfl, ⟨bR1, bC1⟩, hB1, r, hr, hbad⟩ hK
      obtain ⟨j, hj, rfl⟩ := List.mem_map.1 hr
      have hjk := List.mem_range.1 hj
      have HF := Lib.hid (asm_no (ss := ss) (k := j) (by omega) (by omega) hbad)
      gi_wp2
      refine ⟨by simp, .inl ⟨_, _, rfl, run_takeDeferred hK, ?_⟩⟩
      have e0 := cell_kept bR1.cell (grownBy_putObj' _ D (.deferred none)) (fun r e => by cases e; exact ⟨_, hK, rfl⟩)
      have e1 := cell_kept bC1.cell (grownBy_putObj' _ D (.deferred none)) (fun r e => by cases e; exact ⟨_, hK, rfl⟩)
      refine ⟨.tuple #[.slice none 0 0, .int .i64 3], by simp [results, Tryd.results26, go_sem, e0, e1], ?_⟩
      rw [HF.out]
      exact ⟨_, _, _, rfl, rfl, Lib.hid (.inl rfl), hB1.trans (belowK_b (w := w) (Nat.le_refl _) W D _ _ (by omega) hK rfl rfl)⟩
end Go.Proofs.YtoaeofahknknhaaDoor

/-! Assemble, both sides, on leaves. -/
namespace Go.Proofs.YtoaeofahknknhaaDoor
open Go.RowKit

theorem asmF_len (ss : List ByteArray) : lenA [Lf.I (asmF ss).1] ≤ 4294967296 := by
  have := asm_len ss
  simp only [lenA, Lf.len]; omega
section
variable (q0vA0 : Option Addr) (q0vc0 : Nat) (a0d0 : List ByteArray) (w : World)
theorem asm_pre (z : szA [.S a0d0] ≤ 1048576) : a0d0.length ≤ 1048576 ∧ ∀ x ∈ a0d0, x.size ≤ 1048576 := by
  have hz : a0d0.length + lenS a0d0 ≤ 1048576 := by simpa [szA, Lf.sz] using z
  exact ⟨by omega, fun x hx => by have := lenS_mem hx; omega⟩
theorem asm_post {e : Ending} {w' : World} (h : GivesLC (asmF a0d0) w e w') : ∃ rA rc, e = .returned (.tuple #[.slice rA (asmF a0d0).1.length rc, .int .i64 (asmF a0d0).2]) ∧ Hid (OwnA w' w.heap.size w'.heap.size [.slice rA (asmF a0d0).1.length rc] [.I (asmF a0d0).1]) ∧ Below w.heap.size w w' := by
  obtain ⟨A, n, c, he, hl, ho, hb⟩ := h
  exact ⟨A, c, by rw [he, hl], Lib.hid (ownI1 rfl ho.out), hb⟩
set_option maxRecDepth 100000 in
theorem specAssembleA (h : RepA w [.slice q0vA0 a0d0.length q0vc0] [.S a0d0]) (_c : CapA [.slice q0vA0 a0d0.length q0vc0]) (z : szA [.S a0d0] ≤ 1048576) :
    Calls Tryd.prog 39 #[.slice q0vA0 a0d0.length q0vc0] w fun e w' => ∃ rA rc, e = .returned (.tuple #[.slice rA (asmF a0d0).1.length rc, .int .i64 (asmF a0d0).2]) ∧ Hid (OwnA w' w.heap.size w'.heap.size [.slice rA (asmF a0d0).1.length rc] [.I (asmF a0d0).1]) ∧ Below w.heap.size w w' :=
  (asmS q0vA0 a0d0.length q0vc0 a0d0 w rfl (asm_pre a0d0 z).1 (asm_pre a0d0 z).2 (repS h.1)).mono fun _ _ g => asm_post a0d0 w g
set_option maxRecDepth 100000 in
theorem implAssembleA (h : RepA w [.slice q0vA0 a0d0.length q0vc0] [.S a0d0]) (_c : CapA [.slice q0vA0 a0d0.length q0vc0]) (z : szA [.S a0d0] ≤ 1048576) (t : OpsT w) :
    Calls Tryd.prog 26 #[.slice q0vA0 a0d0.length q0vc0] w fun e w' => ∃ rA rc, e = .returned (.tuple #[.slice rA (asmF a0d0).1.length rc, .int .i64 (asmF a0d0).2]) ∧ Hid (OwnA w' w.heap.size w'.heap.size [.slice rA (asmF a0d0).1.length rc] [.I (asmF a0d0).1]) ∧ Below w.heap.size w w' :=
  (asmI q0vA0 a0d0.length q0vc0 a0d0 w rfl (asm_pre a0d0 z).1 (asm_pre a0d0 z).2 (repS h.1) t).mono fun _ _ g => asm_post a0d0 w g
end
end Go.Proofs.YtoaeofahknknhaaDoor

namespace Go.Proofs.YtoaeofahknknhaaDoor.fnExactAssemble
open Go.RowKit

set_option maxRecDepth 100000 in
set_option maxHeartbeats 16000000 in
theorem walk (a0vA0 : Option Addr) (a0vc0 : Nat) (a0d0 : List ByteArray) (w : World) (h0 : RepA w [.slice a0vA0 a0d0.length a0vc0] [Lf.S a0d0]) (f0 : FitA [Lf.S a0d0]) (ht : OpsT w) :
    Calls Tryd.prog 12 #[.slice a0vA0 a0d0.length a0vc0] w fun e w' => e = .returned (.bool true) ∧ Below w.heap.size w w' := by
  have HT := Lib.hid ht
  clear ht
  have HSz0 := Lib.hid (fun W (hb : Below w.heap.size w W) l g0 g1 => szLS (.slice a0vA0 a0d0.length a0vc0) a0d0 l W (h0.below hb).1 (f0 _ (by simp)) g0 g1)
  have HTo0 := Lib.hid (fun W (hb : Below w.heap.size w W) (z : szA [Lf.S a0d0] ≤ 1048576) => toLS (.slice a0vA0 a0d0.length a0vc0) a0d0 W (h0.below hb).1 (by have q := Nat.le_trans (szA_len _) z; simp only [lenA, Lf.len] at q; omega))
  have HSpec := Lib.hid (fun W (q0vA0 : Option Addr) (q0vc0 : Nat) (h0 : RepA W [.slice q0vA0 a0d0.length q0vc0] [Lf.S a0d0]) (c0 : CapA [.slice q0vA0 a0d0.length q0vc0]) (z0 : szA [Lf.S a0d0] ≤ 1048576) => specAssembleA q0vA0 q0vc0 a0d0 W h0 c0 z0)
  have HImpl := Lib.hid (fun W (q0vA0 : Option Addr) (q0vc0 : Nat) (h0 : RepA W [.slice q0vA0 a0d0.length q0vc0] [Lf.S a0d0]) (c0 : CapA [.slice q0vA0 a0d0.length q0vc0]) (z0 : szA [Lf.S a0d0] ≤ 1048576) (t : OpsT W) => implAssembleA q0vA0 q0vc0 a0d0 W h0 c0 z0 t)
  have HBnd := Lib.hid (fun (z0 : szA [Lf.S a0d0] ≤ 1048576) => (show lenA [Lf.I ((asmF a0d0).1)] ≤ 4294967296 from (asmF_len a0d0)))
  generalize (asmF a0d0).1 = r0d0 at HSpec HImpl HBnd
  generalize (asmF a0d0).2 = r1d0 at HSpec HImpl HBnd
  have qr1d0 : (r1d0 != r1d0) = false := by simp
  clear h0 f0
  have H0 : Hid (Below w.heap.size w w) := Lib.hid (Below.refl _ _)
  go_enter Tryd.func12, Tryd.ntmps12
  go_wp2_with fail
  refine (HSz0.out _ H0.out _ (by omega) (by omega)).mono ?_
  rintro e w1 ⟨hres, hc⟩
  have H2 := Lib.hid (bt H0.out hc)
  have Z3 : Hid (w.heap.size ≤ w1.heap.size) := Lib.hid hc.size
  clear H0 hc
  clear HSz0
  rcases hres with rfl | ⟨rfl, hle0⟩
  · go_wp2
    go_ret
    exact ⟨rfl, H2.out⟩
  have z0 : szA [Lf.S a0d0] ≤ 1048576 := by simp only [szA] at hle0 ⊢; omega
  generalize hu0 : Lf.sz (Lf.S a0d0) = u0 at hle0 ⊢
  clear hu0
  have hp0 : ¬ (1048576 : Int) - (u0 : Int) < 0 := by omega
  have HBd := Lib.hid (HBnd.out z0)
  clear HBnd
  have HBr0 : Hid ((Lf.I r0d0).len ≤ 4294967296) := Lib.hid (by have := HBd.out; simp only [lenA] at this; omega)
  go_wp2_with fail
  refine (HTo0.out _ H2.out z0).mono ?_
  rintro e w5 ⟨t4vA0, t4vc0, rfl, Nt4, Kt4, hc⟩
  have H6 := Lib.hid (bt H2.out hc)
  have Z7 : Hid (w1.heap.size ≤ w5.heap.size) := Lib.hid hc.size
  clear H2 hc
  have Ot4 := Lib.hid (OwnA.one Nt4.out)
  clear Nt4
  have Kt4 := Lib.hid (CapA.cons Kt4.out CapA.nil)
  go_wp2_with fail
  refine (HSpec.out w5 t4vA0 t4vc0 Ot4.out.reads Kt4.out z0).mono ?_
  rintro e w8 ⟨w0vA0, w0vc0, rfl, Nw, hc⟩
  have F9 := Lib.hid (Ot4.out.below hc)
  have H10 := Lib.hid (bt H6.out hc)
  have Z11 : Hid (w5.heap.size ≤ w8.heap.size) := Lib.hid hc.size
  clear Ot4 H6 hc
  clear F9 Kt4
  clear HSpec
  go_wp2_with fail
  refine (HTo0.out _ H10.out z0).mono ?_
  rintro e w12 ⟨x0vA0, x0vc0, rfl, Nx0, Kx0, hc⟩
  have F13 := Lib.hid (Nw.out.below hc)
  have H14 := Lib.hid (bt H10.out hc)
  have Z15 : Hid (w8.heap.size ≤ w12.heap.size) := Lib.hid hc.size
  clear Nw H10 hc
  have Ox0 := Lib.hid (OwnA.one Nx0.out)
  clear Nx0
  have Kx0 := Lib.hid (CapA.cons Kx0.out CapA.nil)
  go_wp2_with fail
  refine (HImpl.out w12 x0vA0 x0vc0 Ox0.out.reads Kx0.out z0 (HT.out.below (H14.out))).mono ?_
  rintro e w16 ⟨g0vA0, g0vc0, rfl, Ng, hc⟩
  have F17 := Lib.hid (F13.out.below hc)
  have F18 := Lib.hid (Ox0.out.below hc)
  have H19 := Lib.hid (bt H14.out hc)
  have Z20 : Hid (w12.heap.size ≤ w16.heap.size) := Lib.hid hc.size
  clear F13 Ox0 H14 hc
  go_wp2_with fail
  refine (eqLI (.slice g0vA0 r0d0.length g0vc0) (.slice w0vA0 r0d0.length w0vc0) r0d0 w16 Ng.out.reads.1 F17.out.reads.1 (by have q := HBr0.out; simp only [Lf.len] at q; unfold maxLen; omega)).mono ?_
  rintro e w21 ⟨rfl, hc⟩
  have F22 := Lib.hid (F17.out.below hc)
  have F23 := Lib.hid (F18.out.below hc)
  have F24 := Lib.hid (Ng.out.below hc)
  have H25 := Lib.hid (bt H19.out hc)
  have Z26 : Hid (w16.heap.size ≤ w21.heap.size) := Lib.hid hc.size
  clear F17 F18 Ng H19 hc
  go_wp2_with fail
  refine (HTo0.out _ H25.out z0).mono ?_
  rintro e w28 ⟨t27vA0, t27vc0, rfl, Nt27, Kt27, hc⟩
  have F29 := Lib.hid (F22.out.below hc)
  have F30 := Lib.hid (F23.out.below hc)
  have F31 := Lib.hid (F24.out.below hc)
  have H32 := Lib.hid (bt H25.out hc)
  have Z33 : Hid (w21.heap.size ≤ w28.heap.size) := Lib.hid hc.size
  clear F22 F23 F24 H25 hc
  have Ot27 := Lib.hid (OwnA.one Nt27.out)
  clear Nt27
  have Kt27 := Lib.hid (CapA.cons Kt27.out CapA.nil)
  go_wp2_with fail
  refine (eqLS (.slice x0vA0 a0d0.length x0vc0) (.slice t27vA0 a0d0.length t27vc0) a0d0 w28 F30.out.reads.1 Ot27.out.reads.1 (by have q := Nat.le_trans (szA_len _) z0; simp only [lenA, Lf.len] at q; unfold maxLen; omega)).mono ?_
  rintro e w34 ⟨rfl, hc⟩
  have F35 := Lib.hid (F29.out.below hc)
  have F36 := Lib.hid (F30.out.below hc)
  have F37 := Lib.hid (F31.out.below hc)
  have F38 := Lib.hid (Ot27.out.below hc)
  have H39 := Lib.hid (bt H32.out hc)
  have Z40 : Hid (w28.heap.size ≤ w34.heap.size) := Lib.hid hc.size
  clear F29 F30 F31 Ot27 H32 hc
  clear F38 Kt27
  go_wp2_with fail
  have hk0 : (1 : Nat) ≤ 1 := Nat.le_refl _
  have hlx : lenA [Lf.S a0d0] ≤ 1048576 := Nat.le_trans (szA_len _) z0
  have HM := Lib.hid (markLS (.slice x0vA0 a0d0.length x0vc0) a0d0 1 w8.heap.size w12.heap.size w34 F36.out.1.1 (by omega) (by have q := hlx; simp only [lenA, Lf.len] at q; omega) (by omega))
  clear hlx hk0
  refine HM.out.mono ?_
  rintro e w41 ⟨rfl, M1, U1⟩
  clear HM M1
  have U2 := U1.btw F36.out
  have F42 := Lib.hid (F35.out.btw U2 (by have := Z3.out; have := Z7.out; have := Z11.out; have := Z15.out; have := Z20.out; have := Z26.out; have := Z33.out; have := Z40.out; omega))
  have F43 := Lib.hid (F37.out.btw U2 (by have := Z3.out; have := Z7.out; have := Z11.out; have := Z15.out; have := Z20.out; have := Z26.out; have := Z33.out; have := Z40.out; omega))
  have H44 := Lib.hid (H39.out.trans ((U2.below (by have := Z3.out; have := Z7.out; have := Z11.out; have := Z15.out; have := Z20.out; have := Z26.out; have := Z33.out; have := Z40.out; omega)).mono (by have := Z3.out; have := Z7.out; have := Z11.out; have := Z15.out; have := Z20.out; have := Z26.out; have := Z33.out; have := Z40.out; omega)))
  have Z45 : Hid (w34.heap.size ≤ w41.heap.size) := Lib.hid U2.size
  clear F35 F37 H39
  clear U1 U2 F36
  generalize hk : 1 + (Lf.S a0d0).len = k46
  have hkk46 : 1 ≤ k46 ∧ k46 ≤ 1 + 1048576 := by have := Nat.le_trans (szA_len _) z0; simp only [lenA] at this hk; omega
  clear hk
  have hnk46 : ¬ (k46 : Int) < 0 := by omega
  go_wp2_with fail
  refine (eqLI (.slice g0vA0 r0d0.length g0vc0) (.slice w0vA0 r0d0.length w0vc0) r0d0 w41 F43.out.reads.1 F42.out.reads.1 (by have q := HBr0.out; simp only [Lf.len] at q; unfold maxLen; omega)).mono ?_
  rintro e w47 ⟨rfl, hc⟩
  have F48 := Lib.hid (F42.out.below hc)
  have F49 := Lib.hid (F43.out.below hc)
  have H50 := Lib.hid (bt H44.out hc)
  have Z51 : Hid (w41.heap.size ≤ w47.heap.size) := Lib.hid hc.size
  clear F42 F43 H44 hc
  go_wp2_with fail
  have HM := Lib.hid (markLI (.slice g0vA0 r0d0.length g0vc0) r0d0 (1) w12.heap.size w16.heap.size w47 F49.out.1.1 (by omega) (by have q := HBr0.out; simpa only [Lf.len] using q) (by have := HBr0.out; omega))
  refine HM.out.mono ?_
  rintro e w52 ⟨rfl, M1, U1⟩
  clear HM
  have U2 := U1.btw F49.out
  have N53 := Lib.hid (OwnA.one M1.out)
  have F54 := Lib.hid (F48.out.btw U2 (by have := Z3.out; have := Z7.out; have := Z11.out; have := Z15.out; have := Z20.out; have := Z26.out; have := Z33.out; have := Z40.out; have := Z45.out; have := Z51.out; omega))
  have H55 := Lib.hid (H50.out.trans ((U2.below (by have := Z3.out; have := Z7.out; have := Z11.out; have := Z15.out; have := Z20.out; have := Z26.out; have := Z33.out; have := Z40.out; have := Z45.out; have := Z51.out; omega)).mono (by have := Z3.out; have := Z7.out; have := Z11.out; have := Z15.out; have := Z20.out; have := Z26.out; have := Z33.out; have := Z40.out; have := Z45.out; have := Z51.out; omega)))
  have Z56 : Hid (w47.heap.size ≤ w52.heap.size) := Lib.hid U2.size
  clear F48 H50
  clear U1 U2 M1 F49
  have hm0 : (((1 + (Lf.I r0d0).len : Nat) : Int) != ((1 + (Lf.I r0d0).len : Nat) : Int)) = false := by simp
  go_wp2_with fail
  refine (heldLI (.slice g0vA0 r0d0.length g0vc0) r0d0 (1) w52 N53.out.reads.1 (by omega) (by have q := HBr0.out; simpa only [Lf.len] using q) (by have := HBr0.out; omega)).mono ?_
  rintro e w57 ⟨rfl, hc⟩
  have F58 := Lib.hid (F54.out.below hc)
  have F59 := Lib.hid (N53.out.below hc)
  have H60 := Lib.hid (bt H55.out hc)
  have Z61 : Hid (w52.heap.size ≤ w57.heap.size) := Lib.hid hc.size
  clear F54 N53 H55 hc
  have hqw57 : ¬ ((1 + (Lf.I r0d0).len : Nat) : Int) < 0 := by omega
  go_wp2_with fail
  refine (HTo0.out _ H60.out z0).mono ?_
  rintro e w63 ⟨t62vA0, t62vc0, rfl, Nt62, Kt62, hc⟩
  have F64 := Lib.hid (F58.out.below hc)
  have F65 := Lib.hid (F59.out.below hc)
  have H66 := Lib.hid (bt H60.out hc)
  have Z67 : Hid (w57.heap.size ≤ w63.heap.size) := Lib.hid hc.size
  clear F58 F59 H60 hc
  have Ot62 := Lib.hid (OwnA.one Nt62.out)
  clear Nt62
  have Kt62 := Lib.hid (CapA.cons Kt62.out CapA.nil)
  go_wp2_with fail
  refine (HImpl.out w63 t62vA0 t62vc0 Ot62.out.reads Kt62.out z0 (HT.out.below (H66.out))).mono ?_
  rintro e w68 ⟨h0vA0, h0vc0, rfl, Nh, hc⟩
  have F69 := Lib.hid (F64.out.below hc)
  have F70 := Lib.hid (F65.out.below hc)
  have F71 := Lib.hid (Ot62.out.below hc)
  have H72 := Lib.hid (bt H66.out hc)
  have Z73 : Hid (w63.heap.size ≤ w68.heap.size) := Lib.hid hc.size
  clear F64 F65 Ot62 H66 hc
  clear F71 Kt62
  go_wp2_with fail
  refine (eqLI (.slice h0vA0 r0d0.length h0vc0) (.slice w0vA0 r0d0.length w0vc0) r0d0 w68 Nh.out.reads.1 F69.out.reads.1 (by have q := HBr0.out; simp only [Lf.len] at q; unfold maxLen; omega)).mono ?_
  rintro e w74 ⟨rfl, hc⟩
  have F75 := Lib.hid (F69.out.below hc)
  have F76 := Lib.hid (F70.out.below hc)
  have F77 := Lib.hid (Nh.out.below hc)
  have H78 := Lib.hid (bt H72.out hc)
  have Z79 : Hid (w68.heap.size ≤ w74.heap.size) := Lib.hid hc.size
  clear F69 F70 Nh H72 hc
  go_wp2_with fail
  refine (heldLI (.slice g0vA0 r0d0.length g0vc0) r0d0 (1) w74 F76.out.reads.1 (by omega) (by have q := HBr0.out; simpa only [Lf.len] using q) (by have := HBr0.out; omega)).mono ?_
  rintro e w80 ⟨rfl, hc⟩
  have F81 := Lib.hid (F75.out.below hc)
  have F82 := Lib.hid (F76.out.below hc)
  have F83 := Lib.hid (F77.out.below hc)
  have H84 := Lib.hid (bt H78.out hc)
  have Z85 : Hid (w74.heap.size ≤ w80.heap.size) := Lib.hid hc.size
  clear F75 F76 F77 H78 hc
  have hqw80 : ¬ ((1 + (Lf.I r0d0).len : Nat) : Int) < 0 := by omega
  go_wp2
  go_ret
  exact ⟨rfl, H84.out⟩

/-! The row's step and the card. -/
open Go.ChangeShapes Go.WideShapes Go.ChangeAt
open Go.ChangeMaps (open_string shut_string)
set_option maxRecDepth 100000 in
theorem laidOut : laidOutB Tryd.prog = true := factLaid
set_option maxRecDepth 100000 in
theorem laid_met (os : Os) (args : Array Value) : laidMet Tryd.prog Rows.fnExactAssembleRow.laid ((laidWorld os).forCall (fun _ _ => 0) ⟨#[], args, []⟩).memory :=
  laidMet_of_run' 8 (by kernel_rfl) (by kernel_rfl)
set_option maxRecDepth 100000 in
theorem laid_of {W : World} (h : laidMetH Tryd.prog Rows.fnExactAssembleRow.laid W) : laidMet Tryd.prog Rows.fnExactAssembleRow.laid W := h
set_option maxRecDepth 100000 in
theorem ops_of {W : World} (h : laidMetH Tryd.prog Rows.fnExactAssembleRow.laid W) : W.var? Tryd.prog "loop.example/g00563/impl.operations" = some opCells :=
  var_of_reads (reads_of_laid (laid_of h) (by unfold Rows.fnExactAssembleRow; repeat (first | exact List.Mem.head _ | apply List.Mem.tail)))
set_option maxRecDepth 100000 in
theorem contract (H : Type) (enc : TypeId × Value → H) (W : World) (base : Nat) (args : Array Value) (ds gs : List (DataW H)) (before : List MemPlace)
    (hval0 : ∀ (j : Nat) t v, Tryd.f12.params[j]? = some t → args[j]? = some v → Value.okWide Tryd.prog W .any base t v)
    (hW : DataW.Whole enc Tryd.prog Tryd.f12.params.toList Rows.fnExactAssembleSpec.vars false W args.toList ds gs before) (hL : laidMetH Tryd.prog Rows.fnExactAssembleRow.laid W) :
    Calls Tryd.prog 12 args W fun e W' => ∃ v, e = .returned v ∧ Rows.fnExactAssembleSpec.post enc Tryd.prog Tryd.f12 false true false false W args v W' := by
  have hval : ∀ (j : Nat) t v, Tryd.f12.params[j]? = some t → args[j]? = some v → Value.okWide Tryd.prog W .any base t v := hval0
  have hW' := hW
  obtain ⟨p, q, hA0, hV0, rfl, hfz, hnd⟩ := hW
  have hA : DataW.TrodAll enc Tryd.prog W 0 (fun _ => true) true Tryd.f12.params.toList args.toList ds p := hA0
  have hV : DataW.TrodVars enc Tryd.prog W (fun _ => true) ["loop.example/g00563/impl.operations"] gs q := hV0
  rw [Tryd.params12] at hA hval
  obtain ⟨v0, vs0, d0, ds0, p0, q0, hargs, rfl, rfl, h0, r0⟩ := trodAll_cons hA
  obtain ⟨rfl, rfl, rfl⟩ := trodAll_nil r0
  obtain rfl : args = #[v0] := by cases args; simp_all
  have k0 := h0
  have lt0 : ∀ x ∈ p0, x.block < W.heap.size := by obtain ⟨m, hm⟩ := k0; exact DataW.trod_lt m _ _ _ hm
  obtain ⟨f0, hf0⟩ := h0
  obtain ⟨x0, y0, z0, e0⟩ := okWide_slice Tryd.underlying40 (hval 0 40 v0 rfl rfl)
  obtain ⟨a0vA0, a0vc0, a0d0, e0x, R0x, G0x⟩ := openS (by rw [e0] at hf0; simpa [Value.cells] using hf0)
  rw [← e0] at e0x R0x
  subst e0x
  have R0 : RepA W [.slice a0vA0 a0d0.length a0vc0] [Lf.S a0d0] := ⟨R0x, trivial⟩
  have G0 : FitA [Lf.S a0d0] := fun d hd => by simp only [List.mem_cons, List.not_mem_nil, or_false] at hd; subst hd; exact G0x
  obtain ⟨g, t, cs, fuel, d, p', rfl, hg, ht, hvar, hd, rfl⟩ := trodVars_one hV
  obtain rfl := Option.some.inj (gOps.symm.trans hg)
  obtain rfl := Option.some.inj (gOpsType.symm.trans ht)
  obtain rfl : cs = opCells := Option.some.inj (hvar.symm.trans (ops_of hL))
  obtain ⟨rfl, rfl⟩ := DataW.Trod.unique (v := .agg opCells) ⟨fuel, hd⟩ ⟨4, reads_ops enc W _⟩
  clear hA0 hV0 hval0
  have HT := opsT_of_var hvar
  refine (walk a0vA0 a0vc0 a0d0 W R0 G0 HT).mono fun e W' ⟨he, bel⟩ => ?_
  subst he
  exact ⟨_, rfl, _, _, _, [], _, _, hW', trodAll_mk1 (shut_bool Tryd.underlying4 _), (trodAll_cons_mk (Below.trod laidOut (by kernel_rfl) (of_decide_eq_true (by kernel_rfl)) k0 bel lt0) trodAll_mk0), ⟨0, 92, opCells, 4, [], [], hg, ht, var?_below bel hg HT.lt hvar, reads_ops enc W' _, rfl, rfl⟩, bel.frame _, fun h => by cases h⟩

set_option maxRecDepth 100000 in
theorem reads (os : Os) {H : Type} (enc : TypeId × Value → H) : ∃ x, DataW.whole enc Tryd.prog ((laidWorld os).forCall (fun _ _ => 0) ⟨#[], #[.slice none 0 0], []⟩).memory Tryd.f12.params.toList Rows.fnExactAssembleSpec.vars false (#[.slice none 0 0] : Array Value).toList 8 = some x :=
  Option.isSome_iff_exists.1 (by kernel_rfl)

set_option maxRecDepth 100000 in
theorem lifted (os : Os) (started : os.Started) (H : Type) (enc : TypeId × Value → H) (F : Stop.Interp) :
    ReturnsInHanded {} Tryd.checked os 12 .any ((OpenSpec.ofChange Rows.fnExactAssembleSpec).preRow enc Tryd.prog Tryd.f12 Rows.fnExactAssembleRow.domain false Rows.fnExactAssembleRow.laid) (((OpenSpec.ofChange Rows.fnExactAssembleSpec).at F).post enc Tryd.prog Tryd.f12 false true false false) := by
  obtain ⟨x, hx⟩ := reads os enc
  refine returnsInHanded_of_row (C := Tryd.checked) (s := OpenSpec.ofChange Rows.fnExactAssembleSpec) ownK started (by kernel_rfl) Tryd.func12
    (witness_row_at (enc := enc) (C := Tryd.checked) false (laidWorld os) #[.slice none 0 0] rfl (by kernel_rfl) (by kernel_rfl) (by kernel_rfl)
      (OpenSpec.preRow_of_cond 8 hx rfl (fun k hk => by cases hk) (by kernel_rfl) (laid_met os _))) ?_
  intro W base args ds gs before hval hW _ _ _ hL _ _
  exact contract H enc W base args ds gs before hval hW hL

theorem k0 : (Rows.fnExactAssembleRow.wf (OpenSpec.ofChange Rows.fnExactAssembleSpec)) = true := by kernel_rfl
set_option maxRecDepth 100000 in
theorem k3 : (Tryd.f12.params.all (Tryd.prog.readableRec ·)) = true := by kernel_rfl
set_option maxRecDepth 100000 in
theorem k4 : (namedTie Tryd.prog Rows.fnExactAssembleRow.named Rows.fnExactAssembleSpec.vars) = true := by kernel_rfl
theorem k5 : ((Rows.fnExactAssembleRow.stops == [])) = true := by kernel_rfl
set_option maxRecDepth 100000 in
theorem k6 : ((Tryd.prog.stops == [])) = true := by kernel_rfl
theorem k7 : ((Rows.fnExactAssembleRow.knobs == [])) = true := by kernel_rfl
set_option maxRecDepth 100000 in
theorem k8 : ((Tryd.prog.stopKnobs == [])) = true := by kernel_rfl
set_option maxRecDepth 100000 in
theorem k9 : ((Rows.fnExactAssembleRow.inPlace == Tryd.prog.inPlace 12)) = true := by kernel_rfl
set_option maxRecDepth 100000 in
theorem k10 : ((Rows.fnExactAssembleRow.unfollowed == Tryd.prog.unfollowed 12)) = true := by kernel_rfl
set_option maxRecDepth 100000 in
theorem k11 : ((Rows.fnExactAssembleRow.recurses == Tryd.prog.recurses 12)) = true := by kernel_rfl
set_option maxRecDepth 100000 in
theorem k12 : ((Rows.fnExactAssembleRow.named == Tryd.prog.varsNamed 12)) = true := by kernel_rfl
set_option maxRecDepth 100000 in
theorem k13 : ((Rows.fnExactAssembleRow.maps == (Tryd.f12.params.toList ++ Rows.fnExactAssembleSpec.plain.varTypes Tryd.prog).any (Tryd.prog.mapsRec ·))) = true := by kernel_rfl
set_option maxRecDepth 100000 in
theorem k14 : ((Rows.fnExactAssembleRow.ifaces == (Tryd.f12.params.toList ++ Rows.fnExactAssembleSpec.plain.varTypes Tryd.prog).any (Tryd.prog.ifacesRec ·))) = true := by kernel_rfl
set_option maxRecDepth 100000 in
theorem k15 : ((Rows.fnExactAssembleRow.mapsOut == Tryd.prog.mapsAmong Tryd.f12.resultTypes.toList)) = true := by kernel_rfl
set_option maxRecDepth 100000 in
theorem k16 : ((Rows.fnExactAssembleRow.loops == (Tryd.f12.params.toList ++ Rows.fnExactAssembleSpec.plain.varTypes Tryd.prog).any (Tryd.prog.loopsFrom ·))) = true := by kernel_rfl
set_option maxRecDepth 100000 in
theorem k17 : ((Rows.fnExactAssembleRow.wideKeys == (Tryd.f12.params.toList ++ Rows.fnExactAssembleSpec.plain.varTypes Tryd.prog ++ Tryd.f12.resultTypes.toList).any (Tryd.prog.wideKeysFrom ·))) = true := by kernel_rfl
set_option maxRecDepth 100000 in
theorem k18 : (Rows.fnExactAssembleSpec.vars.all (Tryd.prog.varReadable ·)) = true := by kernel_rfl
set_option maxRecDepth 100000 in
theorem k19 : (Tryd.f12.resultTypes.all (fun t => Tryd.prog.readableRec t && decide (t < Tryd.prog.types.size))) = true := by kernel_rfl
set_option maxRecDepth 100000 in
theorem k20 : ((Rows.fnExactAssembleRow.ifacesOut == Tryd.f12.resultTypes.toList.any (Tryd.prog.ifacesRec ·))) = true := by kernel_rfl
set_option maxRecDepth 100000 in
theorem k21 : ((Rows.fnExactAssembleRow.loopsOut == Tryd.f12.resultTypes.toList.any (Tryd.prog.loopsFrom ·))) = true := by kernel_rfl
set_option maxRecDepth 100000 in
theorem k22 : ((Rows.fnExactAssembleRow.plainKeys == Tryd.prog.plainKeys)) = true := by kernel_rfl
theorem k23 : (Rows.fnExactAssembleRow.shortTexts.isNone) = true := by kernel_rfl
set_option maxRecDepth 100000 in
theorem k28 : ((Rows.fnExactAssembleRow.kinds == (if Rows.fnExactAssembleRow.domain.isEmpty then [] else Tryd.f12.params.toList.map fun t => match Tryd.prog.underlying t with | some (.int k) => some k | _ => none))) = true := by kernel_rfl
theorem k29 : ((Rows.fnExactAssembleRow.pinned == Rows.fnExactAssembleRow.pinnedBy)) = true := by kernel_rfl
set_option maxRecDepth 100000 in
theorem k30 : ((Rows.fnExactAssembleRow.veiled == (Tryd.f12.params.toList ++ Rows.fnExactAssembleSpec.plain.varTypes Tryd.prog ++ Tryd.f12.resultTypes.toList).any (Tryd.prog.veiledRec ·))) = true := by kernel_rfl
set_option maxRecDepth 100000 in
theorem k31 : (Rows.fnExactAssembleRow.veiledFits Tryd.prog Tryd.f12.params.toList (Tryd.f12.params.toList ++ Rows.fnExactAssembleSpec.plain.varTypes Tryd.prog ++ Tryd.f12.resultTypes.toList)) = true := by kernel_rfl
set_option maxRecDepth 100000 in
theorem facts : joinedFacts Tryd.prog 12 Tryd.f12 Rows.fnExactAssembleSpec Rows.fnExactAssembleRow = true := (and_mk (and_mk (and_mk (and_mk (and_mk (and_mk (and_mk (and_mk (and_mk (and_mk (and_mk (and_mk (and_mk (and_mk (and_mk (and_mk (and_mk (and_mk (and_mk (and_mk (and_mk (and_mk (and_mk (and_mk (and_mk (and_mk (and_mk (and_mk (and_mk (and_mk (and_mk k0 factLaid) factRowed) k3) k4) k5) k6) k7) k8) k9) k10) k11) k12) k13) k14) k15) k16) k17) k18) k19) k20) k21) k22) k23) factHeard) factEnter) factLift) factMake) k28) k29) k30) k31)
set_option maxRecDepth 100000 in
theorem named : Tryd.prog.funcNamed Rows.fnExactAssembleRow.func = some 12 := by kernel_rfl
set_option maxRecDepth 100000 in
theorem inst : Tryd.f12.isInstance Tryd.prog Rows.fnExactAssembleRow.origin Rows.fnExactAssembleRow.targs := of_decide_eq_true (by kernel_rfl)
set_option maxRecDepth 100000 in
theorem said : Rows.FnExactAssembleSaid :=
  OpenClaim.holds_of_cond 12 Tryd.f12 rfl rfl rfl rfl rfl rfl rfl ⟨rfl, rfl, rfl, rfl, rfl⟩ rfl rfl rfl rfl rfl named Tryd.func12 facts
    inst (by unfold Func.isWrapper; first | (rw [if_pos (by decide +kernel)]; kernel_rfl) | (rw [if_neg (by decide +kernel)]; exact ⟨rfl, rfl⟩))
    (fun os started H enc _ F => by rw [OpenClaim.pre_eq_preRow]; exact lifted os started H enc F)

set_option maxRecDepth 100000 in
theorem plain (f : FuncId) (fn : Func) (hf : Tryd.pinned.checked.prog.funcNamed "loop.example/g00563/laws.FnExactAssemble" = some f) (hfn : Tryd.pinned.checked.prog.funcs[f]? = some fn) :
    false = Tryd.pinned.checked.prog.looks [] ∧ ∀ (j : Nat) t, fn.params[j]? = some t → Tryd.pinned.checked.prog.wantsStandIn t = false := by
  obtain rfl : f = 12 := Option.some.inj ((show Tryd.prog.funcNamed "loop.example/g00563/laws.FnExactAssemble" = some 12 by kernel_rfl).symm.trans hf) |>.symm
  obtain rfl : fn = Tryd.f12 := (Option.some.inj (Tryd.func12.symm.trans hfn)).symm
  refine ⟨by kernel_rfl, fun j t ht => ?_⟩
  rw [Tryd.params12] at ht
  have hm := Array.mem_of_getElem? ht
  simp only [List.mem_toArray, List.mem_cons, List.not_mem_nil, or_false] at hm
  subst hm; exact (show Tryd.prog.wantsStandIn _ = false by kernel_rfl)

theorem card : Rows.FnExactAssembleCardSaid :=
  Claim7.holds_tied_plain_at .later [] _ _ _ _ said (fun _ h => by cases h) (by kernel_rfl) (fun _ h => by cases h) fnExactAssemble_row_tie rfl ⟨rfl, rfl⟩ (by kernel_rfl) rfl plain (by kernel_rfl)
#print axioms card
end Go.Proofs.YtoaeofahknknhaaDoor.fnExactAssemble
