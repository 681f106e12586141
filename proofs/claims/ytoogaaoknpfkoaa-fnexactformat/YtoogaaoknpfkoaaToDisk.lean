/- Contracts of the copies: toStringS, toWrite, toWriteS, toDisk. -/
import Derived.Test.YtoogaaoknpfkoaaEqDisk
import Derived.Test.YtoogaaoknpfkoaaOwn
namespace Go.Proofs.Ytoogaaoknpfkoaa
open Go.RowKit

set_option maxRecDepth 100000 in
theorem infoS : (Try.prog.info? 9).map (fun i => (i.zero, i.size, i.bytes)) = some (some (.string ByteArray.empty), 1, 16) := by kernel_rfl

set_option maxRecDepth 100000 in
set_option maxHeartbeats 1000000 in
theorem toStringS (A : Option Addr) (n c : Nat) (ss : List ByteArray) (w : World) (hl : ss.length = n) (hn : n ≤ 1048576) (h : StrL w A ss) :
    Calls Try.prog 55 #[.slice A n c] w fun e w' => e = .returned (.slice (some ⟨w.heap.size, 0, none⟩) n n) ∧ Below w.heap.size w w' ∧ w'.rowIs w.heap.size 9 n (fun i => .string (ss.getD i ByteArray.empty)) := by
  have HL := Lib.hid hl
  have H := Lib.hid h
  clear hl h
  have hmk := fun W => run_make_row' (P := Try.prog) 23 9 (.string ByteArray.empty) 16 Try.underlying23 infoS rfl .i64 .i64 n (by omega) (by omega) W
  go_enter Try.func55, Try.ntmps55
  go_wp2
  clear hmk
  have hrow := World.rowIs_made w (.string ByteArray.empty) n 9
  have hbel : Below w.heap.size w (w.alloc (.cells (madeCells #[.string ByteArray.empty] n) 9)) := (Below.refl _ _).alloc (Nat.le_refl _) _
  have HR := Lib.hid hrow
  clear hrow
  generalize w.alloc (.cells (madeCells #[.string ByteArray.empty] n) 9) = wa at hbel HR ⊢
  go_loopw [4] (fun i wr => ∃ k : Nat, k ≤ n ∧ i = .int .i64 k ∧ Below w.heap.size w wr ∧ wr.rowIs w.heap.size 9 n (fun j => if j < k then .string (ss.getD j ByteArray.empty) else .string ByteArray.empty)) (fun i _ => n - (intOf i).toNat)
  case atStart => exact ⟨0, Nat.zero_le _, rfl, hbel, HR.out.congr (fun i _ => by simp)⟩
  case round =>
    obtain ⟨k, hk, rfl, hbw, hrw⟩ := hrel
    by_cases hlt : k < n
    · obtain ⟨b, off, rfl, hc⟩ := (H.out.below hbw) k (by rw [HL.out]; exact hlt)
      have hcd := hrw.cell hlt
      have hfr := hrw.frozen k
      have HW := Lib.hid (hrw.set k (.string (ss.getD k ByteArray.empty)))
      simp only [Nat.lt_irrefl, if_false] at hcd
      clear hrw
      have HE : Hid (ss.getD k ByteArray.empty = ss.getD k ByteArray.empty) := Lib.hid rfl
      generalize hx : ss.getD k ByteArray.empty = x at hc HW
      have HX := Lib.hid hx
      clear hx HE
      have hi : (k : Int) < (n : Int) := by omega
      go_wp2
      go_roundw
      case rel =>
        refine ⟨k + 1, by omega, by go_num, hbw.setCell (Nat.le_refl _) _, HW.out.congr (fun i _ => ?_)⟩
        show (if i = k then Value.string x else if i < k then _ else _) = _
        by_cases e : i = k
        · subst e; rw [if_pos rfl, if_pos (by omega), HX.out]
        · rw [if_neg e]
          by_cases e2 : i < k
          · rw [if_pos e2, if_pos (by omega)]
          · rw [if_neg e2, if_neg (by omega)]
      case measure => simp [intOf]; omega
    · have HRW := Lib.hid hrw
      clear hrw
      go_wp2
      go_ret
      exact ⟨rfl, hbw, HRW.out.congr (fun i hi => by rw [if_pos (by omega)])⟩

set_option maxRecDepth 100000 in
theorem toWrite (a : Int) (s : ByteArray) (w : World) :
    Calls Try.prog 143 #[.agg #[.int .i64 a, .string s]] w fun e w' => e = .returned (.agg #[.int .i64 a, .string s]) ∧ Below w.heap.size w w' := by
  go_enter Try.func143, Try.ntmps143
  go_wp2
  exact bodyPost_ret (v := .agg #[.int .i64 a, .string s]) (by simp [results, Try.results143, go_sem]) rfl ⟨rfl, (((Below.refl _ _).alloc (Nat.le_refl _) _).alloc (by simp) _).alloc (by simp; omega) _⟩

set_option maxRecDepth 100000 in
theorem infoW : (Try.prog.info? 90).map (fun i => (i.zero, i.size, i.bytes)) = some (some (.agg #[.int .i64 0, .string ByteArray.empty]), 2, 24) := by kernel_rfl
set_option maxRecDepth 100000 in
theorem make_writes (n : Nat) (hn : n ≤ 1048576) (W : World) : (Instr.makeSlice 24 (.int .i64 (n : Int)) (.int .i64 (n : Int))).run Try.prog W = .ok (.slice (some ⟨W.heap.size, 0, none⟩) n n) (W.alloc (.cells (madeCells #[.int .i64 0, .string ByteArray.empty] (n * 2)) 90)) := by
  obtain ⟨i, hi, hzz⟩ := Option.map_eq_some_iff.1 infoW
  simp only [Prod.mk.injEq] at hzz
  obtain ⟨hz, hs, hb⟩ := hzz
  have hr := run_make (P := Try.prog) W 24 90 i _ Try.underlying24 hi hz .i64 .i64 n n (by omega) (Int.le_refl _) (by rw [hb]; omega) (by omega)
  simp only [Int.toNat_natCast, hs] at hr
  exact hr
theorem row_made2 (w : World) (z0 z1 : Value) (n : Nat) (t : TypeId) : (w.alloc (.cells (madeCells #[z0, z1] (n * 2)) t)).rowIs w.heap.size t (n * 2) (fun i => if i % 2 = 0 then z0 else z1) :=
  ⟨_, heap_alloc_new _ _, size_madeCells _ _, fun i hi => by
    have : i % 2 = 0 ∨ i % 2 = 1 := by omega
    rcases this with h | h <;> simp [madeCells, hi, h]⟩

/-- What the first k writes look like in a row of n of them. -/
def fillW (ws : List (Int × ByteArray)) (k : Nat) (j : Nat) : Value :=
  if j < k * 2 then (if j % 2 = 0 then .int .i64 (ws.getD (j / 2) (0, ByteArray.empty)).1 else .string (ws.getD (j / 2) (0, ByteArray.empty)).2) else (if j % 2 = 0 then .int .i64 0 else .string ByteArray.empty)
theorem fillW_next (ws : List (Int × ByteArray)) (k j : Nat) (a : Int) (s : ByteArray) (h : ws.getD k (0, ByteArray.empty) = (a, s)) :
    (if j = k * 2 + 1 then .string s else if j = k * 2 then .int .i64 a else fillW ws k j) = fillW ws (k + 1) j := by
  unfold fillW
  by_cases e1 : j = k * 2 + 1
  · subst e1
    rw [if_pos rfl, if_pos (by omega), if_neg (by omega), show (k * 2 + 1) / 2 = k by omega, h]
  · rw [if_neg e1]
    by_cases e2 : j = k * 2
    · subst e2
      rw [if_pos rfl, if_pos (by omega), if_pos (by omega), show (k * 2) / 2 = k by omega, h]
    · rw [if_neg e2]
      by_cases e3 : j < k * 2
      · have e4 : j < (k + 1) * 2 := by omega
        simp only [e3, e4, if_true]
      · have e4 : ¬ j < (k + 1) * 2 := by omega
        simp only [e3, e4, if_false]

set_option maxRecDepth 100000 in
set_option maxHeartbeats 1000000 in
theorem toWriteS (A : Option Addr) (n c : Nat) (ws : List (Int × ByteArray)) (w : World) (hl : ws.length = n) (hn : n ≤ 1048576) (h : WrL w A ws) :
    Calls Try.prog 93 #[.slice A n c] w fun e w' => e = .returned (.slice (some ⟨w.heap.size, 0, none⟩) n n) ∧ Below w.heap.size w w' ∧ w'.rowIs w.heap.size 90 (n * 2) (fillW ws n) := by
  have HL := Lib.hid hl
  have H := Lib.hid h
  clear hl h
  have hmk := make_writes n hn
  go_enter Try.func93, Try.ntmps93
  go_wp2
  clear hmk
  have hrow := row_made2 w (.int .i64 0) (.string ByteArray.empty) n 90
  have hbel : Below w.heap.size w (w.alloc (.cells (madeCells #[.int .i64 0, .string ByteArray.empty] (n * 2)) 90)) := (Below.refl _ _).alloc (Nat.le_refl _) _
  have HR := Lib.hid hrow
  clear hrow
  generalize w.alloc (.cells (madeCells #[.int .i64 0, .string ByteArray.empty] (n * 2)) 90) = wa at hbel HR ⊢
  go_loopw [4] (fun i wr => ∃ k : Nat, k ≤ n ∧ i = .int .i64 k ∧ Below w.heap.size w wr ∧ wr.rowIs w.heap.size 90 (n * 2) (fillW ws k)) (fun i _ => n - (intOf i).toNat)
  case atStart => exact ⟨0, Nat.zero_le _, rfl, hbel, HR.out.congr (fun i _ => by simp [fillW])⟩
  case round =>
    obtain ⟨k, hk, rfl, hbw, hrw⟩ := hrel
    by_cases hlt : k < n
    · obtain ⟨b, off, rfl, hc, hd⟩ := (H.out.below hbw) k (by rw [HL.out]; exact hlt)
      obtain ⟨x1, x2, hx⟩ : ∃ x1 x2, ws.getD k (0, ByteArray.empty) = (x1, x2) := ⟨_, _, rfl⟩
      rw [hx] at hc hd
      have HX := Lib.hid hx
      have HRW := Lib.hid hrw
      clear hrw hx
      have hi : (k : Int) < (n : Int) := by omega
      go_wp2_with fail
      refine (toWrite x1 x2 wr).mono ?_
      rintro e w1 ⟨rfl, hb1⟩
      have hr1 := row_below hb1 HRW.out HRW.out.lt
      have hcd := hr1.cell (i := k * 2) (by omega)
      have hcd2 := hr1.cell (i := k * 2 + 1) (by omega)
      have hfr := hr1.frozen (k * 2)
      have hfr2 := hr1.frozen (k * 2 + 1)
      have HW := Lib.hid ((hr1.set (k * 2) (.int .i64 x1)).set (k * 2 + 1) (.string x2))
      have hbe : Below w.heap.size w w1 := hbw.trans (hb1.mono hbw.size)
      clear hr1 hc hd
      generalize fillW ws k (k * 2) = y1 at hcd
      generalize fillW ws k (k * 2 + 1) = y2 at hcd2
      go_wp2
      go_roundw
      case rel =>
        exact ⟨k + 1, by omega, by go_num, (hbe.setCell (Nat.le_refl _) _).setCell (Nat.le_refl _) _, HW.out.congr (fun i _ => fillW_next ws k i x1 x2 HX.out)⟩
      case measure => simp [intOf]; omega
    · have HRW := Lib.hid hrw
      clear hrw
      go_wp2
      go_ret
      exact ⟨rfl, hbw, by have : k = n := by omega
                          subst this; exact HRW.out⟩

/-- The call hands back a disk of its own, with these sectors and these writes. -/
def GivesDisk (ss : List ByteArray) (ws : List (Int × ByteArray)) (w : World) (e : Ending) (w' : World) : Prop :=
  ∃ A n c C m d, e = .returned (.agg #[.slice A n c, .slice C m d]) ∧ Hid (ss.length = n) ∧ Hid (ws.length = m) ∧ Hid (OwnS w' w.heap.size w'.heap.size A ss) ∧ Hid (OwnW w' w.heap.size w'.heap.size C ws) ∧ Below w.heap.size w w'
/-- The same with a code. -/
def GivesDiskCode (ss : List ByteArray) (ws : List (Int × ByteArray)) (code : Int) (w : World) (e : Ending) (w' : World) : Prop :=
  ∃ A n c C m d, e = .returned (.tuple #[.agg #[.slice A n c, .slice C m d], .int .i64 code]) ∧ Hid (ss.length = n) ∧ Hid (ws.length = m) ∧ Hid (OwnS w' w.heap.size w'.heap.size A ss) ∧ Hid (OwnW w' w.heap.size w'.heap.size C ws) ∧ Below w.heap.size w w'

theorem own_of_rowS {w : World} {b n lo hi : Nat} {ss : List ByteArray} (hl : ss.length = n) (h : w.rowIs b 9 n (fun i => .string (ss.getD i ByteArray.empty))) (h1 : lo ≤ b) (h2 : b < hi) : OwnS w lo hi (some ⟨b, 0, none⟩) ss :=
  .inr ⟨b, n, _, rfl, h1, h2, by omega, h, fun _ _ => rfl⟩
theorem own_of_rowW {w : World} {b n lo hi : Nat} {ws : List (Int × ByteArray)} (hl : ws.length = n) (h : w.rowIs b 90 (n * 2) (fillW ws n)) (h1 : lo ≤ b) (h2 : b < hi) : OwnW w lo hi (some ⟨b, 0, none⟩) ws :=
  .inr ⟨b, n * 2, _, rfl, h1, h2, by omega, h, fun i hi' => by
    unfold fillW
    rw [if_pos (by omega), if_pos (by omega), if_pos (by omega), if_neg (by omega), show i * 2 / 2 = i by omega, show (i * 2 + 1) / 2 = i by omega]
    exact ⟨rfl, rfl⟩⟩

set_option maxRecDepth 100000 in
set_option maxHeartbeats 1000000 in
theorem toDisk (A C : Option Addr) (n c m d : Nat) (ss : List ByteArray) (ws : List (Int × ByteArray)) (w : World) (hl : ss.length = n) (hm : ws.length = m) (hn : n ≤ 1048576) (hmm : m ≤ 1048576) (h : StrL w A ss) (g : WrL w C ws) :
    Calls Try.prog 35 #[.agg #[.slice A n c, .slice C m d]] w (GivesDisk ss ws w) := by
  have HL := Lib.hid hl
  have HM := Lib.hid hm
  have H := Lib.hid h
  have G := Lib.hid g
  clear hl hm h g
  obtain ⟨b0, HB0⟩ : ∃ b0, Hid (b0 = w.heap.size) := ⟨_, Lib.hid rfl⟩
  go_enter Try.func35, Try.ntmps35
  go_wp2_with fail
  obtain ⟨W0, hW0⟩ : ∃ W0, W0 = (((w.alloc (.cells #[.slice A n c, .slice C m d] 44)).alloc (.cells #[.slice none 0 0, .slice none 0 0] 26)).alloc (.cells #[.slice none 0 0, .slice none 0 0] 26)) := ⟨_, rfl⟩
  have hs0 : W0.heap.size = w.heap.size + 1 + 1 + 1 := by rw [hW0]; simp
  have hb0 : Below w.heap.size w W0 := by rw [hW0]; exact (((Below.refl _ _).alloc (Nat.le_refl _) _).alloc (by simp) _).alloc (by simp; omega) _
  have X0 : Box W0 w.heap.size 44 #[.slice A n c, .slice C m d] := by rw [hW0]; exact ((Box.new _ _ _).alloc _).alloc _
  have X1 : Box W0 (w.heap.size + 1) 26 #[.slice none 0 0, .slice none 0 0] := by rw [hW0]; simpa using (Box.new (w.alloc (.cells #[.slice A n c, .slice C m d] 44)) 26 #[.slice none 0 0, .slice none 0 0]).alloc (.cells #[.slice none 0 0, .slice none 0 0] 26)
  have X2 : Box W0 (w.heap.size + 1 + 1) 26 #[.slice none 0 0, .slice none 0 0] := by rw [hW0]; simpa using Box.new ((w.alloc (.cells #[.slice A n c, .slice C m d] 44)).alloc (.cells #[.slice none 0 0, .slice none 0 0] 26)) 26 #[.slice none 0 0, .slice none 0 0]
  rw [← hW0]
  clear hW0
  refine (toStringS A n c ss W0 HL.out hn (H.out.below hb0)).mono ?_
  rintro e w1 ⟨rfl, hb1, hr1⟩
  have HR1 := Lib.hid hr1
  clear hr1
  have Y0 := X0.step hb1
  have Y1 := X1.step hb1
  have Y2 := X2.step hb1
  have HY := Lib.hid (And.intro Y0 (And.intro Y1 Y2))
  have f1 := Y0.cell 1 rfl
  have f2 := Y2.cell 0 rfl
  have f3 := Y2.frozen 0
  clear X0 X1 X2 Y0 Y1 Y2
  have HS0 := Lib.hid hs0
  clear hs0
  go_wp2_with fail
  have hbs : Below w.heap.size w w1 := bt hb0 hb1
  have hb2 : Below w.heap.size w (w1.setCell ⟨w.heap.size + 1 + 1, 0, none⟩ (.slice (some ⟨W0.heap.size, 0, none⟩) n n)) := hbs.setCell (by show w.heap.size ≤ w.heap.size + 1 + 1; omega) _
  have Z1 := HY.out.2.1.far (p := ⟨w.heap.size + 1 + 1, 0, none⟩) (by show w.heap.size + 1 ≠ w.heap.size + 1 + 1; omega) (.slice (some ⟨W0.heap.size, 0, none⟩) n n)
  have Z2 := HY.out.2.2.set 0 (.slice (some ⟨W0.heap.size, 0, none⟩) n n)
  have Z3 := HR1.out.setOther (a := ⟨w.heap.size + 1 + 1, 0, none⟩) (by show W0.heap.size ≠ w.heap.size + 1 + 1; rw [HS0.out]; omega) (.slice (some ⟨W0.heap.size, 0, none⟩) n n)
  generalize w1.setCell ⟨w.heap.size + 1 + 1, 0, none⟩ (.slice (some ⟨W0.heap.size, 0, none⟩) n n) = w2 at hb2 Z1 Z2 Z3 ⊢
  clear f1 f2 f3 HY HR1
  refine (toWriteS C m d ws w2 HM.out hmm (G.out.below hb2)).mono ?_
  rintro e w3 ⟨rfl, hb3, hr3⟩
  have HR3 := Lib.hid hr3
  have HZ3 := Lib.hid (row_below hb3 Z3 Z3.lt)
  have V1 := Z1.step hb3
  have V2 := Z2.step hb3
  have hlt : Hid (w2.heap.size < w3.heap.size) := Lib.hid hr3.lt
  have hz2 : Hid (W0.heap.size < w2.heap.size) := Lib.hid Z3.lt
  clear hr3 Z1 Z2 Z3
  have hb4 := bt hb2 hb3
  have g1 := V1.cell 0 rfl
  have g2 := V1.cell 1 rfl
  have g3 := V1.frozen 0
  have g4 := V1.frozen 1
  have g5 := V2.cell 0 rfl
  have g6 := V2.cell 1 rfl
  have g7 := V2.frozen 1
  clear V1 V2
  go_wp2
  refine bodyPost_ret (v := .agg #[.slice (some ⟨W0.heap.size, 0, none⟩) n n, .slice (some ⟨w2.heap.size, 0, none⟩) m m]) (by simp [results, Try.results35, go_sem, g1, g2]) rfl ?_
  refine ⟨_, _, _, _, _, _, rfl, HL, HM, ?_, ?_, ?_⟩
  · refine Lib.hid (own_of_rowS HL.out (((HZ3.out.setOther ?_ _).setOther ?_ _).setOther ?_ _) hb0.size ?_)
    · show W0.heap.size ≠ w.heap.size + 1 + 1; rw [HS0.out]; omega
    · show W0.heap.size ≠ w.heap.size + 1; rw [HS0.out]; omega
    · show W0.heap.size ≠ w.heap.size + 1; rw [HS0.out]; omega
    · have := hlt.out; have := hz2.out; simp [World.setCell]; omega
  · refine Lib.hid (own_of_rowW HM.out (((HR3.out.setOther ?_ _).setOther ?_ _).setOther ?_ _) hb2.size ?_)
    · show w2.heap.size ≠ w.heap.size + 1 + 1; have := hz2.out; rw [HS0.out] at this; omega
    · show w2.heap.size ≠ w.heap.size + 1; have := hz2.out; rw [HS0.out] at this; omega
    · show w2.heap.size ≠ w.heap.size + 1; have := hz2.out; rw [HS0.out] at this; omega
    · have := hlt.out; simp [World.setCell]; omega
  · exact ((hb4.setCell (by show w.heap.size ≤ w.heap.size + 1 + 1; omega) _).setCell (by show w.heap.size ≤ w.heap.size + 1; omega) _).setCell (by show w.heap.size ≤ w.heap.size + 1; omega) _
end Go.Proofs.Ytoogaaoknpfkoaa
