/- Contracts of the marks: markText, markStringS, heldStringS, markWriteS, heldWriteS, markDisk, heldDisk. -/
import Derived.Test.YtoogaaoknpfkoaaEqDisk
import Derived.Test.YtoogaaoknpfkoaaOwn
import Derived.Test.YtoogaaoknpfkoaaToDisk
import Derived.Deep.RegionHeld3
import Derived.Laws.IdiomStrings
namespace Go.Proofs.Ytoogaaoknpfkoaa
open Go.RowKit

def mkDig (j : Nat) : ByteArray := ⟨#[UInt8.ofNat (48 + j % 10)]⟩
def mkGo : Nat → Nat → ByteArray → ByteArray
  | 0, _, o => o
  | f + 1, j, o => if j = 0 then o else mkGo f (j / 10) (mkDig j ++ o)
/-- The text of a mark. -/
def mkText (k : Nat) : ByteArray := ⟨#[109]⟩ ++ mkGo k k ByteArray.empty
theorem mkGo_zero (f : Nat) (o : ByteArray) : mkGo f 0 o = o := by cases f <;> simp [mkGo]
theorem mkGo_step (f j : Nat) (o : ByteArray) (h : 0 < j) (hf : j ≤ f) : ∃ f', j / 10 ≤ f' ∧ mkGo f j o = mkGo f' (j / 10) (mkDig j ++ o) := by
  obtain ⟨f', rfl⟩ : ∃ f', f = f' + 1 := ⟨f - 1, by omega⟩
  exact ⟨f', by omega, by rw [mkGo, if_neg (by omega)]⟩

set_option maxRecDepth 100000 in
theorem byte_string (V : World) (j : Nat) : (convert 22 9 (.slice (some ⟨V.heap.size, 0, none⟩) 1 1)).run Try.prog (V.alloc (.cells #[.int .u8 (48 + (j : Int) % 10)] 5)) = .ok (.string (mkDig j)) (V.alloc (.cells #[.int .u8 (48 + (j : Int) % 10)] 5)) := by
  have h : (UInt8.ofNat (48 + j % 10)).toNat = 48 + j % 10 := by
    rw [UInt8.toNat_ofNat']; omega
  exact run_convert_bytes_back (P := Try.prog) (V.alloc (.cells #[.int .u8 (48 + (j : Int) % 10)] 5)) 22 9 5 ⟨V.heap.size, 0, none⟩ 1 [UInt8.ofNat (48 + j % 10)] Try.underlying22 Try.underlying5 Try.underlying9 (fun i hi => by
    have hi' : i = 0 := by simpa using hi
    subst hi'
    simp only [List.getElem_cons_zero]
    rw [h]
    simp [Addr.add])

set_option maxRecDepth 100000 in
set_option maxHeartbeats 1000000 in
theorem markText (k : Nat) (w : World) (hk : 1 ≤ k) (hk2 : k ≤ 1099511627776) :
    Calls Try.prog 111 #[.int .i64 k] w fun e w' => e = .returned (.string (mkText k)) ∧ Below w.heap.size w w' := by
  have h0 : ¬ (k : Int) ≤ 0 := by omega
  have hcv := byte_string
  go_enter Try.func111, Try.ntmps111
  go_wp2
  go_loopw [0, 3] (fun a s wr => ∃ (j : Nat) (o : ByteArray), a = .int .i64 j ∧ s = .string o ∧ j + o.size ≤ k ∧ Hid (∃ f, j ≤ f ∧ mkGo k k ByteArray.empty = mkGo f j o) ∧ Below w.heap.size w wr) (fun a _ _ => (intOf a).toNat)
  case atStart => exact ⟨k, ByteArray.empty, rfl, rfl, by simp, Lib.hid ⟨k, Nat.le_refl _, rfl⟩, Below.refl _ _⟩
  case round =>
    obtain ⟨j, o, rfl, rfl, hj, HG, hbw⟩ := hrel
    by_cases hp : 0 < j
    · have hp' : (0 : Int) < (j : Int) := by omega
      have hd1 : (mkDig j).size ≤ 1 := Nat.le_refl _
      have hnl : ¬ 9223372036854775807 < (mkDig j).size + o.size := by omega
      clear hd1
      go_wp2
      go_roundw
      case rel =>
        refine ⟨j / 10, mkDig j ++ o, by go_num, rfl, ?_, ?_, (hbw.alloc hbw.size _)⟩
        · have : (mkDig j).size = 1 := rfl
          rw [ByteArray.size_append, this]; omega
        · obtain ⟨f, hf, e⟩ := HG.out
          obtain ⟨f', hf', e'⟩ := mkGo_step f j o hp hf
          exact Lib.hid ⟨f', hf', e.trans e'⟩
      case measure => simp [intOf]; omega
    · have hp' : ¬ (0 : Int) < (j : Int) := by omega
      go_wp2
      go_ret
      refine ⟨?_, hbw⟩
      obtain ⟨f, hf, e⟩ := HG.out
      have hj0 : j = 0 := by omega
      subst hj0
      rw [mkGo_zero] at e
      unfold mkText
      rw [e]
      rfl

def marksS (k n : Nat) : List ByteArray := (List.range n).map fun i => mkText (k + i)
def marksW (k n : Nat) : List (Int × ByteArray) := (List.range n).map fun i => (((k + i * 2 : Nat) : Int), mkText (k + i * 2 + 1))
theorem marksS_len (k n : Nat) : (marksS k n).length = n := by simp [marksS]
theorem marksW_len (k n : Nat) : (marksW k n).length = n := by simp [marksW]
theorem marksS_at (k n i : Nat) (h : i < n) : (marksS k n).getD i ByteArray.empty = mkText (k + i) := by simp [marksS, List.getD_eq_getElem?_getD, h]
theorem marksW_at (k n i : Nat) (h : i < n) : (marksW k n).getD i (0, ByteArray.empty) = (((k + i * 2 : Nat) : Int), mkText (k + i * 2 + 1)) := by simp [marksW, List.getD_eq_getElem?_getD, h]

/-- What the marks of a slice of strings leave. -/
def MarkedS (lo hi : Nat) (A : Option Addr) (k n : Nat) (w : World) (e : Ending) (w' : World) : Prop :=
  e = .returned (.int .i64 ((k + n : Nat) : Int)) ∧ Hid (OwnS w' lo hi A (marksS k n)) ∧ Btw lo hi w w'
def MarkedW (lo hi : Nat) (A : Option Addr) (k n : Nat) (w : World) (e : Ending) (w' : World) : Prop :=
  e = .returned (.int .i64 ((k + n * 2 : Nat) : Int)) ∧ Hid (OwnW w' lo hi A (marksW k n)) ∧ Btw lo hi w w'

set_option maxRecDepth 100000 in
set_option maxHeartbeats 2000000 in
theorem markStringS (A : Option Addr) (n c k lo hi : Nat) (ss : List ByteArray) (w : World) (hl : ss.length = n) (hk : 1 ≤ k) (hn : n ≤ 1099511627776) (hk2 : k + n ≤ 1099511627776) (h : OwnS w lo hi A ss) :
    Calls Try.prog 58 #[.slice A n c, .int .i64 k] w (MarkedS lo hi A k n w) := by
  rcases h with rfl | ⟨b, m, f, rfl, h1, h2, hm, hr, hf⟩
  · obtain rfl : n = 0 := hl.symm
    go_enter Try.func58, Try.ntmps58
    go_wp2
    go_loop [5, 1] (fun i kk => i = .int .i64 0 ∧ kk = .int .i64 k) (fun _ _ => 0)
    case atStart => exact ⟨rfl, rfl⟩
    case round =>
      obtain ⟨rfl, rfl⟩ := hrel
      go_wp2
      go_ret
      exact ⟨rfl, Lib.hid (.inl rfl), Btw.refl _ _ _⟩
  · have HM : Hid (n ≤ m) := Lib.hid (by omega)
    have HR := Lib.hid hr
    clear hl hm hr hf
    go_enter Try.func58, Try.ntmps58
    go_wp2
    go_loopw [5, 1] (fun i kk wr => ∃ j : Nat, j ≤ n ∧ i = .int .i64 j ∧ kk = .int .i64 ((k + j : Nat) : Int) ∧ Btw lo hi w wr ∧ Hid (wr.rowIs b 9 m (fun x => if x < j then .string (mkText (k + x)) else f x))) (fun i _ _ => n - (intOf i).toNat)
    case atStart => exact ⟨0, Nat.zero_le _, rfl, rfl, Btw.refl _ _ _, Lib.hid (HR.out.congr (fun i _ => by simp))⟩
    case round =>
      obtain ⟨j, hj, rfl, rfl, hbw, HW⟩ := hrel
      by_cases hlt : j < n
      · have hi' : (j : Int) < (n : Int) := by omega
        go_wp2_with fail
        refine (markText (k + j) wr (by omega) (by omega)).mono ?_
        rintro e w1 ⟨rfl, hb1⟩
        have R1 := row_below hb1 HW.out HW.out.lt
        have hc := R1.cell (i := j) (by have := HM.out; omega)
        simp only [Nat.lt_irrefl, if_false] at hc
        have hfz := R1.frozen j
        have HS := Lib.hid (R1.set j (.string (mkText (k + j))))
        have HBt := Lib.hid (hbw.trans (Btw.of_below hb1 lo hi))
        clear R1 HW hbw hb1
        generalize f j = y at hc
        go_wp2
        go_roundw
        case rel =>
          refine ⟨j + 1, by omega, by go_num, by go_num, HBt.out.setCell h1 h2 _, Lib.hid (HS.out.congr (fun x _ => ?_))⟩
          show (if x = j then Value.string (mkText (k + j)) else if x < j then _ else _) = _
          by_cases e : x = j
          · subst e; rw [if_pos rfl, if_pos (by omega)]
          · rw [if_neg e]
            by_cases e2 : x < j
            · rw [if_pos e2, if_pos (by omega)]
            · rw [if_neg e2, if_neg (by omega)]
        case measure => simp [intOf]; omega
      · go_wp2
        go_ret
        have ej : j = n := by omega
        subst ej
        exact ⟨rfl, Lib.hid (.inr ⟨b, m, _, rfl, h1, h2, by rw [marksS_len]; exact HM.out, HW.out, fun i hi' => by rw [marksS_len] at hi'; rw [if_pos hi', marksS_at k j i hi']⟩), hbw⟩

set_option maxRecDepth 100000 in
set_option maxHeartbeats 2000000 in
theorem heldStringS (A : Option Addr) (n c k : Nat) (w : World) (hk : 1 ≤ k) (hk2 : k + n ≤ 1099511627776) (h : StrL w A (marksS k n)) :
    Calls Try.prog 63 #[.slice A n c, .int .i64 k] w fun e w' => e = .returned (.int .i64 ((k + n : Nat) : Int)) ∧ Below w.heap.size w w' := by
  have H := Lib.hid h
  clear h
  go_enter Try.func63, Try.ntmps63
  go_wp2
  go_loopw [5, 1] (fun i kk wr => ∃ j : Nat, j ≤ n ∧ i = .int .i64 j ∧ kk = .int .i64 ((k + j : Nat) : Int) ∧ Below w.heap.size w wr) (fun i _ _ => n - (intOf i).toNat)
  case atStart => exact ⟨0, Nat.zero_le _, rfl, rfl, Below.refl _ _⟩
  case round =>
    obtain ⟨j, hj, rfl, rfl, hbw⟩ := hrel
    by_cases hlt : j < n
    · obtain ⟨b, off, rfl, hc⟩ := (H.out.below hbw) j (by rw [marksS_len]; exact hlt)
      rw [marksS_at k n j hlt] at hc
      have hi' : (j : Int) < (n : Int) := by omega
      have hi0 : (0 : Int) ≤ (j : Int) := by omega
      have HT := Lib.hid (markText (k + j))
      have HK := Lib.hid (fun W (hb : Below wr.heap.size wr W) => (hb.cell (cell_lt hc)).trans hc)
      have h6 : Below wr.heap.size wr wr.drew := (Below.refl _ _).drew
      generalize mkText (k + j) = t at hc HT HK
      have hq : (t.toList == t.toList) = true := by simp
      go_wp2
      go_region_held3 (fun W => W.cell? ⟨b, off + j, none⟩ = some (.string t))
        (first | exact HK.out _ h6 | exact HK.out _ (bt h6 hb1))
        (first | (go_at_call 111; refine (HT.out _ (by omega) (by omega)).mono ?_; rintro e w1 ⟨rfl, hb1⟩))
      go_wp2
      go_roundw
      case rel => exact ⟨j + 1, by omega, by go_num, by go_num, bt hbw (bt h6 hb1)⟩
      case measure => simp [intOf]; omega
    · go_wp2
      go_ret
      have ej : j = n := by omega
      subst ej
      exact ⟨rfl, hbw⟩

def markCell (k x : Nat) : Value := if x % 2 = 0 then .int .i64 ((k + x : Nat) : Int) else .string (mkText (k + x))

set_option maxRecDepth 100000 in
set_option maxHeartbeats 2000000 in
theorem markWriteS (A : Option Addr) (n c k lo hi : Nat) (ws : List (Int × ByteArray)) (w : World) (hl : ws.length = n) (hk : 1 ≤ k) (hn : n ≤ 1099511627776) (hk2 : k + n * 2 ≤ 1099511627776) (h : OwnW w lo hi A ws) :
    Calls Try.prog 95 #[.slice A n c, .int .i64 k] w (MarkedW lo hi A k n w) := by
  rcases h with rfl | ⟨b, m, f, rfl, h1, h2, hm, hr, hf⟩
  · obtain rfl : n = 0 := hl.symm
    go_enter Try.func95, Try.ntmps95
    go_wp2
    go_loop [5, 1] (fun i kk => i = .int .i64 0 ∧ kk = .int .i64 k) (fun _ _ => 0)
    case atStart => exact ⟨rfl, rfl⟩
    case round =>
      obtain ⟨rfl, rfl⟩ := hrel
      go_wp2
      go_ret
      exact ⟨by simp, Lib.hid (.inl rfl), Btw.refl _ _ _⟩
  · have HM : Hid (n * 2 ≤ m) := Lib.hid (by omega)
    have HR := Lib.hid hr
    clear hl hm hr hf
    go_enter Try.func95, Try.ntmps95
    go_wp2
    go_loopw [5, 1] (fun i kk wr => ∃ j : Nat, j ≤ n ∧ i = .int .i64 j ∧ kk = .int .i64 ((k + j * 2 : Nat) : Int) ∧ Btw lo hi w wr ∧ Hid (wr.rowIs b 90 m (fun x => if x < j * 2 then markCell k x else f x))) (fun i _ _ => n - (intOf i).toNat)
    case atStart => exact ⟨0, Nat.zero_le _, rfl, rfl, Btw.refl _ _ _, Lib.hid (HR.out.congr (fun i _ => by simp))⟩
    case round =>
      obtain ⟨j, hj, rfl, rfl, hbw, HW⟩ := hrel
      by_cases hlt : j < n
      · have hi' : (j : Int) < (n : Int) := by omega
        generalize hz : k + j * 2 = z
        have HZ := Lib.hid hz
        have hz1 : z + 2 ≤ 1099511627776 := by omega
        clear hz
        have hc := HW.out.cell (i := j * 2) (by have := HM.out; omega)
        rw [if_neg (by omega)] at hc
        have hfz := HW.out.frozen (j * 2)
        have HS := Lib.hid (HW.out.set (j * 2) (.int .i64 (z : Int)))
        have HBt := Lib.hid (hbw.setCell (p := ⟨b, j * 2, none⟩) h1 h2 (.int .i64 (z : Int)))
        generalize f (j * 2) = y at hc
        clear HW hbw
        go_wp2_with fail
        generalize wr.setCell ⟨b, j * 2, none⟩ (.int .i64 (z : Int)) = w0 at HS HBt ⊢
        clear hc hfz
        have HT := Lib.hid (markText (z + 1) w0 (by omega) (by omega))
        rw [show ((z + 1 : Nat) : Int) = (z : Int) + 1 from by omega] at HT
        refine HT.out.mono ?_
        rintro e w1 ⟨rfl, hb1⟩
        have R1 := row_below hb1 HS.out HS.out.lt
        have hc := R1.cell (i := j * 2 + 1) (by have := HM.out; omega)
        rw [if_neg (by omega), if_neg (by omega)] at hc
        have hfz := R1.frozen (j * 2 + 1)
        have HS2 := Lib.hid (R1.set (j * 2 + 1) (.string (mkText (z + 1))))
        have HBt2 := Lib.hid (HBt.out.trans (Btw.of_below hb1 lo hi))
        clear R1 HS HBt hb1 HT
        generalize f (j * 2 + 1) = y at hc
        go_wp2
        go_roundw
        case rel =>
          refine ⟨j + 1, by omega, by go_num, by have := HZ.out; congr 1; omega, HBt2.out.setCell h1 h2 _, Lib.hid (HS2.out.congr (fun x _ => ?_))⟩
          rw [← HZ.out]
          show (if x = j * 2 + 1 then Value.string (mkText (k + j * 2 + 1)) else if x = j * 2 then Value.int .i64 ((k + j * 2 : Nat) : Int) else if x < j * 2 then _ else _) = _
          by_cases e : x = j * 2 + 1
          · subst e
            rw [if_pos rfl, if_pos (by omega)]
            unfold markCell
            rw [if_neg (by omega)]
            rfl
          · rw [if_neg e]
            by_cases e1 : x = j * 2
            · subst e1
              rw [if_pos rfl, if_pos (by omega)]
              unfold markCell
              rw [if_pos (by omega)]
            · rw [if_neg e1]
              by_cases e2 : x < j * 2
              · rw [if_pos e2, if_pos (by omega)]
              · rw [if_neg e2, if_neg (by omega)]
        case measure => simp [intOf]; omega
      · go_wp2
        go_ret
        have ej : j = n := by omega
        subst ej
        refine ⟨rfl, Lib.hid (.inr ⟨b, m, _, rfl, h1, h2, by rw [marksW_len]; exact HM.out, HW.out, fun i hi' => ?_⟩), hbw⟩
        rw [marksW_len] at hi'
        rw [if_pos (by omega), if_pos (by omega), marksW_at k j i hi']
        unfold markCell
        rw [if_pos (by omega), if_neg (by omega)]
        exact ⟨rfl, rfl⟩

set_option maxRecDepth 100000 in
set_option maxHeartbeats 2000000 in
theorem heldWriteS (A : Option Addr) (n c k : Nat) (w : World) (hk : 1 ≤ k) (hk2 : k + n * 2 ≤ 1099511627776) (h : WrL w A (marksW k n)) :
    Calls Try.prog 96 #[.slice A n c, .int .i64 k] w fun e w' => e = .returned (.int .i64 ((k + n * 2 : Nat) : Int)) ∧ Below w.heap.size w w' := by
  have H := Lib.hid h
  clear h
  go_enter Try.func96, Try.ntmps96
  go_wp2
  go_loopw [5, 1] (fun i kk wr => ∃ j : Nat, j ≤ n ∧ i = .int .i64 j ∧ kk = .int .i64 ((k + j * 2 : Nat) : Int) ∧ Below w.heap.size w wr) (fun i _ _ => n - (intOf i).toNat)
  case atStart => exact ⟨0, Nat.zero_le _, rfl, rfl, Below.refl _ _⟩
  case round =>
    obtain ⟨j, hj, rfl, rfl, hbw⟩ := hrel
    by_cases hlt : j < n
    · obtain ⟨b, off, rfl, hc, hd⟩ := (H.out.below hbw) j (by rw [marksW_len]; exact hlt)
      rw [marksW_at k n j hlt] at hc hd
      simp only at hc hd
      have hi' : (j : Int) < (n : Int) := by omega
      have hi0 : (0 : Int) ≤ (j : Int) := by omega
      have HT := Lib.hid (markText (k + j * 2 + 1))
      have HK := Lib.hid (fun W (hb : Below wr.heap.size wr W) => (hb.cell (cell_lt hd)).trans hd)
      have h6 : Below wr.heap.size wr wr.drew := (Below.refl _ _).drew
      generalize mkText (k + j * 2 + 1) = t at hd HT HK
      have hq : (t.toList == t.toList) = true := by simp
      generalize hz : k + j * 2 = z at hc HT
      have HZ := Lib.hid hz
      have hz1 : z ≤ 1099511627776 := by omega
      have hz2 : 1 ≤ z + 1 := by omega
      have hz3 : z + 1 ≤ 1099511627776 := by omega
      have hqz : ((z : Int) != (z : Int)) = false := by simp
      have e1 : ((z + 1 : Nat) : Int) = (z : Int) + 1 := by omega
      rw [e1] at HT
      clear hz e1
      go_wp2
      go_region_held3 (fun W => W.cell? ⟨b, off + j * 2 + 1, none⟩ = some (.string t))
        (first | exact HK.out _ h6 | exact HK.out _ (bt h6 hb1))
        (first | (go_at_call 111; refine (HT.out _ hz2 hz3).mono ?_; rintro e w1 ⟨rfl, hb1⟩))
      go_wp2
      go_roundw
      case rel => exact ⟨j + 1, by omega, by go_num, by have := HZ.out; congr 1; omega, bt hbw (bt h6 hb1)⟩
      case measure => simp [intOf]; omega
    · go_wp2
      go_ret
      have ej : j = n := by omega
      subst ej
      exact ⟨rfl, hbw⟩

/-- What the marks of a disk leave. -/
def MarkedDisk (lo hi : Nat) (A C : Option Addr) (k n m : Nat) (w : World) (e : Ending) (w' : World) : Prop :=
  e = .returned (.int .i64 ((k + n + m * 2 : Nat) : Int)) ∧ Hid (OwnS w' lo hi A (marksS k n)) ∧ Hid (OwnW w' lo hi C (marksW (k + n) m)) ∧ Btw lo hi w w'


theorem OwnS.wide {w : World} {lo hi lo' hi' : Nat} {A : Option Addr} {ss : List ByteArray} (h : OwnS w lo hi A ss) (h1 : lo' ≤ lo) (h2 : hi ≤ hi') : OwnS w lo' hi' A ss := by
  rcases h with e | ⟨b, m, f, e, q1, q2, q3, q4, q5⟩
  · exact .inl e
  · exact .inr ⟨b, m, f, e, by omega, by omega, q3, q4, q5⟩
theorem OwnW.wide {w : World} {lo hi lo' hi' : Nat} {A : Option Addr} {ws : List (Int × ByteArray)} (h : OwnW w lo hi A ws) (h1 : lo' ≤ lo) (h2 : hi ≤ hi') : OwnW w lo' hi' A ws := by
  rcases h with e | ⟨b, m, f, e, q1, q2, q3, q4, q5⟩
  · exact .inl e
  · exact .inr ⟨b, m, f, e, by omega, by omega, q3, q4, q5⟩
/-- The one block that a slice of strings has; rows of another type lie elsewhere. -/
theorem OwnS.narrow {w : World} {lo hi : Nat} {A : Option Addr} {ss : List ByteArray} (h : OwnS w lo hi A ss) : ∃ l r, lo ≤ l ∧ r ≤ hi ∧ OwnS w l r A ss ∧ ∀ b n f, w.rowIs b 90 n f → b < l ∨ r ≤ b := by
  rcases h with e | ⟨b, m, f, e, q1, q2, q3, q4, q5⟩
  · exact ⟨lo, 0, Nat.le_refl _, Nat.zero_le _, .inl e, fun _ _ _ _ => .inr (Nat.zero_le _)⟩
  · refine ⟨b, b + 1, q1, by omega, .inr ⟨b, m, f, e, Nat.le_refl _, by omega, q3, q4, q5⟩, fun b' n' f' h' => ?_⟩
    have := row_ne q4 h' (by decide)
    omega
theorem OwnW.narrow {w : World} {lo hi : Nat} {A : Option Addr} {ws : List (Int × ByteArray)} (h : OwnW w lo hi A ws) : ∃ l r, lo ≤ l ∧ r ≤ hi ∧ OwnW w l r A ws ∧ ∀ b n f, w.rowIs b 9 n f → b < l ∨ r ≤ b := by
  rcases h with e | ⟨b, m, f, e, q1, q2, q3, q4, q5⟩
  · exact ⟨lo, 0, Nat.le_refl _, Nat.zero_le _, .inl e, fun _ _ _ _ => .inr (Nat.zero_le _)⟩
  · refine ⟨b, b + 1, q1, by omega, .inr ⟨b, m, f, e, Nat.le_refl _, by omega, q3, q4, q5⟩, fun b' n' f' h' => ?_⟩
    have := row_ne q4 h' (by decide)
    omega
theorem OwnS.apart {w w' : World} {lo hi l r : Nat} {A : Option Addr} {ss : List ByteArray} (h : OwnS w lo hi A ss) (hb : Btw l r w w') (ha : ∀ b n f, w.rowIs b 9 n f → b < l ∨ r ≤ b) : OwnS w' lo hi A ss := by
  rcases h with e | ⟨b, m, f, e, q1, q2, q3, q4, q5⟩
  · exact .inl e
  · exact .inr ⟨b, m, f, e, q1, q2, q3, hb.row q4 (ha b m f q4), q5⟩
theorem OwnW.apart {w w' : World} {lo hi l r : Nat} {A : Option Addr} {ws : List (Int × ByteArray)} (h : OwnW w lo hi A ws) (hb : Btw l r w w') (ha : ∀ b n f, w.rowIs b 90 n f → b < l ∨ r ≤ b) : OwnW w' lo hi A ws := by
  rcases h with e | ⟨b, m, f, e, q1, q2, q3, q4, q5⟩
  · exact .inl e
  · exact .inr ⟨b, m, f, e, q1, q2, q3, hb.row q4 (ha b m f q4), q5⟩

set_option maxRecDepth 100000 in
set_option maxHeartbeats 2000000 in
theorem markDisk (A C : Option Addr) (n c m d lo hi : Nat) (ss : List ByteArray) (ws : List (Int × ByteArray)) (w : World) (hl : ss.length = n) (hm : ws.length = m) (hn : n ≤ 4294967296) (hmm : m ≤ 4294967296) (h : OwnS w lo hi A ss) (g : OwnW w lo hi C ws) (hhi : hi ≤ w.heap.size) :
    Calls Try.prog 39 #[.agg #[.slice A n c, .slice C m d], .int .i64 1] w (MarkedDisk lo hi A C 1 n m w) := by
  have hb0 : Below w.heap.size w (w.alloc (.cells #[.slice A n c, .slice C m d] 26)) := (Below.refl _ _).alloc (Nat.le_refl _) _
  obtain ⟨l, r, q1, q2, h', q3⟩ := (h.below hb0).narrow
  have HC := Lib.hid (markStringS A n c 1 l r ss _ hl (by omega) (by omega) (by omega) h')
  have HD := Lib.hid (fun l r W (hw : OwnW W l r C ws) => markWriteS C m d (1 + n) l r ws W hm (by omega) (by omega) (by omega) hw)
  have X := Lib.hid (Box.new w 26 #[.slice A n c, .slice C m d])
  have G := Lib.hid (g.below hb0)
  have HT := Lib.hid (Btw.of_below hb0 lo hi)
  have HQ := Lib.hid q3
  clear hl hm h g hb0 h' q3
  go_enter Try.func39, Try.ntmps39
  go_wp2_with fail
  refine HC.out.mono ?_
  rintro e w1 ⟨rfl, HS1, hb1⟩
  have X1 := X.out.btw hb1 (by omega)
  have f1 : w1.cell? ⟨w.heap.size, 1, none⟩ = some (.slice C m d) := X1.cell 1 rfl
  have HG1 := Lib.hid (G.out.apart hb1 HQ.out)
  obtain ⟨l2, r2, p1, p2, g', p3⟩ := HG1.out.narrow
  have HB1 := Lib.hid (HT.out.trans (hb1.wide q1 q2))
  have HD2 := Lib.hid (HD.out l2 r2 w1 g')
  have HS2 := Lib.hid (HS1.out.wide q1 q2)
  have HP := Lib.hid p3
  rw [show ((1 + n : Nat) : Int) = 1 + (n : Int) from by omega] at HD2
  clear X1 HG1 g' p3 hb1 HS1 HC HD X G HT HQ
  go_wp2_with fail
  refine HD2.out.mono ?_
  rintro e w2 ⟨rfl, HW2, hb2⟩
  have HF := Lib.hid (HB1.out.trans (hb2.wide p1 p2))
  have HS3 := Lib.hid (HS2.out.apart hb2 HP.out)
  have HW3 := Lib.hid (HW2.out.wide p1 p2)
  clear hb2 HS2 HW2 HB1 HD2 HP f1
  go_wp2
  go_ret
  exact ⟨rfl, HS3, HW3, HF.out⟩

set_option maxRecDepth 100000 in
set_option maxHeartbeats 2000000 in
theorem heldDisk (A C : Option Addr) (n c m d : Nat) (w : World) (hn : n ≤ 4294967296) (hmm : m ≤ 4294967296) (h : StrL w A (marksS 1 n)) (g : WrL w C (marksW (1 + n) m)) :
    Calls Try.prog 41 #[.agg #[.slice A n c, .slice C m d], .int .i64 1] w fun e w' => e = .returned (.int .i64 ((1 + n + m * 2 : Nat) : Int)) ∧ Below w.heap.size w w' := by
  have hb0 : Below w.heap.size w (w.alloc (.cells #[.slice A n c, .slice C m d] 26)) := (Below.refl _ _).alloc (Nat.le_refl _) _
  have HC := Lib.hid (heldStringS A n c 1 _ (by omega) (by omega) (h.below hb0))
  have HD := Lib.hid (fun W (hb : Below w.heap.size w W) => heldWriteS C m d (1 + n) W (by omega) (by omega) (g.below hb))
  have X := Lib.hid (Box.new w 26 #[.slice A n c, .slice C m d])
  clear h g
  go_enter Try.func41, Try.ntmps41
  go_wp2_with fail
  refine HC.out.mono ?_
  rintro e w1 ⟨rfl, hb1⟩
  have f1 : w1.cell? ⟨w.heap.size, 1, none⟩ = some (.slice C m d) := (X.out.step hb1).cell 1 rfl
  have hb2 := bt hb0 hb1
  have hp : ¬ (1 : Int) + (n : Int) < 0 := by omega
  have HD2 := Lib.hid (HD.out w1 hb2)
  rw [show ((1 + n : Nat) : Int) = 1 + (n : Int) from by omega] at HD2
  clear HC HD X hb1 hb0
  go_wp2_with fail
  refine HD2.out.mono ?_
  rintro e w2 ⟨rfl, hb3⟩
  have hp2 : ¬ (1 : Int) + (n : Int) + (m : Int) * 2 < 0 := by omega
  go_wp2
  go_ret
  exact ⟨rfl, bt hb2 hb3⟩
end Go.Proofs.Ytoogaaoknpfkoaa
