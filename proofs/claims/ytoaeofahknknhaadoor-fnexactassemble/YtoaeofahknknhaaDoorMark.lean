/- Contracts of the marks: markText, markStringS, heldStringS, markWriteS, heldWriteS, markDisk, heldDisk. -/
import Derived.Test.YtoaeofahknknhaaDoorEqDisk
import Derived.Test.YtoaeofahknknhaaDoorOwn
import Derived.Test.YtoaeofahknknhaaDoorToDisk
import Derived.Deep.RegionHeld3
import Derived.Laws.IdiomStrings
namespace Go.Proofs.YtoaeofahknknhaaDoor
open Go.RowKit

def mkDig (j : Nat) : ByteArray := ⟨#[UInt8.ofNat (48 + j % 10)]⟩
def mkGo : Nat → Nat → ByteArray → ByteArray
  | 0, _, o => o
  | f + 1, j, o => if j = 0 then o else mkGo f (j / 10) (mkDig j ++ o)
/-- The text of a mark. -/
def mkText (k : Nat) : ByteArray := ⟨#[109]⟩ ++ mkGo k k ByteArray.empty
theorem mkGo_zero (f : Nat) (o : ByteArray) : mkGo f 0 o = o := by cases f <;> simp [mkGo]
theorem mkGo_step (f j : Nat) (o : ByteArray) (h : 0 < j) (hf : j ≤ f) : ∃ f', j / 10 ≤ f' ∧ mkGo f j o = mkGo f' (j / 10) (mkDig j ++ o) := by
  obtain ⟨f', rfl⟩ : ∃ f', f = f' + 1 := ⟨f - 1, by omega⟩
  exact ⟨f', by omega, by rw [mkGo, if_neg (by omega)]⟩

set_option maxRecDepth 100000 in
theorem byte_string (V : World) (j : Nat) : (convert 22 9 (.slice (some ⟨V.heap.size, 0, none⟩) 1 1)).run Tryd.prog (V.alloc (.cells #[.int .u8 (48 + (j : Int) % 10)] 5)) = .ok (.string (mkDig j)) (V.alloc (.cells #[.int .u8 (48 + (j : Int) % 10)] 5)) := by
  have h : (UInt8.ofNat (48 + j % 10)).toNat = 48 + j % 10 := by
    rw [UInt8.toNat_ofNat']; omega
  exact run_convert_bytes_back (P := Tryd.prog) (V.alloc (.cells #[.int .u8 (48 + (j : Int) % 10)] 5)) 22 9 5 ⟨V.heap.size, 0, none⟩ 1 [UInt8.ofNat (48 + j % 10)] Tryd.underlying22 Tryd.underlying5 Tryd.underlying9 (fun i hi => by
    have hi' : i = 0 := by simpa using hi
    subst hi'
    simp only [List.getElem_cons_zero]
    rw [h]
    simp [Addr.add])

set_option maxRecDepth 100000 in
set_option maxHeartbeats 1000000 in
theorem markText (k : Nat) (w : World) (hk : 1 ≤ k) (hk2 : k ≤ 1099511627776) :
    Calls Tryd.prog 70 #[.int .i64 k] w fun e w' => e = .returned (.string (mkText k)) ∧ Below w.heap.size w w' := by
  have h0 : ¬ (k : Int) ≤ 0 := by omega
  have hcv := byte_string
  go_enter Tryd.func70, Tryd.ntmps70
  go_wp2
  go_loopw [0, 3] (fun a s wr => ∃ (j : Nat) (o : ByteArray), a = .int .i64 j ∧ s = .string o ∧ j + o.size ≤ k ∧ Hid (∃ f, j ≤ f ∧ mkGo k k ByteArray.empty = mkGo f j o) ∧ Below w.heap.size w wr) (fun a _ _ => (intOf a).toNat)
  case atStart => exact ⟨k, ByteArray.empty, rfl, rfl, by simp, Lib.hid ⟨k, Nat.le_refl _, rfl⟩, Below.refl _ _⟩
  case round =>
    obtain ⟨j, o, rfl, rfl, hj, HG, hbw⟩ := hrel
    by_cases hp : 0 < j
    · have hp' : (0 : Int) < (j : Int) := by omega
      have hd1 : (mkDig j).size ≤ 1 := Nat.le_refl _
      have hnl : ¬ 9223372036854775807 < (mkDig j).size + o.size := by omega
      clear hd1
      go_wp2
      go_roundw
      case rel =>
        refine ⟨j / 10, mkDig j ++ o, by go_num, rfl, ?_, ?_, (hbw.alloc hbw.size _)⟩
        · have : (mkDig j).size = 1 := rfl
          rw [ByteArray.size_append, this]; omega
        · obtain ⟨f, hf, e⟩ := HG.out
          obtain ⟨f', hf', e'⟩ := mkGo_step f j o hp hf
          exact Lib.hid ⟨f', hf', e.trans e'⟩
      case measure => simp [intOf]; omega
    · have hp' : ¬ (0 : Int) < (j : Int) := by omega
      go_wp2
      go_ret
      refine ⟨?_, hbw⟩
      obtain ⟨f, hf, e⟩ := HG.out
      have hj0 : j = 0 := by omega
      subst hj0
      rw [mkGo_zero] at e
      unfold mkText
      rw [e]
      rfl

def marksS (k n : Nat) : List ByteArray := (List.range n).map fun i => mkText (k + i)
def marksW (k n : Nat) : List (Int × ByteArray) := (List.range n).map fun i => (((k + i * 2 : Nat) : Int), mkText (k + i * 2 + 1))
theorem marksS_len (k n : Nat) : (marksS k n).length = n := by simp [marksS]
theorem marksW_len (k n : Nat) : (marksW k n).length = n := by simp [marksW]
theorem marksS_at (k n i : Nat) (h : i < n) : (marksS k n).getD i ByteArray.empty = mkText (k + i) := by simp [marksS, List.getD_eq_getElem?_getD, h]
theorem marksW_at (k n i : Nat) (h : i < n) : (marksW k n).getD i (0, ByteArray.empty) = (((k + i * 2 : Nat) : Int), mkText (k + i * 2 + 1)) := by simp [marksW, List.getD_eq_getElem?_getD, h]

/-- What the marks of a slice of strings leave. -/
def MarkedS (lo hi : Nat) (A : Option Addr) (k n : Nat) (w : World) (e : Ending) (w' : World) : Prop :=
  e = .returned (.int .i64 ((k + n : Nat) : Int)) ∧ Hid (OwnS w' lo hi A (marksS k n)) ∧ Btw lo hi w w'
set_option maxRecDepth 100000 in
set_option maxHeartbeats 2000000 in
theorem markStringS (A : Option Addr) (n c k lo hi : Nat) (ss : List ByteArray) (w : World) (hl : ss.length = n) (hk : 1 ≤ k) (hn : n ≤ 1099511627776) (hk2 : k + n ≤ 1099511627776) (h : OwnS w lo hi A ss) :
    Calls Tryd.prog 42 #[.slice A n c, .int .i64 k] w (MarkedS lo hi A k n w) := by
  rcases h with rfl | ⟨b, m, f, rfl, h1, h2, hm, hr, hf⟩
  · obtain rfl : n = 0 := hl.symm
    go_enter Tryd.func42, Tryd.ntmps42
    go_wp2
    go_loop [5, 1] (fun i kk => i = .int .i64 0 ∧ kk = .int .i64 k) (fun _ _ => 0)
    case atStart => exact ⟨rfl, rfl⟩
    case round =>
      obtain ⟨rfl, rfl⟩ := hrel
      go_wp2
      go_ret
      exact ⟨rfl, Lib.hid (.inl rfl), Btw.refl _ _ _⟩
  · have HM : Hid (n ≤ m) := Lib.hid (by omega)
    have HR := Lib.hid hr
    clear hl hm hr hf
    go_enter Tryd.func42, Tryd.ntmps42
    go_wp2
    go_loopw [5, 1] (fun i kk wr => ∃ j : Nat, j ≤ n ∧ i = .int .i64 j ∧ kk = .int .i64 ((k + j : Nat) : Int) ∧ Btw lo hi w wr ∧ Hid (wr.rowIs b 9 m (fun x => if x < j then .string (mkText (k + x)) else f x))) (fun i _ _ => n - (intOf i).toNat)
    case atStart => exact ⟨0, Nat.zero_le _, rfl, rfl, Btw.refl _ _ _, Lib.hid (HR.out.congr (fun i _ => by simp))⟩
    case round =>
      obtain ⟨j, hj, rfl, rfl, hbw, HW⟩ := hrel
      by_cases hlt : j < n
      · have hi' : (j : Int) < (n : Int) := by omega
        go_wp2_with fail
        refine (markText (k + j) wr (by omega) (by omega)).mono ?_
        rintro e w1 ⟨rfl, hb1⟩
        have R1 := row_below hb1 HW.out HW.out.lt
        have hc := R1.cell (i := j) (by have := HM.out; omega)
        simp only [Nat.lt_irrefl, if_false] at hc
        have hfz := R1.frozen j
        have HS := Lib.hid (R1.set j (.string (mkText (k + j))))
        have HBt := Lib.hid (hbw.trans (Btw.of_below hb1 lo hi))
        clear R1 HW hbw hb1
        generalize f j = y at hc
        go_wp2
        go_roundw
        case rel =>
          refine ⟨j + 1, by omega, by go_num, by go_num, HBt.out.setCell h1 h2 _, Lib.hid (HS.out.congr (fun x _ => ?_))⟩
          show (if x = j then Value.string (mkText (k + j)) else if x < j then _ else _) = _
          by_cases e : x = j
          · subst e; rw [if_pos rfl, if_pos (by omega)]
          · rw [if_neg e]
            by_cases e2 : x < j
            · rw [if_pos e2, if_pos (by omega)]
            · rw [if_neg e2, if_neg (by omega)]
        case measure => simp [intOf]; omega
      · go_wp2
        go_ret
        have ej : j = n := by omega
        subst ej
        exact ⟨rfl, Lib.hid (.inr ⟨b, m, _, rfl, h1, h2, by rw [marksS_len]; exact HM.out, HW.out, fun i hi' => by rw [marksS_len] at hi'; rw [if_pos hi', marksS_at k j i hi']⟩), hbw⟩

def markCell (k x : Nat) : Value := if x % 2 = 0 then .int .i64 ((k + x : Nat) : Int) else .string (mkText (k + x))

theorem OwnS.wide {w : World} {lo hi lo' hi' : Nat} {A : Option Addr} {ss : List ByteArray} (h : OwnS w lo hi A ss) (h1 : lo' ≤ lo) (h2 : hi ≤ hi') : OwnS w lo' hi' A ss := by
  rcases h with e | ⟨b, m, f, e, q1, q2, q3, q4, q5⟩
  · exact .inl e
  · exact .inr ⟨b, m, f, e, by omega, by omega, q3, q4, q5⟩
theorem OwnS.apart {w w' : World} {lo hi l r : Nat} {A : Option Addr} {ss : List ByteArray} (h : OwnS w lo hi A ss) (hb : Btw l r w w') (ha : ∀ b n f, w.rowIs b 9 n f → b < l ∨ r ≤ b) : OwnS w' lo hi A ss := by
  rcases h with e | ⟨b, m, f, e, q1, q2, q3, q4, q5⟩
  · exact .inl e
  · exact .inr ⟨b, m, f, e, q1, q2, q3, hb.row q4 (ha b m f q4), q5⟩
end Go.Proofs.YtoaeofahknknhaaDoor
