/- Contracts of digitValue, digitReader and its function: digits of an alphabet read as a number. -/
import Derived.Test.YthobepmlopegbaaHex
import Derived.Laws.RangeAny
import Derived.Lib.OthersKept
namespace Go.Proofs.Ythobepmlopegbaa
open Go.RowKit

/-- The place of a character among the digits. -/
def digI (ds : List UInt8) (c : Int) : Option Nat := ds.findIdx? (fun b => decide ((b.toNat : Int) = c))
def dvV : Option Nat → Int
  | some v => (v : Int)
  | none => 0
theorem digI_nil (c : Int) : digI [] c = none := rfl
theorem digI_hit (b : UInt8) (l : List UInt8) (c : Int) (h : (b.toNat : Int) = c) : digI (b :: l) c = some 0 := by
  unfold digI; rw [List.findIdx?_cons]; simp [h]
theorem digI_miss (b : UInt8) (l : List UInt8) (c : Int) (h : (b.toNat : Int) ≠ c) : digI (b :: l) c = (digI l c).map (· + 1) := by
  unfold digI; rw [List.findIdx?_cons]; simp [h]
theorem digI_lt {ds : List UInt8} {c : Int} {v : Nat} (h : digI ds c = some v) : v < ds.length := by
  unfold digI at h
  obtain ⟨h1, _⟩ := List.findIdx?_eq_some_iff_getElem.1 h
  exact h1
theorem digI_high {ds : List UInt8} (ha : ∀ b ∈ ds, b.toNat < 128) {c : Int} (hc : 128 ≤ c) : digI ds c = none := by
  unfold digI
  rw [List.findIdx?_eq_none_iff]
  intro b hb
  have := ha b hb
  simp
  omega
theorem drop_byte (s : ByteArray) (k : Nat) (h : k < s.size) : s.data.toList.drop k = s[k] :: s.data.toList.drop (k + 1) := by
  have h' : k < s.data.toList.length := by simpa using h
  rw [List.drop_eq_getElem_cons h']
  rfl

theorem iter_below (w : World) (s : ByteArray) (pos : Nat) : Below w.heap.size w (w.iter s pos) := (Below.refl _ _).alloc (Nat.le_refl _) _

set_option maxRecDepth 100000 in
set_option maxHeartbeats 1000000 in
theorem digitValue (ds : ByteArray) (c : Int) (w : World) (ha : ∀ b ∈ ds.data.toList, b.toNat < 128) (hs : ds.size ≤ 16) :
    Calls Try.prog 78 #[.string ds, .int .i32 c] w fun e w' => e = .returned (.tuple #[.int .i64 (dvV (digI ds.data.toList c)), .bool (digI ds.data.toList c).isSome]) ∧ Below w.heap.size w w' := by
  have HA := Lib.hid ha
  have HS := Lib.hid hs
  clear ha hs
  generalize hr : digI ds.data.toList c = r
  have HR := Lib.hid hr
  clear hr
  go_enter Try.func78, Try.ntmps78
  go_wp2
  go_loopw [6] (fun _ wr => ∃ pos, pos ≤ ds.size ∧ wr = w.iter ds pos ∧ Hid (r = (digI (ds.data.toList.drop pos) c).map (· + pos))) (fun _ wr => ds.size - wr.iterPos w.heap.size)
  case atStart => exact ⟨0, Nat.zero_le _, rfl, Lib.hid (by rw [← HR.out]; simp)⟩
  case round =>
    obtain ⟨pos, hle, rfl, HT⟩ := hrel
    by_cases hp : pos < ds.size
    · have hb : (ds[pos]'hp).toNat < 128 := HA.out _ (by
        have := drop_byte ds pos hp
        exact List.mem_of_mem_drop (i := pos) (by rw [this]; simp))
      have hnx : ∀ ty, (Instr.next (.pointer (some ⟨w.heap.size, 0, none⟩)) true ty).run Try.prog (w.iter ds pos) = _ := fun ty => run_next_ascii w ds pos ty hp hb
      have HD := Lib.hid (drop_byte ds pos hp)
      generalize ds[pos]'hp = b at hb hnx HD
      by_cases hE : (b.toNat : Int) = c
      · have hq : ((b.toNat : Int) == c) = true := by simp [hE]
        have HF : Hid (r = some pos) := Lib.hid (by rw [HT.out, HD.out, digI_hit _ _ _ hE]; simp)
        clear hE
        go_wp2
        refine bodyPost_ret (v := .tuple #[.int .i64 (pos : Int), .bool true]) (by simp [results, Try.results78, go_sem]) rfl ?_
        exact ⟨by rw [HF.out]; rfl, iter_below _ _ _⟩
      · have hq : ((b.toNat : Int) == c) = false := by simp [hE]
        have HF : Hid (r = (digI (ds.data.toList.drop (pos + 1)) c).map (· + (pos + 1))) := Lib.hid (by
          rw [HT.out, HD.out, digI_miss _ _ _ hE, Option.map_map]
          congr 1
          funext x
          show x + 1 + pos = x + (pos + 1)
          omega)
        clear hE
        go_wp2
        go_roundw
        case rel => exact ⟨pos + 1, by omega, rfl, HF⟩
        case measure => simp; omega
    · have hnx : ∀ ty, (Instr.next (.pointer (some ⟨w.heap.size, 0, none⟩)) true ty).run Try.prog (w.iter ds pos) = _ := fun ty => run_next_end w ds pos ty hp
      have HF : Hid (r = none) := Lib.hid (by
        rw [HT.out, List.drop_eq_nil_of_le (by simp; have : ds.data.size = ds.size := rfl; omega), digI_nil]; rfl)
      go_wp2
      refine bodyPost_ret (v := .tuple #[.int .i64 0, .bool false]) (by simp [results, Try.results78, go_sem]) rfl ?_
      exact ⟨by rw [HF.out]; rfl, iter_below _ _ _⟩

/-- A number read digit by digit, behind acc. -/
def readNum (ds : List UInt8) : Nat → List UInt8 → Option Nat
  | acc, [] => some acc
  | acc, b :: l => match digI ds (b.toNat : Int) with
    | none => none
    | some v => readNum ds (acc * ds.length + v) l

set_option maxRecDepth 100000 in
set_option maxHeartbeats 1000000 in
theorem digitRead (t ds : ByteArray) (wd pw pd : Nat) (w : World) (ha : ∀ b ∈ ds.data.toList, b.toNat < 128) (hs : ds.size ≤ 16) (h1 : wd ≤ 2)
    (f1 : w.cell? ⟨pw, 0, none⟩ = some (.int .i64 (wd : Int))) (f2 : w.cell? ⟨pd, 0, none⟩ = some (.string ds)) :
    Calls Try.prog 77 #[.string t, .pointer (some ⟨pw, 0, none⟩), .pointer (some ⟨pd, 0, none⟩)] w fun e w' =>
      e = .returned (.tuple #[.int .i64 (dvV (if t.size = wd then readNum ds.data.toList 0 t.data.toList else none)), .bool (if t.size = wd then readNum ds.data.toList 0 t.data.toList else none).isSome]) ∧ Below w.heap.size w w' := by
  have HA := Lib.hid ha
  have HS := Lib.hid hs
  have HV := Lib.hid (fun c W => digitValue ds c W ha hs)
  have hl : ds.data.toList.length = ds.size := by simp
  generalize hr : (if t.size = wd then readNum ds.data.toList 0 t.data.toList else none) = r
  have HR := Lib.hid hr
  have HF := Lib.hid (And.intro f1 f2)
  have HLn := Lib.hid hl
  clear ha hr hl
  by_cases hw : t.size = wd
  · have hq : ((t.size : Int) != (wd : Int)) = false := by simp; omega
    have HW := Lib.hid hw
    clear hw
    go_enter Try.func77, Try.ntmps77
    go_wp2
    go_loopw [6] (fun n wr => ∃ pos acc : Nat, pos ≤ t.size ∧ n = .int .i64 (acc : Int) ∧ Hid (wr.heap[w.heap.size]? = some (.stringIter t pos)) ∧ Hid (acc < 16 ^ pos) ∧ Hid (r = readNum ds.data.toList acc (t.data.toList.drop pos)) ∧ Below w.heap.size w wr) (fun _ wr => t.size - wr.iterPos w.heap.size)
    case atStart => exact ⟨0, 0, Nat.zero_le _, rfl, Lib.hid (World.iter_heap _ _ _), Lib.hid (by omega), Lib.hid (by rw [← HR.out, if_pos HW.out]; rfl), iter_below _ _ _⟩
    case round =>
      clear f1 f2
      obtain ⟨pos, acc, hle, rfl, HK, HB, HT, hbw⟩ := hrel
      have f1 := (hbw.cell (cell_lt HF.out.1)).trans HF.out.1
      have f2 := (hbw.cell (cell_lt HF.out.2)).trans HF.out.2
      have HKo := HK
      by_cases hp : pos < t.size
      · have hp2 : pos < 2 := by have := HW.out; omega
        have ha16 : acc < 16 := by
          have := HB.out
          have : 16 ^ pos ≤ 16 ^ 1 := Nat.pow_le_pow_right (by omega) (by omega)
          omega
        have hmul : acc * ds.size ≤ 15 * 16 := Nat.mul_le_mul (by omega) HS.out
        obtain ⟨w2, hw2⟩ : ∃ w2, w2 = wr.iterAt w.heap.size t (pos + (Utf8.decode t pos).2) := ⟨_, rfl⟩
        have hnx : ∀ ty, (Instr.next (.pointer (some ⟨w.heap.size, 0, none⟩)) true ty).run Try.prog wr = _ := fun ty => Lib.run_next_any_at wr w.heap.size t pos ty HK.out hp
        rw [← hw2] at hnx
        have hb2 : Below w.heap.size w w2 := by rw [hw2]; exact Lib.below_iterAt hbw (Nat.le_refl _) _ _
        have HK2 : Hid (w2.heap[w.heap.size]? = some (.stringIter t (pos + (Utf8.decode t pos).2))) := Lib.hid (by rw [hw2]; exact Lib.iterAt_heap _ _ _ _ _ HK.out)
        have f3 := (hb2.cell (cell_lt HF.out.1)).trans HF.out.1
        have f4 := (hb2.cell (cell_lt HF.out.2)).trans HF.out.2
        have HDr := Lib.hid (drop_byte t pos hp)
        have HAs := Lib.hid (fun h => decode_ascii t pos hp h)
        have HHi := Lib.hid (fun h => (decode_high t pos hp h).1)
        generalize t[pos]'hp = b at HDr HAs HHi
        clear hw2 hbw f1 f2
        by_cases hb : b.toNat < 128
        · have e := HAs.out hb
          rw [e] at hnx HK2
          have HN : Hid (readNum ds.data.toList acc (t.data.toList.drop pos) = match digI ds.data.toList (b.toNat : Int) with | none => none | some v => readNum ds.data.toList (acc * ds.data.toList.length + v) (t.data.toList.drop (pos + 1))) := Lib.hid (by rw [HDr.out]; rfl)
          clear e HAs HHi HDr HK
          go_wp2_with fail
          refine (HV.out _ _).mono ?_
          rintro e w3 ⟨rfl, hb3⟩
          have f5 := (hb3.cell (cell_lt f4)).trans f4
          have hb4 := hb2.trans (hb3.mono hb2.size)
          have HK3 : Hid (w3.heap[w.heap.size]? = some (.stringIter t (pos + 1))) := Lib.hid ((hb3.block _ (by have := HK2.out; exact (Array.getElem?_eq_some_iff.1 this).1)).trans HK2.out)
          cases hv : digI ds.data.toList (b.toNat : Int) with
          | none =>
            have HF2 : Hid (r = none) := Lib.hid (by rw [HT.out, HN.out, hv])
            clear hv
            go_wp2
            refine bodyPost_ret (v := .tuple #[.int .i64 0, .bool false]) (by simp [results, Try.results77, go_sem]) rfl ?_
            exact ⟨by rw [HF2.out]; rfl, hb4⟩
          | some v =>
            have hvl : v < 16 := by have := digI_lt hv; have := HLn.out; have := HS.out; omega
            have HF2 : Hid (r = readNum ds.data.toList (acc * ds.size + v) (t.data.toList.drop (pos + 1))) := Lib.hid (by rw [HT.out, HN.out, hv]; simp only; rw [HLn.out])
            have HB2 : Hid (acc * ds.size + v < 16 ^ (pos + 1)) := Lib.hid (by
              rw [Nat.pow_succ]
              have h1 := HB.out
              have h2 : acc * ds.size ≤ acc * 16 := Nat.mul_le_mul (Nat.le_refl _) HS.out
              omega)
            have e1 : IntKind.i64.wrap ((acc : Int) * (ds.size : Int)) = (acc : Int) * (ds.size : Int) := IntWalk.i64_in _ (by
              have : ((acc * ds.size : Nat) : Int) = (acc : Int) * (ds.size : Int) := Int.natCast_mul _ _
              omega)
            have e2 : IntKind.i64.wrap ((acc : Int) * (ds.size : Int) + (v : Int)) = (acc : Int) * (ds.size : Int) + (v : Int) := IntWalk.i64_in _ (by
              have : ((acc * ds.size : Nat) : Int) = (acc : Int) * (ds.size : Int) := Int.natCast_mul _ _
              omega)
            clear hv hmul
            simp only [dvV, Option.isSome_some]
            go_wp2
            go_roundw
            case rel => exact ⟨pos + 1, acc * ds.size + v, by omega, by simp, HK3, HB2, HF2, hb4⟩
            case measure =>
              have h1 : wr.iterPos w.heap.size = pos := by unfold World.iterPos; rw [HKo.out]
              have h2 : w3.iterPos w.heap.size = pos + 1 := by unfold World.iterPos; rw [HK3.out]
              rw [h1, h2]; omega
        · have hge := HHi.out (by omega)
          have HF2 : Hid (r = none) := Lib.hid (by
            rw [HT.out, HDr.out]
            show (match digI ds.data.toList (b.toNat : Int) with | none => none | some v => _) = none
            rw [digI_high HA.out (by omega)])
          have HZ : Hid (digI ds.data.toList ((Utf8.decode t pos).1 : Int) = none) := Lib.hid (digI_high HA.out (by omega))
          generalize (Utf8.decode t pos).1 = dc at hnx HZ
          clear HAs HHi HDr HK
          go_wp2_with fail
          refine (HV.out _ _).mono ?_
          rintro e w3 ⟨rfl, hb3⟩
          rw [HZ.out]
          simp only [dvV, Option.isSome_none]
          have hb4 := hb2.trans (hb3.mono hb2.size)
          go_wp2
          refine bodyPost_ret (v := .tuple #[.int .i64 0, .bool false]) (by simp [results, Try.results77, go_sem]) rfl ?_
          exact ⟨by rw [HF2.out]; rfl, hb4⟩
      · have hnx : ∀ ty, (Instr.next (.pointer (some ⟨w.heap.size, 0, none⟩)) true ty).run Try.prog wr = _ := fun ty => Lib.run_next_end_at wr w.heap.size t pos ty HK.out hp
        have HF2 : Hid (r = some acc) := Lib.hid (by
          rw [HT.out, List.drop_eq_nil_of_le (by simp; have : t.data.size = t.size := rfl; omega)]; rfl)
        go_wp2
        refine bodyPost_ret (v := .tuple #[.int .i64 (acc : Int), .bool true]) (by simp [results, Try.results77, go_sem]) rfl ?_
        exact ⟨by rw [HF2.out]; rfl, hbw⟩
  · have hq : ((t.size : Int) != (wd : Int)) = true := by simp; omega
    have HF2 : Hid (r = none) := Lib.hid (by rw [← HR.out, if_neg hw])
    clear hw
    go_enter Try.func77, Try.ntmps77
    go_wp2
    refine bodyPost_ret (v := .tuple #[.int .i64 0, .bool false]) (by simp [results, Try.results77, go_sem]) rfl ?_
    exact ⟨by rw [HF2.out]; rfl, Below.refl _ _⟩
end Go.Proofs.Ythobepmlopegbaa
