/- Contracts of l04Nibble, l04Byte and both ByteHex: a byte out of two digits. -/
import Derived.Test.YthobepmlopegbaaHexRead
namespace Go.Proofs.Ythobepmlopegbaa
open Go.RowKit

def hexL : List UInt8 := [48, 49, 50, 51, 52, 53, 54, 55, 56, 57, 97, 98, 99, 100, 101, 102]
def hexB : ByteArray := ⟨#[48, 49, 50, 51, 52, 53, 54, 55, 56, 57, 97, 98, 99, 100, 101, 102]⟩
theorem hexB_list : hexB.data.toList = hexL := rfl
theorem hexL_low : ∀ b ∈ hexL, b.toNat < 128 := by decide
/-- The byte that a text of two digits says. -/
def byteOf (t : ByteArray) : Option Nat := if t.size = 2 then readNum hexL 0 t.data.toList else none
def nibI (b : Nat) : Int := match digI hexL (b : Int) with
  | some v => (v : Int)
  | none => -1
theorem nibI_tab : ∀ b, b < 256 → nibI b = if 48 ≤ b ∧ b ≤ 57 then (b : Int) - 48 else if 97 ≤ b ∧ b ≤ 102 then (b : Int) - 87 else -1 := by decide +kernel
theorem byteOf_two (t : ByteArray) (h : t.size = 2) : byteOf t = if nibI (t[0]'(by omega)).toNat < 0 ∨ nibI (t[1]'(by omega)).toNat < 0 then none else some ((16 : Int) * nibI (t[0]'(by omega)).toNat + nibI (t[1]'(by omega)).toNat).toNat := by
  unfold byteOf
  rw [if_pos h]
  have d0 : t.data.toList = (t[0]'(by omega)) :: (t[1]'(by omega)) :: [] := by
    have a := drop_byte t 0 (by omega)
    have b := drop_byte t 1 (by omega)
    have c : t.data.toList.drop 2 = [] := List.drop_eq_nil_of_le (by simp; have : t.data.size = t.size := rfl; omega)
    rw [List.drop_zero] at a
    rw [a, b, c]
  rw [d0]
  generalize t[0]'(by omega) = x
  generalize t[1]'(by omega) = y
  unfold nibI
  show (match digI hexL (x.toNat : Int) with | none => none | some v => readNum hexL (0 * hexL.length + v) [y]) = _
  cases hx : digI hexL (x.toNat : Int) with
  | none => simp
  | some v =>
    show (match digI hexL (y.toNat : Int) with | none => none | some u => readNum hexL ((0 * hexL.length + v) * hexL.length + u) []) = _
    cases hy : digI hexL (y.toNat : Int) with
    | none => simp
    | some u =>
      show some ((0 * 16 + v) * 16 + u) = if (v : Int) < 0 ∨ (u : Int) < 0 then none else some ((16 : Int) * (v : Int) + (u : Int)).toNat
      rw [if_neg (by omega)]
      congr 1
      omega

set_option maxRecDepth 100000 in
theorem l04Nibble (b : Nat) (hb : b < 256) (w : World) : Calls Try.prog 79 #[.int .u8 (b : Int)] w fun e w' => e = .returned (.int .i64 (nibI b)) ∧ w = w' := by
  have HN := Lib.hid (nibI_tab b hb)
  generalize nibI b = r at HN
  by_cases h1 : 48 ≤ b
  · have q1 : (48 : Int) ≤ (b : Int) := by omega
    by_cases h2 : b ≤ 57
    · have q2 : (b : Int) ≤ 57 := by omega
      have HF : Hid (r = (b : Int) - 48) := Lib.hid (by rw [HN.out, if_pos ⟨h1, h2⟩])
      have e1 : IntKind.u8.wrap ((b : Int) - 48) = (b : Int) - 48 := IntWalk.u8_in _ (by omega)
      have e2 : IntKind.i64.wrap ((b : Int) - 48) = (b : Int) - 48 := IntWalk.i64_in _ (by omega)
      clear h1 h2
      go_enter Try.func79, Try.ntmps79
      go_wp2
      go_ret
      exact ⟨ret_int HF.out.symm, rfl⟩
    · have q2 : ¬ (b : Int) ≤ 57 := by omega
      by_cases h3 : 97 ≤ b
      · have q3 : (97 : Int) ≤ (b : Int) := by omega
        by_cases h4 : b ≤ 102
        · have q4 : (b : Int) ≤ 102 := by omega
          have HF : Hid (r = (b : Int) - 97 + 10) := Lib.hid (by rw [HN.out, if_neg (by omega), if_pos ⟨h3, h4⟩]; omega)
          have e1 : IntKind.u8.wrap ((b : Int) - 97) = (b : Int) - 97 := IntWalk.u8_in _ (by omega)
          have e2 : IntKind.i64.wrap ((b : Int) - 97) = (b : Int) - 97 := IntWalk.i64_in _ (by omega)
          have e3 : IntKind.i64.wrap ((b : Int) - 97 + 10) = (b : Int) - 97 + 10 := IntWalk.i64_in _ (by omega)
          clear h1 h2 h3 h4
          go_enter Try.func79, Try.ntmps79
          go_wp2
          go_ret
          exact ⟨ret_int HF.out.symm, rfl⟩
        · have q4 : ¬ (b : Int) ≤ 102 := by omega
          have HF : Hid (r = -1) := Lib.hid (by rw [HN.out, if_neg (by omega), if_neg (by omega)])
          clear h1 h2 h3 h4
          go_enter Try.func79, Try.ntmps79
          go_wp2
          go_ret
          exact ⟨ret_int HF.out.symm, rfl⟩
      · have q3 : ¬ (97 : Int) ≤ (b : Int) := by omega
        have HF : Hid (r = -1) := Lib.hid (by rw [HN.out, if_neg (by omega), if_neg (by omega)])
        clear h1 h2 h3
        go_enter Try.func79, Try.ntmps79
        go_wp2
        go_ret
        exact ⟨ret_int HF.out.symm, rfl⟩
  · have q1 : ¬ (48 : Int) ≤ (b : Int) := by omega
    have q3 : ¬ (97 : Int) ≤ (b : Int) := by omega
    have HF : Hid (r = -1) := Lib.hid (by rw [HN.out, if_neg (by omega), if_neg (by omega)])
    clear h1
    go_enter Try.func79, Try.ntmps79
    go_wp2
    go_ret
    exact ⟨ret_int HF.out.symm, rfl⟩

theorem nibI_le (b : UInt8) : -1 ≤ nibI b.toNat ∧ nibI b.toNat ≤ 15 := by
  rw [nibI_tab _ b.toNat_lt]
  split
  · omega
  · split <;> omega

set_option maxRecDepth 100000 in
set_option maxHeartbeats 1000000 in
theorem l04Byte (t : ByteArray) (w : World) : Calls Try.prog 65 #[.string t] w fun e w' => e = .returned (.tuple #[.int .i64 (dvV (byteOf t)), .bool (byteOf t).isSome]) ∧ w = w' := by
  by_cases h : t.size = 2
  · have hq : ((t.size : Int) != 2) = false := by simp; omega
    have HB := Lib.hid (byteOf_two t h)
    have i0 : ∀ W, (Instr.index 9 (.string t) (.int .i64 0)).run Try.prog W = .ok (.int .u8 ((t[0]'(by omega)).toNat : Int)) W := fun W => by
      rw [run_index_string W 9 _ .i64 0 Try.underlying9, dif_pos ⟨by omega, by omega⟩]; rfl
    have i1 : ∀ W, (Instr.index 9 (.string t) (.int .i64 1)).run Try.prog W = .ok (.int .u8 ((t[1]'(by omega)).toNat : Int)) W := fun W => by
      rw [run_index_string W 9 _ .i64 1 Try.underlying9, dif_pos ⟨by omega, by omega⟩]; rfl
    generalize t[0]'(by omega) = x at HB i0
    generalize t[1]'(by omega) = y at HB i1
    have HX := Lib.hid (fun W => l04Nibble x.toNat x.toNat_lt W)
    have HY := Lib.hid (fun W => l04Nibble y.toNat y.toNat_lt W)
    have bx := nibI_le x
    have by' := nibI_le y
    generalize nibI x.toNat = a at HB HX bx
    generalize nibI y.toNat = b at HB HY by'
    generalize byteOf t = r at HB
    clear h
    by_cases h1 : a < 0
    · have HF : Hid (r = none) := Lib.hid (by rw [HB.out, if_pos (.inl h1)])
      go_enter Try.func65, Try.ntmps65
      go_wp2_with fail
      refine (HX.out _).mono ?_
      rintro e w1 ⟨rfl, rfl⟩
      go_wp2_with fail
      refine (HY.out _).mono ?_
      rintro e w1 ⟨rfl, rfl⟩
      go_wp2
      refine bodyPost_ret (v := .tuple #[.int .i64 0, .bool false]) (by simp [results, Try.results65, go_sem]) rfl ?_
      exact ⟨by rw [HF.out]; rfl, rfl⟩
    · by_cases h2 : b < 0
      · have HF : Hid (r = none) := Lib.hid (by rw [HB.out, if_pos (.inr h2)])
        go_enter Try.func65, Try.ntmps65
        go_wp2_with fail
        refine (HX.out _).mono ?_
        rintro e w1 ⟨rfl, rfl⟩
        go_wp2_with fail
        refine (HY.out _).mono ?_
        rintro e w1 ⟨rfl, rfl⟩
        go_wp2
        refine bodyPost_ret (v := .tuple #[.int .i64 0, .bool false]) (by simp [results, Try.results65, go_sem]) rfl ?_
        exact ⟨by rw [HF.out]; rfl, rfl⟩
      · have HF : Hid (r = some ((16 : Int) * a + b).toNat) := Lib.hid (by rw [HB.out, if_neg (by omega)])
        go_enter Try.func65, Try.ntmps65
        go_wp2_with fail
        refine (HX.out _).mono ?_
        rintro e w1 ⟨rfl, rfl⟩
        go_wp2_with fail
        refine (HY.out _).mono ?_
        rintro e w1 ⟨rfl, rfl⟩
        go_wp2
        refine bodyPost_ret (v := .tuple #[.int .i64 (16 * a + b), .bool true]) (by simp [results, Try.results65, go_sem]) rfl ?_
        exact ⟨by rw [HF.out]; show _ = Ending.returned (.tuple #[.int .i64 (((16 * a + b).toNat : Nat) : Int), .bool true]); rw [show (((16 * a + b).toNat : Nat) : Int) = 16 * a + b by omega], rfl⟩
  · have hq : ((t.size : Int) != 2) = true := by simp; omega
    have HF : Hid (byteOf t = none) := Lib.hid (by unfold byteOf; rw [if_neg h])
    generalize byteOf t = r at HF
    clear h
    go_enter Try.func65, Try.ntmps65
    go_wp2
    refine bodyPost_ret (v := .tuple #[.int .i64 0, .bool false]) (by simp [results, Try.results65, go_sem]) rfl ?_
    exact ⟨by rw [HF.out]; rfl, rfl⟩

/-- What ByteHex answers. -/
def byteHex (t : ByteArray) : Int × Int := if 65536 < t.size then (0, 2) else match byteOf t with
  | some n => ((n : Int), 0)
  | none => (0, 3)

set_option maxRecDepth 100000 in
set_option maxHeartbeats 1000000 in
theorem specByteHex (t : ByteArray) (w : World) (ht : t.size ≤ maxLen) : Calls Try.prog 34 #[.string t] w fun e w' => e = .returned (.tuple #[.int .i64 (byteHex t).1, .int .i64 (byteHex t).2]) ∧ Below w.heap.size w w' := by
  unfold maxLen at ht
  have HX := Lib.hid (fun W => l04Byte t W)
  by_cases h : 65536 < t.size
  · have hq : (65536 : Int) < (t.size : Int) := by omega
    have HF : Hid (byteHex t = (0, 2)) := Lib.hid (by unfold byteHex; rw [if_pos h])
    generalize byteHex t = r at HF
    clear h
    go_enter Try.func34, Try.ntmps34
    go_wp2
    refine bodyPost_ret (v := .tuple #[.int .i64 0, .int .i64 2]) (by simp [results, Try.results34, go_sem]) rfl ?_
    exact ⟨by rw [HF.out], Below.refl _ _⟩
  · have hq : ¬ (65536 : Int) < (t.size : Int) := by omega
    have HF : Hid (byteHex t = match byteOf t with | some n => ((n : Int), 0) | none => (0, 3)) := Lib.hid (by unfold byteHex; rw [if_neg h])
    generalize byteHex t = r at HF
    generalize byteOf t = o at HF HX
    clear h
    cases o with
    | none =>
      go_enter Try.func34, Try.ntmps34
      go_wp2_with fail
      refine (HX.out _).mono ?_
      rintro e w' ⟨rfl, rfl⟩
      simp only [dvV, Option.isSome_none]
      go_wp2
      refine bodyPost_ret (v := .tuple #[.int .i64 0, .int .i64 3]) (by simp [results, Try.results34, go_sem]) rfl ?_
      exact ⟨by rw [HF.out], Below.refl _ _⟩
    | some n =>
      go_enter Try.func34, Try.ntmps34
      go_wp2_with fail
      refine (HX.out _).mono ?_
      rintro e w' ⟨rfl, rfl⟩
      simp only [dvV, Option.isSome_some]
      go_wp2
      refine bodyPost_ret (v := .tuple #[.int .i64 (n : Int), .int .i64 0]) (by simp [results, Try.results34, go_sem]) rfl ?_
      exact ⟨by rw [HF.out], Below.refl _ _⟩

set_option maxRecDepth 100000 in
theorem digitReader (ds : ByteArray) (wd : Nat) (w : World) : Calls Try.prog 49 #[.string ds, .int .i64 (wd : Int)] w fun e w' =>
    e = .returned (.func (Fn.func 77) #[] #[.pointer (some ⟨w.heap.size + 1, 0, none⟩), .pointer (some ⟨w.heap.size, 0, none⟩)]) ∧ (w.alloc (.cells #[.string ds] 9)).alloc (.cells #[.int .i64 (wd : Int)] 3) = w' := by
  have hmf : ∀ (fn : Fn) (first cap : Array Value) (w : World), (Instr.makeFunc fn first cap).run Try.prog w = .ok (.func fn first cap) w := fun _ _ _ _ => rfl
  go_enter Try.func49, Try.ntmps49
  go_wp2
  go_ret
  exact ⟨rfl, rfl⟩

set_option maxRecDepth 100000 in
set_option maxHeartbeats 1000000 in
theorem implByteHex (t : ByteArray) (w : World) (ht : t.size ≤ maxLen) : Calls Try.prog 18 #[.string t] w fun e w' => e = .returned (.tuple #[.int .i64 (byteHex t).1, .int .i64 (byteHex t).2]) ∧ Below w.heap.size w w' := by
  unfold maxLen at ht
  by_cases h : 65536 < t.size
  · have hq : (65536 : Int) < (t.size : Int) := by omega
    have HF : Hid (byteHex t = (0, 2)) := Lib.hid (by unfold byteHex; rw [if_pos h])
    generalize byteHex t = r at HF
    clear h
    go_enter Try.func18, Try.ntmps18
    go_wp2
    refine bodyPost_ret (v := .tuple #[.int .i64 0, .int .i64 2]) (by simp [results, Try.results18, go_sem]) rfl ?_
    exact ⟨by rw [HF.out], Below.refl _ _⟩
  · have hq : ¬ (65536 : Int) < (t.size : Int) := by omega
    have HF : Hid (byteHex t = match byteOf t with | some n => ((n : Int), 0) | none => (0, 3)) := Lib.hid (by unfold byteHex; rw [if_neg h])
    generalize byteHex t = r at HF
    obtain ⟨w1, hw1⟩ : ∃ w1, w1 = (w.alloc (.cells #[.string hexB] 9)).alloc (.cells #[.int .i64 ((2 : Nat) : Int)] 3) := ⟨_, rfl⟩
    have hb1 : Below w.heap.size w w1 := by rw [hw1]; exact ((Below.refl _ _).alloc (Nat.le_refl _) _).alloc (by simp) _
    have X0 : Box w1 w.heap.size 9 #[.string hexB] := by rw [hw1]; exact (Box.new _ _ _).alloc _
    have X1 : Box w1 (w.heap.size + 1) 3 #[.int .i64 ((2 : Nat) : Int)] := by rw [hw1]; simpa using Box.new (w.alloc (.cells #[.string hexB] 9)) 3 #[.int .i64 ((2 : Nat) : Int)]
    have HD := Lib.hid (digitReader hexB 2 w)
    have HX := Lib.hid (digitRead t hexB 2 (w.heap.size + 1) w.heap.size w1 hexL_low (by decide) (by omega) (X1.cell 0 rfl) (X0.cell 0 rfl))
    rw [← hw1] at HD
    have HO : Hid ((if t.size = 2 then readNum hexB.data.toList 0 t.data.toList else none) = byteOf t) := Lib.hid rfl
    rw [HO.out] at HX
    generalize byteOf t = o at HF HX HO
    clear h X0 X1 hw1
    cases o with
    | none =>
      go_enter Try.func18, Try.ntmps18
      go_wp2_with fail
      refine HD.out.mono ?_
      rintro e w' ⟨rfl, rfl⟩
      go_wp2_with fail
      refine HX.out.mono ?_
      rintro e w2 ⟨rfl, hb2⟩
      simp only [dvV, Option.isSome_none]
      go_wp2
      refine bodyPost_ret (v := .tuple #[.int .i64 0, .int .i64 3]) (by simp [results, Try.results18, go_sem]) rfl ?_
      exact ⟨by rw [HF.out], bt hb1 hb2⟩
    | some n =>
      go_enter Try.func18, Try.ntmps18
      go_wp2_with fail
      refine HD.out.mono ?_
      rintro e w' ⟨rfl, rfl⟩
      go_wp2_with fail
      refine HX.out.mono ?_
      rintro e w2 ⟨rfl, hb2⟩
      simp only [dvV, Option.isSome_some]
      go_wp2
      refine bodyPost_ret (v := .tuple #[.int .i64 (n : Int), .int .i64 0]) (by simp [results, Try.results18, go_sem]) rfl ?_
      exact ⟨by rw [HF.out], bt hb1 hb2⟩
end Go.Proofs.Ythobepmlopegbaa
