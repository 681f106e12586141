/- Texts of this claim, one behind the other: HexByte, AppNew, App, Open, Settle, Flush, Crash, Src, OpenBytes, Pages4, ReadExt, ReadPage, Pages. -/
import Derived.Laws.AppendOwn
import Derived.OwnWalk
import Derived.Test.YthobepmlopegbaaRows
import Derived.Deep.Slices
import Derived.Lib.SmallJoins
import Derived.Laws.CopyOwn
import Derived.Deep.RegionHeld3
import Derived.Laws.OwnMore
import Derived.WalkLawsBesides
import Derived.StillTailTactics
import Derived.IntWalk
import Derived.Laws.MakeOwn
import Derived.Test.YthobepmlopegbaaM1
/- Contracts of l04Nibble, l04Byte and both ByteHex: a byte out of two digits. -/
namespace Go.Proofs.Ythobepmlopegbaa
open Go.RowKit

def hexL : List UInt8 := [48, 49, 50, 51, 52, 53, 54, 55, 56, 57, 97, 98, 99, 100, 101, 102]
def hexB : ByteArray := ⟨#[48, 49, 50, 51, 52, 53, 54, 55, 56, 57, 97, 98, 99, 100, 101, 102]⟩
theorem hexB_list : hexB.data.toList = hexL := rfl
theorem hexL_low : ∀ b ∈ hexL, b.toNat < 128 := by decide
/-- The byte that a text of two digits says. -/
def byteOf (t : ByteArray) : Option Nat := if t.size = 2 then readNum hexL 0 t.data.toList else none
def nibI (b : Nat) : Int := match digI hexL (b : Int) with
  | some v => (v : Int)
  | none => -1
theorem nibI_tab : ∀ b, b < 256 → nibI b = if 48 ≤ b ∧ b ≤ 57 then (b : Int) - 48 else if 97 ≤ b ∧ b ≤ 102 then (b : Int) - 87 else -1 := by decide +kernel
theorem byteOf_two (t : ByteArray) (h : t.size = 2) : byteOf t = if nibI (t[0]'(by omega)).toNat < 0 ∨ nibI (t[1]'(by omega)).toNat < 0 then none else some ((16 : Int) * nibI (t[0]'(by omega)).toNat + nibI (t[1]'(by omega)).toNat).toNat := by
  unfold byteOf
  rw [if_pos h]
  have d0 : t.data.toList = (t[0]'(by omega)) :: (t[1]'(by omega)) :: [] := by
    have a := drop_byte t 0 (by omega)
    have b := drop_byte t 1 (by omega)
    have c : t.data.toList.drop 2 = [] := List.drop_eq_nil_of_le (by simp; have : t.data.size = t.size := rfl; omega)
    rw [List.drop_zero] at a
    rw [a, b, c]
  rw [d0]
  generalize t[0]'(by omega) = x
  generalize t[1]'(by omega) = y
  unfold nibI
  show (match digI hexL (x.toNat : Int) with | none => none | some v => readNum hexL (0 * hexL.length + v) [y]) = _
  cases hx : digI hexL (x.toNat : Int) with
  | none => simp
  | some v =>
    show (match digI hexL (y.toNat : Int) with | none => none | some u => readNum hexL ((0 * hexL.length + v) * hexL.length + u) []) = _
    cases hy : digI hexL (y.toNat : Int) with
    | none => simp
    | some u =>
      show some ((0 * 16 + v) * 16 + u) = if (v : Int) < 0 ∨ (u : Int) < 0 then none else some ((16 : Int) * (v : Int) + (u : Int)).toNat
      rw [if_neg (by omega)]
      congr 1
      omega

set_option maxRecDepth 100000 in
theorem l04Nibble (b : Nat) (hb : b < 256) (w : World) : Calls Try.prog 79 #[.int .u8 (b : Int)] w fun e w' => e = .returned (.int .i64 (nibI b)) ∧ w = w' := by
  have HN := Lib.hid (nibI_tab b hb)
  generalize nibI b = r at HN
  by_cases h1 : 48 ≤ b
  · have q1 : (48 : Int) ≤ (b : Int) := by omega
    by_cases h2 : b ≤ 57
    · have q2 : (b : Int) ≤ 57 := by omega
      have HF : Hid (r = (b : Int) - 48) := Lib.hid (by rw [HN.out, if_pos ⟨h1, h2⟩])
      have e1 : IntKind.u8.wrap ((b : Int) - 48) = (b : Int) - 48 := IntWalk.u8_in _ (by omega)
      have e2 : IntKind.i64.wrap ((b : Int) - 48) = (b : Int) - 48 := IntWalk.i64_in _ (by omega)
      clear h1 h2
      go_enter Try.func79, Try.ntmps79
      go_wp2
      go_ret
      exact ⟨ret_int HF.out.symm, rfl⟩
    · have q2 : ¬ (b : Int) ≤ 57 := by omega
      by_cases h3 : 97 ≤ b
      · have q3 : (97 : Int) ≤ (b : Int) := by omega
        by_cases h4 : b ≤ 102
        · have q4 : (b : Int) ≤ 102 := by omega
          have HF : Hid (r = (b : Int) - 97 + 10) := Lib.hid (by rw [HN.out, if_neg (by omega), if_pos ⟨h3, h4⟩]; omega)
          have e1 : IntKind.u8.wrap ((b : Int) - 97) = (b : Int) - 97 := IntWalk.u8_in _ (by omega)
          have e2 : IntKind.i64.wrap ((b : Int) - 97) = (b : Int) - 97 := IntWalk.i64_in _ (by omega)
          have e3 : IntKind.i64.wrap ((b : Int) - 97 + 10) = (b : Int) - 97 + 10 := IntWalk.i64_in _ (by omega)
          clear h1 h2 h3 h4
          go_enter Try.func79, Try.ntmps79
          go_wp2
          go_ret
          exact ⟨ret_int HF.out.symm, rfl⟩
        · have q4 : ¬ (b : Int) ≤ 102 := by omega
          have HF : Hid (r = -1) := Lib.hid (by rw [HN.out, if_neg (by omega), if_neg (by omega)])
          clear h1 h2 h3 h4
          go_enter Try.func79, Try.ntmps79
          go_wp2
          go_ret
          exact ⟨ret_int HF.out.symm, rfl⟩
      · have q3 : ¬ (97 : Int) ≤ (b : Int) := by omega
        have HF : Hid (r = -1) := Lib.hid (by rw [HN.out, if_neg (by omega), if_neg (by omega)])
        clear h1 h2 h3
        go_enter Try.func79, Try.ntmps79
        go_wp2
        go_ret
        exact ⟨ret_int HF.out.symm, rfl⟩
  · have q1 : ¬ (48 : Int) ≤ (b : Int) := by omega
    have q3 : ¬ (97 : Int) ≤ (b : Int) := by omega
    have HF : Hid (r = -1) := Lib.hid (by rw [HN.out, if_neg (by omega), if_neg (by omega)])
    clear h1
    go_enter Try.func79, Try.ntmps79
    go_wp2
    go_ret
    exact ⟨ret_int HF.out.symm, rfl⟩

theorem nibI_le (b : UInt8) : -1 ≤ nibI b.toNat ∧ nibI b.toNat ≤ 15 := by
  rw [nibI_tab _ b.toNat_lt]
  split
  · omega
  · split <;> omega

set_option maxRecDepth 100000 in
set_option maxHeartbeats 1000000 in
theorem l04Byte (t : ByteArray) (w : World) : Calls Try.prog 65 #[.string t] w fun e w' => e = .returned (.tuple #[.int .i64 (dvV (byteOf t)), .bool (byteOf t).isSome]) ∧ w = w' := by
  by_cases h : t.size = 2
  · have hq : ((t.size : Int) != 2) = false := by simp; omega
    have HB := Lib.hid (byteOf_two t h)
    have i0 : ∀ W, (Instr.index 9 (.string t) (.int .i64 0)).run Try.prog W = .ok (.int .u8 ((t[0]'(by omega)).toNat : Int)) W := fun W => by
      rw [run_index_string W 9 _ .i64 0 Try.underlying9, dif_pos ⟨by omega, by omega⟩]; rfl
    have i1 : ∀ W, (Instr.index 9 (.string t) (.int .i64 1)).run Try.prog W = .ok (.int .u8 ((t[1]'(by omega)).toNat : Int)) W := fun W => by
      rw [run_index_string W 9 _ .i64 1 Try.underlying9, dif_pos ⟨by omega, by omega⟩]; rfl
    generalize t[0]'(by omega) = x at HB i0
    generalize t[1]'(by omega) = y at HB i1
    have HX := Lib.hid (fun W => l04Nibble x.toNat x.toNat_lt W)
    have HY := Lib.hid (fun W => l04Nibble y.toNat y.toNat_lt W)
    have bx := nibI_le x
    have by' := nibI_le y
    generalize nibI x.toNat = a at HB HX bx
    generalize nibI y.toNat = b at HB HY by'
    generalize byteOf t = r at HB
    clear h
    by_cases h1 : a < 0
    · have HF : Hid (r = none) := Lib.hid (by rw [HB.out, if_pos (.inl h1)])
      go_enter Try.func65, Try.ntmps65
      go_wp2_with fail
      refine (HX.out _).mono ?_
      rintro e w1 ⟨rfl, rfl⟩
      go_wp2_with fail
      refine (HY.out _).mono ?_
      rintro e w1 ⟨rfl, rfl⟩
      go_wp2
      refine bodyPost_ret (v := .tuple #[.int .i64 0, .bool false]) (by simp [results, Try.results65, go_sem]) rfl ?_
      exact ⟨by rw [HF.out]; rfl, rfl⟩
    · by_cases h2 : b < 0
      · have HF : Hid (r = none) := Lib.hid (by rw [HB.out, if_pos (.inr h2)])
        go_enter Try.func65, Try.ntmps65
        go_wp2_with fail
        refine (HX.out _).mono ?_
        rintro e w1 ⟨rfl, rfl⟩
        go_wp2_with fail
        refine (HY.out _).mono ?_
        rintro e w1 ⟨rfl, rfl⟩
        go_wp2
        refine bodyPost_ret (v := .tuple #[.int .i64 0, .bool false]) (by simp [results, Try.results65, go_sem]) rfl ?_
        exact ⟨by rw [HF.out]; rfl, rfl⟩
      · have HF : Hid (r = some ((16 : Int) * a + b).toNat) := Lib.hid (by rw [HB.out, if_neg (by omega)])
        go_enter Try.func65, Try.ntmps65
        go_wp2_with fail
        refine (HX.out _).mono ?_
        rintro e w1 ⟨rfl, rfl⟩
        go_wp2_with fail
        refine (HY.out _).mono ?_
        rintro e w1 ⟨rfl, rfl⟩
        go_wp2
        refine bodyPost_ret (v := .tuple #[.int .i64 (16 * a + b), .bool true]) (by simp [results, Try.results65, go_sem]) rfl ?_
        exact ⟨by rw [HF.out]; show _ = Ending.returned (.tuple #[.int .i64 (((16 * a + b).toNat : Nat) : Int), .bool true]); rw [show (((16 * a + b).toNat : Nat) : Int) = 16 * a + b by omega], rfl⟩
  · have hq : ((t.size : Int) != 2) = true := by simp; omega
    have HF : Hid (byteOf t = none) := Lib.hid (by unfold byteOf; rw [if_neg h])
    generalize byteOf t = r at HF
    clear h
    go_enter Try.func65, Try.ntmps65
    go_wp2
    refine bodyPost_ret (v := .tuple #[.int .i64 0, .bool false]) (by simp [results, Try.results65, go_sem]) rfl ?_
    exact ⟨by rw [HF.out]; rfl, rfl⟩

/-- What ByteHex answers. -/
def byteHex (t : ByteArray) : Int × Int := if 65536 < t.size then (0, 2) else match byteOf t with
  | some n => ((n : Int), 0)
  | none => (0, 3)

set_option maxRecDepth 100000 in
set_option maxHeartbeats 1000000 in
theorem specByteHex (t : ByteArray) (w : World) (ht : t.size ≤ maxLen) : Calls Try.prog 34 #[.string t] w fun e w' => e = .returned (.tuple #[.int .i64 (byteHex t).1, .int .i64 (byteHex t).2]) ∧ Below w.heap.size w w' := by
  unfold maxLen at ht
  have HX := Lib.hid (fun W => l04Byte t W)
  by_cases h : 65536 < t.size
  · have hq : (65536 : Int) < (t.size : Int) := by omega
    have HF : Hid (byteHex t = (0, 2)) := Lib.hid (by unfold byteHex; rw [if_pos h])
    generalize byteHex t = r at HF
    clear h
    go_enter Try.func34, Try.ntmps34
    go_wp2
    refine bodyPost_ret (v := .tuple #[.int .i64 0, .int .i64 2]) (by simp [results, Try.results34, go_sem]) rfl ?_
    exact ⟨by rw [HF.out], Below.refl _ _⟩
  · have hq : ¬ (65536 : Int) < (t.size : Int) := by omega
    have HF : Hid (byteHex t = match byteOf t with | some n => ((n : Int), 0) | none => (0, 3)) := Lib.hid (by unfold byteHex; rw [if_neg h])
    generalize byteHex t = r at HF
    generalize byteOf t = o at HF HX
    clear h
    cases o with
    | none =>
      go_enter Try.func34, Try.ntmps34
      go_wp2_with fail
      refine (HX.out _).mono ?_
      rintro e w' ⟨rfl, rfl⟩
      simp only [dvV, Option.isSome_none]
      go_wp2
      refine bodyPost_ret (v := .tuple #[.int .i64 0, .int .i64 3]) (by simp [results, Try.results34, go_sem]) rfl ?_
      exact ⟨by rw [HF.out], Below.refl _ _⟩
    | some n =>
      go_enter Try.func34, Try.ntmps34
      go_wp2_with fail
      refine (HX.out _).mono ?_
      rintro e w' ⟨rfl, rfl⟩
      simp only [dvV, Option.isSome_some]
      go_wp2
      refine bodyPost_ret (v := .tuple #[.int .i64 (n : Int), .int .i64 0]) (by simp [results, Try.results34, go_sem]) rfl ?_
      exact ⟨by rw [HF.out], Below.refl _ _⟩

set_option maxRecDepth 100000 in
theorem digitReader (ds : ByteArray) (wd : Nat) (w : World) : Calls Try.prog 49 #[.string ds, .int .i64 (wd : Int)] w fun e w' =>
    e = .returned (.func (Fn.func 77) #[] #[.pointer (some ⟨w.heap.size + 1, 0, none⟩), .pointer (some ⟨w.heap.size, 0, none⟩)]) ∧ (w.alloc (.cells #[.string ds] 9)).alloc (.cells #[.int .i64 (wd : Int)] 3) = w' := by
  have hmf : ∀ (fn : Fn) (first cap : Array Value) (w : World), (Instr.makeFunc fn first cap).run Try.prog w = .ok (.func fn first cap) w := fun _ _ _ _ => rfl
  go_enter Try.func49, Try.ntmps49
  go_wp2
  go_ret
  exact ⟨rfl, rfl⟩

set_option maxRecDepth 100000 in
set_option maxHeartbeats 1000000 in
theorem implByteHex (t : ByteArray) (w : World) (ht : t.size ≤ maxLen) : Calls Try.prog 18 #[.string t] w fun e w' => e = .returned (.tuple #[.int .i64 (byteHex t).1, .int .i64 (byteHex t).2]) ∧ Below w.heap.size w w' := by
  unfold maxLen at ht
  by_cases h : 65536 < t.size
  · have hq : (65536 : Int) < (t.size : Int) := by omega
    have HF : Hid (byteHex t = (0, 2)) := Lib.hid (by unfold byteHex; rw [if_pos h])
    generalize byteHex t = r at HF
    clear h
    go_enter Try.func18, Try.ntmps18
    go_wp2
    refine bodyPost_ret (v := .tuple #[.int .i64 0, .int .i64 2]) (by simp [results, Try.results18, go_sem]) rfl ?_
    exact ⟨by rw [HF.out], Below.refl _ _⟩
  · have hq : ¬ (65536 : Int) < (t.size : Int) := by omega
    have HF : Hid (byteHex t = match byteOf t with | some n => ((n : Int), 0) | none => (0, 3)) := Lib.hid (by unfold byteHex; rw [if_neg h])
    generalize byteHex t = r at HF
    obtain ⟨w1, hw1⟩ : ∃ w1, w1 = (w.alloc (.cells #[.string hexB] 9)).alloc (.cells #[.int .i64 ((2 : Nat) : Int)] 3) := ⟨_, rfl⟩
    have hb1 : Below w.heap.size w w1 := by rw [hw1]; exact ((Below.refl _ _).alloc (Nat.le_refl _) _).alloc (by simp) _
    have X0 : Box w1 w.heap.size 9 #[.string hexB] := by rw [hw1]; exact (Box.new _ _ _).alloc _
    have X1 : Box w1 (w.heap.size + 1) 3 #[.int .i64 ((2 : Nat) : Int)] := by rw [hw1]; simpa using Box.new (w.alloc (.cells #[.string hexB] 9)) 3 #[.int .i64 ((2 : Nat) : Int)]
    have HD := Lib.hid (digitReader hexB 2 w)
    have HX := Lib.hid (digitRead t hexB 2 (w.heap.size + 1) w.heap.size w1 hexL_low (by decide) (by omega) (X1.cell 0 rfl) (X0.cell 0 rfl))
    rw [← hw1] at HD
    have HO : Hid ((if t.size = 2 then readNum hexB.data.toList 0 t.data.toList else none) = byteOf t) := Lib.hid rfl
    rw [HO.out] at HX
    generalize byteOf t = o at HF HX HO
    clear h X0 X1 hw1
    cases o with
    | none =>
      go_enter Try.func18, Try.ntmps18
      go_wp2_with fail
      refine HD.out.mono ?_
      rintro e w' ⟨rfl, rfl⟩
      go_wp2_with fail
      refine HX.out.mono ?_
      rintro e w2 ⟨rfl, hb2⟩
      simp only [dvV, Option.isSome_none]
      go_wp2
      refine bodyPost_ret (v := .tuple #[.int .i64 0, .int .i64 3]) (by simp [results, Try.results18, go_sem]) rfl ?_
      exact ⟨by rw [HF.out], bt hb1 hb2⟩
    | some n =>
      go_enter Try.func18, Try.ntmps18
      go_wp2_with fail
      refine HD.out.mono ?_
      rintro e w' ⟨rfl, rfl⟩
      go_wp2_with fail
      refine HX.out.mono ?_
      rintro e w2 ⟨rfl, hb2⟩
      simp only [dvV, Option.isSome_some]
      go_wp2
      refine bodyPost_ret (v := .tuple #[.int .i64 (n : Int), .int .i64 0]) (by simp [results, Try.results18, go_sem]) rfl ?_
      exact ⟨by rw [HF.out], bt hb1 hb2⟩
end Go.Proofs.Ythobepmlopegbaa

/- append of a whole row onto an empty literal; lists as rows of one cell each. -/
namespace Go.Proofs.Ythobepmlopegbaa
open Go.RowKit

/-- append onto an empty row without room, something: a new row. -/
theorem run_app_fresh {P : Program} (w : World) (t ty e : TypeId) (i : TypeInfo) (z : Value) (size bytes : Nat) (ht : P.underlying t = some (.slice e)) (hi : P.info? e = some i) (hz : i.zero = some z)
    (hsize : i.size = size) (hby : i.bytes = bytes) (hzs : z.cells.size = size) (hsz : 0 < size) (b : Addr)
    (A : Option Addr) (m c : Nat) (hm : 0 < m) (news : List Value) (hl : news.length = m * size) (hsrc : ∃ ad, A = some ad ∧ ∀ j u, news[j]? = some u → w.cell? (ad.add j) = some u)
    (h63 : m ≤ maxLen) (hbytes : m * bytes ≤ 140737488355328) :
    ∃ A' cap w', (Builtin.append_ #[t, t] ty #[.slice (some b) 0 0, .slice A m c]).run P w = .ok (.slice A' m cap) w' ∧ Below w.heap.size w w' ∧ w'.ownsRow w.heap.size e size (.slice A' m cap) m news := by
  obtain ⟨ad, rfl, hc⟩ := hsrc
  obtain ⟨v', w', hr, ho, hg⟩ := run_append_arg_grows (P := P) w t ty e i z size bytes ht hi hz hsize hby hzs hsz b 0 0 [] (by simp) (fun j u hj => by simp at hj) ad m c news hl hc (by omega) (by omega) (by rw [Nat.zero_add]; exact hbytes)
  rw [Nat.zero_add] at ho
  obtain ⟨hl', h0 | ⟨g, cap, cur, rfl, hrest⟩⟩ := ho
  · omega
  · exact ⟨_, cap, w', hr, (Below.refl _ _).grown hg (Nat.le_refl _) (fun k hk => by cases hk), hl', .inr ⟨g, cap, cur, rfl, hrest⟩⟩

theorem wpList_app_fresh {P : Program} {ops : Array Oper} {rest : List Oper} {o : Oper} {a : Act} {w : World} {Q : Exit → Act → World → Prop}
    (hg : o.guard = none) (s x : Operand) (t : TypeId) (hop : o.op = Op.call { callee := Callee.builtin Builtin.append, args := #[s, x], argTypes := #[t, t] })
    (e : TypeId) (z : Value) (size bytes : Nat) (ht : P.underlying t = some (.slice e)) (hi : ∃ i : TypeInfo, P.info? e = some i ∧ i.zero = some z ∧ i.size = size ∧ i.bytes = bytes) (hzs : z.cells.size = size) (hsz : 0 < size) (b : Addr) (hs : a.eval s = .slice (some b) 0 0)
    (A : Option Addr) (m c : Nat) (hm : 0 < m) (news : List Value) (hx : a.eval x = .slice A m c) (hl : news.length = m * size) (hsrc : ∃ ad, A = some ad ∧ ∀ j u, news[j]? = some u → w.cell? (ad.add j) = some u)
    (h63 : m ≤ maxLen) (hbytes : m * bytes ≤ 140737488355328)
    (h : ∀ A' cap w', Below w.heap.size w w' → Hid (w'.ownsRow w.heap.size e size (.slice A' m cap) m news) → wpList P ops Q rest (a.put o.dst (.slice A' m cap)) w') : wpList P ops Q (o :: rest) a w :=
  wpList_plain hg fun _ hK => by
    obtain ⟨i, hi, hz, hsize, hby⟩ := hi
    obtain ⟨A', cap, w', hr, h2, h3⟩ := run_app_fresh (P := P) w t o.type e i z size bytes ht hi hz hsize hby hzs hsz b A m c hm news hl hsrc h63 hbytes
    unfold Oper.wp execOp
    simp only [hop, resolve, invoke, builtin, Sem.run_bind, Sem.run_pure, Result.andThen_ok, List.map_toArray, List.map_cons, List.map_nil, hs, hx, hr]
    exact hK _ _ (h A' cap w' h2 (Lib.hid h3))

theorem row_of_owns {α : Type} (mk : α → Value) (dflt : α) {w : World} {base n : Nat} {t : TypeId} {v : Value} {ss : List α} (h : w.ownsRow base t 1 v n (ss.map mk)) (hn : 0 < n) : ∃ g cap m f, v = .slice (some ⟨g, 0, none⟩) n cap ∧ base ≤ g ∧ n ≤ m ∧ ss.length = n ∧ w.rowIs g t m f ∧ ∀ i, i < n → f i = mk (ss.getD i dflt) := by
  obtain ⟨hl, h0 | ⟨g, cap, cur, rfl, hb, hg, hnc, _, hsz, htk⟩⟩ := h
  · omega
  · rw [List.length_map, Nat.mul_one] at hl
    rw [Nat.mul_one] at hsz htk
    refine ⟨g, cap, cap, fun i => cur.toList.getD i undef, rfl, hb, hnc, hl, ⟨cur, hg, hsz, fun i hi => ?_⟩, fun i hi => ?_⟩
    · have : i < cur.toList.length := by simp [hsz, hi]
      show cur[i]? = some (cur.toList.getD i undef)
      rw [List.getD_eq_getElem?_getD, List.getElem?_eq_getElem this, ← Array.getElem?_toList, List.getElem?_eq_getElem this]
      rfl
    · have h1 : (cur.toList.take n)[i]? = (ss.map mk)[i]? := by rw [htk]
      rw [List.getElem?_take, if_pos hi] at h1
      show cur.toList.getD i undef = _
      rw [List.getD_eq_getElem?_getD, h1, List.getElem?_map, List.getD_eq_getElem?_getD, List.getElem?_eq_getElem (by omega)]
      rfl

def cellsI (zs : List Int) : List Value := zs.map fun z => .int .i64 z
def cellsB (gs : List Bool) : List Value := gs.map Value.bool
theorem cellsI_len (zs : List Int) : (cellsI zs).length = zs.length := by simp [cellsI]
theorem cellsB_len (gs : List Bool) : (cellsB gs).length = gs.length := by simp [cellsB]
theorem ownI_fresh {w' : World} {A : Option Addr} {n cap lo base : Nat} {zs : List Int} (h : w'.ownsRow base 3 1 (.slice A n cap) n (cellsI zs)) (hn : 0 < n) (hlo : lo ≤ base) : OwnI w' lo w'.heap.size A zs := by
  obtain ⟨g, cap', m, f, e, q1, q2, q3, q4, q5⟩ := row_of_owns (fun z => Value.int .i64 z) 0 h hn
  injection e with e _ _
  subst e
  exact .inr ⟨g, m, f, rfl, by omega, q4.lt, by omega, q4, fun i hi => q5 i (by omega)⟩
theorem ownB_fresh {w' : World} {A : Option Addr} {n cap lo base : Nat} {gs : List Bool} (h : w'.ownsRow base 4 1 (.slice A n cap) n (cellsB gs)) (hn : 0 < n) (hlo : lo ≤ base) : OwnB w' lo w'.heap.size A gs := by
  obtain ⟨g, cap', m, f, e, q1, q2, q3, q4, q5⟩ := row_of_owns Value.bool false h hn
  injection e with e _ _
  subst e
  exact .inr ⟨g, m, f, rfl, by omega, q4.lt, by omega, q4, fun i hi => q5 i (by omega)⟩
theorem addr_add (b off j : Nat) : (⟨b, off, none⟩ : Addr).add j = ⟨b, off + j, none⟩ := by unfold Addr.add; split <;> simp_all
theorem IntL.src {w : World} {A : Option Addr} {zs : List Int} (h : IntL w A zs) (hn : 0 < zs.length) : ∃ ad, A = some ad ∧ ∀ j u, (cellsI zs)[j]? = some u → w.cell? (ad.add j) = some u := by
  obtain ⟨b, off, e, _⟩ := h 0 hn
  refine ⟨_, e, fun j u hj => ?_⟩
  have hj' : j < zs.length := by
    have := (List.getElem?_eq_some_iff.1 hj).1
    rwa [cellsI_len] at this
  obtain ⟨b', off', e', hc⟩ := h j hj'
  rw [e] at e'
  injection e' with e'
  injection e' with e1 e2 _
  subst e1 e2
  rw [addr_add, hc, ← hj]
  unfold cellsI
  rw [List.getElem?_map, List.getD_eq_getElem?_getD, List.getElem?_eq_getElem hj']
  rfl
theorem BoolL.src {w : World} {A : Option Addr} {gs : List Bool} (h : BoolL w A gs) (hn : 0 < gs.length) : ∃ ad, A = some ad ∧ ∀ j u, (cellsB gs)[j]? = some u → w.cell? (ad.add j) = some u := by
  obtain ⟨b, off, e, _⟩ := h 0 hn
  refine ⟨_, e, fun j u hj => ?_⟩
  have hj' : j < gs.length := by
    have := (List.getElem?_eq_some_iff.1 hj).1
    rwa [cellsB_len] at this
  obtain ⟨b', off', e', hc⟩ := h j hj'
  rw [e] at e'
  injection e' with e'
  injection e' with e1 e2 _
  subst e1 e2
  rw [addr_add, hc, ← hj]
  unfold cellsB
  rw [List.getElem?_map, List.getD_eq_getElem?_getD, List.getElem?_eq_getElem hj']
  rfl
set_option maxRecDepth 100000 in
theorem infoIx : ∃ i : TypeInfo, Try.prog.info? 3 = some i ∧ i.zero = some (.int .i64 0) ∧ i.size = 1 ∧ i.bytes = 8 := by
  obtain ⟨i, hi, hzz⟩ := Option.map_eq_some_iff.1 infoI
  simp only [Prod.mk.injEq] at hzz
  exact ⟨i, hi, hzz.1, hzz.2.1, hzz.2.2⟩
set_option maxRecDepth 100000 in
theorem infoBx : ∃ i : TypeInfo, Try.prog.info? 4 = some i ∧ i.zero = some (.bool false) ∧ i.size = 1 ∧ i.bytes = 1 := by
  obtain ⟨i, hi, hzz⟩ := Option.map_eq_some_iff.1 infoB
  simp only [Prod.mk.injEq] at hzz
  exact ⟨i, hi, hzz.1, hzz.2.1, hzz.2.2⟩

/-- One element of a row of the call's own is written. -/
theorem OwnI.put {w : World} {lo hi : Nat} {A : Option Addr} {zs : List Int} (h : OwnI w lo hi A zs) (k : Nat) (hk : k < zs.length) :
    ∃ b m f, A = some ⟨b, 0, none⟩ ∧ w.cell? ⟨b, k, none⟩ = some (.int .i64 (zs.getD k 0)) ∧ w.frozen? ⟨b, k, none⟩ = false ∧ lo ≤ b ∧ b < hi ∧ w.rowIs b 3 m f ∧ ∀ x, OwnI (w.setCell ⟨b, k, none⟩ (.int .i64 x)) lo hi A (zs.set k x) := by
  rcases h with rfl | ⟨b, m, f, e, h1, h2, hm, hr, hf⟩
  · simp at hk
  · refine ⟨b, m, f, e, by rw [← hf k hk]; exact hr.cell (by omega), hr.frozen k, h1, h2, hr, fun x => .inr ⟨b, m, _, e, h1, h2, by simpa using hm, hr.set k (.int .i64 x), fun i hi' => ?_⟩⟩
    have hi2 : i < zs.length := by simpa using hi'
    show (if i = k then Value.int .i64 x else f i) = _
    by_cases q : i = k
    · subst q
      rw [if_pos rfl, List.getD_eq_getElem?_getD, List.getElem?_set_self hk]
      rfl
    · rw [if_neg q, hf i hi2, List.getD_eq_getElem?_getD, List.getD_eq_getElem?_getD, List.getElem?_set_ne (fun e => q e.symm)]
theorem OwnB.put {w : World} {lo hi : Nat} {A : Option Addr} {zs : List Bool} (h : OwnB w lo hi A zs) (k : Nat) (hk : k < zs.length) :
    ∃ b m f, A = some ⟨b, 0, none⟩ ∧ w.cell? ⟨b, k, none⟩ = some (.bool (zs.getD k false)) ∧ w.frozen? ⟨b, k, none⟩ = false ∧ lo ≤ b ∧ b < hi ∧ w.rowIs b 4 m f ∧ ∀ x, OwnB (w.setCell ⟨b, k, none⟩ (.bool x)) lo hi A (zs.set k x) := by
  rcases h with rfl | ⟨b, m, f, e, h1, h2, hm, hr, hf⟩
  · simp at hk
  · refine ⟨b, m, f, e, by rw [← hf k hk]; exact hr.cell (by omega), hr.frozen k, h1, h2, hr, fun x => .inr ⟨b, m, _, e, h1, h2, by simpa using hm, hr.set k (.bool x), fun i hi' => ?_⟩⟩
    have hi2 : i < zs.length := by simpa using hi'
    show (if i = k then Value.bool x else f i) = _
    by_cases q : i = k
    · subst q
      rw [if_pos rfl, List.getD_eq_getElem?_getD, List.getElem?_set_self hk]
      rfl
    · rw [if_neg q, hf i hi2, List.getD_eq_getElem?_getD, List.getD_eq_getElem?_getD, List.getElem?_set_ne (fun e => q e.symm)]
/-- A write into a row of another type leaves it. -/
theorem OwnB.other {w : World} {lo hi : Nat} {A : Option Addr} {gs : List Bool} (h : OwnB w lo hi A gs) {b m : Nat} {t : TypeId} {f : Nat → Value} (hr : w.rowIs b t m f) (ht : t ≠ 4) (i : Nat) (u : Value) : OwnB (w.setCell ⟨b, i, none⟩ u) lo hi A gs := by
  rcases h with e | ⟨b', m', f', e, p1, p2, hm, hr', hf⟩
  · exact .inl e
  · exact .inr ⟨b', m', f', e, p1, p2, hm, hr'.setOther (a := ⟨b, i, none⟩) (by exact (row_ne hr hr' ht).symm) u, hf⟩
theorem OwnI.other {w : World} {lo hi : Nat} {A : Option Addr} {zs : List Int} (h : OwnI w lo hi A zs) {b m : Nat} {t : TypeId} {f : Nat → Value} (hr : w.rowIs b t m f) (ht : t ≠ 3) (i : Nat) (u : Value) : OwnI (w.setCell ⟨b, i, none⟩ u) lo hi A zs := by
  rcases h with e | ⟨b', m', f', e, p1, p2, hm, hr', hf⟩
  · exact .inl e
  · exact .inr ⟨b', m', f', e, p1, p2, hm, hr'.setOther (a := ⟨b, i, none⟩) (by exact (row_ne hr hr' ht).symm) u, hf⟩
theorem Box.other {w : World} {b : Nat} {t : TypeId} {cs : Array Value} (X : Box w b t cs) {b' m : Nat} {t' : TypeId} {f : Nat → Value} (hr : w.rowIs b' t' m f) (ht : t ≠ t') (i : Nat) (u : Value) : Box (w.setCell ⟨b', i, none⟩ u) b t cs :=
  X.far (p := ⟨b', i, none⟩) (X.ne hr ht) u
end Go.Proofs.Ythobepmlopegbaa

/- Appending one element to a slice of the call's own; what such a slice is good for. -/
namespace Go.Proofs.Ythobepmlopegbaa
open Go.RowKit

/-- An element type: its zero value, its cells, its bytes. -/
structure Elem (P : Program) (e : TypeId) (z : Value) (size bytes : Nat) : Prop where
  info : ∃ i : TypeInfo, P.info? e = some i ∧ i.zero = some z ∧ i.size = size ∧ i.bytes = bytes
  cells : z.cells.size = size
  pos : 0 < size

/-- The row v, of n elements with the cells xs, of the call's own: its block lies from base on. -/
abbrev RowV (w : World) (base : Nat) (e : TypeId) (size : Nat) (v : Value) (n : Nat) (xs : List Value) : Prop := w.ownsRow base e size v n xs

theorem rowv_ge {w : World} {base n : Nat} {e : TypeId} {size : Nat} {v : Value} {xs : List Value} (h : w.ownsRow base e size v n xs) : ∀ k, v.ownBlock = some k → base ≤ k := by
  intro k hk
  rcases h.2 with ⟨rfl, _⟩ | ⟨g, cap, cur, rfl, q1, q2⟩
  · simp [Value.ownBlock] at hk
  · simp [Value.ownBlock] at hk; omega
theorem rowv_keep {w w' : World} {base n : Nat} {e : TypeId} {size : Nat} {v : Value} {xs : List Value} (h : w.ownsRow base e size v n xs) (hk : ∀ k, base ≤ k → k < w.heap.size → w'.heap[k]? = w.heap[k]?) : w'.ownsRow base e size v n xs := by
  obtain ⟨h1, h0 | ⟨g, cap, cur, rfl, q1, q2, q3⟩⟩ := h
  · exact ⟨h1, .inl h0⟩
  · refine ⟨h1, .inr ⟨g, cap, cur, rfl, q1, ?_, q3⟩⟩
    have hlt : g < w.heap.size := by
      rcases Nat.lt_or_ge g w.heap.size with hlt | hge
      · exact hlt
      · rw [Array.getElem?_eq_none hge] at q2; cases q2
    rw [hk g q1 hlt]; exact q2
theorem rowv_below {w w' : World} {base n : Nat} {e : TypeId} {size : Nat} {v : Value} {xs : List Value} (h : w.ownsRow base e size v n xs) (hb : Below w.heap.size w w') : w'.ownsRow base e size v n xs := rowv_keep h (fun k _ hk => hb.block k hk)
theorem rowv_set {w : World} {base n : Nat} {e : TypeId} {size : Nat} {v : Value} {xs : List Value} (h : w.ownsRow base e size v n xs) {p : Addr} (hp : p.block < base) (u : Value) : (w.setCell p u).ownsRow base e size v n xs :=
  rowv_keep h (fun k hk _ => Below.heap_setCell w p u k (by omega))
theorem rowv_nil (w : World) (base : Nat) (e : TypeId) (size : Nat) : w.ownsRow base e size (.slice none 0 0) 0 [] := World.ownsRow_nil w base e size
theorem rowv_form {w : World} {base n : Nat} {e : TypeId} {size : Nat} {v : Value} {xs : List Value} (h : w.ownsRow base e size v n xs) : ∃ A cap, v = .slice A n cap ∧ n ≤ cap := by
  rcases h.2 with ⟨rfl, rfl⟩ | ⟨g, cap, cur, rfl, _, _, q, _⟩
  · exact ⟨none, 0, rfl, Nat.le_refl _⟩
  · exact ⟨_, cap, rfl, q⟩
theorem rowv_empty {w : World} {base g : Nat} {t : TypeId} {size : Nat} (hb : base ≤ g) (hg : Box w g t #[]) : w.ownsRow base t size (.slice (some ⟨g, 0, none⟩) 0 0) 0 [] :=
  ⟨by simp, .inr ⟨g, 0, #[], rfl, hb, hg, Nat.le_refl _, Nat.zero_le _, by simp, by simp⟩⟩

theorem wpList_app_one {P : Program} {w : World} {ops : Array Oper} {rest : List Oper} {o : Oper} {a : Act} {Q : Exit → Act → World → Prop} (hgd : o.guard = none) (s x : Operand) (t e : TypeId)
    (ho : o.op = .call { callee := .builtin .append, args := #[s, x], argTypes := #[t, t] }) (z : Value) (size bytes : Nat) (E : Elem P e z size bytes) (ht : P.underlying t = some (.slice e))
    (base : Nat) (v : Value) (n : Nat) (xs : List Value) (hs : a.eval s = v) (hown : w.ownsRow base e size v n xs)
    (b c : Nat) (hx : a.eval x = .slice (some ⟨b, 0, none⟩) 1 c) (news : List Value) (hl : news.length = size) (hnews : ∀ j u, news[j]? = some u → w.cell? ⟨b, j, none⟩ = some u) (h1 : ∀ u ∈ news, u.oneCell' = true)
    (h63 : n + 1 ≤ maxLen) (hby : (n + 1) * bytes ≤ 140737488355328) (hbase : base ≤ w.heap.size)
    (hK : ∀ A cap w', w'.ownsRow base e size (.slice A (n + 1) cap) (n + 1) (xs ++ news) → n + 1 ≤ cap → w.grownBy w' v.ownBlock → Below base w w' → wpList P ops Q rest (a.put o.dst (.slice A (n + 1) cap)) w') : wpList P ops Q (o :: rest) a w := by
  obtain ⟨i, hi, hz, hsz, hb⟩ := E.info
  refine wpList_append_own w hgd s x t ho base e i z size bytes ht hi hz hsz hb E.cells E.pos v n xs hs hown ⟨b, 0, none⟩ 1 c news hx (by rw [hl]; omega) (fun j u hj => ?_) h1 h63 hby hbase (fun v' w' h2 h3 _ => ?_)
  · have := hnews j u hj
    unfold Addr.add
    by_cases h0 : j = 0
    · subst h0; simpa using this
    · rw [if_neg h0]; simpa using this
  · obtain ⟨A, cap, rfl, hcap⟩ := rowv_form h2
    exact hK A cap w' h2 hcap h3 ((Below.refl base w).grown h3 hbase (rowv_ge hown))

theorem wpList_app_many {P : Program} {w : World} {ops : Array Oper} {rest : List Oper} {o : Oper} {a : Act} {Q : Exit → Act → World → Prop} (hgd : o.guard = none) (s x : Operand) (t e : TypeId)
    (ho : o.op = .call { callee := .builtin .append, args := #[s, x], argTypes := #[t, t] }) (z : Value) (size bytes : Nat) (E : Elem P e z size bytes) (ht : P.underlying t = some (.slice e))
    (base : Nat) (v : Value) (n : Nat) (xs : List Value) (hs : a.eval s = v) (hown : w.ownsRow base e size v n xs)
    (ad : Addr) (m c : Nat) (hx : a.eval x = .slice (some ad) m c) (news : List Value) (hl : news.length = m * size) (hnews : ∀ j u, news[j]? = some u → w.cell? (ad.add j) = some u) (h1 : ∀ u ∈ news, u.oneCell' = true)
    (h63 : n + m ≤ maxLen) (hby : (n + m) * bytes ≤ 140737488355328) (hbase : base ≤ w.heap.size)
    (hK : ∀ A cap w', w'.ownsRow base e size (.slice A (n + m) cap) (n + m) (xs ++ news) → n + m ≤ cap → w.grownBy w' v.ownBlock → Below base w w' → wpList P ops Q rest (a.put o.dst (.slice A (n + m) cap)) w') : wpList P ops Q (o :: rest) a w := by
  obtain ⟨i, hi, hz, hsz, hb⟩ := E.info
  refine wpList_append_own w hgd s x t ho base e i z size bytes ht hi hz hsz hb E.cells E.pos v n xs hs hown ad m c news hx hl hnews h1 h63 hby hbase (fun v' w' h2 h3 _ => ?_)
  obtain ⟨A, cap, rfl, hcap⟩ := rowv_form h2
  exact hK A cap w' h2 hcap h3 ((Below.refl base w).grown h3 hbase (rowv_ge hown))

theorem step_app_one {P : Program} {w : World} {ops : Array Oper} {o : Oper} {a : Act} {K : Act → World → Prop} {Q : Exit → Act → World → Prop} {X : Prop} (hgd : o.guard = none) (s x : Operand) (t e : TypeId)
    (ho : o.op = .call { callee := .builtin .append, args := #[s, x], argTypes := #[t, t] }) (z : Value) (size bytes : Nat) (E : Elem P e z size bytes) (ht : P.underlying t = some (.slice e))
    (base : Nat) (v : Value) (n : Nat) (xs : List Value) (hs : a.eval s = v) (hown : w.ownsRow base e size v n xs)
    (b c : Nat) (hx : a.eval x = .slice (some ⟨b, 0, none⟩) 1 c) (news : List Value) (hl : news.length = size) (hnews : ∀ j u, news[j]? = some u → w.cell? ⟨b, j, none⟩ = some u) (h1 : ∀ u ∈ news, u.oneCell' = true)
    (h63 : n + 1 ≤ maxLen) (hby : (n + 1) * bytes ≤ 140737488355328) (hbase : base ≤ w.heap.size)
    (hK : ∀ A cap w', w'.ownsRow base e size (.slice A (n + 1) cap) (n + 1) (xs ++ news) → n + 1 ≤ cap → w.grownBy w' v.ownBlock → Below base w w' → K (a.put o.dst (.slice A (n + 1) cap)) w') :
    if Region.wanted o (yielded ops a.tmps) = true then Oper.wp P o a w K Q else X := by
  have hw : Region.wanted o (yielded ops a.tmps) = true := by simp [Region.wanted, hgd]
  rw [if_pos hw]
  obtain ⟨i, hi, hz, hsz, hb⟩ := E.info
  refine wp_append_own w s x t ho base e i z size bytes ht hi hz hsz hb E.cells E.pos v n xs hs hown ⟨b, 0, none⟩ 1 c news hx (by rw [hl]; omega) (fun j u hj => ?_) h1 h63 hby hbase (fun v' w' h2 h3 _ => ?_)
  · have := hnews j u hj
    unfold Addr.add
    by_cases h0 : j = 0
    · subst h0; simpa using this
    · rw [if_neg h0]; simpa using this
  · obtain ⟨A, cap, rfl, hcap⟩ := rowv_form h2
    exact hK A cap w' h2 hcap h3 ((Below.refl base w).grown h3 hbase (rowv_ge hown))

/-- A box of another type than the row that grows is as it was. -/
theorem Box.grown {w w' : World} {b base n : Nat} {t e : TypeId} {cs : Array Value} {size : Nat} {v : Value} {xs : List Value} (h : Box w b t cs) (hr : w.ownsRow base e size v n xs) (ht : t ≠ e) (hg : w.grownBy w' v.ownBlock) : Box w' b t cs := by
  have hlt := h.lt
  refine (hg.block b hlt ?_).trans h
  rcases hr.2 with ⟨rfl, _⟩ | ⟨g, cap, cur, rfl, _, q2, _⟩
  · simp [Value.ownBlock]
  · simp only [Value.ownBlock, ne_eq, Option.some.injEq]
    rintro rfl
    unfold Box at h
    rw [h] at q2
    injection q2 with q2
    injection q2 with _ q3
    exact ht q3
theorem rowv_setBox {w : World} {base n b : Nat} {t e : TypeId} {cs : Array Value} {size : Nat} {v : Value} {xs : List Value} (h : w.ownsRow base e size v n xs) (X : Box w b t cs) (ht : t ≠ e) (i : Nat) (u : Value) : (w.setCell ⟨b, i, none⟩ u).ownsRow base e size v n xs := by
  obtain ⟨h1, h0 | ⟨g, cap, cur, rfl, q1, q2, q3⟩⟩ := h
  · exact ⟨h1, .inl h0⟩
  · refine ⟨h1, .inr ⟨g, cap, cur, rfl, q1, ?_, q3⟩⟩
    refine (Below.heap_setCell w ⟨b, i, none⟩ u g ?_).trans q2
    rintro rfl
    unfold Box at X
    rw [X] at q2
    injection q2 with q2
    injection q2 with _ q3
    exact ht q3
set_option maxRecDepth 100000 in
theorem elemInt : Elem Try.prog 3 (.int .i64 0) 1 8 := ⟨⟨_, rfl, rfl, rfl, rfl⟩, rfl, by decide⟩
set_option maxRecDepth 100000 in
theorem elemStr : Elem Try.prog 9 (.string ByteArray.empty) 1 16 := ⟨⟨_, rfl, rfl, rfl, rfl⟩, rfl, by decide⟩
/-- A []int of the call's own that grows. -/
def GroI (w : World) (base : Nat) (v : Value) (zs : List Int) : Prop := w.ownsRow base 3 1 v zs.length (zs.map (Value.int .i64))
def GroS (w : World) (base : Nat) (v : Value) (ss : List ByteArray) : Prop := w.ownsRow base 9 1 v ss.length (ss.map Value.string)
theorem GroI.own {w : World} {base lo : Nat} {A : Option Addr} {n c : Nat} {zs : List Int} (h : GroI w base (.slice A n c) zs) (hb : lo ≤ base) : OwnI w lo w.heap.size A zs := by
  obtain ⟨h1, ⟨h0, h2⟩ | ⟨g, cap, cur, hv, q1, q2, q3, q4, q5, q6⟩⟩ := h
  · exact .inl (List.eq_nil_of_length_eq_zero h2)
  · injection hv with hv1 hv2 hv3
    refine .inr ⟨g, cap, fun i => cur.getD i (.int .i64 0), hv1, by omega, (Array.getElem?_eq_some_iff.1 q2).1, q3, ⟨cur, q2, by omega, fun i hi => ?_⟩, fun i hi => ?_⟩
    · simp [Array.getElem?_eq_getElem (show i < cur.size by omega)]
    · have : (cur.toList.take (zs.length * 1))[i]? = (zs.map (Value.int .i64))[i]? := by rw [q6]
      rw [List.getElem?_take, if_pos (by omega), Array.getElem?_toList, List.getElem?_map, List.getElem?_eq_getElem hi] at this
      simp [this, List.getD_eq_getElem?_getD, List.getElem?_eq_getElem hi]
theorem GroS.own {w : World} {base lo : Nat} {A : Option Addr} {n c : Nat} {ss : List ByteArray} (h : GroS w base (.slice A n c) ss) (hb : lo ≤ base) : OwnS w lo w.heap.size A ss := by
  obtain ⟨h1, ⟨h0, h2⟩ | ⟨g, cap, cur, hv, q1, q2, q3, q4, q5, q6⟩⟩ := h
  · exact .inl (List.eq_nil_of_length_eq_zero h2)
  · injection hv with hv1 hv2 hv3
    refine .inr ⟨g, cap, fun i => cur.getD i (.int .i64 0), hv1, by omega, (Array.getElem?_eq_some_iff.1 q2).1, q3, ⟨cur, q2, by omega, fun i hi => ?_⟩, fun i hi => ?_⟩
    · simp [Array.getElem?_eq_getElem (show i < cur.size by omega)]
    · have : (cur.toList.take (ss.length * 1))[i]? = (ss.map Value.string)[i]? := by rw [q6]
      rw [List.getElem?_take, if_pos (by omega), Array.getElem?_toList, List.getElem?_map, List.getElem?_eq_getElem hi] at this
      simp [this, List.getD_eq_getElem?_getD, List.getElem?_eq_getElem hi]
theorem GroI.len {w : World} {base : Nat} {A : Option Addr} {n c : Nat} {zs : List Int} (h : GroI w base (.slice A n c) zs) : zs.length = n := by
  obtain ⟨A', cap, hv, _⟩ := rowv_form h
  injection hv with _ hv2 _; exact hv2.symm
theorem GroS.len {w : World} {base : Nat} {A : Option Addr} {n c : Nat} {ss : List ByteArray} (h : GroS w base (.slice A n c) ss) : ss.length = n := by
  obtain ⟨A', cap, hv, _⟩ := rowv_form h
  injection hv with _ hv2 _; exact hv2.symm
end Go.Proofs.Ythobepmlopegbaa

/- A disk that came in, opened: its two slices as lists. Nothing here walks. -/
namespace Go.Proofs.Ythobepmlopegbaa
open Go.RowKit Go.ChangeShapes Go.WideShapes

section
variable {H : Type} {enc : TypeId × Value → H} {P : Program} {w : World} {spare : Nat → Bool} {held : Bool}

theorem getD_range {α : Type} (n : Nat) (f : Nat → α) (d : α) (i : Nat) (h : i < n) : ((List.range n).map f).getD i d = f i := by
  simp [List.getD_eq_getElem?_getD, h]

theorem add_plain {a : Addr} {b off i : Nat} {v : Value} (h : w.cell? (a.add i) = some v) (ha : a = ⟨b, off, none⟩) : w.cell? ⟨b, off + i, none⟩ = some v := by
  subst ha
  unfold Addr.add at h
  by_cases hi : i = 0
  · subst hi; simpa using h
  · rw [if_neg hi] at h; exact h

theorem open_strs {t e : TypeId} {fuel : Nat} {v : Value} {x : DataW H × List MemPlace} (ht : P.underlying t = some (.slice e)) (he : P.underlying e = some .string) (hce : P.cellsOf e = 1)
    (h : DataW.trod enc P w 0 spare held fuel t [v] = some x) :
    ∃ A n c, ∃ ss : List ByteArray, v = .slice A n c ∧ ss.length = n ∧ n ≤ maxLen ∧ StrL w A ss ∧ FitS ss := by
  rcases Deep.open_slice1 ht hce h with ⟨hcs, _⟩ | ⟨a, len, cap, m, k, V, D, Pl, hcs, _, hl, hm, hmm, _, hx⟩
  · injection hcs with hv _
    exact ⟨none, 0, 0, [], hv, rfl, by unfold maxLen; omega, fun i hi => by simp at hi, fun s hs => by simp at hs⟩
  · injection hcs with hv _
    have hlm : len ≤ m := by rw [hmm]; split <;> omega
    obtain ⟨S, hS⟩ := Deep.choose_lt (n := len) (p := fun i (s : ByteArray) => w.cell? (a.add i) = some (.string s) ∧ s.size ≤ maxLen) (fun i hi => by
      obtain ⟨h1, h2⟩ := hx i (by omega)
      obtain ⟨s, hc, _, hs⟩ := DataW.trod_string he h2
      injection hc with hc _
      exact ⟨s, by rw [← hc]; exact h1, hs⟩)
    refine ⟨some a, len, cap, (List.range len).map S, hv, by simp, by omega, fun i hi => ?_, fun s hs => ?_⟩
    · have hi' : i < len := by simpa using hi
      have h0 := (hS 0 (by omega)).1
      have hsp := World.cell?_spot h0
      obtain ⟨b, off, spot⟩ := a
      have hsp' : spot = none := by simpa [Addr.add] using hsp
      subst hsp'
      exact ⟨b, off, rfl, by rw [getD_range len S _ i hi']; exact add_plain (hS i hi').1 rfl⟩
    · obtain ⟨i, hi, rfl⟩ := List.mem_map.1 hs
      exact (hS i (by simpa using hi)).2

theorem open_writes {t e : TypeId} {f0 f1 : Field} {fuel : Nat} {v : Value} {x : DataW H × List MemPlace} (ht : P.underlying t = some (.slice e)) (he : P.underlying e = some (.struct #[f0, f1])) (hce : P.cellsOf e = 2)
    (h0 : P.underlying f0.type = some (.int .i64)) (h1 : P.underlying f1.type = some .string) (c0 : P.cellsOf f0.type = 1) (c1 : P.cellsOf f1.type = 1) (o0 : f0.offset = 0) (o1 : f1.offset = 1)
    (h : DataW.trod enc P w 0 spare held fuel t [v] = some x) :
    ∃ A n c, ∃ ws : List (Int × ByteArray), v = .slice A n c ∧ ws.length = n ∧ n ≤ maxLen ∧ WrL w A ws ∧ FitW ws := by
  rcases Deep.open_slice ht h with ⟨hcs, _⟩ | ⟨a, len, cap, m, k, D, Pl, hcs, _, hl, hm, hmm, _, hx⟩
  · injection hcs with hv _
    exact ⟨none, 0, 0, [], hv, rfl, by unfold maxLen; omega, fun i hi => by simp at hi, fun s hs => by simp at hs⟩
  · injection hcs with hv _
    have hlm : len ≤ m := by rw [hmm]; split <;> omega
    rw [hce] at hx
    obtain ⟨S, hS⟩ := Deep.choose_lt (n := len) (p := fun i (s : Int × ByteArray) => w.cell? ((a.add (i * 2)).add 0) = some (.int .i64 s.1) ∧ w.cell? ((a.add (i * 2)).add 1) = some (.string s.2) ∧ s.2.size ≤ maxLen) (fun i hi => by
      obtain ⟨cs, g1, g2⟩ := hx i (by omega)
      obtain ⟨_, hlen, hcell⟩ := World.cells?_some g1
      obtain ⟨y0, y1, q, _, _, g3, g4⟩ := trod_struct2 he g2
      rw [o0, c0] at g3
      rw [o1, c1] at g4
      obtain ⟨u0, u1, rfl⟩ : ∃ u0 u1, cs = [u0, u1] := by
        match cs, hlen with
        | [u0, u1], _ => exact ⟨u0, u1, rfl⟩
      obtain ⟨z, hz, _, _⟩ := DataW.trod_int h0 g3
      obtain ⟨s, hs, _, hsz⟩ := DataW.trod_string h1 g4
      simp at hz hs
      have k0 := hcell 0 (by omega)
      have k1 := hcell 1 (by omega)
      simp at k0 k1
      exact ⟨(z, s), by rw [k0, hz], by rw [k1, hs], hsz⟩)
    refine ⟨some a, len, cap, (List.range len).map S, hv, by simp, by omega, fun i hi => ?_, fun s hs => ?_⟩
    · have hi' : i < len := by simpa using hi
      have h0 := (hS 0 (by omega)).1
      have hsp := World.cell?_spot h0
      obtain ⟨b, off, spot⟩ := a
      have hsp' : spot = none := by simpa [Addr.add] using hsp
      subst hsp'
      refine ⟨b, off, rfl, ?_, ?_⟩
      · rw [getD_range len S _ i hi']
        have := (hS i hi').1
        rw [Deep.add_add] at this
        exact add_plain this rfl
      · rw [getD_range len S _ i hi']
        have := (hS i hi').2.1
        rw [Deep.add_add] at this
        have := add_plain (b := b) (off := off) this rfl
        rwa [← Nat.add_assoc] at this
    · obtain ⟨i, hi, rfl⟩ := List.mem_map.1 hs
      exact (hS i (by simpa using hi)).2.2

theorem open_ints64 {t e : TypeId} {fuel : Nat} {v : Value} {x : DataW H × List MemPlace} (ht : P.underlying t = some (.slice e)) (he : P.underlying e = some (.int .i64)) (hce : P.cellsOf e = 1)
    (h : DataW.trod enc P w 0 spare held fuel t [v] = some x) :
    ∃ A n c, ∃ zs : List Int, v = .slice A n c ∧ zs.length = n ∧ n ≤ maxLen ∧ IntL w A zs ∧ ∀ z ∈ zs, (Lit.int .i64 z).wf = true := by
  rcases Deep.open_slice1 ht hce h with ⟨hcs, _⟩ | ⟨a, len, cap, m, k, V, D, Pl, hcs, _, hl, hm, hmm, _, hx⟩
  · injection hcs with hv _
    exact ⟨none, 0, 0, [], hv, rfl, by unfold maxLen; omega, fun i hi => by simp at hi, fun s hs => by simp at hs⟩
  · injection hcs with hv _
    have hlm : len ≤ m := by rw [hmm]; split <;> omega
    obtain ⟨S, hS⟩ := Deep.choose_lt (n := len) (p := fun i (s : Int) => w.cell? (a.add i) = some (.int .i64 s) ∧ (Lit.int .i64 s).wf = true) (fun i hi => by
      obtain ⟨h1, h2⟩ := hx i (by omega)
      obtain ⟨s, hc, _, hs⟩ := DataW.trod_int he h2
      injection hc with hc _
      exact ⟨s, by rw [← hc]; exact h1, hs⟩)
    refine ⟨some a, len, cap, (List.range len).map S, hv, by simp, by omega, fun i hi => ?_, fun s hs => ?_⟩
    · have hi' : i < len := by simpa using hi
      have h0 := (hS 0 (by omega)).1
      have hsp := World.cell?_spot h0
      obtain ⟨b, off, spot⟩ := a
      have hsp' : spot = none := by simpa [Addr.add] using hsp
      subst hsp'
      exact ⟨b, off, rfl, by rw [getD_range len S _ i hi']; exact add_plain (hS i hi').1 rfl⟩
    · obtain ⟨i, hi, rfl⟩ := List.mem_map.1 hs
      exact (hS i (by simpa using hi)).2
end

set_option maxRecDepth 100000 in
theorem cellsStr : Try.prog.cellsOf 9 = 1 := by kernel_rfl
set_option maxRecDepth 100000 in
theorem cellsInt : Try.prog.cellsOf 3 = 1 := by kernel_rfl
end Go.Proofs.Ythobepmlopegbaa

/- Contracts of sectors, fateOf, tear, settle: what a crash makes of a disk. -/
namespace Go.Proofs.Ythobepmlopegbaa
open Go.RowKit

/-- n empty strings, as cells. -/
def zS (n : Nat) : List Value := List.replicate n (.string ByteArray.empty)
theorem zS_len (n : Nat) : (zS n).length = n := by unfold zS; rw [List.length_replicate]
theorem made_zS (n : Nat) : madeCells #[.string ByteArray.empty] n = (zS n).toArray := by
  apply Array.ext
  · simp [size_madeCells, zS_len]
  · intro i h1 h2
    simp [madeCells, zS, Nat.mod_one]
set_option maxRecDepth 100000 in
theorem makeS (n : Nat) (hn : n ≤ 1048576) (W : World) : (Instr.makeSlice 28 (.int .i64 (n : Int)) (.int .i64 (n : Int))).run Try.prog W = .ok (.slice (some ⟨W.heap.size, 0, none⟩) n n) (W.alloc (.cells (zS n).toArray 9)) := by
  rw [← made_zS]
  exact run_make_row' (P := Try.prog) 28 9 (.string ByteArray.empty) 16 Try.underlying28 infoS rfl .i64 .i64 n (by omega) (by omega) W
set_option maxRecDepth 100000 in
theorem szStr : (Try.prog.info? 9).map (·.size) = some 1 := by kernel_rfl
theorem row_of_list {w : World} {b : Nat} {t : TypeId} {n : Nat} {ss : List ByteArray} (hl : ss.length = n) (h : w.heap[b]? = some (.cells (ss.map Value.string).toArray t (0, 0))) : w.rowIs b t n (fun i => .string (ss.getD i ByteArray.empty)) :=
  ⟨_, h, by simp [hl], fun i hi => by
    have hi' : i < ss.length := by omega
    simp [List.getD_eq_getElem?_getD, hi']⟩

/-- The cells of a slice of strings. -/
def cellsS (ss : List ByteArray) : List Value := ss.map Value.string
theorem cellsS_len (ss : List ByteArray) : (cellsS ss).length = ss.length := by simp [cellsS]
theorem cellsS_one (ss : List ByteArray) : ∀ v ∈ cellsS ss, v.oneCell' = true := fun v hv => by
  obtain ⟨s, _, rfl⟩ := List.mem_map.1 hv
  rfl
theorem StrL.src {w : World} {A : Option Addr} {ss : List ByteArray} (h : StrL w A ss) (hp : 0 < (cellsS ss).length) : ∃ ad, A = some ad ∧ ∀ j v, (cellsS ss)[j]? = some v → w.cell? (ad.add j) = some v := by
  rw [cellsS_len] at hp
  obtain ⟨b, off, e, _⟩ := h 0 hp
  refine ⟨⟨b, off, none⟩, e, fun j v hj => ?_⟩
  have hj' : j < ss.length := by have := (List.getElem?_eq_some_iff.1 hj).1; simpa [cellsS] using this
  obtain ⟨b', off', e', hc⟩ := h j hj'
  rw [e] at e'
  injection e' with e'
  injection e' with e1 e2
  subst e1 e2
  have hv : v = Value.string (ss.getD j ByteArray.empty) := by
    unfold cellsS at hj
    rw [List.getElem?_map, List.getElem?_eq_getElem hj', Option.map_some] at hj
    rw [List.getD_eq_getElem?_getD, List.getElem?_eq_getElem hj']
    exact (Option.some.inj hj).symm
  rw [hv, ← hc]
  unfold Addr.add
  by_cases h0 : j = 0
  · subst h0; simp
  · rw [if_neg h0]

/-- The fate of write i. -/
def fateAt (fates : List Int) (i : Nat) : Int := if fates.length = 0 then 0 else fates.getD (i % fates.length) 0

/-- A torn write: the first half of the data, then what was there behind it. -/
def tearOf (old data : ByteArray) : ByteArray := if old.size ≤ data.size / 2 then data.extract 0 (data.size / 2) else data.extract 0 (data.size / 2) ++ old.extract (data.size / 2) old.size

theorem extract_size (s : ByteArray) (a b : Nat) : (s.extract a b).size = min b s.size - a := by simp [ByteArray.size_extract]
theorem tearOf_size (old data : ByteArray) (h1 : old.size ≤ 100) (h2 : data.size ≤ 100) : (tearOf old data).size ≤ 100 := by
  unfold tearOf
  split
  · rw [extract_size]; omega
  · rw [ByteArray.size_append, extract_size, extract_size]; omega
theorem getD_set (l : List ByteArray) (p j : Nat) (x : ByteArray) (h : p < l.length) : (l.set p x).getD j ByteArray.empty = if j = p then x else l.getD j ByteArray.empty := by
  simp only [List.getD_eq_getElem?_getD, List.getElem?_set]
  by_cases e : j = p
  · subst e; rw [if_pos rfl, if_pos rfl, if_pos h]; rfl
  · rw [if_neg (fun h => e h.symm), if_neg e]
/-- A store into the row of strings. -/
theorem row_set {w : World} {b p : Nat} {t : TypeId} {n : Nat} {l : List ByteArray} {x : ByteArray} (h : w.rowIs b t n (fun i => .string (l.getD i ByteArray.empty))) (hp : p < l.length) : (w.setCell ⟨b, p, none⟩ (.string x)).rowIs b t n (fun i => .string ((l.set p x).getD i ByteArray.empty)) :=
  (h.set p (.string x)).congr (fun j _ => by
    rw [getD_set l p j x hp]
    by_cases e : j = p
    · rw [if_pos e, if_pos e]
    · rw [if_neg e, if_neg e])
theorem getD_small {l : List ByteArray} (h : ∀ s ∈ l, s.size ≤ 100) (p : Nat) : (l.getD p ByteArray.empty).size ≤ 100 := by
  rw [List.getD_eq_getElem?_getD]
  rcases Nat.lt_or_ge p l.length with hlt | hge
  · rw [List.getElem?_eq_getElem hlt]; exact h _ (List.getElem_mem _)
  · rw [List.getElem?_eq_none hge]; exact Nat.zero_le _

/-- A disk that DiskOK lets by. -/
structure Ok (ss : List ByteArray) (ws : List (Int × ByteArray)) : Prop where
  n48 : ss.length = 48
  m60 : ws.length ≤ 60
  small : ∀ s ∈ ss, s.size ≤ 100
  smallW : ∀ x ∈ ws, x.2.size ≤ 100
  at_ : ∀ x ∈ ws, 0 ≤ x.1 ∧ x.1 ≤ 47
theorem ok_of {ss : List ByteArray} {ws : List (Int × ByteArray)} (h : okDisk ss ws = true) : Ok ss ws := by
  unfold okDisk at h
  simp only [Bool.and_eq_true, decide_eq_true_eq, List.all_eq_true] at h
  obtain ⟨⟨h1, h2⟩, h3, h4⟩ := h
  refine ⟨h1, h2, fun s hs => ?_, fun x hx => ?_, fun x hx => ?_⟩
  · have := h3 s hs; unfold okSt at this; simpa using this
  · have := h4 x hx; unfold okWr at this; simp at this; exact this.2
  · have := h4 x hx; unfold okWr at this; simp at this; exact secB_range this.1

end Go.Proofs.Ythobepmlopegbaa

/- Contract of the model's flush: l01Flush. -/
namespace Go.Proofs.Ythobepmlopegbaa
open Go.RowKit

theorem fate_one (k : Nat) : fateAt [1] k = 1 := by simp [fateAt, Nat.mod_one]
/-- From a row that an append made to a row by its index. -/
theorem row_of_own {w : World} {base n : Nat} {v : Value} {ss : List ByteArray} (h : w.ownsRow base 9 1 v n (cellsS ss)) (hn : 0 < n) : ∃ g cap m f, v = .slice (some ⟨g, 0, none⟩) n cap ∧ base ≤ g ∧ n ≤ m ∧ ss.length = n ∧ w.rowIs g 9 m f ∧ ∀ i, i < n → f i = .string (ss.getD i ByteArray.empty) := by
  obtain ⟨hl, h0 | ⟨g, cap, cur, rfl, hb, hg, hnc, _, hsz, htk⟩⟩ := h
  · omega
  · rw [cellsS_len, Nat.mul_one] at hl
    rw [Nat.mul_one] at hsz htk
    refine ⟨g, cap, cap, fun i => cur.toList.getD i undef, rfl, hb, hnc, hl, ⟨cur, hg, hsz, fun i hi => ?_⟩, fun i hi => ?_⟩
    · have : i < cur.toList.length := by simp [hsz, hi]
      show cur[i]? = some (cur.toList.getD i undef)
      rw [List.getD_eq_getElem?_getD, List.getElem?_eq_getElem this, ← Array.getElem?_toList, List.getElem?_eq_getElem this]
      rfl
    · have h1 : (cur.toList.take n)[i]? = (cellsS ss)[i]? := by rw [htk]
      rw [List.getElem?_take, if_pos hi] at h1
      show cur.toList.getD i undef = _
      rw [List.getD_eq_getElem?_getD, h1]
      unfold cellsS
      rw [List.getElem?_map, List.getD_eq_getElem?_getD, List.getElem?_eq_getElem (by omega)]
      rfl
theorem own_empty {w : World} {base g : Nat} {t : TypeId} (hb : base ≤ g) (hg : Box w g t #[]) : w.ownsRow base t 1 (.slice (some ⟨g, 0, none⟩) 0 0) 0 (cellsS []) :=
  ⟨rfl, .inr ⟨g, 0, #[], rfl, hb, hg, Nat.le_refl _, Nat.zero_le _, rfl, rfl⟩⟩
theorem cellsS_app (ss : List ByteArray) : cellsS [] ++ cellsS ss = cellsS ss := rfl
theorem below_of_grown {B : Nat} {w w' : World} {r : Option Nat} (h : w.grownBy w' r) (hr : ∀ k, r = some k → B ≤ k) (hB : B ≤ w.heap.size) : Below B w w' := (Below.refl B w).grown h hB hr

/-- A row of strings with room to spare: the first n are these. -/
def RowS (w : World) (b n m : Nat) (l : List ByteArray) : Prop := l.length = n ∧ n ≤ m ∧ ∃ f, w.rowIs b 9 m f ∧ ∀ i, i < n → f i = .string (l.getD i ByteArray.empty)
theorem RowS.cell {w : World} {b n m p : Nat} {l : List ByteArray} (h : RowS w b n m l) (hp : p < n) : w.cell? ⟨b, p, none⟩ = some (.string (l.getD p ByteArray.empty)) := by
  obtain ⟨_, hm, f, hr, hf⟩ := h
  rw [← hf p hp]; exact hr.cell (by omega)
theorem RowS.frozen {w : World} {b n m : Nat} {l : List ByteArray} (h : RowS w b n m l) (p : Nat) : w.frozen? ⟨b, p, none⟩ = false := by
  obtain ⟨_, hm, f, hr, hf⟩ := h
  exact hr.frozen p
theorem RowS.lt {w : World} {b n m : Nat} {l : List ByteArray} (h : RowS w b n m l) : b < w.heap.size := by
  obtain ⟨_, hm, f, hr, hf⟩ := h
  exact hr.lt
theorem RowS.below {w w' : World} {b n m : Nat} {l : List ByteArray} (h : RowS w b n m l) (hb : Below w.heap.size w w') : RowS w' b n m l := by
  obtain ⟨hl, hm, f, hr, hf⟩ := h
  exact ⟨hl, hm, f, row_below hb hr hr.lt, hf⟩
theorem RowS.set {w : World} {b n m p : Nat} {l : List ByteArray} (h : RowS w b n m l) (hp : p < n) (x : ByteArray) : RowS (w.setCell ⟨b, p, none⟩ (.string x)) b n m (l.set p x) := by
  obtain ⟨hl, hm, f, hr, hf⟩ := h
  refine ⟨by simpa using hl, hm, _, hr.set p (.string x), fun i hi => ?_⟩
  rw [getD_set l p i x (by omega)]
  by_cases e : i = p
  · rw [if_pos e, if_pos e]
  · rw [if_neg e, if_neg e]; exact hf i hi
theorem RowS.far {w : World} {b n m : Nat} {l : List ByteArray} (h : RowS w b n m l) {a : Addr} (ha : b ≠ a.block) (v : Value) : RowS (w.setCell a v) b n m l := by
  obtain ⟨hl, hm, f, hr, hf⟩ := h
  exact ⟨hl, hm, f, hr.setOther ha v, hf⟩
theorem RowS.own {w : World} {b n m lo hi : Nat} {l : List ByteArray} (h : RowS w b n m l) (h1 : lo ≤ b) (h2 : b < hi) : OwnS w lo hi (some ⟨b, 0, none⟩) l := by
  obtain ⟨hl, hm, f, hr, hf⟩ := h
  exact .inr ⟨b, m, f, rfl, h1, h2, by omega, hr, fun i hi => hf i (by omega)⟩

set_option maxRecDepth 100000 in
theorem infoSx : ∃ i : TypeInfo, Try.prog.info? 9 = some i ∧ i.zero = some (.string ByteArray.empty) ∧ i.size = 1 ∧ i.bytes = 16 := by
  obtain ⟨i, hi, hzz⟩ := Option.map_eq_some_iff.1 infoS
  simp only [Prod.mk.injEq] at hzz
  exact ⟨i, hi, hzz.1, hzz.2.1, hzz.2.2⟩

end Go.Proofs.Ythobepmlopegbaa

/- Contracts of the model's crash: l01Crash; of the tests of fates. -/
namespace Go.Proofs.Ythobepmlopegbaa
open Go.RowKit

theorem tear_min (old x : ByteArray) : x.extract 0 (x.size / 2) ++ old.extract (min (x.size / 2) old.size) old.size = tearOf old x := by
  unfold tearOf
  split
  · rename_i h
    rw [Nat.min_eq_right h]
    apply WideShapes.bytes_inj
    simp [ByteArray.data_extract]
  · rename_i h
    rw [Nat.min_eq_left (by omega)]

end Go.Proofs.Ythobepmlopegbaa

/- The model's source of draws: byte, next, chance. -/
namespace Go.Proofs.Ythobepmlopegbaa
open Go.RowKit

/-- The slice at A holds these bytes, in a block below lo. -/
def ByB (w : World) (lo : Nat) (A : Option Addr) (zs : List Nat) : Prop :=
  ∀ i, i < zs.length → ∃ b off, A = some ⟨b, off, none⟩ ∧ b < lo ∧ w.cell? ⟨b, off + i, none⟩ = some (.int .u8 (zs.getD i 0 : Nat)) ∧ zs.getD i 0 < 256
theorem ByB.btw {w w' : World} {lo l h' : Nat} {A : Option Addr} {zs : List Nat} (h : ByB w lo A zs) (hb : Btw l h' w w') (ho : lo ≤ l) : ByB w' lo A zs := fun i hi => by
  obtain ⟨b, off, e, q1, q2, q3⟩ := h i hi
  exact ⟨b, off, e, q1, hb.cell q2 (.inl (by show b < l; omega)), q3⟩
/-- The source at b: its bytes, how many are drawn (at most K), a seed. -/
def Src (w : World) (b : Nat) (A : Option Addr) (n c : Nat) (zs : List Nat) (K : Nat) : Prop :=
  ∃ k sd : Nat, Box w b 80 #[.slice A n c, .int .i64 k, .int .i64 sd] ∧ k ≤ K ∧ sd < 2147483648 ∧ zs.length = n ∧ ByB w b A zs
theorem Src.btw {w w' : World} {b l h' : Nat} {A : Option Addr} {n c : Nat} {zs : List Nat} {K : Nat} (h : Src w b A n c zs K) (hb : Btw l h' w w') (ho : b < l) : Src w' b A n c zs K := by
  obtain ⟨k, sd, q1, q2, q3, q4, q5⟩ := h
  exact ⟨k, sd, q1.btw hb (.inl ho), q2, q3, q4, q5.btw hb (by omega)⟩
theorem Src.lt {w : World} {b : Nat} {A : Option Addr} {n c : Nat} {zs : List Nat} {K : Nat} (h : Src w b A n c zs K) : b < w.heap.size := by
  obtain ⟨k, sd, q1, _⟩ := h
  exact q1.lt
theorem Src.mono {w : World} {b : Nat} {A : Option Addr} {n c : Nat} {zs : List Nat} {K K' : Nat} (h : Src w b A n c zs K) (hk : K ≤ K') : Src w b A n c zs K' := by
  obtain ⟨k, sd, q1, q2, q3⟩ := h
  exact ⟨k, sd, q1, by omega, q3⟩

/-- After 'at++'. -/
theorem src_at {w : World} {b : Nat} {A : Option Addr} {n c : Nat} {k sd : Nat} (X : Box w b 80 #[.slice A n c, .int .i64 k, .int .i64 sd]) :
    Box (w.setCell ⟨b, 1, none⟩ (.int .i64 ((k : Int) + 1))) b 80 #[.slice A n c, .int .i64 ((k + 1 : Nat) : Int), .int .i64 sd] := X.set 1 (.int .i64 ((k : Int) + 1))
theorem src_seed {w : World} {b : Nat} {A : Option Addr} {n c : Nat} {k sd : Nat} (X : Box w b 80 #[.slice A n c, .int .i64 k, .int .i64 sd]) (s2 : Nat) :
    Box (w.setCell ⟨b, 2, none⟩ (.int .i64 (s2 : Int))) b 80 #[.slice A n c, .int .i64 k, .int .i64 s2] := X.set 2 (.int .i64 (s2 : Int))

/-- The source at b, exactly: its bytes, how many are drawn, the seed. -/
def SrcX (w : World) (b : Nat) (A : Option Addr) (n c : Nat) (zs : List Nat) (k sd : Nat) : Prop :=
  Box w b 80 #[.slice A n c, .int .i64 k, .int .i64 sd] ∧ sd < 2147483648 ∧ zs.length = n ∧ ByB w b A zs
/-- What byte draws: the byte, the count, the seed. -/
def byteV (zs : List Nat) (k sd : Nat) : Nat × Nat × Nat :=
  if k < zs.length then (zs.getD k 0, k + 1, (sd * 31 + zs.getD k 0 + 7) % 2147483648) else if 3000 < k + 1 then (0, k + 1, sd) else ((sd * 1103515245 + 12345) % 2147483648 / 65536 % 256, k + 1, (sd * 1103515245 + 12345) % 2147483648)
theorem byteV_at (zs : List Nat) (k sd : Nat) : (byteV zs k sd).2.1 = k + 1 := by
  unfold byteV; split
  · rfl
  · split <;> rfl
theorem SrcX.src {w : World} {b : Nat} {A : Option Addr} {n c : Nat} {zs : List Nat} {k sd : Nat} (h : SrcX w b A n c zs k sd) {K : Nat} (hk : k ≤ K) : Src w b A n c zs K := ⟨k, sd, h.1, hk, h.2.1, h.2.2.1, h.2.2.2⟩
theorem Src.exact {w : World} {b : Nat} {A : Option Addr} {n c : Nat} {zs : List Nat} {K : Nat} (h : Src w b A n c zs K) : ∃ k sd, k ≤ K ∧ SrcX w b A n c zs k sd := by
  obtain ⟨k, sd, q1, q2, q3, q4, q5⟩ := h
  exact ⟨k, sd, q2, q1, q3, q4, q5⟩
theorem SrcX.byteV_lt {w : World} {b : Nat} {A : Option Addr} {n c : Nat} {zs : List Nat} {k sd : Nat} (h : SrcX w b A n c zs k sd) : (byteV zs k sd).1 < 256 := by
  unfold byteV; split
  · rename_i hk; obtain ⟨_, _, _, _, _, hv⟩ := h.2.2.2 k hk; exact hv
  · split
    · exact (by omega : (0 : Nat) < 256)
    · exact Nat.mod_lt _ (by omega)

set_option maxRecDepth 100000 in
set_option maxHeartbeats 4000000 in
theorem srcByteX (b : Nat) (A : Option Addr) (n c : Nat) (zs : List Nat) (k sd : Nat) (w : World) (hk9 : k ≤ 1000000000) (h : SrcX w b A n c zs k sd) :
    Calls Try.prog 80 #[.pointer (some ⟨b, 0, none⟩)] w fun e w' => e = .returned (.int .i64 ((byteV zs k sd).1 : Nat)) ∧ Hid (SrcX w' b A n c zs (byteV zs k sd).2.1 (byteV zs k sd).2.2) ∧ Btw b (b + 1) w w' := by
  obtain ⟨X, hs, hl, hz⟩ := h
  have HX := Lib.hid (src_at X)
  have HB : Hid (Btw b (b + 1) w (w.setCell ⟨b, 1, none⟩ (.int .i64 ((k : Int) + 1)))) := Lib.hid ((Btw.refl b (b + 1) w).setCell (p := ⟨b, 1, none⟩) (by show b ≤ b; omega) (by show b < b + 1; omega) _)
  have HZ := Lib.hid (hz.btw HB.out (Nat.le_refl _))
  have HL := Lib.hid hl
  have f1 : w.cell? ⟨b, 1, none⟩ = some (.int .i64 k) := X.cell 1 rfl
  have g1 := X.frozen 1
  clear X hz hl
  go_enter Try.func80, Try.ntmps80
  go_wp2
  generalize w.setCell ⟨b, 1, none⟩ (.int .i64 ((k : Int) + 1)) = w1 at HX HB HZ ⊢
  clear f1 g1
  have f0 : w1.cell? ⟨b, 0, none⟩ = some (.slice A n c) := HX.out.cell 0 rfl
  have f1 : w1.cell? ⟨b, 1, none⟩ = some (.int .i64 ((k : Int) + 1)) := HX.out.cell 1 rfl
  have f2 : w1.cell? ⟨b, 2, none⟩ = some (.int .i64 sd) := HX.out.cell 2 rfl
  have g2 := HX.out.frozen 2
  by_cases hlt : k < n
  · have hlt' : (k : Int) + 1 ≤ (n : Int) := by omega
    have hk0 : (0 : Int) ≤ (k : Int) := by omega
    have hki : (k : Int) < (n : Int) := by omega
    obtain ⟨bb, off, rfl, hbb, hc, hv⟩ := HZ.out k (by rw [HL.out]; exact hlt)
    have HV : Hid (byteV zs k sd = (zs.getD k 0, k + 1, (sd * 31 + zs.getD k 0 + 7) % 2147483648)) := Lib.hid (by unfold byteV; rw [if_pos (by rw [HL.out]; exact hlt)])
    generalize zs.getD k 0 = x at hc hv HV
    have hne : ¬ bb = b := by omega
    go_quiet (fail)
    go_wp2
    have HX2 := Lib.hid (HX.out.drewN nq)
    have HB2 := Lib.hid (HB.out.drewN nq)
    have HZ2 := Lib.hid (HZ.out.btw ((Btw.refl b (b + 1) w1).drewN nq) (Nat.le_refl _))
    have hc2 : (w1.drewN nq).cell? ⟨bb, off + k, none⟩ = some (.int .u8 (x : Nat)) := hc
    clear f0 f1 f2 g2 hc HX HB HZ
    generalize w1.drewN nq = w2 at HX2 HB2 HZ2 hc2 ⊢
    have f0 : w2.cell? ⟨b, 0, none⟩ = some (.slice (some ⟨bb, off, none⟩) n c) := HX2.out.cell 0 rfl
    have f1 : w2.cell? ⟨b, 1, none⟩ = some (.int .i64 ((k : Int) + 1)) := HX2.out.cell 1 rfl
    have f2 : w2.cell? ⟨b, 2, none⟩ = some (.int .i64 sd) := HX2.out.cell 2 rfl
    have g2 := HX2.out.frozen 2
    have t0 : (0 : Int) ≤ (sd : Int) := by omega
    have u1 : IntKind.i64.wrap ((sd : Int) * 31) = (sd : Int) * 31 := IntWalk.i64_in _ ⟨by omega, by omega⟩
    have u2 : IntKind.i64.wrap (k : Int) = (k : Int) := IntWalk.i64_in _ ⟨by omega, by omega⟩
    have u3 : IntKind.i64.wrap (x : Int) = (x : Int) := IntWalk.i64_in _ ⟨by omega, by omega⟩
    have u4 : IntKind.i64.wrap ((sd : Int) * 31 + (x : Int)) = (sd : Int) * 31 + (x : Int) := IntWalk.i64_in _ ⟨by omega, by omega⟩
    have u5 : IntKind.i64.wrap ((sd : Int) * 31 + (x : Int) + 7) = (sd : Int) * 31 + (x : Int) + 7 := IntWalk.i64_in _ ⟨by omega, by omega⟩
    go_still_tail 21, (by kernel_rfl)
    change wpList _ _ _ _ _ w2.drew
    go_wp2
    clear u1 u2 u3 u4 u5
    have e1 : ((sd : Int) * 31 + (x : Int) + 7) % 2147483648 = (((sd * 31 + x + 7) % 2147483648 : Nat) : Int) := by omega
    have e2 : (sd * 31 + x + 7) % 2147483648 < 2147483648 := Nat.mod_lt _ (by omega)
    rw [e1]
    clear e1
    generalize (sd * 31 + x + 7) % 2147483648 = s2 at e2 HV ⊢
    have kA : Btw b (b + 1) w2 ((w2.setCell ⟨b, 2, none⟩ (.int .i64 (s2 : Int))).drew) := ((Btw.refl b (b + 1) _).setCell (p := ⟨b, 2, none⟩) (by show b ≤ b; omega) (by show b < b + 1; omega) _).drew
    have HX3 := Lib.hid (src_seed HX2.out s2).drew
    have HB3 := Lib.hid (HB2.out.trans kA)
    have HZ3 := Lib.hid (HZ2.out.btw kA (Nat.le_refl _))
    have hc3 := kA.cell hc2 (.inl hbb)
    clear f0 f1 f2 g2 hc2 HX2 HB2 HZ2 kA
    generalize (w2.setCell ⟨b, 2, none⟩ (.int .i64 (s2 : Int))).drew = w3 at HX3 HB3 HZ3 hc3 ⊢
    have f0 : w3.cell? ⟨b, 0, none⟩ = some (.slice (some ⟨bb, off, none⟩) n c) := HX3.out.cell 0 rfl
    have f1 : w3.cell? ⟨b, 1, none⟩ = some (.int .i64 ((k : Int) + 1)) := HX3.out.cell 1 rfl
    have u2 : IntKind.i64.wrap (k : Int) = (k : Int) := IntWalk.i64_in _ ⟨by omega, by omega⟩
    have u3 : IntKind.i64.wrap (x : Int) = (x : Int) := IntWalk.i64_in _ ⟨by omega, by omega⟩
    go_quiet (fail)
    clear u2 u3
    go_wp2
    refine bodyPost_ret (v := .int .i64 (x : Int)) (by simp [results, Try.results80, go_sem]) rfl ?_
    rw [HV.out]
    exact ⟨rfl, Lib.hid ⟨HX3.out.drewN _, e2, HL.out, HZ3.out.btw ((Btw.refl b (b + 1) w3).drewN _) (Nat.le_refl _)⟩, HB3.out.drewN _⟩
  · have hlt' : ¬ (k : Int) + 1 ≤ (n : Int) := by omega
    by_cases h3 : 3000 < (k : Int) + 1
    · have HV : Hid (byteV zs k sd = (0, k + 1, sd)) := Lib.hid (by unfold byteV; rw [if_neg (by rw [HL.out]; exact hlt), if_pos (by omega)])
      go_quiet (fail)
      go_wp2
      refine bodyPost_ret (v := .int .i64 ((0 : Nat) : Int)) (by simp [results, Try.results80, go_sem]) rfl ?_
      rw [HV.out]
      exact ⟨rfl, Lib.hid ⟨HX.out.drewN nq, hs, HL.out, HZ.out.btw ((Btw.refl b (b + 1) w1).drewN nq) (Nat.le_refl _)⟩, HB.out.drewN nq⟩
    · have HV : Hid (byteV zs k sd = ((sd * 1103515245 + 12345) % 2147483648 / 65536 % 256, k + 1, (sd * 1103515245 + 12345) % 2147483648)) := Lib.hid (by unfold byteV; rw [if_neg (by rw [HL.out]; exact hlt), if_neg (by omega)])
      go_quiet (fail)
      go_wp2
      have e1 : ((sd : Int) * 1103515245 + 12345) % 2147483648 = (((sd * 1103515245 + 12345) % 2147483648 : Nat) : Int) := by omega
      have e2 : (sd * 1103515245 + 12345) % 2147483648 < 2147483648 := Nat.mod_lt _ (by omega)
      rw [e1]
      generalize (sd * 1103515245 + 12345) % 2147483648 = s2 at e2 HV ⊢
      have e3 : (s2 : Int) / 65536 % 256 = ((s2 / 65536 % 256 : Nat) : Int) := by omega
      rw [e3]
      have kA : Btw b (b + 1) (w1.drewN nq) ((w1.drewN nq).setCell ⟨b, 2, none⟩ (.int .i64 (s2 : Int))) := (Btw.refl b (b + 1) _).setCell (p := ⟨b, 2, none⟩) (by show b ≤ b; omega) (by show b < b + 1; omega) _
      have kB := ((Btw.refl b (b + 1) w1).drewN nq).trans kA
      refine bodyPost_ret (v := .int .i64 ((s2 / 65536 % 256 : Nat) : Int)) (by simp [results, Try.results80, go_sem]) rfl ?_
      rw [HV.out]
      exact ⟨rfl, Lib.hid ⟨src_seed (HX.out.drewN nq) s2, e2, HL.out, HZ.out.btw kB (Nat.le_refl _)⟩, HB.out.trans kB⟩

set_option maxRecDepth 100000 in
theorem srcByte (b : Nat) (A : Option Addr) (n c : Nat) (zs : List Nat) (K : Nat) (w : World) (hK : K ≤ 1000000000) (h : Src w b A n c zs K) :
    Calls Try.prog 80 #[.pointer (some ⟨b, 0, none⟩)] w fun e w' => ∃ v : Nat, e = .returned (.int .i64 v) ∧ v < 256 ∧ Hid (Src w' b A n c zs (K + 1)) ∧ Btw b (b + 1) w w' := by
  obtain ⟨k, sd, hk, hx⟩ := h.exact
  refine (srcByteX b A n c zs k sd w (by omega) hx).mono ?_
  rintro e w' ⟨rfl, h2, h3⟩
  exact ⟨_, rfl, hx.byteV_lt, Lib.hid (h2.out.src (by rw [byteV_at]; omega)), h3⟩
end Go.Proofs.Ythobepmlopegbaa

/- A []byte that came in, opened: its bytes as numbers below 256, in a block that is there. -/
namespace Go.Proofs.Ythobepmlopegbaa
open Go.RowKit Go.ChangeShapes Go.WideShapes

theorem open_bytes {H : Type} {enc : TypeId × Value → H} {P : Program} {w : World} {spare : Nat → Bool} {held : Bool} {t e : TypeId} {fuel : Nat} {v : Value} {x : DataW H × List MemPlace} (ht : P.underlying t = some (.slice e)) (he : P.underlying e = some (.int .u8)) (hce : P.cellsOf e = 1)
    (h : DataW.trod enc P w 0 spare held fuel t [v] = some x) :
    ∃ A n c, ∃ zs : List Nat, v = .slice A n c ∧ zs.length = n ∧ n ≤ maxLen ∧ ByB w w.heap.size A zs := by
  rcases Deep.open_slice1 ht hce h with ⟨hcs, _⟩ | ⟨a, len, cap, m, k, V, D, Pl, hcs, _, hl, hm, hmm, _, hx⟩
  · injection hcs with hv _
    exact ⟨none, 0, 0, [], hv, rfl, by unfold maxLen; omega, fun i hi => by simp at hi⟩
  · injection hcs with hv _
    have hlm : len ≤ m := by rw [hmm]; split <;> omega
    obtain ⟨S, hS⟩ := Deep.choose_lt (n := len) (p := fun i (s : Nat) => w.cell? (a.add i) = some (.int .u8 (s : Int)) ∧ s < 256) (fun i hi => by
      obtain ⟨h1, h2⟩ := hx i (by omega)
      obtain ⟨s, hc, _, hs⟩ := DataW.trod_int he h2
      injection hc with hc _
      have hr : 0 ≤ s ∧ s < 256 := by
        have hs' : decide (IntKind.u8.min ≤ s) && decide (s ≤ IntKind.u8.max) := hs
        rw [Bool.and_eq_true, decide_eq_true_eq, decide_eq_true_eq] at hs'
        have e1 : IntKind.u8.min = 0 := by decide
        have e2 : IntKind.u8.max = 255 := by decide
        rw [e1, e2] at hs'
        omega
      exact ⟨s.toNat, by rw [h1, hc, Int.toNat_of_nonneg hr.1], by omega⟩)
    refine ⟨some a, len, cap, (List.range len).map S, hv, by simp, by omega, fun i hi => ?_⟩
    have hi' : i < len := by simpa using hi
    have h0 := (hS 0 (by omega)).1
    have hsp := World.cell?_spot h0
    obtain ⟨b, off, spot⟩ := a
    have hsp' : spot = none := by simpa [Addr.add] using hsp
    subst hsp'
    have hc := add_plain (hS i hi').1 rfl
    refine ⟨b, off, rfl, cell_lt hc, ?_, ?_⟩
    · rw [getD_range len S _ i hi']; exact hc
    · rw [getD_range len S _ i hi']; exact (hS i hi').2
set_option maxRecDepth 100000 in
theorem cellsU8 : Try.prog.cellsOf 5 = 1 := by kernel_rfl
end Go.Proofs.Ythobepmlopegbaa

/- Contracts of blockPage, guardPage, l04Pages and both PagesOf: the image of a flash. -/
namespace Go.Proofs.Ythobepmlopegbaa
open Go.RowKit

/-- The digits of these bytes. -/
def hexCat (zs : List Int) : List UInt8 := zs.flatMap fun z => [hx (z.toNat / 16), hx (z.toNat % 16)]
theorem hexCat_app (a b : List Int) : hexCat (a ++ b) = hexCat a ++ hexCat b := by simp [hexCat]
theorem hexCat_one (n : Nat) : hexCat [(n : Int)] = [hx (n / 16), hx (n % 16)] := by simp [hexCat]
theorem hexCat_len (zs : List Int) : (hexCat zs).length = 2 * zs.length := by
  induction zs with
  | nil => rfl
  | cons z l ih => rw [show z :: l = [z] ++ l from rfl, hexCat_app, List.length_append, ih]; simp [hexCat]; omega
/-- The bytes of a block. -/
def blockL (zs : List Int) (b : Nat) : List Int := (zs.drop (16 * b)).take 16
def pageB (zs : List Int) (b : Nat) : ByteArray := bs (hexCat (blockL zs b))
def gch (g : Bool) : UInt8 := if g then 49 else 48
def guardB (gs : List Bool) : ByteArray := bs (gs.map gch)
/-- A flash's pages. -/
def pagesL (zs : List Int) (gs : List Bool) : List ByteArray := (List.range 16).map (pageB zs) ++ [guardB gs]

theorem hex_next (l : List Int) (n : Nat) : bs (hexCat l) ++ hex2 n = bs (hexCat (l ++ [(n : Int)])) := by
  rw [hexCat_app, hexCat_one, ← bs_app]; rfl

theorem block_at (zs : List Int) (b k : Nat) (_hl : zs.length = 256) (_hb : b < 16) (hk : k < 16) : (blockL zs b).getD k 0 = zs.getD (b * 16 + k) 0 := by
  unfold blockL
  simp only [List.getD_eq_getElem?_getD, List.getElem?_take, List.getElem?_drop, if_pos hk]
  rw [show 16 * b + k = b * 16 + k by omega]
theorem block_len (zs : List Int) (b : Nat) (hl : zs.length = 256) (hb : b < 16) : (blockL zs b).length = 16 := by unfold blockL; simp; omega
theorem block_next (zs : List Int) (b k : Nat) (hl : zs.length = 256) (hb : b < 16) (hk : k < 16) : (blockL zs b).take k ++ [zs.getD (b * 16 + k) 0] = (blockL zs b).take (k + 1) := by
  have h := block_len zs b hl hb
  rw [← block_at zs b k hl hb hk, List.take_succ_eq_append_getElem (by omega), List.getD_eq_getElem?_getD, List.getElem?_eq_getElem (by omega), Option.getD_some]

set_option maxRecDepth 100000 in
set_option maxHeartbeats 1000000 in
theorem blockPage (A C : Option Addr) (c m d : Nat) (st : Int) (zs : List Int) (b : Nat) (w : World) (hl : zs.length = 256) (hz : ∀ z ∈ zs, 0 ≤ z ∧ z ≤ 255) (hc : 256 ≤ c) (hb : b < 16) (h : IntL w A zs) :
    Calls Try.prog 38 #[.agg #[.slice A 256 c, .slice C m d, .int .i64 st], .int .i64 (b : Int)] w fun e w' => e = .returned (.string (pageB zs b)) ∧ Below w.heap.size w w' := by
  have hb0 := alloc_below w (.cells #[.slice A 256 c, .slice C m d, .int .i64 st] 26)
  obtain ⟨B, off, rfl, _⟩ := h 0 (by omega)
  have HA : Hid (∀ k, k < 256 → ∃ z : Nat, z ≤ 255 ∧ zs.getD k 0 = z ∧ w.cell? ⟨B, off + k, none⟩ = some (.int .i64 (z : Int))) := Lib.hid (by
    intro k hk
    obtain ⟨B', off', e, hc'⟩ := h k (by omega)
    injection e with e; injection e with e1 e2
    have hm : zs.getD k 0 ∈ zs := by
      rw [List.getD_eq_getElem?_getD, List.getElem?_eq_getElem (by omega), Option.getD_some]; exact List.getElem_mem _
    have := hz _ hm
    refine ⟨(zs.getD k 0).toNat, by omega, by omega, ?_⟩
    rw [show (((zs.getD k 0).toNat : Nat) : Int) = zs.getD k 0 by omega, e1, e2]
    exact hc')
  have HL := Lib.hid hl
  have e1 : IntKind.i64.wrap ((b : Int) * 16) = (b : Int) * 16 := IntWalk.i64_in _ (by omega)
  have e2 : IntKind.i64.wrap ((b : Int) + 1) = (b : Int) + 1 := IntWalk.i64_in _ (by omega)
  have e3 : IntKind.i64.wrap (((b : Int) + 1) * 16) = ((b : Int) + 1) * 16 := IntWalk.i64_in _ (by omega)
  clear hl hz h
  go_enter Try.func38, Try.ntmps38
  go_wp2
  rw [show (b + 1) * 16 - b * 16 = 16 by omega]
  go_loopw [5, 17] (fun t i wr => ∃ k : Nat, k ≤ 16 ∧ t = .string (bs (hexCat ((blockL zs b).take k))) ∧ i = .int .i64 (k : Int) ∧ Below w.heap.size w wr) (fun _ i _ => 16 - (intOf i).toNat)
  case atStart => exact ⟨0, by omega, rfl, rfl, hb0⟩
  case round =>
    obtain ⟨k, hk, rfl, rfl, hbw⟩ := hrel
    by_cases hlt : k < 16
    · obtain ⟨z, hz, hg, hc'⟩ := HA.out (b * 16 + k) (by omega)
      have HN : Hid (bs (hexCat ((blockL zs b).take k)) ++ hex2 z = bs (hexCat ((blockL zs b).take (k + 1)))) := Lib.hid (by
        rw [hex_next, ← hg, block_next zs b k HL.out hb hlt])
      have hc2 : wr.cell? ⟨B, off + b * 16 + k, none⟩ = some (.int .i64 (z : Int)) := by
        rw [show off + b * 16 + k = off + (b * 16 + k) by omega]; exact (hbw.cell (cell_lt hc')).trans hc'
      have hnl : ¬ 9223372036854775807 < (bs (hexCat ((blockL zs b).take k))).size + (hex2 z).size := by
        rw [bs_size, hexCat_len, hex2_size]; simp; omega
      have HX := Lib.hid (fun W => hexText z hz W)
      generalize bs (hexCat ((blockL zs b).take k)) = t at HN hnl
      generalize hex2 z = u at HN hnl HX
      have hi : (k : Int) < 16 := by omega
      clear hg hc'
      go_wp2_with fail
      refine (HX.out _).mono ?_
      rintro e w2 ⟨rfl, hb2⟩
      have hb3 := bt hbw hb2
      go_wp2
      go_roundw
      case rel => first | exact ⟨k + 1, by omega, by rw [HN.out], by go_num, hb3⟩ | ((repeat apply Exists.intro); exact ⟨⟨k + 1, by omega, by rw [HN.out], by go_num, hb3⟩, rfl⟩)
      case measure => simp [intOf]; omega
    · obtain rfl : k = 16 := by omega
      have HF : Hid (bs (hexCat ((blockL zs b).take 16)) = pageB zs b) := Lib.hid (by
        unfold pageB; rw [List.take_of_length_le (by unfold blockL; simp; omega)])
      rw [HF.out]
      go_wp2
      go_ret
      exact ⟨rfl, hbw⟩

set_option maxRecDepth 100000 in
theorem infoU : (Try.prog.info? 5).map (fun i => (i.zero, i.size, i.bytes)) = some (some (.int .u8 0), 1, 1) := by kernel_rfl
theorem gch_nat (g : Bool) : ((gch g).toNat : Int) = if g then 49 else 48 := by cases g <;> rfl
theorem row_next {α : Type} (mk : α → Value) (d : α) (z : Value) {w : World} {b n k : Nat} {t : TypeId} {l : List α} {x : α} (h : w.rowIs b t n (fun i => if i = k then mk x else (fun j => if j < k then mk (l.getD j d) else z) i)) (hx : l.getD k d = x) : w.rowIs b t n (fun j => if j < k + 1 then mk (l.getD j d) else z) :=
  h.congr fun i _ => by
    by_cases e : i = k
    · subst e; rw [if_pos rfl, if_pos (by omega), hx]
    · rw [if_neg e]
      by_cases e2 : i < k
      · rw [if_pos (by omega)]; simp only; rw [if_pos e2]
      · rw [if_neg (by omega)]; simp only; rw [if_neg e2]

set_option maxRecDepth 100000 in
set_option maxHeartbeats 1000000 in
theorem guardPage (A C : Option Addr) (n c d : Nat) (st : Int) (gs : List Bool) (w : World) (hm : gs.length = 16) (g : BoolL w C gs) :
    Calls Try.prog 39 #[.agg #[.slice A n c, .slice C 16 d, .int .i64 st]] w fun e w' => e = .returned (.string (guardB gs)) ∧ Below w.heap.size w w' := by
  have hb0 := alloc_below w (.cells #[.slice A n c, .slice C 16 d, .int .i64 st] 26)
  have HM := Lib.hid hm
  have G := Lib.hid g
  have X0 := Box.new w 26 #[.slice A n c, .slice C 16 d, .int .i64 st]
  have hmk : ∀ W, (Instr.makeSlice 22 (.int .i64 16) (.int .i64 16)).run Try.prog W = .ok (.slice (some ⟨W.heap.size, 0, none⟩) 16 16) (W.alloc (.cells (madeCells #[.int .u8 0] 16) 5)) := fun W => run_make_row' (P := Try.prog) 22 5 (.int .u8 0) 1 Try.underlying22 infoU rfl .i64 .i64 16 (by omega) (by omega) W
  obtain ⟨w1, hw1⟩ : ∃ w1, w1 = (w.alloc (.cells #[.slice A n c, .slice C 16 d, .int .i64 st] 26)).alloc (.cells (madeCells #[.int .u8 0] 16) 5) := ⟨_, rfl⟩
  have hb1 : Below w.heap.size w w1 := by rw [hw1]; exact hb0.alloc (by simp) _
  have f1 : w1.cell? ⟨w.heap.size, 1, none⟩ = some (.slice C 16 d) := by rw [hw1]; exact (X0.alloc _).cell 1 rfl
  have HR : Hid (w1.rowIs (w.heap.size + 1) 5 16 (fun _ => .int .u8 0)) := Lib.hid (by rw [hw1]; simpa using World.rowIs_made (w.alloc (.cells #[.slice A n c, .slice C 16 d, .int .i64 st] 26)) (.int .u8 0) 16 5)
  have HW1 := Lib.hid hw1
  rw [hw1] at f1
  clear hm g X0 hb0 hw1
  go_enter Try.func39, Try.ntmps39
  go_wp2
  rw [← HW1.out]
  clear hmk f1
  go_loopw [10] (fun i wr => ∃ k : Nat, k ≤ 16 ∧ i = .int .i64 k ∧ Below w.heap.size w wr ∧ Hid (wr.rowIs (w.heap.size + 1) 5 16 (fun j => if j < k then (fun g => Value.int .u8 ((gch g).toNat : Int)) (gs.getD j false) else .int .u8 0))) (fun i _ => 16 - (intOf i).toNat)
  case atStart => exact ⟨0, Nat.zero_le _, rfl, hb1, Lib.hid (HR.out.congr (fun i _ => by simp))⟩
  case round =>
    clear HR hb1
    obtain ⟨k, hk, rfl, hbw, HRk⟩ := hrel
    by_cases hlt : k < 16
    · obtain ⟨b, off, rfl, hc⟩ := (G.out.below hbw) k (by rw [HM.out]; exact hlt)
      have hcd := HRk.out.cell hlt
      have hfr := HRk.out.frozen k
      simp only [Nat.lt_irrefl, if_false] at hcd
      generalize hx : gs.getD k false = x at hc
      have HX := Lib.hid hx
      clear hx
      have hi : (k : Int) < 16 := by omega
      cases x
      · have HW : Hid ((wr.setCell ⟨w.heap.size + 1, k, none⟩ (.int .u8 48)).rowIs (w.heap.size + 1) 5 16 (fun j => if j < k + 1 then (fun g => Value.int .u8 ((gch g).toNat : Int)) (gs.getD j false) else .int .u8 0)) := Lib.hid (row_next (fun g => Value.int .u8 ((gch g).toNat : Int)) false (.int .u8 0) (x := false) (HRk.out.set k (.int .u8 48)) HX.out)
        clear HRk
        go_wp2
        go_roundw
        case rel => first | exact ⟨k + 1, by omega, by go_num, hbw.setCell (by show w.heap.size ≤ w.heap.size + 1; omega) _, HW⟩ | ((repeat apply Exists.intro); exact ⟨⟨k + 1, by omega, by go_num, hbw.setCell (by show w.heap.size ≤ w.heap.size + 1; omega) _, HW⟩, rfl⟩)
        case measure => simp [intOf]; omega
      · have HW : Hid (((wr.setCell ⟨w.heap.size + 1, k, none⟩ (.int .u8 48)).setCell ⟨w.heap.size + 1, k, none⟩ (.int .u8 49)).rowIs (w.heap.size + 1) 5 16 (fun j => if j < k + 1 then (fun g => Value.int .u8 ((gch g).toNat : Int)) (gs.getD j false) else .int .u8 0)) := Lib.hid (row_next (fun g => Value.int .u8 ((gch g).toNat : Int)) false (.int .u8 0) (x := true) (((HRk.out.set k (.int .u8 48)).set k (.int .u8 49)).congr (fun i _ => by by_cases e : i = k <;> simp [e]; rfl)) HX.out)
        clear HRk
        go_wp2
        go_roundw
        case rel => first | exact ⟨k + 1, by omega, by go_num, (hbw.setCell (by show w.heap.size ≤ w.heap.size + 1; omega) _).setCell (by show w.heap.size ≤ w.heap.size + 1; omega) _, HW⟩ | ((repeat apply Exists.intro); exact ⟨⟨k + 1, by omega, by go_num, (hbw.setCell (by show w.heap.size ≤ w.heap.size + 1; omega) _).setCell (by show w.heap.size ≤ w.heap.size + 1; omega) _, HW⟩, rfl⟩)
        case measure => simp [intOf]; omega
    · obtain rfl : k = 16 := by omega
      have hcv : (convert 22 9 (.slice (some ⟨w.heap.size + 1, 0, none⟩) 16 16)).run Try.prog wr = .ok (.string (guardB gs)) wr := by
        have := run_convert_bytes_back (P := Try.prog) wr 22 9 5 ⟨w.heap.size + 1, 0, none⟩ 16 (gs.map gch) Try.underlying22 Try.underlying5 Try.underlying9 (fun i hi => by
          have hi' : i < 16 := by simpa [HM.out] using hi
          have h2 := HRk.out.cell hi'
          rw [if_pos hi'] at h2
          rw [addr_add, Nat.zero_add, h2]
          simp only [List.getElem_map, List.getD_eq_getElem?_getD]
          rw [List.getElem?_eq_getElem (by have := HM.out; omega), Option.getD_some])
        rw [List.length_map, HM.out] at this
        exact this
      clear HRk
      go_wp2
      go_ret
      exact ⟨rfl, hbw⟩
end Go.Proofs.Ythobepmlopegbaa

/- A part of a text, as a list. -/
namespace Go.Proofs.Ythobepmlopegbaa
theorem ext_list (t : ByteArray) (i j : Nat) : (t.extract i j).data.toList = (t.data.toList.drop i).take (j - i) := by
  rw [ByteArray.data_extract, Array.toList_extract, List.extract_eq_take_drop]
end Go.Proofs.Ythobepmlopegbaa

/- Contracts of readPage: 16 numbers of one or two digits each. Written by gen_readpage.py. -/
namespace Go.Proofs.Ythobepmlopegbaa
open Go.RowKit

/-- Numbers of wd digits each, one behind the other. -/
def pageNums (ds : List UInt8) (wd : Nat) : Nat → List UInt8 → Option (List Int)
  | 0, _ => some []
  | c + 1, l => match readNum ds 0 (l.take wd) with
    | none => none
    | some v => (pageNums ds wd c (l.drop wd)).map ((v : Int) :: ·)
theorem pageNums_len {ds : List UInt8} {wd : Nat} : ∀ {c : Nat} {l : List UInt8} {r : List Int}, pageNums ds wd c l = some r → r.length = c
  | 0, _, _, h => by simp [pageNums] at h; subst h; rfl
  | c + 1, l, r, h => by
    unfold pageNums at h
    split at h
    · cases h
    · cases hp : pageNums ds wd c (l.drop wd) with
      | none => rw [hp] at h; cases h
      | some r' => rw [hp] at h; simp at h; subst h; simp [pageNums_len hp]
theorem optmap_app (o : Option (List Int)) (a : List Int) (x : Int) : (o.map (x :: ·)).map (a ++ ·) = o.map ((a ++ [x]) ++ ·) := by cases o <;> simp
theorem row_app {w : World} {b n k : Nat} {t : TypeId} {acc : List Int} {v : Int} (hk : acc.length = k) (h : w.rowIs b t n (fun i => if i = k then .int .i64 v else (fun j => if j < k then Value.int .i64 (acc.getD j 0) else .int .i64 0) i)) : w.rowIs b t n (fun j => if j < k + 1 then Value.int .i64 ((acc ++ [v]).getD j 0) else .int .i64 0) :=
  h.congr fun i _ => by
    by_cases e : i = k
    · subst e
      rw [if_pos rfl, if_pos (by omega)]
      subst hk
      simp [List.getD_eq_getElem?_getD]
    · rw [if_neg e]
      by_cases e2 : i < k
      · rw [if_pos (by omega)]; simp only; rw [if_pos e2, List.getD_eq_getElem?_getD, List.getD_eq_getElem?_getD, List.getElem?_append_left (by omega)]
      · rw [if_neg (by omega)]; simp only; rw [if_neg e2]


def page1 (ds : List UInt8) (t : ByteArray) : Option (List Int) := if t.size = 16 then pageNums ds 1 16 t.data.toList else none
set_option maxRecDepth 100000 in
set_option maxHeartbeats 4000000 in
theorem readPage1 (t ds : ByteArray) (w : World) (ha : ∀ b ∈ ds.data.toList, b.toNat < 128) (hs : ds.size ≤ 16) (ht : t.size ≤ maxLen) :
    Calls Try.prog 74 #[.string t, .string ds, .int .i64 1, .int .i64 16] w fun e w' =>
      ((page1 ds.data.toList t = none ∧ e = .returned (.tuple #[.slice none 0 0, .bool false])) ∨ (∃ r A c, page1 ds.data.toList t = some r ∧ e = .returned (.tuple #[.slice A 16 c, .bool true]) ∧ Hid (OwnI w' w.heap.size w'.heap.size A r) ∧ r.length = 16)) ∧ Below w.heap.size w w' := by
  unfold maxLen at ht
  by_cases hq0 : t.size = 16
  · have hq : ((t.size : Int) != 16) = false := by simp; omega
    have HP : Hid (page1 ds.data.toList t = pageNums ds.data.toList 1 16 t.data.toList) := Lib.hid (by unfold page1; rw [if_pos hq0])
    generalize page1 ds.data.toList t = res at HP ⊢
    obtain ⟨w1, hw1⟩ : ∃ w1, w1 = (w.alloc (.cells #[.string ds] 9)).alloc (.cells #[.int .i64 ((1 : Nat) : Int)] 3) := ⟨_, rfl⟩
    have hb1 : Below w.heap.size w w1 := by rw [hw1]; exact ((Below.refl _ _).alloc (Nat.le_refl _) _).alloc (by simp) _
    have X0 : Box w1 w.heap.size 9 #[.string ds] := by rw [hw1]; exact (Box.new _ _ _).alloc _
    have X1 : Box w1 (w.heap.size + 1) 3 #[.int .i64 ((1 : Nat) : Int)] := by rw [hw1]; simpa using Box.new (w.alloc (.cells #[.string ds] 9)) 3 #[.int .i64 ((1 : Nat) : Int)]
    have hs1 : w1.heap.size = w.heap.size + 2 := by rw [hw1]; simp
    have HD := Lib.hid (digitReader ds 1 w)
    rw [← hw1] at HD
    have HX := Lib.hid (fun s W (x0 : Box W w.heap.size 9 #[.string ds]) (x1 : Box W (w.heap.size + 1) 3 #[.int .i64 ((1 : Nat) : Int)]) => digitRead s ds 1 (w.heap.size + 1) w.heap.size W ha hs (by omega) (x1.cell 0 rfl) (x0.cell 0 rfl))
    have hmk : ∀ W, (Instr.makeSlice 23 (.int .i64 16) (.int .i64 16)).run Try.prog W = .ok (.slice (some ⟨W.heap.size, 0, none⟩) 16 16) (W.alloc (.cells (madeCells #[.int .i64 0] 16) 3)) := fun W => run_make_row' (P := Try.prog) 23 3 (.int .i64 0) 8 Try.underlying23 infoI rfl .i64 .i64 16 (by omega) (by omega) W
    have HQ0 := Lib.hid hq0
    have HX0 := Lib.hid X0
    have HX1 := Lib.hid X1
    have HS1 := Lib.hid hs1
    clear hw1 X0 X1 ha hs hq0 hs1
    go_enter Try.func74, Try.ntmps74
    go_wp2_with fail
    refine HD.out.mono ?_
    rintro e w' ⟨rfl, rfl⟩
    have HR : Hid ((w1.alloc (.cells (madeCells #[.int .i64 0] 16) 3)).rowIs (w.heap.size + 2) 3 16 (fun _ => .int .i64 0)) := Lib.hid (by have := World.rowIs_made w1 (.int .i64 0) 16 3; rwa [HS1.out] at this)
    have hb2 : Below w.heap.size w (w1.alloc (.cells (madeCells #[.int .i64 0] 16) 3)) := bt hb1 (alloc_below _ _)
    have HY0 := Lib.hid (HX0.out.alloc (.cells (madeCells #[.int .i64 0] 16) 3))
    have HY1 := Lib.hid (HX1.out.alloc (.cells (madeCells #[.int .i64 0] 16) 3))
    clear HX0 HX1 hb1 HD
    go_wp2
    clear hmk
    rw [HS1.out]
    generalize w1.alloc (.cells (madeCells #[.int .i64 0] 16) 3) = w2 at HR hb2 HY0 HY1
    go_loopw [28] (fun i wr => ∃ (k : Nat) (acc : List Int), k ≤ 16 ∧ i = .int .i64 k ∧ acc.length = k ∧ Below w.heap.size w wr ∧ Hid (wr.rowIs (w.heap.size + 2) 3 16 (fun j => if j < k then Value.int .i64 (acc.getD j 0) else .int .i64 0)) ∧ Hid (res = (pageNums ds.data.toList 1 (16 - k) (t.data.toList.drop (k * 1))).map (acc ++ ·)) ∧ Hid (Box wr w.heap.size 9 #[.string ds]) ∧ Hid (Box wr (w.heap.size + 1) 3 #[.int .i64 ((1 : Nat) : Int)])) (fun i _ => 16 - (intOf i).toNat)
    case atStart => exact ⟨0, [], by omega, rfl, rfl, hb2, Lib.hid (HR.out.congr (fun i _ => by simp)), Lib.hid (by rw [HP.out]; simp), HY0, HY1⟩
    case round =>
      clear HR hb2 HY0 HY1
      obtain ⟨k, acc, hk, rfl, hacc, hbw, HRk, HT, Y0, Y1⟩ := hrel
      by_cases hlt : k < 16
      · have hi : (k : Int) < 16 := by omega
        have e1 : IntKind.i64.wrap ((k : Int) * 1) = (k : Int) * 1 := IntWalk.i64_in _ (by omega)
        have e2 : IntKind.i64.wrap ((k : Int) + 1) = (k : Int) + 1 := IntWalk.i64_in _ (by omega)
        have e3 : IntKind.i64.wrap (((k : Int) + 1) * 1) = ((k : Int) + 1) * 1 := IntWalk.i64_in _ (by omega)
        have HXk := Lib.hid (HX.out (t.extract (k) (k + 1)) wr Y0.out Y1.out)
        have hsz : (t.extract (k) (k + 1)).size = 1 := by rw [ByteArray.size_extract, HQ0.out]; omega
        have HE : Hid ((if (t.extract (k) (k + 1)).size = 1 then readNum ds.data.toList 0 (t.extract (k) (k + 1)).data.toList else none) = readNum ds.data.toList 0 ((t.data.toList.drop (k * 1)).take 1)) := Lib.hid (by rw [if_pos hsz, ext_list, show (k + 1) - (k) = 1 by omega]; simp)
        rw [HE.out] at HXk
        have HN : Hid (pageNums ds.data.toList 1 (16 - k) (t.data.toList.drop (k * 1)) = match readNum ds.data.toList 0 ((t.data.toList.drop (k * 1)).take 1) with | none => none | some v => (pageNums ds.data.toList 1 (16 - (k + 1)) (t.data.toList.drop ((k + 1) * 1))).map ((v : Int) :: ·)) := Lib.hid (by
          rw [show 16 - k = (16 - (k + 1)) + 1 by omega, pageNums, List.drop_drop, show k * 1 + 1 = (k + 1) * 1 by omega])
        generalize readNum ds.data.toList 0 ((t.data.toList.drop (k * 1)).take 1) = o at HXk HN
        have HSz := Lib.hid hsz
        have b1 : (0 : Int) ≤ (k : Int) * 1 := by omega
        have b2 : (k : Int) * 1 ≤ ((k : Int) + 1) * 1 := by omega
        have b3 : ((k : Int) + 1) * 1 ≤ (t.size : Int) := by rw [HQ0.out]; omega
        have b4 : ((k : Int) * 1).toNat = k * 1 := by omega
        have b5 : (((k : Int) + 1) * 1).toNat = (k + 1) * 1 := by omega
        clear hsz HE
        go_wp2_with fail
        refine HXk.out.mono ?_
        rintro e w3 ⟨rfl, hb3⟩
        have hbz := bt hbw hb3
        have Z0 := Lib.hid (Y0.out.step hb3)
        have Z1 := Lib.hid (Y1.out.step hb3)
        have HR3 := Lib.hid (row_below hb3 HRk.out HRk.out.lt)
        clear HRk Y0 Y1 hb3 hbw HXk b1 b2 b3 b4 b5
        cases o with
        | none =>
          have HF : Hid (res = none) := Lib.hid (by rw [HT.out, HN.out]; rfl)
          simp only [dvV, Option.isSome_none]
          go_wp2
          refine bodyPost_ret (v := .tuple #[.slice none 0 0, .bool false]) (by simp [results, Try.results74, go_sem]) rfl ?_
          exact ⟨.inl ⟨HF.out, rfl⟩, hbz⟩
        | some v =>
          simp only [dvV, Option.isSome_some]
          have hcd := HR3.out.cell hlt
          have hfr := HR3.out.frozen k
          simp only [Nat.lt_irrefl, if_false] at hcd
          have HW : Hid ((w3.setCell ⟨w.heap.size + 2, k, none⟩ (.int .i64 (v : Int))).rowIs (w.heap.size + 2) 3 16 (fun j => if j < k + 1 then Value.int .i64 ((acc ++ [(v : Int)]).getD j 0) else .int .i64 0)) := Lib.hid (row_app hacc (HR3.out.set k (.int .i64 (v : Int))))
          have HT2 : Hid (res = (pageNums ds.data.toList 1 (16 - (k + 1)) (t.data.toList.drop ((k + 1) * 1))).map ((acc ++ [(v : Int)]) ++ ·)) := Lib.hid (by rw [HT.out, HN.out]; simp only; rw [optmap_app])
          have q0 := Lib.hid (Z0.out.far (p := ⟨w.heap.size + 2, k, none⟩) (by show w.heap.size ≠ w.heap.size + 2; omega) (.int .i64 (v : Int)))
          have q1 := Lib.hid (Z1.out.far (p := ⟨w.heap.size + 2, k, none⟩) (by show w.heap.size + 1 ≠ w.heap.size + 2; omega) (.int .i64 (v : Int)))
          have hbs : Below w.heap.size w (w3.setCell ⟨w.heap.size + 2, k, none⟩ (.int .i64 (v : Int))) := hbz.setCell (by show w.heap.size ≤ w.heap.size + 2; omega) _
          have hl2 : (acc ++ [(v : Int)]).length = k + 1 := by simp [hacc]
          have HL2 := Lib.hid hl2
          clear HR3 Z0 Z1 hbz HT HN hacc hl2
          go_wp2
          go_roundw
          case rel => first | exact ⟨k + 1, acc ++ [(v : Int)], by omega, by go_num, HL2.out, hbs, HW, HT2, q0, q1⟩ | ((repeat apply Exists.intro); exact ⟨⟨k + 1, acc ++ [(v : Int)], by omega, by go_num, HL2.out, hbs, HW, HT2, q0, q1⟩, rfl⟩)
          case measure => simp [intOf]; omega
      · obtain rfl : k = 16 := by omega
        have HF : Hid (res = some acc) := Lib.hid (by rw [HT.out]; simp [pageNums])
        have HO : Hid (OwnI wr w.heap.size wr.heap.size (some ⟨w.heap.size + 2, 0, none⟩) acc) := Lib.hid (.inr ⟨w.heap.size + 2, 16, _, rfl, by omega, HRk.out.lt, by omega, HRk.out, fun i hi' => by rw [if_pos (by omega)]⟩)
        have HA := Lib.hid hacc
        clear HRk HT hacc
        go_wp2
        refine bodyPost_ret (v := .tuple #[.slice (some ⟨w.heap.size + 2, 0, none⟩) 16 16, .bool true]) (by simp [results, Try.results74, go_sem]) rfl ?_
        exact ⟨.inr ⟨acc, _, _, HF.out, rfl, HO, HA.out⟩, hbw⟩
  · have hq : ((t.size : Int) != 16) = true := by simp; omega
    have HP : Hid (page1 ds.data.toList t = none) := Lib.hid (by unfold page1; rw [if_neg hq0])
    generalize page1 ds.data.toList t = res at HP ⊢
    clear hq0 ha hs
    go_enter Try.func74, Try.ntmps74
    go_wp2
    refine bodyPost_ret (v := .tuple #[.slice none 0 0, .bool false]) (by simp [results, Try.results74, go_sem]) rfl ?_
    exact ⟨.inl ⟨HP.out, rfl⟩, Below.refl _ _⟩


def page2 (ds : List UInt8) (t : ByteArray) : Option (List Int) := if t.size = 32 then pageNums ds 2 16 t.data.toList else none
set_option maxRecDepth 100000 in
set_option maxHeartbeats 4000000 in
theorem readPage2 (t ds : ByteArray) (w : World) (ha : ∀ b ∈ ds.data.toList, b.toNat < 128) (hs : ds.size ≤ 16) (ht : t.size ≤ maxLen) :
    Calls Try.prog 74 #[.string t, .string ds, .int .i64 2, .int .i64 16] w fun e w' =>
      ((page2 ds.data.toList t = none ∧ e = .returned (.tuple #[.slice none 0 0, .bool false])) ∨ (∃ r A c, page2 ds.data.toList t = some r ∧ e = .returned (.tuple #[.slice A 16 c, .bool true]) ∧ Hid (OwnI w' w.heap.size w'.heap.size A r) ∧ r.length = 16)) ∧ Below w.heap.size w w' := by
  unfold maxLen at ht
  by_cases hq0 : t.size = 32
  · have hq : ((t.size : Int) != 32) = false := by simp; omega
    have HP : Hid (page2 ds.data.toList t = pageNums ds.data.toList 2 16 t.data.toList) := Lib.hid (by unfold page2; rw [if_pos hq0])
    generalize page2 ds.data.toList t = res at HP ⊢
    obtain ⟨w1, hw1⟩ : ∃ w1, w1 = (w.alloc (.cells #[.string ds] 9)).alloc (.cells #[.int .i64 ((2 : Nat) : Int)] 3) := ⟨_, rfl⟩
    have hb1 : Below w.heap.size w w1 := by rw [hw1]; exact ((Below.refl _ _).alloc (Nat.le_refl _) _).alloc (by simp) _
    have X0 : Box w1 w.heap.size 9 #[.string ds] := by rw [hw1]; exact (Box.new _ _ _).alloc _
    have X1 : Box w1 (w.heap.size + 1) 3 #[.int .i64 ((2 : Nat) : Int)] := by rw [hw1]; simpa using Box.new (w.alloc (.cells #[.string ds] 9)) 3 #[.int .i64 ((2 : Nat) : Int)]
    have hs1 : w1.heap.size = w.heap.size + 2 := by rw [hw1]; simp
    have HD := Lib.hid (digitReader ds 2 w)
    rw [← hw1] at HD
    have HX := Lib.hid (fun s W (x0 : Box W w.heap.size 9 #[.string ds]) (x1 : Box W (w.heap.size + 1) 3 #[.int .i64 ((2 : Nat) : Int)]) => digitRead s ds 2 (w.heap.size + 1) w.heap.size W ha hs (by omega) (x1.cell 0 rfl) (x0.cell 0 rfl))
    have hmk : ∀ W, (Instr.makeSlice 23 (.int .i64 16) (.int .i64 16)).run Try.prog W = .ok (.slice (some ⟨W.heap.size, 0, none⟩) 16 16) (W.alloc (.cells (madeCells #[.int .i64 0] 16) 3)) := fun W => run_make_row' (P := Try.prog) 23 3 (.int .i64 0) 8 Try.underlying23 infoI rfl .i64 .i64 16 (by omega) (by omega) W
    have HQ0 := Lib.hid hq0
    have HX0 := Lib.hid X0
    have HX1 := Lib.hid X1
    have HS1 := Lib.hid hs1
    clear hw1 X0 X1 ha hs hq0 hs1
    go_enter Try.func74, Try.ntmps74
    go_wp2_with fail
    refine HD.out.mono ?_
    rintro e w' ⟨rfl, rfl⟩
    have HR : Hid ((w1.alloc (.cells (madeCells #[.int .i64 0] 16) 3)).rowIs (w.heap.size + 2) 3 16 (fun _ => .int .i64 0)) := Lib.hid (by have := World.rowIs_made w1 (.int .i64 0) 16 3; rwa [HS1.out] at this)
    have hb2 : Below w.heap.size w (w1.alloc (.cells (madeCells #[.int .i64 0] 16) 3)) := bt hb1 (alloc_below _ _)
    have HY0 := Lib.hid (HX0.out.alloc (.cells (madeCells #[.int .i64 0] 16) 3))
    have HY1 := Lib.hid (HX1.out.alloc (.cells (madeCells #[.int .i64 0] 16) 3))
    clear HX0 HX1 hb1 HD
    go_wp2
    clear hmk
    rw [HS1.out]
    generalize w1.alloc (.cells (madeCells #[.int .i64 0] 16) 3) = w2 at HR hb2 HY0 HY1
    go_loopw [28] (fun i wr => ∃ (k : Nat) (acc : List Int), k ≤ 16 ∧ i = .int .i64 k ∧ acc.length = k ∧ Below w.heap.size w wr ∧ Hid (wr.rowIs (w.heap.size + 2) 3 16 (fun j => if j < k then Value.int .i64 (acc.getD j 0) else .int .i64 0)) ∧ Hid (res = (pageNums ds.data.toList 2 (16 - k) (t.data.toList.drop (k * 2))).map (acc ++ ·)) ∧ Hid (Box wr w.heap.size 9 #[.string ds]) ∧ Hid (Box wr (w.heap.size + 1) 3 #[.int .i64 ((2 : Nat) : Int)])) (fun i _ => 16 - (intOf i).toNat)
    case atStart => exact ⟨0, [], by omega, rfl, rfl, hb2, Lib.hid (HR.out.congr (fun i _ => by simp)), Lib.hid (by rw [HP.out]; simp), HY0, HY1⟩
    case round =>
      clear HR hb2 HY0 HY1
      obtain ⟨k, acc, hk, rfl, hacc, hbw, HRk, HT, Y0, Y1⟩ := hrel
      by_cases hlt : k < 16
      · have hi : (k : Int) < 16 := by omega
        have e1 : IntKind.i64.wrap ((k : Int) * 2) = (k : Int) * 2 := IntWalk.i64_in _ (by omega)
        have e2 : IntKind.i64.wrap ((k : Int) + 1) = (k : Int) + 1 := IntWalk.i64_in _ (by omega)
        have e3 : IntKind.i64.wrap (((k : Int) + 1) * 2) = ((k : Int) + 1) * 2 := IntWalk.i64_in _ (by omega)
        have HXk := Lib.hid (HX.out (t.extract (k * 2) ((k + 1) * 2)) wr Y0.out Y1.out)
        have hsz : (t.extract (k * 2) ((k + 1) * 2)).size = 2 := by rw [ByteArray.size_extract, HQ0.out]; omega
        have HE : Hid ((if (t.extract (k * 2) ((k + 1) * 2)).size = 2 then readNum ds.data.toList 0 (t.extract (k * 2) ((k + 1) * 2)).data.toList else none) = readNum ds.data.toList 0 ((t.data.toList.drop (k * 2)).take 2)) := Lib.hid (by rw [if_pos hsz, ext_list, show ((k + 1) * 2) - (k * 2) = 2 by omega])
        rw [HE.out] at HXk
        have HN : Hid (pageNums ds.data.toList 2 (16 - k) (t.data.toList.drop (k * 2)) = match readNum ds.data.toList 0 ((t.data.toList.drop (k * 2)).take 2) with | none => none | some v => (pageNums ds.data.toList 2 (16 - (k + 1)) (t.data.toList.drop ((k + 1) * 2))).map ((v : Int) :: ·)) := Lib.hid (by
          rw [show 16 - k = (16 - (k + 1)) + 1 by omega, pageNums, List.drop_drop, show k * 2 + 2 = (k + 1) * 2 by omega])
        generalize readNum ds.data.toList 0 ((t.data.toList.drop (k * 2)).take 2) = o at HXk HN
        have HSz := Lib.hid hsz
        have b1 : (0 : Int) ≤ (k : Int) * 2 := by omega
        have b2 : (k : Int) * 2 ≤ ((k : Int) + 1) * 2 := by omega
        have b3 : ((k : Int) + 1) * 2 ≤ (t.size : Int) := by rw [HQ0.out]; omega
        have b4 : ((k : Int) * 2).toNat = k * 2 := by omega
        have b5 : (((k : Int) + 1) * 2).toNat = (k + 1) * 2 := by omega
        clear hsz HE
        go_wp2_with fail
        refine HXk.out.mono ?_
        rintro e w3 ⟨rfl, hb3⟩
        have hbz := bt hbw hb3
        have Z0 := Lib.hid (Y0.out.step hb3)
        have Z1 := Lib.hid (Y1.out.step hb3)
        have HR3 := Lib.hid (row_below hb3 HRk.out HRk.out.lt)
        clear HRk Y0 Y1 hb3 hbw HXk b1 b2 b3 b4 b5
        cases o with
        | none =>
          have HF : Hid (res = none) := Lib.hid (by rw [HT.out, HN.out]; rfl)
          simp only [dvV, Option.isSome_none]
          go_wp2
          refine bodyPost_ret (v := .tuple #[.slice none 0 0, .bool false]) (by simp [results, Try.results74, go_sem]) rfl ?_
          exact ⟨.inl ⟨HF.out, rfl⟩, hbz⟩
        | some v =>
          simp only [dvV, Option.isSome_some]
          have hcd := HR3.out.cell hlt
          have hfr := HR3.out.frozen k
          simp only [Nat.lt_irrefl, if_false] at hcd
          have HW : Hid ((w3.setCell ⟨w.heap.size + 2, k, none⟩ (.int .i64 (v : Int))).rowIs (w.heap.size + 2) 3 16 (fun j => if j < k + 1 then Value.int .i64 ((acc ++ [(v : Int)]).getD j 0) else .int .i64 0)) := Lib.hid (row_app hacc (HR3.out.set k (.int .i64 (v : Int))))
          have HT2 : Hid (res = (pageNums ds.data.toList 2 (16 - (k + 1)) (t.data.toList.drop ((k + 1) * 2))).map ((acc ++ [(v : Int)]) ++ ·)) := Lib.hid (by rw [HT.out, HN.out]; simp only; rw [optmap_app])
          have q0 := Lib.hid (Z0.out.far (p := ⟨w.heap.size + 2, k, none⟩) (by show w.heap.size ≠ w.heap.size + 2; omega) (.int .i64 (v : Int)))
          have q1 := Lib.hid (Z1.out.far (p := ⟨w.heap.size + 2, k, none⟩) (by show w.heap.size + 1 ≠ w.heap.size + 2; omega) (.int .i64 (v : Int)))
          have hbs : Below w.heap.size w (w3.setCell ⟨w.heap.size + 2, k, none⟩ (.int .i64 (v : Int))) := hbz.setCell (by show w.heap.size ≤ w.heap.size + 2; omega) _
          have hl2 : (acc ++ [(v : Int)]).length = k + 1 := by simp [hacc]
          have HL2 := Lib.hid hl2
          clear HR3 Z0 Z1 hbz HT HN hacc hl2
          go_wp2
          go_roundw
          case rel => first | exact ⟨k + 1, acc ++ [(v : Int)], by omega, by go_num, HL2.out, hbs, HW, HT2, q0, q1⟩ | ((repeat apply Exists.intro); exact ⟨⟨k + 1, acc ++ [(v : Int)], by omega, by go_num, HL2.out, hbs, HW, HT2, q0, q1⟩, rfl⟩)
          case measure => simp [intOf]; omega
      · obtain rfl : k = 16 := by omega
        have HF : Hid (res = some acc) := Lib.hid (by rw [HT.out]; simp [pageNums])
        have HO : Hid (OwnI wr w.heap.size wr.heap.size (some ⟨w.heap.size + 2, 0, none⟩) acc) := Lib.hid (.inr ⟨w.heap.size + 2, 16, _, rfl, by omega, HRk.out.lt, by omega, HRk.out, fun i hi' => by rw [if_pos (by omega)]⟩)
        have HA := Lib.hid hacc
        clear HRk HT hacc
        go_wp2
        refine bodyPost_ret (v := .tuple #[.slice (some ⟨w.heap.size + 2, 0, none⟩) 16 16, .bool true]) (by simp [results, Try.results74, go_sem]) rfl ?_
        exact ⟨.inr ⟨acc, _, _, HF.out, rfl, HO, HA.out⟩, hbw⟩
  · have hq : ((t.size : Int) != 32) = true := by simp; omega
    have HP : Hid (page2 ds.data.toList t = none) := Lib.hid (by unfold page2; rw [if_neg hq0])
    generalize page2 ds.data.toList t = res at HP ⊢
    clear hq0 ha hs
    go_enter Try.func74, Try.ntmps74
    go_wp2
    refine bodyPost_ret (v := .tuple #[.slice none 0 0, .bool false]) (by simp [results, Try.results74, go_sem]) rfl ?_
    exact ⟨.inl ⟨HP.out, rfl⟩, Below.refl _ _⟩

end Go.Proofs.Ythobepmlopegbaa

/- Contracts of checkPages and l02Pages. -/
namespace Go.Proofs.Ythobepmlopegbaa
open Go.RowKit

/-- The code of some pages. -/
def pagesC (ss : List ByteArray) : Int := if 4096 < ss.length then 2 else if ss.length ≠ 17 then 8 else if ss.all okSt = true then 0 else 8

set_option maxRecDepth 100000 in
set_option maxHeartbeats 1000000 in
theorem checkPages (A : Option Addr) (n c : Nat) (ss : List ByteArray) (w : World) (hl : ss.length = n) (hn : n ≤ maxLen) (h : StrL w A ss) (fs : FitS ss) :
    Calls Try.prog 42 #[.slice A n c] w fun e w' => e = .returned (.int .i64 (pagesC ss)) ∧ w = w' := by
  unfold maxLen at hn
  by_cases h1 : 4096 < n
  · have HV : Hid (pagesC ss = 2) := Lib.hid (by unfold pagesC; rw [if_pos (by rw [hl]; exact h1)])
    have h1' : (4096 : Int) < (n : Int) := by omega
    clear h fs hl h1
    go_enter Try.func42, Try.ntmps42
    go_wp2
    go_ret
    exact ⟨ret_int HV.out.symm, rfl⟩
  have h1' : ¬ (4096 : Int) < (n : Int) := by omega
  by_cases h2 : n = 17
  · have h2b : ((n : Int) != 17) = false := by rw [h2]; rfl
    have HV : Hid (pagesC ss = if ss.all okSt = true then 0 else 8) := Lib.hid (by unfold pagesC; rw [if_neg (by rw [hl]; exact h1), if_neg (by rw [hl, h2]; simp)])
    have HL := Lib.hid hl
    have H := Lib.hid h
    have HF := Lib.hid fs
    have h17 : n ≤ 17 := by omega
    clear hl h fs h1 h2
    go_enter Try.func42, Try.ntmps42
    go_wp2
    go_loop [13] (fun i => ∃ k : Nat, k ≤ n ∧ i = .int .i64 k ∧ Hid (ss.all okSt = (ss.drop k).all okSt)) (fun i => n - (intOf i).toNat)
    case atStart => exact ⟨0, Nat.zero_le _, rfl, Lib.hid rfl⟩
    case round =>
      obtain ⟨k, hk, rfl, HT⟩ := hrel
      by_cases hlt : k < n
      · obtain ⟨b, off, rfl, hc⟩ := H.out k (by rw [HL.out]; exact hlt)
        have HS := Lib.hid (all_step okSt ss ByteArray.empty k (by rw [HL.out]; exact hlt))
        have hx := HF.out.at_ k (by rw [HL.out]; exact hlt)
        generalize ss.getD k ByteArray.empty = x at hc HS hx
        unfold maxLen at hx
        have hi : (k : Int) < (n : Int) := by omega
        by_cases hE : 100 < x.size
        · have hE' : (100 : Int) < (x.size : Int) := by omega
          have HE : Hid (okSt x = false) := Lib.hid (by unfold okSt; exact decide_eq_false (by omega))
          clear hE
          go_wp2
          go_ret
          exact ⟨ret_int (by rw [HV.out, HT.out, HS.out, HE.out]; rfl), rfl⟩
        · have hE' : ¬ (100 : Int) < (x.size : Int) := by omega
          have HE : Hid (okSt x = true) := Lib.hid (by unfold okSt; exact decide_eq_true (by omega))
          clear hE
          go_wp2
          go_round
          case rel => exact ⟨k + 1, by omega, by go_num, Lib.hid (by rw [HT.out, HS.out, HE.out]; rfl)⟩
          case measure => simp [intOf]; omega
      · go_wp2
        go_ret
        exact ⟨ret_int (by rw [HV.out, HT.out, all_end _ _ _ (by rw [HL.out]; omega)]; rfl), rfl⟩
  · have h2b : ((n : Int) != 17) = true := by simp; omega
    have HV : Hid (pagesC ss = 8) := Lib.hid (by unfold pagesC; rw [if_neg (by rw [hl]; exact h1), if_pos (by rw [hl]; exact h2)])
    clear h fs hl h1
    go_enter Try.func42, Try.ntmps42
    go_wp2
    go_ret
    exact ⟨ret_int HV.out.symm, rfl⟩

set_option maxRecDepth 100000 in
set_option maxHeartbeats 1000000 in
theorem l02Pages (A : Option Addr) (n c : Nat) (ss : List ByteArray) (w : World) (hl : ss.length = n) (hn : n ≤ maxLen) (h : StrL w A ss) (fs : FitS ss) :
    Calls Try.prog 59 #[.slice A n c] w fun e w' => e = .returned (.int .i64 (pagesC ss)) ∧ w = w' := by
  unfold maxLen at hn
  by_cases h1 : 4096 < n
  · have HV : Hid (pagesC ss = 2) := Lib.hid (by unfold pagesC; rw [if_pos (by rw [hl]; exact h1)])
    have h1' : (4096 : Int) < (n : Int) := by omega
    clear h fs hl h1
    go_enter Try.func59, Try.ntmps59
    go_wp2
    go_ret
    exact ⟨ret_int HV.out.symm, rfl⟩
  have h1' : ¬ (4096 : Int) < (n : Int) := by omega
  by_cases h2 : n = 17
  · have h2b : ((n : Int) != 17) = false := by rw [h2]; rfl
    have HV : Hid (pagesC ss = if ss.all okSt = true then 0 else 8) := Lib.hid (by unfold pagesC; rw [if_neg (by rw [hl]; exact h1), if_neg (by rw [hl, h2]; simp)])
    have HL := Lib.hid hl
    have H := Lib.hid h
    have HF := Lib.hid fs
    have h17 : n ≤ 17 := by omega
    clear hl h fs h1 h2
    go_enter Try.func59, Try.ntmps59
    go_wp2
    go_loop [3] (fun i => ∃ k : Nat, k ≤ n ∧ i = .int .i64 k ∧ Hid (ss.all okSt = (ss.drop k).all okSt)) (fun i => n - (intOf i).toNat)
    case atStart => exact ⟨0, Nat.zero_le _, rfl, Lib.hid rfl⟩
    case round =>
      obtain ⟨k, hk, rfl, HT⟩ := hrel
      by_cases hlt : k < n
      · obtain ⟨b, off, rfl, hc⟩ := H.out k (by rw [HL.out]; exact hlt)
        have HS := Lib.hid (all_step okSt ss ByteArray.empty k (by rw [HL.out]; exact hlt))
        have hx := HF.out.at_ k (by rw [HL.out]; exact hlt)
        generalize ss.getD k ByteArray.empty = x at hc HS hx
        unfold maxLen at hx
        have hi : (k : Int) < (n : Int) := by omega
        by_cases hE : 100 < x.size
        · have hE' : (100 : Int) < (x.size : Int) := by omega
          have HE : Hid (okSt x = false) := Lib.hid (by unfold okSt; exact decide_eq_false (by omega))
          clear hE
          go_wp2
          go_ret
          exact ⟨ret_int (by rw [HV.out, HT.out, HS.out, HE.out]; rfl), rfl⟩
        · have hE' : ¬ (100 : Int) < (x.size : Int) := by omega
          have HE : Hid (okSt x = true) := Lib.hid (by unfold okSt; exact decide_eq_true (by omega))
          clear hE
          go_wp2
          go_round
          case rel => exact ⟨k + 1, by omega, by go_num, Lib.hid (by rw [HT.out, HS.out, HE.out]; rfl)⟩
          case measure => simp [intOf]; omega
      · go_wp2
        go_ret
        exact ⟨ret_int (by rw [HV.out, HT.out, all_end _ _ _ (by rw [HL.out]; omega)]; rfl), rfl⟩
  · have h2b : ((n : Int) != 17) = true := by simp; omega
    have HV : Hid (pagesC ss = 8) := Lib.hid (by unfold pagesC; rw [if_neg (by rw [hl]; exact h1), if_pos (by rw [hl]; exact h2)])
    clear h fs hl h1
    go_enter Try.func59, Try.ntmps59
    go_wp2
    go_ret
    exact ⟨ret_int HV.out.symm, rfl⟩
end Go.Proofs.Ythobepmlopegbaa
