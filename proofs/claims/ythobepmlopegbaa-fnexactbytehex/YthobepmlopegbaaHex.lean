/- Contracts of hexText, l04Hex and both HexByte: two hexadecimal digits. -/
import Derived.Test.YthobepmlopegbaaFlashOk
import Derived.Test.YthobepmlopegbaaDigs
import Derived.Deep.RegionHeld3
import Derived.Laws.IdiomStrings
import Derived.IntWalk
import Derived.StillTailTactics
namespace Go.Proofs.Ythobepmlopegbaa
open Go.RowKit

/-- The digit of a number below 16. -/
def hx (k : Nat) : UInt8 := if k < 10 then UInt8.ofNat (48 + k) else UInt8.ofNat (87 + k)
/-- A byte's two digits. -/
def hex2 (n : Nat) : ByteArray := bs [hx (n / 16), hx (n % 16)]
theorem hex2_size (n : Nat) : (hex2 n).size = 2 := rfl
theorem hx_tab : ∀ k, k < 16 → (⟨#[48, 49, 50, 51, 52, 53, 54, 55, 56, 57, 97, 98, 99, 100, 101, 102]⟩ : ByteArray)[k]? = some (hx k) := by decide +kernel
set_option maxRecDepth 100000 in
theorem idx_hex (w : World) (k : Nat) (h : k < 16) :
    (Instr.index 9 (.string ⟨#[48, 49, 50, 51, 52, 53, 54, 55, 56, 57, 97, 98, 99, 100, 101, 102]⟩) (.int .i64 (k : Int))).run Try.prog w = .ok (.int .u8 ((hx k).toNat : Int)) w := by
  have hs : (⟨#[48, 49, 50, 51, 52, 53, 54, 55, 56, 57, 97, 98, 99, 100, 101, 102]⟩ : ByteArray).size = 16 := rfl
  rw [run_index_string w 9 _ .i64 (k : Int) Try.underlying9, dif_pos ⟨by omega, by rw [hs]; omega⟩]
  have h2 := hx_tab k h
  have h3 : (⟨#[48, 49, 50, 51, 52, 53, 54, 55, 56, 57, 97, 98, 99, 100, 101, 102]⟩ : ByteArray)[((k : Int)).toNat]'(by rw [hs]; omega) = hx k := by
    have e : ((k : Int)).toNat = k := by omega
    have h4 : (⟨#[48, 49, 50, 51, 52, 53, 54, 55, 56, 57, 97, 98, 99, 100, 101, 102]⟩ : ByteArray)[k]'(by rw [hs]; omega) = hx k := by
      rw [ByteArray.getElem?_lt' _ _ (by rw [hs]; omega)] at h2
      exact Option.some.inj h2
    simp only [e]
    exact h4
  rw [h3]
theorem and_15 (n : Int) : bits .and .i64 n 15 = n % 16 := by
  have h15 : (BitVec.ofInt 64 15).toNat = 2 ^ 4 - 1 := by decide
  have key : (BitVec.ofInt 64 n &&& BitVec.ofInt 64 15).toNat = (n % ((2 ^ 64 : Nat) : Int)).toNat % 2 ^ 4 := by
    rw [BitVec.toNat_and, BitVec.toNat_ofInt, h15, Nat.and_two_pow_sub_one_eq_mod]
  show IntKind.i64.wrap ((BitVec.ofInt 64 n &&& BitVec.ofInt 64 15).toNat : Nat) = n % 16
  rw [key, IntKind.wrap_i64]
  omega
set_option maxRecDepth 100000 in
theorem conv2 (W : World) (b : Nat) (x y : UInt8) (h0 : W.cell? ⟨b, 0, none⟩ = some (.int .u8 (x.toNat : Int))) (h1 : W.cell? ⟨b, 1, none⟩ = some (.int .u8 (y.toNat : Int))) :
    (convert 22 9 (.slice (some ⟨b, 0, none⟩) 2 2)).run Try.prog W = .ok (.string (bs [x, y])) W :=
  run_convert_bytes_back (P := Try.prog) W 22 9 5 ⟨b, 0, none⟩ 2 [x, y] Try.underlying22 Try.underlying5 Try.underlying9 (fun i hi => by
    have hi' : i = 0 ∨ i = 1 := by simp at hi; omega
    rcases hi' with rfl | rfl
    · simpa [Addr.add] using h0
    · simpa [Addr.add] using h1)

set_option maxRecDepth 100000 in
set_option maxHeartbeats 1000000 in
theorem hexText (n : Nat) (hn : n ≤ 255) (w : World) : Calls Try.prog 48 #[.int .i64 (n : Int)] w fun e w' => e = .returned (.string (hex2 n)) ∧ Below w.heap.size w w' := by
  have i1 := fun W => idx_hex W (n / 16) (by omega)
  have i2 := fun W => idx_hex W (n % 16) (by omega)
  have HC := Lib.hid (fun (V : World) => conv2 (V.alloc (.cells #[.int .u8 ((hx (n / 16)).toNat : Int), .int .u8 ((hx (n % 16)).toNat : Int)] 5)) V.heap.size (hx (n / 16)) (hx (n % 16)) ((Box.new V 5 _).cell 0 rfl) ((Box.new V 5 _).cell 1 rfl))
  rw [show ((n / 16 : Nat) : Int) = (n : Int) / 16 by omega] at i1
  rw [show ((n % 16 : Nat) : Int) = (n : Int) % 16 by omega] at i2
  have HH : Hid (hex2 n = bs [hx (n / 16), hx (n % 16)]) := Lib.hid rfl
  generalize hx (n / 16) = x at i1 HC HH
  generalize hx (n % 16) = y at i2 HC HH
  have e2 : (n : Int).tmod 16 = (n : Int) % 16 := Int.tmod_eq_emod_of_nonneg (by omega)
  have e1 : (n : Int).tdiv 16 = (n : Int) / 16 := Int.tdiv_eq_ediv_of_nonneg (by omega)
  have e3 : IntKind.i64.wrap ((n : Int) / 16) = (n : Int) / 16 := IntWalk.i64_in _ (by omega)
  go_enter Try.func48, Try.ntmps48
  go_wp2
  go_still_tail 6, (by kernel_rfl)
  change wpList _ _ _ _ _ w.drew
  have hb : Below w.heap.size w w.drew := (Below.refl _ _).drew
  generalize w.drew = w2 at hb
  have hcv := HC.out w2
  go_wp2
  go_ret
  exact ⟨by rw [HH.out]; rfl, bt hb (alloc_below _ _)⟩

set_option maxRecDepth 100000 in
set_option maxHeartbeats 1000000 in
theorem l04Hex (n : Nat) (hn : n ≤ 255) (w : World) : Calls Try.prog 64 #[.int .i64 (n : Int)] w fun e w' => e = .returned (.string (hex2 n)) ∧ Below w.heap.size w w' := by
  have i1 := fun W => idx_hex W (n / 16) (by omega)
  have i2 := fun W => idx_hex W (n % 16) (by omega)
  have HC := Lib.hid (fun (V : World) => conv2 (V.alloc (.cells #[.int .u8 ((hx (n / 16)).toNat : Int), .int .u8 ((hx (n % 16)).toNat : Int)] 5)) V.heap.size (hx (n / 16)) (hx (n % 16)) ((Box.new V 5 _).cell 0 rfl) ((Box.new V 5 _).cell 1 rfl))
  rw [show ((n / 16 : Nat) : Int) = (n : Int) / 16 by omega] at i1
  rw [show ((n % 16 : Nat) : Int) = (n : Int) % 16 by omega] at i2
  have HH : Hid (hex2 n = bs [hx (n / 16), hx (n % 16)]) := Lib.hid rfl
  generalize hx (n / 16) = x at i1 HC HH
  generalize hx (n % 16) = y at i2 HC HH
  have e2 := and_15 (n : Int)
  go_enter Try.func64, Try.ntmps64
  go_wp2
  go_still_tail 6, (by kernel_rfl)
  change wpList _ _ _ _ _ w.drew
  have hb : Below w.heap.size w w.drew := (Below.refl _ _).drew
  generalize w.drew = w2 at hb
  have hcv := HC.out w2
  go_wp2
  go_ret
  exact ⟨by rw [HH.out]; rfl, bt hb (alloc_below _ _)⟩

/-- What HexByte answers. -/
def hexOf (n : Int) : ByteArray × Int := if byB n then (hex2 n.toNat, 0) else (ByteArray.empty, 4)

set_option maxRecDepth 100000 in
theorem implHexByte (n : Int) (w : World) : Calls Try.prog 16 #[.int .i64 n] w fun e w' => e = .returned (.tuple #[.string (hexOf n).1, .int .i64 (hexOf n).2]) ∧ Below w.heap.size w w' := by
  by_cases ha : byB n = true
  · obtain ⟨k, rfl⟩ : ∃ k : Nat, n = k := ⟨n.toNat, by have := byB_range ha; omega⟩
    have hk : k ≤ 255 := by have := byB_range ha; omega
    have HE : Hid (hexOf k = (hex2 k, 0)) := Lib.hid (by unfold hexOf; rw [if_pos ha]; rfl)
    have HX := Lib.hid (fun W => hexText k hk W)
    generalize hexOf k = r at HE
    generalize hex2 k = t at HE HX
    go_enter Try.func16, Try.ntmps16
    go_wp2_with (first | (go_at_call 47; refine (isByte _ _).mono ?_; rintro e w' ⟨rfl, rfl⟩; rw [ha]) | (go_at_call 48; refine (HX.out _).mono ?_; rintro e w1 ⟨rfl, hb1⟩))
    refine bodyPost_ret (v := .tuple #[.string t, .int .i64 0]) (by simp [results, Try.results16, go_sem]) rfl ?_
    exact ⟨by rw [HE.out], hb1⟩
  · have ha' : byB n = false := by simpa using ha
    have HE : Hid (hexOf n = (ByteArray.empty, 4)) := Lib.hid (by unfold hexOf; simp [ha'])
    generalize hexOf n = r at HE
    go_enter Try.func16, Try.ntmps16
    go_wp2_with (first | (go_at_call 47; refine (isByte _ _).mono ?_; rintro e w' ⟨rfl, rfl⟩; rw [ha']))
    refine bodyPost_ret (v := .tuple #[.string ByteArray.empty, .int .i64 4]) (by simp [results, Try.results16, go_sem]; rfl) rfl ?_
    exact ⟨by rw [HE.out], Below.refl _ _⟩

set_option maxRecDepth 100000 in
theorem specHexByte (n : Int) (w : World) : Calls Try.prog 33 #[.int .i64 n] w fun e w' => e = .returned (.tuple #[.string (hexOf n).1, .int .i64 (hexOf n).2]) ∧ Below w.heap.size w w' := by
  by_cases ha : byB n = true
  · obtain ⟨k, rfl⟩ : ∃ k : Nat, n = k := ⟨n.toNat, by have := byB_range ha; omega⟩
    have hk : k ≤ 255 := by have := byB_range ha; omega
    have HE : Hid (hexOf k = (hex2 k, 0)) := Lib.hid (by unfold hexOf; rw [if_pos ha]; rfl)
    have HX := Lib.hid (fun W => l04Hex k hk W)
    generalize hexOf k = r at HE
    generalize hex2 k = t at HE HX
    go_enter Try.func33, Try.ntmps33
    go_wp2_with (first | (go_at_call 63; refine (l01In255 _ _).mono ?_; rintro e w' ⟨rfl, rfl⟩; rw [ha]) | (go_at_call 64; refine (HX.out _).mono ?_; rintro e w1 ⟨rfl, hb1⟩))
    refine bodyPost_ret (v := .tuple #[.string t, .int .i64 0]) (by simp [results, Try.results33, go_sem]) rfl ?_
    exact ⟨by rw [HE.out], hb1⟩
  · have ha' : byB n = false := by simpa using ha
    have HE : Hid (hexOf n = (ByteArray.empty, 4)) := Lib.hid (by unfold hexOf; simp [ha'])
    generalize hexOf n = r at HE
    go_enter Try.func33, Try.ntmps33
    go_wp2_with (first | (go_at_call 63; refine (l01In255 _ _).mono ?_; rintro e w' ⟨rfl, rfl⟩; rw [ha']))
    refine bodyPost_ret (v := .tuple #[.string ByteArray.empty, .int .i64 4]) (by simp [results, Try.results33, go_sem]; rfl) rfl ?_
    exact ⟨by rw [HE.out], Below.refl _ _⟩
end Go.Proofs.Ythobepmlopegbaa
