/- The bits of bytes: 'and' as the language has it, and as a natural number. -/
import Derived.Test.YtieljgoodmoacaaFlashOk
import Derived.Laws.BitsLemmas
namespace Go.Proofs.Ytieljgoodmoacaa
open Go.RowKit

theorem wrap8 (n : Int) (h0 : 0 ≤ n) (h1 : n < 2 ^ 8) : IntKind.u8.wrap n = n := by
  have e : n % 2 ^ 8 = n := Int.emod_eq_of_lt h0 h1
  simp only [IntKind.wrap, IntKind.bits, IntKind.signed, e]
  simp
theorem wrap64 (n : Int) (h0 : 0 ≤ n) (h1 : n < 2 ^ 8) : IntKind.i64.wrap n = n := by
  have e : n % 2 ^ 64 = n := Int.emod_eq_of_lt h0 (by omega)
  simp only [IntKind.wrap, IntKind.bits, IntKind.signed, e]
  rw [if_neg]
  simp
  omega
theorem and_u8 (a b : Nat) (ha : a < 256) (hb : b < 256) : bits .and .u8 (a : Int) (b : Int) = ((a &&& b : Nat) : Int) := (bits_nat .u8 8 (by decide) wrap8 a b ha hb).1
theorem and_i64 (a b : Nat) (ha : a < 256) (hb : b < 256) : bits .and .i64 (a : Int) (b : Int) = ((a &&& b : Nat) : Int) := (bits_nat .i64 8 (by decide) wrap64 a b ha hb).1
theorem and_3 (a : Nat) (ha : a < 256) : bits .and .i64 (a : Int) 3 = ((a % 4 : Nat) : Int) := by
  have := and_i64 a 3 ha (by omega)
  rw [show a &&& 3 = a % 4 from Nat.and_two_pow_sub_one_eq_mod a 2] at this
  exact this
theorem and_lt (a b : Nat) (ha : a < 256) : a &&& b < 256 := Nat.lt_of_le_of_lt Nat.and_le_left ha
end Go.Proofs.Ytieljgoodmoacaa
