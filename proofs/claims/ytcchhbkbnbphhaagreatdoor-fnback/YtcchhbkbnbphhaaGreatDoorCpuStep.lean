/- The model's processor: a register, pulling, returning, the flags, a register set, the arithmetic. Written by gen_cpustep.py. -/
import Derived.Test.YtcchhbkbnbphhaaGreatDoorCpuSpec2
import Derived.Test.YtcchhbkbnbphhaaGreatDoorCpuOk
import Derived.Deep.RegionHeld3
import Derived.Deep.Cut
namespace Go.Proofs.YtcchhbkbnbphhaaGreatDoor
open Go.RowKit

theorem xor_i64 (x y : Nat) (hx : x < 256) (hy : y < 256) : bits .xor .i64 (x : Int) (y : Int) = ((x ^^^ y : Nat) : Int) := by
  have h3 : x ^^^ y < 2 ^ 8 := Nat.xor_lt_two_pow (by omega) (by omega)
  have e : (BitVec.ofInt 64 (x : Int) ^^^ BitVec.ofInt 64 (y : Int)).toNat = x ^^^ y := by
    rw [BitVec.toNat_xor, BitVec.ofInt_natCast, BitVec.ofInt_natCast, BitVec.toNat_ofNat, BitVec.toNat_ofNat, Nat.mod_eq_of_lt (by omega), Nat.mod_eq_of_lt (by omega)]
  show IntKind.i64.wrap ((BitVec.ofInt 64 (x : Int) ^^^ BitVec.ofInt 64 (y : Int)).toNat : Nat) = _
  rw [e]
  exact wrap64 _ (by omega) (by omega)
theorem bits_bytes {a b : Int} (ha : 0 ≤ a ∧ a ≤ 255) (hb : 0 ≤ b ∧ b ≤ 255) : bits .and .i64 a b = andI a b ∧ bits .or .i64 a b = orI a b ∧ bits .xor .i64 a b = xorI a b := by
  obtain ⟨x, rfl⟩ : ∃ x : Nat, a = x := ⟨a.toNat, by omega⟩
  obtain ⟨y, rfl⟩ : ∃ y : Nat, b = y := ⟨b.toNat, by omega⟩
  have h := bits_nat .i64 8 (by decide) wrap64 x y (by omega) (by omega)
  exact ⟨h.1, h.2, xor_i64 x y (by omega) (by omega)⟩
end Go.Proofs.YtcchhbkbnbphhaaGreatDoor
