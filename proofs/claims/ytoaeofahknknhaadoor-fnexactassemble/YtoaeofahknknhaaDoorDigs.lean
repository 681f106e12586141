/- Digits of numbers, as lists of bytes. Nothing here walks. -/
import Derived.Test.YtoaeofahknknhaaDoorMem
namespace Go.Proofs.YtoaeofahknknhaaDoor

def dg (n : Nat) : UInt8 := UInt8.ofNat (48 + n % 10)
/-- The last w digits of n. -/
def digs : Nat → Nat → List UInt8
  | 0, _ => []
  | w + 1, n => digs w (n / 10) ++ [dg n]
theorem digs_len : ∀ w n, (digs w n).length = w
  | 0, _ => rfl
  | w + 1, n => by simp [digs, digs_len w]
theorem digs_front : ∀ w n, digs (w + 1) n = dg (n / 10 ^ w) :: digs w n
  | 0, n => by simp [digs]
  | w + 1, n => by
    rw [digs, digs_front w (n / 10), digs, Nat.div_div_eq_div_mul, Nat.pow_succ, Nat.mul_comm (10 ^ w) 10]
    rfl
/-- The digits of n, of which there are at most f. -/
def decF : Nat → Nat → List UInt8
  | 0, _ => []
  | f + 1, n => if n < 10 then [dg n] else decF f (n / 10) ++ [dg n]
theorem digs_zero : ∀ w, digs w 0 = List.replicate w 48
  | 0 => rfl
  | w + 1 => by rw [digs, digs_zero w]; rw [List.replicate_succ']; rfl
theorem decF_len : ∀ f n, (decF f n).length ≤ f
  | 0, _ => by simp [decF]
  | f + 1, n => by
    rw [decF]
    split
    · simp
    · have := decF_len f (n / 10)
      simp; omega
theorem pad_dec : ∀ f n, n < 10 ^ (f + 1) → List.replicate (f + 1 - (decF (f + 1) n).length) 48 ++ decF (f + 1) n = digs (f + 1) n
  | f, n, h => by
    rw [decF, digs]
    by_cases hn : n < 10
    · rw [if_pos hn]
      rw [show n / 10 = 0 by omega, digs_zero]
      simp
    · rw [if_neg hn]
      match f with
      | 0 => exact absurd h (by simp; omega)
      | f + 1 =>
        have ih := pad_dec f (n / 10) (by rw [Nat.pow_succ] at h; omega)
        rw [← ih]
        have := decF_len (f + 1) (n / 10)
        simp only [List.length_append, List.length_cons, List.length_nil, List.append_assoc]
        rw [show f + 1 + 1 - ((decF (f + 1) (n / 10)).length + (0 + 1)) = f + 1 - (decF (f + 1) (n / 10)).length by omega]
def bs (l : List UInt8) : ByteArray := ⟨l.toArray⟩
theorem bs_app (a b : List UInt8) : bs a ++ bs b = bs (a ++ b) := by
  apply ByteArray.ext
  simp [bs]
theorem bs_size (a : List UInt8) : (bs a).size = a.length := rfl
theorem dg_nat (n : Nat) : (dg n).toNat = 48 + n % 10 := by
  unfold dg
  rw [UInt8.toNat_ofNat']; omega
end Go.Proofs.YtoaeofahknknhaaDoor
