/- The text of an instruction: numerals by the library's Itoa, the places of its numbers. -/
import Derived.Test.YtcchhbkbnbphhaaDoorLaidPow
import Derived.Test.YtcchhbkbnbphhaaDoorShelfT
import Derived.Test.YtcchhbkbnbphhaaDoorM1
import Derived.Test.YtcchhbkbnbphhaaDoorM2
import Derived.Lib.AppendIntMem
namespace Go.Proofs.YtcchhbkbnbphhaaDoor
open Go.RowKit

theorem dec_digits : ∀ (f n : Nat), n < 10 ^ (f + 1) → decF (f + 1) n = Lib.decDigits n
  | f, n, h => by
    rw [decF, Lib.decDigits]
    by_cases hn : n < 10
    · rw [if_pos hn, dif_pos hn]
      unfold dg
      rw [Nat.mod_eq_of_lt hn]
    · rw [if_neg hn, dif_neg hn]
      match f, h with
      | 0, h => exact absurd h (by simp; omega)
      | f + 1, h => rw [dec_digits f (n / 10) (by rw [Nat.pow_succ] at h; omega)]; rfl
def num (n : Int) : ByteArray := bs (Lib.decDigits n.toNat)
theorem num_len (n : Int) (h : n ≤ 4095) : (num n).size ≤ 4 := by
  unfold num
  rw [← dec_digits 3 n.toNat (by omega), bs_size]
  exact decF_len 4 n.toNat
set_option maxRecDepth 100000 in
theorem itoaI (n : Int) (w : World) (h0 : 0 ≤ n) (h1 : n ≤ 4095) (hp : Pow w) : Calls Tryd.prog 50 #[.int .i64 n] w fun e w' => e = .returned (.string (num n)) ∧ Below w.heap.size w w' := by
  refine (Tryd.strconv_Itoa n (by omega) (by omega) w hp.2).mono ?_
  rintro e w' ⟨rfl, k, os, rfl⟩
  refine ⟨?_, Lib.below_grow _ _ (Nat.le_refl _) _ _⟩
  unfold num bs Lib.itoa
  rw [if_neg (by omega)]
end Go.Proofs.YtcchhbkbnbphhaaDoor
