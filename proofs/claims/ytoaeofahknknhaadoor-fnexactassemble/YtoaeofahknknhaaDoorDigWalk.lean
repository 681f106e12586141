/- Contracts of the digits' functions: l00Digits, l02Digits, digitsOf. -/
import Derived.Test.YtoaeofahknknhaaDoorDigs
import Derived.Test.YtoaeofahknknhaaDoorRootOk
import Derived.Deep.RegionHeld3
import Derived.Laws.IdiomStrings
import Derived.Test.YtoaeofahknknhaaDoorReadDisk
import Derived.Deep.DrawnRows
import Derived.IntWalk
namespace Go.Proofs.YtoaeofahknknhaaDoor
open Go.RowKit

set_option maxRecDepth 100000 in
theorem conv_dig (W : World) (b j : Nat) (h : W.cell? ⟨b, 0, none⟩ = some (.int .u8 (48 + (j : Int) % 10))) :
    (convert 22 9 (.slice (some ⟨b, 0, none⟩) 1 1)).run Tryd.prog W = .ok (.string (bs [dg j])) W :=
  run_convert_bytes_back (P := Tryd.prog) W 22 9 5 ⟨b, 0, none⟩ 1 [dg j] Tryd.underlying22 Tryd.underlying5 Tryd.underlying9 (fun i hi => by
    have hi' : i = 0 := by simpa using hi
    subst hi'
    simp only [List.getElem_cons_zero]
    rw [dg_nat]
    simpa [Addr.add] using h)
set_option maxRecDepth 100000 in
theorem conv_new (V : World) (j : Nat) : (convert 22 9 (.slice (some ⟨V.heap.size, 0, none⟩) 1 1)).run Tryd.prog (V.alloc (.cells #[.int .u8 (48 + (j : Int) % 10)] 5)) = .ok (.string (bs [dg j])) (V.alloc (.cells #[.int .u8 (48 + (j : Int) % 10)] 5)) :=
  conv_dig _ _ j ((Box.new V 5 #[.int .u8 (48 + (j : Int) % 10)]).cell 0 rfl)

set_option maxRecDepth 100000 in
set_option maxHeartbeats 1000000 in
theorem l00Digits : ∀ (f n : Nat) (w : World), n < 10 ^ (f + 1) → f ≤ 17 → Calls Tryd.prog 83 #[.int .i64 n] w fun e w' => e = .returned (.string (bs (decF (f + 1) n))) ∧ Below w.heap.size w w'
  | f, n, w, h, hf => by
    have hbig : n < 1000000000000000000 := Nat.lt_of_lt_of_le h (Nat.le_trans (Nat.pow_le_pow_right (by omega) (show f + 1 ≤ 18 by omega)) (by decide))
    have q0 : ((n : Int) == -9223372036854775808) = false := by simp
    have q1 : ¬ (n : Int) < 0 := by omega
    by_cases hn : n < 10
    · have q2 : (n : Int) < 10 := by omega
      have hm : (n : Int) % 10 = (n : Int) := by omega
      have HD : Hid (decF (f + 1) n = [dg n]) := Lib.hid (by rw [decF, if_pos hn])
      have hcv := fun V => conv_new V n
      rw [hm] at hcv
      clear hm h
      go_enter Tryd.func83, Tryd.ntmps83
      go_wp2
      go_ret
      exact ⟨ret_str (by rw [HD.out]), alloc_below _ _⟩
    · have q2 : ¬ (n : Int) < 10 := by omega
      match f, h, hf with
      | 0, h, hf => exact absurd h (by simp; omega)
      | f + 1, h, hf =>
        have IH := Lib.hid (fun W => l00Digits f (n / 10) W (by rw [Nat.pow_succ] at h; omega) (by omega))
        have HD : Hid (decF (f + 1 + 1) n = decF (f + 1) (n / 10) ++ [dg n]) := Lib.hid (by rw [decF, if_neg hn])
        have HLn := Lib.hid (decF_len (f + 1) (n / 10))
        have hcv := fun V => conv_new V n
        have HC := Lib.hid (fun W b => conv_dig W b n)
        rw [show ((n / 10 : Nat) : Int) = (n : Int) / 10 by omega] at IH
        generalize decF (f + 1) (n / 10) = l at IH HD HLn
        clear h hn
        go_enter Tryd.func83, Tryd.ntmps83
        go_wp2
        have h6 : Below w.heap.size w w.drew := (Below.refl _ _).drew
        have e1 : IntKind.i64.wrap ((n : Int) / 10) = (n : Int) / 10 := IntWalk.i64_in _ (by omega)
        have e3 : IntKind.i64.wrap (48 + (n : Int) % 10) = 48 + (n : Int) % 10 := IntWalk.i64_in _ (by omega)
        have e4 : IntKind.u8.wrap (48 + (n : Int) % 10) = 48 + (n : Int) % 10 := IntWalk.u8_in _ (by omega)
        have e2 : (n : Int).tmod 10 = (n : Int) % 10 := Int.tmod_eq_emod_of_nonneg (by omega)
        have hnl : ¬ 9223372036854775807 < (bs l).size + (bs [dg n]).size := by have := HLn.out; rw [bs_size, bs_size]; simp; omega
        have hcv2 := conv_dig (w.alloc (.cells #[.int .u8 (48 + (n : Int) % 10)] 5)).drew w.heap.size n ((Box.new w 5 #[.int .u8 (48 + (n : Int) % 10)]).cell 0 rfl)
        go_region_with (first
          | (go_at_call 83; refine (IH.out (w.alloc (.cells #[.int .u8 (48 + (n : Int) % 10)] 5)).drew).mono ?_; rintro e w1 ⟨rfl, hb1⟩; have kb := bt ((alloc_below w _).drew) hb1; have kc := HC.out w1 w.heap.size ((hb1.cell (p := ⟨w.heap.size, 0, none⟩) (by simp)).trans ((Box.new w 5 #[.int .u8 (48 + (n : Int) % 10)]).cell 0 rfl)))
          | (go_at_call 83; refine (IH.out w.drew).mono ?_; rintro e w1 ⟨rfl, hb1⟩; have kb := bt h6 hb1))
        all_goals clear hcv hcv2
        all_goals go_wp2
        all_goals go_ret
        all_goals (refine ⟨ret_str (by rw [HD.out, ← bs_app]), ?_⟩)
        all_goals (first | exact kb | exact bt kb (alloc_below _ _))

theorem digs_split (W j n : Nat) (x : Nat) (hj : j < W) (_hx : x < W) :
    (if x = W - (j + 1) then Value.int .u8 (48 + ((n / 10 ^ j : Nat) : Int) % 10) else if W - j ≤ x then Value.int .u8 ((digs j n).getD (x - (W - j)) 0).toNat else .int .u8 0) =
    (if W - (j + 1) ≤ x then Value.int .u8 ((digs (j + 1) n).getD (x - (W - (j + 1))) 0).toNat else .int .u8 0) := by
  rw [digs_front]
  by_cases h1 : x = W - (j + 1)
  · rw [if_pos h1, if_pos (by omega), show x - (W - (j + 1)) = 0 by omega]
    simp only [List.getD_cons_zero]
    rw [dg_nat]
    rfl
  · rw [if_neg h1]
    by_cases h2 : W - j ≤ x
    · rw [if_pos h2, if_pos (by omega), show x - (W - (j + 1)) = (x - (W - j)) + 1 by omega]
      simp only [List.getD_cons_succ]
    · rw [if_neg h2, if_neg (by omega)]

set_option maxRecDepth 100000 in
theorem infoU8 : (Tryd.prog.info? 5).map (fun i => (i.zero, i.size, i.bytes)) = some (some (.int .u8 0), 1, 1) := by kernel_rfl

end Go.Proofs.YtoaeofahknknhaaDoor
