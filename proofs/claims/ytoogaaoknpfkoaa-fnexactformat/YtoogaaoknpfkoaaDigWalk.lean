/- Contracts of the digits' functions: l00Digits, l02Digits, digitsOf. -/
import Derived.Test.YtoogaaoknpfkoaaDigs
import Derived.Test.YtoogaaoknpfkoaaRootOk
import Derived.Deep.RegionHeld3
import Derived.Laws.IdiomStrings
import Derived.Test.YtoogaaoknpfkoaaReadDisk
import Derived.Deep.DrawnRows
import Derived.IntWalk
namespace Go.Proofs.Ytoogaaoknpfkoaa
open Go.RowKit

set_option maxRecDepth 100000 in
theorem conv_dig (W : World) (b j : Nat) (h : W.cell? ⟨b, 0, none⟩ = some (.int .u8 (48 + (j : Int) % 10))) :
    (convert 22 9 (.slice (some ⟨b, 0, none⟩) 1 1)).run Try.prog W = .ok (.string (bs [dg j])) W :=
  run_convert_bytes_back (P := Try.prog) W 22 9 5 ⟨b, 0, none⟩ 1 [dg j] Try.underlying22 Try.underlying5 Try.underlying9 (fun i hi => by
    have hi' : i = 0 := by simpa using hi
    subst hi'
    simp only [List.getElem_cons_zero]
    rw [dg_nat]
    simpa [Addr.add] using h)
set_option maxRecDepth 100000 in
theorem conv_new (V : World) (j : Nat) : (convert 22 9 (.slice (some ⟨V.heap.size, 0, none⟩) 1 1)).run Try.prog (V.alloc (.cells #[.int .u8 (48 + (j : Int) % 10)] 5)) = .ok (.string (bs [dg j])) (V.alloc (.cells #[.int .u8 (48 + (j : Int) % 10)] 5)) :=
  conv_dig _ _ j ((Box.new V 5 #[.int .u8 (48 + (j : Int) % 10)]).cell 0 rfl)

set_option maxRecDepth 100000 in
set_option maxHeartbeats 1000000 in
theorem l00Digits : ∀ (f n : Nat) (w : World), n < 10 ^ (f + 1) → f ≤ 17 → Calls Try.prog 162 #[.int .i64 n] w fun e w' => e = .returned (.string (bs (decF (f + 1) n))) ∧ Below w.heap.size w w'
  | f, n, w, h, hf => by
    have hbig : n < 1000000000000000000 := Nat.lt_of_lt_of_le h (Nat.le_trans (Nat.pow_le_pow_right (by omega) (show f + 1 ≤ 18 by omega)) (by decide))
    have q0 : ((n : Int) == -9223372036854775808) = false := by simp
    have q1 : ¬ (n : Int) < 0 := by omega
    by_cases hn : n < 10
    · have q2 : (n : Int) < 10 := by omega
      have hm : (n : Int) % 10 = (n : Int) := by omega
      have HD : Hid (decF (f + 1) n = [dg n]) := Lib.hid (by rw [decF, if_pos hn])
      have hcv := fun V => conv_new V n
      rw [hm] at hcv
      clear hm h
      go_enter Try.func162, Try.ntmps162
      go_wp2
      go_ret
      exact ⟨ret_str (by rw [HD.out]), alloc_below _ _⟩
    · have q2 : ¬ (n : Int) < 10 := by omega
      match f, h, hf with
      | 0, h, hf => exact absurd h (by simp; omega)
      | f + 1, h, hf =>
        have IH := Lib.hid (fun W => l00Digits f (n / 10) W (by rw [Nat.pow_succ] at h; omega) (by omega))
        have HD : Hid (decF (f + 1 + 1) n = decF (f + 1) (n / 10) ++ [dg n]) := Lib.hid (by rw [decF, if_neg hn])
        have HLn := Lib.hid (decF_len (f + 1) (n / 10))
        have hcv := fun V => conv_new V n
        have HC := Lib.hid (fun W b => conv_dig W b n)
        rw [show ((n / 10 : Nat) : Int) = (n : Int) / 10 by omega] at IH
        generalize decF (f + 1) (n / 10) = l at IH HD HLn
        clear h hn
        go_enter Try.func162, Try.ntmps162
        go_wp2
        have h6 : Below w.heap.size w w.drew := (Below.refl _ _).drew
        have e1 : IntKind.i64.wrap ((n : Int) / 10) = (n : Int) / 10 := IntWalk.i64_in _ (by omega)
        have e3 : IntKind.i64.wrap (48 + (n : Int) % 10) = 48 + (n : Int) % 10 := IntWalk.i64_in _ (by omega)
        have e4 : IntKind.u8.wrap (48 + (n : Int) % 10) = 48 + (n : Int) % 10 := IntWalk.u8_in _ (by omega)
        have e2 : (n : Int).tmod 10 = (n : Int) % 10 := Int.tmod_eq_emod_of_nonneg (by omega)
        have hnl : ¬ 9223372036854775807 < (bs l).size + (bs [dg n]).size := by have := HLn.out; rw [bs_size, bs_size]; simp; omega
        have hcv2 := conv_dig (w.alloc (.cells #[.int .u8 (48 + (n : Int) % 10)] 5)).drew w.heap.size n ((Box.new w 5 #[.int .u8 (48 + (n : Int) % 10)]).cell 0 rfl)
        go_region_with (first
          | (go_at_call 162; refine (IH.out (w.alloc (.cells #[.int .u8 (48 + (n : Int) % 10)] 5)).drew).mono ?_; rintro e w1 ⟨rfl, hb1⟩; have kb := bt ((alloc_below w _).drew) hb1; have kc := HC.out w1 w.heap.size ((hb1.cell (p := ⟨w.heap.size, 0, none⟩) (by simp)).trans ((Box.new w 5 #[.int .u8 (48 + (n : Int) % 10)]).cell 0 rfl)))
          | (go_at_call 162; refine (IH.out w.drew).mono ?_; rintro e w1 ⟨rfl, hb1⟩; have kb := bt h6 hb1))
        all_goals clear hcv hcv2
        all_goals go_wp2
        all_goals go_ret
        all_goals (refine ⟨ret_str (by rw [HD.out, ← bs_app]), ?_⟩)
        all_goals (first | exact kb | exact bt kb (alloc_below _ _))

set_option maxRecDepth 100000 in
set_option maxHeartbeats 1000000 in
theorem l02Digits (W n : Nat) (w : World) (h : n < 10 ^ (W + 1)) (hW : W ≤ 17) :
    Calls Try.prog 147 #[.int .i64 n, .int .i64 ((W + 1 : Nat) : Int)] w fun e w' => e = .returned (.string (bs (digs (W + 1) n))) ∧ Below w.heap.size w w' := by
  have HD := Lib.hid (l00Digits W n w h hW)
  have HP := Lib.hid (pad_dec W n h)
  have HLn := Lib.hid (decF_len (W + 1) n)
  generalize decF (W + 1) n = l at HD HP HLn
  generalize digs (W + 1) n = r at HP
  clear h
  go_enter Try.func147, Try.ntmps147
  go_wp2_with fail
  refine HD.out.mono ?_
  rintro e w1 ⟨rfl, hb1⟩
  go_wp2
  go_loop [5] (fun t => ∃ j : Nat, t = .string (bs (List.replicate j 48 ++ l)) ∧ j + l.length ≤ W + 1) (fun t => W + 1 - (match t with | .string s => s.size | _ => 0))
  case atStart => exact ⟨0, by simp, by have := HLn.out; omega⟩
  case round =>
    obtain ⟨j, rfl, hj⟩ := hrel
    have hsz : (bs (List.replicate j 48 ++ l)).size = j + l.length := by rw [bs_size]; simp
    by_cases hlt : j + l.length < W + 1
    · have hc : (((bs (List.replicate j 48 ++ l)).size : Nat) : Int) < ((W + 1 : Nat) : Int) := by rw [hsz]; omega
      have hnl : ¬ 9223372036854775807 < (⟨#[48]⟩ : ByteArray).size + (bs (List.replicate j 48 ++ l)).size := by rw [hsz]; show ¬ 9223372036854775807 < 1 + _; omega
      have HN : Hid ((⟨#[48]⟩ : ByteArray) ++ bs (List.replicate j 48 ++ l) = bs (List.replicate (j + 1) 48 ++ l)) := Lib.hid (by rw [List.replicate_succ]; exact bs_app [48] _)
      have HZ := Lib.hid hsz
      clear hsz
      generalize bs (List.replicate j 48 ++ l) = t at hc hnl HN HZ
      go_wp2
      refine ⟨⟨j + 1, by rw [HN.out], by omega⟩, ?_⟩
      show W + 1 - ((⟨#[48]⟩ : ByteArray) ++ t).size < W + 1 - t.size
      rw [ByteArray.size_append, HZ.out]
      show W + 1 - (1 + (j + l.length)) < _
      omega
    · have hc : ¬ (((bs (List.replicate j 48 ++ l)).size : Nat) : Int) < ((W + 1 : Nat) : Int) := by rw [hsz]; omega
      have HF : Hid (bs (List.replicate j 48 ++ l) = bs r) := Lib.hid (by rw [← HP.out, show W + 1 - l.length = j by omega])
      clear hsz
      generalize bs (List.replicate j 48 ++ l) = t at hc HF
      go_wp2
      go_ret
      exact ⟨ret_str HF.out, hb1⟩

theorem digs_split (W j n : Nat) (x : Nat) (hj : j < W) (_hx : x < W) :
    (if x = W - (j + 1) then Value.int .u8 (48 + ((n / 10 ^ j : Nat) : Int) % 10) else if W - j ≤ x then Value.int .u8 ((digs j n).getD (x - (W - j)) 0).toNat else .int .u8 0) =
    (if W - (j + 1) ≤ x then Value.int .u8 ((digs (j + 1) n).getD (x - (W - (j + 1))) 0).toNat else .int .u8 0) := by
  rw [digs_front]
  by_cases h1 : x = W - (j + 1)
  · rw [if_pos h1, if_pos (by omega), show x - (W - (j + 1)) = 0 by omega]
    simp only [List.getD_cons_zero]
    rw [dg_nat]
    rfl
  · rw [if_neg h1]
    by_cases h2 : W - j ≤ x
    · rw [if_pos h2, if_pos (by omega), show x - (W - (j + 1)) = (x - (W - j)) + 1 by omega]
      simp only [List.getD_cons_succ]
    · rw [if_neg h2, if_neg (by omega)]

set_option maxRecDepth 100000 in
theorem infoB : (Try.prog.info? 5).map (fun i => (i.zero, i.size, i.bytes)) = some (some (.int .u8 0), 1, 1) := by kernel_rfl

set_option maxRecDepth 100000 in
set_option maxHeartbeats 1000000 in
theorem digitsOf (W n : Nat) (w : World) (hn : n ≤ 1000000000000) (hW : W ≤ 17) :
    Calls Try.prog 148 #[.int .i64 n, .int .i64 (W : Int)] w fun e w' => e = .returned (.string (bs (digs W n))) ∧ Below w.heap.size w w' := by
  have hmk := fun V => run_make_row' (P := Try.prog) 22 5 (.int .u8 0) 1 Try.underlying22 infoB rfl .i64 .i64 W (by omega) (by omega) V
  go_enter Try.func148, Try.ntmps148
  go_wp2
  clear hmk
  have HR := Lib.hid (World.rowIs_made w (.int .u8 0) W 5)
  have hbel := alloc_below w (.cells (madeCells #[.int .u8 0] W) 5)
  generalize w.alloc (.cells (madeCells #[.int .u8 0] W) 5) = wa at hbel HR ⊢
  go_loopw [0, 6] (fun a i wr => ∃ j : Nat, j ≤ W ∧ i = .int .i64 ((W : Int) - 1 - (j : Int)) ∧ a = .int .i64 ((n / 10 ^ j : Nat) : Int) ∧ Below w.heap.size w wr ∧ Hid (wr.rowIs w.heap.size 5 W (fun x => if W - j ≤ x then .int .u8 ((digs j n).getD (x - (W - j)) 0).toNat else .int .u8 0))) (fun _ i _ => (intOf i + 1).toNat)
  case atStart => exact ⟨0, Nat.zero_le _, by simp, by simp, hbel, Lib.hid (HR.out.congr (fun x hx => by rw [if_neg (by omega)]))⟩
  case round =>
    obtain ⟨j, hj, rfl, rfl, hbw, HW⟩ := hrel
    have hq : n / 10 ^ j ≤ n := Nat.div_le_self _ _
    by_cases hlt : j < W
    · have hc := HW.out.cell (i := W - (j + 1)) (by omega)
      have hfz := HW.out.frozen (W - (j + 1))
      rw [if_neg (by omega)] at hc
      have HS := Lib.hid (HW.out.set (W - (j + 1)) (.int .u8 (48 + ((n / 10 ^ j : Nat) : Int) % 10)))
      have HX := Lib.hid (fun x hx => digs_split W j n x hlt hx)
      have HNx : Hid (n / 10 ^ (j + 1) = n / 10 ^ j / 10) := Lib.hid (by rw [Nat.pow_succ, Nat.div_div_eq_div_mul])
      generalize n / 10 ^ j = m at hq HS HX HNx
      obtain ⟨i, hi⟩ : ∃ i : Nat, i = W - (j + 1) := ⟨_, rfl⟩
      rw [← hi] at hc hfz HS
      have HI := Lib.hid hi
      have e1 : (W : Int) - 1 - (j : Int) = (i : Int) := by omega
      rw [e1]
      have hi1 : (i : Int) < (W : Int) := by omega
      clear hi e1 HW
      go_wp2
      refine ⟨⟨j + 1, by omega, ?_, ?_, hbw.setCell (Nat.le_refl _) _, Lib.hid (HS.out.congr (fun x hx => ?_))⟩, ?_⟩
      · have := HI.out; congr 1; omega
      · rw [HNx.out]; congr 1
      · rw [HI.out]; exact HX.out x hx
      · simp [intOf]
    · obtain rfl : j = W := by omega
      have hz : ¬ (0 : Int) ≤ (j : Int) - 1 - (j : Int) := by omega
      have hcv := run_convert_bytes_back (P := Try.prog) wr 22 9 5 ⟨w.heap.size, 0, none⟩ j (digs j n) Try.underlying22 Try.underlying5 Try.underlying9 (fun i hi => by
        have hi' : i < j := by rwa [digs_len] at hi
        have := HW.out.cell (i := i) hi'
        rw [if_pos (by omega), show i - (j - j) = i by omega, List.getD_eq_getElem?_getD, List.getElem?_eq_getElem hi, Option.getD_some] at this
        unfold Addr.add
        by_cases h0 : i = 0
        · subst h0; simpa using this
        · rw [if_neg h0]; simpa using this)
      rw [digs_len] at hcv
      have HF : Hid ((⟨(digs j n).toArray⟩ : ByteArray) = bs (digs j n)) := Lib.hid rfl
      generalize (⟨(digs j n).toArray⟩ : ByteArray) = t at hcv HF
      clear HW hq
      generalize n / 10 ^ j = m
      go_wp2
      go_ret
      exact ⟨ret_str HF.out, hbw⟩
end Go.Proofs.Ytoogaaoknpfkoaa
