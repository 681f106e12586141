/- The text of an instruction, the program's. -/
import Derived.Test.YtcchhbkbnbphhaaDoorTxt
import Derived.Test.YtcchhbkbnbphhaaDoorM2
namespace Go.Proofs.YtcchhbkbnbphhaaDoor
open Go.RowKit

def valsL (r a reg arg : Int) : List Int := (if 0 < r then [reg] else []) ++ (if 0 < a then [arg] else [])
def joinT (s : ByteArray) : List Int → ByteArray
  | [] => s
  | v :: vs => joinT (s ++ (⟨#[32]⟩ ++ num v)) vs
def txtB (op reg arg : Int) : ByteArray := joinT (opWord op.toNat) (valsL (regT op) (argT op) reg arg)
theorem opWord_len (k : Nat) : (opWord k).size ≤ 4 := by
  by_cases h : k < 23
  · have : k = 0 ∨ k = 1 ∨ k = 2 ∨ k = 3 ∨ k = 4 ∨ k = 5 ∨ k = 6 ∨ k = 7 ∨ k = 8 ∨ k = 9 ∨ k = 10 ∨ k = 11 ∨ k = 12 ∨ k = 13 ∨ k = 14 ∨ k = 15 ∨ k = 16 ∨ k = 17 ∨ k = 18 ∨ k = 19 ∨ k = 20 ∨ k = 21 ∨ k = 22 := by omega
    rcases this with rfl | rfl | rfl | rfl | rfl | rfl | rfl | rfl | rfl | rfl | rfl | rfl | rfl | rfl | rfl | rfl | rfl | rfl | rfl | rfl | rfl | rfl | rfl <;> decide
  · unfold opWord
    rw [List.getD_eq_getElem?_getD, List.getElem?_eq_none (by show 23 ≤ k; omega)]
    decide
theorem places_vals (r a reg arg : Int) (b : Nat) (T : TypeId) (op : Int) (h1 : 0 ≤ reg ∧ reg ≤ 4095) (h2 : 0 ≤ arg ∧ arg ≤ 4095) : ∀ k, k < (placesL r a b).length → ∃ j, (placesL r a b).getD k ⟨0, 0, none⟩ = ⟨b, j, none⟩ ∧ (∀ W, Box W b T #[.int .i64 op, .int .i64 reg, .int .i64 arg] → W.cell? ⟨b, j, none⟩ = some (.int .i64 ((valsL r a reg arg).getD k 0))) ∧ (0 ≤ (valsL r a reg arg).getD k 0 ∧ (valsL r a reg arg).getD k 0 ≤ 4095) ∧ (valsL r a reg arg).drop k = (valsL r a reg arg).getD k 0 :: (valsL r a reg arg).drop (k + 1) := by
  unfold placesL valsL
  by_cases h3 : 0 < r <;> by_cases h4 : 0 < a <;> simp only [h3, h4, if_true, if_false, List.append_nil, List.nil_append, List.cons_append]
  · intro k hk
    match k, hk with
    | 0, _ => exact ⟨1, rfl, fun W h => h.cell 1 rfl, h1, rfl⟩
    | 1, _ => exact ⟨2, rfl, fun W h => h.cell 2 rfl, h2, rfl⟩
  · intro k hk
    match k, hk with
    | 0, _ => exact ⟨1, rfl, fun W h => h.cell 1 rfl, h1, rfl⟩
  · intro k hk
    match k, hk with
    | 0, _ => exact ⟨2, rfl, fun W h => h.cell 2 rfl, h2, rfl⟩
  · intro k hk
    simp at hk
theorem places_len (r a reg arg : Int) (b : Nat) : (placesL r a b).length ≤ 2 ∧ (valsL r a reg arg).length = (placesL r a b).length := by
  unfold placesL valsL
  by_cases h3 : 0 < r <;> by_cases h4 : 0 < a <;> simp [h3, h4]

set_option maxRecDepth 100000 in
set_option maxHeartbeats 4000000 in
theorem insText (op : Nat) (reg arg : Int) (w : World) (ht : OpsT w) (hp : Pow w) (h0 : op ≤ 21) (hr0 : 0 ≤ reg) (hr1 : reg ≤ 3) (ha0 : 0 ≤ arg) (ha1 : arg ≤ 4095) :
    Calls Tryd.prog 29 #[.agg #[.int .i64 op, .int .i64 reg, .int .i64 arg]] w fun e w' => e = .returned (.string (txtB op reg arg)) ∧ Below w.heap.size w w' := by
  have hlt := ht.lt
  obtain ⟨c1, c2, c3, c4⟩ := ht op (by omega)
  have HE : Hid (txtB op reg arg = joinT (opWord op) (valsL (regT op) (argT op) reg arg)) := Lib.hid (by unfold txtB; rw [show ((op : Nat) : Int).toNat = op from by omega])
  have hsw := opWord_len op
  generalize txtB op reg arg = R at HE ⊢
  generalize opWord op = s at c1 HE hsw
  generalize regT op = r at c2 HE
  generalize argT op = a at c3 HE
  generalize fixT op = c at c4
  have HPV := Lib.hid (places_vals r a reg arg w.heap.size 24 op ⟨hr0, by omega⟩ ⟨ha0, ha1⟩)
  obtain ⟨hpl, hpl2⟩ := places_len r a reg arg w.heap.size
  have HPL := Lib.hid hpl2
  have HN := Lib.hid (fun W => numbersI s r a c w.heap.size W)
  generalize placesL r a w.heap.size = ps at HPV hpl HPL HN
  generalize valsL r a reg arg = vs at HPV HPL HE
  have HP := Lib.hid hp
  clear ht hp hpl2
  obtain ⟨W0, hW0⟩ : ∃ W0, W0 = (w.alloc (.cells #[.int .i64 op, .int .i64 reg, .int .i64 arg] 24)).alloc (.cells #[.string s, .int .i64 r, .int .i64 a, .int .i64 c] 57) := ⟨_, rfl⟩
  have hb0 : Below w.heap.size w W0 := by rw [hW0]; exact bt (alloc_below _ _) (alloc_below _ _)
  have X0 : Hid (Box W0 w.heap.size 24 #[.int .i64 op, .int .i64 reg, .int .i64 arg]) := Lib.hid (by rw [hW0]; exact (Box.new _ _ _).alloc _)
  have HW0 := Lib.hid hW0
  have HB0 := Lib.hid hb0
  clear hW0 hb0
  go_enter Tryd.func29, Tryd.ntmps29
  go_wp2_with fail
  rw [← HW0.out]
  refine (HN.out W0).mono ?_
  rintro e w1 ⟨A, n, cc, rfl, hl, HA, hb⟩
  have HL := Lib.hid hl
  have hn2 : n ≤ 2 := by omega
  have HB1 := Lib.hid (bt HB0.out hb)
  have X1 := Lib.hid (X0.out.step hb)
  clear hl hb HB0 X0 HN HW0 c1 c2 c3 c4 hpl
  go_wp2
  go_loopw [16, 4] (fun i t wr => ∃ (k : Nat) (cur : ByteArray), k ≤ n ∧ i = .int .i64 k ∧ t = .string cur ∧ Hid (R = joinT cur (vs.drop k)) ∧ cur.size ≤ 4 + 5 * k ∧ Hid (Below w1.heap.size w1 wr)) (fun i _ _ => n - (intOf i).toNat)
  case atStart => exact ⟨0, s, Nat.zero_le _, rfl, rfl, Lib.hid HE.out, by omega, Lib.hid (Below.refl _ _)⟩
  case round =>
    obtain ⟨k, cur, hk, rfl, rfl, HR, hcs, HB⟩ := hrel
    by_cases hlt2 : k < n
    · have hi : (k : Int) < (n : Int) := by omega
      obtain ⟨g, _, hA, hc⟩ := HA.out.below HB.out k (by rw [HL.out]; exact hlt2)
      obtain ⟨j, e1, e2, ⟨e3, e4⟩, e5⟩ := HPV.out k (by rw [HL.out]; exact hlt2)
      subst hA
      rw [e1] at hc
      have hv := e2 _ (X1.out.step HB.out)
      have HD := Lib.hid e5
      generalize vs.getD k 0 = v at hv e3 e4 HD
      have hns := num_len v e4
      clear e1 e2 e5
      go_wp2_with fail
      refine (itoaI v _ e3 e4 (HP.out.below (bt HB1.out HB.out))).mono ?_
      rintro e w2 ⟨rfl, hb⟩
      have HB2 := Lib.hid (bt HB.out hb)
      have HR2 : Hid (R = joinT (cur ++ (⟨#[32]⟩ ++ num v)) (vs.drop (k + 1))) := Lib.hid (by rw [HR.out, HD.out]; rfl)
      generalize num v = nv at hns HR2 ⊢
      clear hb hc hv
      have h1 : ¬ 9223372036854775807 < (⟨#[32]⟩ : ByteArray).size + nv.size := by show ¬ _ < 1 + nv.size; omega
      have h2 : ¬ 9223372036854775807 < cur.size + ((⟨#[32]⟩ : ByteArray) ++ nv).size := by rw [ByteArray.size_append]; show ¬ _ < cur.size + (1 + nv.size); omega
      go_wp2
      go_roundw
      case rel => exact ⟨k + 1, _, by omega, by go_num, rfl, HR2, by rw [ByteArray.size_append, ByteArray.size_append]; show cur.size + (1 + nv.size) ≤ _; omega, HB2⟩
      case measure => simp [intOf]; omega
    · obtain rfl : k = n := by omega
      have hi : ¬ (k : Int) < (k : Int) := by omega
      have HF : Hid (R = cur) := Lib.hid (by rw [HR.out, List.drop_of_length_le (by rw [HPL.out, HL.out]; exact Nat.le_refl _)]; rfl)
      go_wp2
      go_ret
      exact ⟨by rw [HF.out]; rfl, bt HB1.out HB.out⟩
end Go.Proofs.YtcchhbkbnbphhaaDoor
