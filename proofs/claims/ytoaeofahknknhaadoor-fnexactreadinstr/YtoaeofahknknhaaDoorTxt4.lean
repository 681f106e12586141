/- The text of an instruction, the model's; InstrText on both sides. Written by gen_txt4.py. -/
import Derived.Test.YtoaeofahknknhaaDoorTxt3
import Derived.Test.YtoaeofahknknhaaDoorOpEnc2
import Derived.Deep.RegionHeld3
namespace Go.Proofs.YtoaeofahknknhaaDoor
open Go.RowKit

def wordCells : Array Value := #[.string ⟨#[110, 111, 112]⟩, .string ⟨#[104, 97, 108, 116]⟩, .string ⟨#[114, 101, 116, 105]⟩, .string ⟨#[101, 105]⟩, .string ⟨#[100, 105]⟩, .string ⟨#[108, 100, 105]⟩, .string ⟨#[108, 100]⟩, .string ⟨#[115, 116]⟩, .string ⟨#[105, 110, 99]⟩, .string ⟨#[100, 101, 99]⟩, .string ⟨#[97, 100, 100]⟩, .string ⟨#[115, 117, 98]⟩, .string ⟨#[97, 110, 100]⟩, .string ⟨#[111, 114]⟩, .string ⟨#[120, 111, 114]⟩, .string ⟨#[106, 112]⟩, .string ⟨#[106, 122]⟩, .string ⟨#[106, 110, 122]⟩, .string ⟨#[99, 97, 108, 108]⟩, .string ⟨#[114, 101, 116]⟩, .string ⟨#[115, 119, 105]⟩, .string ⟨#[98, 97, 110, 107]⟩]
theorem wordCells_at (k : Nat) (h : k < 22) : wordCells[k]? = some (.string (opWord k)) := by
  have : k = 0 ∨ k = 1 ∨ k = 2 ∨ k = 3 ∨ k = 4 ∨ k = 5 ∨ k = 6 ∨ k = 7 ∨ k = 8 ∨ k = 9 ∨ k = 10 ∨ k = 11 ∨ k = 12 ∨ k = 13 ∨ k = 14 ∨ k = 15 ∨ k = 16 ∨ k = 17 ∨ k = 18 ∨ k = 19 ∨ k = 20 ∨ k = 21 := by omega
  rcases this with rfl | rfl | rfl | rfl | rfl | rfl | rfl | rfl | rfl | rfl | rfl | rfl | rfl | rfl | rfl | rfl | rfl | rfl | rfl | rfl | rfl | rfl <;> rfl
set_option maxRecDepth 100000 in
set_option maxHeartbeats 1000000 in
theorem l07WordsS (w : World) : Calls Tryd.prog 82 #[] w fun e w' => e = .returned (.slice (some ⟨w.heap.size, 0, none⟩) 22 22) ∧ Below w.heap.size w w' ∧ Hid (∀ k v, wordCells[k]? = some v → w'.cell? ⟨w.heap.size, k, none⟩ = some v) := by
  go_enter Tryd.func82, Tryd.ntmps82
  go_wp2
  go_ret
  exact ⟨rfl, alloc_below _ _, Lib.hid (fun k v h => (Box.new w 9 wordCells).cell k h)⟩
theorem txt_alt (op reg arg : Int) (h : 0 ≤ op) : txtB op reg arg = (let t := if 5 ≤ op ∧ op ≤ 14 then opWord op.toNat ++ (⟨#[32]⟩ ++ num reg) else opWord op.toNat
    if 1 < lenT op then t ++ (⟨#[32]⟩ ++ num arg) else t) := by
  have e1 : (0 < regT op) = (5 ≤ op ∧ op ≤ 14) := propext (by unfold regT; split <;> omega)
  have e2 : (0 < argT op) = (1 < lenT op) := propext (by
    unfold argT lenT
    repeat' split
    all_goals omega)
  unfold txtB valsL
  simp only [e1, e2]
  by_cases h1 : 5 ≤ op ∧ op ≤ 14 <;> by_cases h2 : 1 < lenT op <;> simp only [h1, h2, if_true, if_false, List.append_nil, List.nil_append, List.cons_append, joinT, and_self]
section
variable (op : Nat) (reg arg : Int) (w : World)
set_option maxRecDepth 100000 in
set_option maxHeartbeats 8000000 in
theorem l07TextS (h0 : op ≤ 21) (hr0 : 0 ≤ reg) (hr1 : reg ≤ 3) (ha0 : 0 ≤ arg) (ha1 : arg ≤ 4095) :
    Calls Tryd.prog 68 #[.agg #[.int .i64 op, .int .i64 reg, .int .i64 arg]] w fun e w' => e = .returned (.string (txtB op reg arg)) ∧ Below w.heap.size w w' := by
  have HE := Lib.hid (txt_alt (op : Int) reg arg (by omega))
  generalize txtB op reg arg = R at HE ⊢
  rw [show ((op : Nat) : Int).toNat = op from by omega] at HE
  have HWd := Lib.hid (wordCells_at op (by omega))
  have hsw := opWord_len op
  generalize opWord op = s at HE HWd hsw
  have HL := Lib.hid (l07LengthA op)
  have hl := lenT_range op
  generalize lenT op = l at HE HL hl
  obtain ⟨hl1, hl3⟩ := hl
  have hn1 := num_len reg (by omega)
  have hn2 := num_len arg ha1
  have HD1 := Lib.hid (fun W => digitsS reg W hr0 (by omega))
  have HD2 := Lib.hid (fun W => digitsS arg W ha0 ha1)
  generalize num reg = nr at HE HD1 hn1
  generalize num arg = na at HE HD2 hn2
  obtain ⟨W0, hW0⟩ : ∃ W0, W0 = w.alloc (.cells #[.int .i64 op, .int .i64 reg, .int .i64 arg] 24) := ⟨_, rfl⟩
  have hb0 : Below w.heap.size w W0 := by rw [hW0]; exact alloc_below _ _
  have X0 : Hid (Box W0 w.heap.size 24 #[.int .i64 op, .int .i64 reg, .int .i64 arg]) := Lib.hid (by rw [hW0]; exact Box.new _ _ _)
  have HW0 := Lib.hid hW0
  have HB0 := Lib.hid hb0
  clear hW0 hb0
  have g0 : ¬ 9223372036854775807 < (⟨#[32]⟩ : ByteArray).size + nr.size := by show ¬ _ < 1 + nr.size; omega
  have g1 : ¬ 9223372036854775807 < s.size + ((⟨#[32]⟩ : ByteArray) ++ nr).size := by rw [ByteArray.size_append]; show ¬ _ < s.size + (1 + nr.size); omega
  have g2 : ¬ 9223372036854775807 < (⟨#[32]⟩ : ByteArray).size + na.size := by show ¬ _ < 1 + na.size; omega
  have g3 : ¬ 9223372036854775807 < s.size + ((⟨#[32]⟩ : ByteArray) ++ na).size := by rw [ByteArray.size_append]; show ¬ _ < s.size + (1 + na.size); omega
  have g4 : ¬ 9223372036854775807 < (s ++ ((⟨#[32]⟩ : ByteArray) ++ nr)).size + ((⟨#[32]⟩ : ByteArray) ++ na).size := by rw [ByteArray.size_append, ByteArray.size_append, ByteArray.size_append]; show ¬ _ < s.size + (1 + nr.size) + (1 + na.size); omega
  by_cases h5 : 5 ≤ (op : Int) ∧ (op : Int) ≤ 14
  · have p5 := rngB_t h5
    by_cases h6 : 1 < l
    · have HR : Hid (R = s ++ (⟨#[32]⟩ ++ nr) ++ (⟨#[32]⟩ ++ na)) := Lib.hid (by rw [HE.out]; simp only [h5, h6, and_self, if_true])
      clear HE h5
      have x0 := X0.out.cell 0 rfl
      go_enter Tryd.func68, Tryd.ntmps68
      go_wp2
      rw [← HW0.out]
      have hk0 : (0 : Int) ≤ (op : Int) := by omega
      have hk1 : (op : Int) < 22 := by omega
      have x3 : W0.drew.cell? ⟨w.heap.size, 0, none⟩ = some (.int .i64 op) := x0
      go_region_with (first | (go_at_call 82; refine (l07WordsS _).mono ?_; rintro e w1 ⟨rfl, hb, HK⟩; have hcell : w1.cell? ⟨W0.heap.size, op, none⟩ = some (.string s) := HK.out op _ HWd.out; have x4 : w1.cell? ⟨w.heap.size, 0, none⟩ = some (.int .i64 op) := (X0.out.drew.step hb).cell 0 rfl))
      all_goals
        have HB1 : Hid (Below w.heap.size w w1) := Lib.hid (bt (bt HB0.out (Below.refl _ _).drew) hb)
        have X1 : Hid (Box w1 w.heap.size 24 #[.int .i64 op, .int .i64 reg, .int .i64 arg]) := Lib.hid (X0.out.drew.step hb)
        clear x0 x3 x4 hcell hb HK X0 HB0
        have x0 := X1.out.cell 0 rfl
        have x1 := X1.out.cell 1 rfl
        have x2 := X1.out.cell 2 rfl
        go_wp2_with (first | (go_at_call 66; refine (l07RegA _ _).mono ?_; rintro e w' ⟨rfl, rfl⟩) | (go_at_call 67; refine (HL.out _).mono ?_; rintro e w' ⟨rfl, rfl⟩))
        refine (HD1.out _).mono ?_
        rintro e w2 ⟨rfl, hb⟩
        have HB2 := Lib.hid (bt HB1.out hb)
        have X2 := Lib.hid (X1.out.step hb)
        clear hb x0 x1 x2 X1 HB1
        have x0 := X2.out.cell 0 rfl
        have x1 := X2.out.cell 1 rfl
        have x2 := X2.out.cell 2 rfl
        go_wp2_with (first | (go_at_call 67; refine (HL.out _).mono ?_; rintro e w' ⟨rfl, rfl⟩))
        refine (HD2.out _).mono ?_
        rintro e w3 ⟨rfl, hb⟩
        have HB3 := Lib.hid (bt HB2.out hb)
        clear hb x0 x1 x2
        go_wp2
        go_ret
        exact ⟨by rw [HR.out]; rfl, HB3.out⟩
    · have HR : Hid (R = s ++ (⟨#[32]⟩ ++ nr)) := Lib.hid (by rw [HE.out]; simp only [h5, h6, and_self, if_true, if_false])
      clear HE h5
      have x0 := X0.out.cell 0 rfl
      go_enter Tryd.func68, Tryd.ntmps68
      go_wp2
      rw [← HW0.out]
      have hk0 : (0 : Int) ≤ (op : Int) := by omega
      have hk1 : (op : Int) < 22 := by omega
      have x3 : W0.drew.cell? ⟨w.heap.size, 0, none⟩ = some (.int .i64 op) := x0
      go_region_with (first | (go_at_call 82; refine (l07WordsS _).mono ?_; rintro e w1 ⟨rfl, hb, HK⟩; have hcell : w1.cell? ⟨W0.heap.size, op, none⟩ = some (.string s) := HK.out op _ HWd.out; have x4 : w1.cell? ⟨w.heap.size, 0, none⟩ = some (.int .i64 op) := (X0.out.drew.step hb).cell 0 rfl))
      all_goals
        have HB1 : Hid (Below w.heap.size w w1) := Lib.hid (bt (bt HB0.out (Below.refl _ _).drew) hb)
        have X1 : Hid (Box w1 w.heap.size 24 #[.int .i64 op, .int .i64 reg, .int .i64 arg]) := Lib.hid (X0.out.drew.step hb)
        clear x0 x3 x4 hcell hb HK X0 HB0
        have x0 := X1.out.cell 0 rfl
        have x1 := X1.out.cell 1 rfl
        have x2 := X1.out.cell 2 rfl
        go_wp2_with (first | (go_at_call 66; refine (l07RegA _ _).mono ?_; rintro e w' ⟨rfl, rfl⟩) | (go_at_call 67; refine (HL.out _).mono ?_; rintro e w' ⟨rfl, rfl⟩))
        refine (HD1.out _).mono ?_
        rintro e w2 ⟨rfl, hb⟩
        have HB2 := Lib.hid (bt HB1.out hb)
        have X2 := Lib.hid (X1.out.step hb)
        clear hb x0 x1 x2 X1 HB1
        have x0 := X2.out.cell 0 rfl
        have x1 := X2.out.cell 1 rfl
        have x2 := X2.out.cell 2 rfl
        go_wp2_with (first | (go_at_call 67; refine (HL.out _).mono ?_; rintro e w' ⟨rfl, rfl⟩))
        go_ret
        exact ⟨by rw [HR.out]; rfl, HB2.out⟩
  · have p5 := rngB_f h5
    by_cases h6 : 1 < l
    · have HR : Hid (R = s ++ (⟨#[32]⟩ ++ na)) := Lib.hid (by rw [HE.out]; simp only [h5, h6, if_true, if_false])
      clear HE h5
      have x0 := X0.out.cell 0 rfl
      go_enter Tryd.func68, Tryd.ntmps68
      go_wp2
      rw [← HW0.out]
      have hk0 : (0 : Int) ≤ (op : Int) := by omega
      have hk1 : (op : Int) < 22 := by omega
      have x3 : W0.drew.cell? ⟨w.heap.size, 0, none⟩ = some (.int .i64 op) := x0
      go_region_with (first | (go_at_call 82; refine (l07WordsS _).mono ?_; rintro e w1 ⟨rfl, hb, HK⟩; have hcell : w1.cell? ⟨W0.heap.size, op, none⟩ = some (.string s) := HK.out op _ HWd.out; have x4 : w1.cell? ⟨w.heap.size, 0, none⟩ = some (.int .i64 op) := (X0.out.drew.step hb).cell 0 rfl))
      all_goals
        have HB1 : Hid (Below w.heap.size w w1) := Lib.hid (bt (bt HB0.out (Below.refl _ _).drew) hb)
        have X1 : Hid (Box w1 w.heap.size 24 #[.int .i64 op, .int .i64 reg, .int .i64 arg]) := Lib.hid (X0.out.drew.step hb)
        clear x0 x3 x4 hcell hb HK X0 HB0
        have x0 := X1.out.cell 0 rfl
        have x1 := X1.out.cell 1 rfl
        have x2 := X1.out.cell 2 rfl
        go_wp2_with (first | (go_at_call 66; refine (l07RegA _ _).mono ?_; rintro e w' ⟨rfl, rfl⟩) | (go_at_call 67; refine (HL.out _).mono ?_; rintro e w' ⟨rfl, rfl⟩))
        refine (HD2.out _).mono ?_
        rintro e w3 ⟨rfl, hb⟩
        have HB3 := Lib.hid (bt HB1.out hb)
        clear hb x0 x1 x2
        go_wp2
        go_ret
        exact ⟨by rw [HR.out]; rfl, HB3.out⟩
    · have HR : Hid (R = s) := Lib.hid (by rw [HE.out]; simp only [h5, h6, if_false])
      clear HE h5
      have x0 := X0.out.cell 0 rfl
      go_enter Tryd.func68, Tryd.ntmps68
      go_wp2
      rw [← HW0.out]
      have hk0 : (0 : Int) ≤ (op : Int) := by omega
      have hk1 : (op : Int) < 22 := by omega
      have x3 : W0.drew.cell? ⟨w.heap.size, 0, none⟩ = some (.int .i64 op) := x0
      go_region_with (first | (go_at_call 82; refine (l07WordsS _).mono ?_; rintro e w1 ⟨rfl, hb, HK⟩; have hcell : w1.cell? ⟨W0.heap.size, op, none⟩ = some (.string s) := HK.out op _ HWd.out; have x4 : w1.cell? ⟨w.heap.size, 0, none⟩ = some (.int .i64 op) := (X0.out.drew.step hb).cell 0 rfl))
      all_goals
        have HB1 : Hid (Below w.heap.size w w1) := Lib.hid (bt (bt HB0.out (Below.refl _ _).drew) hb)
        have X1 : Hid (Box w1 w.heap.size 24 #[.int .i64 op, .int .i64 reg, .int .i64 arg]) := Lib.hid (X0.out.drew.step hb)
        clear x0 x3 x4 hcell hb HK X0 HB0
        have x0 := X1.out.cell 0 rfl
        have x1 := X1.out.cell 1 rfl
        have x2 := X1.out.cell 2 rfl
        go_wp2_with (first | (go_at_call 66; refine (l07RegA _ _).mono ?_; rintro e w' ⟨rfl, rfl⟩) | (go_at_call 67; refine (HL.out _).mono ?_; rintro e w' ⟨rfl, rfl⟩))
        go_ret
        exact ⟨by rw [HR.out]; rfl, HB1.out⟩
end
def txtF (op reg arg : Int) : ByteArray × Int := if okIns op reg arg then (txtB op reg arg, 0) else (⟨#[]⟩, 1)
theorem txtF_t {op reg arg : Int} (h : okIns op reg arg = true) : txtF op reg arg = (txtB op reg arg, 0) := by unfold txtF; rw [h]; rfl
theorem txtF_f {op reg arg : Int} (h : okIns op reg arg = false) : txtF op reg arg = (⟨#[]⟩, 1) := by unfold txtF; rw [h]; rfl
set_option maxRecDepth 100000 in
set_option maxHeartbeats 2000000 in
theorem implInstrText (op reg arg : Int) (w : World) (ht : OpsT w) (hp : Pow w) : Calls Tryd.prog 17 #[.agg #[.int .i64 op, .int .i64 reg, .int .i64 arg]] w fun e w' => e = .returned (.tuple #[.string (txtF op reg arg).1, .int .i64 (txtF op reg arg).2]) ∧ Below w.heap.size w w' := by
  have hb0 := alloc_below w (.cells #[.int .i64 op, .int .i64 reg, .int .i64 arg] 24)
  have X0 := Lib.hid (Box.new w 24 #[.int .i64 op, .int .i64 reg, .int .i64 arg])
  have HV := Lib.hid (valid op reg arg _ (ht.below hb0))
  have HT := Lib.hid ht
  have HP := Lib.hid hp
  clear ht hp
  have HB0 := Lib.hid hb0
  cases hok : okIns op reg arg with
  | true =>
    rw [txtF_t hok]
    rw [hok] at HV
    obtain ⟨h1, h2, h3, h4, h5, h6⟩ := okIns_iff hok
    have hr := regT_range op
    have ha := argT_range op
    have HO := Lib.hid (fun W (h : OpsT W) (p : Pow W) => insText op.toNat reg arg W h p (by omega) h3 (by omega) h5 (by omega))
    rw [show ((op.toNat : Nat) : Int) = op from by omega] at HO
    clear hok h1 h2 h3 h4 h5 h6 hr ha hb0
    generalize txtB op reg arg = zs at HO ⊢
    go_enter Tryd.func17, Tryd.ntmps17
    go_wp2_with fail
    refine HV.out.mono ?_
    rintro e w1 ⟨rfl, hb⟩
    have HB1 := Lib.hid (bt HB0.out hb)
    have X1 := Lib.hid (X0.out.step hb)
    clear hb X0 HB0 HV
    have x0 := X1.out.cell 0 rfl
    have x1 := X1.out.cell 1 rfl
    have x2 := X1.out.cell 2 rfl
    go_wp2_with fail
    refine (HO.out w1 (HT.out.below HB1.out) (HP.out.below HB1.out)).mono ?_
    rintro e w2 ⟨rfl, hb⟩
    have HB2 := Lib.hid (bt HB1.out hb)
    clear hb x0 x1 x2
    go_wp2
    go_ret2
    exact ⟨rfl, HB2.out⟩
  | false =>
    rw [txtF_f hok]
    rw [hok] at HV
    clear hok hb0
    go_enter Tryd.func17, Tryd.ntmps17
    go_wp2_with fail
    refine HV.out.mono ?_
    rintro e w1 ⟨rfl, hb⟩
    have HB1 := Lib.hid (bt HB0.out hb)
    clear hb X0 HB0 HV
    go_wp2
    go_ret2
    exact ⟨rfl, HB1.out⟩
set_option maxRecDepth 100000 in
set_option maxHeartbeats 2000000 in
theorem specInstrText (op reg arg : Int) (w : World) : Calls Tryd.prog 36 #[.agg #[.int .i64 op, .int .i64 reg, .int .i64 arg]] w fun e w' => e = .returned (.tuple #[.string (txtF op reg arg).1, .int .i64 (txtF op reg arg).2]) ∧ Below w.heap.size w w' := by
  have hb0 := alloc_below w (.cells #[.int .i64 op, .int .i64 reg, .int .i64 arg] 24)
  have X0 := Lib.hid (Box.new w 24 #[.int .i64 op, .int .i64 reg, .int .i64 arg])
  have HV := Lib.hid (specInstrOK op reg arg (w.alloc (.cells #[.int .i64 op, .int .i64 reg, .int .i64 arg] 24)))
  have HB0 := Lib.hid hb0
  cases hok : okIns op reg arg with
  | true =>
    rw [txtF_t hok]
    rw [hok] at HV
    obtain ⟨h1, h2, h3, h4, h5, h6⟩ := okIns_iff hok
    have hr := regT_range op
    have ha := argT_range op
    have HO := Lib.hid (fun W => l07TextS op.toNat reg arg W (by omega) h3 (by omega) h5 (by omega))
    rw [show ((op.toNat : Nat) : Int) = op from by omega] at HO
    clear hok h1 h2 h3 h4 h5 h6 hr ha hb0
    generalize txtB op reg arg = zs at HO ⊢
    go_enter Tryd.func36, Tryd.ntmps36
    go_wp2_with fail
    refine HV.out.mono ?_
    rintro e w1 ⟨rfl, hb⟩
    have HB1 := Lib.hid (bt HB0.out hb)
    have X1 := Lib.hid (X0.out.step hb)
    clear hb X0 HB0 HV
    have x0 := X1.out.cell 0 rfl
    have x1 := X1.out.cell 1 rfl
    have x2 := X1.out.cell 2 rfl
    go_wp2_with fail
    refine (HO.out w1).mono ?_
    rintro e w2 ⟨rfl, hb⟩
    have HB2 := Lib.hid (bt HB1.out hb)
    clear hb x0 x1 x2
    go_wp2
    go_ret2
    exact ⟨rfl, HB2.out⟩
  | false =>
    rw [txtF_f hok]
    rw [hok] at HV
    clear hok hb0
    go_enter Tryd.func36, Tryd.ntmps36
    go_wp2_with fail
    refine HV.out.mono ?_
    rintro e w1 ⟨rfl, hb⟩
    have HB1 := Lib.hid (bt HB0.out hb)
    clear hb X0 HB0 HV
    go_wp2
    go_ret2
    exact ⟨rfl, HB1.out⟩
set_option maxRecDepth 100000 in
theorem specInstrTextA (d0 d1 d2 : Int) (w : World) : Calls Tryd.prog 36 #[.agg #[.int .i64 d0, .int .i64 d1, .int .i64 d2]] w fun e w' => e = .returned (.tuple #[.string (txtF d0 d1 d2).1, .int .i64 (txtF d0 d1 d2).2]) ∧ Below w.heap.size w w' := specInstrText d0 d1 d2 w
set_option maxRecDepth 100000 in
theorem implInstrTextA (d0 d1 d2 : Int) (w : World) (t : OpsT w) (pw : Pow w) : Calls Tryd.prog 17 #[.agg #[.int .i64 d0, .int .i64 d1, .int .i64 d2]] w fun e w' => e = .returned (.tuple #[.string (txtF d0 d1 d2).1, .int .i64 (txtF d0 d1 d2).2]) ∧ Below w.heap.size w w' := implInstrText d0 d1 d2 w t pw
end Go.Proofs.YtoaeofahknknhaaDoor
