/- The text of an instruction, the model's; InstrText on both sides. Written by gen_txt4.py. -/
import Derived.Test.YtcchhbkbnbphhaaDoorTxt3
import Derived.Test.YtcchhbkbnbphhaaDoorM2
import Derived.Deep.RegionHeld3
namespace Go.Proofs.YtcchhbkbnbphhaaDoor
open Go.RowKit

section
variable (op : Nat) (reg arg : Int) (w : World)
end
def txtF (op reg arg : Int) : ByteArray × Int := if okIns op reg arg then (txtB op reg arg, 0) else (⟨#[]⟩, 1)
theorem txtF_t {op reg arg : Int} (h : okIns op reg arg = true) : txtF op reg arg = (txtB op reg arg, 0) := by unfold txtF; rw [h]; rfl
theorem txtF_f {op reg arg : Int} (h : okIns op reg arg = false) : txtF op reg arg = (⟨#[]⟩, 1) := by unfold txtF; rw [h]; rfl
set_option maxRecDepth 100000 in
set_option maxHeartbeats 2000000 in
theorem implInstrText (op reg arg : Int) (w : World) (ht : OpsT w) (hp : Pow w) : Calls Tryd.prog 9 #[.agg #[.int .i64 op, .int .i64 reg, .int .i64 arg]] w fun e w' => e = .returned (.tuple #[.string (txtF op reg arg).1, .int .i64 (txtF op reg arg).2]) ∧ Below w.heap.size w w' := by
  have hb0 := alloc_below w (.cells #[.int .i64 op, .int .i64 reg, .int .i64 arg] 24)
  have X0 := Lib.hid (Box.new w 24 #[.int .i64 op, .int .i64 reg, .int .i64 arg])
  have HV := Lib.hid (valid op reg arg _ (ht.below hb0))
  have HT := Lib.hid ht
  have HP := Lib.hid hp
  clear ht hp
  have HB0 := Lib.hid hb0
  cases hok : okIns op reg arg with
  | true =>
    rw [txtF_t hok]
    rw [hok] at HV
    obtain ⟨h1, h2, h3, h4, h5, h6⟩ := okIns_iff hok
    have hr := regT_range op
    have ha := argT_range op
    have HO := Lib.hid (fun W (h : OpsT W) (p : Pow W) => insText op.toNat reg arg W h p (by omega) h3 (by omega) h5 (by omega))
    rw [show ((op.toNat : Nat) : Int) = op from by omega] at HO
    clear hok h1 h2 h3 h4 h5 h6 hr ha hb0
    generalize txtB op reg arg = zs at HO ⊢
    go_enter Tryd.func9, Tryd.ntmps9
    go_wp2_with fail
    refine HV.out.mono ?_
    rintro e w1 ⟨rfl, hb⟩
    have HB1 := Lib.hid (bt HB0.out hb)
    have X1 := Lib.hid (X0.out.step hb)
    clear hb X0 HB0 HV
    have x0 := X1.out.cell 0 rfl
    have x1 := X1.out.cell 1 rfl
    have x2 := X1.out.cell 2 rfl
    go_wp2_with fail
    refine (HO.out w1 (HT.out.below HB1.out) (HP.out.below HB1.out)).mono ?_
    rintro e w2 ⟨rfl, hb⟩
    have HB2 := Lib.hid (bt HB1.out hb)
    clear hb x0 x1 x2
    go_wp2
    go_ret2
    exact ⟨rfl, HB2.out⟩
  | false =>
    rw [txtF_f hok]
    rw [hok] at HV
    clear hok hb0
    go_enter Tryd.func9, Tryd.ntmps9
    go_wp2_with fail
    refine HV.out.mono ?_
    rintro e w1 ⟨rfl, hb⟩
    have HB1 := Lib.hid (bt HB0.out hb)
    clear hb X0 HB0 HV
    go_wp2
    go_ret2
    exact ⟨rfl, HB1.out⟩
set_option maxRecDepth 100000 in
theorem implInstrTextA (d0 d1 d2 : Int) (w : World) (t : OpsT w) (pw : Pow w) : Calls Tryd.prog 9 #[.agg #[.int .i64 d0, .int .i64 d1, .int .i64 d2]] w fun e w' => e = .returned (.tuple #[.string (txtF d0 d1 d2).1, .int .i64 (txtF d0 d1 d2).2]) ∧ Below w.heap.size w w' := implInstrText d0 d1 d2 w t pw
end Go.Proofs.YtcchhbkbnbphhaaDoor
