/- Encode on both sides, whole. -/
import Derived.Test.YtoaeofahknknhaaDoorOpEnc
import Derived.Laws.BitsLemmas
namespace Go.Proofs.YtoaeofahknknhaaDoor
open Go.RowKit

theorem wrap12 (n : Int) (h0 : 0 ≤ n) (h1 : n < 2 ^ 12) : IntKind.i64.wrap n = n := by
  have e : n % 2 ^ 64 = n := Int.emod_eq_of_lt h0 (by omega)
  simp only [IntKind.wrap, IntKind.bits, IntKind.signed, e]
  rw [if_neg]
  simp
  omega
theorem and255 (a : Nat) (ha : a < 4096) : bits .and .i64 (a : Int) 255 = ((a % 256 : Nat) : Int) := by
  have := (bits_nat .i64 12 (by decide) wrap12 a 255 ha (by omega)).1
  rw [show a &&& 255 = a % 256 from Nat.and_two_pow_sub_one_eq_mod a 8] at this
  exact this
theorem GivesI.of {zs : List Int} {w w1 w' : World} {e : Ending} (hb : Below w.heap.size w w1) (h : GivesI zs w1 e w') : GivesI zs w e w' := by
  obtain ⟨A, n, c, rfl, hl, HO, hb2⟩ := h
  exact ⟨A, n, c, rfl, hl, Lib.hid (HO.out.wideB hb.size (Nat.le_refl _)), bt hb hb2⟩
def GivesIC (r : List Int × Int) (w : World) (e : Ending) (w' : World) : Prop := ∃ A c, e = .returned (.tuple #[.slice A r.1.length c, .int .i64 r.2]) ∧ Hid (OwnA w' w.heap.size w'.heap.size [.slice A r.1.length c] [.I r.1]) ∧ Below w.heap.size w w'
theorem ownI1 {w : World} {lo hi : Nat} {A : Option Addr} {n c : Nat} {ss : List Int} (hl : ss.length = n) (h : OwnI w lo hi A ss) : OwnA w lo hi [.slice A n c] [.I ss] := OwnA.one ⟨A, c, by rw [hl], h⟩
theorem encF_t {op reg arg : Int} (h : okIns op reg arg = true) : encF op reg arg = (encL op reg arg, 0) := by unfold encF; rw [h]; rfl
theorem encF_f {op reg arg : Int} (h : okIns op reg arg = false) : encF op reg arg = ([], 1) := by unfold encF; rw [h]; rfl
theorem okIns_iff {op reg arg : Int} (h : okIns op reg arg = true) : 0 ≤ op ∧ op ≤ 21 ∧ 0 ≤ reg ∧ reg ≤ regT op ∧ 0 ≤ arg ∧ arg ≤ argT op := by simpa [okIns] using h
theorem encL_1 (op reg arg : Int) (h : lenT op = 1) : encL op reg arg = [8 * op + reg] := by unfold encL; rw [h]; rfl
theorem encL_2 (op reg arg : Int) (h : lenT op = 2) (h0 : 0 ≤ arg) (h1 : arg ≤ 255) : encL op reg arg = [8 * op + reg, arg] := by
  unfold encL; rw [h]
  show [8 * op + reg, arg % 256] = _
  rw [Int.emod_eq_of_lt h0 (by omega)]
theorem encL_3 (op reg arg : Int) (h : lenT op = 3) (h0 : 0 ≤ arg) (h1 : arg ≤ 4095) : encL op reg arg = [8 * op + reg, arg % 256, arg / 256] := by
  unfold encL; rw [h]
  show [8 * op + reg, arg % 256, arg / 256 % 256] = _
  rw [Int.emod_eq_of_lt (by omega) (by omega : arg / 256 < 256)]
section
variable (op reg arg : Int) (w : World)
set_option maxRecDepth 100000 in
set_option maxHeartbeats 2000000 in
theorem implEncode (ht : OpsT w) : Calls Tryd.prog 14 #[.agg #[.int .i64 op, .int .i64 reg, .int .i64 arg]] w (GivesIC (encF op reg arg) w) := by
  have hb0 := alloc_below w (.cells #[.int .i64 op, .int .i64 reg, .int .i64 arg] 24)
  have X0 := Lib.hid (Box.new w 24 #[.int .i64 op, .int .i64 reg, .int .i64 arg])
  have HV := Lib.hid (valid op reg arg _ (ht.below hb0))
  have HT := Lib.hid ht
  have HB0 := Lib.hid hb0
  clear ht
  cases hok : okIns op reg arg with
  | true =>
    rw [encF_t hok]
    rw [hok] at HV
    obtain ⟨h1, h2, h3, h4, h5, h6⟩ := okIns_iff hok
    have hr := regT_range op
    have ha := argT_range op
    have HO := Lib.hid (fun W (h : OpsT W) => insBytes op.toNat reg arg W h (by omega) h3 (by omega) h5 (by omega))
    rw [show ((op.toNat : Nat) : Int) = op from by omega] at HO
    clear hok h1 h2 h3 h4 h5 h6 hr ha hb0
    generalize encL op reg arg = zs at HO ⊢
    go_enter Tryd.func14, Tryd.ntmps14
    go_wp2_with fail
    refine HV.out.mono ?_
    rintro e w1 ⟨rfl, hb⟩
    have HB1 := Lib.hid (bt HB0.out hb)
    have X1 := Lib.hid (X0.out.step hb)
    clear hb X0 HB0 HV
    have x0 := X1.out.cell 0 rfl
    have x1 := X1.out.cell 1 rfl
    have x2 := X1.out.cell 2 rfl
    go_wp2_with fail
    refine (HO.out w1 (HT.out.below HB1.out)).mono ?_
    rintro e w2 ⟨A, n, c, rfl, hl, HZ, hb⟩
    have HL := Lib.hid hl
    have HB2 := Lib.hid (bt HB1.out hb)
    have HZ2 := Lib.hid (HZ.out.wideB HB1.out.size (Nat.le_refl _))
    clear hl hb HZ x0 x1 x2
    go_wp2
    go_ret2
    exact ⟨A, c, by rw [HL.out]; rfl, Lib.hid (ownI1 rfl HZ2.out), HB2.out⟩
  | false =>
    rw [encF_f hok]
    rw [hok] at HV
    clear hok hb0
    go_enter Tryd.func14, Tryd.ntmps14
    go_wp2_with fail
    refine HV.out.mono ?_
    rintro e w1 ⟨rfl, hb⟩
    have HB1 := Lib.hid (bt HB0.out hb)
    clear hb X0 HB0 HV
    go_wp2
    go_ret2
    exact ⟨none, 0, rfl, Lib.hid (ownI1 rfl (.inl rfl)), HB1.out⟩

set_option maxRecDepth 100000 in
set_option maxHeartbeats 4000000 in
theorem l07EncodeS (h : okIns op reg arg = true) : Calls Tryd.prog 47 #[.agg #[.int .i64 op, .int .i64 reg, .int .i64 arg]] w (GivesI (encL op reg arg) w) := by
  obtain ⟨h1, h2, h3, h4, h5, h6⟩ := okIns_iff h
  have hr := regT_range op
  have ha := argT_range op
  have hr1 : reg ≤ 3 := by omega
  have hl := lenT_range op
  have hl3 : lenT op = 1 ∨ lenT op = 2 ∨ lenT op = 3 := by omega
  have HG := Lib.hid (l07LengthA op)
  obtain ⟨W0, hW0⟩ : ∃ W0, W0 = (w.alloc (.cells #[.int .i64 op, .int .i64 reg, .int .i64 arg] 24)).alloc (.cells #[.int .i64 (8 * op + reg)] 3) := ⟨_, rfl⟩
  have hb0 : Below w.heap.size w W0 := by rw [hW0]; exact bt (alloc_below _ _) (alloc_below _ _)
  have X0 : Hid (Box W0 w.heap.size 24 #[.int .i64 op, .int .i64 reg, .int .i64 arg]) := Lib.hid (by rw [hW0]; exact (Box.new _ _ _).alloc _)
  have X1 : Hid (Box W0 (w.heap.size + 1) 3 #[.int .i64 (8 * op + reg)]) := Lib.hid (by rw [hW0]; simpa using Box.new (w.alloc (.cells #[.int .i64 op, .int .i64 reg, .int .i64 arg] 24)) 3 #[.int .i64 (8 * op + reg)])
  have hs0 : w.heap.size + 1 + 1 = W0.heap.size := by rw [hW0]; simp
  have HR1 : Hid (W0.ownsRow (w.heap.size + 1) 3 1 (.slice (some ⟨w.heap.size + 1, 0, none⟩) 1 1) 1 [.int .i64 (8 * op + reg)]) := Lib.hid (rowv_box (Nat.le_refl _) X1.out (by show 1 ≤ maxLen; unfold maxLen; omega))
  have HW0 := Lib.hid hW0
  have HB0 := Lib.hid hb0
  clear hb0 hr ha hl h h4
  rcases hl3 with e | e | e
  · have HE := Lib.hid (encL_1 op reg arg e)
    rw [e] at HG
    generalize encL op reg arg = zs at HE ⊢
    clear e
    have HO : Hid (OwnI W0 w.heap.size W0.heap.size (some ⟨w.heap.size + 1, 0, none⟩) zs) := Lib.hid (by rw [HE.out]; exact GroI.own (n := 1) (c := 1) HR1.out (Nat.le_succ _))
    clear hW0
    go_enter Tryd.func47, Tryd.ntmps47
    go_wp2_with fail
    rw [← HW0.out]
    refine (HG.out _).mono ?_
    rintro e w' ⟨rfl, rfl⟩
    go_wp2
    go_ret
    exact ⟨_, _, _, rfl, by rw [HE.out]; rfl, HO, HB0.out⟩
  · have h255 : arg ≤ 255 := by
      have : argT op ≤ 255 := by
        have := arg_len op
        unfold lenT at e
        unfold argT
        repeat' split
        all_goals first | omega | (split at e <;> omega)
      omega
    have HE := Lib.hid (encL_2 op reg arg e h5 h255)
    rw [e] at HG
    generalize encL op reg arg = zs at HE ⊢
    clear e hW0
    have x2 := X0.out.cell 2 rfl
    have HBa : Hid (Below W0.heap.size W0 (W0.alloc (.cells #[.int .i64 arg] 3))) := Lib.hid (alloc_below _ _)
    have HOw := Lib.hid (rowv_below HR1.out HBa.out)
    have HNw : Hid (∀ i u, [Value.int .i64 arg][i]? = some u → (W0.alloc (.cells #[.int .i64 arg] 3)).cell? ⟨W0.heap.size, i, none⟩ = some u) := Lib.hid (fun i u hi => by
      match i, hi with
      | 0, hi => simp at hi; subst hi; exact (Box.new W0 3 #[.int .i64 arg]).cell 0 rfl)
    go_enter Tryd.func47, Tryd.ntmps47
    go_wp2_with fail
    rw [← HW0.out]
    refine (HG.out _).mono ?_
    rintro e w' ⟨rfl, rfl⟩
    go_wp2_with (at_builtin; refine wpList_app_one rfl (.tmp 16) (.tmp 19) 26 3 rfl (.int .i64 0) 1 8 elemInt Tryd.underlying26 (w.heap.size + 1) (.slice (some ⟨w.heap.size + 1, 0, none⟩) 1 1) 1 [.int .i64 (8 * op + reg)] rfl ?hown W0.heap.size 1 rfl [.int .i64 arg] rfl ?hnews ?hone ?h63 ?hby ?hbase ?_)
    case hown => exact HOw.out
    case hnews => exact HNw.out
    case hone => intro u hu; simp at hu; subst hu; rfl
    case h63 => unfold maxLen; omega
    case hby => omega
    case hbase => simp; omega
    intro A2 c2 w2 hR2 hc2 hg2 hb2
    have HB2 := Lib.hid ((bt HB0.out HBa.out).trans (hb2.mono (by omega)))
    have HO : Hid (OwnI w2 w.heap.size w2.heap.size A2 zs) := Lib.hid (by rw [HE.out]; exact GroI.own (n := 2) (c := c2) hR2 (Nat.le_succ _))
    clear hR2 hb2 hg2 x2
    go_wp2
    go_ret
    exact ⟨_, _, _, rfl, by rw [HE.out]; rfl, HO, HB2.out⟩
  · have h4095 : arg ≤ 4095 := by have := argT_range op; omega
    have HE := Lib.hid (encL_3 op reg arg e h5 h4095)
    rw [e] at HG
    generalize encL op reg arg = zs at HE ⊢
    clear e hW0
    have x2 := X0.out.cell 2 rfl
    obtain ⟨m, rfl⟩ : ∃ m : Nat, arg = m := ⟨arg.toNat, by omega⟩
    have hand := and255 m (by omega)
    have HBa : Hid (Below W0.heap.size W0 (W0.alloc (.cells #[.int .i64 ((m % 256 : Nat) : Int), .int .i64 ((m : Int) / 256)] 3))) := Lib.hid (alloc_below _ _)
    have HOw := Lib.hid (rowv_below HR1.out HBa.out)
    have HNw : Hid (∀ i u, [Value.int .i64 ((m % 256 : Nat) : Int), .int .i64 ((m : Int) / 256)][i]? = some u → (W0.alloc (.cells #[.int .i64 ((m % 256 : Nat) : Int), .int .i64 ((m : Int) / 256)] 3)).cell? ((⟨W0.heap.size, 0, none⟩ : Addr).add i) = some u) := Lib.hid (fun i u hi => by
      match i, hi with
      | 0, hi => simp at hi; subst hi; exact (Box.new W0 3 #[.int .i64 ((m % 256 : Nat) : Int), .int .i64 ((m : Int) / 256)]).cell 0 rfl
      | 1, hi => simp at hi; subst hi; exact (Box.new W0 3 #[.int .i64 ((m % 256 : Nat) : Int), .int .i64 ((m : Int) / 256)]).cell 1 rfl)
    go_enter Tryd.func47, Tryd.ntmps47
    go_wp2_with fail
    rw [← HW0.out]
    refine (HG.out _).mono ?_
    rintro e w' ⟨rfl, rfl⟩
    go_wp2_with (at_builtin; refine wpList_app_many rfl (.tmp 23) (.tmp 30) 26 3 rfl (.int .i64 0) 1 8 elemInt Tryd.underlying26 (w.heap.size + 1) (.slice (some ⟨w.heap.size + 1, 0, none⟩) 1 1) 1 [.int .i64 (8 * op + reg)] rfl ?hown ⟨W0.heap.size, 0, none⟩ 2 2 rfl [.int .i64 ((m % 256 : Nat) : Int), .int .i64 ((m : Int) / 256)] rfl ?hnews ?hone ?h63 ?hby ?hbase ?_)
    case hown => exact HOw.out
    case hnews => exact HNw.out
    case hone => intro u hu; simp at hu; rcases hu with rfl | rfl <;> rfl
    case h63 => unfold maxLen; omega
    case hby => omega
    case hbase => simp; omega
    intro A2 c2 w2 hR2 hc2 hg2 hb2
    have HB2 := Lib.hid ((bt HB0.out HBa.out).trans (hb2.mono (by omega)))
    have HO : Hid (OwnI w2 w.heap.size w2.heap.size A2 zs) := Lib.hid (by rw [HE.out]; exact GroI.own (n := 3) (c := c2) hR2 (Nat.le_succ _))
    clear hR2 hb2 hg2 x2
    go_wp2
    go_ret
    exact ⟨_, _, _, rfl, by rw [HE.out]; rfl, HO, HB2.out⟩
set_option maxRecDepth 100000 in
set_option maxHeartbeats 2000000 in
theorem specEncode : Calls Tryd.prog 15 #[.agg #[.int .i64 op, .int .i64 reg, .int .i64 arg]] w (GivesIC (encF op reg arg) w) := by
  have hb0 := alloc_below w (.cells #[.int .i64 op, .int .i64 reg, .int .i64 arg] 24)
  have X0 := Lib.hid (Box.new w 24 #[.int .i64 op, .int .i64 reg, .int .i64 arg])
  have HV := Lib.hid (specInstrOK op reg arg (w.alloc (.cells #[.int .i64 op, .int .i64 reg, .int .i64 arg] 24)))
  have HB0 := Lib.hid hb0
  cases hok : okIns op reg arg with
  | true =>
    rw [encF_t hok]
    rw [hok] at HV
    have HO := Lib.hid (fun W => l07EncodeS op reg arg W hok)
    clear hok hb0
    generalize encL op reg arg = zs at HO ⊢
    go_enter Tryd.func15, Tryd.ntmps15
    go_wp2_with fail
    refine HV.out.mono ?_
    rintro e w1 ⟨rfl, hb⟩
    have HB1 := Lib.hid (bt HB0.out hb)
    have X1 := Lib.hid (X0.out.step hb)
    clear hb X0 HB0 HV
    have x0 := X1.out.cell 0 rfl
    have x1 := X1.out.cell 1 rfl
    have x2 := X1.out.cell 2 rfl
    go_wp2_with fail
    refine (HO.out w1).mono ?_
    rintro e w2 ⟨A, n, c, rfl, hl, HZ, hb⟩
    have HL := Lib.hid hl
    have HB2 := Lib.hid (bt HB1.out hb)
    have HZ2 := Lib.hid (HZ.out.wideB HB1.out.size (Nat.le_refl _))
    clear hl hb HZ x0 x1 x2
    go_wp2
    go_ret2
    exact ⟨A, c, by rw [HL.out]; rfl, Lib.hid (ownI1 rfl HZ2.out), HB2.out⟩
  | false =>
    rw [encF_f hok]
    rw [hok] at HV
    clear hok hb0
    go_enter Tryd.func15, Tryd.ntmps15
    go_wp2_with fail
    refine HV.out.mono ?_
    rintro e w1 ⟨rfl, hb⟩
    have HB1 := Lib.hid (bt HB0.out hb)
    clear hb X0 HB0 HV
    go_wp2
    go_ret2
    exact ⟨_, _, rfl, Lib.hid (ownI1 rfl (.inl rfl)), bt HB1.out (alloc_below _ _)⟩
end
set_option maxRecDepth 100000 in
theorem specEncodeA (d0 d1 d2 : Int) (w : World) : Calls Tryd.prog 15 #[.agg #[.int .i64 d0, .int .i64 d1, .int .i64 d2]] w (fun e w' => ∃ A c, e = .returned (.tuple #[.slice A (encF d0 d1 d2).1.length c, .int .i64 (encF d0 d1 d2).2]) ∧ Hid (OwnA w' w.heap.size w'.heap.size [.slice A (encF d0 d1 d2).1.length c] [.I (encF d0 d1 d2).1]) ∧ Below w.heap.size w w') := specEncode d0 d1 d2 w
set_option maxRecDepth 100000 in
theorem implEncodeA (d0 d1 d2 : Int) (w : World) (t : OpsT w) : Calls Tryd.prog 14 #[.agg #[.int .i64 d0, .int .i64 d1, .int .i64 d2]] w (fun e w' => ∃ A c, e = .returned (.tuple #[.slice A (encF d0 d1 d2).1.length c, .int .i64 (encF d0 d1 d2).2]) ∧ Hid (OwnA w' w.heap.size w'.heap.size [.slice A (encF d0 d1 d2).1.length c] [.I (encF d0 d1 d2).1]) ∧ Below w.heap.size w w') := implEncode d0 d1 d2 w t
end Go.Proofs.YtoaeofahknknhaaDoor
