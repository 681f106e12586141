/- Texts of this claim, one behind the other: CpuSpec2, GenIrq, IrqOk, CpuOk, ProcM, DmaImpl, DmaMv. -/
import Derived.BigQuiet
import Derived.Deep.QuietTactic
import Derived.Deep.RegionHeld3
import Derived.Test.YtngoijchebfolaaM7
/- The model's processor: flags, an interrupt, its own registers. Written by gen_cpuspec2.py. -/
namespace Go.Proofs.Ytngoijchebfolaa
open Go.RowKit

theorem bitI_range (b : Bool) : 0 ≤ bitI b ∧ bitI b ≤ 1 := by cases b <;> decide
set_option maxRecDepth 100000 in
theorem l01BitI (q : Bool) (w : World) : Calls Try.prog 119 #[.bool q] w fun e w' => e = .returned (.int .i64 (bitI q)) ∧ w = w' := l01Bit q w

set_option maxRecDepth 100000 in
set_option maxHeartbeats 4000000 in
theorem l08FlagsS (A : Option Addr) (c : Nat) (d : CD) (w : World) (hd : d.Ok) :
    Calls Try.prog 98 #[.agg #[.int .i64 d.pc, .int .i64 d.sp, .int .i64 d.bank, .int .i64 d.level, .bool d.zero, .bool d.carry, .bool d.on, .bool d.halt, .slice A 16 c]] w fun e w' => e = .returned (.int .i64 d.flags) ∧ Below w.heap.size w w' := by
  obtain ⟨W1, hW1⟩ : ∃ W1, W1 = (w.alloc (.cells #[.int .i64 d.pc, .int .i64 d.sp, .int .i64 d.bank, .int .i64 d.level, .bool d.zero, .bool d.carry, .bool d.on, .bool d.halt, .slice A 16 c] 50)) := ⟨_, rfl⟩
  have hb0 : Below w.heap.size w W1 := by rw [hW1]; exact ((Below.refl _ _).alloc (Nat.le_refl _) _)
  have Z2 : Hid (W1.heap.size = w.heap.size + 1) := Lib.hid (by rw [hW1]; simp)
  have X3 : Hid (Box W1 (w.heap.size) 50 #[.int .i64 d.pc, .int .i64 d.sp, .int .i64 d.bank, .int .i64 d.level, .bool d.zero, .bool d.carry, .bool d.on, .bool d.halt, .slice A 16 c]) := Lib.hid (by rw [hW1]; exact (Box.new w 50 #[.int .i64 d.pc, .int .i64 d.sp, .int .i64 d.bank, .int .i64 d.level, .bool d.zero, .bool d.carry, .bool d.on, .bool d.halt, .slice A 16 c]))
  have HW0 := Lib.hid hW1
  clear hW1
  have h1 := hd.bank
  have h2 := hd.level
  have q1 := bitI_range d.zero
  have q2 := bitI_range d.carry
  have q3 := bitI_range d.on
  have HF : Hid (d.flags = d.level + 8 * d.bank + 32 * bitI d.zero + 64 * bitI d.carry + 128 * bitI d.on) := Lib.hid rfl
  have B1 := Lib.hid (fun W => l01BitI d.zero W)
  have B2 := Lib.hid (fun W => l01BitI d.carry W)
  have B3 := Lib.hid (fun W => l01BitI d.on W)
  generalize d.flags = f at HF ⊢
  generalize bitI d.zero = x at HF B1 q1
  generalize bitI d.carry = y at HF B2 q2
  generalize bitI d.on = z at HF B3 q3
  obtain ⟨q11, q12⟩ := q1
  obtain ⟨q21, q22⟩ := q2
  obtain ⟨q31, q32⟩ := q3
  obtain ⟨h11, h12⟩ := h1
  obtain ⟨h21, h22⟩ := h2
  clear hd
  have f4 := X3.out.cell 0 rfl
  have f5 := X3.out.cell 1 rfl
  have f6 := X3.out.cell 2 rfl
  have f7 := X3.out.cell 3 rfl
  have f8 := X3.out.cell 4 rfl
  have f9 := X3.out.cell 5 rfl
  have f10 := X3.out.cell 6 rfl
  have f11 := X3.out.cell 7 rfl
  have f12 := X3.out.cell 8 rfl
  rw [HW0.out] at f4 f5 f6 f7 f8 f9 f10 f11 f12
  have hb1 := hb0.drew
  have Hb := Lib.hid hb0
  clear hb0
  go_enter Try.func98, Try.ntmps98
  go_wp2
  go_quiet (first | (go_at_call 119; first | exact quiet_same' (B1.out _) | exact quiet_same' (B2.out _) | exact quiet_same' (B3.out _)))
  go_wp2
  go_ret
  rw [HF.out]
  rw [← HW0.out]
  exact ⟨rfl, below_drewN Hb.out _⟩
theorem arr34 (T : Array Value) (h : T.size = 34) : ∃ t0 t1 t2 t3 t4 t5 t6 t7 t8 t9 t10 t11 t12 t13 t14 t15 t16 t17 t18 t19 t20 t21 t22 t23 t24 t25 t26 t27 t28 t29 t30 t31 t32 t33 : Value, T = #[t0, t1, t2, t3, t4, t5, t6, t7, t8, t9, t10, t11, t12, t13, t14, t15, t16, t17, t18, t19, t20, t21, t22, t23, t24, t25, t26, t27, t28, t29, t30, t31, t32, t33] := by
  obtain ⟨l⟩ := T
  match l, h with
  | t0 :: t1 :: t2 :: t3 :: t4 :: t5 :: t6 :: t7 :: t8 :: t9 :: t10 :: t11 :: t12 :: t13 :: t14 :: t15 :: t16 :: t17 :: t18 :: t19 :: t20 :: t21 :: t22 :: t23 :: t24 :: t25 :: t26 :: t27 :: t28 :: t29 :: t30 :: t31 :: t32 :: t33 :: [], _ => exact ⟨t0, t1, t2, t3, t4, t5, t6, t7, t8, t9, t10, t11, t12, t13, t14, t15, t16, t17, t18, t19, t20, t21, t22, t23, t24, t25, t26, t27, t28, t29, t30, t31, t32, t33, rfl⟩

set_option maxRecDepth 100000 in
set_option maxHeartbeats 4000000 in
theorem l08Enter (A : Option Addr) (c : Nat) (d : CD) (A0 A1 A2 A3 : Option Addr) (c0 c1 c2 c3 : Nat) (m : MD) (w : World) (line level : Int) (hl : 0 ≤ line ∧ line ≤ 7) (hv : 0 ≤ level ∧ level ≤ 7) (hc : RepC w A d) (hm : RepM w A0 A1 A2 A3 m) :
    Calls Try.prog 59 #[.agg #[.int .i64 d.pc, .int .i64 d.sp, .int .i64 d.bank, .int .i64 d.level, .bool d.zero, .bool d.carry, .bool d.on, .bool d.halt, .slice A 16 c], .agg #[.slice A0 256 c0, .slice A1 32 c1, .slice A2 256 c2, .slice A3 16 c3, .int .i64 m.s], .int .i64 line, .int .i64 level] w (ReadsCM (enterD d line level) (enterM d m) w) := by
  obtain ⟨W1, hW1⟩ : ∃ W1, W1 = ((((w.alloc (.cells #[.int .i64 d.pc, .int .i64 d.sp, .int .i64 d.bank, .int .i64 d.level, .bool d.zero, .bool d.carry, .bool d.on, .bool d.halt, .slice A 16 c] 50)).alloc (.cells #[.slice A0 256 c0, .slice A1 32 c1, .slice A2 256 c2, .slice A3 16 c3, .int .i64 m.s] 28)).alloc (.cells #[.int .i64 0, .int .i64 0, .int .i64 0, .int .i64 0, .bool false, .bool false, .bool false, .bool false, .slice none 0 0] 50)).alloc (.cells #[.slice none 0 0, .slice none 0 0, .slice none 0 0, .slice none 0 0, .int .i64 0] 28)) := ⟨_, rfl⟩
  have hb0 : Below w.heap.size w W1 := by rw [hW1]; exact (((((Below.refl _ _).alloc (Nat.le_refl _) _).alloc (by simp; try omega) _).alloc (by simp; try omega) _).alloc (by simp; try omega) _)
  have Z2 : Hid (W1.heap.size = w.heap.size + 4) := Lib.hid (by rw [hW1]; simp)
  have X3 : Hid (Box W1 (w.heap.size) 50 #[.int .i64 d.pc, .int .i64 d.sp, .int .i64 d.bank, .int .i64 d.level, .bool d.zero, .bool d.carry, .bool d.on, .bool d.halt, .slice A 16 c]) := Lib.hid (by rw [hW1]; exact ((((Box.new w 50 #[.int .i64 d.pc, .int .i64 d.sp, .int .i64 d.bank, .int .i64 d.level, .bool d.zero, .bool d.carry, .bool d.on, .bool d.halt, .slice A 16 c]).alloc _).alloc _).alloc _))
  have X4 : Hid (Box W1 (w.heap.size + 1) 28 #[.slice A0 256 c0, .slice A1 32 c1, .slice A2 256 c2, .slice A3 16 c3, .int .i64 m.s]) := Lib.hid (by rw [hW1]; simpa using (((Box.new (w.alloc (.cells #[.int .i64 d.pc, .int .i64 d.sp, .int .i64 d.bank, .int .i64 d.level, .bool d.zero, .bool d.carry, .bool d.on, .bool d.halt, .slice A 16 c] 50)) 28 #[.slice A0 256 c0, .slice A1 32 c1, .slice A2 256 c2, .slice A3 16 c3, .int .i64 m.s]).alloc _).alloc _))
  have X5 : Hid (Box W1 (w.heap.size + 2) 50 #[.int .i64 0, .int .i64 0, .int .i64 0, .int .i64 0, .bool false, .bool false, .bool false, .bool false, .slice none 0 0]) := Lib.hid (by rw [hW1]; simpa using ((Box.new ((w.alloc (.cells #[.int .i64 d.pc, .int .i64 d.sp, .int .i64 d.bank, .int .i64 d.level, .bool d.zero, .bool d.carry, .bool d.on, .bool d.halt, .slice A 16 c] 50)).alloc (.cells #[.slice A0 256 c0, .slice A1 32 c1, .slice A2 256 c2, .slice A3 16 c3, .int .i64 m.s] 28)) 50 #[.int .i64 0, .int .i64 0, .int .i64 0, .int .i64 0, .bool false, .bool false, .bool false, .bool false, .slice none 0 0]).alloc _))
  have X6 : Hid (Box W1 (w.heap.size + 3) 28 #[.slice none 0 0, .slice none 0 0, .slice none 0 0, .slice none 0 0, .int .i64 0]) := Lib.hid (by rw [hW1]; simpa using (Box.new (((w.alloc (.cells #[.int .i64 d.pc, .int .i64 d.sp, .int .i64 d.bank, .int .i64 d.level, .bool d.zero, .bool d.carry, .bool d.on, .bool d.halt, .slice A 16 c] 50)).alloc (.cells #[.slice A0 256 c0, .slice A1 32 c1, .slice A2 256 c2, .slice A3 16 c3, .int .i64 m.s] 28)).alloc (.cells #[.int .i64 0, .int .i64 0, .int .i64 0, .int .i64 0, .bool false, .bool false, .bool false, .bool false, .slice none 0 0] 50)) 28 #[.slice none 0 0, .slice none 0 0, .slice none 0 0, .slice none 0 0, .int .i64 0]))
  have F7 : Hid (RepC W1 A d) := Lib.hid (hc.below hb0)
  have F8 : Hid (RepM W1 A0 A1 A2 A3 m) := Lib.hid (hm.below hb0)
  have HW0 := Lib.hid hW1
  clear hW1
  have hO := hc.1
  have hN := hm.1
  have hO0 : ({ d with halt := false } : CD).Ok := ⟨hO.pc, hO.sp, hO.bank, hO.level, hO.len, hO.regs⟩
  have HFl := Lib.hid (fun W => l08FlagsS A c d W hO)
  have HCa := Lib.hid (fun W (q : RepC W A d) (r : RepM W A0 A1 A2 A3 m) => l08Call A c { d with halt := false } A0 A1 A2 A3 c0 c1 c2 c3 m W (704 + 4 * line) (by omega) (by omega) ⟨hO0, q.2⟩ r)
  have HM0 : Hid (callM { d with halt := false } m = callM d m) := Lib.hid rfl
  rw [HM0.out] at HCa
  have HPu := Lib.hid (fun Aa ca Ab Ac Ad Ae cb cc cd ce W (q : RepC W Aa (callD { d with halt := false } (704 + 4 * line))) (r : RepM W Ab Ac Ad Ae (callM d m)) => l08Push Aa ca (callD { d with halt := false } (704 + 4 * line)) Ab Ac Ad Ae cb cc cd ce (callM d m) W d.flags hO.flags q r)
  unfold ReadsCM at HCa HPu
  have HD : Hid (enterD d line level = { (callD { d with halt := false } (704 + 4 * line)).down with level := level }) := Lib.hid rfl
  have HM : Hid (enterM d m = (callM d m).put (callD { d with halt := false } (704 + 4 * line)).sp d.flags) := Lib.hid rfl
  have HOk := Lib.hid (CD.Ok.enter hO hl hv)
  rw [HD.out] at HOk
  rw [HD.out, HM.out]
  clear HD HM HM0
  generalize callM d m = m1 at HCa HPu ⊢
  generalize callD { d with halt := false } (704 + 4 * line) = d1 at HCa HPu HOk ⊢
  generalize d.flags = fl at HFl HPu ⊢
  generalize m1.put d1.sp fl = m2 at HPu ⊢
  generalize d1.down = d2 at HPu HOk ⊢
  have hl0 := hl.1
  have hl1 := hl.2
  clear hc hm hO hN hO0 hl hv
  have f9 := X3.out.cell 0 rfl
  have f10 := X3.out.cell 1 rfl
  have f11 := X3.out.cell 2 rfl
  have f12 := X3.out.cell 3 rfl
  have f13 := X3.out.cell 4 rfl
  have f14 := X3.out.cell 5 rfl
  have f15 := X3.out.cell 6 rfl
  have f16 := X3.out.cell 7 rfl
  have f17 := X3.out.cell 8 rfl
  have f18 := X4.out.cell 0 rfl
  have f19 := X4.out.cell 1 rfl
  have f20 := X4.out.cell 2 rfl
  have f21 := X4.out.cell 3 rfl
  have f22 := X4.out.cell 4 rfl
  rw [HW0.out] at f9 f10 f11 f12 f13 f14 f15 f16 f17 f18 f19 f20 f21 f22
  go_enter Try.func59, Try.ntmps59
  go_wp2_with fail
  rw [← HW0.out]
  rw [← HW0.out] at f9 f10 f11 f12 f13 f14 f15 f16 f17 f18 f19 f20 f21 f22
  clear f9 f10 f11 f12 f13 f14 f15 f16 f17 f18 f19 f20 f21 f22
  refine (HFl.out _).mono ?_
  rintro e w1 ⟨rfl, hq0⟩
  have X23 := Lib.hid (X3.out.step hq0)
  have X24 := Lib.hid (X4.out.step hq0)
  have X25 := Lib.hid (X5.out.step hq0)
  have X26 := Lib.hid (X6.out.step hq0)
  have F27 := Lib.hid (F7.out.below hq0)
  have F28 := Lib.hid (F8.out.below hq0)
  have hb29 := bt hb0 hq0
  have Z30 : Hid (W1.heap.size ≤ w1.heap.size) := Lib.hid hq0.size
  clear X3 X4 X5 X6 F7 F8 hb0 hq0
  clear HFl
  have f31 := X23.out.cell 0 rfl
  have f32 := X23.out.cell 1 rfl
  have f33 := X23.out.cell 2 rfl
  have f34 := X23.out.cell 3 rfl
  have f35 := X23.out.cell 4 rfl
  have f36 := X23.out.cell 5 rfl
  have f37 := X23.out.cell 6 rfl
  have f38 := X23.out.cell 7 rfl
  have f39 := X23.out.cell 8 rfl
  have f40 := X24.out.cell 0 rfl
  have f41 := X24.out.cell 1 rfl
  have f42 := X24.out.cell 2 rfl
  have f43 := X24.out.cell 3 rfl
  have f44 := X24.out.cell 4 rfl
  have z45 := X23.out.frozen 0
  have z46 := X23.out.frozen 1
  have z47 := X23.out.frozen 2
  have z48 := X23.out.frozen 3
  have z49 := X23.out.frozen 4
  have z50 := X23.out.frozen 5
  have z51 := X23.out.frozen 6
  have z52 := X23.out.frozen 7
  have z53 := X23.out.frozen 8
  go_wp2_with fail
  obtain ⟨W54, hW54⟩ : ∃ W54, W54 = (w1.setCell ⟨w.heap.size, 7, none⟩ (.bool false)) := ⟨_, rfl⟩
  have hB55 : Btw (w.heap.size) (w.heap.size + 1) w1 W54 := by rw [hW54]; exact ((Btw.refl _ _ _).setCell (p := ⟨w.heap.size, 7, none⟩) (Nat.le_refl _) (Nat.lt_succ_self _) _)
  have X56 : Hid (Box W54 (w.heap.size) 50 #[.int .i64 d.pc, .int .i64 d.sp, .int .i64 d.bank, .int .i64 d.level, .bool d.zero, .bool d.carry, .bool d.on, .bool false, .slice A 16 c]) := Lib.hid (by rw [hW54]; exact (X23.out.set 7 _))
  have X57 := Lib.hid (X24.out.btw hB55 (by have := Z2.out; have := Z30.out; omega))
  have X58 := Lib.hid (X25.out.btw hB55 (by have := Z2.out; have := Z30.out; omega))
  have X59 := Lib.hid (X26.out.btw hB55 (by have := Z2.out; have := Z30.out; omega))
  have F60 := Lib.hid (F27.out.off X23.out (by simp) hB55)
  have F61 := Lib.hid (F28.out.off X23.out (by simp) hB55)
  have hb62 := Btw.lowSize hB55 hb29 (Nat.le_of_lt X23.out.lt) (by have := Z2.out; have := Z30.out; omega)
  have Z63 : Hid (w1.heap.size ≤ W54.heap.size) := Lib.hid hB55.size
  rw [← hW54]
  clear hW54 hB55 X23 X24 X25 X26 F27 F28 hb29
  clear f31 f32 f33 f34 f35 f36 f37 f38 f39 f40 f41 f42 f43 f44 z45 z46 z47 z48 z49 z50 z51 z52 z53
  refine (HCa.out _ F60.out F61.out).mono ?_
  rintro e w2 ⟨A1, c1, B10, B11, B12, B13, e10, e11, e12, e13, rfl, NC1, NM1, hq1⟩
  have X64 := Lib.hid (X56.out.step hq1)
  have X65 := Lib.hid (X57.out.step hq1)
  have X66 := Lib.hid (X58.out.step hq1)
  have X67 := Lib.hid (X59.out.step hq1)
  have F68 := Lib.hid (F60.out.below hq1)
  have F69 := Lib.hid (F61.out.below hq1)
  have hb70 := bt hb62 hq1
  have Z71 : Hid (W54.heap.size ≤ w2.heap.size) := Lib.hid hq1.size
  clear X56 X57 X58 X59 F60 F61 hb62 hq1
  clear F68 F69
  clear HCa
  have f72 := X64.out.cell 0 rfl
  have f73 := X64.out.cell 1 rfl
  have f74 := X64.out.cell 2 rfl
  have f75 := X64.out.cell 3 rfl
  have f76 := X64.out.cell 4 rfl
  have f77 := X64.out.cell 5 rfl
  have f78 := X64.out.cell 6 rfl
  have f79 := X64.out.cell 7 rfl
  have f80 := X64.out.cell 8 rfl
  have f81 := X65.out.cell 0 rfl
  have f82 := X65.out.cell 1 rfl
  have f83 := X65.out.cell 2 rfl
  have f84 := X65.out.cell 3 rfl
  have f85 := X65.out.cell 4 rfl
  have z86 := X64.out.frozen 0
  have z87 := X64.out.frozen 1
  have z88 := X64.out.frozen 2
  have z89 := X64.out.frozen 3
  have z90 := X64.out.frozen 4
  have z91 := X64.out.frozen 5
  have z92 := X64.out.frozen 6
  have z93 := X64.out.frozen 7
  have z94 := X64.out.frozen 8
  have z95 := X65.out.frozen 0
  have z96 := X65.out.frozen 1
  have z97 := X65.out.frozen 2
  have z98 := X65.out.frozen 3
  have z99 := X65.out.frozen 4
  go_wp2_with fail
  obtain ⟨W100, hW100⟩ : ∃ W100, W100 = (((((((((w2.setCell ⟨w.heap.size, 0, none⟩ (.int .i64 d1.pc)).setCell ⟨w.heap.size, 1, none⟩ (.int .i64 d1.sp)).setCell ⟨w.heap.size, 2, none⟩ (.int .i64 d1.bank)).setCell ⟨w.heap.size, 3, none⟩ (.int .i64 d1.level)).setCell ⟨w.heap.size, 4, none⟩ (.bool d1.zero)).setCell ⟨w.heap.size, 5, none⟩ (.bool d1.carry)).setCell ⟨w.heap.size, 6, none⟩ (.bool d1.on)).setCell ⟨w.heap.size, 7, none⟩ (.bool d1.halt)).setCell ⟨w.heap.size, 8, none⟩ (.slice A1 16 c1)) := ⟨_, rfl⟩
  have hB101 : Btw (w.heap.size) (w.heap.size + 1) w2 W100 := by rw [hW100]; exact ((((((((((Btw.refl _ _ _).setCell (p := ⟨w.heap.size, 0, none⟩) (Nat.le_refl _) (Nat.lt_succ_self _) _).setCell (p := ⟨w.heap.size, 1, none⟩) (Nat.le_refl _) (Nat.lt_succ_self _) _).setCell (p := ⟨w.heap.size, 2, none⟩) (Nat.le_refl _) (Nat.lt_succ_self _) _).setCell (p := ⟨w.heap.size, 3, none⟩) (Nat.le_refl _) (Nat.lt_succ_self _) _).setCell (p := ⟨w.heap.size, 4, none⟩) (Nat.le_refl _) (Nat.lt_succ_self _) _).setCell (p := ⟨w.heap.size, 5, none⟩) (Nat.le_refl _) (Nat.lt_succ_self _) _).setCell (p := ⟨w.heap.size, 6, none⟩) (Nat.le_refl _) (Nat.lt_succ_self _) _).setCell (p := ⟨w.heap.size, 7, none⟩) (Nat.le_refl _) (Nat.lt_succ_self _) _).setCell (p := ⟨w.heap.size, 8, none⟩) (Nat.le_refl _) (Nat.lt_succ_self _) _)
  have X102 : Hid (Box W100 (w.heap.size) 50 #[.int .i64 d1.pc, .int .i64 d1.sp, .int .i64 d1.bank, .int .i64 d1.level, .bool d1.zero, .bool d1.carry, .bool d1.on, .bool d1.halt, .slice A1 16 c1]) := Lib.hid (by rw [hW100]; exact (X64.out.allN9 rfl _ _ _ _ _ _ _ _ _))
  have X103 := Lib.hid (X65.out.btw hB101 (by have := Z2.out; have := Z30.out; have := Z63.out; have := Z71.out; omega))
  have X104 := Lib.hid (X66.out.btw hB101 (by have := Z2.out; have := Z30.out; have := Z63.out; have := Z71.out; omega))
  have X105 := Lib.hid (X67.out.btw hB101 (by have := Z2.out; have := Z30.out; have := Z63.out; have := Z71.out; omega))
  have F106 := Lib.hid (NC1.out.off X64.out (by simp) hB101)
  have F107 := Lib.hid (NM1.out.off X64.out (by simp) hB101)
  have hb108 := Btw.lowSize hB101 hb70 (Nat.le_of_lt X64.out.lt) (by have := Z2.out; have := Z30.out; have := Z63.out; have := Z71.out; omega)
  have Z109 : Hid (w2.heap.size ≤ W100.heap.size) := Lib.hid hB101.size
  rw [← hW100]
  clear hW100 hB101 X64 X65 X66 X67 NC1 NM1 hb70
  obtain ⟨W110, hW110⟩ : ∃ W110, W110 = (((((W100.setCell ⟨w.heap.size + 1, 0, none⟩ (.slice B10 256 e10)).setCell ⟨w.heap.size + 1, 1, none⟩ (.slice B11 32 e11)).setCell ⟨w.heap.size + 1, 2, none⟩ (.slice B12 256 e12)).setCell ⟨w.heap.size + 1, 3, none⟩ (.slice B13 16 e13)).setCell ⟨w.heap.size + 1, 4, none⟩ (.int .i64 m1.s)) := ⟨_, rfl⟩
  have hB111 : Btw (w.heap.size + 1) (w.heap.size + 1 + 1) W100 W110 := by rw [hW110]; exact ((((((Btw.refl _ _ _).setCell (p := ⟨w.heap.size + 1, 0, none⟩) (Nat.le_refl _) (Nat.lt_succ_self _) _).setCell (p := ⟨w.heap.size + 1, 1, none⟩) (Nat.le_refl _) (Nat.lt_succ_self _) _).setCell (p := ⟨w.heap.size + 1, 2, none⟩) (Nat.le_refl _) (Nat.lt_succ_self _) _).setCell (p := ⟨w.heap.size + 1, 3, none⟩) (Nat.le_refl _) (Nat.lt_succ_self _) _).setCell (p := ⟨w.heap.size + 1, 4, none⟩) (Nat.le_refl _) (Nat.lt_succ_self _) _)
  have X112 : Hid (Box W110 (w.heap.size + 1) 28 #[.slice B10 256 e10, .slice B11 32 e11, .slice B12 256 e12, .slice B13 16 e13, .int .i64 m1.s]) := Lib.hid (by rw [hW110]; exact (X103.out.allN5 rfl _ _ _ _ _))
  have X113 := Lib.hid (X102.out.btw hB111 (by have := Z2.out; have := Z30.out; have := Z63.out; have := Z71.out; have := Z109.out; omega))
  have X114 := Lib.hid (X104.out.btw hB111 (by have := Z2.out; have := Z30.out; have := Z63.out; have := Z71.out; have := Z109.out; omega))
  have X115 := Lib.hid (X105.out.btw hB111 (by have := Z2.out; have := Z30.out; have := Z63.out; have := Z71.out; have := Z109.out; omega))
  have F116 := Lib.hid (F106.out.off X103.out (by simp) hB111)
  have F117 := Lib.hid (F107.out.off X103.out (by simp) hB111)
  have hb118 := Btw.lowSize hB111 hb108 (Nat.le_of_lt X103.out.lt) (by have := Z2.out; have := Z30.out; have := Z63.out; have := Z71.out; have := Z109.out; omega)
  have Z119 : Hid (W100.heap.size ≤ W110.heap.size) := Lib.hid hB111.size
  rw [← hW110]
  clear hW110 hB111 X103 X102 X104 X105 F106 F107 hb108
  clear f72 f73 f74 f75 f76 f77 f78 f79 f80 f81 f82 f83 f84 f85 z86 z87 z88 z89 z90 z91 z92 z93 z94 z95 z96 z97 z98 z99
  refine (HPu.out _ _ _ _ _ _ _ _ _ _ _ F116.out F117.out).mono ?_
  rintro e w3 ⟨A2, c2, B20, B21, B22, B23, e20, e21, e22, e23, rfl, NC2, NM2, hq2⟩
  have X120 := Lib.hid (X113.out.step hq2)
  have X121 := Lib.hid (X112.out.step hq2)
  have X122 := Lib.hid (X114.out.step hq2)
  have X123 := Lib.hid (X115.out.step hq2)
  have F124 := Lib.hid (F116.out.below hq2)
  have F125 := Lib.hid (F117.out.below hq2)
  have hb126 := bt hb118 hq2
  have Z127 : Hid (W110.heap.size ≤ w3.heap.size) := Lib.hid hq2.size
  clear X113 X112 X114 X115 F116 F117 hb118 hq2
  clear F124 F125
  clear HPu
  have f128 := X120.out.cell 0 rfl
  have f129 := X120.out.cell 1 rfl
  have f130 := X120.out.cell 2 rfl
  have f131 := X120.out.cell 3 rfl
  have f132 := X120.out.cell 4 rfl
  have f133 := X120.out.cell 5 rfl
  have f134 := X120.out.cell 6 rfl
  have f135 := X120.out.cell 7 rfl
  have f136 := X120.out.cell 8 rfl
  have f137 := X121.out.cell 0 rfl
  have f138 := X121.out.cell 1 rfl
  have f139 := X121.out.cell 2 rfl
  have f140 := X121.out.cell 3 rfl
  have f141 := X121.out.cell 4 rfl
  have f142 := X122.out.cell 0 rfl
  have f143 := X122.out.cell 1 rfl
  have f144 := X122.out.cell 2 rfl
  have f145 := X122.out.cell 3 rfl
  have f146 := X122.out.cell 4 rfl
  have f147 := X122.out.cell 5 rfl
  have f148 := X122.out.cell 6 rfl
  have f149 := X122.out.cell 7 rfl
  have f150 := X122.out.cell 8 rfl
  have f151 := X123.out.cell 0 rfl
  have f152 := X123.out.cell 1 rfl
  have f153 := X123.out.cell 2 rfl
  have f154 := X123.out.cell 3 rfl
  have f155 := X123.out.cell 4 rfl
  have z156 := X120.out.frozen 0
  have z157 := X120.out.frozen 1
  have z158 := X120.out.frozen 2
  have z159 := X120.out.frozen 3
  have z160 := X120.out.frozen 4
  have z161 := X120.out.frozen 5
  have z162 := X120.out.frozen 6
  have z163 := X120.out.frozen 7
  have z164 := X120.out.frozen 8
  have z165 := X121.out.frozen 0
  have z166 := X121.out.frozen 1
  have z167 := X121.out.frozen 2
  have z168 := X121.out.frozen 3
  have z169 := X121.out.frozen 4
  go_wp2
  obtain ⟨W170, hW170⟩ : ∃ W170, W170 = (((((((((w3.setCell ⟨w.heap.size, 0, none⟩ (.int .i64 d2.pc)).setCell ⟨w.heap.size, 1, none⟩ (.int .i64 d2.sp)).setCell ⟨w.heap.size, 2, none⟩ (.int .i64 d2.bank)).setCell ⟨w.heap.size, 3, none⟩ (.int .i64 d2.level)).setCell ⟨w.heap.size, 4, none⟩ (.bool d2.zero)).setCell ⟨w.heap.size, 5, none⟩ (.bool d2.carry)).setCell ⟨w.heap.size, 6, none⟩ (.bool d2.on)).setCell ⟨w.heap.size, 7, none⟩ (.bool d2.halt)).setCell ⟨w.heap.size, 8, none⟩ (.slice A2 16 c2)) := ⟨_, rfl⟩
  have hB171 : Btw (w.heap.size) (w.heap.size + 1) w3 W170 := by rw [hW170]; exact ((((((((((Btw.refl _ _ _).setCell (p := ⟨w.heap.size, 0, none⟩) (Nat.le_refl _) (Nat.lt_succ_self _) _).setCell (p := ⟨w.heap.size, 1, none⟩) (Nat.le_refl _) (Nat.lt_succ_self _) _).setCell (p := ⟨w.heap.size, 2, none⟩) (Nat.le_refl _) (Nat.lt_succ_self _) _).setCell (p := ⟨w.heap.size, 3, none⟩) (Nat.le_refl _) (Nat.lt_succ_self _) _).setCell (p := ⟨w.heap.size, 4, none⟩) (Nat.le_refl _) (Nat.lt_succ_self _) _).setCell (p := ⟨w.heap.size, 5, none⟩) (Nat.le_refl _) (Nat.lt_succ_self _) _).setCell (p := ⟨w.heap.size, 6, none⟩) (Nat.le_refl _) (Nat.lt_succ_self _) _).setCell (p := ⟨w.heap.size, 7, none⟩) (Nat.le_refl _) (Nat.lt_succ_self _) _).setCell (p := ⟨w.heap.size, 8, none⟩) (Nat.le_refl _) (Nat.lt_succ_self _) _)
  have X172 : Hid (Box W170 (w.heap.size) 50 #[.int .i64 d2.pc, .int .i64 d2.sp, .int .i64 d2.bank, .int .i64 d2.level, .bool d2.zero, .bool d2.carry, .bool d2.on, .bool d2.halt, .slice A2 16 c2]) := Lib.hid (by rw [hW170]; exact (X120.out.allN9 rfl _ _ _ _ _ _ _ _ _))
  have X173 := Lib.hid (X121.out.btw hB171 (by have := Z2.out; have := Z30.out; have := Z63.out; have := Z71.out; have := Z109.out; have := Z119.out; have := Z127.out; omega))
  have X174 := Lib.hid (X122.out.btw hB171 (by have := Z2.out; have := Z30.out; have := Z63.out; have := Z71.out; have := Z109.out; have := Z119.out; have := Z127.out; omega))
  have X175 := Lib.hid (X123.out.btw hB171 (by have := Z2.out; have := Z30.out; have := Z63.out; have := Z71.out; have := Z109.out; have := Z119.out; have := Z127.out; omega))
  have F176 := Lib.hid (NC2.out.off X120.out (by simp) hB171)
  have F177 := Lib.hid (NM2.out.off X120.out (by simp) hB171)
  have hb178 := Btw.lowSize hB171 hb126 (Nat.le_of_lt X120.out.lt) (by have := Z2.out; have := Z30.out; have := Z63.out; have := Z71.out; have := Z109.out; have := Z119.out; have := Z127.out; omega)
  have Z179 : Hid (w3.heap.size ≤ W170.heap.size) := Lib.hid hB171.size
  rw [← hW170]
  clear hW170 hB171 X120 X121 X122 X123 NC2 NM2 hb126
  obtain ⟨W180, hW180⟩ : ∃ W180, W180 = (((((W170.setCell ⟨w.heap.size + 1, 0, none⟩ (.slice B20 256 e20)).setCell ⟨w.heap.size + 1, 1, none⟩ (.slice B21 32 e21)).setCell ⟨w.heap.size + 1, 2, none⟩ (.slice B22 256 e22)).setCell ⟨w.heap.size + 1, 3, none⟩ (.slice B23 16 e23)).setCell ⟨w.heap.size + 1, 4, none⟩ (.int .i64 m2.s)) := ⟨_, rfl⟩
  have hB181 : Btw (w.heap.size + 1) (w.heap.size + 1 + 1) W170 W180 := by rw [hW180]; exact ((((((Btw.refl _ _ _).setCell (p := ⟨w.heap.size + 1, 0, none⟩) (Nat.le_refl _) (Nat.lt_succ_self _) _).setCell (p := ⟨w.heap.size + 1, 1, none⟩) (Nat.le_refl _) (Nat.lt_succ_self _) _).setCell (p := ⟨w.heap.size + 1, 2, none⟩) (Nat.le_refl _) (Nat.lt_succ_self _) _).setCell (p := ⟨w.heap.size + 1, 3, none⟩) (Nat.le_refl _) (Nat.lt_succ_self _) _).setCell (p := ⟨w.heap.size + 1, 4, none⟩) (Nat.le_refl _) (Nat.lt_succ_self _) _)
  have X182 : Hid (Box W180 (w.heap.size + 1) 28 #[.slice B20 256 e20, .slice B21 32 e21, .slice B22 256 e22, .slice B23 16 e23, .int .i64 m2.s]) := Lib.hid (by rw [hW180]; exact (X173.out.allN5 rfl _ _ _ _ _))
  have X183 := Lib.hid (X172.out.btw hB181 (by have := Z2.out; have := Z30.out; have := Z63.out; have := Z71.out; have := Z109.out; have := Z119.out; have := Z127.out; have := Z179.out; omega))
  have X184 := Lib.hid (X174.out.btw hB181 (by have := Z2.out; have := Z30.out; have := Z63.out; have := Z71.out; have := Z109.out; have := Z119.out; have := Z127.out; have := Z179.out; omega))
  have X185 := Lib.hid (X175.out.btw hB181 (by have := Z2.out; have := Z30.out; have := Z63.out; have := Z71.out; have := Z109.out; have := Z119.out; have := Z127.out; have := Z179.out; omega))
  have F186 := Lib.hid (F176.out.off X173.out (by simp) hB181)
  have F187 := Lib.hid (F177.out.off X173.out (by simp) hB181)
  have hb188 := Btw.lowSize hB181 hb178 (Nat.le_of_lt X173.out.lt) (by have := Z2.out; have := Z30.out; have := Z63.out; have := Z71.out; have := Z109.out; have := Z119.out; have := Z127.out; have := Z179.out; omega)
  have Z189 : Hid (W170.heap.size ≤ W180.heap.size) := Lib.hid hB181.size
  rw [← hW180]
  clear hW180 hB181 X173 X172 X174 X175 F176 F177 hb178
  obtain ⟨W190, hW190⟩ : ∃ W190, W190 = (W180.setCell ⟨w.heap.size, 3, none⟩ (.int .i64 level)) := ⟨_, rfl⟩
  have hB191 : Btw (w.heap.size) (w.heap.size + 1) W180 W190 := by rw [hW190]; exact ((Btw.refl _ _ _).setCell (p := ⟨w.heap.size, 3, none⟩) (Nat.le_refl _) (Nat.lt_succ_self _) _)
  have X192 : Hid (Box W190 (w.heap.size) 50 #[.int .i64 d2.pc, .int .i64 d2.sp, .int .i64 d2.bank, .int .i64 level, .bool d2.zero, .bool d2.carry, .bool d2.on, .bool d2.halt, .slice A2 16 c2]) := Lib.hid (by rw [hW190]; exact (X183.out.set 3 _))
  have X193 := Lib.hid (X182.out.btw hB191 (by have := Z2.out; have := Z30.out; have := Z63.out; have := Z71.out; have := Z109.out; have := Z119.out; have := Z127.out; have := Z179.out; have := Z189.out; omega))
  have X194 := Lib.hid (X184.out.btw hB191 (by have := Z2.out; have := Z30.out; have := Z63.out; have := Z71.out; have := Z109.out; have := Z119.out; have := Z127.out; have := Z179.out; have := Z189.out; omega))
  have X195 := Lib.hid (X185.out.btw hB191 (by have := Z2.out; have := Z30.out; have := Z63.out; have := Z71.out; have := Z109.out; have := Z119.out; have := Z127.out; have := Z179.out; have := Z189.out; omega))
  have F196 := Lib.hid (F186.out.off X183.out (by simp) hB191)
  have F197 := Lib.hid (F187.out.off X183.out (by simp) hB191)
  have hb198 := Btw.lowSize hB191 hb188 (Nat.le_of_lt X183.out.lt) (by have := Z2.out; have := Z30.out; have := Z63.out; have := Z71.out; have := Z109.out; have := Z119.out; have := Z127.out; have := Z179.out; have := Z189.out; omega)
  have Z199 : Hid (W180.heap.size ≤ W190.heap.size) := Lib.hid hB191.size
  rw [← hW190]
  clear hW190 hB191 X183 X182 X184 X185 F186 F187 hb188
  refine wp_region_facts (by kernel_rfl) [[32], [33], [], []] [[], [], [0], [1]] [4, 5, 8, 9] (by kernel_rfl) (RetC W190 (w.heap.size) (w.heap.size + 1) (w.heap.size + 2) (w.heap.size + 3) 50 28 #[.int .i64 d2.pc, .int .i64 d2.sp, .int .i64 d2.bank, .int .i64 level, .bool d2.zero, .bool d2.carry, .bool d2.on, .bool d2.halt, .slice A2 16 c2] #[.slice B20 256 e20, .slice B21 32 e21, .slice B22 256 e22, .slice B23 16 e23, .int .i64 m2.s]) (RetF 32 33 (w.heap.size + 2) (w.heap.size + 3) 50 28 #[.int .i64 d2.pc, .int .i64 d2.sp, .int .i64 d2.bank, .int .i64 level, .bool d2.zero, .bool d2.carry, .bool d2.on, .bool d2.halt, .slice A2 16 c2] #[.slice B20 256 e20, .slice B21 32 e21, .slice B22 256 e22, .slice B23 16 e23, .int .i64 m2.s] 0 1 2 3 (fun _ _ => True)) ⟨(Btw.refl _ _ _).drew, ⟨_, by rfl, X194.out.drew⟩, ⟨_, by rfl, X195.out.drew⟩, X192.out.drew, X193.out.drew, by have := Z2.out; have := Z30.out; have := Z63.out; have := Z71.out; have := Z109.out; have := Z119.out; have := Z127.out; have := Z179.out; have := Z189.out; have := Z199.out; omega⟩ ⟨ret_load1 rfl 4 rfl rfl (by decide) rfl _ Try.underlying50 rfl infoCpu9 (by decide) (by show 32 < 34; decide), ret_load2 rfl (by decide) 5 rfl rfl (by decide) rfl _ Try.underlying28 rfl infoMem5 (by decide) (by show 33 < 34; decide), ret_store1 rfl (by decide) (by decide) 8 rfl (by decide) rfl (by decide) (by decide) infoCpu9 one9, ret_store2 rfl (by decide) (by decide) (by decide) (by decide) 9 rfl (by decide) rfl (by decide) (by decide) infoMem5 one5, trivial⟩ ?_
  intro T W hT hs hC hF
  obtain ⟨t0, t1, t2, t3, t4, t5, t6, t7, t8, t9, t10, t11, t12, t13, t14, t15, t16, t17, t18, t19, t20, t21, t22, t23, t24, t25, t26, t27, t28, t29, t30, t31, t32, t33, rfl⟩ := arr34 T hT
  obtain rfl : t8 = .pointer (some ⟨w.heap.size + 2, 0, none⟩) := hs 8 (by decide)
  obtain rfl : t9 = .pointer (some ⟨w.heap.size + 3, 0, none⟩) := hs 9 (by decide)
  have R1 : Box W (w.heap.size + 2) 50 #[.int .i64 d2.pc, .int .i64 d2.sp, .int .i64 d2.bank, .int .i64 level, .bool d2.zero, .bool d2.carry, .bool d2.on, .bool d2.halt, .slice A2 16 c2] := hF 2 (by decide)
  have R2 : Box W (w.heap.size + 3) 28 #[.slice B20 256 e20, .slice B21 32 e21, .slice B22 256 e22, .slice B23 16 e23, .int .i64 m2.s] := hF 3 (by decide)
  have HC := Lib.hid hC.k
  clear hF hs hT hC
  go_wp2
  refine bodyPost_ret (v := .tuple #[.agg #[.int .i64 d2.pc, .int .i64 d2.sp, .int .i64 d2.bank, .int .i64 level, .bool d2.zero, .bool d2.carry, .bool d2.on, .bool d2.halt, .slice A2 16 c2], .agg #[.slice B20 256 e20, .slice B21 32 e21, .slice B22 256 e22, .slice B23 16 e23, .int .i64 m2.s]]) (results_cc Try.results59 rfl rfl R1 R2 Try.underlying50 rfl infoCpu9 Try.underlying28 rfl infoMem5) rfl ?_
  have hbW := HC.out.lowSize hb198 (Nat.le_of_lt X194.out.lt) (by have := Z2.out; have := Z30.out; have := Z63.out; have := Z71.out; have := Z109.out; have := Z119.out; have := Z127.out; have := Z179.out; have := Z189.out; have := Z199.out; omega)
  exact ⟨_, _, _, _, _, _, _, _, _, _, rfl, Lib.hid ⟨HOk.out, (F196.out.off2 X194.out X195.out (by simp) (by simp) HC.out).2⟩, Lib.hid (F197.out.off2 X194.out X195.out (by simp) (by simp) HC.out), hbW⟩

def GivesC (d : CD) (w : World) (e : Ending) (w' : World) : Prop :=
  ∃ A c, e = .returned (.agg #[.int .i64 d.pc, .int .i64 d.sp, .int .i64 d.bank, .int .i64 d.level, .bool d.zero, .bool d.carry, .bool d.on, .bool d.halt, .slice A 16 c]) ∧ Hid (OwnI w' w.heap.size w'.heap.size A d.regs) ∧ Below w.heap.size w w'

set_option maxRecDepth 100000 in
set_option maxHeartbeats 4000000 in
theorem l08Own (A : Option Addr) (c : Nat) (d : CD) (w : World) (hc : RepC w A d) :
    Calls Try.prog 60 #[.agg #[.int .i64 d.pc, .int .i64 d.sp, .int .i64 d.bank, .int .i64 d.level, .bool d.zero, .bool d.carry, .bool d.on, .bool d.halt, .slice A 16 c]] w (GivesC d w) := by
  obtain ⟨W1, hW1⟩ : ∃ W1, W1 = ((w.alloc (.cells #[.int .i64 d.pc, .int .i64 d.sp, .int .i64 d.bank, .int .i64 d.level, .bool d.zero, .bool d.carry, .bool d.on, .bool d.halt, .slice A 16 c] 50)).alloc (.cells #[.int .i64 0, .int .i64 0, .int .i64 0, .int .i64 0, .bool false, .bool false, .bool false, .bool false, .slice none 0 0] 50)) := ⟨_, rfl⟩
  have hb0 : Below w.heap.size w W1 := by rw [hW1]; exact (((Below.refl _ _).alloc (Nat.le_refl _) _).alloc (by simp; try omega) _)
  have Z2 : Hid (W1.heap.size = w.heap.size + 2) := Lib.hid (by rw [hW1]; simp)
  have X3 : Hid (Box W1 (w.heap.size) 50 #[.int .i64 d.pc, .int .i64 d.sp, .int .i64 d.bank, .int .i64 d.level, .bool d.zero, .bool d.carry, .bool d.on, .bool d.halt, .slice A 16 c]) := Lib.hid (by rw [hW1]; exact ((Box.new w 50 #[.int .i64 d.pc, .int .i64 d.sp, .int .i64 d.bank, .int .i64 d.level, .bool d.zero, .bool d.carry, .bool d.on, .bool d.halt, .slice A 16 c]).alloc _))
  have X4 : Hid (Box W1 (w.heap.size + 1) 50 #[.int .i64 0, .int .i64 0, .int .i64 0, .int .i64 0, .bool false, .bool false, .bool false, .bool false, .slice none 0 0]) := Lib.hid (by rw [hW1]; simpa using (Box.new (w.alloc (.cells #[.int .i64 d.pc, .int .i64 d.sp, .int .i64 d.bank, .int .i64 d.level, .bool d.zero, .bool d.carry, .bool d.on, .bool d.halt, .slice A 16 c] 50)) 50 #[.int .i64 0, .int .i64 0, .int .i64 0, .int .i64 0, .bool false, .bool false, .bool false, .bool false, .slice none 0 0]))
  have HW0 := Lib.hid hW1
  clear hW1
  have HS := Lib.hid (fun W (hb : Below w.heap.size w W) => (hc.2.below hb).src (by rw [hc.1.len]; decide))
  have HC : Hid ((cellsI d.regs).length = 16 * 1) := Lib.hid (by rw [cellsI_len, hc.1.len])
  have hba := bt hb0 (alloc_below W1 (.cells #[] 3))
  have x0 : (W1.alloc (.cells #[] 3)).cell? ⟨w.heap.size, 0, none⟩ = some (.int .i64 d.pc) := (X3.out.alloc _).cell 0 rfl
  have x1 : (W1.alloc (.cells #[] 3)).cell? ⟨w.heap.size, 1, none⟩ = some (.int .i64 d.sp) := (X3.out.alloc _).cell 1 rfl
  have x2 : (W1.alloc (.cells #[] 3)).cell? ⟨w.heap.size, 2, none⟩ = some (.int .i64 d.bank) := (X3.out.alloc _).cell 2 rfl
  have x3 : (W1.alloc (.cells #[] 3)).cell? ⟨w.heap.size, 3, none⟩ = some (.int .i64 d.level) := (X3.out.alloc _).cell 3 rfl
  have x4 : (W1.alloc (.cells #[] 3)).cell? ⟨w.heap.size, 4, none⟩ = some (.bool d.zero) := (X3.out.alloc _).cell 4 rfl
  have x5 : (W1.alloc (.cells #[] 3)).cell? ⟨w.heap.size, 5, none⟩ = some (.bool d.carry) := (X3.out.alloc _).cell 5 rfl
  have x6 : (W1.alloc (.cells #[] 3)).cell? ⟨w.heap.size, 6, none⟩ = some (.bool d.on) := (X3.out.alloc _).cell 6 rfl
  have x7 : (W1.alloc (.cells #[] 3)).cell? ⟨w.heap.size, 7, none⟩ = some (.bool d.halt) := (X3.out.alloc _).cell 7 rfl
  have x8 : (W1.alloc (.cells #[] 3)).cell? ⟨w.heap.size, 8, none⟩ = some (.slice A 16 c) := (X3.out.alloc _).cell 8 rfl
  have hsz : w.heap.size ≤ W1.heap.size := by have := Z2.out; omega
  clear hc
  go_enter Try.func60, Try.ntmps60
  rw [HW0.out] at x0 x1 x2 x3 x4 x5 x6 x7 x8
  go_wp2_with (first | (with_reducible refine wpList_app_fresh rfl (.tmp 3) (.tmp 5) 23 rfl 3 (.int .i64 0) 1 8 Try.underlying23 infoIx rfl (by decide) _ rfl A 16 c (by omega) (cellsI d.regs) rfl HC.out (by rw [← HW0.out]; exact HS.out _ hba) (by unfold maxLen; omega) (by omega) ?_))
  rw [← HW0.out]
  intro B e w1 hb1 O1
  have hk1 := (alloc_below W1 (.cells #[] 3)).trans (hb1.mono (by have := Z2.out; omega))
  have FO := Lib.hid (ownI_fresh (lo := w.heap.size) O1.out (by omega) (by omega))
  clear x0 x1 x2 x3 x4 x5 x6 x7 x8 HS HC hba O1 hb1 hsz
  have X5 := Lib.hid (X3.out.step hk1)
  have X6 := Lib.hid (X4.out.step hk1)
  have hb7 := bt hb0 hk1
  have Z8 : Hid (W1.heap.size ≤ w1.heap.size) := Lib.hid hk1.size
  clear X3 X4 hb0 hk1
  have f9 := X5.out.cell 0 rfl
  have f10 := X5.out.cell 1 rfl
  have f11 := X5.out.cell 2 rfl
  have f12 := X5.out.cell 3 rfl
  have f13 := X5.out.cell 4 rfl
  have f14 := X5.out.cell 5 rfl
  have f15 := X5.out.cell 6 rfl
  have f16 := X5.out.cell 7 rfl
  have f17 := X5.out.cell 8 rfl
  have f18 := X6.out.cell 0 rfl
  have f19 := X6.out.cell 1 rfl
  have f20 := X6.out.cell 2 rfl
  have f21 := X6.out.cell 3 rfl
  have f22 := X6.out.cell 4 rfl
  have f23 := X6.out.cell 5 rfl
  have f24 := X6.out.cell 6 rfl
  have f25 := X6.out.cell 7 rfl
  have f26 := X6.out.cell 8 rfl
  have z27 := X5.out.frozen 0
  have z28 := X5.out.frozen 1
  have z29 := X5.out.frozen 2
  have z30 := X5.out.frozen 3
  have z31 := X5.out.frozen 4
  have z32 := X5.out.frozen 5
  have z33 := X5.out.frozen 6
  have z34 := X5.out.frozen 7
  have z35 := X5.out.frozen 8
  have z36 := X6.out.frozen 0
  have z37 := X6.out.frozen 1
  have z38 := X6.out.frozen 2
  have z39 := X6.out.frozen 3
  have z40 := X6.out.frozen 4
  have z41 := X6.out.frozen 5
  have z42 := X6.out.frozen 6
  have z43 := X6.out.frozen 7
  have z44 := X6.out.frozen 8
  go_wp2
  obtain ⟨W45, hW45⟩ : ∃ W45, W45 = (w1.setCell ⟨w.heap.size, 8, none⟩ (.slice B 16 e)) := ⟨_, rfl⟩
  have hB46 : Btw (w.heap.size) (w.heap.size + 1) w1 W45 := by rw [hW45]; exact ((Btw.refl _ _ _).setCell (p := ⟨w.heap.size, 8, none⟩) (Nat.le_refl _) (Nat.lt_succ_self _) _)
  have X47 : Hid (Box W45 (w.heap.size) 50 #[.int .i64 d.pc, .int .i64 d.sp, .int .i64 d.bank, .int .i64 d.level, .bool d.zero, .bool d.carry, .bool d.on, .bool d.halt, .slice B 16 e]) := Lib.hid (by rw [hW45]; exact (X5.out.set 8 _))
  have X48 := Lib.hid (X6.out.btw hB46 (by have := Z2.out; have := Z8.out; omega))
  have F49 := Lib.hid (FO.out.awayB X5.out (by decide) hB46)
  have hb50 := Btw.lowSize hB46 hb7 (Nat.le_of_lt X5.out.lt) (by have := Z2.out; have := Z8.out; omega)
  have Z51 : Hid (w1.heap.size ≤ W45.heap.size) := Lib.hid hB46.size
  rw [← hW45]
  clear hW45 hB46 X5 X6 FO hb7
  obtain ⟨W52, hW52⟩ : ∃ W52, W52 = (((((((((W45.setCell ⟨w.heap.size + 1, 0, none⟩ (.int .i64 d.pc)).setCell ⟨w.heap.size + 1, 1, none⟩ (.int .i64 d.sp)).setCell ⟨w.heap.size + 1, 2, none⟩ (.int .i64 d.bank)).setCell ⟨w.heap.size + 1, 3, none⟩ (.int .i64 d.level)).setCell ⟨w.heap.size + 1, 4, none⟩ (.bool d.zero)).setCell ⟨w.heap.size + 1, 5, none⟩ (.bool d.carry)).setCell ⟨w.heap.size + 1, 6, none⟩ (.bool d.on)).setCell ⟨w.heap.size + 1, 7, none⟩ (.bool d.halt)).setCell ⟨w.heap.size + 1, 8, none⟩ (.slice B 16 e)) := ⟨_, rfl⟩
  have hB53 : Btw (w.heap.size + 1) (w.heap.size + 1 + 1) W45 W52 := by rw [hW52]; exact ((((((((((Btw.refl _ _ _).setCell (p := ⟨w.heap.size + 1, 0, none⟩) (Nat.le_refl _) (Nat.lt_succ_self _) _).setCell (p := ⟨w.heap.size + 1, 1, none⟩) (Nat.le_refl _) (Nat.lt_succ_self _) _).setCell (p := ⟨w.heap.size + 1, 2, none⟩) (Nat.le_refl _) (Nat.lt_succ_self _) _).setCell (p := ⟨w.heap.size + 1, 3, none⟩) (Nat.le_refl _) (Nat.lt_succ_self _) _).setCell (p := ⟨w.heap.size + 1, 4, none⟩) (Nat.le_refl _) (Nat.lt_succ_self _) _).setCell (p := ⟨w.heap.size + 1, 5, none⟩) (Nat.le_refl _) (Nat.lt_succ_self _) _).setCell (p := ⟨w.heap.size + 1, 6, none⟩) (Nat.le_refl _) (Nat.lt_succ_self _) _).setCell (p := ⟨w.heap.size + 1, 7, none⟩) (Nat.le_refl _) (Nat.lt_succ_self _) _).setCell (p := ⟨w.heap.size + 1, 8, none⟩) (Nat.le_refl _) (Nat.lt_succ_self _) _)
  have X54 : Hid (Box W52 (w.heap.size + 1) 50 #[.int .i64 d.pc, .int .i64 d.sp, .int .i64 d.bank, .int .i64 d.level, .bool d.zero, .bool d.carry, .bool d.on, .bool d.halt, .slice B 16 e]) := Lib.hid (by rw [hW52]; exact (X48.out.allN9 rfl _ _ _ _ _ _ _ _ _))
  have X55 := Lib.hid (X47.out.btw hB53 (by have := Z2.out; have := Z8.out; have := Z51.out; omega))
  have F56 := Lib.hid (F49.out.awayB X48.out (by decide) hB53)
  have hb57 := Btw.lowSize hB53 hb50 (Nat.le_of_lt X48.out.lt) (by have := Z2.out; have := Z8.out; have := Z51.out; omega)
  have Z58 : Hid (W45.heap.size ≤ W52.heap.size) := Lib.hid hB53.size
  rw [← hW52]
  clear hW52 hB53 X48 X47 F49 hb50
  have r0 := X54.out
  have s0 := r0.cell 0 rfl
  have s1 := r0.cell 1 rfl
  have s2 := r0.cell 2 rfl
  have s3 := r0.cell 3 rfl
  have s4 := r0.cell 4 rfl
  have s5 := r0.cell 5 rfl
  have s6 := r0.cell 6 rfl
  have s7 := r0.cell 7 rfl
  have s8 := r0.cell 8 rfl
  refine bodyPost_ret (v := .agg #[.int .i64 d.pc, .int .i64 d.sp, .int .i64 d.bank, .int .i64 d.level, .bool d.zero, .bool d.carry, .bool d.on, .bool d.halt, .slice B 16 e]) (by simp [results, Try.results60, go_sem, s0, s1, s2, s3, s4, s5, s6, s7, s8]) rfl ?_
  exact ⟨B, e, rfl, Lib.hid (F56.out.wideB (Nat.le_refl _) (by have := Z2.out; have := Z8.out; have := Z51.out; have := Z58.out; omega)), hb57⟩
end Go.Proofs.Ytngoijchebfolaa

/- The laws' own functions over Irq, on leaves. Written by gen_t.py. -/
namespace Go.Proofs.Ytngoijchebfolaa
open Go.RowKit

end Go.Proofs.Ytngoijchebfolaa

/- An interrupt controller's validity: levels, lines, IrqOK on both sides, the checks of a line. -/
namespace Go.Proofs.Ytngoijchebfolaa
open Go.RowKit

/-- From 0 to 7: a level, or a line. -/
def lvB (n : Int) : Bool := decide (0 ≤ n ∧ n ≤ 7)
def okIrq (d0 : List Int) (d1 : List Bool) : Bool := decide (d0.length = 8) && (decide (d1.length = 8) && d0.all lvB)
theorem lvB_range {n : Int} (h : lvB n = true) : 0 ≤ n ∧ n ≤ 7 := by simpa [lvB] using h
theorem okIrq_no1 (d0 : List Int) (d1 : List Bool) (h : d0.length ≠ 8) : okIrq d0 d1 = false := by unfold okIrq; simp [h]
theorem okIrq_no2 (d0 : List Int) (d1 : List Bool) (h : d1.length ≠ 8) : okIrq d0 d1 = false := by unfold okIrq; simp [h]
theorem okIrq_yes (d0 : List Int) (d1 : List Bool) (h : d0.length = 8) (h2 : d1.length = 8) : okIrq d0 d1 = d0.all lvB := by unfold okIrq; simp [h, h2]
theorem okIrq_len {d0 : List Int} {d1 : List Bool} (h : okIrq d0 d1 = true) : d0.length = 8 ∧ d1.length = 8 ∧ ∀ z ∈ d0, 0 ≤ z ∧ z ≤ 7 := by
  unfold okIrq at h
  simp only [Bool.and_eq_true, decide_eq_true_eq, List.all_eq_true] at h
  exact ⟨h.1, h.2.1, fun z hz => lvB_range (h.2.2 z hz)⟩
/-- What a check of a line answers. -/
def lineC (d0 : List Int) (d1 : List Bool) (n : Int) : Int := if okIrq d0 d1 then (if lvB n then 0 else 4) else 1

set_option maxRecDepth 100000 in
theorem isLine (n : Int) (w : World) : Calls Try.prog 65 #[.int .i64 n] w fun e w' => e = .returned (.bool (lvB n)) ∧ w = w' := by
  go_enter Try.func65, Try.ntmps65
  go_wp2
  all_goals go_ret
  all_goals (refine ⟨ret_bool ?_, rfl⟩)
  all_goals (unfold lvB; rw [Bool.eq_iff_iff]; simp; try omega)
set_option maxRecDepth 100000 in
theorem isLevel (n : Int) (w : World) : Calls Try.prog 66 #[.int .i64 n] w fun e w' => e = .returned (.bool (lvB n)) ∧ w = w' := by
  go_enter Try.func66, Try.ntmps66
  go_wp2
  all_goals go_ret
  all_goals (refine ⟨ret_bool ?_, rfl⟩)
  all_goals (unfold lvB; rw [Bool.eq_iff_iff]; simp; try omega)
set_option maxRecDepth 100000 in
theorem l01In7 (n : Int) (w : World) : Calls Try.prog 51 #[.int .i64 n, .int .i64 0, .int .i64 7] w fun e w' => e = .returned (.bool (lvB n)) ∧ w = w' := by
  go_enter Try.func51, Try.ntmps51
  go_wp2
  all_goals go_ret
  all_goals (refine ⟨ret_bool ?_, rfl⟩)
  all_goals (unfold lvB; rw [Bool.eq_iff_iff]; simp; try omega)

section
variable (A0 A1 : Option Addr) (n0 n1 c0 c1 : Nat) (d0 : List Int) (d1 : List Bool) (w : World)
end
end Go.Proofs.Ytngoijchebfolaa

/- CpuOK, RegAt, NewCpu, SameCpu on both sides, on leaves. Written by gen_cpuok.py. -/
namespace Go.Proofs.Ytngoijchebfolaa
open Go.RowKit

def okCpu (d0 d1 d2 d3 : Int) (d8 : List Int) : Bool := rngB d0 0 4095 && (rngB d1 0 255 && (rngB d2 0 3 && (rngB d3 0 7 && (decide (d8.length = 16) && d8.all byB))))
set_option maxRecDepth 100000 in
theorem isAddressR (n : Int) (w : World) : Calls Try.prog 81 #[.int .i64 n] w fun e w' => e = .returned (.bool (rngB n 0 4095)) ∧ w = w' := isAddress n w
set_option maxRecDepth 100000 in
theorem isByteR (n : Int) (w : World) : Calls Try.prog 82 #[.int .i64 n] w fun e w' => e = .returned (.bool (rngB n 0 255)) ∧ w = w' := isByte n w
set_option maxRecDepth 100000 in
theorem isLevelR (n : Int) (w : World) : Calls Try.prog 66 #[.int .i64 n] w fun e w' => e = .returned (.bool (rngB n 0 7)) ∧ w = w' := isLevel n w
set_option maxRecDepth 100000 in
theorem isLineR (n : Int) (w : World) : Calls Try.prog 65 #[.int .i64 n] w fun e w' => e = .returned (.bool (rngB n 0 7)) ∧ w = w' := isLine n w
set_option maxRecDepth 100000 in
theorem l05AtR (n : Int) (w : World) : Calls Try.prog 97 #[.int .i64 n] w fun e w' => e = .returned (.bool (rngB n 0 4095)) ∧ w = w' := l05At n w

set_option maxRecDepth 100000 in
set_option maxHeartbeats 4000000 in
theorem specCpuOK (A : Option Addr) (n c : Nat) (d0 d1 d2 d3 : Int) (d4 d5 d6 d7 : Bool) (d8 : List Int) (w : World) (l0 : d8.length = n) (m0 : n ≤ maxLen) (h0 : IntL w A d8) :
    Calls Try.prog 58 #[.agg #[.int .i64 d0, .int .i64 d1, .int .i64 d2, .int .i64 d3, .bool d4, .bool d5, .bool d6, .bool d7, .slice A n c]] w fun e w' => e = .returned (.bool (okCpu d0 d1 d2 d3 d8)) ∧ Below w.heap.size w w' := by
  have hb0 := alloc_below w (.cells #[.int .i64 d0, .int .i64 d1, .int .i64 d2, .int .i64 d3, .bool d4, .bool d5, .bool d6, .bool d7, .slice A n c] 50)
  have HB := Lib.hid (l05Bytes A n c d8 _ l0 m0 (h0.below hb0))
  have HY : Hid (okCpu d0 d1 d2 d3 d8 = (rngB d0 0 4095 && (rngB d1 0 255 && (rngB d2 0 3 && (rngB d3 0 7 && (decide (n = 16) && d8.all byB)))))) := Lib.hid (by unfold okCpu; rw [l0])
  generalize okCpu d0 d1 d2 d3 d8 = r at HY ⊢
  unfold maxLen at m0
  clear l0 h0
  by_cases h0 : rngB d0 0 4095 = true
  · skip
    by_cases h1 : rngB d1 0 255 = true
    · skip
      by_cases h2 : rngB d2 0 3 = true
      · skip
        by_cases h3 : rngB d3 0 7 = true
        · skip
          by_cases e4 : n = 16
          · have q4 : ((n : Int) == 16) = true := by simp; omega
            by_cases h5 : d8.all byB = true
            · skip
              have HR : Hid (r = true) := Lib.hid (by rw [HY.out]; simp [h0, h1, h2, h3, h5, e4])
              clear HY e4
              go_enter Try.func58, Try.ntmps58
              go_wp2_with (first | (go_at_call 97; refine (l05AtR _ _).mono ?_; rintro e w' ⟨rfl, rfl⟩; (first | rw [h0])) | (go_at_call 51; refine (l01InA _ _ _ _).mono ?_; rintro e w' ⟨rfl, rfl⟩; (first | rw [h1] | rw [h2] | rw [h3])))
              refine HB.out.mono ?_
              rintro e w' ⟨rfl, rfl⟩
              rw [h5]
              go_wp2
              all_goals go_ret
              all_goals exact ⟨ret_bool HR.out.symm, hb0⟩
            · have h5' : d8.all byB = false := by simpa using h5
              clear h5
              have HR : Hid (r = false) := Lib.hid (by rw [HY.out]; simp [h0, h1, h2, h3, h5', e4])
              clear HY e4
              go_enter Try.func58, Try.ntmps58
              go_wp2_with (first | (go_at_call 97; refine (l05AtR _ _).mono ?_; rintro e w' ⟨rfl, rfl⟩; (first | rw [h0])) | (go_at_call 51; refine (l01InA _ _ _ _).mono ?_; rintro e w' ⟨rfl, rfl⟩; (first | rw [h1] | rw [h2] | rw [h3])))
              refine HB.out.mono ?_
              rintro e w' ⟨rfl, rfl⟩
              rw [h5']
              go_wp2
              all_goals go_ret
              all_goals exact ⟨ret_bool HR.out.symm, hb0⟩
          · have q4 : ((n : Int) == 16) = false := by simp; omega
            have HR : Hid (r = false) := Lib.hid (by rw [HY.out]; simp [h0, h1, h2, h3, e4])
            clear HY e4
            go_enter Try.func58, Try.ntmps58
            go_wp2_with (first | (go_at_call 97; refine (l05AtR _ _).mono ?_; rintro e w' ⟨rfl, rfl⟩; (first | rw [h0])) | (go_at_call 51; refine (l01InA _ _ _ _).mono ?_; rintro e w' ⟨rfl, rfl⟩; (first | rw [h1] | rw [h2] | rw [h3])))
            all_goals go_ret
            all_goals exact ⟨ret_bool HR.out.symm, hb0⟩
        · have h3' : rngB d3 0 7 = false := by simpa using h3
          clear h3
          have HR : Hid (r = false) := Lib.hid (by rw [HY.out]; simp [h0, h1, h2, h3'])
          clear HY
          go_enter Try.func58, Try.ntmps58
          go_wp2_with (first | (go_at_call 97; refine (l05AtR _ _).mono ?_; rintro e w' ⟨rfl, rfl⟩; (first | rw [h0])) | (go_at_call 51; refine (l01InA _ _ _ _).mono ?_; rintro e w' ⟨rfl, rfl⟩; (first | rw [h1] | rw [h2] | rw [h3'])))
          all_goals go_ret
          all_goals exact ⟨ret_bool HR.out.symm, hb0⟩
      · have h2' : rngB d2 0 3 = false := by simpa using h2
        clear h2
        have HR : Hid (r = false) := Lib.hid (by rw [HY.out]; simp [h0, h1, h2'])
        clear HY
        go_enter Try.func58, Try.ntmps58
        go_wp2_with (first | (go_at_call 97; refine (l05AtR _ _).mono ?_; rintro e w' ⟨rfl, rfl⟩; (first | rw [h0])) | (go_at_call 51; refine (l01InA _ _ _ _).mono ?_; rintro e w' ⟨rfl, rfl⟩; (first | rw [h1] | rw [h2'])))
        all_goals go_ret
        all_goals exact ⟨ret_bool HR.out.symm, hb0⟩
    · have h1' : rngB d1 0 255 = false := by simpa using h1
      clear h1
      have HR : Hid (r = false) := Lib.hid (by rw [HY.out]; simp [h0, h1'])
      clear HY
      go_enter Try.func58, Try.ntmps58
      go_wp2_with (first | (go_at_call 97; refine (l05AtR _ _).mono ?_; rintro e w' ⟨rfl, rfl⟩; (first | rw [h0])) | (go_at_call 51; refine (l01InA _ _ _ _).mono ?_; rintro e w' ⟨rfl, rfl⟩; (first | rw [h1'])))
      all_goals go_ret
      all_goals exact ⟨ret_bool HR.out.symm, hb0⟩
  · have h0' : rngB d0 0 4095 = false := by simpa using h0
    clear h0
    have HR : Hid (r = false) := Lib.hid (by rw [HY.out]; simp [h0'])
    clear HY
    go_enter Try.func58, Try.ntmps58
    go_wp2_with (first | (go_at_call 97; refine (l05AtR _ _).mono ?_; rintro e w' ⟨rfl, rfl⟩; (first | rw [h0'])))
    all_goals go_ret
    all_goals exact ⟨ret_bool HR.out.symm, hb0⟩

set_option maxRecDepth 100000 in
set_option maxHeartbeats 4000000 in
theorem implValid (A : Option Addr) (n c : Nat) (d0 d1 d2 d3 : Int) (d4 d5 d6 d7 : Bool) (d8 : List Int) (w : World) (l0 : d8.length = n) (m0 : n ≤ maxLen) (h0 : IntL w A d8) :
    Calls Try.prog 63 #[.agg #[.int .i64 d0, .int .i64 d1, .int .i64 d2, .int .i64 d3, .bool d4, .bool d5, .bool d6, .bool d7, .slice A n c]] w fun e w' => e = .returned (.bool (okCpu d0 d1 d2 d3 d8)) ∧ Below w.heap.size w w' := by
  have hb0 := alloc_below w (.cells #[.int .i64 d0, .int .i64 d1, .int .i64 d2, .int .i64 d3, .bool d4, .bool d5, .bool d6, .bool d7, .slice A n c] 50)
  have HB := Lib.hid (allBytes A n c d8 _ l0 m0 (h0.below hb0))
  have HY : Hid (okCpu d0 d1 d2 d3 d8 = (rngB d0 0 4095 && (rngB d1 0 255 && (rngB d2 0 3 && (rngB d3 0 7 && (decide (n = 16) && d8.all byB)))))) := Lib.hid (by unfold okCpu; rw [l0])
  generalize okCpu d0 d1 d2 d3 d8 = r at HY ⊢
  unfold maxLen at m0
  clear l0 h0
  by_cases h0 : rngB d0 0 4095 = true
  · skip
    by_cases h1 : rngB d1 0 255 = true
    · skip
      by_cases h2 : rngB d2 0 3 = true
      · skip
        by_cases h3 : rngB d3 0 7 = true
        · skip
          by_cases e4 : n = 16
          · have q4 : ((n : Int) == 16) = true := by simp; omega
            by_cases h5 : d8.all byB = true
            · skip
              have HR : Hid (r = true) := Lib.hid (by rw [HY.out]; simp [h0, h1, h2, h3, h5, e4])
              clear HY e4
              go_enter Try.func63, Try.ntmps63
              go_wp2_with (first | (go_at_call 81; refine (isAddressR _ _).mono ?_; rintro e w' ⟨rfl, rfl⟩; (first | rw [h0])) | (go_at_call 82; refine (isByteR _ _).mono ?_; rintro e w' ⟨rfl, rfl⟩; (first | rw [h1])) | (go_at_call 83; refine (isUpToA _ _ _).mono ?_; rintro e w' ⟨rfl, rfl⟩; (first | rw [h2])) | (go_at_call 66; refine (isLevelR _ _).mono ?_; rintro e w' ⟨rfl, rfl⟩; (first | rw [h3])))
              refine HB.out.mono ?_
              rintro e w' ⟨rfl, rfl⟩
              rw [h5]
              go_wp2
              all_goals go_ret
              all_goals exact ⟨ret_bool HR.out.symm, hb0⟩
            · have h5' : d8.all byB = false := by simpa using h5
              clear h5
              have HR : Hid (r = false) := Lib.hid (by rw [HY.out]; simp [h0, h1, h2, h3, h5', e4])
              clear HY e4
              go_enter Try.func63, Try.ntmps63
              go_wp2_with (first | (go_at_call 81; refine (isAddressR _ _).mono ?_; rintro e w' ⟨rfl, rfl⟩; (first | rw [h0])) | (go_at_call 82; refine (isByteR _ _).mono ?_; rintro e w' ⟨rfl, rfl⟩; (first | rw [h1])) | (go_at_call 83; refine (isUpToA _ _ _).mono ?_; rintro e w' ⟨rfl, rfl⟩; (first | rw [h2])) | (go_at_call 66; refine (isLevelR _ _).mono ?_; rintro e w' ⟨rfl, rfl⟩; (first | rw [h3])))
              refine HB.out.mono ?_
              rintro e w' ⟨rfl, rfl⟩
              rw [h5']
              go_wp2
              all_goals go_ret
              all_goals exact ⟨ret_bool HR.out.symm, hb0⟩
          · have q4 : ((n : Int) == 16) = false := by simp; omega
            have HR : Hid (r = false) := Lib.hid (by rw [HY.out]; simp [h0, h1, h2, h3, e4])
            clear HY e4
            go_enter Try.func63, Try.ntmps63
            go_wp2_with (first | (go_at_call 81; refine (isAddressR _ _).mono ?_; rintro e w' ⟨rfl, rfl⟩; (first | rw [h0])) | (go_at_call 82; refine (isByteR _ _).mono ?_; rintro e w' ⟨rfl, rfl⟩; (first | rw [h1])) | (go_at_call 83; refine (isUpToA _ _ _).mono ?_; rintro e w' ⟨rfl, rfl⟩; (first | rw [h2])) | (go_at_call 66; refine (isLevelR _ _).mono ?_; rintro e w' ⟨rfl, rfl⟩; (first | rw [h3])))
            all_goals go_ret
            all_goals exact ⟨ret_bool HR.out.symm, hb0⟩
        · have h3' : rngB d3 0 7 = false := by simpa using h3
          clear h3
          have HR : Hid (r = false) := Lib.hid (by rw [HY.out]; simp [h0, h1, h2, h3'])
          clear HY
          go_enter Try.func63, Try.ntmps63
          go_wp2_with (first | (go_at_call 81; refine (isAddressR _ _).mono ?_; rintro e w' ⟨rfl, rfl⟩; (first | rw [h0])) | (go_at_call 82; refine (isByteR _ _).mono ?_; rintro e w' ⟨rfl, rfl⟩; (first | rw [h1])) | (go_at_call 83; refine (isUpToA _ _ _).mono ?_; rintro e w' ⟨rfl, rfl⟩; (first | rw [h2])) | (go_at_call 66; refine (isLevelR _ _).mono ?_; rintro e w' ⟨rfl, rfl⟩; (first | rw [h3'])))
          all_goals go_ret
          all_goals exact ⟨ret_bool HR.out.symm, hb0⟩
      · have h2' : rngB d2 0 3 = false := by simpa using h2
        clear h2
        have HR : Hid (r = false) := Lib.hid (by rw [HY.out]; simp [h0, h1, h2'])
        clear HY
        go_enter Try.func63, Try.ntmps63
        go_wp2_with (first | (go_at_call 81; refine (isAddressR _ _).mono ?_; rintro e w' ⟨rfl, rfl⟩; (first | rw [h0])) | (go_at_call 82; refine (isByteR _ _).mono ?_; rintro e w' ⟨rfl, rfl⟩; (first | rw [h1])) | (go_at_call 83; refine (isUpToA _ _ _).mono ?_; rintro e w' ⟨rfl, rfl⟩; (first | rw [h2'])))
        all_goals go_ret
        all_goals exact ⟨ret_bool HR.out.symm, hb0⟩
    · have h1' : rngB d1 0 255 = false := by simpa using h1
      clear h1
      have HR : Hid (r = false) := Lib.hid (by rw [HY.out]; simp [h0, h1'])
      clear HY
      go_enter Try.func63, Try.ntmps63
      go_wp2_with (first | (go_at_call 81; refine (isAddressR _ _).mono ?_; rintro e w' ⟨rfl, rfl⟩; (first | rw [h0])) | (go_at_call 82; refine (isByteR _ _).mono ?_; rintro e w' ⟨rfl, rfl⟩; (first | rw [h1'])))
      all_goals go_ret
      all_goals exact ⟨ret_bool HR.out.symm, hb0⟩
  · have h0' : rngB d0 0 4095 = false := by simpa using h0
    clear h0
    have HR : Hid (r = false) := Lib.hid (by rw [HY.out]; simp [h0'])
    clear HY
    go_enter Try.func63, Try.ntmps63
    go_wp2_with (first | (go_at_call 81; refine (isAddressR _ _).mono ?_; rintro e w' ⟨rfl, rfl⟩; (first | rw [h0'])))
    all_goals go_ret
    all_goals exact ⟨ret_bool HR.out.symm, hb0⟩

/-- A register of the bank, and the code. -/
def regF (d0 d1 d2 d3 : Int) (d8 : List Int) (k : Int) : Int × Int := if okCpu d0 d1 d2 d3 d8 then (if rngB k 0 3 then (d8.getD (4 * d2 + k).toNat 0, 0) else (0, 4)) else (0, 1)
theorem okCpu_ok {d0 d1 d2 d3 : Int} {d8 : List Int} (h : okCpu d0 d1 d2 d3 d8 = true) (d4 d5 d6 d7 : Bool) : (⟨d0, d1, d2, d3, d4, d5, d6, d7, d8⟩ : CD).Ok := CD.ok_iff.1 h
theorem rngB_says {n lo hi : Int} (h : rngB n lo hi = true) : lo ≤ n ∧ n ≤ hi := by simpa [rngB] using h

set_option maxRecDepth 100000 in
theorem specCpuOKA (A : Option Addr) (c : Nat) (d0 d1 d2 d3 : Int) (d4 d5 d6 d7 : Bool) (d8 : List Int) (w : World) (h : RepA w [.slice A d8.length c] [.I d8]) (_c : CapA [.slice A d8.length c]) (z : szA [.I d8] ≤ 1048576) :
    Calls Try.prog 58 #[.agg #[.int .i64 d0, .int .i64 d1, .int .i64 d2, .int .i64 d3, .bool d4, .bool d5, .bool d6, .bool d7, .slice A d8.length c]] w fun e w' => e = .returned (.bool (okCpu d0 d1 d2 d3 d8)) ∧ Below w.heap.size w w' := by
  simp only [szA, Lf.sz] at z
  exact specCpuOK A _ c d0 d1 d2 d3 d4 d5 d6 d7 d8 w rfl (by unfold maxLen; omega) (repI h.1)
end Go.Proofs.Ytngoijchebfolaa

/- The processor's own methods: wrap, place, flags, push, callAt, enter; processorOf. Written by gen_procm.py. -/
namespace Go.Proofs.Ytngoijchebfolaa
open Go.RowKit

set_option maxRecDepth 100000 in
theorem wrapI (v : Int) (w : World) : Calls Try.prog 120 #[.int .i64 v] w fun e w' => e = .returned (.int .i64 (v % 256)) ∧ w = w' := by
  have h := and_255 v
  go_enter Try.func120, Try.ntmps120
  go_wp2
  go_ret
  exact ⟨rfl, rfl⟩
def WritesM (a : PA) (m : MD) (w : World) (e : Ending) (w' : World) : Prop :=
  e = .returned (.tuple #[]) ∧ Hid (BusAt w' a.R a.g a.b0 a.b1 a.b2 a.b3 a.A0 a.A1 a.c0 a.c1 m.r m.i m.z m.g m.s) ∧ Hid (∀ b t cs, t ≠ 3 → t ≠ 122 → Box w b t cs → Box w' b t cs) ∧ Below a.R w w'
set_option maxRecDepth 100000 in
theorem busWriteM (a : PA) (m : MD) (w : World) (k v : Int) (h0 : 0 ≤ k) (h1 : k ≤ 4095) (hv0 : 0 ≤ v) (hv1 : v ≤ 255) (hm : m.Ok) (B : BusAt w a.R a.g a.b0 a.b1 a.b2 a.b3 a.A0 a.A1 a.c0 a.c1 m.r m.i m.z m.g m.s) :
    Calls Try.prog 86 #[.agg #[.pointer (some ⟨a.b0, 0, none⟩), .pointer (some ⟨a.b1, 0, none⟩), .pointer (some ⟨a.b2, 0, none⟩), .pointer (some ⟨a.b3, 0, none⟩)], .int .i64 k, .int .i64 v] w (WritesM a (m.put k v) w) := by
  obtain ⟨j, rfl⟩ : ∃ j : Nat, k = j := ⟨k.toNat, by omega⟩
  obtain ⟨u, rfl⟩ : ∃ u : Nat, v = u := ⟨v.toNat, by omega⟩
  exact busWrite a.R a.g a.b0 a.b1 a.b2 a.b3 a.A0 a.A1 a.c0 a.c1 m.r m.i m.z m.g m.s w j u (by omega) (by omega) hm.r hm.i hm.z hm.g hm.s hm.zb B
theorem OwnI.lowB {w w' : World} {lo hi n : Nat} {A : Option Addr} {zs : List Int} (h : OwnI w lo hi A zs) (k : Below n w w') (hn : hi ≤ n) : OwnI w' lo hi A zs := h.btw (Btw.of_low k) (.inl hn)
theorem PrAt.wrote {w w' : World} {a : PA} {d : CD} {m m' : MD} {s : Int} (h : PrAt w a d m s) (N1 : BusAt w' a.R a.g a.b0 a.b1 a.b2 a.b3 a.A0 a.A1 a.c0 a.c1 m'.r m'.i m'.z m'.g m'.s) (N2 : ∀ b t cs, t ≠ 3 → t ≠ 122 → Box w b t cs → Box w' b t cs) (N3 : Below a.R w w') : PrAt w' a d m' s :=
  ⟨N2 _ _ _ (by decide) (by decide) h.X, h.G.lowB N3 (Nat.le_refl _), N1, h.q⟩
theorem Runs.wrote {w w' : World} {L R : Nat} (hl : L ≤ R) (N2 : ∀ b t cs, t ≠ 3 → t ≠ 122 → Box w b t cs → Box w' b t cs) (N3 : Below R w w') : Runs L w w' := ⟨fun b t cs h1 h2 _ X => N2 b t cs h1 h2 X, N3.mono hl⟩
theorem Runs.refl (L : Nat) (w : World) : Runs L w w := ⟨KeepsBox.refl w, Below.refl _ _⟩
theorem Runs.drew (L : Nat) (w : World) : Runs L w w.drew := ⟨fun _ _ _ _ _ _ X => X.drew, (Below.refl _ _).drew⟩

set_option maxRecDepth 100000 in
set_option maxHeartbeats 2000000 in
theorem cpuFlags (A : Option Addr) (c : Nat) (d : CD) (w : World) (hd : d.Ok) :
    Calls Try.prog 106 #[.agg #[.int .i64 d.pc, .int .i64 d.sp, .int .i64 d.bank, .int .i64 d.level, .bool d.zero, .bool d.carry, .bool d.on, .bool d.halt, .slice A 16 c]] w fun e w' => e = .returned (.int .i64 d.flags) ∧ Below w.heap.size w w' := by
  have h1 := hd.bank
  have h2 := hd.level
  obtain ⟨h11, h12⟩ := h1
  obtain ⟨h21, h22⟩ := h2
  have HF : Hid (d.flags = d.level + 8 * d.bank + 32 * bitI d.zero + 64 * bitI d.carry + 128 * bitI d.on) := Lib.hid rfl
  clear hd
  obtain ⟨pc, sp, bank, level, zero, carry, on, halt, regs⟩ := d
  have hb0 := alloc_below w (.cells #[.int .i64 pc, .int .i64 sp, .int .i64 bank, .int .i64 level, .bool zero, .bool carry, .bool on, .bool halt, .slice A 16 c] 50)
  generalize CD.flags _ = f at HF ⊢
  simp only at h11 h12 h21 h22 HF ⊢
  cases zero <;> cases carry <;> cases on
  all_goals (
    go_enter Try.func106, Try.ntmps106
    go_wp2
    go_ret
    exact ⟨ret_int (by rw [HF.out]; simp [bitI]; try omega), hb0⟩)

set_option maxRecDepth 100000 in
set_option maxHeartbeats 2000000 in
theorem prPush (a : PA) (d : CD) (m : MD) (s : Int) (w : World) (v : Int) (hv : 0 ≤ v ∧ v ≤ 255) (hd : d.Ok) (hm : m.Ok) (h : PrAt w a d m s) :
    Calls Try.prog 105 #[.pointer (some ⟨a.p, 0, none⟩), .int .i64 v] w (GPr a d.down (m.put d.sp v) s w) := by
  have HC := h.cells
  have hsp := hd.sp
  have HW := Lib.hid (fun W => busWriteM a m W d.sp v (by omega) (by omega) hv.1 hv.2 hm)
  have HWr := Lib.hid (fun W => wrapI (d.sp - 1) W)
  have HP := Lib.hid h
  have HE : Hid (d.down = { d with sp := (d.sp - 1) % 256 }) := Lib.hid (by unfold CD.down; congr 1; omega)
  have HX0 : Hid (Box w.drew a.p 103 (procC a d s)) := Lib.hid h.X.drew
  have HK : Hid (∀ W, Box W a.p 103 (procC a d s) → W.cell? ⟨a.p, 1, none⟩ = some (.int .i64 d.sp) ∧ W.cell? ⟨a.p, 9, none⟩ = some (.pointer (some ⟨a.b0, 0, none⟩)) ∧ W.cell? ⟨a.p, 10, none⟩ = some (.pointer (some ⟨a.b1, 0, none⟩)) ∧ W.cell? ⟨a.p, 11, none⟩ = some (.pointer (some ⟨a.b2, 0, none⟩)) ∧ W.cell? ⟨a.p, 12, none⟩ = some (.pointer (some ⟨a.b3, 0, none⟩))) := Lib.hid (fun W X => ⟨X.cell 1 rfl, X.cell 9 rfl, X.cell 10 rfl, X.cell 11 rfl, X.cell 12 rfl⟩)
  have HB : Hid (BusAt w.drew a.R a.g a.b0 a.b1 a.b2 a.b3 a.A0 a.A1 a.c0 a.c1 m.r m.i m.z m.g m.s) := Lib.hid (h.B.step (Below.refl _ _).drew)
  have e2 : IntKind.i64.wrap (d.sp - 1) = d.sp - 1 := IntWalk.i64_in _ (by omega)
  obtain ⟨⟨c0, c1, c2, c3, c4, c5, c6, c7, c8⟩, ⟨c9, c10, c11, c12, c13⟩, cz⟩ := HC
  clear h hd hm hv hsp cz c0 c2 c3 c4 c5 c6 c7 c8 c13
  go_enter Try.func105, Try.ntmps105
  go_wp2
  go_region_held3 (fun W => W.cell? ⟨a.p, 1, none⟩ = some (.int .i64 d.sp) ∧ W.cell? ⟨a.p, 9, none⟩ = some (.pointer (some ⟨a.b0, 0, none⟩)) ∧ W.cell? ⟨a.p, 10, none⟩ = some (.pointer (some ⟨a.b1, 0, none⟩)) ∧ W.cell? ⟨a.p, 11, none⟩ = some (.pointer (some ⟨a.b2, 0, none⟩)) ∧ W.cell? ⟨a.p, 12, none⟩ = some (.pointer (some ⟨a.b3, 0, none⟩)))
    (first | exact HK.out _ HX0.out | exact HK.out _ HX1.out)
    (first | (go_at_call 86; refine (HW.out _ HB.out).mono ?_; rintro e w1 ⟨rfl, N1, N2, N3⟩; have HX1 := Lib.hid (N2.out _ _ _ (by decide) (by decide) HX0.out)))
  have HP1 := Lib.hid (PrAt.wrote ((HP.out.step (Below.refl _ _).drew)) N1.out N2.out N3)
  have HR1 := Lib.hid ((Runs.drew a.L w).trans (Runs.wrote HP.out.q.1 N2.out N3))
  obtain ⟨⟨_, x1, _⟩, _, xz⟩ := HP1.out.cells
  have xz1 := xz 1
  clear c1 c9 c10 c11 c12 N1 N2 N3 HP HX0 HX1 HK HB HW xz
  go_wp2_with (first | (go_at_call 120; refine (HWr.out _).mono ?_; rintro e w' ⟨rfl, rfl⟩))
  go_end0
  rw [HE.out]
  exact ⟨rfl, Lib.hid (HP1.out.put 1 _ _ _ rfl rfl), Lib.hid (HR1.out.trans (HP1.out.runs (Nat.le_refl _) 1 _))⟩
end Go.Proofs.Ytngoijchebfolaa

/- The checks of a move, the ring of addresses, channels written field by field. Written by gen_dmaimpl.py. -/
namespace Go.Proofs.Ytngoijchebfolaa
open Go.RowKit

set_option maxRecDepth 100000 in
theorem ringAfter (n s : Int) (w : World) (h0 : 0 ≤ n) (h1 : n ≤ 4095) (g0 : 0 ≤ s) (g1 : s ≤ 1) :
    Calls Try.prog 88 #[.agg #[.int .i64 4096], .int .i64 n, .int .i64 s] w fun e w' => e = .returned (.int .i64 ((n + s) % 4096)) ∧ Below w.heap.size w w' := by
  have m1 : (n + s).tmod 4096 = (n + s) % 4096 := Int.tmod_eq_emod_of_nonneg (by omega)
  have m2 : IntKind.i64.wrap (n + s) = n + s := IntWalk.i64_in _ (by omega)
  have hb0 := alloc_below w (.cells #[.int .i64 4096] 127)
  clear h0 h1 g0 g1
  go_enter Try.func88, Try.ntmps88
  go_wp2
  go_ret
  exact ⟨rfl, hb0⟩
theorem moveCode_chan (m : MD) (rs : List TChannel) (i : Int) : moveCode m rs i = if chanC rs i = 2 then 2 else if m.ok = true then chanC rs i else 1 := by
  unfold moveCode chanC
  by_cases h1 : 4096 < rs.length
  · simp [h1]
  · rw [if_neg h1, if_neg h1]
    cases m.ok <;> cases dmaB rs <;> cases chanB i <;> simp
set_option maxRecDepth 100000 in
set_option maxHeartbeats 2000000 in
theorem checkMove (A0 A1 A2 A3 : Option Addr) (n0 n1 n2 n3 c0 c1 c2 c3 : Nat) (m : MD) (A : Option Addr) (n c : Nat) (rs : List TChannel) (i : Int) (w : World) (l0 : m.r.length = n0) (l1 : m.i.length = n1) (l2 : m.z.length = n2) (l3 : m.g.length = n3) (q0 : n0 ≤ maxLen) (q1 : n1 ≤ maxLen) (q2 : n2 ≤ maxLen) (q3 : n3 ≤ maxLen) (h0 : IntL w A0 m.r) (h1 : IntL w A1 m.i) (h2 : IntL w A2 m.z) (hl : rs.length = n) (hn : n ≤ maxLen) (hrow : RowChannel w A rs) :
    Calls Try.prog 44 #[.agg #[.slice A0 n0 c0, .slice A1 n1 c1, .slice A2 n2 c2, .slice A3 n3 c3, .int .i64 m.s], .slice A n c, .int .i64 i] w fun e w' => e = .returned (.int .i64 (moveCode m rs i)) ∧ Below w.heap.size w w' := by
  obtain ⟨W0, hW0⟩ : ∃ W0, W0 = w.alloc (.cells #[.slice A0 n0 c0, .slice A1 n1 c1, .slice A2 n2 c2, .slice A3 n3 c3, .int .i64 m.s] 28) := ⟨_, rfl⟩
  have hb0 : Below w.heap.size w W0 := by rw [hW0]; exact alloc_below _ _
  have X0 : Hid (Box W0 w.heap.size 28 #[.slice A0 n0 c0, .slice A1 n1 c1, .slice A2 n2 c2, .slice A3 n3 c3, .int .i64 m.s]) := Lib.hid (by rw [hW0]; exact Box.new _ _ _)
  have HC := Lib.hid (checkChannel A n c rs i W0 hl hn (hrow.below hb0))
  have HM := Lib.hid (fun W (hb : Below w.heap.size w W) => memValid A0 A1 A2 A3 n0 n1 n2 n3 c0 c1 c2 c3 m.r m.i m.z m.g m.s W l0 l1 l2 l3 q0 q1 q2 q3 (h0.below hb) (h1.below hb) (h2.below hb))
  have HOm : Hid (okMem m.r m.i m.z m.g m.s = m.ok) := Lib.hid rfl
  rw [HOm.out] at HM
  have HE := Lib.hid (moveCode_chan m rs i)
  have HW0 := Lib.hid hW0
  generalize chanC rs i = cd at HC HE
  generalize moveCode m rs i = r at HE ⊢
  clear l0 l1 l2 l3 q0 q1 q2 q3 h0 h1 h2 hl hn hrow HOm hW0
  by_cases hz : cd = 2
  · subst hz
    have HF : Hid (r = 2) := Lib.hid (by rw [HE.out, if_pos rfl])
    clear HE HM
    go_enter Try.func44, Try.ntmps44
    go_wp2_with fail
    rw [← HW0.out]
    refine HC.out.mono ?_
    rintro e w1 ⟨rfl, hb1⟩
    go_wp2
    go_ret
    exact ⟨ret_int HF.out.symm, bt hb0 hb1⟩
  · have hq : (cd != 2) = true := by simpa using hz
    rw [if_neg hz] at HE
    generalize m.ok = okm at HM HE
    go_enter Try.func44, Try.ntmps44
    go_wp2_with fail
    rw [← HW0.out]
    refine HC.out.mono ?_
    rintro e w1 ⟨rfl, hb1⟩
    have X1 := X0.out.step hb1
    have f0 := X1.cell 0 rfl
    have f1 := X1.cell 1 rfl
    have f2 := X1.cell 2 rfl
    have f3 := X1.cell 3 rfl
    have f4 := X1.cell 4 rfl
    clear X1 X0 hz
    go_wp2_with fail
    refine (HM.out _ (bt hb0 hb1)).mono ?_
    rintro e w2 ⟨rfl, hb2⟩
    clear f0 f1 f2 f3 f4
    cases okm with
    | true =>
      go_wp2
      go_ret
      exact ⟨ret_int (by rw [HE.out]; simp), bt (bt hb0 hb1) hb2⟩
    | false =>
      go_wp2
      go_ret
      exact ⟨ret_int (by rw [HE.out]; rfl), bt (bt hb0 hb1) hb2⟩
/-- Channels of the call's own are kept where boxes of their type are. -/
theorem OwnChannel.kept {w w' : World} {lo hi : Nat} {A : Option Addr} {rs : List TChannel} (h : OwnChannel w lo hi A rs) (N : ∀ b t cs, t ≠ 3 → t ≠ 122 → Box w b t cs → Box w' b t cs) : OwnChannel w' lo hi A rs := by
  rcases h with e | ⟨b, m, f, e, h1, h2, hm, ⟨c, hb, hs, hc⟩, hf⟩
  · exact .inl e
  · exact .inr ⟨b, m, f, e, h1, h2, hm, ⟨c, N b 36 c (by decide) (by decide) hb, hs, hc⟩, hf⟩
theorem OwnChannel.stepB {w w' : World} {lo hi : Nat} {A : Option Addr} {rs : List TChannel} (h : OwnChannel w lo hi A rs) (k : Below w.heap.size w w') : OwnChannel w' lo hi A rs := OwnChannel.below h k
theorem OwnChannel.open4 {w : World} {lo hi b : Nat} {rs : List TChannel} (h : OwnChannel w lo hi (some ⟨b, 0, none⟩) rs) (k : Nat) (hk : k < rs.length) {x1 x2 x3 x4 : Int} (hx : rs.getD k zChannel = (x1, x2, x3, x4)) :
    (w.cell? ⟨b, k * 4, none⟩ = some (.int .i64 x1) ∧ w.cell? ⟨b, k * 4 + 1, none⟩ = some (.int .i64 x2) ∧ w.cell? ⟨b, k * 4 + 2, none⟩ = some (.int .i64 x3) ∧ w.cell? ⟨b, k * 4 + 3, none⟩ = some (.int .i64 x4)) ∧ (∀ x, w.frozen? ⟨b, x, none⟩ = false) ∧ lo ≤ b ∧ b < hi := by
  obtain ⟨b', m, f, e, hc, hz, q1, q2, _⟩ := h.put k hk
  injection e with e
  injection e with e _ _
  subst e
  rw [hx] at hc
  exact ⟨hc, hz, q1, q2⟩
theorem OwnChannel.set1 {w : World} {lo hi b : Nat} {rs : List TChannel} (h : OwnChannel w lo hi (some ⟨b, 0, none⟩) rs) (k : Nat) (hk : k < rs.length) {x1 x2 x3 x4 : Int} (hx : rs.getD k zChannel = (x1, x2, x3, x4)) (j : Nat) (hj : j < 4) (u : Value) (y : TChannel) (hy : rowChannel y = (rowChannel (x1, x2, x3, x4)).set j u) :
    OwnChannel (w.setCell ⟨b, k * 4 + j, none⟩ u) lo hi (some ⟨b, 0, none⟩) (rs.set k y) := by
  rcases h with hnil | ⟨b', m, f, e, h1, h2, hm, hr, hf⟩
  · have hq := congrArg List.length hnil
    rw [List.length_map, List.length_nil] at hq
    omega
  · injection e with e
    injection e with e _ _
    subst e
    have hl : (rs.map rowChannel).length = rs.length := by simp
    have e2 : (rs.set k y).map rowChannel = (rs.map rowChannel).set k (rowChannel y) := by rw [List.map_set]
    have hrow := rowChannel_at rs k hk
    unfold OwnChannel
    rw [e2]
    refine OwnR.anew h1 h2 hm hf (hr.set (k * 4 + j) u) (fun x hx' => ?_) (fun i hi' => ?_)
    · show (if x = k * 4 + j then _ else f x) = f x
      rw [if_neg (by omega)]
    · show (if k * 4 + i = k * 4 + j then u else f (k * 4 + i)) = _
      rw [hy]
      by_cases q : i = j
      · subst q
        rw [if_pos rfl, List.getD_eq_getElem?_getD, List.getElem?_set_self (by simpa [rowChannel] using hj)]
        rfl
      · rw [if_neg (by omega), hf k (by rw [hl]; exact hk) i hi', hrow, hx]
        simp only [List.getD_eq_getElem?_getD]
        rw [List.getElem?_set_ne (fun h => q h.symm)]
theorem set_set_getD (rs : List TChannel) (k : Nat) (y : TChannel) (hk : k < rs.length) : (rs.set k y).getD k zChannel = y := by
  rw [List.getD_eq_getElem?_getD, List.getElem?_set_self hk]; rfl
end Go.Proofs.Ytngoijchebfolaa

/- A channel moves a byte. Written by gen_dmaimpl.py. -/
namespace Go.Proofs.Ytngoijchebfolaa
open Go.RowKit

def KeepsCh (w w' : World) : Prop := ∀ b t cs, t ≠ 3 → t ≠ 122 → t ≠ 36 → Box w b t cs → Box w' b t cs
def GMove (a : PA) (m : MD) (lo hi b : Nat) (rs : List TChannel) (last : Bool) (w : World) (e : Ending) (w' : World) : Prop :=
  e = .returned (.bool last) ∧ Hid (BusAt w' a.R a.g a.b0 a.b1 a.b2 a.b3 a.A0 a.A1 a.c0 a.c1 m.r m.i m.z m.g m.s) ∧ Hid (OwnChannel w' lo hi (some ⟨b, 0, none⟩) rs) ∧ Hid (KeepsCh w w') ∧ Below a.R w w'
theorem BusAt.setCh {w : World} {lo g b0 b1 b2 b3 : Nat} {A0 A1 : Option Addr} {c0 c1 : Nat} {ram io zs : List Int} {gs : List Bool} {st : Int} (B : BusAt w lo g b0 b1 b2 b3 A0 A1 c0 c1 ram io zs gs st) {l h b : Nat} {rs : List TChannel} (O : OwnChannel w l h (some ⟨b, 0, none⟩) rs) (hn : rs ≠ []) (i : Nat) (u : Value) : BusAt (w.setCell ⟨b, i, none⟩ u) lo g b0 b1 b2 b3 A0 A1 c0 c1 ram io zs gs st := by
  rcases O with e | ⟨b', m, f, e, _, _, _, ⟨c, hb, _, _⟩, _⟩
  · exact (hn (by simpa using e)).elim
  · injection e with e
    injection e with e _ _
    subst e
    exact B.setFar (t := 36) (cs := c) hb (by decide) (by decide) (by decide) (by decide) (by decide) i u
theorem KeepsCh.set {w : World} {l h b : Nat} {rs : List TChannel} (O : OwnChannel w l h (some ⟨b, 0, none⟩) rs) (hn : rs ≠ []) (i : Nat) (u : Value) : KeepsCh w (w.setCell ⟨b, i, none⟩ u) := fun b2 t cs _ _ h3 X => by
  rcases O with e | ⟨b', m, f, e, _, _, _, ⟨c, hb, _, _⟩, _⟩
  · exact (hn (by simpa using e)).elim
  · injection e with e
    injection e with e _ _
    subst e
    exact X.far (p := ⟨b, i, none⟩) (X.box_ne (t' := 36) (cs' := c) hb h3) u
theorem KeepsCh.trans {a b c : World} (h : KeepsCh a b) (k : KeepsCh b c) : KeepsCh a c := fun b t cs h1 h2 h3 X => k b t cs h1 h2 h3 (h b t cs h1 h2 h3 X)
theorem KeepsCh.below {w w' : World} (k : Below w.heap.size w w') : KeepsCh w w' := fun _ _ _ _ _ _ X => X.step k
theorem arr62 (T : Array Value) (h : T.size = 62) : ∃ t0 t1 t2 t3 t4 t5 t6 t7 t8 t9 t10 t11 t12 t13 t14 t15 t16 t17 t18 t19 t20 t21 t22 t23 t24 t25 t26 t27 t28 t29 t30 t31 t32 t33 t34 t35 t36 t37 t38 t39 t40 t41 t42 t43 t44 t45 t46 t47 t48 t49 t50 t51 t52 t53 t54 t55 t56 t57 t58 t59 t60 t61 : Value, T = #[t0, t1, t2, t3, t4, t5, t6, t7, t8, t9, t10, t11, t12, t13, t14, t15, t16, t17, t18, t19, t20, t21, t22, t23, t24, t25, t26, t27, t28, t29, t30, t31, t32, t33, t34, t35, t36, t37, t38, t39, t40, t41, t42, t43, t44, t45, t46, t47, t48, t49, t50, t51, t52, t53, t54, t55, t56, t57, t58, t59, t60, t61] := by
  obtain ⟨l⟩ := T
  match l, h with
  | t0 :: t1 :: t2 :: t3 :: t4 :: t5 :: t6 :: t7 :: t8 :: t9 :: t10 :: t11 :: t12 :: t13 :: t14 :: t15 :: t16 :: t17 :: t18 :: t19 :: t20 :: t21 :: t22 :: t23 :: t24 :: t25 :: t26 :: t27 :: t28 :: t29 :: t30 :: t31 :: t32 :: t33 :: t34 :: t35 :: t36 :: t37 :: t38 :: t39 :: t40 :: t41 :: t42 :: t43 :: t44 :: t45 :: t46 :: t47 :: t48 :: t49 :: t50 :: t51 :: t52 :: t53 :: t54 :: t55 :: t56 :: t57 :: t58 :: t59 :: t60 :: t61 :: [], _ => exact ⟨t0, t1, t2, t3, t4, t5, t6, t7, t8, t9, t10, t11, t12, t13, t14, t15, t16, t17, t18, t19, t20, t21, t22, t23, t24, t25, t26, t27, t28, t29, t30, t31, t32, t33, t34, t35, t36, t37, t38, t39, t40, t41, t42, t43, t44, t45, t46, t47, t48, t49, t50, t51, t52, t53, t54, t55, t56, t57, t58, t59, t60, t61, rfl⟩
def mvA (b k : Nat) (x1 x4 y : Int) : Nat → (Nat → Value) → World → Prop
  | 0, t, _ => t 24 = .pointer (some ⟨b, k * 4, none⟩)
  | 1, t, _ => t 25 = .agg #[.int .i64 4096]
  | 2, t, _ => t 26 = .pointer (some ⟨b, k * 4, none⟩)
  | 3, t, _ => t 27 = .pointer (some ⟨b, k * 4, none⟩)
  | 4, t, _ => t 28 = .pointer (some ⟨b, k * 4, none⟩)
  | 5, t, _ => t 29 = .int .i64 x1
  | 6, t, _ => t 30 = .pointer (some ⟨b, k * 4, none⟩)
  | 7, t, _ => t 31 = .pointer (some ⟨b, k * 4, none⟩)
  | 8, t, _ => t 32 = .pointer (some ⟨b, k * 4 + 3, none⟩)
  | 9, t, _ => t 33 = .int .i64 x4
  | 10, t, _ => t 34 = .int .i64 y
  | 11, t, _ => t 35 = .pointer (some ⟨b, k * 4, none⟩)
  | 12, t, _ => t 36 = .pointer (some ⟨b, k * 4, none⟩)
  | 13, _, _ => True
  | _, _, _ => True
def mvB (b k : Nat) (x1 x4 y : Int) : Nat → (Nat → Value) → World → Prop
  | 0, t, _ => t 37 = .pointer (some ⟨b, k * 4, none⟩)
  | 1, t, _ => t 38 = .agg #[.int .i64 4096]
  | 2, t, _ => t 39 = .pointer (some ⟨b, k * 4, none⟩)
  | 3, t, _ => t 40 = .pointer (some ⟨b, k * 4, none⟩)
  | 4, t, _ => t 41 = .pointer (some ⟨b, k * 4 + 1, none⟩)
  | 5, t, _ => t 42 = .int .i64 x1
  | 6, t, _ => t 43 = .pointer (some ⟨b, k * 4, none⟩)
  | 7, t, _ => t 44 = .pointer (some ⟨b, k * 4, none⟩)
  | 8, t, _ => t 45 = .pointer (some ⟨b, k * 4 + 3, none⟩)
  | 9, t, _ => t 46 = .int .i64 x4
  | 10, t, _ => t 47 = .int .i64 y
  | 11, t, _ => t 48 = .pointer (some ⟨b, k * 4, none⟩)
  | 12, t, _ => t 49 = .pointer (some ⟨b, k * 4 + 1, none⟩)
  | 13, _, _ => True
  | _, _, _ => True
theorem mvA_any {b k : Nat} {x1 x4 y : Int} {w w' : World} : ∀ (j : Nat) (t : Nat → Value), mvA b k x1 x4 y j t w → mvA b k x1 x4 y j t w'
  | 0, _, h | 1, _, h | 2, _, h | 3, _, h | 4, _, h | 5, _, h | 6, _, h | 7, _, h | 8, _, h | 9, _, h | 10, _, h | 11, _, h | 12, _, h | 13, _, h => h
  | _ + 14, _, _ => trivial
theorem mvB_any {b k : Nat} {x1 x4 y : Int} {w w' : World} : ∀ (j : Nat) (t : Nat → Value), mvB b k x1 x4 y j t w → mvB b k x1 x4 y j t w'
  | 0, _, h | 1, _, h | 2, _, h | 3, _, h | 4, _, h | 5, _, h | 6, _, h | 7, _, h | 8, _, h | 9, _, h | 10, _, h | 11, _, h | 12, _, h | 13, _, h => h
  | _ + 14, _, _ => trivial
theorem wp_pure9 {P : Program} {o : Oper} {a : Act} {w : World} {K : Act → World → Prop} {Q : Exit → Act → World → Prop} (x : Operand) (ho : o.op = .assign x ∨ o.op = .move x) (v : Value) (hv : a.eval x = v) (h : K (a.put o.dst v) w) : Oper.wp P o a w K Q := by
  rcases ho with ho | ho
  · unfold Oper.wp execOp
    simp only [ho, hv]
    exact h
  · unfold Oper.wp execOp
    simp only [ho, hv]
    exact h
set_option maxRecDepth 100000 in
theorem busGetM (a : PA) (m : MD) (w : World) (k : Int) (h0 : 0 ≤ k) (h1 : k ≤ 4095) (hm : m.Ok) (B : BusAt w a.R a.g a.b0 a.b1 a.b2 a.b3 a.A0 a.A1 a.c0 a.c1 m.r m.i m.z m.g m.s) :
    Calls Try.prog 87 #[.agg #[.pointer (some ⟨a.b0, 0, none⟩), .pointer (some ⟨a.b1, 0, none⟩), .pointer (some ⟨a.b2, 0, none⟩), .pointer (some ⟨a.b3, 0, none⟩)], .int .i64 k] w fun e w' => e = .returned (.int .i64 (m.get k)) ∧ Below w.heap.size w w' := by
  obtain ⟨j, rfl⟩ : ∃ j : Nat, k = j := ⟨k.toNat, by omega⟩
  exact busRead a.R a.g a.b0 a.b1 a.b2 a.b3 a.A0 a.A1 a.c0 a.c1 m.r m.i m.z m.g m.s w j (by omega) hm.r hm.i hm.z hm.g hm.zb B
set_option maxRecDepth 100000 in
set_option maxHeartbeats 16000000 in
theorem chMove (a : PA) (m : MD) (lo hi b : Nat) (rs : List TChannel) (k : Nat) (w : World) (hk : k < rs.length) (hc : chB (rs.getD k zChannel) = true) (hm : m.Ok) (hlo : a.R ≤ lo) (O : OwnChannel w lo hi (some ⟨b, 0, none⟩) rs) (B : BusAt w a.R a.g a.b0 a.b1 a.b2 a.b3 a.A0 a.A1 a.c0 a.c1 m.r m.i m.z m.g m.s) :
    Calls Try.prog 46 #[.pointer (some ⟨b, k * 4, none⟩), .agg #[.pointer (some ⟨a.b0, 0, none⟩), .pointer (some ⟨a.b1, 0, none⟩), .pointer (some ⟨a.b2, 0, none⟩), .pointer (some ⟨a.b3, 0, none⟩)]] w (GMove a (moveM m (rs.getD k zChannel)) lo hi b (rs.set k (moveC (rs.getD k zChannel))) (moveL (rs.getD k zChannel)) w) := by
  obtain ⟨x1, x2, x3, x4, hx⟩ : ∃ x1 x2 x3 x4, rs.getD k zChannel = (x1, x2, x3, x4) := ⟨_, _, _, _, rfl⟩
  have HSet := Lib.hid (set_getD rs k hk)
  rw [hx] at hc HSet ⊢
  obtain ⟨hr1, hr2, hr3, hr4⟩ := chB_range hc
  simp only at hr1 hr2 hr3 hr4
  have hne : rs ≠ [] := by rintro rfl; simp at hk
  obtain ⟨W0, hW0⟩ : ∃ W0, W0 = w.alloc (.cells #[.pointer (some ⟨a.b0, 0, none⟩), .pointer (some ⟨a.b1, 0, none⟩), .pointer (some ⟨a.b2, 0, none⟩), .pointer (some ⟨a.b3, 0, none⟩)] 80) := ⟨_, rfl⟩
  have hb0 : Below w.heap.size w W0 := by rw [hW0]; exact alloc_below _ _
  have X0 : Hid (Box W0 w.heap.size 80 #[.pointer (some ⟨a.b0, 0, none⟩), .pointer (some ⟨a.b1, 0, none⟩), .pointer (some ⟨a.b2, 0, none⟩), .pointer (some ⟨a.b3, 0, none⟩)]) := Lib.hid (by rw [hW0]; exact Box.new _ _ _)
  have HR : Hid (a.R ≤ w.heap.size) := Lib.hid (Nat.le_trans B.l.1 (Nat.le_of_lt B.r.lt))
  have O0 := Lib.hid (OwnChannel.stepB O hb0)
  have B0 := Lib.hid (B.step hb0)
  obtain ⟨⟨g0, g1, g2, g3⟩, gz, q1, q2⟩ := O0.out.open4 k hk hx
  have gz2 := gz (k * 4 + 2)
  have HW0 := Lib.hid hW0
  clear hW0
  have hq1 : a.R ≤ b := Nat.le_trans hlo q1
  by_cases hz : x3 = 0
  · subst hz
    have E1 : moveM m (x1, x2, 0, x4) = m := rfl
    have E2 : moveC (x1, x2, 0, x4) = (x1, x2, 0, x4) := rfl
    have E3 : moveL (x1, x2, 0, x4) = false := rfl
    rw [E1, E2, E3, HSet.out]
    clear E1 E2 E3 HSet hx hc hr1 hr2 hr3 hr4 hne hk hm hlo O B
    rw [HW0.out] at g2
    go_enter Try.func46, Try.ntmps46
    go_wp2
    rw [← HW0.out]
    go_ret
    exact ⟨rfl, B0, O0, Lib.hid (KeepsCh.below hb0), hb0.mono HR.out⟩
  · have hq : (x3 == 0) = false := by simpa using hz
    have E1 : moveM m (x1, x2, x3, x4) = m.put x2 (m.get x1) := by unfold moveM; rw [if_neg hz]
    have E2 : moveC (x1, x2, x3, x4) = ((x1 + x4) % 4096, (x2 + x4) % 4096, x3 - 1, x4) := by unfold moveC; rw [if_neg hz]; rfl
    have E3 : moveL (x1, x2, x3, x4) = (x3 - 1 == 0) := by unfold moveL; rw [Bool.eq_iff_iff]; simp; omega
    have HE := Lib.hid (And.intro E1 (And.intro E2 E3))
    have hgv := hm.get x1 hr1.1 hr1.2
    obtain ⟨v, hv⟩ : ∃ v, m.get x1 = v := ⟨_, rfl⟩
    have HG := Lib.hid (fun W (q : BusAt W a.R a.g a.b0 a.b1 a.b2 a.b3 a.A0 a.A1 a.c0 a.c1 m.r m.i m.z m.g m.s) => busGetM a m W x1 hr1.1 hr1.2 hm q)
    rw [hv] at HG hgv HE
    have HP := Lib.hid (fun W (q : BusAt W a.R a.g a.b0 a.b1 a.b2 a.b3 a.A0 a.A1 a.c0 a.c1 m.r m.i m.z m.g m.s) => busWriteM a m W x2 v hr2.1 hr2.2 hgv.1 hgv.2 hm q)
    unfold WritesM at HP
    generalize m.put x2 v = m2 at HP HE
    have HAf0 := Lib.hid (fun W => ringAfter x1 x4 W hr1.1 hr1.2 hr4.1 hr4.2)
    have HAf1 := Lib.hid (fun W => ringAfter x2 x4 W hr2.1 hr2.2 hr4.1 hr4.2)
    have m7 : IntKind.i64.wrap (x3 - 1) = x3 - 1 := IntWalk.i64_in _ (by omega)
    generalize (x1 + x4) % 4096 = y1 at HE HAf0
    generalize (x2 + x4) % 4096 = y2 at HE HAf1
    have Od := Lib.hid (OwnChannel.stepB O0.out (Below.refl _ _).drew)
    have Bd := Lib.hid (B0.out.step (Below.refl _ _).drew)
    have Xd := Lib.hid (X0.out.drew)
    have hxh := Lib.hid hx
    have hkh := Lib.hid hk
    have HK : Hid (∀ W, Box W w.heap.size 80 #[.pointer (some ⟨a.b0, 0, none⟩), .pointer (some ⟨a.b1, 0, none⟩), .pointer (some ⟨a.b2, 0, none⟩), .pointer (some ⟨a.b3, 0, none⟩)] ∧ OwnChannel W lo hi (some ⟨b, 0, none⟩) rs → W.cell? ⟨w.heap.size, 0, none⟩ = some (.pointer (some ⟨a.b0, 0, none⟩)) ∧ W.cell? ⟨w.heap.size, 1, none⟩ = some (.pointer (some ⟨a.b1, 0, none⟩)) ∧ W.cell? ⟨w.heap.size, 2, none⟩ = some (.pointer (some ⟨a.b2, 0, none⟩)) ∧ W.cell? ⟨w.heap.size, 3, none⟩ = some (.pointer (some ⟨a.b3, 0, none⟩)) ∧ W.cell? ⟨b, k * 4, none⟩ = some (.int .i64 x1) ∧ W.cell? ⟨b, k * 4 + 1, none⟩ = some (.int .i64 x2)) := Lib.hid (fun W X => by
      have c := (X.2.open4 k hk hx).1
      exact ⟨X.1.cell 0 rfl, X.1.cell 1 rfl, X.1.cell 2 rfl, X.1.cell 3 rfl, c.1, c.2.1⟩)
    clear E1 E2 E3 HSet hx hc hr1 hr2 hr3 hr4 hm hlo O B hz hv hgv hk
    rw [HW0.out] at g2
    go_enter Try.func46, Try.ntmps46
    go_wp2
    rw [← HW0.out]
    clear g0 g1 g2 g3 gz gz2
    go_region_held3 (fun W => W.cell? ⟨w.heap.size, 0, none⟩ = some (.pointer (some ⟨a.b0, 0, none⟩)) ∧ W.cell? ⟨w.heap.size, 1, none⟩ = some (.pointer (some ⟨a.b1, 0, none⟩)) ∧ W.cell? ⟨w.heap.size, 2, none⟩ = some (.pointer (some ⟨a.b2, 0, none⟩)) ∧ W.cell? ⟨w.heap.size, 3, none⟩ = some (.pointer (some ⟨a.b3, 0, none⟩)) ∧ W.cell? ⟨b, k * 4, none⟩ = some (.int .i64 x1) ∧ W.cell? ⟨b, k * 4 + 1, none⟩ = some (.int .i64 x2))
      (first | exact HK.out _ ⟨Xd.out, Od.out⟩ | exact HK.out _ HX1.out | exact HK.out _ HX2.out)
      (first | (go_at_call 86; refine (HP.out _ (Bd.out.step hb1)).mono ?_; rintro e w2 ⟨rfl, N1, N2, N3⟩; have HX2 := Lib.hid (And.intro (N2.out _ _ _ (by decide) (by decide) HX1.out.1) (HX1.out.2.kept N2.out))) | (go_at_call 87; refine (HG.out _ Bd.out).mono ?_; rintro e w1 ⟨rfl, hb1⟩; have HX1 := Lib.hid (And.intro (Xd.out.step hb1) (OwnChannel.stepB Od.out hb1))))
    obtain ⟨V, hV⟩ : ∃ V, V = w2.alloc (.cells #[.int .i64 4096] 127) := ⟨_, rfl⟩
    have hqV : Below w2.heap.size w2 V := by rw [hV]; exact alloc_below _ _
    have XV : Hid (Box V w2.heap.size 127 #[.int .i64 4096]) := Lib.hid (by rw [hV]; exact Box.new _ _ _)
    have OV := Lib.hid (OwnChannel.stepB HX2.out.2 hqV)
    have BV := Lib.hid (N1.out.step hqV)
    have hbR := (((hb0.mono HR.out).trans ((Below.refl W0.heap.size W0).drew.mono (Nat.le_trans HR.out hb0.size))).trans (hb1.mono (Nat.le_trans HR.out hb0.size))).trans (N3.trans (hqV.mono (Nat.le_trans HR.out (Nat.le_trans hb0.size (Nat.le_trans hb1.size N3.size)))))
    have KV : Hid (KeepsCh w V) := Lib.hid (((KeepsCh.below hb0).trans (KeepsCh.below (Below.refl _ _).drew)).trans (((KeepsCh.below hb1).trans (fun b t cs h1 h2 _ X => N2.out b t cs h1 h2 X)).trans (KeepsCh.below hqV)))
    have HLo := Lib.hid (And.intro hq1 (And.intro hne q1))
    clear X0 O0 B0 Xd Od Bd HK HG HP HX1 HX2 N1 N2 N3 hb0 hb1 hqV hne q1 q2 hq1 HW0
    go_wp2
    rw [← hV]
    clear hV

    obtain ⟨r5, hr5⟩ : ∃ r5, r5 = w2.heap.size := ⟨_, rfl⟩
    rw [← hr5]
    rw [← hr5] at XV
    clear hr5
    have HK0 : Hid (∀ W, Below V.heap.size V W → W.cell? ⟨r5, 0, none⟩ = some (.int .i64 4096) ∧ W.cell? ⟨b, k * 4, none⟩ = some (.int .i64 x1) ∧ W.cell? ⟨b, k * 4 + 1, none⟩ = some (.int .i64 x2) ∧ W.cell? ⟨b, k * 4 + 3, none⟩ = some (.int .i64 x4)) := Lib.hid (fun W q => by
      have c := ((OwnChannel.stepB OV.out q).open4 k hkh.out hxh.out).1
      exact ⟨(XV.out.step q).cell 0 rfl, c.1, c.2.1, c.2.2.2⟩)
    have HZ0 : Hid (∀ W, Below V.heap.size V W → W.frozen? ⟨b, k * 4, none⟩ = false) := Lib.hid (fun W q => ((OwnChannel.stepB OV.out q).open4 k hkh.out hxh.out).2.1 _)
    refine wp_region_last (by kernel_rfl) [[24], [25], [26], [27], [28], [29], [30], [31], [32], [33], [34], [35], [36], []] [[], [], [], [2], [2, 3], [2, 3, 4], [], [6], [6, 7], [6, 7, 8], [1, 2, 3, 4, 5, 6, 7, 8, 9], [0, 1, 2, 3, 4, 5, 6, 7, 8, 9, 10], [0, 1, 2, 3, 4, 5, 6, 7, 8, 9, 10, 11], [0, 1, 2, 3, 4, 5, 6, 7, 8, 9, 10, 11, 12]] [0, 3, 5] (by kernel_rfl) 13 (by kernel_rfl) (fun W => Below V.heap.size V W) (fun W' => ∃ W, Below V.heap.size V W ∧ W' = W.setCell ⟨b, k * 4, none⟩ (.int .i64 y1)) (mvA b k x1 x4 y1) (Below.refl _ _).drew ?_ ?_
    · refine ⟨?_, ?_, ?_, ?_, ?_, ?_, ?_, ?_, ?_, ?_, ?_, ?_, ?_, ?_, trivial⟩
      · intro T W hT hs hC hF K hK
        exact wp_pure9 (.tmp 0) (.inr rfl) (.pointer (some ⟨b, k * 4, none⟩)) (hs 0 (by decide)) (hK.out _ W (ifn (by decide) hC) (fun _ _ _ h => h) (mask_put _ 24 (by decide) _ _ _ (by rw [hT]; show 24 < 62; decide)))
      · intro T W hT hs hC hF K hK
        obtain ⟨t0, t1, t2, t3, t4, t5, t6, t7, t8, t9, t10, t11, t12, t13, t14, t15, t16, t17, t18, t19, t20, t21, t22, t23, t24, t25, t26, t27, t28, t29, t30, t31, t32, t33, t34, t35, t36, t37, t38, t39, t40, t41, t42, t43, t44, t45, t46, t47, t48, t49, t50, t51, t52, t53, t54, t55, t56, t57, t58, t59, t60, t61, rfl⟩ := arr62 T hT
        obtain rfl : t0 = .pointer (some ⟨b, k * 4, none⟩) := hs 0 (by decide)
        obtain rfl : t5 = .pointer (some ⟨r5, 0, none⟩) := hs 5 (by decide)
        clear hF hs hT
        have hcs := HK0.out W hC
        obtain ⟨y0, y1, y2, y3⟩ := hcs
        go_simp
        exact hK.out _ W (ifn (by decide) hC) (fun _ _ _ h => h) rfl
      · intro T W hT hs hC hF K hK
        exact wp_pure9 (.tmp 0) (.inr rfl) (.pointer (some ⟨b, k * 4, none⟩)) (hs 0 (by decide)) (hK.out _ W (ifn (by decide) hC) (fun _ _ _ h => h) (mask_put _ 26 (by decide) _ _ _ (by rw [hT]; show 26 < 62; decide)))
      · intro T W hT hs hC hF K hK
        obtain ⟨t0, t1, t2, t3, t4, t5, t6, t7, t8, t9, t10, t11, t12, t13, t14, t15, t16, t17, t18, t19, t20, t21, t22, t23, t24, t25, t26, t27, t28, t29, t30, t31, t32, t33, t34, t35, t36, t37, t38, t39, t40, t41, t42, t43, t44, t45, t46, t47, t48, t49, t50, t51, t52, t53, t54, t55, t56, t57, t58, t59, t60, t61, rfl⟩ := arr62 T hT
        obtain rfl : t0 = .pointer (some ⟨b, k * 4, none⟩) := hs 0 (by decide)
        obtain rfl : t5 = .pointer (some ⟨r5, 0, none⟩) := hs 5 (by decide)
        obtain rfl : t26 = .pointer (some ⟨b, k * 4, none⟩) := hF 2 (by decide)
        clear hF hs hT
        go_simp
        exact hK.out _ W (ifn (by decide) hC) (fun _ _ _ h => h) rfl
      · intro T W hT hs hC hF K hK
        obtain ⟨t0, t1, t2, t3, t4, t5, t6, t7, t8, t9, t10, t11, t12, t13, t14, t15, t16, t17, t18, t19, t20, t21, t22, t23, t24, t25, t26, t27, t28, t29, t30, t31, t32, t33, t34, t35, t36, t37, t38, t39, t40, t41, t42, t43, t44, t45, t46, t47, t48, t49, t50, t51, t52, t53, t54, t55, t56, t57, t58, t59, t60, t61, rfl⟩ := arr62 T hT
        obtain rfl : t0 = .pointer (some ⟨b, k * 4, none⟩) := hs 0 (by decide)
        obtain rfl : t5 = .pointer (some ⟨r5, 0, none⟩) := hs 5 (by decide)
        obtain rfl : t27 = .pointer (some ⟨b, k * 4, none⟩) := hF 3 (by decide)
        clear hF hs hT
        go_simp
        exact hK.out _ W (ifn (by decide) hC) (fun _ _ _ h => h) rfl
      · intro T W hT hs hC hF K hK
        obtain ⟨t0, t1, t2, t3, t4, t5, t6, t7, t8, t9, t10, t11, t12, t13, t14, t15, t16, t17, t18, t19, t20, t21, t22, t23, t24, t25, t26, t27, t28, t29, t30, t31, t32, t33, t34, t35, t36, t37, t38, t39, t40, t41, t42, t43, t44, t45, t46, t47, t48, t49, t50, t51, t52, t53, t54, t55, t56, t57, t58, t59, t60, t61, rfl⟩ := arr62 T hT
        obtain rfl : t0 = .pointer (some ⟨b, k * 4, none⟩) := hs 0 (by decide)
        obtain rfl : t5 = .pointer (some ⟨r5, 0, none⟩) := hs 5 (by decide)
        obtain rfl : t28 = .pointer (some ⟨b, k * 4, none⟩) := hF 4 (by decide)
        clear hF hs hT
        have hcs := HK0.out W hC
        obtain ⟨y0, y1, y2, y3⟩ := hcs
        go_simp
        exact hK.out _ W (ifn (by decide) hC) (fun _ _ _ h => h) rfl
      · intro T W hT hs hC hF K hK
        exact wp_pure9 (.tmp 0) (.inr rfl) (.pointer (some ⟨b, k * 4, none⟩)) (hs 0 (by decide)) (hK.out _ W (ifn (by decide) hC) (fun _ _ _ h => h) (mask_put _ 30 (by decide) _ _ _ (by rw [hT]; show 30 < 62; decide)))
      · intro T W hT hs hC hF K hK
        obtain ⟨t0, t1, t2, t3, t4, t5, t6, t7, t8, t9, t10, t11, t12, t13, t14, t15, t16, t17, t18, t19, t20, t21, t22, t23, t24, t25, t26, t27, t28, t29, t30, t31, t32, t33, t34, t35, t36, t37, t38, t39, t40, t41, t42, t43, t44, t45, t46, t47, t48, t49, t50, t51, t52, t53, t54, t55, t56, t57, t58, t59, t60, t61, rfl⟩ := arr62 T hT
        obtain rfl : t0 = .pointer (some ⟨b, k * 4, none⟩) := hs 0 (by decide)
        obtain rfl : t5 = .pointer (some ⟨r5, 0, none⟩) := hs 5 (by decide)
        obtain rfl : t30 = .pointer (some ⟨b, k * 4, none⟩) := hF 6 (by decide)
        clear hF hs hT
        go_simp
        exact hK.out _ W (ifn (by decide) hC) (fun _ _ _ h => h) rfl
      · intro T W hT hs hC hF K hK
        obtain ⟨t0, t1, t2, t3, t4, t5, t6, t7, t8, t9, t10, t11, t12, t13, t14, t15, t16, t17, t18, t19, t20, t21, t22, t23, t24, t25, t26, t27, t28, t29, t30, t31, t32, t33, t34, t35, t36, t37, t38, t39, t40, t41, t42, t43, t44, t45, t46, t47, t48, t49, t50, t51, t52, t53, t54, t55, t56, t57, t58, t59, t60, t61, rfl⟩ := arr62 T hT
        obtain rfl : t0 = .pointer (some ⟨b, k * 4, none⟩) := hs 0 (by decide)
        obtain rfl : t5 = .pointer (some ⟨r5, 0, none⟩) := hs 5 (by decide)
        obtain rfl : t31 = .pointer (some ⟨b, k * 4, none⟩) := hF 7 (by decide)
        clear hF hs hT
        go_simp
        exact hK.out _ W (ifn (by decide) hC) (fun _ _ _ h => h) rfl
      · intro T W hT hs hC hF K hK
        obtain ⟨t0, t1, t2, t3, t4, t5, t6, t7, t8, t9, t10, t11, t12, t13, t14, t15, t16, t17, t18, t19, t20, t21, t22, t23, t24, t25, t26, t27, t28, t29, t30, t31, t32, t33, t34, t35, t36, t37, t38, t39, t40, t41, t42, t43, t44, t45, t46, t47, t48, t49, t50, t51, t52, t53, t54, t55, t56, t57, t58, t59, t60, t61, rfl⟩ := arr62 T hT
        obtain rfl : t0 = .pointer (some ⟨b, k * 4, none⟩) := hs 0 (by decide)
        obtain rfl : t5 = .pointer (some ⟨r5, 0, none⟩) := hs 5 (by decide)
        obtain rfl : t32 = .pointer (some ⟨b, k * 4 + 3, none⟩) := hF 8 (by decide)
        clear hF hs hT
        have hcs := HK0.out W hC
        obtain ⟨y0, y1, y2, y3⟩ := hcs
        go_simp
        exact hK.out _ W (ifn (by decide) hC) (fun _ _ _ h => h) rfl
      · intro T W hT hs hC hF K hK
        obtain ⟨t0, t1, t2, t3, t4, t5, t6, t7, t8, t9, t10, t11, t12, t13, t14, t15, t16, t17, t18, t19, t20, t21, t22, t23, t24, t25, t26, t27, t28, t29, t30, t31, t32, t33, t34, t35, t36, t37, t38, t39, t40, t41, t42, t43, t44, t45, t46, t47, t48, t49, t50, t51, t52, t53, t54, t55, t56, t57, t58, t59, t60, t61, rfl⟩ := arr62 T hT
        obtain rfl : t0 = .pointer (some ⟨b, k * 4, none⟩) := hs 0 (by decide)
        obtain rfl : t5 = .pointer (some ⟨r5, 0, none⟩) := hs 5 (by decide)
        obtain rfl : t25 = .agg #[.int .i64 4096] := hF 1 (by decide)
        obtain rfl : t29 = .int .i64 x1 := hF 5 (by decide)
        obtain rfl : t33 = .int .i64 x4 := hF 9 (by decide)
        clear hF hs hT
        have HG := Lib.hid (HAf0.out W)
        go_simp
        refine HG.out.mono ?_
        rintro e w1 ⟨rfl, hc⟩
        exact hK.out _ w1 (ifn (by decide) (hC.trans (hc.mono hC.size))) (fun j t _ h => mvA_any j t h) rfl
      · intro T W hT hs hC hF K hK
        obtain ⟨t0, t1, t2, t3, t4, t5, t6, t7, t8, t9, t10, t11, t12, t13, t14, t15, t16, t17, t18, t19, t20, t21, t22, t23, t24, t25, t26, t27, t28, t29, t30, t31, t32, t33, t34, t35, t36, t37, t38, t39, t40, t41, t42, t43, t44, t45, t46, t47, t48, t49, t50, t51, t52, t53, t54, t55, t56, t57, t58, t59, t60, t61, rfl⟩ := arr62 T hT
        obtain rfl : t0 = .pointer (some ⟨b, k * 4, none⟩) := hs 0 (by decide)
        obtain rfl : t5 = .pointer (some ⟨r5, 0, none⟩) := hs 5 (by decide)
        obtain rfl : t24 = .pointer (some ⟨b, k * 4, none⟩) := hF 0 (by decide)
        clear hF hs hT
        go_simp
        exact hK.out _ W (ifn (by decide) hC) (fun _ _ _ h => h) rfl
      · intro T W hT hs hC hF K hK
        obtain ⟨t0, t1, t2, t3, t4, t5, t6, t7, t8, t9, t10, t11, t12, t13, t14, t15, t16, t17, t18, t19, t20, t21, t22, t23, t24, t25, t26, t27, t28, t29, t30, t31, t32, t33, t34, t35, t36, t37, t38, t39, t40, t41, t42, t43, t44, t45, t46, t47, t48, t49, t50, t51, t52, t53, t54, t55, t56, t57, t58, t59, t60, t61, rfl⟩ := arr62 T hT
        obtain rfl : t0 = .pointer (some ⟨b, k * 4, none⟩) := hs 0 (by decide)
        obtain rfl : t5 = .pointer (some ⟨r5, 0, none⟩) := hs 5 (by decide)
        obtain rfl : t35 = .pointer (some ⟨b, k * 4, none⟩) := hF 11 (by decide)
        clear hF hs hT
        go_simp
        exact hK.out _ W (ifn (by decide) hC) (fun _ _ _ h => h) rfl
      · intro T W hT hs hC hF K hK
        obtain ⟨t0, t1, t2, t3, t4, t5, t6, t7, t8, t9, t10, t11, t12, t13, t14, t15, t16, t17, t18, t19, t20, t21, t22, t23, t24, t25, t26, t27, t28, t29, t30, t31, t32, t33, t34, t35, t36, t37, t38, t39, t40, t41, t42, t43, t44, t45, t46, t47, t48, t49, t50, t51, t52, t53, t54, t55, t56, t57, t58, t59, t60, t61, rfl⟩ := arr62 T hT
        obtain rfl : t0 = .pointer (some ⟨b, k * 4, none⟩) := hs 0 (by decide)
        obtain rfl : t5 = .pointer (some ⟨r5, 0, none⟩) := hs 5 (by decide)
        obtain rfl : t36 = .pointer (some ⟨b, k * 4, none⟩) := hF 12 (by decide)
        obtain rfl : t34 = .int .i64 y1 := hF 10 (by decide)
        clear hF hs hT
        have hcs := HK0.out W hC
        obtain ⟨y0, y1, y2, y3⟩ := hcs
        have yz := HZ0.out W hC
        go_simp
        exact hK.out undef _ (ifp ⟨W, hC, rfl⟩) (fun j t _ h => mvA_any j t h) trivial
    · intro T W hT hs hC hF
      obtain ⟨t0, t1, t2, t3, t4, t5, t6, t7, t8, t9, t10, t11, t12, t13, t14, t15, t16, t17, t18, t19, t20, t21, t22, t23, t24, t25, t26, t27, t28, t29, t30, t31, t32, t33, t34, t35, t36, t37, t38, t39, t40, t41, t42, t43, t44, t45, t46, t47, t48, t49, t50, t51, t52, t53, t54, t55, t56, t57, t58, t59, t60, t61, rfl⟩ := arr62 T hT
      obtain rfl : t0 = .pointer (some ⟨b, k * 4, none⟩) := hs 0 (by decide)
      obtain rfl : t5 = .pointer (some ⟨r5, 0, none⟩) := hs 5 (by decide)
      obtain rfl : t3 = .pointer (some ⟨w.heap.size, 0, none⟩) := hs 3 (by decide)
      obtain ⟨Wa, hCa, rfl⟩ := hC
      have Oa := OwnChannel.stepB OV.out hCa
      have Ba := BV.out.step hCa
      have hne := HLo.out.2.1
      obtain ⟨U, hU⟩ : ∃ U, U = Wa.setCell ⟨b, k * 4, none⟩ (.int .i64 y1) := ⟨_, rfl⟩
      have OU : Hid (OwnChannel U lo hi (some ⟨b, 0, none⟩) (rs.set k (y1, x2, x3, x4))) := Lib.hid (by rw [hU]; exact Oa.set1 k hkh.out hxh.out 0 (by decide) (.int .i64 y1) (y1, x2, x3, x4) rfl)
      have BU : Hid (BusAt U a.R a.g a.b0 a.b1 a.b2 a.b3 a.A0 a.A1 a.c0 a.c1 m2.r m2.i m2.z m2.g m2.s) := Lib.hid (by rw [hU]; exact Ba.setCh Oa hne _ _)
      have XU : Hid (Box U r5 127 #[.int .i64 4096]) := Lib.hid (by rw [hU]; exact KeepsCh.set Oa hne _ _ r5 _ _ (by decide) (by decide) (by decide) (XV.out.step hCa))
      have KU : Hid (KeepsCh w U) := Lib.hid (by rw [hU]; exact (KV.out.trans (KeepsCh.below hCa)).trans (KeepsCh.set Oa hne _ _))
      have hbU : Below a.R w U := by rw [hU]; exact (hbR.trans (hCa.mono (by have := HR.out; have := hbR.size; omega))).setCell (p := ⟨b, k * 4, none⟩) HLo.out.1 _
      have hkU := Lib.hid (show k < (rs.set k (y1, x2, x3, x4)).length by rw [List.length_set]; exact hkh.out)
      have hxU := Lib.hid (set_set_getD rs k (y1, x2, x3, x4) hkh.out)
      have hneU : rs.set k (y1, x2, x3, x4) ≠ [] := by intro e; have := hkU.out; rw [e] at this; simp at this
      have HneU := Lib.hid hneU
      rw [← hU]
      clear hU hF hs hT Oa Ba hne hCa OV BV XV KV hbR HAf0 HK0 HZ0 hneU
      go_wp2
      have HK1 : Hid (∀ W, Below U.heap.size U W → W.cell? ⟨r5, 0, none⟩ = some (.int .i64 4096) ∧ W.cell? ⟨b, k * 4, none⟩ = some (.int .i64 y1) ∧ W.cell? ⟨b, k * 4 + 1, none⟩ = some (.int .i64 x2) ∧ W.cell? ⟨b, k * 4 + 3, none⟩ = some (.int .i64 x4)) := Lib.hid (fun W q => by
        have c := ((OwnChannel.stepB OU.out q).open4 k hkU.out hxU.out).1
        exact ⟨(XU.out.step q).cell 0 rfl, c.1, c.2.1, c.2.2.2⟩)
      have HZ1 : Hid (∀ W, Below U.heap.size U W → W.frozen? ⟨b, k * 4 + 1, none⟩ = false) := Lib.hid (fun W q => ((OwnChannel.stepB OU.out q).open4 k hkU.out hxU.out).2.1 _)
      refine wp_region_last (by kernel_rfl) [[37], [38], [39], [40], [41], [42], [43], [44], [45], [46], [47], [48], [49], []] [[], [], [], [2], [2, 3], [2, 3, 4], [], [6], [6, 7], [6, 7, 8], [1, 2, 3, 4, 5, 6, 7, 8, 9], [0, 1, 2, 3, 4, 5, 6, 7, 8, 9, 10], [0, 1, 2, 3, 4, 5, 6, 7, 8, 9, 10, 11], [0, 1, 2, 3, 4, 5, 6, 7, 8, 9, 10, 11, 12]] [0, 3, 5] (by kernel_rfl) 13 (by kernel_rfl) (fun W => Below U.heap.size U W) (fun W' => ∃ W, Below U.heap.size U W ∧ W' = W.setCell ⟨b, k * 4 + 1, none⟩ (.int .i64 y2)) (mvB b k x2 x4 y2) (Below.refl _ _).drew ?_ ?_
      · refine ⟨?_, ?_, ?_, ?_, ?_, ?_, ?_, ?_, ?_, ?_, ?_, ?_, ?_, ?_, trivial⟩
        · intro T W hT hs hC hF K hK
          exact wp_pure9 (.tmp 0) (.inr rfl) (.pointer (some ⟨b, k * 4, none⟩)) (hs 0 (by decide)) (hK.out _ W (ifn (by decide) hC) (fun _ _ _ h => h) (mask_put _ 37 (by decide) _ _ _ (by rw [hT]; show 37 < 62; decide)))
        · intro T W hT hs hC hF K hK
          obtain ⟨t0, t1, t2, t3, t4, t5, t6, t7, t8, t9, t10, t11, t12, t13, t14, t15, t16, t17, t18, t19, t20, t21, t22, t23, t24, t25, t26, t27, t28, t29, t30, t31, t32, t33, t34, t35, t36, t37, t38, t39, t40, t41, t42, t43, t44, t45, t46, t47, t48, t49, t50, t51, t52, t53, t54, t55, t56, t57, t58, t59, t60, t61, rfl⟩ := arr62 T hT
          obtain rfl : t0 = .pointer (some ⟨b, k * 4, none⟩) := hs 0 (by decide)
          obtain rfl : t5 = .pointer (some ⟨r5, 0, none⟩) := hs 5 (by decide)
          clear hF hs hT
          have hcs := HK1.out W hC
          obtain ⟨y0, y1, y2, y3⟩ := hcs
          go_simp
          exact hK.out _ W (ifn (by decide) hC) (fun _ _ _ h => h) rfl
        · intro T W hT hs hC hF K hK
          exact wp_pure9 (.tmp 0) (.inr rfl) (.pointer (some ⟨b, k * 4, none⟩)) (hs 0 (by decide)) (hK.out _ W (ifn (by decide) hC) (fun _ _ _ h => h) (mask_put _ 39 (by decide) _ _ _ (by rw [hT]; show 39 < 62; decide)))
        · intro T W hT hs hC hF K hK
          obtain ⟨t0, t1, t2, t3, t4, t5, t6, t7, t8, t9, t10, t11, t12, t13, t14, t15, t16, t17, t18, t19, t20, t21, t22, t23, t24, t25, t26, t27, t28, t29, t30, t31, t32, t33, t34, t35, t36, t37, t38, t39, t40, t41, t42, t43, t44, t45, t46, t47, t48, t49, t50, t51, t52, t53, t54, t55, t56, t57, t58, t59, t60, t61, rfl⟩ := arr62 T hT
          obtain rfl : t0 = .pointer (some ⟨b, k * 4, none⟩) := hs 0 (by decide)
          obtain rfl : t5 = .pointer (some ⟨r5, 0, none⟩) := hs 5 (by decide)
          obtain rfl : t39 = .pointer (some ⟨b, k * 4, none⟩) := hF 2 (by decide)
          clear hF hs hT
          go_simp
          exact hK.out _ W (ifn (by decide) hC) (fun _ _ _ h => h) rfl
        · intro T W hT hs hC hF K hK
          obtain ⟨t0, t1, t2, t3, t4, t5, t6, t7, t8, t9, t10, t11, t12, t13, t14, t15, t16, t17, t18, t19, t20, t21, t22, t23, t24, t25, t26, t27, t28, t29, t30, t31, t32, t33, t34, t35, t36, t37, t38, t39, t40, t41, t42, t43, t44, t45, t46, t47, t48, t49, t50, t51, t52, t53, t54, t55, t56, t57, t58, t59, t60, t61, rfl⟩ := arr62 T hT
          obtain rfl : t0 = .pointer (some ⟨b, k * 4, none⟩) := hs 0 (by decide)
          obtain rfl : t5 = .pointer (some ⟨r5, 0, none⟩) := hs 5 (by decide)
          obtain rfl : t40 = .pointer (some ⟨b, k * 4, none⟩) := hF 3 (by decide)
          clear hF hs hT
          go_simp
          exact hK.out _ W (ifn (by decide) hC) (fun _ _ _ h => h) rfl
        · intro T W hT hs hC hF K hK
          obtain ⟨t0, t1, t2, t3, t4, t5, t6, t7, t8, t9, t10, t11, t12, t13, t14, t15, t16, t17, t18, t19, t20, t21, t22, t23, t24, t25, t26, t27, t28, t29, t30, t31, t32, t33, t34, t35, t36, t37, t38, t39, t40, t41, t42, t43, t44, t45, t46, t47, t48, t49, t50, t51, t52, t53, t54, t55, t56, t57, t58, t59, t60, t61, rfl⟩ := arr62 T hT
          obtain rfl : t0 = .pointer (some ⟨b, k * 4, none⟩) := hs 0 (by decide)
          obtain rfl : t5 = .pointer (some ⟨r5, 0, none⟩) := hs 5 (by decide)
          obtain rfl : t41 = .pointer (some ⟨b, k * 4 + 1, none⟩) := hF 4 (by decide)
          clear hF hs hT
          have hcs := HK1.out W hC
          obtain ⟨y0, y1, y2, y3⟩ := hcs
          go_simp
          exact hK.out _ W (ifn (by decide) hC) (fun _ _ _ h => h) rfl
        · intro T W hT hs hC hF K hK
          exact wp_pure9 (.tmp 0) (.inr rfl) (.pointer (some ⟨b, k * 4, none⟩)) (hs 0 (by decide)) (hK.out _ W (ifn (by decide) hC) (fun _ _ _ h => h) (mask_put _ 43 (by decide) _ _ _ (by rw [hT]; show 43 < 62; decide)))
        · intro T W hT hs hC hF K hK
          obtain ⟨t0, t1, t2, t3, t4, t5, t6, t7, t8, t9, t10, t11, t12, t13, t14, t15, t16, t17, t18, t19, t20, t21, t22, t23, t24, t25, t26, t27, t28, t29, t30, t31, t32, t33, t34, t35, t36, t37, t38, t39, t40, t41, t42, t43, t44, t45, t46, t47, t48, t49, t50, t51, t52, t53, t54, t55, t56, t57, t58, t59, t60, t61, rfl⟩ := arr62 T hT
          obtain rfl : t0 = .pointer (some ⟨b, k * 4, none⟩) := hs 0 (by decide)
          obtain rfl : t5 = .pointer (some ⟨r5, 0, none⟩) := hs 5 (by decide)
          obtain rfl : t43 = .pointer (some ⟨b, k * 4, none⟩) := hF 6 (by decide)
          clear hF hs hT
          go_simp
          exact hK.out _ W (ifn (by decide) hC) (fun _ _ _ h => h) rfl
        · intro T W hT hs hC hF K hK
          obtain ⟨t0, t1, t2, t3, t4, t5, t6, t7, t8, t9, t10, t11, t12, t13, t14, t15, t16, t17, t18, t19, t20, t21, t22, t23, t24, t25, t26, t27, t28, t29, t30, t31, t32, t33, t34, t35, t36, t37, t38, t39, t40, t41, t42, t43, t44, t45, t46, t47, t48, t49, t50, t51, t52, t53, t54, t55, t56, t57, t58, t59, t60, t61, rfl⟩ := arr62 T hT
          obtain rfl : t0 = .pointer (some ⟨b, k * 4, none⟩) := hs 0 (by decide)
          obtain rfl : t5 = .pointer (some ⟨r5, 0, none⟩) := hs 5 (by decide)
          obtain rfl : t44 = .pointer (some ⟨b, k * 4, none⟩) := hF 7 (by decide)
          clear hF hs hT
          go_simp
          exact hK.out _ W (ifn (by decide) hC) (fun _ _ _ h => h) rfl
        · intro T W hT hs hC hF K hK
          obtain ⟨t0, t1, t2, t3, t4, t5, t6, t7, t8, t9, t10, t11, t12, t13, t14, t15, t16, t17, t18, t19, t20, t21, t22, t23, t24, t25, t26, t27, t28, t29, t30, t31, t32, t33, t34, t35, t36, t37, t38, t39, t40, t41, t42, t43, t44, t45, t46, t47, t48, t49, t50, t51, t52, t53, t54, t55, t56, t57, t58, t59, t60, t61, rfl⟩ := arr62 T hT
          obtain rfl : t0 = .pointer (some ⟨b, k * 4, none⟩) := hs 0 (by decide)
          obtain rfl : t5 = .pointer (some ⟨r5, 0, none⟩) := hs 5 (by decide)
          obtain rfl : t45 = .pointer (some ⟨b, k * 4 + 3, none⟩) := hF 8 (by decide)
          clear hF hs hT
          have hcs := HK1.out W hC
          obtain ⟨y0, y1, y2, y3⟩ := hcs
          go_simp
          exact hK.out _ W (ifn (by decide) hC) (fun _ _ _ h => h) rfl
        · intro T W hT hs hC hF K hK
          obtain ⟨t0, t1, t2, t3, t4, t5, t6, t7, t8, t9, t10, t11, t12, t13, t14, t15, t16, t17, t18, t19, t20, t21, t22, t23, t24, t25, t26, t27, t28, t29, t30, t31, t32, t33, t34, t35, t36, t37, t38, t39, t40, t41, t42, t43, t44, t45, t46, t47, t48, t49, t50, t51, t52, t53, t54, t55, t56, t57, t58, t59, t60, t61, rfl⟩ := arr62 T hT
          obtain rfl : t0 = .pointer (some ⟨b, k * 4, none⟩) := hs 0 (by decide)
          obtain rfl : t5 = .pointer (some ⟨r5, 0, none⟩) := hs 5 (by decide)
          obtain rfl : t38 = .agg #[.int .i64 4096] := hF 1 (by decide)
          obtain rfl : t42 = .int .i64 x2 := hF 5 (by decide)
          obtain rfl : t46 = .int .i64 x4 := hF 9 (by decide)
          clear hF hs hT
          have HG := Lib.hid (HAf1.out W)
          go_simp
          refine HG.out.mono ?_
          rintro e w1 ⟨rfl, hc⟩
          exact hK.out _ w1 (ifn (by decide) (hC.trans (hc.mono hC.size))) (fun j t _ h => mvB_any j t h) rfl
        · intro T W hT hs hC hF K hK
          obtain ⟨t0, t1, t2, t3, t4, t5, t6, t7, t8, t9, t10, t11, t12, t13, t14, t15, t16, t17, t18, t19, t20, t21, t22, t23, t24, t25, t26, t27, t28, t29, t30, t31, t32, t33, t34, t35, t36, t37, t38, t39, t40, t41, t42, t43, t44, t45, t46, t47, t48, t49, t50, t51, t52, t53, t54, t55, t56, t57, t58, t59, t60, t61, rfl⟩ := arr62 T hT
          obtain rfl : t0 = .pointer (some ⟨b, k * 4, none⟩) := hs 0 (by decide)
          obtain rfl : t5 = .pointer (some ⟨r5, 0, none⟩) := hs 5 (by decide)
          obtain rfl : t37 = .pointer (some ⟨b, k * 4, none⟩) := hF 0 (by decide)
          clear hF hs hT
          go_simp
          exact hK.out _ W (ifn (by decide) hC) (fun _ _ _ h => h) rfl
        · intro T W hT hs hC hF K hK
          obtain ⟨t0, t1, t2, t3, t4, t5, t6, t7, t8, t9, t10, t11, t12, t13, t14, t15, t16, t17, t18, t19, t20, t21, t22, t23, t24, t25, t26, t27, t28, t29, t30, t31, t32, t33, t34, t35, t36, t37, t38, t39, t40, t41, t42, t43, t44, t45, t46, t47, t48, t49, t50, t51, t52, t53, t54, t55, t56, t57, t58, t59, t60, t61, rfl⟩ := arr62 T hT
          obtain rfl : t0 = .pointer (some ⟨b, k * 4, none⟩) := hs 0 (by decide)
          obtain rfl : t5 = .pointer (some ⟨r5, 0, none⟩) := hs 5 (by decide)
          obtain rfl : t48 = .pointer (some ⟨b, k * 4, none⟩) := hF 11 (by decide)
          clear hF hs hT
          go_simp
          exact hK.out _ W (ifn (by decide) hC) (fun _ _ _ h => h) rfl
        · intro T W hT hs hC hF K hK
          obtain ⟨t0, t1, t2, t3, t4, t5, t6, t7, t8, t9, t10, t11, t12, t13, t14, t15, t16, t17, t18, t19, t20, t21, t22, t23, t24, t25, t26, t27, t28, t29, t30, t31, t32, t33, t34, t35, t36, t37, t38, t39, t40, t41, t42, t43, t44, t45, t46, t47, t48, t49, t50, t51, t52, t53, t54, t55, t56, t57, t58, t59, t60, t61, rfl⟩ := arr62 T hT
          obtain rfl : t0 = .pointer (some ⟨b, k * 4, none⟩) := hs 0 (by decide)
          obtain rfl : t5 = .pointer (some ⟨r5, 0, none⟩) := hs 5 (by decide)
          obtain rfl : t49 = .pointer (some ⟨b, k * 4 + 1, none⟩) := hF 12 (by decide)
          obtain rfl : t47 = .int .i64 y2 := hF 10 (by decide)
          clear hF hs hT
          have hcs := HK1.out W hC
          obtain ⟨y0, y1, y2, y3⟩ := hcs
          have yz := HZ1.out W hC
          go_simp
          exact hK.out undef _ (ifp ⟨W, hC, rfl⟩) (fun j t _ h => mvB_any j t h) trivial
      · intro T W hT hs hC hF
        obtain ⟨t0, t1, t2, t3, t4, t5, t6, t7, t8, t9, t10, t11, t12, t13, t14, t15, t16, t17, t18, t19, t20, t21, t22, t23, t24, t25, t26, t27, t28, t29, t30, t31, t32, t33, t34, t35, t36, t37, t38, t39, t40, t41, t42, t43, t44, t45, t46, t47, t48, t49, t50, t51, t52, t53, t54, t55, t56, t57, t58, t59, t60, t61, rfl⟩ := arr62 T hT
        obtain rfl : t0 = .pointer (some ⟨b, k * 4, none⟩) := hs 0 (by decide)
        obtain rfl : t5 = .pointer (some ⟨r5, 0, none⟩) := hs 5 (by decide)
        obtain ⟨Wb, hCb, rfl⟩ := hC
        have Ob := OwnChannel.stepB OU.out hCb
        have Bb := BU.out.step hCb
        obtain ⟨Y, hY⟩ : ∃ Y, Y = Wb.setCell ⟨b, k * 4 + 1, none⟩ (.int .i64 y2) := ⟨_, rfl⟩
        have OY0 : OwnChannel Y lo hi (some ⟨b, 0, none⟩) ((rs.set k (y1, x2, x3, x4)).set k (y1, y2, x3, x4)) := by rw [hY]; exact Ob.set1 k hkU.out hxU.out 1 (by decide) (.int .i64 y2) (y1, y2, x3, x4) rfl
        rw [List.set_set] at OY0
        have OY := Lib.hid OY0
        have BY : Hid (BusAt Y a.R a.g a.b0 a.b1 a.b2 a.b3 a.A0 a.A1 a.c0 a.c1 m2.r m2.i m2.z m2.g m2.s) := Lib.hid (by rw [hY]; exact Bb.setCh Ob HneU.out _ _)
        have KY : Hid (KeepsCh w Y) := Lib.hid (by rw [hY]; exact (KU.out.trans (KeepsCh.below hCb)).trans (KeepsCh.set Ob HneU.out _ _))
        have hbY : Below a.R w Y := by rw [hY]; exact (hbU.trans (hCb.mono (by have := HR.out; have := hbU.size; omega))).setCell (p := ⟨b, k * 4 + 1, none⟩) HLo.out.1 _
        have hkY := Lib.hid (show k < (rs.set k (y1, y2, x3, x4)).length by rw [List.length_set]; exact hkh.out)
        have hxY := Lib.hid (set_set_getD rs k (y1, y2, x3, x4) hkh.out)
        have HneY : Hid (rs.set k (y1, y2, x3, x4) ≠ []) := Lib.hid (by intro e; have := hkY.out; rw [e] at this; simp at this)
        rw [← hY]
        clear hY hF hs hT OY0 Ob Bb hCb OU BU XU KU hbU HAf1 HK1 HZ1
        obtain ⟨⟨g0, g1, g2, g3⟩, gz, _, _⟩ := OY.out.open4 k hkY.out hxY.out
        have gz2 := gz (k * 4 + 2)
        go_wp2
        go_ret
        have OF := OY.out.set1 k hkY.out hxY.out 2 (by decide) (.int .i64 (x3 - 1)) (y1, y2, x3 - 1, x4) rfl
        rw [List.set_set] at OF
        rw [HE.out.1, HE.out.2.1, HE.out.2.2]
        exact ⟨rfl, Lib.hid (BY.out.setCh OY.out HneY.out _ _), Lib.hid OF, Lib.hid (KY.out.trans (KeepsCh.set OY.out HneY.out _ _)), hbY.setCell (p := ⟨b, k * 4 + 2, none⟩) HLo.out.1 _⟩
end Go.Proofs.Ytngoijchebfolaa
