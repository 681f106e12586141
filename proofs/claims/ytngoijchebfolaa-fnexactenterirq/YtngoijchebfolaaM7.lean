/- Texts of this claim, one behind the other: CpuSpec2, EirqS, Proc, ProcM. -/
import Derived.BigQuiet
import Derived.Deep.QuietTactic
import Derived.Deep.RegionHeld3
import Derived.Test.YtngoijchebfolaaM6
/- The model's processor: flags, an interrupt, its own registers. Written by gen_cpuspec2.py. -/
namespace Go.Proofs.Ytngoijchebfolaa
open Go.RowKit

theorem bitI_range (b : Bool) : 0 ≤ bitI b ∧ bitI b ≤ 1 := by cases b <;> decide
set_option maxRecDepth 100000 in
theorem l01BitI (q : Bool) (w : World) : Calls Try.prog 119 #[.bool q] w fun e w' => e = .returned (.int .i64 (bitI q)) ∧ w = w' := l01Bit q w

set_option maxRecDepth 100000 in
set_option maxHeartbeats 4000000 in
theorem l08FlagsS (A : Option Addr) (c : Nat) (d : CD) (w : World) (hd : d.Ok) :
    Calls Try.prog 98 #[.agg #[.int .i64 d.pc, .int .i64 d.sp, .int .i64 d.bank, .int .i64 d.level, .bool d.zero, .bool d.carry, .bool d.on, .bool d.halt, .slice A 16 c]] w fun e w' => e = .returned (.int .i64 d.flags) ∧ Below w.heap.size w w' := by
  obtain ⟨W1, hW1⟩ : ∃ W1, W1 = (w.alloc (.cells #[.int .i64 d.pc, .int .i64 d.sp, .int .i64 d.bank, .int .i64 d.level, .bool d.zero, .bool d.carry, .bool d.on, .bool d.halt, .slice A 16 c] 50)) := ⟨_, rfl⟩
  have hb0 : Below w.heap.size w W1 := by rw [hW1]; exact ((Below.refl _ _).alloc (Nat.le_refl _) _)
  have Z2 : Hid (W1.heap.size = w.heap.size + 1) := Lib.hid (by rw [hW1]; simp)
  have X3 : Hid (Box W1 (w.heap.size) 50 #[.int .i64 d.pc, .int .i64 d.sp, .int .i64 d.bank, .int .i64 d.level, .bool d.zero, .bool d.carry, .bool d.on, .bool d.halt, .slice A 16 c]) := Lib.hid (by rw [hW1]; exact (Box.new w 50 #[.int .i64 d.pc, .int .i64 d.sp, .int .i64 d.bank, .int .i64 d.level, .bool d.zero, .bool d.carry, .bool d.on, .bool d.halt, .slice A 16 c]))
  have HW0 := Lib.hid hW1
  clear hW1
  have h1 := hd.bank
  have h2 := hd.level
  have q1 := bitI_range d.zero
  have q2 := bitI_range d.carry
  have q3 := bitI_range d.on
  have HF : Hid (d.flags = d.level + 8 * d.bank + 32 * bitI d.zero + 64 * bitI d.carry + 128 * bitI d.on) := Lib.hid rfl
  have B1 := Lib.hid (fun W => l01BitI d.zero W)
  have B2 := Lib.hid (fun W => l01BitI d.carry W)
  have B3 := Lib.hid (fun W => l01BitI d.on W)
  generalize d.flags = f at HF ⊢
  generalize bitI d.zero = x at HF B1 q1
  generalize bitI d.carry = y at HF B2 q2
  generalize bitI d.on = z at HF B3 q3
  obtain ⟨q11, q12⟩ := q1
  obtain ⟨q21, q22⟩ := q2
  obtain ⟨q31, q32⟩ := q3
  obtain ⟨h11, h12⟩ := h1
  obtain ⟨h21, h22⟩ := h2
  clear hd
  have f4 := X3.out.cell 0 rfl
  have f5 := X3.out.cell 1 rfl
  have f6 := X3.out.cell 2 rfl
  have f7 := X3.out.cell 3 rfl
  have f8 := X3.out.cell 4 rfl
  have f9 := X3.out.cell 5 rfl
  have f10 := X3.out.cell 6 rfl
  have f11 := X3.out.cell 7 rfl
  have f12 := X3.out.cell 8 rfl
  rw [HW0.out] at f4 f5 f6 f7 f8 f9 f10 f11 f12
  have hb1 := hb0.drew
  have Hb := Lib.hid hb0
  clear hb0
  go_enter Try.func98, Try.ntmps98
  go_wp2
  go_quiet (first | (go_at_call 119; first | exact quiet_same' (B1.out _) | exact quiet_same' (B2.out _) | exact quiet_same' (B3.out _)))
  go_wp2
  go_ret
  rw [HF.out]
  rw [← HW0.out]
  exact ⟨rfl, below_drewN Hb.out _⟩
theorem arr34 (T : Array Value) (h : T.size = 34) : ∃ t0 t1 t2 t3 t4 t5 t6 t7 t8 t9 t10 t11 t12 t13 t14 t15 t16 t17 t18 t19 t20 t21 t22 t23 t24 t25 t26 t27 t28 t29 t30 t31 t32 t33 : Value, T = #[t0, t1, t2, t3, t4, t5, t6, t7, t8, t9, t10, t11, t12, t13, t14, t15, t16, t17, t18, t19, t20, t21, t22, t23, t24, t25, t26, t27, t28, t29, t30, t31, t32, t33] := by
  obtain ⟨l⟩ := T
  match l, h with
  | t0 :: t1 :: t2 :: t3 :: t4 :: t5 :: t6 :: t7 :: t8 :: t9 :: t10 :: t11 :: t12 :: t13 :: t14 :: t15 :: t16 :: t17 :: t18 :: t19 :: t20 :: t21 :: t22 :: t23 :: t24 :: t25 :: t26 :: t27 :: t28 :: t29 :: t30 :: t31 :: t32 :: t33 :: [], _ => exact ⟨t0, t1, t2, t3, t4, t5, t6, t7, t8, t9, t10, t11, t12, t13, t14, t15, t16, t17, t18, t19, t20, t21, t22, t23, t24, t25, t26, t27, t28, t29, t30, t31, t32, t33, rfl⟩

set_option maxRecDepth 100000 in
set_option maxHeartbeats 4000000 in
theorem l08Enter (A : Option Addr) (c : Nat) (d : CD) (A0 A1 A2 A3 : Option Addr) (c0 c1 c2 c3 : Nat) (m : MD) (w : World) (line level : Int) (hl : 0 ≤ line ∧ line ≤ 7) (hv : 0 ≤ level ∧ level ≤ 7) (hc : RepC w A d) (hm : RepM w A0 A1 A2 A3 m) :
    Calls Try.prog 59 #[.agg #[.int .i64 d.pc, .int .i64 d.sp, .int .i64 d.bank, .int .i64 d.level, .bool d.zero, .bool d.carry, .bool d.on, .bool d.halt, .slice A 16 c], .agg #[.slice A0 256 c0, .slice A1 32 c1, .slice A2 256 c2, .slice A3 16 c3, .int .i64 m.s], .int .i64 line, .int .i64 level] w (ReadsCM (enterD d line level) (enterM d m) w) := by
  obtain ⟨W1, hW1⟩ : ∃ W1, W1 = ((((w.alloc (.cells #[.int .i64 d.pc, .int .i64 d.sp, .int .i64 d.bank, .int .i64 d.level, .bool d.zero, .bool d.carry, .bool d.on, .bool d.halt, .slice A 16 c] 50)).alloc (.cells #[.slice A0 256 c0, .slice A1 32 c1, .slice A2 256 c2, .slice A3 16 c3, .int .i64 m.s] 28)).alloc (.cells #[.int .i64 0, .int .i64 0, .int .i64 0, .int .i64 0, .bool false, .bool false, .bool false, .bool false, .slice none 0 0] 50)).alloc (.cells #[.slice none 0 0, .slice none 0 0, .slice none 0 0, .slice none 0 0, .int .i64 0] 28)) := ⟨_, rfl⟩
  have hb0 : Below w.heap.size w W1 := by rw [hW1]; exact (((((Below.refl _ _).alloc (Nat.le_refl _) _).alloc (by simp; try omega) _).alloc (by simp; try omega) _).alloc (by simp; try omega) _)
  have Z2 : Hid (W1.heap.size = w.heap.size + 4) := Lib.hid (by rw [hW1]; simp)
  have X3 : Hid (Box W1 (w.heap.size) 50 #[.int .i64 d.pc, .int .i64 d.sp, .int .i64 d.bank, .int .i64 d.level, .bool d.zero, .bool d.carry, .bool d.on, .bool d.halt, .slice A 16 c]) := Lib.hid (by rw [hW1]; exact ((((Box.new w 50 #[.int .i64 d.pc, .int .i64 d.sp, .int .i64 d.bank, .int .i64 d.level, .bool d.zero, .bool d.carry, .bool d.on, .bool d.halt, .slice A 16 c]).alloc _).alloc _).alloc _))
  have X4 : Hid (Box W1 (w.heap.size + 1) 28 #[.slice A0 256 c0, .slice A1 32 c1, .slice A2 256 c2, .slice A3 16 c3, .int .i64 m.s]) := Lib.hid (by rw [hW1]; simpa using (((Box.new (w.alloc (.cells #[.int .i64 d.pc, .int .i64 d.sp, .int .i64 d.bank, .int .i64 d.level, .bool d.zero, .bool d.carry, .bool d.on, .bool d.halt, .slice A 16 c] 50)) 28 #[.slice A0 256 c0, .slice A1 32 c1, .slice A2 256 c2, .slice A3 16 c3, .int .i64 m.s]).alloc _).alloc _))
  have X5 : Hid (Box W1 (w.heap.size + 2) 50 #[.int .i64 0, .int .i64 0, .int .i64 0, .int .i64 0, .bool false, .bool false, .bool false, .bool false, .slice none 0 0]) := Lib.hid (by rw [hW1]; simpa using ((Box.new ((w.alloc (.cells #[.int .i64 d.pc, .int .i64 d.sp, .int .i64 d.bank, .int .i64 d.level, .bool d.zero, .bool d.carry, .bool d.on, .bool d.halt, .slice A 16 c] 50)).alloc (.cells #[.slice A0 256 c0, .slice A1 32 c1, .slice A2 256 c2, .slice A3 16 c3, .int .i64 m.s] 28)) 50 #[.int .i64 0, .int .i64 0, .int .i64 0, .int .i64 0, .bool false, .bool false, .bool false, .bool false, .slice none 0 0]).alloc _))
  have X6 : Hid (Box W1 (w.heap.size + 3) 28 #[.slice none 0 0, .slice none 0 0, .slice none 0 0, .slice none 0 0, .int .i64 0]) := Lib.hid (by rw [hW1]; simpa using (Box.new (((w.alloc (.cells #[.int .i64 d.pc, .int .i64 d.sp, .int .i64 d.bank, .int .i64 d.level, .bool d.zero, .bool d.carry, .bool d.on, .bool d.halt, .slice A 16 c] 50)).alloc (.cells #[.slice A0 256 c0, .slice A1 32 c1, .slice A2 256 c2, .slice A3 16 c3, .int .i64 m.s] 28)).alloc (.cells #[.int .i64 0, .int .i64 0, .int .i64 0, .int .i64 0, .bool false, .bool false, .bool false, .bool false, .slice none 0 0] 50)) 28 #[.slice none 0 0, .slice none 0 0, .slice none 0 0, .slice none 0 0, .int .i64 0]))
  have F7 : Hid (RepC W1 A d) := Lib.hid (hc.below hb0)
  have F8 : Hid (RepM W1 A0 A1 A2 A3 m) := Lib.hid (hm.below hb0)
  have HW0 := Lib.hid hW1
  clear hW1
  have hO := hc.1
  have hN := hm.1
  have hO0 : ({ d with halt := false } : CD).Ok := ⟨hO.pc, hO.sp, hO.bank, hO.level, hO.len, hO.regs⟩
  have HFl := Lib.hid (fun W => l08FlagsS A c d W hO)
  have HCa := Lib.hid (fun W (q : RepC W A d) (r : RepM W A0 A1 A2 A3 m) => l08Call A c { d with halt := false } A0 A1 A2 A3 c0 c1 c2 c3 m W (704 + 4 * line) (by omega) (by omega) ⟨hO0, q.2⟩ r)
  have HM0 : Hid (callM { d with halt := false } m = callM d m) := Lib.hid rfl
  rw [HM0.out] at HCa
  have HPu := Lib.hid (fun Aa ca Ab Ac Ad Ae cb cc cd ce W (q : RepC W Aa (callD { d with halt := false } (704 + 4 * line))) (r : RepM W Ab Ac Ad Ae (callM d m)) => l08Push Aa ca (callD { d with halt := false } (704 + 4 * line)) Ab Ac Ad Ae cb cc cd ce (callM d m) W d.flags hO.flags q r)
  unfold ReadsCM at HCa HPu
  have HD : Hid (enterD d line level = { (callD { d with halt := false } (704 + 4 * line)).down with level := level }) := Lib.hid rfl
  have HM : Hid (enterM d m = (callM d m).put (callD { d with halt := false } (704 + 4 * line)).sp d.flags) := Lib.hid rfl
  have HOk := Lib.hid (CD.Ok.enter hO hl hv)
  rw [HD.out] at HOk
  rw [HD.out, HM.out]
  clear HD HM HM0
  generalize callM d m = m1 at HCa HPu ⊢
  generalize callD { d with halt := false } (704 + 4 * line) = d1 at HCa HPu HOk ⊢
  generalize d.flags = fl at HFl HPu ⊢
  generalize m1.put d1.sp fl = m2 at HPu ⊢
  generalize d1.down = d2 at HPu HOk ⊢
  have hl0 := hl.1
  have hl1 := hl.2
  clear hc hm hO hN hO0 hl hv
  have f9 := X3.out.cell 0 rfl
  have f10 := X3.out.cell 1 rfl
  have f11 := X3.out.cell 2 rfl
  have f12 := X3.out.cell 3 rfl
  have f13 := X3.out.cell 4 rfl
  have f14 := X3.out.cell 5 rfl
  have f15 := X3.out.cell 6 rfl
  have f16 := X3.out.cell 7 rfl
  have f17 := X3.out.cell 8 rfl
  have f18 := X4.out.cell 0 rfl
  have f19 := X4.out.cell 1 rfl
  have f20 := X4.out.cell 2 rfl
  have f21 := X4.out.cell 3 rfl
  have f22 := X4.out.cell 4 rfl
  rw [HW0.out] at f9 f10 f11 f12 f13 f14 f15 f16 f17 f18 f19 f20 f21 f22
  go_enter Try.func59, Try.ntmps59
  go_wp2_with fail
  rw [← HW0.out]
  rw [← HW0.out] at f9 f10 f11 f12 f13 f14 f15 f16 f17 f18 f19 f20 f21 f22
  clear f9 f10 f11 f12 f13 f14 f15 f16 f17 f18 f19 f20 f21 f22
  refine (HFl.out _).mono ?_
  rintro e w1 ⟨rfl, hq0⟩
  have X23 := Lib.hid (X3.out.step hq0)
  have X24 := Lib.hid (X4.out.step hq0)
  have X25 := Lib.hid (X5.out.step hq0)
  have X26 := Lib.hid (X6.out.step hq0)
  have F27 := Lib.hid (F7.out.below hq0)
  have F28 := Lib.hid (F8.out.below hq0)
  have hb29 := bt hb0 hq0
  have Z30 : Hid (W1.heap.size ≤ w1.heap.size) := Lib.hid hq0.size
  clear X3 X4 X5 X6 F7 F8 hb0 hq0
  clear HFl
  have f31 := X23.out.cell 0 rfl
  have f32 := X23.out.cell 1 rfl
  have f33 := X23.out.cell 2 rfl
  have f34 := X23.out.cell 3 rfl
  have f35 := X23.out.cell 4 rfl
  have f36 := X23.out.cell 5 rfl
  have f37 := X23.out.cell 6 rfl
  have f38 := X23.out.cell 7 rfl
  have f39 := X23.out.cell 8 rfl
  have f40 := X24.out.cell 0 rfl
  have f41 := X24.out.cell 1 rfl
  have f42 := X24.out.cell 2 rfl
  have f43 := X24.out.cell 3 rfl
  have f44 := X24.out.cell 4 rfl
  have z45 := X23.out.frozen 0
  have z46 := X23.out.frozen 1
  have z47 := X23.out.frozen 2
  have z48 := X23.out.frozen 3
  have z49 := X23.out.frozen 4
  have z50 := X23.out.frozen 5
  have z51 := X23.out.frozen 6
  have z52 := X23.out.frozen 7
  have z53 := X23.out.frozen 8
  go_wp2_with fail
  obtain ⟨W54, hW54⟩ : ∃ W54, W54 = (w1.setCell ⟨w.heap.size, 7, none⟩ (.bool false)) := ⟨_, rfl⟩
  have hB55 : Btw (w.heap.size) (w.heap.size + 1) w1 W54 := by rw [hW54]; exact ((Btw.refl _ _ _).setCell (p := ⟨w.heap.size, 7, none⟩) (Nat.le_refl _) (Nat.lt_succ_self _) _)
  have X56 : Hid (Box W54 (w.heap.size) 50 #[.int .i64 d.pc, .int .i64 d.sp, .int .i64 d.bank, .int .i64 d.level, .bool d.zero, .bool d.carry, .bool d.on, .bool false, .slice A 16 c]) := Lib.hid (by rw [hW54]; exact (X23.out.set 7 _))
  have X57 := Lib.hid (X24.out.btw hB55 (by have := Z2.out; have := Z30.out; omega))
  have X58 := Lib.hid (X25.out.btw hB55 (by have := Z2.out; have := Z30.out; omega))
  have X59 := Lib.hid (X26.out.btw hB55 (by have := Z2.out; have := Z30.out; omega))
  have F60 := Lib.hid (F27.out.off X23.out (by simp) hB55)
  have F61 := Lib.hid (F28.out.off X23.out (by simp) hB55)
  have hb62 := Btw.lowSize hB55 hb29 (Nat.le_of_lt X23.out.lt) (by have := Z2.out; have := Z30.out; omega)
  have Z63 : Hid (w1.heap.size ≤ W54.heap.size) := Lib.hid hB55.size
  rw [← hW54]
  clear hW54 hB55 X23 X24 X25 X26 F27 F28 hb29
  clear f31 f32 f33 f34 f35 f36 f37 f38 f39 f40 f41 f42 f43 f44 z45 z46 z47 z48 z49 z50 z51 z52 z53
  refine (HCa.out _ F60.out F61.out).mono ?_
  rintro e w2 ⟨A1, c1, B10, B11, B12, B13, e10, e11, e12, e13, rfl, NC1, NM1, hq1⟩
  have X64 := Lib.hid (X56.out.step hq1)
  have X65 := Lib.hid (X57.out.step hq1)
  have X66 := Lib.hid (X58.out.step hq1)
  have X67 := Lib.hid (X59.out.step hq1)
  have F68 := Lib.hid (F60.out.below hq1)
  have F69 := Lib.hid (F61.out.below hq1)
  have hb70 := bt hb62 hq1
  have Z71 : Hid (W54.heap.size ≤ w2.heap.size) := Lib.hid hq1.size
  clear X56 X57 X58 X59 F60 F61 hb62 hq1
  clear F68 F69
  clear HCa
  have f72 := X64.out.cell 0 rfl
  have f73 := X64.out.cell 1 rfl
  have f74 := X64.out.cell 2 rfl
  have f75 := X64.out.cell 3 rfl
  have f76 := X64.out.cell 4 rfl
  have f77 := X64.out.cell 5 rfl
  have f78 := X64.out.cell 6 rfl
  have f79 := X64.out.cell 7 rfl
  have f80 := X64.out.cell 8 rfl
  have f81 := X65.out.cell 0 rfl
  have f82 := X65.out.cell 1 rfl
  have f83 := X65.out.cell 2 rfl
  have f84 := X65.out.cell 3 rfl
  have f85 := X65.out.cell 4 rfl
  have z86 := X64.out.frozen 0
  have z87 := X64.out.frozen 1
  have z88 := X64.out.frozen 2
  have z89 := X64.out.frozen 3
  have z90 := X64.out.frozen 4
  have z91 := X64.out.frozen 5
  have z92 := X64.out.frozen 6
  have z93 := X64.out.frozen 7
  have z94 := X64.out.frozen 8
  have z95 := X65.out.frozen 0
  have z96 := X65.out.frozen 1
  have z97 := X65.out.frozen 2
  have z98 := X65.out.frozen 3
  have z99 := X65.out.frozen 4
  go_wp2_with fail
  obtain ⟨W100, hW100⟩ : ∃ W100, W100 = (((((((((w2.setCell ⟨w.heap.size, 0, none⟩ (.int .i64 d1.pc)).setCell ⟨w.heap.size, 1, none⟩ (.int .i64 d1.sp)).setCell ⟨w.heap.size, 2, none⟩ (.int .i64 d1.bank)).setCell ⟨w.heap.size, 3, none⟩ (.int .i64 d1.level)).setCell ⟨w.heap.size, 4, none⟩ (.bool d1.zero)).setCell ⟨w.heap.size, 5, none⟩ (.bool d1.carry)).setCell ⟨w.heap.size, 6, none⟩ (.bool d1.on)).setCell ⟨w.heap.size, 7, none⟩ (.bool d1.halt)).setCell ⟨w.heap.size, 8, none⟩ (.slice A1 16 c1)) := ⟨_, rfl⟩
  have hB101 : Btw (w.heap.size) (w.heap.size + 1) w2 W100 := by rw [hW100]; exact ((((((((((Btw.refl _ _ _).setCell (p := ⟨w.heap.size, 0, none⟩) (Nat.le_refl _) (Nat.lt_succ_self _) _).setCell (p := ⟨w.heap.size, 1, none⟩) (Nat.le_refl _) (Nat.lt_succ_self _) _).setCell (p := ⟨w.heap.size, 2, none⟩) (Nat.le_refl _) (Nat.lt_succ_self _) _).setCell (p := ⟨w.heap.size, 3, none⟩) (Nat.le_refl _) (Nat.lt_succ_self _) _).setCell (p := ⟨w.heap.size, 4, none⟩) (Nat.le_refl _) (Nat.lt_succ_self _) _).setCell (p := ⟨w.heap.size, 5, none⟩) (Nat.le_refl _) (Nat.lt_succ_self _) _).setCell (p := ⟨w.heap.size, 6, none⟩) (Nat.le_refl _) (Nat.lt_succ_self _) _).setCell (p := ⟨w.heap.size, 7, none⟩) (Nat.le_refl _) (Nat.lt_succ_self _) _).setCell (p := ⟨w.heap.size, 8, none⟩) (Nat.le_refl _) (Nat.lt_succ_self _) _)
  have X102 : Hid (Box W100 (w.heap.size) 50 #[.int .i64 d1.pc, .int .i64 d1.sp, .int .i64 d1.bank, .int .i64 d1.level, .bool d1.zero, .bool d1.carry, .bool d1.on, .bool d1.halt, .slice A1 16 c1]) := Lib.hid (by rw [hW100]; exact (X64.out.allN9 rfl _ _ _ _ _ _ _ _ _))
  have X103 := Lib.hid (X65.out.btw hB101 (by have := Z2.out; have := Z30.out; have := Z63.out; have := Z71.out; omega))
  have X104 := Lib.hid (X66.out.btw hB101 (by have := Z2.out; have := Z30.out; have := Z63.out; have := Z71.out; omega))
  have X105 := Lib.hid (X67.out.btw hB101 (by have := Z2.out; have := Z30.out; have := Z63.out; have := Z71.out; omega))
  have F106 := Lib.hid (NC1.out.off X64.out (by simp) hB101)
  have F107 := Lib.hid (NM1.out.off X64.out (by simp) hB101)
  have hb108 := Btw.lowSize hB101 hb70 (Nat.le_of_lt X64.out.lt) (by have := Z2.out; have := Z30.out; have := Z63.out; have := Z71.out; omega)
  have Z109 : Hid (w2.heap.size ≤ W100.heap.size) := Lib.hid hB101.size
  rw [← hW100]
  clear hW100 hB101 X64 X65 X66 X67 NC1 NM1 hb70
  obtain ⟨W110, hW110⟩ : ∃ W110, W110 = (((((W100.setCell ⟨w.heap.size + 1, 0, none⟩ (.slice B10 256 e10)).setCell ⟨w.heap.size + 1, 1, none⟩ (.slice B11 32 e11)).setCell ⟨w.heap.size + 1, 2, none⟩ (.slice B12 256 e12)).setCell ⟨w.heap.size + 1, 3, none⟩ (.slice B13 16 e13)).setCell ⟨w.heap.size + 1, 4, none⟩ (.int .i64 m1.s)) := ⟨_, rfl⟩
  have hB111 : Btw (w.heap.size + 1) (w.heap.size + 1 + 1) W100 W110 := by rw [hW110]; exact ((((((Btw.refl _ _ _).setCell (p := ⟨w.heap.size + 1, 0, none⟩) (Nat.le_refl _) (Nat.lt_succ_self _) _).setCell (p := ⟨w.heap.size + 1, 1, none⟩) (Nat.le_refl _) (Nat.lt_succ_self _) _).setCell (p := ⟨w.heap.size + 1, 2, none⟩) (Nat.le_refl _) (Nat.lt_succ_self _) _).setCell (p := ⟨w.heap.size + 1, 3, none⟩) (Nat.le_refl _) (Nat.lt_succ_self _) _).setCell (p := ⟨w.heap.size + 1, 4, none⟩) (Nat.le_refl _) (Nat.lt_succ_self _) _)
  have X112 : Hid (Box W110 (w.heap.size + 1) 28 #[.slice B10 256 e10, .slice B11 32 e11, .slice B12 256 e12, .slice B13 16 e13, .int .i64 m1.s]) := Lib.hid (by rw [hW110]; exact (X103.out.allN5 rfl _ _ _ _ _))
  have X113 := Lib.hid (X102.out.btw hB111 (by have := Z2.out; have := Z30.out; have := Z63.out; have := Z71.out; have := Z109.out; omega))
  have X114 := Lib.hid (X104.out.btw hB111 (by have := Z2.out; have := Z30.out; have := Z63.out; have := Z71.out; have := Z109.out; omega))
  have X115 := Lib.hid (X105.out.btw hB111 (by have := Z2.out; have := Z30.out; have := Z63.out; have := Z71.out; have := Z109.out; omega))
  have F116 := Lib.hid (F106.out.off X103.out (by simp) hB111)
  have F117 := Lib.hid (F107.out.off X103.out (by simp) hB111)
  have hb118 := Btw.lowSize hB111 hb108 (Nat.le_of_lt X103.out.lt) (by have := Z2.out; have := Z30.out; have := Z63.out; have := Z71.out; have := Z109.out; omega)
  have Z119 : Hid (W100.heap.size ≤ W110.heap.size) := Lib.hid hB111.size
  rw [← hW110]
  clear hW110 hB111 X103 X102 X104 X105 F106 F107 hb108
  clear f72 f73 f74 f75 f76 f77 f78 f79 f80 f81 f82 f83 f84 f85 z86 z87 z88 z89 z90 z91 z92 z93 z94 z95 z96 z97 z98 z99
  refine (HPu.out _ _ _ _ _ _ _ _ _ _ _ F116.out F117.out).mono ?_
  rintro e w3 ⟨A2, c2, B20, B21, B22, B23, e20, e21, e22, e23, rfl, NC2, NM2, hq2⟩
  have X120 := Lib.hid (X113.out.step hq2)
  have X121 := Lib.hid (X112.out.step hq2)
  have X122 := Lib.hid (X114.out.step hq2)
  have X123 := Lib.hid (X115.out.step hq2)
  have F124 := Lib.hid (F116.out.below hq2)
  have F125 := Lib.hid (F117.out.below hq2)
  have hb126 := bt hb118 hq2
  have Z127 : Hid (W110.heap.size ≤ w3.heap.size) := Lib.hid hq2.size
  clear X113 X112 X114 X115 F116 F117 hb118 hq2
  clear F124 F125
  clear HPu
  have f128 := X120.out.cell 0 rfl
  have f129 := X120.out.cell 1 rfl
  have f130 := X120.out.cell 2 rfl
  have f131 := X120.out.cell 3 rfl
  have f132 := X120.out.cell 4 rfl
  have f133 := X120.out.cell 5 rfl
  have f134 := X120.out.cell 6 rfl
  have f135 := X120.out.cell 7 rfl
  have f136 := X120.out.cell 8 rfl
  have f137 := X121.out.cell 0 rfl
  have f138 := X121.out.cell 1 rfl
  have f139 := X121.out.cell 2 rfl
  have f140 := X121.out.cell 3 rfl
  have f141 := X121.out.cell 4 rfl
  have f142 := X122.out.cell 0 rfl
  have f143 := X122.out.cell 1 rfl
  have f144 := X122.out.cell 2 rfl
  have f145 := X122.out.cell 3 rfl
  have f146 := X122.out.cell 4 rfl
  have f147 := X122.out.cell 5 rfl
  have f148 := X122.out.cell 6 rfl
  have f149 := X122.out.cell 7 rfl
  have f150 := X122.out.cell 8 rfl
  have f151 := X123.out.cell 0 rfl
  have f152 := X123.out.cell 1 rfl
  have f153 := X123.out.cell 2 rfl
  have f154 := X123.out.cell 3 rfl
  have f155 := X123.out.cell 4 rfl
  have z156 := X120.out.frozen 0
  have z157 := X120.out.frozen 1
  have z158 := X120.out.frozen 2
  have z159 := X120.out.frozen 3
  have z160 := X120.out.frozen 4
  have z161 := X120.out.frozen 5
  have z162 := X120.out.frozen 6
  have z163 := X120.out.frozen 7
  have z164 := X120.out.frozen 8
  have z165 := X121.out.frozen 0
  have z166 := X121.out.frozen 1
  have z167 := X121.out.frozen 2
  have z168 := X121.out.frozen 3
  have z169 := X121.out.frozen 4
  go_wp2
  obtain ⟨W170, hW170⟩ : ∃ W170, W170 = (((((((((w3.setCell ⟨w.heap.size, 0, none⟩ (.int .i64 d2.pc)).setCell ⟨w.heap.size, 1, none⟩ (.int .i64 d2.sp)).setCell ⟨w.heap.size, 2, none⟩ (.int .i64 d2.bank)).setCell ⟨w.heap.size, 3, none⟩ (.int .i64 d2.level)).setCell ⟨w.heap.size, 4, none⟩ (.bool d2.zero)).setCell ⟨w.heap.size, 5, none⟩ (.bool d2.carry)).setCell ⟨w.heap.size, 6, none⟩ (.bool d2.on)).setCell ⟨w.heap.size, 7, none⟩ (.bool d2.halt)).setCell ⟨w.heap.size, 8, none⟩ (.slice A2 16 c2)) := ⟨_, rfl⟩
  have hB171 : Btw (w.heap.size) (w.heap.size + 1) w3 W170 := by rw [hW170]; exact ((((((((((Btw.refl _ _ _).setCell (p := ⟨w.heap.size, 0, none⟩) (Nat.le_refl _) (Nat.lt_succ_self _) _).setCell (p := ⟨w.heap.size, 1, none⟩) (Nat.le_refl _) (Nat.lt_succ_self _) _).setCell (p := ⟨w.heap.size, 2, none⟩) (Nat.le_refl _) (Nat.lt_succ_self _) _).setCell (p := ⟨w.heap.size, 3, none⟩) (Nat.le_refl _) (Nat.lt_succ_self _) _).setCell (p := ⟨w.heap.size, 4, none⟩) (Nat.le_refl _) (Nat.lt_succ_self _) _).setCell (p := ⟨w.heap.size, 5, none⟩) (Nat.le_refl _) (Nat.lt_succ_self _) _).setCell (p := ⟨w.heap.size, 6, none⟩) (Nat.le_refl _) (Nat.lt_succ_self _) _).setCell (p := ⟨w.heap.size, 7, none⟩) (Nat.le_refl _) (Nat.lt_succ_self _) _).setCell (p := ⟨w.heap.size, 8, none⟩) (Nat.le_refl _) (Nat.lt_succ_self _) _)
  have X172 : Hid (Box W170 (w.heap.size) 50 #[.int .i64 d2.pc, .int .i64 d2.sp, .int .i64 d2.bank, .int .i64 d2.level, .bool d2.zero, .bool d2.carry, .bool d2.on, .bool d2.halt, .slice A2 16 c2]) := Lib.hid (by rw [hW170]; exact (X120.out.allN9 rfl _ _ _ _ _ _ _ _ _))
  have X173 := Lib.hid (X121.out.btw hB171 (by have := Z2.out; have := Z30.out; have := Z63.out; have := Z71.out; have := Z109.out; have := Z119.out; have := Z127.out; omega))
  have X174 := Lib.hid (X122.out.btw hB171 (by have := Z2.out; have := Z30.out; have := Z63.out; have := Z71.out; have := Z109.out; have := Z119.out; have := Z127.out; omega))
  have X175 := Lib.hid (X123.out.btw hB171 (by have := Z2.out; have := Z30.out; have := Z63.out; have := Z71.out; have := Z109.out; have := Z119.out; have := Z127.out; omega))
  have F176 := Lib.hid (NC2.out.off X120.out (by simp) hB171)
  have F177 := Lib.hid (NM2.out.off X120.out (by simp) hB171)
  have hb178 := Btw.lowSize hB171 hb126 (Nat.le_of_lt X120.out.lt) (by have := Z2.out; have := Z30.out; have := Z63.out; have := Z71.out; have := Z109.out; have := Z119.out; have := Z127.out; omega)
  have Z179 : Hid (w3.heap.size ≤ W170.heap.size) := Lib.hid hB171.size
  rw [← hW170]
  clear hW170 hB171 X120 X121 X122 X123 NC2 NM2 hb126
  obtain ⟨W180, hW180⟩ : ∃ W180, W180 = (((((W170.setCell ⟨w.heap.size + 1, 0, none⟩ (.slice B20 256 e20)).setCell ⟨w.heap.size + 1, 1, none⟩ (.slice B21 32 e21)).setCell ⟨w.heap.size + 1, 2, none⟩ (.slice B22 256 e22)).setCell ⟨w.heap.size + 1, 3, none⟩ (.slice B23 16 e23)).setCell ⟨w.heap.size + 1, 4, none⟩ (.int .i64 m2.s)) := ⟨_, rfl⟩
  have hB181 : Btw (w.heap.size + 1) (w.heap.size + 1 + 1) W170 W180 := by rw [hW180]; exact ((((((Btw.refl _ _ _).setCell (p := ⟨w.heap.size + 1, 0, none⟩) (Nat.le_refl _) (Nat.lt_succ_self _) _).setCell (p := ⟨w.heap.size + 1, 1, none⟩) (Nat.le_refl _) (Nat.lt_succ_self _) _).setCell (p := ⟨w.heap.size + 1, 2, none⟩) (Nat.le_refl _) (Nat.lt_succ_self _) _).setCell (p := ⟨w.heap.size + 1, 3, none⟩) (Nat.le_refl _) (Nat.lt_succ_self _) _).setCell (p := ⟨w.heap.size + 1, 4, none⟩) (Nat.le_refl _) (Nat.lt_succ_self _) _)
  have X182 : Hid (Box W180 (w.heap.size + 1) 28 #[.slice B20 256 e20, .slice B21 32 e21, .slice B22 256 e22, .slice B23 16 e23, .int .i64 m2.s]) := Lib.hid (by rw [hW180]; exact (X173.out.allN5 rfl _ _ _ _ _))
  have X183 := Lib.hid (X172.out.btw hB181 (by have := Z2.out; have := Z30.out; have := Z63.out; have := Z71.out; have := Z109.out; have := Z119.out; have := Z127.out; have := Z179.out; omega))
  have X184 := Lib.hid (X174.out.btw hB181 (by have := Z2.out; have := Z30.out; have := Z63.out; have := Z71.out; have := Z109.out; have := Z119.out; have := Z127.out; have := Z179.out; omega))
  have X185 := Lib.hid (X175.out.btw hB181 (by have := Z2.out; have := Z30.out; have := Z63.out; have := Z71.out; have := Z109.out; have := Z119.out; have := Z127.out; have := Z179.out; omega))
  have F186 := Lib.hid (F176.out.off X173.out (by simp) hB181)
  have F187 := Lib.hid (F177.out.off X173.out (by simp) hB181)
  have hb188 := Btw.lowSize hB181 hb178 (Nat.le_of_lt X173.out.lt) (by have := Z2.out; have := Z30.out; have := Z63.out; have := Z71.out; have := Z109.out; have := Z119.out; have := Z127.out; have := Z179.out; omega)
  have Z189 : Hid (W170.heap.size ≤ W180.heap.size) := Lib.hid hB181.size
  rw [← hW180]
  clear hW180 hB181 X173 X172 X174 X175 F176 F177 hb178
  obtain ⟨W190, hW190⟩ : ∃ W190, W190 = (W180.setCell ⟨w.heap.size, 3, none⟩ (.int .i64 level)) := ⟨_, rfl⟩
  have hB191 : Btw (w.heap.size) (w.heap.size + 1) W180 W190 := by rw [hW190]; exact ((Btw.refl _ _ _).setCell (p := ⟨w.heap.size, 3, none⟩) (Nat.le_refl _) (Nat.lt_succ_self _) _)
  have X192 : Hid (Box W190 (w.heap.size) 50 #[.int .i64 d2.pc, .int .i64 d2.sp, .int .i64 d2.bank, .int .i64 level, .bool d2.zero, .bool d2.carry, .bool d2.on, .bool d2.halt, .slice A2 16 c2]) := Lib.hid (by rw [hW190]; exact (X183.out.set 3 _))
  have X193 := Lib.hid (X182.out.btw hB191 (by have := Z2.out; have := Z30.out; have := Z63.out; have := Z71.out; have := Z109.out; have := Z119.out; have := Z127.out; have := Z179.out; have := Z189.out; omega))
  have X194 := Lib.hid (X184.out.btw hB191 (by have := Z2.out; have := Z30.out; have := Z63.out; have := Z71.out; have := Z109.out; have := Z119.out; have := Z127.out; have := Z179.out; have := Z189.out; omega))
  have X195 := Lib.hid (X185.out.btw hB191 (by have := Z2.out; have := Z30.out; have := Z63.out; have := Z71.out; have := Z109.out; have := Z119.out; have := Z127.out; have := Z179.out; have := Z189.out; omega))
  have F196 := Lib.hid (F186.out.off X183.out (by simp) hB191)
  have F197 := Lib.hid (F187.out.off X183.out (by simp) hB191)
  have hb198 := Btw.lowSize hB191 hb188 (Nat.le_of_lt X183.out.lt) (by have := Z2.out; have := Z30.out; have := Z63.out; have := Z71.out; have := Z109.out; have := Z119.out; have := Z127.out; have := Z179.out; have := Z189.out; omega)
  have Z199 : Hid (W180.heap.size ≤ W190.heap.size) := Lib.hid hB191.size
  rw [← hW190]
  clear hW190 hB191 X183 X182 X184 X185 F186 F187 hb188
  refine wp_region_facts (by kernel_rfl) [[32], [33], [], []] [[], [], [0], [1]] [4, 5, 8, 9] (by kernel_rfl) (RetC W190 (w.heap.size) (w.heap.size + 1) (w.heap.size + 2) (w.heap.size + 3) 50 28 #[.int .i64 d2.pc, .int .i64 d2.sp, .int .i64 d2.bank, .int .i64 level, .bool d2.zero, .bool d2.carry, .bool d2.on, .bool d2.halt, .slice A2 16 c2] #[.slice B20 256 e20, .slice B21 32 e21, .slice B22 256 e22, .slice B23 16 e23, .int .i64 m2.s]) (RetF 32 33 (w.heap.size + 2) (w.heap.size + 3) 50 28 #[.int .i64 d2.pc, .int .i64 d2.sp, .int .i64 d2.bank, .int .i64 level, .bool d2.zero, .bool d2.carry, .bool d2.on, .bool d2.halt, .slice A2 16 c2] #[.slice B20 256 e20, .slice B21 32 e21, .slice B22 256 e22, .slice B23 16 e23, .int .i64 m2.s] 0 1 2 3 (fun _ _ => True)) ⟨(Btw.refl _ _ _).drew, ⟨_, by rfl, X194.out.drew⟩, ⟨_, by rfl, X195.out.drew⟩, X192.out.drew, X193.out.drew, by have := Z2.out; have := Z30.out; have := Z63.out; have := Z71.out; have := Z109.out; have := Z119.out; have := Z127.out; have := Z179.out; have := Z189.out; have := Z199.out; omega⟩ ⟨ret_load1 rfl 4 rfl rfl (by decide) rfl _ Try.underlying50 rfl infoCpu9 (by decide) (by show 32 < 34; decide), ret_load2 rfl (by decide) 5 rfl rfl (by decide) rfl _ Try.underlying28 rfl infoMem5 (by decide) (by show 33 < 34; decide), ret_store1 rfl (by decide) (by decide) 8 rfl (by decide) rfl (by decide) (by decide) infoCpu9 one9, ret_store2 rfl (by decide) (by decide) (by decide) (by decide) 9 rfl (by decide) rfl (by decide) (by decide) infoMem5 one5, trivial⟩ ?_
  intro T W hT hs hC hF
  obtain ⟨t0, t1, t2, t3, t4, t5, t6, t7, t8, t9, t10, t11, t12, t13, t14, t15, t16, t17, t18, t19, t20, t21, t22, t23, t24, t25, t26, t27, t28, t29, t30, t31, t32, t33, rfl⟩ := arr34 T hT
  obtain rfl : t8 = .pointer (some ⟨w.heap.size + 2, 0, none⟩) := hs 8 (by decide)
  obtain rfl : t9 = .pointer (some ⟨w.heap.size + 3, 0, none⟩) := hs 9 (by decide)
  have R1 : Box W (w.heap.size + 2) 50 #[.int .i64 d2.pc, .int .i64 d2.sp, .int .i64 d2.bank, .int .i64 level, .bool d2.zero, .bool d2.carry, .bool d2.on, .bool d2.halt, .slice A2 16 c2] := hF 2 (by decide)
  have R2 : Box W (w.heap.size + 3) 28 #[.slice B20 256 e20, .slice B21 32 e21, .slice B22 256 e22, .slice B23 16 e23, .int .i64 m2.s] := hF 3 (by decide)
  have HC := Lib.hid hC.k
  clear hF hs hT hC
  go_wp2
  refine bodyPost_ret (v := .tuple #[.agg #[.int .i64 d2.pc, .int .i64 d2.sp, .int .i64 d2.bank, .int .i64 level, .bool d2.zero, .bool d2.carry, .bool d2.on, .bool d2.halt, .slice A2 16 c2], .agg #[.slice B20 256 e20, .slice B21 32 e21, .slice B22 256 e22, .slice B23 16 e23, .int .i64 m2.s]]) (results_cc Try.results59 rfl rfl R1 R2 Try.underlying50 rfl infoCpu9 Try.underlying28 rfl infoMem5) rfl ?_
  have hbW := HC.out.lowSize hb198 (Nat.le_of_lt X194.out.lt) (by have := Z2.out; have := Z30.out; have := Z63.out; have := Z71.out; have := Z109.out; have := Z119.out; have := Z127.out; have := Z179.out; have := Z189.out; have := Z199.out; omega)
  exact ⟨_, _, _, _, _, _, _, _, _, _, rfl, Lib.hid ⟨HOk.out, (F196.out.off2 X194.out X195.out (by simp) (by simp) HC.out).2⟩, Lib.hid (F197.out.off2 X194.out X195.out (by simp) (by simp) HC.out), hbW⟩

def GivesC (d : CD) (w : World) (e : Ending) (w' : World) : Prop :=
  ∃ A c, e = .returned (.agg #[.int .i64 d.pc, .int .i64 d.sp, .int .i64 d.bank, .int .i64 d.level, .bool d.zero, .bool d.carry, .bool d.on, .bool d.halt, .slice A 16 c]) ∧ Hid (OwnI w' w.heap.size w'.heap.size A d.regs) ∧ Below w.heap.size w w'

set_option maxRecDepth 100000 in
set_option maxHeartbeats 4000000 in
theorem l08Own (A : Option Addr) (c : Nat) (d : CD) (w : World) (hc : RepC w A d) :
    Calls Try.prog 60 #[.agg #[.int .i64 d.pc, .int .i64 d.sp, .int .i64 d.bank, .int .i64 d.level, .bool d.zero, .bool d.carry, .bool d.on, .bool d.halt, .slice A 16 c]] w (GivesC d w) := by
  obtain ⟨W1, hW1⟩ : ∃ W1, W1 = ((w.alloc (.cells #[.int .i64 d.pc, .int .i64 d.sp, .int .i64 d.bank, .int .i64 d.level, .bool d.zero, .bool d.carry, .bool d.on, .bool d.halt, .slice A 16 c] 50)).alloc (.cells #[.int .i64 0, .int .i64 0, .int .i64 0, .int .i64 0, .bool false, .bool false, .bool false, .bool false, .slice none 0 0] 50)) := ⟨_, rfl⟩
  have hb0 : Below w.heap.size w W1 := by rw [hW1]; exact (((Below.refl _ _).alloc (Nat.le_refl _) _).alloc (by simp; try omega) _)
  have Z2 : Hid (W1.heap.size = w.heap.size + 2) := Lib.hid (by rw [hW1]; simp)
  have X3 : Hid (Box W1 (w.heap.size) 50 #[.int .i64 d.pc, .int .i64 d.sp, .int .i64 d.bank, .int .i64 d.level, .bool d.zero, .bool d.carry, .bool d.on, .bool d.halt, .slice A 16 c]) := Lib.hid (by rw [hW1]; exact ((Box.new w 50 #[.int .i64 d.pc, .int .i64 d.sp, .int .i64 d.bank, .int .i64 d.level, .bool d.zero, .bool d.carry, .bool d.on, .bool d.halt, .slice A 16 c]).alloc _))
  have X4 : Hid (Box W1 (w.heap.size + 1) 50 #[.int .i64 0, .int .i64 0, .int .i64 0, .int .i64 0, .bool false, .bool false, .bool false, .bool false, .slice none 0 0]) := Lib.hid (by rw [hW1]; simpa using (Box.new (w.alloc (.cells #[.int .i64 d.pc, .int .i64 d.sp, .int .i64 d.bank, .int .i64 d.level, .bool d.zero, .bool d.carry, .bool d.on, .bool d.halt, .slice A 16 c] 50)) 50 #[.int .i64 0, .int .i64 0, .int .i64 0, .int .i64 0, .bool false, .bool false, .bool false, .bool false, .slice none 0 0]))
  have HW0 := Lib.hid hW1
  clear hW1
  have HS := Lib.hid (fun W (hb : Below w.heap.size w W) => (hc.2.below hb).src (by rw [hc.1.len]; decide))
  have HC : Hid ((cellsI d.regs).length = 16 * 1) := Lib.hid (by rw [cellsI_len, hc.1.len])
  have hba := bt hb0 (alloc_below W1 (.cells #[] 3))
  have x0 : (W1.alloc (.cells #[] 3)).cell? ⟨w.heap.size, 0, none⟩ = some (.int .i64 d.pc) := (X3.out.alloc _).cell 0 rfl
  have x1 : (W1.alloc (.cells #[] 3)).cell? ⟨w.heap.size, 1, none⟩ = some (.int .i64 d.sp) := (X3.out.alloc _).cell 1 rfl
  have x2 : (W1.alloc (.cells #[] 3)).cell? ⟨w.heap.size, 2, none⟩ = some (.int .i64 d.bank) := (X3.out.alloc _).cell 2 rfl
  have x3 : (W1.alloc (.cells #[] 3)).cell? ⟨w.heap.size, 3, none⟩ = some (.int .i64 d.level) := (X3.out.alloc _).cell 3 rfl
  have x4 : (W1.alloc (.cells #[] 3)).cell? ⟨w.heap.size, 4, none⟩ = some (.bool d.zero) := (X3.out.alloc _).cell 4 rfl
  have x5 : (W1.alloc (.cells #[] 3)).cell? ⟨w.heap.size, 5, none⟩ = some (.bool d.carry) := (X3.out.alloc _).cell 5 rfl
  have x6 : (W1.alloc (.cells #[] 3)).cell? ⟨w.heap.size, 6, none⟩ = some (.bool d.on) := (X3.out.alloc _).cell 6 rfl
  have x7 : (W1.alloc (.cells #[] 3)).cell? ⟨w.heap.size, 7, none⟩ = some (.bool d.halt) := (X3.out.alloc _).cell 7 rfl
  have x8 : (W1.alloc (.cells #[] 3)).cell? ⟨w.heap.size, 8, none⟩ = some (.slice A 16 c) := (X3.out.alloc _).cell 8 rfl
  have hsz : w.heap.size ≤ W1.heap.size := by have := Z2.out; omega
  clear hc
  go_enter Try.func60, Try.ntmps60
  rw [HW0.out] at x0 x1 x2 x3 x4 x5 x6 x7 x8
  go_wp2_with (first | (with_reducible refine wpList_app_fresh rfl (.tmp 3) (.tmp 5) 23 rfl 3 (.int .i64 0) 1 8 Try.underlying23 infoIx rfl (by decide) _ rfl A 16 c (by omega) (cellsI d.regs) rfl HC.out (by rw [← HW0.out]; exact HS.out _ hba) (by unfold maxLen; omega) (by omega) ?_))
  rw [← HW0.out]
  intro B e w1 hb1 O1
  have hk1 := (alloc_below W1 (.cells #[] 3)).trans (hb1.mono (by have := Z2.out; omega))
  have FO := Lib.hid (ownI_fresh (lo := w.heap.size) O1.out (by omega) (by omega))
  clear x0 x1 x2 x3 x4 x5 x6 x7 x8 HS HC hba O1 hb1 hsz
  have X5 := Lib.hid (X3.out.step hk1)
  have X6 := Lib.hid (X4.out.step hk1)
  have hb7 := bt hb0 hk1
  have Z8 : Hid (W1.heap.size ≤ w1.heap.size) := Lib.hid hk1.size
  clear X3 X4 hb0 hk1
  have f9 := X5.out.cell 0 rfl
  have f10 := X5.out.cell 1 rfl
  have f11 := X5.out.cell 2 rfl
  have f12 := X5.out.cell 3 rfl
  have f13 := X5.out.cell 4 rfl
  have f14 := X5.out.cell 5 rfl
  have f15 := X5.out.cell 6 rfl
  have f16 := X5.out.cell 7 rfl
  have f17 := X5.out.cell 8 rfl
  have f18 := X6.out.cell 0 rfl
  have f19 := X6.out.cell 1 rfl
  have f20 := X6.out.cell 2 rfl
  have f21 := X6.out.cell 3 rfl
  have f22 := X6.out.cell 4 rfl
  have f23 := X6.out.cell 5 rfl
  have f24 := X6.out.cell 6 rfl
  have f25 := X6.out.cell 7 rfl
  have f26 := X6.out.cell 8 rfl
  have z27 := X5.out.frozen 0
  have z28 := X5.out.frozen 1
  have z29 := X5.out.frozen 2
  have z30 := X5.out.frozen 3
  have z31 := X5.out.frozen 4
  have z32 := X5.out.frozen 5
  have z33 := X5.out.frozen 6
  have z34 := X5.out.frozen 7
  have z35 := X5.out.frozen 8
  have z36 := X6.out.frozen 0
  have z37 := X6.out.frozen 1
  have z38 := X6.out.frozen 2
  have z39 := X6.out.frozen 3
  have z40 := X6.out.frozen 4
  have z41 := X6.out.frozen 5
  have z42 := X6.out.frozen 6
  have z43 := X6.out.frozen 7
  have z44 := X6.out.frozen 8
  go_wp2
  obtain ⟨W45, hW45⟩ : ∃ W45, W45 = (w1.setCell ⟨w.heap.size, 8, none⟩ (.slice B 16 e)) := ⟨_, rfl⟩
  have hB46 : Btw (w.heap.size) (w.heap.size + 1) w1 W45 := by rw [hW45]; exact ((Btw.refl _ _ _).setCell (p := ⟨w.heap.size, 8, none⟩) (Nat.le_refl _) (Nat.lt_succ_self _) _)
  have X47 : Hid (Box W45 (w.heap.size) 50 #[.int .i64 d.pc, .int .i64 d.sp, .int .i64 d.bank, .int .i64 d.level, .bool d.zero, .bool d.carry, .bool d.on, .bool d.halt, .slice B 16 e]) := Lib.hid (by rw [hW45]; exact (X5.out.set 8 _))
  have X48 := Lib.hid (X6.out.btw hB46 (by have := Z2.out; have := Z8.out; omega))
  have F49 := Lib.hid (FO.out.awayB X5.out (by decide) hB46)
  have hb50 := Btw.lowSize hB46 hb7 (Nat.le_of_lt X5.out.lt) (by have := Z2.out; have := Z8.out; omega)
  have Z51 : Hid (w1.heap.size ≤ W45.heap.size) := Lib.hid hB46.size
  rw [← hW45]
  clear hW45 hB46 X5 X6 FO hb7
  obtain ⟨W52, hW52⟩ : ∃ W52, W52 = (((((((((W45.setCell ⟨w.heap.size + 1, 0, none⟩ (.int .i64 d.pc)).setCell ⟨w.heap.size + 1, 1, none⟩ (.int .i64 d.sp)).setCell ⟨w.heap.size + 1, 2, none⟩ (.int .i64 d.bank)).setCell ⟨w.heap.size + 1, 3, none⟩ (.int .i64 d.level)).setCell ⟨w.heap.size + 1, 4, none⟩ (.bool d.zero)).setCell ⟨w.heap.size + 1, 5, none⟩ (.bool d.carry)).setCell ⟨w.heap.size + 1, 6, none⟩ (.bool d.on)).setCell ⟨w.heap.size + 1, 7, none⟩ (.bool d.halt)).setCell ⟨w.heap.size + 1, 8, none⟩ (.slice B 16 e)) := ⟨_, rfl⟩
  have hB53 : Btw (w.heap.size + 1) (w.heap.size + 1 + 1) W45 W52 := by rw [hW52]; exact ((((((((((Btw.refl _ _ _).setCell (p := ⟨w.heap.size + 1, 0, none⟩) (Nat.le_refl _) (Nat.lt_succ_self _) _).setCell (p := ⟨w.heap.size + 1, 1, none⟩) (Nat.le_refl _) (Nat.lt_succ_self _) _).setCell (p := ⟨w.heap.size + 1, 2, none⟩) (Nat.le_refl _) (Nat.lt_succ_self _) _).setCell (p := ⟨w.heap.size + 1, 3, none⟩) (Nat.le_refl _) (Nat.lt_succ_self _) _).setCell (p := ⟨w.heap.size + 1, 4, none⟩) (Nat.le_refl _) (Nat.lt_succ_self _) _).setCell (p := ⟨w.heap.size + 1, 5, none⟩) (Nat.le_refl _) (Nat.lt_succ_self _) _).setCell (p := ⟨w.heap.size + 1, 6, none⟩) (Nat.le_refl _) (Nat.lt_succ_self _) _).setCell (p := ⟨w.heap.size + 1, 7, none⟩) (Nat.le_refl _) (Nat.lt_succ_self _) _).setCell (p := ⟨w.heap.size + 1, 8, none⟩) (Nat.le_refl _) (Nat.lt_succ_self _) _)
  have X54 : Hid (Box W52 (w.heap.size + 1) 50 #[.int .i64 d.pc, .int .i64 d.sp, .int .i64 d.bank, .int .i64 d.level, .bool d.zero, .bool d.carry, .bool d.on, .bool d.halt, .slice B 16 e]) := Lib.hid (by rw [hW52]; exact (X48.out.allN9 rfl _ _ _ _ _ _ _ _ _))
  have X55 := Lib.hid (X47.out.btw hB53 (by have := Z2.out; have := Z8.out; have := Z51.out; omega))
  have F56 := Lib.hid (F49.out.awayB X48.out (by decide) hB53)
  have hb57 := Btw.lowSize hB53 hb50 (Nat.le_of_lt X48.out.lt) (by have := Z2.out; have := Z8.out; have := Z51.out; omega)
  have Z58 : Hid (W45.heap.size ≤ W52.heap.size) := Lib.hid hB53.size
  rw [← hW52]
  clear hW52 hB53 X48 X47 F49 hb50
  have r0 := X54.out
  have s0 := r0.cell 0 rfl
  have s1 := r0.cell 1 rfl
  have s2 := r0.cell 2 rfl
  have s3 := r0.cell 3 rfl
  have s4 := r0.cell 4 rfl
  have s5 := r0.cell 5 rfl
  have s6 := r0.cell 6 rfl
  have s7 := r0.cell 7 rfl
  have s8 := r0.cell 8 rfl
  refine bodyPost_ret (v := .agg #[.int .i64 d.pc, .int .i64 d.sp, .int .i64 d.bank, .int .i64 d.level, .bool d.zero, .bool d.carry, .bool d.on, .bool d.halt, .slice B 16 e]) (by simp [results, Try.results60, go_sem, s0, s1, s2, s3, s4, s5, s6, s7, s8]) rfl ?_
  exact ⟨B, e, rfl, Lib.hid (F56.out.wideB (Nat.le_refl _) (by have := Z2.out; have := Z8.out; have := Z51.out; have := Z58.out; omega)), hb57⟩
end Go.Proofs.Ytngoijchebfolaa

/- The model's EnterIrq, whole. Written by gen_eirq.py. -/
namespace Go.Proofs.Ytngoijchebfolaa
open Go.RowKit

def zCD : CD := ⟨0, 0, 0, 0, false, false, false, false, []⟩
def zMD : MD := ⟨[], [], [], [], 0⟩
/-- A processor, a memory and a code, in memory of the call's own. -/
def GivesCMC (d : CD) (m : MD) (code : Int) (w : World) (e' : Ending) (w' : World) : Prop :=
  ∃ B B0 B1 B2 B3 e e0 e1 e2 e3, e' = .returned (.tuple #[.agg #[.int .i64 d.pc, .int .i64 d.sp, .int .i64 d.bank, .int .i64 d.level, .bool d.zero, .bool d.carry, .bool d.on, .bool d.halt, .slice B d.regs.length e], .agg #[.slice B0 m.r.length e0, .slice B1 m.i.length e1, .slice B2 m.z.length e2, .slice B3 m.g.length e3, .int .i64 m.s], .int .i64 code]) ∧ Hid (OwnA w' w.heap.size w'.heap.size [.slice B d.regs.length e, .slice B0 m.r.length e0, .slice B1 m.i.length e1, .slice B2 m.z.length e2, .slice B3 m.g.length e3] [.I d.regs, .I m.r, .I m.i, .I m.z, .B m.g]) ∧ Below w.heap.size w w'
def eirqE (d : CD) (m : MD) (line level : Int) : Int := if d.ok && m.ok then (if rngB line 0 7 then (if rngB level 1 7 then 0 else 19) else 4) else 1
def eirqC (d : CD) (m : MD) (line level : Int) : CD := if eirqE d m line level = 0 then enterD d line level else zCD
def eirqM (d : CD) (m : MD) (line level : Int) : MD := if eirqE d m line level = 0 then enterM d m else zMD
theorem ownA5_nil (w : World) (L R : Nat) (hq : L ≤ R) : OwnA w L R [.slice none 0 0, .slice none 0 0, .slice none 0 0, .slice none 0 0, .slice none 0 0] [.I [], .I [], .I [], .I [], .B []] :=
  OwnA.append (lo := L) (hi := L) (lo' := L) (hi' := R) (vs := [.slice none 0 0]) (ds := [.I []]) (OwnA.one (d := .I []) ⟨none, 0, rfl, .inl rfl⟩) (ownA4_nil w L R hq) (.inl (Nat.le_refl _)) (Nat.le_refl _) (Nat.le_refl _) hq (Nat.le_refl _)
theorem eirq_bad {d : CD} {m : MD} {line level : Int} (h : (d.ok && m.ok) = false) : eirqE d m line level = 1 ∧ eirqC d m line level = zCD ∧ eirqM d m line level = zMD := by
  have e : eirqE d m line level = 1 := by unfold eirqE; rw [h]; rfl
  exact ⟨e, by unfold eirqC; rw [e]; rfl, by unfold eirqM; rw [e]; rfl⟩
theorem eirq_line {d : CD} {m : MD} {line level : Int} (h : (d.ok && m.ok) = true) (h1 : rngB line 0 7 = false) : eirqE d m line level = 4 ∧ eirqC d m line level = zCD ∧ eirqM d m line level = zMD := by
  have e : eirqE d m line level = 4 := by unfold eirqE; rw [h, h1]; rfl
  exact ⟨e, by unfold eirqC; rw [e]; rfl, by unfold eirqM; rw [e]; rfl⟩
theorem eirq_level {d : CD} {m : MD} {line level : Int} (h : (d.ok && m.ok) = true) (h1 : rngB line 0 7 = true) (h2 : rngB level 1 7 = false) : eirqE d m line level = 19 ∧ eirqC d m line level = zCD ∧ eirqM d m line level = zMD := by
  have e : eirqE d m line level = 19 := by unfold eirqE; rw [h, h1, h2]; rfl
  exact ⟨e, by unfold eirqC; rw [e]; rfl, by unfold eirqM; rw [e]; rfl⟩
theorem eirq_ok {d : CD} {m : MD} {line level : Int} (h : (d.ok && m.ok) = true) (h1 : rngB line 0 7 = true) (h2 : rngB level 1 7 = true) : eirqE d m line level = 0 ∧ eirqC d m line level = enterD d line level ∧ eirqM d m line level = enterM d m := by
  have e : eirqE d m line level = 0 := by unfold eirqE; rw [h, h1, h2]; rfl
  exact ⟨e, by unfold eirqC; rw [e]; rfl, by unfold eirqM; rw [e]; rfl⟩

set_option maxRecDepth 100000 in
set_option maxHeartbeats 4000000 in
theorem specEnterIrq (A : Option Addr) (n c : Nat) (d : CD) (A0 A1 A2 A3 : Option Addr) (n0 n1 n2 n3 c0 c1 c2 c3 : Nat) (m : MD) (line level : Int) (w : World) (l : d.regs.length = n) (l0 : m.r.length = n0) (l1 : m.i.length = n1) (l2 : m.z.length = n2) (l3 : m.g.length = n3) (q : n ≤ maxLen) (q0 : n0 ≤ maxLen) (q1 : n1 ≤ maxLen) (q2 : n2 ≤ maxLen) (q3 : n3 ≤ maxLen) (h : IntL w A d.regs) (h0 : IntL w A0 m.r) (h1 : IntL w A1 m.i) (h2 : IntL w A2 m.z) (h3 : BoolL w A3 m.g) :
    Calls Try.prog 20 #[.agg #[.int .i64 d.pc, .int .i64 d.sp, .int .i64 d.bank, .int .i64 d.level, .bool d.zero, .bool d.carry, .bool d.on, .bool d.halt, .slice A n c], .agg #[.slice A0 n0 c0, .slice A1 n1 c1, .slice A2 n2 c2, .slice A3 n3 c3, .int .i64 m.s], .int .i64 line, .int .i64 level] w (GivesCMC (eirqC d m line level) (eirqM d m line level) (eirqE d m line level) w) := by
  obtain ⟨W1, hW1⟩ : ∃ W1, W1 = ((((w.alloc (.cells #[.int .i64 d.pc, .int .i64 d.sp, .int .i64 d.bank, .int .i64 d.level, .bool d.zero, .bool d.carry, .bool d.on, .bool d.halt, .slice A n c] 50)).alloc (.cells #[.slice A0 n0 c0, .slice A1 n1 c1, .slice A2 n2 c2, .slice A3 n3 c3, .int .i64 m.s] 28)).alloc (.cells #[.int .i64 0, .int .i64 0, .int .i64 0, .int .i64 0, .bool false, .bool false, .bool false, .bool false, .slice none 0 0] 50)).alloc (.cells #[.slice none 0 0, .slice none 0 0, .slice none 0 0, .slice none 0 0, .int .i64 0] 28)) := ⟨_, rfl⟩
  have hb0 : Below w.heap.size w W1 := by rw [hW1]; exact (((((Below.refl _ _).alloc (Nat.le_refl _) _).alloc (by simp; try omega) _).alloc (by simp; try omega) _).alloc (by simp; try omega) _)
  have Z2 : Hid (W1.heap.size = w.heap.size + 4) := Lib.hid (by rw [hW1]; simp)
  have X3 : Hid (Box W1 (w.heap.size) 50 #[.int .i64 d.pc, .int .i64 d.sp, .int .i64 d.bank, .int .i64 d.level, .bool d.zero, .bool d.carry, .bool d.on, .bool d.halt, .slice A n c]) := Lib.hid (by rw [hW1]; exact ((((Box.new w 50 #[.int .i64 d.pc, .int .i64 d.sp, .int .i64 d.bank, .int .i64 d.level, .bool d.zero, .bool d.carry, .bool d.on, .bool d.halt, .slice A n c]).alloc _).alloc _).alloc _))
  have X4 : Hid (Box W1 (w.heap.size + 1) 28 #[.slice A0 n0 c0, .slice A1 n1 c1, .slice A2 n2 c2, .slice A3 n3 c3, .int .i64 m.s]) := Lib.hid (by rw [hW1]; simpa using (((Box.new (w.alloc (.cells #[.int .i64 d.pc, .int .i64 d.sp, .int .i64 d.bank, .int .i64 d.level, .bool d.zero, .bool d.carry, .bool d.on, .bool d.halt, .slice A n c] 50)) 28 #[.slice A0 n0 c0, .slice A1 n1 c1, .slice A2 n2 c2, .slice A3 n3 c3, .int .i64 m.s]).alloc _).alloc _))
  have X5 : Hid (Box W1 (w.heap.size + 2) 50 #[.int .i64 0, .int .i64 0, .int .i64 0, .int .i64 0, .bool false, .bool false, .bool false, .bool false, .slice none 0 0]) := Lib.hid (by rw [hW1]; simpa using ((Box.new ((w.alloc (.cells #[.int .i64 d.pc, .int .i64 d.sp, .int .i64 d.bank, .int .i64 d.level, .bool d.zero, .bool d.carry, .bool d.on, .bool d.halt, .slice A n c] 50)).alloc (.cells #[.slice A0 n0 c0, .slice A1 n1 c1, .slice A2 n2 c2, .slice A3 n3 c3, .int .i64 m.s] 28)) 50 #[.int .i64 0, .int .i64 0, .int .i64 0, .int .i64 0, .bool false, .bool false, .bool false, .bool false, .slice none 0 0]).alloc _))
  have X6 : Hid (Box W1 (w.heap.size + 3) 28 #[.slice none 0 0, .slice none 0 0, .slice none 0 0, .slice none 0 0, .int .i64 0]) := Lib.hid (by rw [hW1]; simpa using (Box.new (((w.alloc (.cells #[.int .i64 d.pc, .int .i64 d.sp, .int .i64 d.bank, .int .i64 d.level, .bool d.zero, .bool d.carry, .bool d.on, .bool d.halt, .slice A n c] 50)).alloc (.cells #[.slice A0 n0 c0, .slice A1 n1 c1, .slice A2 n2 c2, .slice A3 n3 c3, .int .i64 m.s] 28)).alloc (.cells #[.int .i64 0, .int .i64 0, .int .i64 0, .int .i64 0, .bool false, .bool false, .bool false, .bool false, .slice none 0 0] 50)) 28 #[.slice none 0 0, .slice none 0 0, .slice none 0 0, .slice none 0 0, .int .i64 0]))
  have HW0 := Lib.hid hW1
  clear hW1
  have HC := Lib.hid (fun W (hb : Below w.heap.size w W) => specCpuOK A n c d.pc d.sp d.bank d.level d.zero d.carry d.on d.halt d.regs W l q (h.below hb))
  have HM := Lib.hid (fun W (hb : Below w.heap.size w W) => specMemOK A0 A1 A2 A3 n0 n1 n2 n3 c0 c1 c2 c3 m.r m.i m.z m.g m.s W l0 l1 l2 l3 q0 q1 q2 q3 (h0.below hb) (h1.below hb) (h2.below hb))
  have HOc : Hid (okCpu d.pc d.sp d.bank d.level d.regs = d.ok) := Lib.hid rfl
  rw [HOc.out] at HC
  have HOm : Hid (okMem m.r m.i m.z m.g m.s = m.ok) := Lib.hid rfl
  rw [HOm.out] at HM
  have H := Lib.hid (And.intro (And.intro l (And.intro l0 (And.intro l1 (And.intro l2 l3)))) (And.intro h (And.intro h0 (And.intro h1 (And.intro h2 h3)))))
  clear l l0 l1 l2 l3 q q0 q1 q2 q3 h h0 h1 h2 h3 HOc HOm
  generalize hokc : d.ok = okc at HC
  generalize hokm : m.ok = okm at HM
  have HKc := Lib.hid hokc
  have HKm := Lib.hid hokm
  clear hokc hokm
  have f7 := X3.out.cell 0 rfl
  have f8 := X3.out.cell 1 rfl
  have f9 := X3.out.cell 2 rfl
  have f10 := X3.out.cell 3 rfl
  have f11 := X3.out.cell 4 rfl
  have f12 := X3.out.cell 5 rfl
  have f13 := X3.out.cell 6 rfl
  have f14 := X3.out.cell 7 rfl
  have f15 := X3.out.cell 8 rfl
  have f16 := X4.out.cell 0 rfl
  have f17 := X4.out.cell 1 rfl
  have f18 := X4.out.cell 2 rfl
  have f19 := X4.out.cell 3 rfl
  have f20 := X4.out.cell 4 rfl
  rw [HW0.out] at f7 f8 f9 f10 f11 f12 f13 f14 f15 f16 f17 f18 f19 f20
  go_enter Try.func20, Try.ntmps20
  go_wp2_with fail
  rw [← HW0.out]
  rw [← HW0.out] at f7 f8 f9 f10 f11 f12 f13 f14 f15 f16 f17 f18 f19 f20
  clear f7 f8 f9 f10 f11 f12 f13 f14 f15 f16 f17 f18 f19 f20
  refine (HC.out _ hb0).mono ?_
  rintro e w1 ⟨rfl, hq1⟩
  have X21 := Lib.hid (X3.out.step hq1)
  have X22 := Lib.hid (X4.out.step hq1)
  have X23 := Lib.hid (X5.out.step hq1)
  have X24 := Lib.hid (X6.out.step hq1)
  have hb25 := bt hb0 hq1
  have Z26 : Hid (W1.heap.size ≤ w1.heap.size) := Lib.hid hq1.size
  clear X3 X4 X5 X6 hb0 hq1
  cases okc
  · have f27 := X23.out.cell 0 rfl
    have f28 := X23.out.cell 1 rfl
    have f29 := X23.out.cell 2 rfl
    have f30 := X23.out.cell 3 rfl
    have f31 := X23.out.cell 4 rfl
    have f32 := X23.out.cell 5 rfl
    have f33 := X23.out.cell 6 rfl
    have f34 := X23.out.cell 7 rfl
    have f35 := X23.out.cell 8 rfl
    have f36 := X24.out.cell 0 rfl
    have f37 := X24.out.cell 1 rfl
    have f38 := X24.out.cell 2 rfl
    have f39 := X24.out.cell 3 rfl
    have f40 := X24.out.cell 4 rfl
    have z41 := X23.out.frozen 0
    have z42 := X23.out.frozen 1
    have z43 := X23.out.frozen 2
    have z44 := X23.out.frozen 3
    have z45 := X23.out.frozen 4
    have z46 := X23.out.frozen 5
    have z47 := X23.out.frozen 6
    have z48 := X23.out.frozen 7
    have z49 := X23.out.frozen 8
    have z50 := X24.out.frozen 0
    have z51 := X24.out.frozen 1
    have z52 := X24.out.frozen 2
    have z53 := X24.out.frozen 3
    have z54 := X24.out.frozen 4
    go_wp2
    obtain ⟨W55, hW55⟩ : ∃ W55, W55 = (((((((((w1.setCell ⟨w.heap.size + 2, 0, none⟩ (.int .i64 0)).setCell ⟨w.heap.size + 2, 1, none⟩ (.int .i64 0)).setCell ⟨w.heap.size + 2, 2, none⟩ (.int .i64 0)).setCell ⟨w.heap.size + 2, 3, none⟩ (.int .i64 0)).setCell ⟨w.heap.size + 2, 4, none⟩ (.bool false)).setCell ⟨w.heap.size + 2, 5, none⟩ (.bool false)).setCell ⟨w.heap.size + 2, 6, none⟩ (.bool false)).setCell ⟨w.heap.size + 2, 7, none⟩ (.bool false)).setCell ⟨w.heap.size + 2, 8, none⟩ (.slice none 0 0)) := ⟨_, rfl⟩
    have hB56 : Btw (w.heap.size + 2) (w.heap.size + 2 + 1) w1 W55 := by rw [hW55]; exact ((((((((((Btw.refl _ _ _).setCell (p := ⟨w.heap.size + 2, 0, none⟩) (Nat.le_refl _) (Nat.lt_succ_self _) _).setCell (p := ⟨w.heap.size + 2, 1, none⟩) (Nat.le_refl _) (Nat.lt_succ_self _) _).setCell (p := ⟨w.heap.size + 2, 2, none⟩) (Nat.le_refl _) (Nat.lt_succ_self _) _).setCell (p := ⟨w.heap.size + 2, 3, none⟩) (Nat.le_refl _) (Nat.lt_succ_self _) _).setCell (p := ⟨w.heap.size + 2, 4, none⟩) (Nat.le_refl _) (Nat.lt_succ_self _) _).setCell (p := ⟨w.heap.size + 2, 5, none⟩) (Nat.le_refl _) (Nat.lt_succ_self _) _).setCell (p := ⟨w.heap.size + 2, 6, none⟩) (Nat.le_refl _) (Nat.lt_succ_self _) _).setCell (p := ⟨w.heap.size + 2, 7, none⟩) (Nat.le_refl _) (Nat.lt_succ_self _) _).setCell (p := ⟨w.heap.size + 2, 8, none⟩) (Nat.le_refl _) (Nat.lt_succ_self _) _)
    have X57 : Hid (Box W55 (w.heap.size + 2) 50 #[.int .i64 0, .int .i64 0, .int .i64 0, .int .i64 0, .bool false, .bool false, .bool false, .bool false, .slice none 0 0]) := Lib.hid (by rw [hW55]; exact (X23.out.allN9 rfl _ _ _ _ _ _ _ _ _))
    have X58 := Lib.hid (X21.out.btw hB56 (by have := Z2.out; have := Z26.out; omega))
    have X59 := Lib.hid (X22.out.btw hB56 (by have := Z2.out; have := Z26.out; omega))
    have X60 := Lib.hid (X24.out.btw hB56 (by have := Z2.out; have := Z26.out; omega))
    have hb61 := Btw.lowSize hB56 hb25 (Nat.le_of_lt X23.out.lt) (by have := Z2.out; have := Z26.out; omega)
    have Z62 : Hid (w1.heap.size ≤ W55.heap.size) := Lib.hid hB56.size
    rw [← hW55]
    clear hW55 hB56 X23 X21 X22 X24 hb25
    obtain ⟨W63, hW63⟩ : ∃ W63, W63 = (((((W55.setCell ⟨w.heap.size + 3, 0, none⟩ (.slice none 0 0)).setCell ⟨w.heap.size + 3, 1, none⟩ (.slice none 0 0)).setCell ⟨w.heap.size + 3, 2, none⟩ (.slice none 0 0)).setCell ⟨w.heap.size + 3, 3, none⟩ (.slice none 0 0)).setCell ⟨w.heap.size + 3, 4, none⟩ (.int .i64 0)) := ⟨_, rfl⟩
    have hB64 : Btw (w.heap.size + 3) (w.heap.size + 3 + 1) W55 W63 := by rw [hW63]; exact ((((((Btw.refl _ _ _).setCell (p := ⟨w.heap.size + 3, 0, none⟩) (Nat.le_refl _) (Nat.lt_succ_self _) _).setCell (p := ⟨w.heap.size + 3, 1, none⟩) (Nat.le_refl _) (Nat.lt_succ_self _) _).setCell (p := ⟨w.heap.size + 3, 2, none⟩) (Nat.le_refl _) (Nat.lt_succ_self _) _).setCell (p := ⟨w.heap.size + 3, 3, none⟩) (Nat.le_refl _) (Nat.lt_succ_self _) _).setCell (p := ⟨w.heap.size + 3, 4, none⟩) (Nat.le_refl _) (Nat.lt_succ_self _) _)
    have X65 : Hid (Box W63 (w.heap.size + 3) 28 #[.slice none 0 0, .slice none 0 0, .slice none 0 0, .slice none 0 0, .int .i64 0]) := Lib.hid (by rw [hW63]; exact (X60.out.allN5 rfl _ _ _ _ _))
    have X66 := Lib.hid (X58.out.btw hB64 (by have := Z2.out; have := Z26.out; have := Z62.out; omega))
    have X67 := Lib.hid (X59.out.btw hB64 (by have := Z2.out; have := Z26.out; have := Z62.out; omega))
    have X68 := Lib.hid (X57.out.btw hB64 (by have := Z2.out; have := Z26.out; have := Z62.out; omega))
    have hb69 := Btw.lowSize hB64 hb61 (Nat.le_of_lt X60.out.lt) (by have := Z2.out; have := Z26.out; have := Z62.out; omega)
    have Z70 : Hid (W55.heap.size ≤ W63.heap.size) := Lib.hid hB64.size
    rw [← hW63]
    clear hW63 hB64 X60 X58 X59 X57 hb61
    have r0 := X68.out
    have r1 := X65.out
    have s0 := r0.cell 0 rfl
    have s1 := r0.cell 1 rfl
    have s2 := r0.cell 2 rfl
    have s3 := r0.cell 3 rfl
    have s4 := r0.cell 4 rfl
    have s5 := r0.cell 5 rfl
    have s6 := r0.cell 6 rfl
    have s7 := r0.cell 7 rfl
    have s8 := r0.cell 8 rfl
    have t0 := r1.cell 0 rfl
    have t1 := r1.cell 1 rfl
    have t2 := r1.cell 2 rfl
    have t3 := r1.cell 3 rfl
    have t4 := r1.cell 4 rfl
    refine bodyPost_ret (v := .tuple #[.agg #[.int .i64 0, .int .i64 0, .int .i64 0, .int .i64 0, .bool false, .bool false, .bool false, .bool false, .slice none 0 0], .agg #[.slice none 0 0, .slice none 0 0, .slice none 0 0, .slice none 0 0, .int .i64 0], .int .i64 1]) (by simp [results, Try.results20, go_sem, s0, s1, s2, s3, s4, s5, s6, s7, s8, t0, t1, t2, t3, t4]) rfl ?_
    obtain ⟨g1, g2, g3⟩ := eirq_bad (line := line) (level := level) (d := d) (m := m) (by rw [HKc.out]; rfl)
    rw [g1, g2, g3]
    exact ⟨none, none, none, none, none, 0, 0, 0, 0, 0, rfl, Lib.hid (ownA5_nil _ _ _ (by have := Z2.out; have := Z26.out; have := Z62.out; have := Z70.out; omega)), hb69⟩
  · have f27 := X22.out.cell 0 rfl
    have f28 := X22.out.cell 1 rfl
    have f29 := X22.out.cell 2 rfl
    have f30 := X22.out.cell 3 rfl
    have f31 := X22.out.cell 4 rfl
    go_wp2_with fail
    clear f27 f28 f29 f30 f31
    refine (HM.out _ hb25).mono ?_
    rintro e w2 ⟨rfl, hq2⟩
    have X32 := Lib.hid (X21.out.step hq2)
    have X33 := Lib.hid (X22.out.step hq2)
    have X34 := Lib.hid (X23.out.step hq2)
    have X35 := Lib.hid (X24.out.step hq2)
    have hb36 := bt hb25 hq2
    have Z37 : Hid (w1.heap.size ≤ w2.heap.size) := Lib.hid hq2.size
    clear X21 X22 X23 X24 hb25 hq2
    cases okm
    · have f38 := X34.out.cell 0 rfl
      have f39 := X34.out.cell 1 rfl
      have f40 := X34.out.cell 2 rfl
      have f41 := X34.out.cell 3 rfl
      have f42 := X34.out.cell 4 rfl
      have f43 := X34.out.cell 5 rfl
      have f44 := X34.out.cell 6 rfl
      have f45 := X34.out.cell 7 rfl
      have f46 := X34.out.cell 8 rfl
      have f47 := X35.out.cell 0 rfl
      have f48 := X35.out.cell 1 rfl
      have f49 := X35.out.cell 2 rfl
      have f50 := X35.out.cell 3 rfl
      have f51 := X35.out.cell 4 rfl
      have z52 := X34.out.frozen 0
      have z53 := X34.out.frozen 1
      have z54 := X34.out.frozen 2
      have z55 := X34.out.frozen 3
      have z56 := X34.out.frozen 4
      have z57 := X34.out.frozen 5
      have z58 := X34.out.frozen 6
      have z59 := X34.out.frozen 7
      have z60 := X34.out.frozen 8
      have z61 := X35.out.frozen 0
      have z62 := X35.out.frozen 1
      have z63 := X35.out.frozen 2
      have z64 := X35.out.frozen 3
      have z65 := X35.out.frozen 4
      go_wp2
      obtain ⟨W66, hW66⟩ : ∃ W66, W66 = (((((((((w2.setCell ⟨w.heap.size + 2, 0, none⟩ (.int .i64 0)).setCell ⟨w.heap.size + 2, 1, none⟩ (.int .i64 0)).setCell ⟨w.heap.size + 2, 2, none⟩ (.int .i64 0)).setCell ⟨w.heap.size + 2, 3, none⟩ (.int .i64 0)).setCell ⟨w.heap.size + 2, 4, none⟩ (.bool false)).setCell ⟨w.heap.size + 2, 5, none⟩ (.bool false)).setCell ⟨w.heap.size + 2, 6, none⟩ (.bool false)).setCell ⟨w.heap.size + 2, 7, none⟩ (.bool false)).setCell ⟨w.heap.size + 2, 8, none⟩ (.slice none 0 0)) := ⟨_, rfl⟩
      have hB67 : Btw (w.heap.size + 2) (w.heap.size + 2 + 1) w2 W66 := by rw [hW66]; exact ((((((((((Btw.refl _ _ _).setCell (p := ⟨w.heap.size + 2, 0, none⟩) (Nat.le_refl _) (Nat.lt_succ_self _) _).setCell (p := ⟨w.heap.size + 2, 1, none⟩) (Nat.le_refl _) (Nat.lt_succ_self _) _).setCell (p := ⟨w.heap.size + 2, 2, none⟩) (Nat.le_refl _) (Nat.lt_succ_self _) _).setCell (p := ⟨w.heap.size + 2, 3, none⟩) (Nat.le_refl _) (Nat.lt_succ_self _) _).setCell (p := ⟨w.heap.size + 2, 4, none⟩) (Nat.le_refl _) (Nat.lt_succ_self _) _).setCell (p := ⟨w.heap.size + 2, 5, none⟩) (Nat.le_refl _) (Nat.lt_succ_self _) _).setCell (p := ⟨w.heap.size + 2, 6, none⟩) (Nat.le_refl _) (Nat.lt_succ_self _) _).setCell (p := ⟨w.heap.size + 2, 7, none⟩) (Nat.le_refl _) (Nat.lt_succ_self _) _).setCell (p := ⟨w.heap.size + 2, 8, none⟩) (Nat.le_refl _) (Nat.lt_succ_self _) _)
      have X68 : Hid (Box W66 (w.heap.size + 2) 50 #[.int .i64 0, .int .i64 0, .int .i64 0, .int .i64 0, .bool false, .bool false, .bool false, .bool false, .slice none 0 0]) := Lib.hid (by rw [hW66]; exact (X34.out.allN9 rfl _ _ _ _ _ _ _ _ _))
      have X69 := Lib.hid (X32.out.btw hB67 (by have := Z2.out; have := Z26.out; have := Z37.out; omega))
      have X70 := Lib.hid (X33.out.btw hB67 (by have := Z2.out; have := Z26.out; have := Z37.out; omega))
      have X71 := Lib.hid (X35.out.btw hB67 (by have := Z2.out; have := Z26.out; have := Z37.out; omega))
      have hb72 := Btw.lowSize hB67 hb36 (Nat.le_of_lt X34.out.lt) (by have := Z2.out; have := Z26.out; have := Z37.out; omega)
      have Z73 : Hid (w2.heap.size ≤ W66.heap.size) := Lib.hid hB67.size
      rw [← hW66]
      clear hW66 hB67 X34 X32 X33 X35 hb36
      obtain ⟨W74, hW74⟩ : ∃ W74, W74 = (((((W66.setCell ⟨w.heap.size + 3, 0, none⟩ (.slice none 0 0)).setCell ⟨w.heap.size + 3, 1, none⟩ (.slice none 0 0)).setCell ⟨w.heap.size + 3, 2, none⟩ (.slice none 0 0)).setCell ⟨w.heap.size + 3, 3, none⟩ (.slice none 0 0)).setCell ⟨w.heap.size + 3, 4, none⟩ (.int .i64 0)) := ⟨_, rfl⟩
      have hB75 : Btw (w.heap.size + 3) (w.heap.size + 3 + 1) W66 W74 := by rw [hW74]; exact ((((((Btw.refl _ _ _).setCell (p := ⟨w.heap.size + 3, 0, none⟩) (Nat.le_refl _) (Nat.lt_succ_self _) _).setCell (p := ⟨w.heap.size + 3, 1, none⟩) (Nat.le_refl _) (Nat.lt_succ_self _) _).setCell (p := ⟨w.heap.size + 3, 2, none⟩) (Nat.le_refl _) (Nat.lt_succ_self _) _).setCell (p := ⟨w.heap.size + 3, 3, none⟩) (Nat.le_refl _) (Nat.lt_succ_self _) _).setCell (p := ⟨w.heap.size + 3, 4, none⟩) (Nat.le_refl _) (Nat.lt_succ_self _) _)
      have X76 : Hid (Box W74 (w.heap.size + 3) 28 #[.slice none 0 0, .slice none 0 0, .slice none 0 0, .slice none 0 0, .int .i64 0]) := Lib.hid (by rw [hW74]; exact (X71.out.allN5 rfl _ _ _ _ _))
      have X77 := Lib.hid (X69.out.btw hB75 (by have := Z2.out; have := Z26.out; have := Z37.out; have := Z73.out; omega))
      have X78 := Lib.hid (X70.out.btw hB75 (by have := Z2.out; have := Z26.out; have := Z37.out; have := Z73.out; omega))
      have X79 := Lib.hid (X68.out.btw hB75 (by have := Z2.out; have := Z26.out; have := Z37.out; have := Z73.out; omega))
      have hb80 := Btw.lowSize hB75 hb72 (Nat.le_of_lt X71.out.lt) (by have := Z2.out; have := Z26.out; have := Z37.out; have := Z73.out; omega)
      have Z81 : Hid (W66.heap.size ≤ W74.heap.size) := Lib.hid hB75.size
      rw [← hW74]
      clear hW74 hB75 X71 X69 X70 X68 hb72
      have r0 := X79.out
      have r1 := X76.out
      have s0 := r0.cell 0 rfl
      have s1 := r0.cell 1 rfl
      have s2 := r0.cell 2 rfl
      have s3 := r0.cell 3 rfl
      have s4 := r0.cell 4 rfl
      have s5 := r0.cell 5 rfl
      have s6 := r0.cell 6 rfl
      have s7 := r0.cell 7 rfl
      have s8 := r0.cell 8 rfl
      have t0 := r1.cell 0 rfl
      have t1 := r1.cell 1 rfl
      have t2 := r1.cell 2 rfl
      have t3 := r1.cell 3 rfl
      have t4 := r1.cell 4 rfl
      refine bodyPost_ret (v := .tuple #[.agg #[.int .i64 0, .int .i64 0, .int .i64 0, .int .i64 0, .bool false, .bool false, .bool false, .bool false, .slice none 0 0], .agg #[.slice none 0 0, .slice none 0 0, .slice none 0 0, .slice none 0 0, .int .i64 0], .int .i64 1]) (by simp [results, Try.results20, go_sem, s0, s1, s2, s3, s4, s5, s6, s7, s8, t0, t1, t2, t3, t4]) rfl ?_
      obtain ⟨g1, g2, g3⟩ := eirq_bad (line := line) (level := level) (d := d) (m := m) (by rw [HKc.out, HKm.out]; rfl)
      rw [g1, g2, g3]
      exact ⟨none, none, none, none, none, 0, 0, 0, 0, 0, rfl, Lib.hid (ownA5_nil _ _ _ (by have := Z2.out; have := Z26.out; have := Z37.out; have := Z73.out; have := Z81.out; omega)), hb80⟩
    · have HKK : Hid ((d.ok && m.ok) = true) := Lib.hid (by rw [HKc.out, HKm.out]; rfl)
      by_cases hl : rngB line 0 7 = true
      · by_cases hv : rngB level 1 7 = true
        · have hok : d.Ok := CD.ok_iff.1 HKc.out
          have hom : m.Ok := MD.ok_iff.1 HKm.out
          obtain rfl : n = 16 := H.out.1.1.symm.trans hok.len
          obtain rfl : n0 = 256 := H.out.1.2.1.symm.trans hom.r
          obtain rfl : n1 = 32 := H.out.1.2.2.1.symm.trans hom.i
          obtain rfl : n2 = 256 := H.out.1.2.2.2.1.symm.trans hom.z
          obtain rfl : n3 = 16 := H.out.1.2.2.2.2.symm.trans hom.g
          have hlr := rngB_says hl
          have hvr := rngB_says hv
          have FC : Hid (RepC w2 A d) := Lib.hid ⟨hok, H.out.2.1.below hb36⟩
          have FM : Hid (RepM w2 A0 A1 A2 A3 m) := Lib.hid ⟨hom, H.out.2.2.1.below hb36, H.out.2.2.2.1.below hb36, H.out.2.2.2.2.1.below hb36, H.out.2.2.2.2.2.below hb36⟩
          have HG := Lib.hid (eirq_ok (d := d) (m := m) (line := line) (level := level) HKK.out hl hv)
          have HLc := Lib.hid (CD.Ok.enter hok hlr ⟨by omega, hvr.2⟩)
          have HLm := Lib.hid (MD.Ok.enter hok hom)
          have HEn := Lib.hid (fun W (q : RepC W A d) (r : RepM W A0 A1 A2 A3 m) => l08Enter A c d A0 A1 A2 A3 c0 c1 c2 c3 m W line level hlr ⟨by omega, hvr.2⟩ q r)
          unfold ReadsCM at HEn
          generalize enterD d line level = dF at HEn HLc HG ⊢
          generalize enterM d m = mF at HEn HLm HG ⊢
          clear hok hom hlr hvr H HKc HKm HKK
          have HOw := Lib.hid (fun Aa ca W (q : RepC W Aa dF) => l08Own Aa ca dF W q)
          unfold GivesC at HOw
          have HOm := Lib.hid (fun Ab Ac Ad Ae cb cc cd ce W (q : RepM W Ab Ac Ad Ae mF) => l05Own Ab Ac Ad Ae cb cc cd ce mF.r mF.i mF.z mF.g mF.s W q.1.r q.1.i q.1.z q.1.g q.2.1 q.2.2.1 q.2.2.2.1 q.2.2.2.2)
          unfold GivesMem at HOm
          have f38 := X32.out.cell 0 rfl
          have f39 := X32.out.cell 1 rfl
          have f40 := X32.out.cell 2 rfl
          have f41 := X32.out.cell 3 rfl
          have f42 := X32.out.cell 4 rfl
          have f43 := X32.out.cell 5 rfl
          have f44 := X32.out.cell 6 rfl
          have f45 := X32.out.cell 7 rfl
          have f46 := X32.out.cell 8 rfl
          have f47 := X33.out.cell 0 rfl
          have f48 := X33.out.cell 1 rfl
          have f49 := X33.out.cell 2 rfl
          have f50 := X33.out.cell 3 rfl
          have f51 := X33.out.cell 4 rfl
          go_wp2_with (first | (go_at_call 51; refine (l01InA _ _ _ _).mono ?_; rintro e w' ⟨rfl, rfl⟩; (first | rw [hl] | rw [hv])))
          clear f38 f39 f40 f41 f42 f43 f44 f45 f46 f47 f48 f49 f50 f51
          refine (HEn.out _ FC.out FM.out).mono ?_
          rintro e w3 ⟨Aa, ca, Ab, Ac, Ad, Ae, cb, cc, cd, ce, rfl, NC, NM, hq3⟩
          have X52 := Lib.hid (X32.out.step hq3)
          have X53 := Lib.hid (X33.out.step hq3)
          have X54 := Lib.hid (X34.out.step hq3)
          have X55 := Lib.hid (X35.out.step hq3)
          have F56 := Lib.hid (FC.out.below hq3)
          have F57 := Lib.hid (FM.out.below hq3)
          have hb58 := bt hb36 hq3
          have Z59 : Hid (w2.heap.size ≤ w3.heap.size) := Lib.hid hq3.size
          clear X32 X33 X34 X35 FC FM hb36 hq3
          clear F56 F57 HEn hl hv
          obtain ⟨V, hV⟩ : ∃ V, V = ((w3.alloc (.cells #[.int .i64 dF.pc, .int .i64 dF.sp, .int .i64 dF.bank, .int .i64 dF.level, .bool dF.zero, .bool dF.carry, .bool dF.on, .bool dF.halt, .slice Aa 16 ca] 50)).alloc (.cells #[.slice Ab 256 cb, .slice Ac 32 cc, .slice Ad 256 cd, .slice Ae 16 ce, .int .i64 mF.s] 28)) := ⟨_, rfl⟩
          have hqV : Below w3.heap.size w3 V := by rw [hV]; exact bt (alloc_below _ _) (alloc_below _ _)
          have XV : Box V w3.heap.size 50 #[.int .i64 dF.pc, .int .i64 dF.sp, .int .i64 dF.bank, .int .i64 dF.level, .bool dF.zero, .bool dF.carry, .bool dF.on, .bool dF.halt, .slice Aa 16 ca] := by rw [hV]; exact (Box.new _ _ _).alloc _
          have YV : Box V (w3.heap.size + 1) 28 #[.slice Ab 256 cb, .slice Ac 32 cc, .slice Ad 256 cd, .slice Ae 16 ce, .int .i64 mF.s] := by rw [hV]; simpa using Box.new (w3.alloc (.cells #[.int .i64 dF.pc, .int .i64 dF.sp, .int .i64 dF.bank, .int .i64 dF.level, .bool dF.zero, .bool dF.carry, .bool dF.on, .bool dF.halt, .slice Aa 16 ca] 50)) 28 #[.slice Ab 256 cb, .slice Ac 32 cc, .slice Ad 256 cd, .slice Ae 16 ce, .int .i64 mF.s]
          have HV := Lib.hid hV
          clear hV
          have X60 := Lib.hid (X52.out.step hqV)
          have X61 := Lib.hid (X53.out.step hqV)
          have X62 := Lib.hid (X54.out.step hqV)
          have X63 := Lib.hid (X55.out.step hqV)
          have F64 := Lib.hid (NC.out.below hqV)
          have F65 := Lib.hid (NM.out.below hqV)
          have hb66 := bt hb58 hqV
          have Z67 : Hid (w3.heap.size ≤ V.heap.size) := Lib.hid hqV.size
          clear X52 X53 X54 X55 NC NM hb58 hqV
          have hdr : Below V.heap.size V V.drew := (Below.refl _ _).drew
          have HXV : Hid (Box V.drew w3.heap.size 50 #[.int .i64 dF.pc, .int .i64 dF.sp, .int .i64 dF.bank, .int .i64 dF.level, .bool dF.zero, .bool dF.carry, .bool dF.on, .bool dF.halt, .slice Aa 16 ca] ∧ Box V.drew (w3.heap.size + 1) 28 #[.slice Ab 256 cb, .slice Ac 32 cc, .slice Ad 256 cd, .slice Ae 16 ce, .int .i64 mF.s]) := Lib.hid ⟨XV.drew, YV.drew⟩
          clear XV YV
          have X68 := Lib.hid (X60.out.step hdr)
          have X69 := Lib.hid (X61.out.step hdr)
          have X70 := Lib.hid (X62.out.step hdr)
          have X71 := Lib.hid (X63.out.step hdr)
          have F72 := Lib.hid (F64.out.below hdr)
          have F73 := Lib.hid (F65.out.below hdr)
          have hb74 := bt hb66 hdr
          have Z75 : Hid (V.heap.size ≤ V.drew.heap.size) := Lib.hid hdr.size
          clear X60 X61 X62 X63 F64 F65 hb66 hdr
          have HK : Hid (∀ W, Box W w3.heap.size 50 #[.int .i64 dF.pc, .int .i64 dF.sp, .int .i64 dF.bank, .int .i64 dF.level, .bool dF.zero, .bool dF.carry, .bool dF.on, .bool dF.halt, .slice Aa 16 ca] ∧ Box W (w3.heap.size + 1) 28 #[.slice Ab 256 cb, .slice Ac 32 cc, .slice Ad 256 cd, .slice Ae 16 ce, .int .i64 mF.s] → W.cell? ⟨w3.heap.size, 0, none⟩ = some (.int .i64 dF.pc) ∧ W.cell? ⟨w3.heap.size, 1, none⟩ = some (.int .i64 dF.sp) ∧ W.cell? ⟨w3.heap.size, 2, none⟩ = some (.int .i64 dF.bank) ∧ W.cell? ⟨w3.heap.size, 3, none⟩ = some (.int .i64 dF.level) ∧ W.cell? ⟨w3.heap.size, 4, none⟩ = some (.bool dF.zero) ∧ W.cell? ⟨w3.heap.size, 5, none⟩ = some (.bool dF.carry) ∧ W.cell? ⟨w3.heap.size, 6, none⟩ = some (.bool dF.on) ∧ W.cell? ⟨w3.heap.size, 7, none⟩ = some (.bool dF.halt) ∧ W.cell? ⟨w3.heap.size, 8, none⟩ = some (.slice Aa 16 ca) ∧ W.cell? ⟨w3.heap.size + 1, 0, none⟩ = some (.slice Ab 256 cb) ∧ W.cell? ⟨w3.heap.size + 1, 1, none⟩ = some (.slice Ac 32 cc) ∧ W.cell? ⟨w3.heap.size + 1, 2, none⟩ = some (.slice Ad 256 cd) ∧ W.cell? ⟨w3.heap.size + 1, 3, none⟩ = some (.slice Ae 16 ce) ∧ W.cell? ⟨w3.heap.size + 1, 4, none⟩ = some (.int .i64 mF.s)) := Lib.hid (fun W X => ⟨X.1.cell 0 rfl, X.1.cell 1 rfl, X.1.cell 2 rfl, X.1.cell 3 rfl, X.1.cell 4 rfl, X.1.cell 5 rfl, X.1.cell 6 rfl, X.1.cell 7 rfl, X.1.cell 8 rfl, X.2.cell 0 rfl, X.2.cell 1 rfl, X.2.cell 2 rfl, X.2.cell 3 rfl, X.2.cell 4 rfl⟩)
          have f76 := X70.out.cell 0 rfl
          have f77 := X70.out.cell 1 rfl
          have f78 := X70.out.cell 2 rfl
          have f79 := X70.out.cell 3 rfl
          have f80 := X70.out.cell 4 rfl
          have f81 := X70.out.cell 5 rfl
          have f82 := X70.out.cell 6 rfl
          have f83 := X70.out.cell 7 rfl
          have f84 := X70.out.cell 8 rfl
          have f85 := X71.out.cell 0 rfl
          have f86 := X71.out.cell 1 rfl
          have f87 := X71.out.cell 2 rfl
          have f88 := X71.out.cell 3 rfl
          have f89 := X71.out.cell 4 rfl
          have z90 := X70.out.frozen 0
          have z91 := X70.out.frozen 1
          have z92 := X70.out.frozen 2
          have z93 := X70.out.frozen 3
          have z94 := X70.out.frozen 4
          have z95 := X70.out.frozen 5
          have z96 := X70.out.frozen 6
          have z97 := X70.out.frozen 7
          have z98 := X70.out.frozen 8
          have z99 := X71.out.frozen 0
          have z100 := X71.out.frozen 1
          have z101 := X71.out.frozen 2
          have z102 := X71.out.frozen 3
          have z103 := X71.out.frozen 4
          clear f76 f77 f78 f79 f80 f81 f82 f83 f84 f85 f86 f87 f88 f89 z90 z91 z92 z93 z94 z95 z96 z97 z98 z99 z100 z101 z102 z103
          go_wp2
          rw [← HV.out]
          go_region_held3 (fun W => W.cell? ⟨w3.heap.size, 0, none⟩ = some (.int .i64 dF.pc) ∧ W.cell? ⟨w3.heap.size, 1, none⟩ = some (.int .i64 dF.sp) ∧ W.cell? ⟨w3.heap.size, 2, none⟩ = some (.int .i64 dF.bank) ∧ W.cell? ⟨w3.heap.size, 3, none⟩ = some (.int .i64 dF.level) ∧ W.cell? ⟨w3.heap.size, 4, none⟩ = some (.bool dF.zero) ∧ W.cell? ⟨w3.heap.size, 5, none⟩ = some (.bool dF.carry) ∧ W.cell? ⟨w3.heap.size, 6, none⟩ = some (.bool dF.on) ∧ W.cell? ⟨w3.heap.size, 7, none⟩ = some (.bool dF.halt) ∧ W.cell? ⟨w3.heap.size, 8, none⟩ = some (.slice Aa 16 ca) ∧ W.cell? ⟨w3.heap.size + 1, 0, none⟩ = some (.slice Ab 256 cb) ∧ W.cell? ⟨w3.heap.size + 1, 1, none⟩ = some (.slice Ac 32 cc) ∧ W.cell? ⟨w3.heap.size + 1, 2, none⟩ = some (.slice Ad 256 cd) ∧ W.cell? ⟨w3.heap.size + 1, 3, none⟩ = some (.slice Ae 16 ce) ∧ W.cell? ⟨w3.heap.size + 1, 4, none⟩ = some (.int .i64 mF.s))
            (first | (with_reducible exact HK.out _ HXV.out) | (with_reducible exact HK.out _ HX1.out) | (with_reducible exact HK.out _ HX2.out) | (with_reducible exact HK.out _ HX3.out) | (with_reducible exact HK.out _ HX4.out))
            (first | (go_at_call 60; refine (HOw.out _ _ _ F72.out).mono ?_; rintro e' w4 ⟨B, e, rfl, O1, hq4⟩; have HX1 := Lib.hid (And.intro (HXV.out.1.step hq4) (HXV.out.2.step hq4))) | (go_at_call 53; refine (HOm.out _ _ _ _ _ _ _ _ _ (F73.out.below hq4)).mono ?_; rintro e' w5 ⟨B0, B1, B2, B3, e0, e1, e2, e3, rfl, O2, hq5⟩; have HX2 := Lib.hid (And.intro (HX1.out.1.step hq5) (HX1.out.2.step hq5)); have HY1 := Lib.hid ((X70.out.step hq4).step hq5); have HY2 := Lib.hid ((X71.out.step hq4).step hq5); have T1 : Btw (w.heap.size + 2) (w.heap.size + 2 + 1) w5 (((((((((w5.setCell ⟨w.heap.size + 2, 0, none⟩ (.int .i64 dF.pc)).setCell ⟨w.heap.size + 2, 1, none⟩ (.int .i64 dF.sp)).setCell ⟨w.heap.size + 2, 2, none⟩ (.int .i64 dF.bank)).setCell ⟨w.heap.size + 2, 3, none⟩ (.int .i64 dF.level)).setCell ⟨w.heap.size + 2, 4, none⟩ (.bool dF.zero)).setCell ⟨w.heap.size + 2, 5, none⟩ (.bool dF.carry)).setCell ⟨w.heap.size + 2, 6, none⟩ (.bool dF.on)).setCell ⟨w.heap.size + 2, 7, none⟩ (.bool dF.halt)).setCell ⟨w.heap.size + 2, 8, none⟩ (.slice B 16 e)) := ((((((((((Btw.refl _ _ _).setCell (p := ⟨w.heap.size + 2, 0, none⟩) (Nat.le_refl _) (Nat.lt_succ_self _) _).setCell (p := ⟨w.heap.size + 2, 1, none⟩) (Nat.le_refl _) (Nat.lt_succ_self _) _).setCell (p := ⟨w.heap.size + 2, 2, none⟩) (Nat.le_refl _) (Nat.lt_succ_self _) _).setCell (p := ⟨w.heap.size + 2, 3, none⟩) (Nat.le_refl _) (Nat.lt_succ_self _) _).setCell (p := ⟨w.heap.size + 2, 4, none⟩) (Nat.le_refl _) (Nat.lt_succ_self _) _).setCell (p := ⟨w.heap.size + 2, 5, none⟩) (Nat.le_refl _) (Nat.lt_succ_self _) _).setCell (p := ⟨w.heap.size + 2, 6, none⟩) (Nat.le_refl _) (Nat.lt_succ_self _) _).setCell (p := ⟨w.heap.size + 2, 7, none⟩) (Nat.le_refl _) (Nat.lt_succ_self _) _).setCell (p := ⟨w.heap.size + 2, 8, none⟩) (Nat.le_refl _) (Nat.lt_succ_self _) _); have T2 : Btw (w.heap.size + 3) (w.heap.size + 3 + 1) (((((((((w5.setCell ⟨w.heap.size + 2, 0, none⟩ (.int .i64 dF.pc)).setCell ⟨w.heap.size + 2, 1, none⟩ (.int .i64 dF.sp)).setCell ⟨w.heap.size + 2, 2, none⟩ (.int .i64 dF.bank)).setCell ⟨w.heap.size + 2, 3, none⟩ (.int .i64 dF.level)).setCell ⟨w.heap.size + 2, 4, none⟩ (.bool dF.zero)).setCell ⟨w.heap.size + 2, 5, none⟩ (.bool dF.carry)).setCell ⟨w.heap.size + 2, 6, none⟩ (.bool dF.on)).setCell ⟨w.heap.size + 2, 7, none⟩ (.bool dF.halt)).setCell ⟨w.heap.size + 2, 8, none⟩ (.slice B 16 e)) ((((((((((((((w5.setCell ⟨w.heap.size + 2, 0, none⟩ (.int .i64 dF.pc)).setCell ⟨w.heap.size + 2, 1, none⟩ (.int .i64 dF.sp)).setCell ⟨w.heap.size + 2, 2, none⟩ (.int .i64 dF.bank)).setCell ⟨w.heap.size + 2, 3, none⟩ (.int .i64 dF.level)).setCell ⟨w.heap.size + 2, 4, none⟩ (.bool dF.zero)).setCell ⟨w.heap.size + 2, 5, none⟩ (.bool dF.carry)).setCell ⟨w.heap.size + 2, 6, none⟩ (.bool dF.on)).setCell ⟨w.heap.size + 2, 7, none⟩ (.bool dF.halt)).setCell ⟨w.heap.size + 2, 8, none⟩ (.slice B 16 e)).setCell ⟨w.heap.size + 3, 0, none⟩ (.slice B0 256 e0)).setCell ⟨w.heap.size + 3, 1, none⟩ (.slice B1 32 e1)).setCell ⟨w.heap.size + 3, 2, none⟩ (.slice B2 256 e2)).setCell ⟨w.heap.size + 3, 3, none⟩ (.slice B3 16 e3)).setCell ⟨w.heap.size + 3, 4, none⟩ (.int .i64 mF.s)) := ((((((Btw.refl _ _ _).setCell (p := ⟨w.heap.size + 3, 0, none⟩) (Nat.le_refl _) (Nat.lt_succ_self _) _).setCell (p := ⟨w.heap.size + 3, 1, none⟩) (Nat.le_refl _) (Nat.lt_succ_self _) _).setCell (p := ⟨w.heap.size + 3, 2, none⟩) (Nat.le_refl _) (Nat.lt_succ_self _) _).setCell (p := ⟨w.heap.size + 3, 3, none⟩) (Nat.le_refl _) (Nat.lt_succ_self _) _).setCell (p := ⟨w.heap.size + 3, 4, none⟩) (Nat.le_refl _) (Nat.lt_succ_self _) _); have HX3 := Lib.hid (And.intro (HX2.out.1.btw T1 (by have := Z2.out; have := Z26.out; have := Z37.out; have := Z59.out; have := Z67.out; have := Z75.out; omega)) (HX2.out.2.btw T1 (by have := Z2.out; have := Z26.out; have := Z37.out; have := Z59.out; have := Z67.out; have := Z75.out; omega))); have HX4 := Lib.hid (And.intro (HX3.out.1.btw T2 (by have := Z2.out; have := Z26.out; have := Z37.out; have := Z59.out; have := Z67.out; have := Z75.out; omega)) (HX3.out.2.btw T2 (by have := Z2.out; have := Z26.out; have := Z37.out; have := Z59.out; have := Z67.out; have := Z75.out; omega))); have g0 := HY1.out.cell 0 rfl; have y0 := HY1.out.frozen 0; have g1 := HY1.out.cell 1 rfl; have y1 := HY1.out.frozen 1; have g2 := HY1.out.cell 2 rfl; have y2 := HY1.out.frozen 2; have g3 := HY1.out.cell 3 rfl; have y3 := HY1.out.frozen 3; have g4 := HY1.out.cell 4 rfl; have y4 := HY1.out.frozen 4; have g5 := HY1.out.cell 5 rfl; have y5 := HY1.out.frozen 5; have g6 := HY1.out.cell 6 rfl; have y6 := HY1.out.frozen 6; have g7 := HY1.out.cell 7 rfl; have y7 := HY1.out.frozen 7; have g8 := HY1.out.cell 8 rfl; have y8 := HY1.out.frozen 8; have k0 := HY2.out.cell 0 rfl; have z0 := HY2.out.frozen 0; have k1 := HY2.out.cell 1 rfl; have z1 := HY2.out.frozen 1; have k2 := HY2.out.cell 2 rfl; have z2 := HY2.out.frozen 2; have k3 := HY2.out.cell 3 rfl; have z3 := HY2.out.frozen 3; have k4 := HY2.out.cell 4 rfl; have z4 := HY2.out.frozen 4))
          go_wp2
          obtain ⟨V1, hV1⟩ : ∃ V1, V1 = (((((((((w5.setCell ⟨w.heap.size + 2, 0, none⟩ (.int .i64 dF.pc)).setCell ⟨w.heap.size + 2, 1, none⟩ (.int .i64 dF.sp)).setCell ⟨w.heap.size + 2, 2, none⟩ (.int .i64 dF.bank)).setCell ⟨w.heap.size + 2, 3, none⟩ (.int .i64 dF.level)).setCell ⟨w.heap.size + 2, 4, none⟩ (.bool dF.zero)).setCell ⟨w.heap.size + 2, 5, none⟩ (.bool dF.carry)).setCell ⟨w.heap.size + 2, 6, none⟩ (.bool dF.on)).setCell ⟨w.heap.size + 2, 7, none⟩ (.bool dF.halt)).setCell ⟨w.heap.size + 2, 8, none⟩ (.slice B 16 e)) := ⟨_, rfl⟩
          have U1 : Btw (w.heap.size + 2) (w.heap.size + 2 + 1) w5 V1 := by rw [hV1]; exact ((((((((((Btw.refl _ _ _).setCell (p := ⟨w.heap.size + 2, 0, none⟩) (Nat.le_refl _) (Nat.lt_succ_self _) _).setCell (p := ⟨w.heap.size + 2, 1, none⟩) (Nat.le_refl _) (Nat.lt_succ_self _) _).setCell (p := ⟨w.heap.size + 2, 2, none⟩) (Nat.le_refl _) (Nat.lt_succ_self _) _).setCell (p := ⟨w.heap.size + 2, 3, none⟩) (Nat.le_refl _) (Nat.lt_succ_self _) _).setCell (p := ⟨w.heap.size + 2, 4, none⟩) (Nat.le_refl _) (Nat.lt_succ_self _) _).setCell (p := ⟨w.heap.size + 2, 5, none⟩) (Nat.le_refl _) (Nat.lt_succ_self _) _).setCell (p := ⟨w.heap.size + 2, 6, none⟩) (Nat.le_refl _) (Nat.lt_succ_self _) _).setCell (p := ⟨w.heap.size + 2, 7, none⟩) (Nat.le_refl _) (Nat.lt_succ_self _) _).setCell (p := ⟨w.heap.size + 2, 8, none⟩) (Nat.le_refl _) (Nat.lt_succ_self _) _)
          have HYa : Hid (Box V1 (w.heap.size + 2) 50 #[.int .i64 dF.pc, .int .i64 dF.sp, .int .i64 dF.bank, .int .i64 dF.level, .bool dF.zero, .bool dF.carry, .bool dF.on, .bool dF.halt, .slice B 16 e]) := Lib.hid (by rw [hV1]; exact HY1.out.allN9 rfl _ _ _ _ _ _ _ _ _)
          have HYb : Hid (Box V1 (w.heap.size + 3) 28 #[.slice none 0 0, .slice none 0 0, .slice none 0 0, .slice none 0 0, .int .i64 0]) := Lib.hid (HY2.out.btw U1 (by omega))
          rw [← hV1]
          obtain ⟨V2, hV2⟩ : ∃ V2, V2 = (((((V1.setCell ⟨w.heap.size + 3, 0, none⟩ (.slice B0 256 e0)).setCell ⟨w.heap.size + 3, 1, none⟩ (.slice B1 32 e1)).setCell ⟨w.heap.size + 3, 2, none⟩ (.slice B2 256 e2)).setCell ⟨w.heap.size + 3, 3, none⟩ (.slice B3 16 e3)).setCell ⟨w.heap.size + 3, 4, none⟩ (.int .i64 mF.s)) := ⟨_, rfl⟩
          have U2 : Btw (w.heap.size + 3) (w.heap.size + 3 + 1) V1 V2 := by rw [hV2]; exact ((((((Btw.refl _ _ _).setCell (p := ⟨w.heap.size + 3, 0, none⟩) (Nat.le_refl _) (Nat.lt_succ_self _) _).setCell (p := ⟨w.heap.size + 3, 1, none⟩) (Nat.le_refl _) (Nat.lt_succ_self _) _).setCell (p := ⟨w.heap.size + 3, 2, none⟩) (Nat.le_refl _) (Nat.lt_succ_self _) _).setCell (p := ⟨w.heap.size + 3, 3, none⟩) (Nat.le_refl _) (Nat.lt_succ_self _) _).setCell (p := ⟨w.heap.size + 3, 4, none⟩) (Nat.le_refl _) (Nat.lt_succ_self _) _)
          have r1 : Box V2 (w.heap.size + 3) 28 #[.slice B0 256 e0, .slice B1 32 e1, .slice B2 256 e2, .slice B3 16 e3, .int .i64 mF.s] := by rw [hV2]; exact HYb.out.allN5 rfl _ _ _ _ _
          have r0 : Box V2 (w.heap.size + 2) 50 #[.int .i64 dF.pc, .int .i64 dF.sp, .int .i64 dF.bank, .int .i64 dF.level, .bool dF.zero, .bool dF.carry, .bool dF.on, .bool dF.halt, .slice B 16 e] := HYa.out.btw U2 (by omega)
          rw [← hV2]
          clear hV1 hV2
          have s0 := r0.cell 0 rfl
          have s1 := r0.cell 1 rfl
          have s2 := r0.cell 2 rfl
          have s3 := r0.cell 3 rfl
          have s4 := r0.cell 4 rfl
          have s5 := r0.cell 5 rfl
          have s6 := r0.cell 6 rfl
          have s7 := r0.cell 7 rfl
          have s8 := r0.cell 8 rfl
          have t0 := r1.cell 0 rfl
          have t1 := r1.cell 1 rfl
          have t2 := r1.cell 2 rfl
          have t3 := r1.cell 3 rfl
          have t4 := r1.cell 4 rfl
          refine bodyPost_ret (v := .tuple #[.agg #[.int .i64 dF.pc, .int .i64 dF.sp, .int .i64 dF.bank, .int .i64 dF.level, .bool dF.zero, .bool dF.carry, .bool dF.on, .bool dF.halt, .slice B 16 e], .agg #[.slice B0 256 e0, .slice B1 32 e1, .slice B2 256 e2, .slice B3 16 e3, .int .i64 mF.s], .int .i64 0]) (by simp [results, Try.results20, go_sem, s0, s1, s2, s3, s4, s5, s6, s7, s8, t0, t1, t2, t3, t4]) rfl ?_
          have EB := Lib.hid (OwnA.append (OwnA.one (w := w5) (d := .I dF.regs) (v := .slice B 16 e) ⟨B, e, by rw [HLc.out.len], O1.out.below hq5⟩) O2.out (.inl (Nat.le_refl _)) (L := w.heap.size + 4) (R := w5.heap.size) (by have := Z2.out; have := Z26.out; have := Z37.out; have := Z59.out; have := Z67.out; have := Z75.out; show w.heap.size + 4 ≤ V.heap.size; omega) (by have := Z2.out; have := Z26.out; have := Z37.out; have := Z59.out; have := Z67.out; have := Z75.out; have := hq4.size; show w.heap.size + 4 ≤ w4.heap.size; have q : V.heap.size ≤ w4.heap.size := hq4.size; omega) hq5.size (Nat.le_refl _))
          have EV := Lib.hid ((EB.out.btw U1 (.inr (by omega))).btw U2 (.inr (by omega)))
          have hfin := Btw.lowSize U2 (Btw.lowSize U1 (bt (bt hb74 hq4) hq5) (Nat.le_of_lt HY1.out.lt) (by omega)) (Nat.le_of_lt HYb.out.lt) (by omega)
          rw [HG.out.1, HG.out.2.1, HG.out.2.2]
          refine ⟨B, B0, B1, B2, B3, e, e0, e1, e2, e3, ?_, Lib.hid ?_, hfin⟩
          · rw [HLc.out.len, HLm.out.r, HLm.out.i, HLm.out.z, HLm.out.g]
          · rw [HLc.out.len, HLm.out.r, HLm.out.i, HLm.out.z, HLm.out.g]
            exact EV.out.wide (by omega) (Nat.le_trans U1.size U2.size)
        · have hv' : rngB level 1 7 = false := by simpa using hv
          clear hv
          have f38 := X34.out.cell 0 rfl
          have f39 := X34.out.cell 1 rfl
          have f40 := X34.out.cell 2 rfl
          have f41 := X34.out.cell 3 rfl
          have f42 := X34.out.cell 4 rfl
          have f43 := X34.out.cell 5 rfl
          have f44 := X34.out.cell 6 rfl
          have f45 := X34.out.cell 7 rfl
          have f46 := X34.out.cell 8 rfl
          have f47 := X35.out.cell 0 rfl
          have f48 := X35.out.cell 1 rfl
          have f49 := X35.out.cell 2 rfl
          have f50 := X35.out.cell 3 rfl
          have f51 := X35.out.cell 4 rfl
          have z52 := X34.out.frozen 0
          have z53 := X34.out.frozen 1
          have z54 := X34.out.frozen 2
          have z55 := X34.out.frozen 3
          have z56 := X34.out.frozen 4
          have z57 := X34.out.frozen 5
          have z58 := X34.out.frozen 6
          have z59 := X34.out.frozen 7
          have z60 := X34.out.frozen 8
          have z61 := X35.out.frozen 0
          have z62 := X35.out.frozen 1
          have z63 := X35.out.frozen 2
          have z64 := X35.out.frozen 3
          have z65 := X35.out.frozen 4
          go_wp2_with (first | (go_at_call 51; refine (l01InA _ _ _ _).mono ?_; rintro e w' ⟨rfl, rfl⟩; (first | rw [hl] | rw [hv'])))
          obtain ⟨W66, hW66⟩ : ∃ W66, W66 = (((((((((w2.setCell ⟨w.heap.size + 2, 0, none⟩ (.int .i64 0)).setCell ⟨w.heap.size + 2, 1, none⟩ (.int .i64 0)).setCell ⟨w.heap.size + 2, 2, none⟩ (.int .i64 0)).setCell ⟨w.heap.size + 2, 3, none⟩ (.int .i64 0)).setCell ⟨w.heap.size + 2, 4, none⟩ (.bool false)).setCell ⟨w.heap.size + 2, 5, none⟩ (.bool false)).setCell ⟨w.heap.size + 2, 6, none⟩ (.bool false)).setCell ⟨w.heap.size + 2, 7, none⟩ (.bool false)).setCell ⟨w.heap.size + 2, 8, none⟩ (.slice none 0 0)) := ⟨_, rfl⟩
          have hB67 : Btw (w.heap.size + 2) (w.heap.size + 2 + 1) w2 W66 := by rw [hW66]; exact ((((((((((Btw.refl _ _ _).setCell (p := ⟨w.heap.size + 2, 0, none⟩) (Nat.le_refl _) (Nat.lt_succ_self _) _).setCell (p := ⟨w.heap.size + 2, 1, none⟩) (Nat.le_refl _) (Nat.lt_succ_self _) _).setCell (p := ⟨w.heap.size + 2, 2, none⟩) (Nat.le_refl _) (Nat.lt_succ_self _) _).setCell (p := ⟨w.heap.size + 2, 3, none⟩) (Nat.le_refl _) (Nat.lt_succ_self _) _).setCell (p := ⟨w.heap.size + 2, 4, none⟩) (Nat.le_refl _) (Nat.lt_succ_self _) _).setCell (p := ⟨w.heap.size + 2, 5, none⟩) (Nat.le_refl _) (Nat.lt_succ_self _) _).setCell (p := ⟨w.heap.size + 2, 6, none⟩) (Nat.le_refl _) (Nat.lt_succ_self _) _).setCell (p := ⟨w.heap.size + 2, 7, none⟩) (Nat.le_refl _) (Nat.lt_succ_self _) _).setCell (p := ⟨w.heap.size + 2, 8, none⟩) (Nat.le_refl _) (Nat.lt_succ_self _) _)
          have X68 : Hid (Box W66 (w.heap.size + 2) 50 #[.int .i64 0, .int .i64 0, .int .i64 0, .int .i64 0, .bool false, .bool false, .bool false, .bool false, .slice none 0 0]) := Lib.hid (by rw [hW66]; exact (X34.out.allN9 rfl _ _ _ _ _ _ _ _ _))
          have X69 := Lib.hid (X32.out.btw hB67 (by have := Z2.out; have := Z26.out; have := Z37.out; omega))
          have X70 := Lib.hid (X33.out.btw hB67 (by have := Z2.out; have := Z26.out; have := Z37.out; omega))
          have X71 := Lib.hid (X35.out.btw hB67 (by have := Z2.out; have := Z26.out; have := Z37.out; omega))
          have hb72 := Btw.lowSize hB67 hb36 (Nat.le_of_lt X34.out.lt) (by have := Z2.out; have := Z26.out; have := Z37.out; omega)
          have Z73 : Hid (w2.heap.size ≤ W66.heap.size) := Lib.hid hB67.size
          rw [← hW66]
          clear hW66 hB67 X34 X32 X33 X35 hb36
          obtain ⟨W74, hW74⟩ : ∃ W74, W74 = (((((W66.setCell ⟨w.heap.size + 3, 0, none⟩ (.slice none 0 0)).setCell ⟨w.heap.size + 3, 1, none⟩ (.slice none 0 0)).setCell ⟨w.heap.size + 3, 2, none⟩ (.slice none 0 0)).setCell ⟨w.heap.size + 3, 3, none⟩ (.slice none 0 0)).setCell ⟨w.heap.size + 3, 4, none⟩ (.int .i64 0)) := ⟨_, rfl⟩
          have hB75 : Btw (w.heap.size + 3) (w.heap.size + 3 + 1) W66 W74 := by rw [hW74]; exact ((((((Btw.refl _ _ _).setCell (p := ⟨w.heap.size + 3, 0, none⟩) (Nat.le_refl _) (Nat.lt_succ_self _) _).setCell (p := ⟨w.heap.size + 3, 1, none⟩) (Nat.le_refl _) (Nat.lt_succ_self _) _).setCell (p := ⟨w.heap.size + 3, 2, none⟩) (Nat.le_refl _) (Nat.lt_succ_self _) _).setCell (p := ⟨w.heap.size + 3, 3, none⟩) (Nat.le_refl _) (Nat.lt_succ_self _) _).setCell (p := ⟨w.heap.size + 3, 4, none⟩) (Nat.le_refl _) (Nat.lt_succ_self _) _)
          have X76 : Hid (Box W74 (w.heap.size + 3) 28 #[.slice none 0 0, .slice none 0 0, .slice none 0 0, .slice none 0 0, .int .i64 0]) := Lib.hid (by rw [hW74]; exact (X71.out.allN5 rfl _ _ _ _ _))
          have X77 := Lib.hid (X69.out.btw hB75 (by have := Z2.out; have := Z26.out; have := Z37.out; have := Z73.out; omega))
          have X78 := Lib.hid (X70.out.btw hB75 (by have := Z2.out; have := Z26.out; have := Z37.out; have := Z73.out; omega))
          have X79 := Lib.hid (X68.out.btw hB75 (by have := Z2.out; have := Z26.out; have := Z37.out; have := Z73.out; omega))
          have hb80 := Btw.lowSize hB75 hb72 (Nat.le_of_lt X71.out.lt) (by have := Z2.out; have := Z26.out; have := Z37.out; have := Z73.out; omega)
          have Z81 : Hid (W66.heap.size ≤ W74.heap.size) := Lib.hid hB75.size
          rw [← hW74]
          clear hW74 hB75 X71 X69 X70 X68 hb72
          have r0 := X79.out
          have r1 := X76.out
          have s0 := r0.cell 0 rfl
          have s1 := r0.cell 1 rfl
          have s2 := r0.cell 2 rfl
          have s3 := r0.cell 3 rfl
          have s4 := r0.cell 4 rfl
          have s5 := r0.cell 5 rfl
          have s6 := r0.cell 6 rfl
          have s7 := r0.cell 7 rfl
          have s8 := r0.cell 8 rfl
          have t0 := r1.cell 0 rfl
          have t1 := r1.cell 1 rfl
          have t2 := r1.cell 2 rfl
          have t3 := r1.cell 3 rfl
          have t4 := r1.cell 4 rfl
          refine bodyPost_ret (v := .tuple #[.agg #[.int .i64 0, .int .i64 0, .int .i64 0, .int .i64 0, .bool false, .bool false, .bool false, .bool false, .slice none 0 0], .agg #[.slice none 0 0, .slice none 0 0, .slice none 0 0, .slice none 0 0, .int .i64 0], .int .i64 19]) (by simp [results, Try.results20, go_sem, s0, s1, s2, s3, s4, s5, s6, s7, s8, t0, t1, t2, t3, t4]) rfl ?_
          obtain ⟨g1, g2, g3⟩ := eirq_level (level := level) HKK.out hl hv'
          rw [g1, g2, g3]
          exact ⟨none, none, none, none, none, 0, 0, 0, 0, 0, rfl, Lib.hid (ownA5_nil _ _ _ (by have := Z2.out; have := Z26.out; have := Z37.out; have := Z73.out; have := Z81.out; omega)), hb80⟩
      · have hl' : rngB line 0 7 = false := by simpa using hl
        clear hl
        have f38 := X34.out.cell 0 rfl
        have f39 := X34.out.cell 1 rfl
        have f40 := X34.out.cell 2 rfl
        have f41 := X34.out.cell 3 rfl
        have f42 := X34.out.cell 4 rfl
        have f43 := X34.out.cell 5 rfl
        have f44 := X34.out.cell 6 rfl
        have f45 := X34.out.cell 7 rfl
        have f46 := X34.out.cell 8 rfl
        have f47 := X35.out.cell 0 rfl
        have f48 := X35.out.cell 1 rfl
        have f49 := X35.out.cell 2 rfl
        have f50 := X35.out.cell 3 rfl
        have f51 := X35.out.cell 4 rfl
        have z52 := X34.out.frozen 0
        have z53 := X34.out.frozen 1
        have z54 := X34.out.frozen 2
        have z55 := X34.out.frozen 3
        have z56 := X34.out.frozen 4
        have z57 := X34.out.frozen 5
        have z58 := X34.out.frozen 6
        have z59 := X34.out.frozen 7
        have z60 := X34.out.frozen 8
        have z61 := X35.out.frozen 0
        have z62 := X35.out.frozen 1
        have z63 := X35.out.frozen 2
        have z64 := X35.out.frozen 3
        have z65 := X35.out.frozen 4
        go_wp2_with (first | (go_at_call 51; refine (l01InA _ _ _ _).mono ?_; rintro e w' ⟨rfl, rfl⟩; (first | rw [hl'])))
        obtain ⟨W66, hW66⟩ : ∃ W66, W66 = (((((((((w2.setCell ⟨w.heap.size + 2, 0, none⟩ (.int .i64 0)).setCell ⟨w.heap.size + 2, 1, none⟩ (.int .i64 0)).setCell ⟨w.heap.size + 2, 2, none⟩ (.int .i64 0)).setCell ⟨w.heap.size + 2, 3, none⟩ (.int .i64 0)).setCell ⟨w.heap.size + 2, 4, none⟩ (.bool false)).setCell ⟨w.heap.size + 2, 5, none⟩ (.bool false)).setCell ⟨w.heap.size + 2, 6, none⟩ (.bool false)).setCell ⟨w.heap.size + 2, 7, none⟩ (.bool false)).setCell ⟨w.heap.size + 2, 8, none⟩ (.slice none 0 0)) := ⟨_, rfl⟩
        have hB67 : Btw (w.heap.size + 2) (w.heap.size + 2 + 1) w2 W66 := by rw [hW66]; exact ((((((((((Btw.refl _ _ _).setCell (p := ⟨w.heap.size + 2, 0, none⟩) (Nat.le_refl _) (Nat.lt_succ_self _) _).setCell (p := ⟨w.heap.size + 2, 1, none⟩) (Nat.le_refl _) (Nat.lt_succ_self _) _).setCell (p := ⟨w.heap.size + 2, 2, none⟩) (Nat.le_refl _) (Nat.lt_succ_self _) _).setCell (p := ⟨w.heap.size + 2, 3, none⟩) (Nat.le_refl _) (Nat.lt_succ_self _) _).setCell (p := ⟨w.heap.size + 2, 4, none⟩) (Nat.le_refl _) (Nat.lt_succ_self _) _).setCell (p := ⟨w.heap.size + 2, 5, none⟩) (Nat.le_refl _) (Nat.lt_succ_self _) _).setCell (p := ⟨w.heap.size + 2, 6, none⟩) (Nat.le_refl _) (Nat.lt_succ_self _) _).setCell (p := ⟨w.heap.size + 2, 7, none⟩) (Nat.le_refl _) (Nat.lt_succ_self _) _).setCell (p := ⟨w.heap.size + 2, 8, none⟩) (Nat.le_refl _) (Nat.lt_succ_self _) _)
        have X68 : Hid (Box W66 (w.heap.size + 2) 50 #[.int .i64 0, .int .i64 0, .int .i64 0, .int .i64 0, .bool false, .bool false, .bool false, .bool false, .slice none 0 0]) := Lib.hid (by rw [hW66]; exact (X34.out.allN9 rfl _ _ _ _ _ _ _ _ _))
        have X69 := Lib.hid (X32.out.btw hB67 (by have := Z2.out; have := Z26.out; have := Z37.out; omega))
        have X70 := Lib.hid (X33.out.btw hB67 (by have := Z2.out; have := Z26.out; have := Z37.out; omega))
        have X71 := Lib.hid (X35.out.btw hB67 (by have := Z2.out; have := Z26.out; have := Z37.out; omega))
        have hb72 := Btw.lowSize hB67 hb36 (Nat.le_of_lt X34.out.lt) (by have := Z2.out; have := Z26.out; have := Z37.out; omega)
        have Z73 : Hid (w2.heap.size ≤ W66.heap.size) := Lib.hid hB67.size
        rw [← hW66]
        clear hW66 hB67 X34 X32 X33 X35 hb36
        obtain ⟨W74, hW74⟩ : ∃ W74, W74 = (((((W66.setCell ⟨w.heap.size + 3, 0, none⟩ (.slice none 0 0)).setCell ⟨w.heap.size + 3, 1, none⟩ (.slice none 0 0)).setCell ⟨w.heap.size + 3, 2, none⟩ (.slice none 0 0)).setCell ⟨w.heap.size + 3, 3, none⟩ (.slice none 0 0)).setCell ⟨w.heap.size + 3, 4, none⟩ (.int .i64 0)) := ⟨_, rfl⟩
        have hB75 : Btw (w.heap.size + 3) (w.heap.size + 3 + 1) W66 W74 := by rw [hW74]; exact ((((((Btw.refl _ _ _).setCell (p := ⟨w.heap.size + 3, 0, none⟩) (Nat.le_refl _) (Nat.lt_succ_self _) _).setCell (p := ⟨w.heap.size + 3, 1, none⟩) (Nat.le_refl _) (Nat.lt_succ_self _) _).setCell (p := ⟨w.heap.size + 3, 2, none⟩) (Nat.le_refl _) (Nat.lt_succ_self _) _).setCell (p := ⟨w.heap.size + 3, 3, none⟩) (Nat.le_refl _) (Nat.lt_succ_self _) _).setCell (p := ⟨w.heap.size + 3, 4, none⟩) (Nat.le_refl _) (Nat.lt_succ_self _) _)
        have X76 : Hid (Box W74 (w.heap.size + 3) 28 #[.slice none 0 0, .slice none 0 0, .slice none 0 0, .slice none 0 0, .int .i64 0]) := Lib.hid (by rw [hW74]; exact (X71.out.allN5 rfl _ _ _ _ _))
        have X77 := Lib.hid (X69.out.btw hB75 (by have := Z2.out; have := Z26.out; have := Z37.out; have := Z73.out; omega))
        have X78 := Lib.hid (X70.out.btw hB75 (by have := Z2.out; have := Z26.out; have := Z37.out; have := Z73.out; omega))
        have X79 := Lib.hid (X68.out.btw hB75 (by have := Z2.out; have := Z26.out; have := Z37.out; have := Z73.out; omega))
        have hb80 := Btw.lowSize hB75 hb72 (Nat.le_of_lt X71.out.lt) (by have := Z2.out; have := Z26.out; have := Z37.out; have := Z73.out; omega)
        have Z81 : Hid (W66.heap.size ≤ W74.heap.size) := Lib.hid hB75.size
        rw [← hW74]
        clear hW74 hB75 X71 X69 X70 X68 hb72
        have r0 := X79.out
        have r1 := X76.out
        have s0 := r0.cell 0 rfl
        have s1 := r0.cell 1 rfl
        have s2 := r0.cell 2 rfl
        have s3 := r0.cell 3 rfl
        have s4 := r0.cell 4 rfl
        have s5 := r0.cell 5 rfl
        have s6 := r0.cell 6 rfl
        have s7 := r0.cell 7 rfl
        have s8 := r0.cell 8 rfl
        have t0 := r1.cell 0 rfl
        have t1 := r1.cell 1 rfl
        have t2 := r1.cell 2 rfl
        have t3 := r1.cell 3 rfl
        have t4 := r1.cell 4 rfl
        refine bodyPost_ret (v := .tuple #[.agg #[.int .i64 0, .int .i64 0, .int .i64 0, .int .i64 0, .bool false, .bool false, .bool false, .bool false, .slice none 0 0], .agg #[.slice none 0 0, .slice none 0 0, .slice none 0 0, .slice none 0 0, .int .i64 0], .int .i64 4]) (by simp [results, Try.results20, go_sem, s0, s1, s2, s3, s4, s5, s6, s7, s8, t0, t1, t2, t3, t4]) rfl ?_
        obtain ⟨g1, g2, g3⟩ := eirq_line (level := level) HKK.out hl'
        rw [g1, g2, g3]
        exact ⟨none, none, none, none, none, 0, 0, 0, 0, 0, rfl, Lib.hid (ownA5_nil _ _ _ (by have := Z2.out; have := Z26.out; have := Z37.out; have := Z73.out; have := Z81.out; omega)), hb80⟩
end Go.Proofs.Ytngoijchebfolaa

/- The processor that executes: a box with the fields, the bus and the swi; what its methods leave. -/
namespace Go.Proofs.Ytngoijchebfolaa
open Go.RowKit

/-- Where the parts of a processor lie. -/
structure PA where
  L : Nat
  R : Nat
  p : Nat
  g : Nat
  b0 : Nat
  b1 : Nat
  b2 : Nat
  b3 : Nat
  A : Option Addr
  A0 : Option Addr
  A1 : Option Addr
  c : Nat
  c0 : Nat
  c1 : Nat
def procC (a : PA) (d : CD) (s : Int) : Array Value := #[.int .i64 d.pc, .int .i64 d.sp, .int .i64 d.bank, .int .i64 d.level, .bool d.zero, .bool d.carry, .bool d.on, .bool d.halt, .slice a.A 16 a.c, .pointer (some ⟨a.b0, 0, none⟩), .pointer (some ⟨a.b1, 0, none⟩), .pointer (some ⟨a.b2, 0, none⟩), .pointer (some ⟨a.b3, 0, none⟩), .int .i64 s]
structure PrAt (w : World) (a : PA) (d : CD) (m : MD) (s : Int) : Prop where
  X : Box w a.p 103 (procC a d s)
  G : OwnI w a.L a.R a.A d.regs
  B : BusAt w a.R a.g a.b0 a.b1 a.b2 a.b3 a.A0 a.A1 a.c0 a.c1 m.r m.i m.z m.g m.s
  q : a.L ≤ a.R ∧ a.L ≤ a.p
theorem PrAt.step {w w' : World} {a : PA} {d : CD} {m : MD} {s : Int} (h : PrAt w a d m s) (k : Below w.heap.size w w') : PrAt w' a d m s := ⟨h.X.step k, h.G.below k, h.B.step k, h.q⟩
theorem PrAt.size {w : World} {a : PA} {d : CD} {m : MD} {s : Int} (h : PrAt w a d m s) : a.L ≤ w.heap.size := by
  have := h.X.lt
  have := h.q.2
  omega
theorem PrAt.cells {w : World} {a : PA} {d : CD} {m : MD} {s : Int} (h : PrAt w a d m s) :
    (w.cell? ⟨a.p, 0, none⟩ = some (.int .i64 d.pc) ∧ w.cell? ⟨a.p, 1, none⟩ = some (.int .i64 d.sp) ∧ w.cell? ⟨a.p, 2, none⟩ = some (.int .i64 d.bank) ∧ w.cell? ⟨a.p, 3, none⟩ = some (.int .i64 d.level) ∧ w.cell? ⟨a.p, 4, none⟩ = some (.bool d.zero) ∧ w.cell? ⟨a.p, 5, none⟩ = some (.bool d.carry) ∧ w.cell? ⟨a.p, 6, none⟩ = some (.bool d.on) ∧ w.cell? ⟨a.p, 7, none⟩ = some (.bool d.halt) ∧ w.cell? ⟨a.p, 8, none⟩ = some (.slice a.A 16 a.c)) ∧
    (w.cell? ⟨a.p, 9, none⟩ = some (.pointer (some ⟨a.b0, 0, none⟩)) ∧ w.cell? ⟨a.p, 10, none⟩ = some (.pointer (some ⟨a.b1, 0, none⟩)) ∧ w.cell? ⟨a.p, 11, none⟩ = some (.pointer (some ⟨a.b2, 0, none⟩)) ∧ w.cell? ⟨a.p, 12, none⟩ = some (.pointer (some ⟨a.b3, 0, none⟩)) ∧ w.cell? ⟨a.p, 13, none⟩ = some (.int .i64 s)) ∧ ∀ i, w.frozen? ⟨a.p, i, none⟩ = false :=
  ⟨⟨h.X.cell 0 rfl, h.X.cell 1 rfl, h.X.cell 2 rfl, h.X.cell 3 rfl, h.X.cell 4 rfl, h.X.cell 5 rfl, h.X.cell 6 rfl, h.X.cell 7 rfl, h.X.cell 8 rfl⟩, ⟨h.X.cell 9 rfl, h.X.cell 10 rfl, h.X.cell 11 rfl, h.X.cell 12 rfl, h.X.cell 13 rfl⟩, h.X.frozen⟩
theorem BusAt.setFar {w : World} {lo g b0 b1 b2 b3 : Nat} {A0 A1 : Option Addr} {c0 c1 : Nat} {ram io zs : List Int} {gs : List Bool} {st : Int} (B : BusAt w lo g b0 b1 b2 b3 A0 A1 c0 c1 ram io zs gs st) {b : Nat} {t : TypeId} {cs : Array Value} (X : Box w b t cs) (ht : t ≠ 3) (h0 : t ≠ 114) (h1 : t ≠ 115) (h2 : t ≠ 122) (h3 : t ≠ 124) (i : Nat) (u : Value) : BusAt (w.setCell ⟨b, i, none⟩ u) lo g b0 b1 b2 b3 A0 A1 c0 c1 ram io zs gs st :=
  ⟨B.r.far (p := ⟨b, i, none⟩) (B.r.box_ne X (Ne.symm h0)) u, B.i.far (p := ⟨b, i, none⟩) (B.i.box_ne X (Ne.symm h1)) u, B.f.far (p := ⟨b, i, none⟩) (B.f.box_ne X (Ne.symm h2)) u, B.o.far (p := ⟨b, i, none⟩) (B.o.box_ne X (Ne.symm h3)) u, B.R.farB X ht i u, (B.I.farB X ht i u).wideB (Nat.le_refl _) (by simp [World.setCell]), by simpa [World.setCell] using B.l⟩
/-- A field of the processor is written. -/
theorem PrAt.put {w : World} {a : PA} {d : CD} {m : MD} {s : Int} (h : PrAt w a d m s) (i : Nat) (u : Value) (d' : CD) (s' : Int) (hc : (procC a d s).setIfInBounds i u = procC a d' s') (hr : d'.regs = d.regs) : PrAt (w.setCell ⟨a.p, i, none⟩ u) a d' m s' :=
  ⟨hc ▸ h.X.set i u, hr ▸ h.G.farB h.X (by decide) i u, h.B.setFar h.X (by decide) (by decide) (by decide) (by decide) (by decide) i u, h.q⟩
/-- What a method may leave: the processor with other data; other boxes as they were. -/
def KeepsBox (w w' : World) : Prop := ∀ b t cs, t ≠ 3 → t ≠ 122 → t ≠ 103 → Box w b t cs → Box w' b t cs
theorem KeepsBox.refl (w : World) : KeepsBox w w := fun _ _ _ _ _ _ h => h
theorem KeepsBox.trans {a b c : World} (h : KeepsBox a b) (k : KeepsBox b c) : KeepsBox a c := fun x t cs h1 h2 h3 X => k x t cs h1 h2 h3 (h x t cs h1 h2 h3 X)
theorem KeepsBox.below {w w' : World} (k : Below w.heap.size w w') : KeepsBox w w' := fun _ _ _ _ _ _ X => X.step k
theorem KeepsBox.set {w : World} {b : Nat} {cs : Array Value} (X : Box w b 103 cs) (i : Nat) (u : Value) : KeepsBox w (w.setCell ⟨b, i, none⟩ u) := fun _ _ _ _ _ h3 Y => Y.far (p := ⟨b, i, none⟩) (Y.box_ne X h3) u
theorem KeepsBox.row {w : World} {b m : Nat} {f : Nat → Value} (X : w.rowIs b 3 m f) (i : Nat) (u : Value) : KeepsBox w (w.setCell ⟨b, i, none⟩ u) := fun _ _ _ h1 _ _ Y => Y.other X h1 i u
/-- From a world to a later one that the processor's methods leave. -/
structure Runs (L : Nat) (w w' : World) : Prop where
  kb : KeepsBox w w'
  bl : Below L w w'
theorem Runs.trans {L : Nat} {a b c : World} (h : Runs L a b) (k : Runs L b c) : Runs L a c := ⟨h.kb.trans k.kb, h.bl.trans k.bl⟩
theorem Runs.below {L : Nat} {w w' : World} (k : Below w.heap.size w w') (hl : L ≤ w.heap.size) : Runs L w w' := ⟨KeepsBox.below k, k.mono hl⟩
theorem PrAt.runs {w : World} {a : PA} {d : CD} {m : MD} {s : Int} (h : PrAt w a d m s) {L : Nat} (hl : L ≤ a.L) (i : Nat) (u : Value) : Runs L w (w.setCell ⟨a.p, i, none⟩ u) := ⟨KeepsBox.set h.X i u, (Below.refl _ _).setCell (p := ⟨a.p, i, none⟩) (Nat.le_trans hl h.q.2) u⟩
def GPr (a : PA) (d : CD) (m : MD) (s : Int) (w : World) (e : Ending) (w' : World) : Prop := e = .returned (.tuple #[]) ∧ Hid (PrAt w' a d m s) ∧ Hid (Runs a.L w w')
def GPrI (v : Int) (a : PA) (d : CD) (m : MD) (s : Int) (w : World) (e : Ending) (w' : World) : Prop := e = .returned (.int .i64 v) ∧ Hid (PrAt w' a d m s) ∧ Hid (Runs a.L w w')
end Go.Proofs.Ytngoijchebfolaa

/- The processor's own methods: wrap, place, flags, push, callAt, enter; processorOf. Written by gen_procm.py. -/
namespace Go.Proofs.Ytngoijchebfolaa
open Go.RowKit

set_option maxRecDepth 100000 in
theorem wrapI (v : Int) (w : World) : Calls Try.prog 120 #[.int .i64 v] w fun e w' => e = .returned (.int .i64 (v % 256)) ∧ w = w' := by
  have h := and_255 v
  go_enter Try.func120, Try.ntmps120
  go_wp2
  go_ret
  exact ⟨rfl, rfl⟩
def WritesM (a : PA) (m : MD) (w : World) (e : Ending) (w' : World) : Prop :=
  e = .returned (.tuple #[]) ∧ Hid (BusAt w' a.R a.g a.b0 a.b1 a.b2 a.b3 a.A0 a.A1 a.c0 a.c1 m.r m.i m.z m.g m.s) ∧ Hid (∀ b t cs, t ≠ 3 → t ≠ 122 → Box w b t cs → Box w' b t cs) ∧ Below a.R w w'
set_option maxRecDepth 100000 in
theorem busWriteM (a : PA) (m : MD) (w : World) (k v : Int) (h0 : 0 ≤ k) (h1 : k ≤ 4095) (hv0 : 0 ≤ v) (hv1 : v ≤ 255) (hm : m.Ok) (B : BusAt w a.R a.g a.b0 a.b1 a.b2 a.b3 a.A0 a.A1 a.c0 a.c1 m.r m.i m.z m.g m.s) :
    Calls Try.prog 86 #[.agg #[.pointer (some ⟨a.b0, 0, none⟩), .pointer (some ⟨a.b1, 0, none⟩), .pointer (some ⟨a.b2, 0, none⟩), .pointer (some ⟨a.b3, 0, none⟩)], .int .i64 k, .int .i64 v] w (WritesM a (m.put k v) w) := by
  obtain ⟨j, rfl⟩ : ∃ j : Nat, k = j := ⟨k.toNat, by omega⟩
  obtain ⟨u, rfl⟩ : ∃ u : Nat, v = u := ⟨v.toNat, by omega⟩
  exact busWrite a.R a.g a.b0 a.b1 a.b2 a.b3 a.A0 a.A1 a.c0 a.c1 m.r m.i m.z m.g m.s w j u (by omega) (by omega) hm.r hm.i hm.z hm.g hm.s hm.zb B
theorem OwnI.lowB {w w' : World} {lo hi n : Nat} {A : Option Addr} {zs : List Int} (h : OwnI w lo hi A zs) (k : Below n w w') (hn : hi ≤ n) : OwnI w' lo hi A zs := h.btw (Btw.of_low k) (.inl hn)
theorem PrAt.wrote {w w' : World} {a : PA} {d : CD} {m m' : MD} {s : Int} (h : PrAt w a d m s) (N1 : BusAt w' a.R a.g a.b0 a.b1 a.b2 a.b3 a.A0 a.A1 a.c0 a.c1 m'.r m'.i m'.z m'.g m'.s) (N2 : ∀ b t cs, t ≠ 3 → t ≠ 122 → Box w b t cs → Box w' b t cs) (N3 : Below a.R w w') : PrAt w' a d m' s :=
  ⟨N2 _ _ _ (by decide) (by decide) h.X, h.G.lowB N3 (Nat.le_refl _), N1, h.q⟩
theorem Runs.wrote {w w' : World} {L R : Nat} (hl : L ≤ R) (N2 : ∀ b t cs, t ≠ 3 → t ≠ 122 → Box w b t cs → Box w' b t cs) (N3 : Below R w w') : Runs L w w' := ⟨fun b t cs h1 h2 _ X => N2 b t cs h1 h2 X, N3.mono hl⟩
theorem Runs.refl (L : Nat) (w : World) : Runs L w w := ⟨KeepsBox.refl w, Below.refl _ _⟩
theorem Runs.drew (L : Nat) (w : World) : Runs L w w.drew := ⟨fun _ _ _ _ _ _ X => X.drew, (Below.refl _ _).drew⟩

set_option maxRecDepth 100000 in
set_option maxHeartbeats 2000000 in
theorem cpuFlags (A : Option Addr) (c : Nat) (d : CD) (w : World) (hd : d.Ok) :
    Calls Try.prog 106 #[.agg #[.int .i64 d.pc, .int .i64 d.sp, .int .i64 d.bank, .int .i64 d.level, .bool d.zero, .bool d.carry, .bool d.on, .bool d.halt, .slice A 16 c]] w fun e w' => e = .returned (.int .i64 d.flags) ∧ Below w.heap.size w w' := by
  have h1 := hd.bank
  have h2 := hd.level
  obtain ⟨h11, h12⟩ := h1
  obtain ⟨h21, h22⟩ := h2
  have HF : Hid (d.flags = d.level + 8 * d.bank + 32 * bitI d.zero + 64 * bitI d.carry + 128 * bitI d.on) := Lib.hid rfl
  clear hd
  obtain ⟨pc, sp, bank, level, zero, carry, on, halt, regs⟩ := d
  have hb0 := alloc_below w (.cells #[.int .i64 pc, .int .i64 sp, .int .i64 bank, .int .i64 level, .bool zero, .bool carry, .bool on, .bool halt, .slice A 16 c] 50)
  generalize CD.flags _ = f at HF ⊢
  simp only at h11 h12 h21 h22 HF ⊢
  cases zero <;> cases carry <;> cases on
  all_goals (
    go_enter Try.func106, Try.ntmps106
    go_wp2
    go_ret
    exact ⟨ret_int (by rw [HF.out]; simp [bitI]; try omega), hb0⟩)

set_option maxRecDepth 100000 in
set_option maxHeartbeats 2000000 in
theorem prPush (a : PA) (d : CD) (m : MD) (s : Int) (w : World) (v : Int) (hv : 0 ≤ v ∧ v ≤ 255) (hd : d.Ok) (hm : m.Ok) (h : PrAt w a d m s) :
    Calls Try.prog 105 #[.pointer (some ⟨a.p, 0, none⟩), .int .i64 v] w (GPr a d.down (m.put d.sp v) s w) := by
  have HC := h.cells
  have hsp := hd.sp
  have HW := Lib.hid (fun W => busWriteM a m W d.sp v (by omega) (by omega) hv.1 hv.2 hm)
  have HWr := Lib.hid (fun W => wrapI (d.sp - 1) W)
  have HP := Lib.hid h
  have HE : Hid (d.down = { d with sp := (d.sp - 1) % 256 }) := Lib.hid (by unfold CD.down; congr 1; omega)
  have HX0 : Hid (Box w.drew a.p 103 (procC a d s)) := Lib.hid h.X.drew
  have HK : Hid (∀ W, Box W a.p 103 (procC a d s) → W.cell? ⟨a.p, 1, none⟩ = some (.int .i64 d.sp) ∧ W.cell? ⟨a.p, 9, none⟩ = some (.pointer (some ⟨a.b0, 0, none⟩)) ∧ W.cell? ⟨a.p, 10, none⟩ = some (.pointer (some ⟨a.b1, 0, none⟩)) ∧ W.cell? ⟨a.p, 11, none⟩ = some (.pointer (some ⟨a.b2, 0, none⟩)) ∧ W.cell? ⟨a.p, 12, none⟩ = some (.pointer (some ⟨a.b3, 0, none⟩))) := Lib.hid (fun W X => ⟨X.cell 1 rfl, X.cell 9 rfl, X.cell 10 rfl, X.cell 11 rfl, X.cell 12 rfl⟩)
  have HB : Hid (BusAt w.drew a.R a.g a.b0 a.b1 a.b2 a.b3 a.A0 a.A1 a.c0 a.c1 m.r m.i m.z m.g m.s) := Lib.hid (h.B.step (Below.refl _ _).drew)
  have e2 : IntKind.i64.wrap (d.sp - 1) = d.sp - 1 := IntWalk.i64_in _ (by omega)
  obtain ⟨⟨c0, c1, c2, c3, c4, c5, c6, c7, c8⟩, ⟨c9, c10, c11, c12, c13⟩, cz⟩ := HC
  clear h hd hm hv hsp cz c0 c2 c3 c4 c5 c6 c7 c8 c13
  go_enter Try.func105, Try.ntmps105
  go_wp2
  go_region_held3 (fun W => W.cell? ⟨a.p, 1, none⟩ = some (.int .i64 d.sp) ∧ W.cell? ⟨a.p, 9, none⟩ = some (.pointer (some ⟨a.b0, 0, none⟩)) ∧ W.cell? ⟨a.p, 10, none⟩ = some (.pointer (some ⟨a.b1, 0, none⟩)) ∧ W.cell? ⟨a.p, 11, none⟩ = some (.pointer (some ⟨a.b2, 0, none⟩)) ∧ W.cell? ⟨a.p, 12, none⟩ = some (.pointer (some ⟨a.b3, 0, none⟩)))
    (first | exact HK.out _ HX0.out | exact HK.out _ HX1.out)
    (first | (go_at_call 86; refine (HW.out _ HB.out).mono ?_; rintro e w1 ⟨rfl, N1, N2, N3⟩; have HX1 := Lib.hid (N2.out _ _ _ (by decide) (by decide) HX0.out)))
  have HP1 := Lib.hid (PrAt.wrote ((HP.out.step (Below.refl _ _).drew)) N1.out N2.out N3)
  have HR1 := Lib.hid ((Runs.drew a.L w).trans (Runs.wrote HP.out.q.1 N2.out N3))
  obtain ⟨⟨_, x1, _⟩, _, xz⟩ := HP1.out.cells
  have xz1 := xz 1
  clear c1 c9 c10 c11 c12 N1 N2 N3 HP HX0 HX1 HK HB HW xz
  go_wp2_with (first | (go_at_call 120; refine (HWr.out _).mono ?_; rintro e w' ⟨rfl, rfl⟩))
  go_end0
  rw [HE.out]
  exact ⟨rfl, Lib.hid (HP1.out.put 1 _ _ _ rfl rfl), Lib.hid (HR1.out.trans (HP1.out.runs (Nat.le_refl _) 1 _))⟩
end Go.Proofs.Ytngoijchebfolaa
