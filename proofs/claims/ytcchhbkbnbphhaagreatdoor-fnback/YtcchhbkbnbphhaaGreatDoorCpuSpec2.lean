/- The model's processor: flags, an interrupt, its own registers. Written by gen_cpuspec2.py. -/
import Derived.Test.YtcchhbkbnbphhaaGreatDoorCpuSpec
import Derived.BigQuiet
import Derived.Deep.QuietTactic
namespace Go.Proofs.YtcchhbkbnbphhaaGreatDoor
open Go.RowKit

theorem bitI_range (b : Bool) : 0 ≤ bitI b ∧ bitI b ≤ 1 := by cases b <;> decide
set_option maxRecDepth 100000 in
theorem l01BitI (q : Bool) (w : World) : Calls Tryz.prog 113 #[.bool q] w fun e w' => e = .returned (.int .i64 (bitI q)) ∧ w = w' := l01Bit q w

set_option maxRecDepth 100000 in
set_option maxHeartbeats 4000000 in
theorem l08FlagsS (A : Option Addr) (c : Nat) (d : CD) (w : World) (hd : d.Ok) :
    Calls Tryz.prog 75 #[.agg #[.int .i64 d.pc, .int .i64 d.sp, .int .i64 d.bank, .int .i64 d.level, .bool d.zero, .bool d.carry, .bool d.on, .bool d.halt, .slice A 16 c]] w fun e w' => e = .returned (.int .i64 d.flags) ∧ Below w.heap.size w w' := by
  obtain ⟨W1, hW1⟩ : ∃ W1, W1 = (w.alloc (.cells #[.int .i64 d.pc, .int .i64 d.sp, .int .i64 d.bank, .int .i64 d.level, .bool d.zero, .bool d.carry, .bool d.on, .bool d.halt, .slice A 16 c] 25)) := ⟨_, rfl⟩
  have hb0 : Below w.heap.size w W1 := by rw [hW1]; exact ((Below.refl _ _).alloc (Nat.le_refl _) _)
  have Z2 : Hid (W1.heap.size = w.heap.size + 1) := Lib.hid (by rw [hW1]; simp)
  have X3 : Hid (Box W1 (w.heap.size) 25 #[.int .i64 d.pc, .int .i64 d.sp, .int .i64 d.bank, .int .i64 d.level, .bool d.zero, .bool d.carry, .bool d.on, .bool d.halt, .slice A 16 c]) := Lib.hid (by rw [hW1]; exact (Box.new w 25 #[.int .i64 d.pc, .int .i64 d.sp, .int .i64 d.bank, .int .i64 d.level, .bool d.zero, .bool d.carry, .bool d.on, .bool d.halt, .slice A 16 c]))
  have HW0 := Lib.hid hW1
  clear hW1
  have h1 := hd.bank
  have h2 := hd.level
  have q1 := bitI_range d.zero
  have q2 := bitI_range d.carry
  have q3 := bitI_range d.on
  have HF : Hid (d.flags = d.level + 8 * d.bank + 32 * bitI d.zero + 64 * bitI d.carry + 128 * bitI d.on) := Lib.hid rfl
  have B1 := Lib.hid (fun W => l01BitI d.zero W)
  have B2 := Lib.hid (fun W => l01BitI d.carry W)
  have B3 := Lib.hid (fun W => l01BitI d.on W)
  generalize d.flags = f at HF ⊢
  generalize bitI d.zero = x at HF B1 q1
  generalize bitI d.carry = y at HF B2 q2
  generalize bitI d.on = z at HF B3 q3
  obtain ⟨q11, q12⟩ := q1
  obtain ⟨q21, q22⟩ := q2
  obtain ⟨q31, q32⟩ := q3
  obtain ⟨h11, h12⟩ := h1
  obtain ⟨h21, h22⟩ := h2
  clear hd
  have f4 := X3.out.cell 0 rfl
  have f5 := X3.out.cell 1 rfl
  have f6 := X3.out.cell 2 rfl
  have f7 := X3.out.cell 3 rfl
  have f8 := X3.out.cell 4 rfl
  have f9 := X3.out.cell 5 rfl
  have f10 := X3.out.cell 6 rfl
  have f11 := X3.out.cell 7 rfl
  have f12 := X3.out.cell 8 rfl
  rw [HW0.out] at f4 f5 f6 f7 f8 f9 f10 f11 f12
  have hb1 := hb0.drew
  have Hb := Lib.hid hb0
  clear hb0
  go_enter Tryz.func75, Tryz.ntmps75
  go_wp2
  go_quiet (first | (go_at_call 113; first | exact quiet_same' (B1.out _) | exact quiet_same' (B2.out _) | exact quiet_same' (B3.out _)))
  go_wp2
  go_ret
  rw [HF.out]
  rw [← HW0.out]
  exact ⟨rfl, below_drewN Hb.out _⟩
theorem arr34 (T : Array Value) (h : T.size = 34) : ∃ t0 t1 t2 t3 t4 t5 t6 t7 t8 t9 t10 t11 t12 t13 t14 t15 t16 t17 t18 t19 t20 t21 t22 t23 t24 t25 t26 t27 t28 t29 t30 t31 t32 t33 : Value, T = #[t0, t1, t2, t3, t4, t5, t6, t7, t8, t9, t10, t11, t12, t13, t14, t15, t16, t17, t18, t19, t20, t21, t22, t23, t24, t25, t26, t27, t28, t29, t30, t31, t32, t33] := by
  obtain ⟨l⟩ := T
  match l, h with
  | t0 :: t1 :: t2 :: t3 :: t4 :: t5 :: t6 :: t7 :: t8 :: t9 :: t10 :: t11 :: t12 :: t13 :: t14 :: t15 :: t16 :: t17 :: t18 :: t19 :: t20 :: t21 :: t22 :: t23 :: t24 :: t25 :: t26 :: t27 :: t28 :: t29 :: t30 :: t31 :: t32 :: t33 :: [], _ => exact ⟨t0, t1, t2, t3, t4, t5, t6, t7, t8, t9, t10, t11, t12, t13, t14, t15, t16, t17, t18, t19, t20, t21, t22, t23, t24, t25, t26, t27, t28, t29, t30, t31, t32, t33, rfl⟩

set_option maxRecDepth 100000 in
set_option maxHeartbeats 4000000 in
theorem l08Enter (A : Option Addr) (c : Nat) (d : CD) (A0 A1 A2 A3 : Option Addr) (c0 c1 c2 c3 : Nat) (m : MD) (w : World) (line level : Int) (hl : 0 ≤ line ∧ line ≤ 7) (hv : 0 ≤ level ∧ level ≤ 7) (hc : RepC w A d) (hm : RepM w A0 A1 A2 A3 m) :
    Calls Tryz.prog 39 #[.agg #[.int .i64 d.pc, .int .i64 d.sp, .int .i64 d.bank, .int .i64 d.level, .bool d.zero, .bool d.carry, .bool d.on, .bool d.halt, .slice A 16 c], .agg #[.slice A0 256 c0, .slice A1 32 c1, .slice A2 256 c2, .slice A3 16 c3, .int .i64 m.s], .int .i64 line, .int .i64 level] w (ReadsCM (enterD d line level) (enterM d m) w) := by
  obtain ⟨W1, hW1⟩ : ∃ W1, W1 = ((((w.alloc (.cells #[.int .i64 d.pc, .int .i64 d.sp, .int .i64 d.bank, .int .i64 d.level, .bool d.zero, .bool d.carry, .bool d.on, .bool d.halt, .slice A 16 c] 25)).alloc (.cells #[.slice A0 256 c0, .slice A1 32 c1, .slice A2 256 c2, .slice A3 16 c3, .int .i64 m.s] 31)).alloc (.cells #[.int .i64 0, .int .i64 0, .int .i64 0, .int .i64 0, .bool false, .bool false, .bool false, .bool false, .slice none 0 0] 25)).alloc (.cells #[.slice none 0 0, .slice none 0 0, .slice none 0 0, .slice none 0 0, .int .i64 0] 31)) := ⟨_, rfl⟩
  have hb0 : Below w.heap.size w W1 := by rw [hW1]; exact (((((Below.refl _ _).alloc (Nat.le_refl _) _).alloc (by simp; try omega) _).alloc (by simp; try omega) _).alloc (by simp; try omega) _)
  have Z2 : Hid (W1.heap.size = w.heap.size + 4) := Lib.hid (by rw [hW1]; simp)
  have X3 : Hid (Box W1 (w.heap.size) 25 #[.int .i64 d.pc, .int .i64 d.sp, .int .i64 d.bank, .int .i64 d.level, .bool d.zero, .bool d.carry, .bool d.on, .bool d.halt, .slice A 16 c]) := Lib.hid (by rw [hW1]; exact ((((Box.new w 25 #[.int .i64 d.pc, .int .i64 d.sp, .int .i64 d.bank, .int .i64 d.level, .bool d.zero, .bool d.carry, .bool d.on, .bool d.halt, .slice A 16 c]).alloc _).alloc _).alloc _))
  have X4 : Hid (Box W1 (w.heap.size + 1) 31 #[.slice A0 256 c0, .slice A1 32 c1, .slice A2 256 c2, .slice A3 16 c3, .int .i64 m.s]) := Lib.hid (by rw [hW1]; simpa using (((Box.new (w.alloc (.cells #[.int .i64 d.pc, .int .i64 d.sp, .int .i64 d.bank, .int .i64 d.level, .bool d.zero, .bool d.carry, .bool d.on, .bool d.halt, .slice A 16 c] 25)) 31 #[.slice A0 256 c0, .slice A1 32 c1, .slice A2 256 c2, .slice A3 16 c3, .int .i64 m.s]).alloc _).alloc _))
  have X5 : Hid (Box W1 (w.heap.size + 2) 25 #[.int .i64 0, .int .i64 0, .int .i64 0, .int .i64 0, .bool false, .bool false, .bool false, .bool false, .slice none 0 0]) := Lib.hid (by rw [hW1]; simpa using ((Box.new ((w.alloc (.cells #[.int .i64 d.pc, .int .i64 d.sp, .int .i64 d.bank, .int .i64 d.level, .bool d.zero, .bool d.carry, .bool d.on, .bool d.halt, .slice A 16 c] 25)).alloc (.cells #[.slice A0 256 c0, .slice A1 32 c1, .slice A2 256 c2, .slice A3 16 c3, .int .i64 m.s] 31)) 25 #[.int .i64 0, .int .i64 0, .int .i64 0, .int .i64 0, .bool false, .bool false, .bool false, .bool false, .slice none 0 0]).alloc _))
  have X6 : Hid (Box W1 (w.heap.size + 3) 31 #[.slice none 0 0, .slice none 0 0, .slice none 0 0, .slice none 0 0, .int .i64 0]) := Lib.hid (by rw [hW1]; simpa using (Box.new (((w.alloc (.cells #[.int .i64 d.pc, .int .i64 d.sp, .int .i64 d.bank, .int .i64 d.level, .bool d.zero, .bool d.carry, .bool d.on, .bool d.halt, .slice A 16 c] 25)).alloc (.cells #[.slice A0 256 c0, .slice A1 32 c1, .slice A2 256 c2, .slice A3 16 c3, .int .i64 m.s] 31)).alloc (.cells #[.int .i64 0, .int .i64 0, .int .i64 0, .int .i64 0, .bool false, .bool false, .bool false, .bool false, .slice none 0 0] 25)) 31 #[.slice none 0 0, .slice none 0 0, .slice none 0 0, .slice none 0 0, .int .i64 0]))
  have F7 : Hid (RepC W1 A d) := Lib.hid (hc.below hb0)
  have F8 : Hid (RepM W1 A0 A1 A2 A3 m) := Lib.hid (hm.below hb0)
  have HW0 := Lib.hid hW1
  clear hW1
  have hO := hc.1
  have hN := hm.1
  have hO0 : ({ d with halt := false } : CD).Ok := ⟨hO.pc, hO.sp, hO.bank, hO.level, hO.len, hO.regs⟩
  have HFl := Lib.hid (fun W => l08FlagsS A c d W hO)
  have HCa := Lib.hid (fun W (q : RepC W A d) (r : RepM W A0 A1 A2 A3 m) => l08Call A c { d with halt := false } A0 A1 A2 A3 c0 c1 c2 c3 m W (704 + 4 * line) (by omega) (by omega) ⟨hO0, q.2⟩ r)
  have HM0 : Hid (callM { d with halt := false } m = callM d m) := Lib.hid rfl
  rw [HM0.out] at HCa
  have HPu := Lib.hid (fun Aa ca Ab Ac Ad Ae cb cc cd ce W (q : RepC W Aa (callD { d with halt := false } (704 + 4 * line))) (r : RepM W Ab Ac Ad Ae (callM d m)) => l08Push Aa ca (callD { d with halt := false } (704 + 4 * line)) Ab Ac Ad Ae cb cc cd ce (callM d m) W d.flags hO.flags q r)
  unfold ReadsCM at HCa HPu
  have HD : Hid (enterD d line level = { (callD { d with halt := false } (704 + 4 * line)).down with level := level }) := Lib.hid rfl
  have HM : Hid (enterM d m = (callM d m).put (callD { d with halt := false } (704 + 4 * line)).sp d.flags) := Lib.hid rfl
  have HOk := Lib.hid (CD.Ok.enter hO hl hv)
  rw [HD.out] at HOk
  rw [HD.out, HM.out]
  clear HD HM HM0
  generalize callM d m = m1 at HCa HPu ⊢
  generalize callD { d with halt := false } (704 + 4 * line) = d1 at HCa HPu HOk ⊢
  generalize d.flags = fl at HFl HPu ⊢
  generalize m1.put d1.sp fl = m2 at HPu ⊢
  generalize d1.down = d2 at HPu HOk ⊢
  have hl0 := hl.1
  have hl1 := hl.2
  clear hc hm hO hN hO0 hl hv
  have f9 := X3.out.cell 0 rfl
  have f10 := X3.out.cell 1 rfl
  have f11 := X3.out.cell 2 rfl
  have f12 := X3.out.cell 3 rfl
  have f13 := X3.out.cell 4 rfl
  have f14 := X3.out.cell 5 rfl
  have f15 := X3.out.cell 6 rfl
  have f16 := X3.out.cell 7 rfl
  have f17 := X3.out.cell 8 rfl
  have f18 := X4.out.cell 0 rfl
  have f19 := X4.out.cell 1 rfl
  have f20 := X4.out.cell 2 rfl
  have f21 := X4.out.cell 3 rfl
  have f22 := X4.out.cell 4 rfl
  rw [HW0.out] at f9 f10 f11 f12 f13 f14 f15 f16 f17 f18 f19 f20 f21 f22
  go_enter Tryz.func39, Tryz.ntmps39
  go_wp2_with fail
  rw [← HW0.out]
  rw [← HW0.out] at f9 f10 f11 f12 f13 f14 f15 f16 f17 f18 f19 f20 f21 f22
  clear f9 f10 f11 f12 f13 f14 f15 f16 f17 f18 f19 f20 f21 f22
  refine (HFl.out _).mono ?_
  rintro e w1 ⟨rfl, hq0⟩
  have X23 := Lib.hid (X3.out.step hq0)
  have X24 := Lib.hid (X4.out.step hq0)
  have X25 := Lib.hid (X5.out.step hq0)
  have X26 := Lib.hid (X6.out.step hq0)
  have F27 := Lib.hid (F7.out.below hq0)
  have F28 := Lib.hid (F8.out.below hq0)
  have hb29 := bt hb0 hq0
  have Z30 : Hid (W1.heap.size ≤ w1.heap.size) := Lib.hid hq0.size
  clear X3 X4 X5 X6 F7 F8 hb0 hq0
  clear HFl
  have f31 := X23.out.cell 0 rfl
  have f32 := X23.out.cell 1 rfl
  have f33 := X23.out.cell 2 rfl
  have f34 := X23.out.cell 3 rfl
  have f35 := X23.out.cell 4 rfl
  have f36 := X23.out.cell 5 rfl
  have f37 := X23.out.cell 6 rfl
  have f38 := X23.out.cell 7 rfl
  have f39 := X23.out.cell 8 rfl
  have f40 := X24.out.cell 0 rfl
  have f41 := X24.out.cell 1 rfl
  have f42 := X24.out.cell 2 rfl
  have f43 := X24.out.cell 3 rfl
  have f44 := X24.out.cell 4 rfl
  have z45 := X23.out.frozen 0
  have z46 := X23.out.frozen 1
  have z47 := X23.out.frozen 2
  have z48 := X23.out.frozen 3
  have z49 := X23.out.frozen 4
  have z50 := X23.out.frozen 5
  have z51 := X23.out.frozen 6
  have z52 := X23.out.frozen 7
  have z53 := X23.out.frozen 8
  go_wp2_with fail
  obtain ⟨W54, hW54⟩ : ∃ W54, W54 = (w1.setCell ⟨w.heap.size, 7, none⟩ (.bool false)) := ⟨_, rfl⟩
  have hB55 : Btw (w.heap.size) (w.heap.size + 1) w1 W54 := by rw [hW54]; exact ((Btw.refl _ _ _).setCell (p := ⟨w.heap.size, 7, none⟩) (Nat.le_refl _) (Nat.lt_succ_self _) _)
  have X56 : Hid (Box W54 (w.heap.size) 25 #[.int .i64 d.pc, .int .i64 d.sp, .int .i64 d.bank, .int .i64 d.level, .bool d.zero, .bool d.carry, .bool d.on, .bool false, .slice A 16 c]) := Lib.hid (by rw [hW54]; exact (X23.out.set 7 _))
  have X57 := Lib.hid (X24.out.btw hB55 (by have := Z2.out; have := Z30.out; omega))
  have X58 := Lib.hid (X25.out.btw hB55 (by have := Z2.out; have := Z30.out; omega))
  have X59 := Lib.hid (X26.out.btw hB55 (by have := Z2.out; have := Z30.out; omega))
  have F60 := Lib.hid (F27.out.off X23.out (by simp) hB55)
  have F61 := Lib.hid (F28.out.off X23.out (by simp) hB55)
  have hb62 := Btw.lowSize hB55 hb29 (Nat.le_of_lt X23.out.lt) (by have := Z2.out; have := Z30.out; omega)
  have Z63 : Hid (w1.heap.size ≤ W54.heap.size) := Lib.hid hB55.size
  rw [← hW54]
  clear hW54 hB55 X23 X24 X25 X26 F27 F28 hb29
  clear f31 f32 f33 f34 f35 f36 f37 f38 f39 f40 f41 f42 f43 f44 z45 z46 z47 z48 z49 z50 z51 z52 z53
  refine (HCa.out _ F60.out F61.out).mono ?_
  rintro e w2 ⟨A1, c1, B10, B11, B12, B13, e10, e11, e12, e13, rfl, NC1, NM1, hq1⟩
  have X64 := Lib.hid (X56.out.step hq1)
  have X65 := Lib.hid (X57.out.step hq1)
  have X66 := Lib.hid (X58.out.step hq1)
  have X67 := Lib.hid (X59.out.step hq1)
  have F68 := Lib.hid (F60.out.below hq1)
  have F69 := Lib.hid (F61.out.below hq1)
  have hb70 := bt hb62 hq1
  have Z71 : Hid (W54.heap.size ≤ w2.heap.size) := Lib.hid hq1.size
  clear X56 X57 X58 X59 F60 F61 hb62 hq1
  clear F68 F69
  clear HCa
  have f72 := X64.out.cell 0 rfl
  have f73 := X64.out.cell 1 rfl
  have f74 := X64.out.cell 2 rfl
  have f75 := X64.out.cell 3 rfl
  have f76 := X64.out.cell 4 rfl
  have f77 := X64.out.cell 5 rfl
  have f78 := X64.out.cell 6 rfl
  have f79 := X64.out.cell 7 rfl
  have f80 := X64.out.cell 8 rfl
  have f81 := X65.out.cell 0 rfl
  have f82 := X65.out.cell 1 rfl
  have f83 := X65.out.cell 2 rfl
  have f84 := X65.out.cell 3 rfl
  have f85 := X65.out.cell 4 rfl
  have z86 := X64.out.frozen 0
  have z87 := X64.out.frozen 1
  have z88 := X64.out.frozen 2
  have z89 := X64.out.frozen 3
  have z90 := X64.out.frozen 4
  have z91 := X64.out.frozen 5
  have z92 := X64.out.frozen 6
  have z93 := X64.out.frozen 7
  have z94 := X64.out.frozen 8
  have z95 := X65.out.frozen 0
  have z96 := X65.out.frozen 1
  have z97 := X65.out.frozen 2
  have z98 := X65.out.frozen 3
  have z99 := X65.out.frozen 4
  go_wp2_with fail
  obtain ⟨W100, hW100⟩ : ∃ W100, W100 = (((((((((w2.setCell ⟨w.heap.size, 0, none⟩ (.int .i64 d1.pc)).setCell ⟨w.heap.size, 1, none⟩ (.int .i64 d1.sp)).setCell ⟨w.heap.size, 2, none⟩ (.int .i64 d1.bank)).setCell ⟨w.heap.size, 3, none⟩ (.int .i64 d1.level)).setCell ⟨w.heap.size, 4, none⟩ (.bool d1.zero)).setCell ⟨w.heap.size, 5, none⟩ (.bool d1.carry)).setCell ⟨w.heap.size, 6, none⟩ (.bool d1.on)).setCell ⟨w.heap.size, 7, none⟩ (.bool d1.halt)).setCell ⟨w.heap.size, 8, none⟩ (.slice A1 16 c1)) := ⟨_, rfl⟩
  have hB101 : Btw (w.heap.size) (w.heap.size + 1) w2 W100 := by rw [hW100]; exact ((((((((((Btw.refl _ _ _).setCell (p := ⟨w.heap.size, 0, none⟩) (Nat.le_refl _) (Nat.lt_succ_self _) _).setCell (p := ⟨w.heap.size, 1, none⟩) (Nat.le_refl _) (Nat.lt_succ_self _) _).setCell (p := ⟨w.heap.size, 2, none⟩) (Nat.le_refl _) (Nat.lt_succ_self _) _).setCell (p := ⟨w.heap.size, 3, none⟩) (Nat.le_refl _) (Nat.lt_succ_self _) _).setCell (p := ⟨w.heap.size, 4, none⟩) (Nat.le_refl _) (Nat.lt_succ_self _) _).setCell (p := ⟨w.heap.size, 5, none⟩) (Nat.le_refl _) (Nat.lt_succ_self _) _).setCell (p := ⟨w.heap.size, 6, none⟩) (Nat.le_refl _) (Nat.lt_succ_self _) _).setCell (p := ⟨w.heap.size, 7, none⟩) (Nat.le_refl _) (Nat.lt_succ_self _) _).setCell (p := ⟨w.heap.size, 8, none⟩) (Nat.le_refl _) (Nat.lt_succ_self _) _)
  have X102 : Hid (Box W100 (w.heap.size) 25 #[.int .i64 d1.pc, .int .i64 d1.sp, .int .i64 d1.bank, .int .i64 d1.level, .bool d1.zero, .bool d1.carry, .bool d1.on, .bool d1.halt, .slice A1 16 c1]) := Lib.hid (by rw [hW100]; exact (X64.out.allN9 rfl _ _ _ _ _ _ _ _ _))
  have X103 := Lib.hid (X65.out.btw hB101 (by have := Z2.out; have := Z30.out; have := Z63.out; have := Z71.out; omega))
  have X104 := Lib.hid (X66.out.btw hB101 (by have := Z2.out; have := Z30.out; have := Z63.out; have := Z71.out; omega))
  have X105 := Lib.hid (X67.out.btw hB101 (by have := Z2.out; have := Z30.out; have := Z63.out; have := Z71.out; omega))
  have F106 := Lib.hid (NC1.out.off X64.out (by simp) hB101)
  have F107 := Lib.hid (NM1.out.off X64.out (by simp) hB101)
  have hb108 := Btw.lowSize hB101 hb70 (Nat.le_of_lt X64.out.lt) (by have := Z2.out; have := Z30.out; have := Z63.out; have := Z71.out; omega)
  have Z109 : Hid (w2.heap.size ≤ W100.heap.size) := Lib.hid hB101.size
  rw [← hW100]
  clear hW100 hB101 X64 X65 X66 X67 NC1 NM1 hb70
  obtain ⟨W110, hW110⟩ : ∃ W110, W110 = (((((W100.setCell ⟨w.heap.size + 1, 0, none⟩ (.slice B10 256 e10)).setCell ⟨w.heap.size + 1, 1, none⟩ (.slice B11 32 e11)).setCell ⟨w.heap.size + 1, 2, none⟩ (.slice B12 256 e12)).setCell ⟨w.heap.size + 1, 3, none⟩ (.slice B13 16 e13)).setCell ⟨w.heap.size + 1, 4, none⟩ (.int .i64 m1.s)) := ⟨_, rfl⟩
  have hB111 : Btw (w.heap.size + 1) (w.heap.size + 1 + 1) W100 W110 := by rw [hW110]; exact ((((((Btw.refl _ _ _).setCell (p := ⟨w.heap.size + 1, 0, none⟩) (Nat.le_refl _) (Nat.lt_succ_self _) _).setCell (p := ⟨w.heap.size + 1, 1, none⟩) (Nat.le_refl _) (Nat.lt_succ_self _) _).setCell (p := ⟨w.heap.size + 1, 2, none⟩) (Nat.le_refl _) (Nat.lt_succ_self _) _).setCell (p := ⟨w.heap.size + 1, 3, none⟩) (Nat.le_refl _) (Nat.lt_succ_self _) _).setCell (p := ⟨w.heap.size + 1, 4, none⟩) (Nat.le_refl _) (Nat.lt_succ_self _) _)
  have X112 : Hid (Box W110 (w.heap.size + 1) 31 #[.slice B10 256 e10, .slice B11 32 e11, .slice B12 256 e12, .slice B13 16 e13, .int .i64 m1.s]) := Lib.hid (by rw [hW110]; exact (X103.out.allN5 rfl _ _ _ _ _))
  have X113 := Lib.hid (X102.out.btw hB111 (by have := Z2.out; have := Z30.out; have := Z63.out; have := Z71.out; have := Z109.out; omega))
  have X114 := Lib.hid (X104.out.btw hB111 (by have := Z2.out; have := Z30.out; have := Z63.out; have := Z71.out; have := Z109.out; omega))
  have X115 := Lib.hid (X105.out.btw hB111 (by have := Z2.out; have := Z30.out; have := Z63.out; have := Z71.out; have := Z109.out; omega))
  have F116 := Lib.hid (F106.out.off X103.out (by simp) hB111)
  have F117 := Lib.hid (F107.out.off X103.out (by simp) hB111)
  have hb118 := Btw.lowSize hB111 hb108 (Nat.le_of_lt X103.out.lt) (by have := Z2.out; have := Z30.out; have := Z63.out; have := Z71.out; have := Z109.out; omega)
  have Z119 : Hid (W100.heap.size ≤ W110.heap.size) := Lib.hid hB111.size
  rw [← hW110]
  clear hW110 hB111 X103 X102 X104 X105 F106 F107 hb108
  clear f72 f73 f74 f75 f76 f77 f78 f79 f80 f81 f82 f83 f84 f85 z86 z87 z88 z89 z90 z91 z92 z93 z94 z95 z96 z97 z98 z99
  refine (HPu.out _ _ _ _ _ _ _ _ _ _ _ F116.out F117.out).mono ?_
  rintro e w3 ⟨A2, c2, B20, B21, B22, B23, e20, e21, e22, e23, rfl, NC2, NM2, hq2⟩
  have X120 := Lib.hid (X113.out.step hq2)
  have X121 := Lib.hid (X112.out.step hq2)
  have X122 := Lib.hid (X114.out.step hq2)
  have X123 := Lib.hid (X115.out.step hq2)
  have F124 := Lib.hid (F116.out.below hq2)
  have F125 := Lib.hid (F117.out.below hq2)
  have hb126 := bt hb118 hq2
  have Z127 : Hid (W110.heap.size ≤ w3.heap.size) := Lib.hid hq2.size
  clear X113 X112 X114 X115 F116 F117 hb118 hq2
  clear F124 F125
  clear HPu
  have f128 := X120.out.cell 0 rfl
  have f129 := X120.out.cell 1 rfl
  have f130 := X120.out.cell 2 rfl
  have f131 := X120.out.cell 3 rfl
  have f132 := X120.out.cell 4 rfl
  have f133 := X120.out.cell 5 rfl
  have f134 := X120.out.cell 6 rfl
  have f135 := X120.out.cell 7 rfl
  have f136 := X120.out.cell 8 rfl
  have f137 := X121.out.cell 0 rfl
  have f138 := X121.out.cell 1 rfl
  have f139 := X121.out.cell 2 rfl
  have f140 := X121.out.cell 3 rfl
  have f141 := X121.out.cell 4 rfl
  have f142 := X122.out.cell 0 rfl
  have f143 := X122.out.cell 1 rfl
  have f144 := X122.out.cell 2 rfl
  have f145 := X122.out.cell 3 rfl
  have f146 := X122.out.cell 4 rfl
  have f147 := X122.out.cell 5 rfl
  have f148 := X122.out.cell 6 rfl
  have f149 := X122.out.cell 7 rfl
  have f150 := X122.out.cell 8 rfl
  have f151 := X123.out.cell 0 rfl
  have f152 := X123.out.cell 1 rfl
  have f153 := X123.out.cell 2 rfl
  have f154 := X123.out.cell 3 rfl
  have f155 := X123.out.cell 4 rfl
  have z156 := X120.out.frozen 0
  have z157 := X120.out.frozen 1
  have z158 := X120.out.frozen 2
  have z159 := X120.out.frozen 3
  have z160 := X120.out.frozen 4
  have z161 := X120.out.frozen 5
  have z162 := X120.out.frozen 6
  have z163 := X120.out.frozen 7
  have z164 := X120.out.frozen 8
  have z165 := X121.out.frozen 0
  have z166 := X121.out.frozen 1
  have z167 := X121.out.frozen 2
  have z168 := X121.out.frozen 3
  have z169 := X121.out.frozen 4
  go_wp2
  obtain ⟨W170, hW170⟩ : ∃ W170, W170 = (((((((((w3.setCell ⟨w.heap.size, 0, none⟩ (.int .i64 d2.pc)).setCell ⟨w.heap.size, 1, none⟩ (.int .i64 d2.sp)).setCell ⟨w.heap.size, 2, none⟩ (.int .i64 d2.bank)).setCell ⟨w.heap.size, 3, none⟩ (.int .i64 d2.level)).setCell ⟨w.heap.size, 4, none⟩ (.bool d2.zero)).setCell ⟨w.heap.size, 5, none⟩ (.bool d2.carry)).setCell ⟨w.heap.size, 6, none⟩ (.bool d2.on)).setCell ⟨w.heap.size, 7, none⟩ (.bool d2.halt)).setCell ⟨w.heap.size, 8, none⟩ (.slice A2 16 c2)) := ⟨_, rfl⟩
  have hB171 : Btw (w.heap.size) (w.heap.size + 1) w3 W170 := by rw [hW170]; exact ((((((((((Btw.refl _ _ _).setCell (p := ⟨w.heap.size, 0, none⟩) (Nat.le_refl _) (Nat.lt_succ_self _) _).setCell (p := ⟨w.heap.size, 1, none⟩) (Nat.le_refl _) (Nat.lt_succ_self _) _).setCell (p := ⟨w.heap.size, 2, none⟩) (Nat.le_refl _) (Nat.lt_succ_self _) _).setCell (p := ⟨w.heap.size, 3, none⟩) (Nat.le_refl _) (Nat.lt_succ_self _) _).setCell (p := ⟨w.heap.size, 4, none⟩) (Nat.le_refl _) (Nat.lt_succ_self _) _).setCell (p := ⟨w.heap.size, 5, none⟩) (Nat.le_refl _) (Nat.lt_succ_self _) _).setCell (p := ⟨w.heap.size, 6, none⟩) (Nat.le_refl _) (Nat.lt_succ_self _) _).setCell (p := ⟨w.heap.size, 7, none⟩) (Nat.le_refl _) (Nat.lt_succ_self _) _).setCell (p := ⟨w.heap.size, 8, none⟩) (Nat.le_refl _) (Nat.lt_succ_self _) _)
  have X172 : Hid (Box W170 (w.heap.size) 25 #[.int .i64 d2.pc, .int .i64 d2.sp, .int .i64 d2.bank, .int .i64 d2.level, .bool d2.zero, .bool d2.carry, .bool d2.on, .bool d2.halt, .slice A2 16 c2]) := Lib.hid (by rw [hW170]; exact (X120.out.allN9 rfl _ _ _ _ _ _ _ _ _))
  have X173 := Lib.hid (X121.out.btw hB171 (by have := Z2.out; have := Z30.out; have := Z63.out; have := Z71.out; have := Z109.out; have := Z119.out; have := Z127.out; omega))
  have X174 := Lib.hid (X122.out.btw hB171 (by have := Z2.out; have := Z30.out; have := Z63.out; have := Z71.out; have := Z109.out; have := Z119.out; have := Z127.out; omega))
  have X175 := Lib.hid (X123.out.btw hB171 (by have := Z2.out; have := Z30.out; have := Z63.out; have := Z71.out; have := Z109.out; have := Z119.out; have := Z127.out; omega))
  have F176 := Lib.hid (NC2.out.off X120.out (by simp) hB171)
  have F177 := Lib.hid (NM2.out.off X120.out (by simp) hB171)
  have hb178 := Btw.lowSize hB171 hb126 (Nat.le_of_lt X120.out.lt) (by have := Z2.out; have := Z30.out; have := Z63.out; have := Z71.out; have := Z109.out; have := Z119.out; have := Z127.out; omega)
  have Z179 : Hid (w3.heap.size ≤ W170.heap.size) := Lib.hid hB171.size
  rw [← hW170]
  clear hW170 hB171 X120 X121 X122 X123 NC2 NM2 hb126
  obtain ⟨W180, hW180⟩ : ∃ W180, W180 = (((((W170.setCell ⟨w.heap.size + 1, 0, none⟩ (.slice B20 256 e20)).setCell ⟨w.heap.size + 1, 1, none⟩ (.slice B21 32 e21)).setCell ⟨w.heap.size + 1, 2, none⟩ (.slice B22 256 e22)).setCell ⟨w.heap.size + 1, 3, none⟩ (.slice B23 16 e23)).setCell ⟨w.heap.size + 1, 4, none⟩ (.int .i64 m2.s)) := ⟨_, rfl⟩
  have hB181 : Btw (w.heap.size + 1) (w.heap.size + 1 + 1) W170 W180 := by rw [hW180]; exact ((((((Btw.refl _ _ _).setCell (p := ⟨w.heap.size + 1, 0, none⟩) (Nat.le_refl _) (Nat.lt_succ_self _) _).setCell (p := ⟨w.heap.size + 1, 1, none⟩) (Nat.le_refl _) (Nat.lt_succ_self _) _).setCell (p := ⟨w.heap.size + 1, 2, none⟩) (Nat.le_refl _) (Nat.lt_succ_self _) _).setCell (p := ⟨w.heap.size + 1, 3, none⟩) (Nat.le_refl _) (Nat.lt_succ_self _) _).setCell (p := ⟨w.heap.size + 1, 4, none⟩) (Nat.le_refl _) (Nat.lt_succ_self _) _)
  have X182 : Hid (Box W180 (w.heap.size + 1) 31 #[.slice B20 256 e20, .slice B21 32 e21, .slice B22 256 e22, .slice B23 16 e23, .int .i64 m2.s]) := Lib.hid (by rw [hW180]; exact (X173.out.allN5 rfl _ _ _ _ _))
  have X183 := Lib.hid (X172.out.btw hB181 (by have := Z2.out; have := Z30.out; have := Z63.out; have := Z71.out; have := Z109.out; have := Z119.out; have := Z127.out; have := Z179.out; omega))
  have X184 := Lib.hid (X174.out.btw hB181 (by have := Z2.out; have := Z30.out; have := Z63.out; have := Z71.out; have := Z109.out; have := Z119.out; have := Z127.out; have := Z179.out; omega))
  have X185 := Lib.hid (X175.out.btw hB181 (by have := Z2.out; have := Z30.out; have := Z63.out; have := Z71.out; have := Z109.out; have := Z119.out; have := Z127.out; have := Z179.out; omega))
  have F186 := Lib.hid (F176.out.off X173.out (by simp) hB181)
  have F187 := Lib.hid (F177.out.off X173.out (by simp) hB181)
  have hb188 := Btw.lowSize hB181 hb178 (Nat.le_of_lt X173.out.lt) (by have := Z2.out; have := Z30.out; have := Z63.out; have := Z71.out; have := Z109.out; have := Z119.out; have := Z127.out; have := Z179.out; omega)
  have Z189 : Hid (W170.heap.size ≤ W180.heap.size) := Lib.hid hB181.size
  rw [← hW180]
  clear hW180 hB181 X173 X172 X174 X175 F176 F177 hb178
  obtain ⟨W190, hW190⟩ : ∃ W190, W190 = (W180.setCell ⟨w.heap.size, 3, none⟩ (.int .i64 level)) := ⟨_, rfl⟩
  have hB191 : Btw (w.heap.size) (w.heap.size + 1) W180 W190 := by rw [hW190]; exact ((Btw.refl _ _ _).setCell (p := ⟨w.heap.size, 3, none⟩) (Nat.le_refl _) (Nat.lt_succ_self _) _)
  have X192 : Hid (Box W190 (w.heap.size) 25 #[.int .i64 d2.pc, .int .i64 d2.sp, .int .i64 d2.bank, .int .i64 level, .bool d2.zero, .bool d2.carry, .bool d2.on, .bool d2.halt, .slice A2 16 c2]) := Lib.hid (by rw [hW190]; exact (X183.out.set 3 _))
  have X193 := Lib.hid (X182.out.btw hB191 (by have := Z2.out; have := Z30.out; have := Z63.out; have := Z71.out; have := Z109.out; have := Z119.out; have := Z127.out; have := Z179.out; have := Z189.out; omega))
  have X194 := Lib.hid (X184.out.btw hB191 (by have := Z2.out; have := Z30.out; have := Z63.out; have := Z71.out; have := Z109.out; have := Z119.out; have := Z127.out; have := Z179.out; have := Z189.out; omega))
  have X195 := Lib.hid (X185.out.btw hB191 (by have := Z2.out; have := Z30.out; have := Z63.out; have := Z71.out; have := Z109.out; have := Z119.out; have := Z127.out; have := Z179.out; have := Z189.out; omega))
  have F196 := Lib.hid (F186.out.off X183.out (by simp) hB191)
  have F197 := Lib.hid (F187.out.off X183.out (by simp) hB191)
  have hb198 := Btw.lowSize hB191 hb188 (Nat.le_of_lt X183.out.lt) (by have := Z2.out; have := Z30.out; have := Z63.out; have := Z71.out; have := Z109.out; have := Z119.out; have := Z127.out; have := Z179.out; have := Z189.out; omega)
  have Z199 : Hid (W180.heap.size ≤ W190.heap.size) := Lib.hid hB191.size
  rw [← hW190]
  clear hW190 hB191 X183 X182 X184 X185 F186 F187 hb188
  refine wp_region_facts (by kernel_rfl) [[32], [33], [], []] [[], [], [0], [1]] [4, 5, 8, 9] (by kernel_rfl) (RetC W190 (w.heap.size) (w.heap.size + 1) (w.heap.size + 2) (w.heap.size + 3) 25 31 #[.int .i64 d2.pc, .int .i64 d2.sp, .int .i64 d2.bank, .int .i64 level, .bool d2.zero, .bool d2.carry, .bool d2.on, .bool d2.halt, .slice A2 16 c2] #[.slice B20 256 e20, .slice B21 32 e21, .slice B22 256 e22, .slice B23 16 e23, .int .i64 m2.s]) (RetF 32 33 (w.heap.size + 2) (w.heap.size + 3) 25 31 #[.int .i64 d2.pc, .int .i64 d2.sp, .int .i64 d2.bank, .int .i64 level, .bool d2.zero, .bool d2.carry, .bool d2.on, .bool d2.halt, .slice A2 16 c2] #[.slice B20 256 e20, .slice B21 32 e21, .slice B22 256 e22, .slice B23 16 e23, .int .i64 m2.s] 0 1 2 3 (fun _ _ => True)) ⟨(Btw.refl _ _ _).drew, ⟨_, by rfl, X194.out.drew⟩, ⟨_, by rfl, X195.out.drew⟩, X192.out.drew, X193.out.drew, by have := Z2.out; have := Z30.out; have := Z63.out; have := Z71.out; have := Z109.out; have := Z119.out; have := Z127.out; have := Z179.out; have := Z189.out; have := Z199.out; omega⟩ ⟨ret_load1 rfl 4 rfl rfl (by decide) rfl _ Tryz.underlying25 rfl infoCpu9 (by decide) (by show 32 < 34; decide), ret_load2 rfl (by decide) 5 rfl rfl (by decide) rfl _ Tryz.underlying31 rfl infoMem5 (by decide) (by show 33 < 34; decide), ret_store1 rfl (by decide) (by decide) 8 rfl (by decide) rfl (by decide) (by decide) infoCpu9 one9, ret_store2 rfl (by decide) (by decide) (by decide) (by decide) 9 rfl (by decide) rfl (by decide) (by decide) infoMem5 one5, trivial⟩ ?_
  intro T W hT hs hC hF
  obtain ⟨t0, t1, t2, t3, t4, t5, t6, t7, t8, t9, t10, t11, t12, t13, t14, t15, t16, t17, t18, t19, t20, t21, t22, t23, t24, t25, t26, t27, t28, t29, t30, t31, t32, t33, rfl⟩ := arr34 T hT
  obtain rfl : t8 = .pointer (some ⟨w.heap.size + 2, 0, none⟩) := hs 8 (by decide)
  obtain rfl : t9 = .pointer (some ⟨w.heap.size + 3, 0, none⟩) := hs 9 (by decide)
  have R1 : Box W (w.heap.size + 2) 25 #[.int .i64 d2.pc, .int .i64 d2.sp, .int .i64 d2.bank, .int .i64 level, .bool d2.zero, .bool d2.carry, .bool d2.on, .bool d2.halt, .slice A2 16 c2] := hF 2 (by decide)
  have R2 : Box W (w.heap.size + 3) 31 #[.slice B20 256 e20, .slice B21 32 e21, .slice B22 256 e22, .slice B23 16 e23, .int .i64 m2.s] := hF 3 (by decide)
  have HC := Lib.hid hC.k
  clear hF hs hT hC
  go_wp2
  refine bodyPost_ret (v := .tuple #[.agg #[.int .i64 d2.pc, .int .i64 d2.sp, .int .i64 d2.bank, .int .i64 level, .bool d2.zero, .bool d2.carry, .bool d2.on, .bool d2.halt, .slice A2 16 c2], .agg #[.slice B20 256 e20, .slice B21 32 e21, .slice B22 256 e22, .slice B23 16 e23, .int .i64 m2.s]]) (results_cc Tryz.results39 rfl rfl R1 R2 Tryz.underlying25 rfl infoCpu9 Tryz.underlying31 rfl infoMem5) rfl ?_
  have hbW := HC.out.lowSize hb198 (Nat.le_of_lt X194.out.lt) (by have := Z2.out; have := Z30.out; have := Z63.out; have := Z71.out; have := Z109.out; have := Z119.out; have := Z127.out; have := Z179.out; have := Z189.out; have := Z199.out; omega)
  exact ⟨_, _, _, _, _, _, _, _, _, _, rfl, Lib.hid ⟨HOk.out, (F196.out.off2 X194.out X195.out (by simp) (by simp) HC.out).2⟩, Lib.hid (F197.out.off2 X194.out X195.out (by simp) (by simp) HC.out), hbW⟩

def GivesC (d : CD) (w : World) (e : Ending) (w' : World) : Prop :=
  ∃ A c, e = .returned (.agg #[.int .i64 d.pc, .int .i64 d.sp, .int .i64 d.bank, .int .i64 d.level, .bool d.zero, .bool d.carry, .bool d.on, .bool d.halt, .slice A 16 c]) ∧ Hid (OwnI w' w.heap.size w'.heap.size A d.regs) ∧ Below w.heap.size w w'

set_option maxRecDepth 100000 in
set_option maxHeartbeats 4000000 in
theorem l08Own (A : Option Addr) (c : Nat) (d : CD) (w : World) (hc : RepC w A d) :
    Calls Tryz.prog 28 #[.agg #[.int .i64 d.pc, .int .i64 d.sp, .int .i64 d.bank, .int .i64 d.level, .bool d.zero, .bool d.carry, .bool d.on, .bool d.halt, .slice A 16 c]] w (GivesC d w) := by
  obtain ⟨W1, hW1⟩ : ∃ W1, W1 = ((w.alloc (.cells #[.int .i64 d.pc, .int .i64 d.sp, .int .i64 d.bank, .int .i64 d.level, .bool d.zero, .bool d.carry, .bool d.on, .bool d.halt, .slice A 16 c] 25)).alloc (.cells #[.int .i64 0, .int .i64 0, .int .i64 0, .int .i64 0, .bool false, .bool false, .bool false, .bool false, .slice none 0 0] 25)) := ⟨_, rfl⟩
  have hb0 : Below w.heap.size w W1 := by rw [hW1]; exact (((Below.refl _ _).alloc (Nat.le_refl _) _).alloc (by simp; try omega) _)
  have Z2 : Hid (W1.heap.size = w.heap.size + 2) := Lib.hid (by rw [hW1]; simp)
  have X3 : Hid (Box W1 (w.heap.size) 25 #[.int .i64 d.pc, .int .i64 d.sp, .int .i64 d.bank, .int .i64 d.level, .bool d.zero, .bool d.carry, .bool d.on, .bool d.halt, .slice A 16 c]) := Lib.hid (by rw [hW1]; exact ((Box.new w 25 #[.int .i64 d.pc, .int .i64 d.sp, .int .i64 d.bank, .int .i64 d.level, .bool d.zero, .bool d.carry, .bool d.on, .bool d.halt, .slice A 16 c]).alloc _))
  have X4 : Hid (Box W1 (w.heap.size + 1) 25 #[.int .i64 0, .int .i64 0, .int .i64 0, .int .i64 0, .bool false, .bool false, .bool false, .bool false, .slice none 0 0]) := Lib.hid (by rw [hW1]; simpa using (Box.new (w.alloc (.cells #[.int .i64 d.pc, .int .i64 d.sp, .int .i64 d.bank, .int .i64 d.level, .bool d.zero, .bool d.carry, .bool d.on, .bool d.halt, .slice A 16 c] 25)) 25 #[.int .i64 0, .int .i64 0, .int .i64 0, .int .i64 0, .bool false, .bool false, .bool false, .bool false, .slice none 0 0]))
  have HW0 := Lib.hid hW1
  clear hW1
  have HS := Lib.hid (fun W (hb : Below w.heap.size w W) => (hc.2.below hb).src (by rw [hc.1.len]; decide))
  have HC : Hid ((cellsI d.regs).length = 16 * 1) := Lib.hid (by rw [cellsI_len, hc.1.len])
  have hba := bt hb0 (alloc_below W1 (.cells #[] 3))
  have x0 : (W1.alloc (.cells #[] 3)).cell? ⟨w.heap.size, 0, none⟩ = some (.int .i64 d.pc) := (X3.out.alloc _).cell 0 rfl
  have x1 : (W1.alloc (.cells #[] 3)).cell? ⟨w.heap.size, 1, none⟩ = some (.int .i64 d.sp) := (X3.out.alloc _).cell 1 rfl
  have x2 : (W1.alloc (.cells #[] 3)).cell? ⟨w.heap.size, 2, none⟩ = some (.int .i64 d.bank) := (X3.out.alloc _).cell 2 rfl
  have x3 : (W1.alloc (.cells #[] 3)).cell? ⟨w.heap.size, 3, none⟩ = some (.int .i64 d.level) := (X3.out.alloc _).cell 3 rfl
  have x4 : (W1.alloc (.cells #[] 3)).cell? ⟨w.heap.size, 4, none⟩ = some (.bool d.zero) := (X3.out.alloc _).cell 4 rfl
  have x5 : (W1.alloc (.cells #[] 3)).cell? ⟨w.heap.size, 5, none⟩ = some (.bool d.carry) := (X3.out.alloc _).cell 5 rfl
  have x6 : (W1.alloc (.cells #[] 3)).cell? ⟨w.heap.size, 6, none⟩ = some (.bool d.on) := (X3.out.alloc _).cell 6 rfl
  have x7 : (W1.alloc (.cells #[] 3)).cell? ⟨w.heap.size, 7, none⟩ = some (.bool d.halt) := (X3.out.alloc _).cell 7 rfl
  have x8 : (W1.alloc (.cells #[] 3)).cell? ⟨w.heap.size, 8, none⟩ = some (.slice A 16 c) := (X3.out.alloc _).cell 8 rfl
  have hsz : w.heap.size ≤ W1.heap.size := by have := Z2.out; omega
  clear hc
  go_enter Tryz.func28, Tryz.ntmps28
  rw [HW0.out] at x0 x1 x2 x3 x4 x5 x6 x7 x8
  go_wp2_with (first | (with_reducible refine wpList_app_fresh rfl (.tmp 3) (.tmp 5) 23 rfl 3 (.int .i64 0) 1 8 Tryz.underlying23 infoIx rfl (by decide) _ rfl A 16 c (by omega) (cellsI d.regs) rfl HC.out (by rw [← HW0.out]; exact HS.out _ hba) (by unfold maxLen; omega) (by omega) ?_))
  rw [← HW0.out]
  intro B e w1 hb1 O1
  have hk1 := (alloc_below W1 (.cells #[] 3)).trans (hb1.mono (by have := Z2.out; omega))
  have FO := Lib.hid (ownI_fresh (lo := w.heap.size) O1.out (by omega) (by omega))
  clear x0 x1 x2 x3 x4 x5 x6 x7 x8 HS HC hba O1 hb1 hsz
  have X5 := Lib.hid (X3.out.step hk1)
  have X6 := Lib.hid (X4.out.step hk1)
  have hb7 := bt hb0 hk1
  have Z8 : Hid (W1.heap.size ≤ w1.heap.size) := Lib.hid hk1.size
  clear X3 X4 hb0 hk1
  have f9 := X5.out.cell 0 rfl
  have f10 := X5.out.cell 1 rfl
  have f11 := X5.out.cell 2 rfl
  have f12 := X5.out.cell 3 rfl
  have f13 := X5.out.cell 4 rfl
  have f14 := X5.out.cell 5 rfl
  have f15 := X5.out.cell 6 rfl
  have f16 := X5.out.cell 7 rfl
  have f17 := X5.out.cell 8 rfl
  have f18 := X6.out.cell 0 rfl
  have f19 := X6.out.cell 1 rfl
  have f20 := X6.out.cell 2 rfl
  have f21 := X6.out.cell 3 rfl
  have f22 := X6.out.cell 4 rfl
  have f23 := X6.out.cell 5 rfl
  have f24 := X6.out.cell 6 rfl
  have f25 := X6.out.cell 7 rfl
  have f26 := X6.out.cell 8 rfl
  have z27 := X5.out.frozen 0
  have z28 := X5.out.frozen 1
  have z29 := X5.out.frozen 2
  have z30 := X5.out.frozen 3
  have z31 := X5.out.frozen 4
  have z32 := X5.out.frozen 5
  have z33 := X5.out.frozen 6
  have z34 := X5.out.frozen 7
  have z35 := X5.out.frozen 8
  have z36 := X6.out.frozen 0
  have z37 := X6.out.frozen 1
  have z38 := X6.out.frozen 2
  have z39 := X6.out.frozen 3
  have z40 := X6.out.frozen 4
  have z41 := X6.out.frozen 5
  have z42 := X6.out.frozen 6
  have z43 := X6.out.frozen 7
  have z44 := X6.out.frozen 8
  go_wp2
  obtain ⟨W45, hW45⟩ : ∃ W45, W45 = (w1.setCell ⟨w.heap.size, 8, none⟩ (.slice B 16 e)) := ⟨_, rfl⟩
  have hB46 : Btw (w.heap.size) (w.heap.size + 1) w1 W45 := by rw [hW45]; exact ((Btw.refl _ _ _).setCell (p := ⟨w.heap.size, 8, none⟩) (Nat.le_refl _) (Nat.lt_succ_self _) _)
  have X47 : Hid (Box W45 (w.heap.size) 25 #[.int .i64 d.pc, .int .i64 d.sp, .int .i64 d.bank, .int .i64 d.level, .bool d.zero, .bool d.carry, .bool d.on, .bool d.halt, .slice B 16 e]) := Lib.hid (by rw [hW45]; exact (X5.out.set 8 _))
  have X48 := Lib.hid (X6.out.btw hB46 (by have := Z2.out; have := Z8.out; omega))
  have F49 := Lib.hid (FO.out.awayB X5.out (by decide) hB46)
  have hb50 := Btw.lowSize hB46 hb7 (Nat.le_of_lt X5.out.lt) (by have := Z2.out; have := Z8.out; omega)
  have Z51 : Hid (w1.heap.size ≤ W45.heap.size) := Lib.hid hB46.size
  rw [← hW45]
  clear hW45 hB46 X5 X6 FO hb7
  obtain ⟨W52, hW52⟩ : ∃ W52, W52 = (((((((((W45.setCell ⟨w.heap.size + 1, 0, none⟩ (.int .i64 d.pc)).setCell ⟨w.heap.size + 1, 1, none⟩ (.int .i64 d.sp)).setCell ⟨w.heap.size + 1, 2, none⟩ (.int .i64 d.bank)).setCell ⟨w.heap.size + 1, 3, none⟩ (.int .i64 d.level)).setCell ⟨w.heap.size + 1, 4, none⟩ (.bool d.zero)).setCell ⟨w.heap.size + 1, 5, none⟩ (.bool d.carry)).setCell ⟨w.heap.size + 1, 6, none⟩ (.bool d.on)).setCell ⟨w.heap.size + 1, 7, none⟩ (.bool d.halt)).setCell ⟨w.heap.size + 1, 8, none⟩ (.slice B 16 e)) := ⟨_, rfl⟩
  have hB53 : Btw (w.heap.size + 1) (w.heap.size + 1 + 1) W45 W52 := by rw [hW52]; exact ((((((((((Btw.refl _ _ _).setCell (p := ⟨w.heap.size + 1, 0, none⟩) (Nat.le_refl _) (Nat.lt_succ_self _) _).setCell (p := ⟨w.heap.size + 1, 1, none⟩) (Nat.le_refl _) (Nat.lt_succ_self _) _).setCell (p := ⟨w.heap.size + 1, 2, none⟩) (Nat.le_refl _) (Nat.lt_succ_self _) _).setCell (p := ⟨w.heap.size + 1, 3, none⟩) (Nat.le_refl _) (Nat.lt_succ_self _) _).setCell (p := ⟨w.heap.size + 1, 4, none⟩) (Nat.le_refl _) (Nat.lt_succ_self _) _).setCell (p := ⟨w.heap.size + 1, 5, none⟩) (Nat.le_refl _) (Nat.lt_succ_self _) _).setCell (p := ⟨w.heap.size + 1, 6, none⟩) (Nat.le_refl _) (Nat.lt_succ_self _) _).setCell (p := ⟨w.heap.size + 1, 7, none⟩) (Nat.le_refl _) (Nat.lt_succ_self _) _).setCell (p := ⟨w.heap.size + 1, 8, none⟩) (Nat.le_refl _) (Nat.lt_succ_self _) _)
  have X54 : Hid (Box W52 (w.heap.size + 1) 25 #[.int .i64 d.pc, .int .i64 d.sp, .int .i64 d.bank, .int .i64 d.level, .bool d.zero, .bool d.carry, .bool d.on, .bool d.halt, .slice B 16 e]) := Lib.hid (by rw [hW52]; exact (X48.out.allN9 rfl _ _ _ _ _ _ _ _ _))
  have X55 := Lib.hid (X47.out.btw hB53 (by have := Z2.out; have := Z8.out; have := Z51.out; omega))
  have F56 := Lib.hid (F49.out.awayB X48.out (by decide) hB53)
  have hb57 := Btw.lowSize hB53 hb50 (Nat.le_of_lt X48.out.lt) (by have := Z2.out; have := Z8.out; have := Z51.out; omega)
  have Z58 : Hid (W45.heap.size ≤ W52.heap.size) := Lib.hid hB53.size
  rw [← hW52]
  clear hW52 hB53 X48 X47 F49 hb50
  have r0 := X54.out
  have s0 := r0.cell 0 rfl
  have s1 := r0.cell 1 rfl
  have s2 := r0.cell 2 rfl
  have s3 := r0.cell 3 rfl
  have s4 := r0.cell 4 rfl
  have s5 := r0.cell 5 rfl
  have s6 := r0.cell 6 rfl
  have s7 := r0.cell 7 rfl
  have s8 := r0.cell 8 rfl
  refine bodyPost_ret (v := .agg #[.int .i64 d.pc, .int .i64 d.sp, .int .i64 d.bank, .int .i64 d.level, .bool d.zero, .bool d.carry, .bool d.on, .bool d.halt, .slice B 16 e]) (by simp [results, Tryz.results28, go_sem, s0, s1, s2, s3, s4, s5, s6, s7, s8]) rfl ?_
  exact ⟨B, e, rfl, Lib.hid (F56.out.wideB (Nat.le_refl _) (by have := Z2.out; have := Z8.out; have := Z51.out; have := Z58.out; omega)), hb57⟩
end Go.Proofs.YtcchhbkbnbphhaaGreatDoor
