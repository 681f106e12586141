/- Texts of this claim, one behind the other: ProcM2, EirqI, EirqA, GenCpu, RegTwo, GenK, GenChannel, Open. -/
import Derived.Deep.Slices
import Derived.Lib.SmallJoins
import Derived.Test.YtngoijchebfolaaM7
/- The processor's callAt and enter; processorOf. Written by gen_procm2.py. -/
namespace Go.Proofs.Ytngoijchebfolaa
open Go.RowKit

set_option maxRecDepth 100000 in
set_option maxHeartbeats 2000000 in
theorem prCallAt (a : PA) (d : CD) (m : MD) (s : Int) (w : World) (at' : Int) (hd : d.Ok) (hm : m.Ok) (h : PrAt w a d m s) :
    Calls Try.prog 104 #[.pointer (some ⟨a.p, 0, none⟩), .int .i64 at'] w (GPr a (callD d at') (callM d m) s w) := by
  have hpc := hd.pc
  obtain ⟨hpc0, hpc1⟩ := hpc
  have H1 := Lib.hid (fun W (q : PrAt W a d m s) => prPush a d m s W (d.pc / 256) (by omega) hd hm q)
  have H2 := Lib.hid (fun W (q : PrAt W a d.down (m.put d.sp (d.pc / 256)) s) => prPush a d.down (m.put d.sp (d.pc / 256)) s W (d.down.pc % 256) (by omega) hd.down (hm.put (by have := hd.sp; omega) (by have := hd.sp; omega) (by omega)) q)
  unfold GPr at H1 H2
  have HM : Hid (callM d m = (m.put d.sp (d.pc / 256)).put d.down.sp (d.down.pc % 256)) := Lib.hid rfl
  have HD : Hid (callD d at' = d.down.down.at at') := Lib.hid rfl
  rw [HM.out, HD.out]
  have hdp0 : 0 ≤ d.down.pc := hpc0
  have hdp1 : d.down.pc ≤ 4095 := hpc1
  generalize m.put d.sp (d.pc / 256) = m1 at H1 H2 ⊢
  generalize d.down = d1 at H1 H2 hdp0 hdp1 ⊢
  generalize m1.put d1.sp (d1.pc % 256) = m2 at H2 ⊢
  generalize d1.down = d2 at H2 ⊢
  have e1 : d.pc.tdiv 256 = d.pc / 256 := Int.tdiv_eq_ediv_of_nonneg hpc0
  have e2 : IntKind.i64.wrap (d.pc / 256) = d.pc / 256 := IntWalk.i64_in _ (by omega)
  have e3 : d1.pc.tmod 256 = d1.pc % 256 := Int.tmod_eq_emod_of_nonneg hdp0
  have HP := Lib.hid h
  obtain ⟨⟨c0, _, _, _, _, _, _, _, _⟩, ⟨_, _, _, _, _⟩, cz⟩ := HP.out.cells
  clear h hd hm HM HD cz
  go_enter Try.func104, Try.ntmps104
  go_wp2_with fail
  refine (H1.out _ HP.out).mono ?_
  rintro e w1 ⟨rfl, P1, R1⟩
  clear c0 H1 HP e1 e2
  obtain ⟨⟨c0, _, _, _, _, _, _, _, _⟩, ⟨_, _, _, _, _⟩, cz⟩ := P1.out.cells
  clear cz
  go_wp2_with fail
  refine (H2.out _ P1.out).mono ?_
  rintro e w2 ⟨rfl, P2, R2⟩
  have R := Lib.hid (R1.out.trans R2.out)
  clear c0 H2 P1 e3 R1 R2
  obtain ⟨⟨c0, _, _, _, _, _, _, _, _⟩, ⟨_, _, _, _, _⟩, cz⟩ := P2.out.cells
  have z0 := cz 0
  clear cz
  go_wp2
  go_end0
  exact ⟨rfl, Lib.hid (P2.out.put 0 _ _ _ rfl rfl), Lib.hid (R.out.trans (P2.out.runs (Nat.le_refl _) 0 _))⟩

set_option maxRecDepth 100000 in
set_option maxHeartbeats 2000000 in
theorem prEnter (a : PA) (d : CD) (m : MD) (s : Int) (w : World) (line level : Int) (hl : 0 ≤ line ∧ line ≤ 7) (hd : d.Ok) (hm : m.Ok) (h : PrAt w a d m s) :
    Calls Try.prog 68 #[.pointer (some ⟨a.p, 0, none⟩), .int .i64 line, .int .i64 level] w (GPr a (enterD d line level) (enterM d m) s w) := by
  have HO0 : ({ d with halt := false } : CD).Ok := ⟨hd.pc, hd.sp, hd.bank, hd.level, hd.len, hd.regs⟩
  have H1 := Lib.hid (fun W (q : PrAt W a { d with halt := false } m s) => prCallAt a { d with halt := false } m s W (704 + 4 * line) HO0 hm q)
  have HM0 : Hid (callM { d with halt := false } m = callM d m) := Lib.hid rfl
  rw [HM0.out] at H1
  have HdF : Hid (d.flags = (callD { d with halt := false } (704 + 4 * line)).flags) := Lib.hid rfl
  have HOc := HO0.call (a := 704 + 4 * line) (by omega) (by omega)
  have H2 := Lib.hid (fun W => cpuFlags a.A a.c (callD { d with halt := false } (704 + 4 * line)) W HOc)
  have H3 := Lib.hid (fun W (q : PrAt W a (callD { d with halt := false } (704 + 4 * line)) (callM d m) s) => prPush a (callD { d with halt := false } (704 + 4 * line)) (callM d m) s W d.flags hd.flags HOc (MD.Ok.call hd hm) q)
  rw [← HdF.out] at H2
  unfold GPr at H1 H3
  have HD : Hid (enterD d line level = { (callD { d with halt := false } (704 + 4 * line)).down with level := level }) := Lib.hid rfl
  have HM : Hid (enterM d m = (callM d m).put (callD { d with halt := false } (704 + 4 * line)).sp d.flags) := Lib.hid rfl
  rw [HD.out, HM.out]
  clear HD HM HM0 HdF HOc HO0
  generalize callM d m = m1 at H1 H3 ⊢
  generalize callD { d with halt := false } (704 + 4 * line) = d1 at H1 H2 H3 ⊢
  generalize d.flags = fl at H2 H3 ⊢
  generalize m1.put d1.sp fl = m2 at H3 ⊢
  generalize d1.down = d2 at H3 ⊢
  obtain ⟨l0, l1⟩ := hl
  have HP := Lib.hid h
  obtain ⟨⟨_, _, _, _, _, _, _, c7, _⟩, ⟨_, _, _, _, _⟩, cz⟩ := HP.out.cells
  have z7 := cz 7
  have P0 := Lib.hid (h.put 7 (.bool false) { d with halt := false } s rfl rfl)
  have R0 := Lib.hid (h.runs (Nat.le_refl _) 7 (.bool false))
  clear h hd hm cz
  go_enter Try.func68, Try.ntmps68
  go_wp2_with fail
  refine (H1.out _ P0.out).mono ?_
  rintro e w1 ⟨rfl, P1, R1⟩
  have R01 := Lib.hid (R0.out.trans R1.out)
  clear c7 z7 H1 HP P0 R0 R1
  obtain ⟨⟨c0, c1, c2, c3, c4, c5, c6, c7, c8⟩, ⟨_, _, _, _, _⟩, cz⟩ := P1.out.cells
  clear cz
  go_wp2_with fail
  refine (H2.out _).mono ?_
  rintro e w2 ⟨rfl, hb2⟩
  have P2 := Lib.hid (P1.out.step hb2)
  have R02 := Lib.hid (R01.out.trans (Runs.below hb2 P1.out.size))
  clear c0 c1 c2 c3 c4 c5 c6 c7 c8 P1 R01 H2 hb2
  go_wp2_with fail
  refine (H3.out _ P2.out).mono ?_
  rintro e w3 ⟨rfl, P3, R3⟩
  have R := Lib.hid (R02.out.trans R3.out)
  clear P2 R02 R3 H3
  obtain ⟨⟨_, _, _, c3, _, _, _, _, _⟩, ⟨_, _, _, _, _⟩, cz⟩ := P3.out.cells
  have z3 := cz 3
  clear cz
  go_wp2
  go_end0
  exact ⟨rfl, Lib.hid (P3.out.put 3 _ _ _ rfl rfl), Lib.hid (R.out.trans (P3.out.runs (Nat.le_refl _) 3 _))⟩

def GivesPr (d : CD) (m : MD) (w : World) (e : Ending) (w' : World) : Prop :=
  ∃ a : PA, a.L = w.heap.size ∧ e = .returned (.pointer (some ⟨a.p, 0, none⟩)) ∧ Hid (PrAt w' a d m (-1)) ∧ Below w.heap.size w w'

set_option maxRecDepth 100000 in
set_option maxHeartbeats 4000000 in
theorem processorOf (A : Option Addr) (c : Nat) (d : CD) (A0 A1 A2 A3 : Option Addr) (c0 c1 c2 c3 : Nat) (m : MD) (w : World) (hc : RepC w A d) (hm : RepM w A0 A1 A2 A3 m) :
    Calls Try.prog 67 #[.agg #[.int .i64 d.pc, .int .i64 d.sp, .int .i64 d.bank, .int .i64 d.level, .bool d.zero, .bool d.carry, .bool d.on, .bool d.halt, .slice A 16 c], .agg #[.slice A0 256 c0, .slice A1 32 c1, .slice A2 256 c2, .slice A3 16 c3, .int .i64 m.s]] w (GivesPr d m w) := by
  obtain ⟨W1, hW1⟩ : ∃ W1, W1 = ((w.alloc (.cells #[.int .i64 d.pc, .int .i64 d.sp, .int .i64 d.bank, .int .i64 d.level, .bool d.zero, .bool d.carry, .bool d.on, .bool d.halt, .slice A 16 c] 50)).alloc (.cells #[.slice A0 256 c0, .slice A1 32 c1, .slice A2 256 c2, .slice A3 16 c3, .int .i64 m.s] 28)) := ⟨_, rfl⟩
  have hb0 : Below w.heap.size w W1 := by rw [hW1]; exact (((Below.refl _ _).alloc (Nat.le_refl _) _).alloc (by simp; try omega) _)
  have Z2 : Hid (W1.heap.size = w.heap.size + 2) := Lib.hid (by rw [hW1]; simp)
  have X3 : Hid (Box W1 (w.heap.size) 50 #[.int .i64 d.pc, .int .i64 d.sp, .int .i64 d.bank, .int .i64 d.level, .bool d.zero, .bool d.carry, .bool d.on, .bool d.halt, .slice A 16 c]) := Lib.hid (by rw [hW1]; exact ((Box.new w 50 #[.int .i64 d.pc, .int .i64 d.sp, .int .i64 d.bank, .int .i64 d.level, .bool d.zero, .bool d.carry, .bool d.on, .bool d.halt, .slice A 16 c]).alloc _))
  have X4 : Hid (Box W1 (w.heap.size + 1) 28 #[.slice A0 256 c0, .slice A1 32 c1, .slice A2 256 c2, .slice A3 16 c3, .int .i64 m.s]) := Lib.hid (by rw [hW1]; simpa using (Box.new (w.alloc (.cells #[.int .i64 d.pc, .int .i64 d.sp, .int .i64 d.bank, .int .i64 d.level, .bool d.zero, .bool d.carry, .bool d.on, .bool d.halt, .slice A 16 c] 50)) 28 #[.slice A0 256 c0, .slice A1 32 c1, .slice A2 256 c2, .slice A3 16 c3, .int .i64 m.s]))
  have F5 : Hid (RepC W1 A d) := Lib.hid (hc.below hb0)
  have F6 : Hid (RepM W1 A0 A1 A2 A3 m) := Lib.hid (hm.below hb0)
  have HW0 := Lib.hid hW1
  clear hW1
  have HCl := Lib.hid (fun W (q : RepC W A d) => cloneI A 16 c d.regs W q.1.len (by omega) (by omega) q.2)
  unfold GivesRow at HCl
  have HBo := Lib.hid (fun W (q : RepM W A0 A1 A2 A3 m) => busOf A0 A1 A2 A3 c0 c1 c2 c3 m.r m.i m.z m.g m.s W q.1.r q.1.i q.1.z q.1.g q.1.zb q.2.1 q.2.2.1 q.2.2.2.1 q.2.2.2.2)
  unfold GivesBus at HBo
  clear hc hm
  have f7 := X3.out.cell 0 rfl
  have f8 := X3.out.cell 1 rfl
  have f9 := X3.out.cell 2 rfl
  have f10 := X3.out.cell 3 rfl
  have f11 := X3.out.cell 4 rfl
  have f12 := X3.out.cell 5 rfl
  have f13 := X3.out.cell 6 rfl
  have f14 := X3.out.cell 7 rfl
  have f15 := X3.out.cell 8 rfl
  have z16 := X3.out.frozen 0
  have z17 := X3.out.frozen 1
  have z18 := X3.out.frozen 2
  have z19 := X3.out.frozen 3
  have z20 := X3.out.frozen 4
  have z21 := X3.out.frozen 5
  have z22 := X3.out.frozen 6
  have z23 := X3.out.frozen 7
  have z24 := X3.out.frozen 8
  rw [HW0.out] at f7 f8 f9 f10 f11 f12 f13 f14 f15 z16 z17 z18 z19 z20 z21 z22 z23 z24
  go_enter Try.func67, Try.ntmps67
  go_wp2_with fail
  rw [← HW0.out]
  rw [← HW0.out] at f7 f8 f9 f10 f11 f12 f13 f14 f15 z16 z17 z18 z19 z20 z21 z22 z23 z24
  clear f7 f8 f9 f10 f11 f12 f13 f14 f15 z16 z17 z18 z19 z20 z21 z22 z23 z24
  refine (HCl.out _ F5.out).mono ?_
  rintro e w1 ⟨B, e0, rfl, FO, hq1⟩
  have X25 := Lib.hid (X3.out.step hq1)
  have X26 := Lib.hid (X4.out.step hq1)
  have F27 := Lib.hid (F5.out.below hq1)
  have F28 := Lib.hid (F6.out.below hq1)
  have hb29 := bt hb0 hq1
  have Z30 : Hid (W1.heap.size ≤ w1.heap.size) := Lib.hid hq1.size
  clear X3 X4 F5 F6 hb0 hq1
  have FO1 : Hid (OwnI w1 w.heap.size w1.heap.size B d.regs) := Lib.hid (FO.out.wideB (by have := Z2.out; have := Z30.out; omega) (Nat.le_refl _))
  clear FO
  clear F27 HCl
  have f31 := X25.out.cell 0 rfl
  have f32 := X25.out.cell 1 rfl
  have f33 := X25.out.cell 2 rfl
  have f34 := X25.out.cell 3 rfl
  have f35 := X25.out.cell 4 rfl
  have f36 := X25.out.cell 5 rfl
  have f37 := X25.out.cell 6 rfl
  have f38 := X25.out.cell 7 rfl
  have f39 := X25.out.cell 8 rfl
  have z40 := X25.out.frozen 0
  have z41 := X25.out.frozen 1
  have z42 := X25.out.frozen 2
  have z43 := X25.out.frozen 3
  have z44 := X25.out.frozen 4
  have z45 := X25.out.frozen 5
  have z46 := X25.out.frozen 6
  have z47 := X25.out.frozen 7
  have z48 := X25.out.frozen 8
  go_wp2
  obtain ⟨W49, hW49⟩ : ∃ W49, W49 = (w1.setCell ⟨w.heap.size, 8, none⟩ (.slice B 16 e0)) := ⟨_, rfl⟩
  have hB50 : Btw (w.heap.size) (w.heap.size + 1) w1 W49 := by rw [hW49]; exact ((Btw.refl _ _ _).setCell (p := ⟨w.heap.size, 8, none⟩) (Nat.le_refl _) (Nat.lt_succ_self _) _)
  have X51 : Hid (Box W49 (w.heap.size) 50 #[.int .i64 d.pc, .int .i64 d.sp, .int .i64 d.bank, .int .i64 d.level, .bool d.zero, .bool d.carry, .bool d.on, .bool d.halt, .slice B 16 e0]) := Lib.hid (by rw [hW49]; exact (X25.out.set 8 _))
  have X52 := Lib.hid (X26.out.btw hB50 (by have := Z2.out; have := Z30.out; omega))
  have F53 := Lib.hid (F28.out.off X25.out (by simp) hB50)
  have F54 := Lib.hid (FO1.out.awayB X25.out (by decide) hB50)
  have hb55 := Btw.lowSize hB50 hb29 (Nat.le_of_lt X25.out.lt) (by have := Z2.out; have := Z30.out; omega)
  have Z56 : Hid (w1.heap.size ≤ W49.heap.size) := Lib.hid hB50.size
  rw [← hW49]
  clear hW49 hB50 X25 X26 F28 FO1 hb29
  have HXM : Hid (Box W49.drew (w.heap.size) 50 #[.int .i64 d.pc, .int .i64 d.sp, .int .i64 d.bank, .int .i64 d.level, .bool d.zero, .bool d.carry, .bool d.on, .bool d.halt, .slice B 16 e0] ∧ Box W49.drew (w.heap.size + 1) 28 #[.slice A0 256 c0, .slice A1 32 c1, .slice A2 256 c2, .slice A3 16 c3, .int .i64 m.s]) := Lib.hid ⟨X51.out.drew, X52.out.drew⟩
  have HK : Hid (∀ W, Box W (w.heap.size) 50 #[.int .i64 d.pc, .int .i64 d.sp, .int .i64 d.bank, .int .i64 d.level, .bool d.zero, .bool d.carry, .bool d.on, .bool d.halt, .slice B 16 e0] ∧ Box W (w.heap.size + 1) 28 #[.slice A0 256 c0, .slice A1 32 c1, .slice A2 256 c2, .slice A3 16 c3, .int .i64 m.s] → W.cell? ⟨w.heap.size, 0, none⟩ = some (.int .i64 d.pc) ∧ W.cell? ⟨w.heap.size, 1, none⟩ = some (.int .i64 d.sp) ∧ W.cell? ⟨w.heap.size, 2, none⟩ = some (.int .i64 d.bank) ∧ W.cell? ⟨w.heap.size, 3, none⟩ = some (.int .i64 d.level) ∧ W.cell? ⟨w.heap.size, 4, none⟩ = some (.bool d.zero) ∧ W.cell? ⟨w.heap.size, 5, none⟩ = some (.bool d.carry) ∧ W.cell? ⟨w.heap.size, 6, none⟩ = some (.bool d.on) ∧ W.cell? ⟨w.heap.size, 7, none⟩ = some (.bool d.halt) ∧ W.cell? ⟨w.heap.size, 8, none⟩ = some (.slice B 16 e0) ∧ W.cell? ⟨w.heap.size + 1, 0, none⟩ = some (.slice A0 256 c0) ∧ W.cell? ⟨w.heap.size + 1, 1, none⟩ = some (.slice A1 32 c1) ∧ W.cell? ⟨w.heap.size + 1, 2, none⟩ = some (.slice A2 256 c2) ∧ W.cell? ⟨w.heap.size + 1, 3, none⟩ = some (.slice A3 16 c3) ∧ W.cell? ⟨w.heap.size + 1, 4, none⟩ = some (.int .i64 m.s)) := Lib.hid (fun W X => ⟨X.1.cell 0 rfl, X.1.cell 1 rfl, X.1.cell 2 rfl, X.1.cell 3 rfl, X.1.cell 4 rfl, X.1.cell 5 rfl, X.1.cell 6 rfl, X.1.cell 7 rfl, X.1.cell 8 rfl, X.2.cell 0 rfl, X.2.cell 1 rfl, X.2.cell 2 rfl, X.2.cell 3 rfl, X.2.cell 4 rfl⟩)
  have HMd : Hid (RepM W49.drew A0 A1 A2 A3 m) := Lib.hid (F53.out.below (Below.refl _ _).drew)
  have HOd : Hid (OwnI W49.drew w.heap.size w1.heap.size B d.regs) := Lib.hid (F54.out.below (Below.refl _ _).drew)
  have HBd : Hid (Below w.heap.size w W49.drew) := Lib.hid (bt hb55 (Below.refl _ _).drew)
  have HZ : Hid (w.heap.size ≤ w1.heap.size ∧ w1.heap.size ≤ W49.drew.heap.size) := Lib.hid ⟨by have := Z2.out; have := Z30.out; have := Z56.out; omega, by show w1.heap.size ≤ W49.heap.size; have := Z2.out; have := Z30.out; have := Z56.out; omega⟩
  go_region_held3 (fun W => W.cell? ⟨w.heap.size, 0, none⟩ = some (.int .i64 d.pc) ∧ W.cell? ⟨w.heap.size, 1, none⟩ = some (.int .i64 d.sp) ∧ W.cell? ⟨w.heap.size, 2, none⟩ = some (.int .i64 d.bank) ∧ W.cell? ⟨w.heap.size, 3, none⟩ = some (.int .i64 d.level) ∧ W.cell? ⟨w.heap.size, 4, none⟩ = some (.bool d.zero) ∧ W.cell? ⟨w.heap.size, 5, none⟩ = some (.bool d.carry) ∧ W.cell? ⟨w.heap.size, 6, none⟩ = some (.bool d.on) ∧ W.cell? ⟨w.heap.size, 7, none⟩ = some (.bool d.halt) ∧ W.cell? ⟨w.heap.size, 8, none⟩ = some (.slice B 16 e0) ∧ W.cell? ⟨w.heap.size + 1, 0, none⟩ = some (.slice A0 256 c0) ∧ W.cell? ⟨w.heap.size + 1, 1, none⟩ = some (.slice A1 32 c1) ∧ W.cell? ⟨w.heap.size + 1, 2, none⟩ = some (.slice A2 256 c2) ∧ W.cell? ⟨w.heap.size + 1, 3, none⟩ = some (.slice A3 16 c3) ∧ W.cell? ⟨w.heap.size + 1, 4, none⟩ = some (.int .i64 m.s))
    (first | exact HK.out _ HXM.out | exact HK.out _ HX1.out | exact HK.out _ HX2.out)
    (first | (go_at_call 45; refine (HBo.out _ HMd.out).mono ?_; rintro e w2 ⟨g, b0, b1, b2, b3, D0, D1, e1, e2, rfl, BA, hb2⟩; have HX1 := Lib.hid (And.intro (HXM.out.1.step hb2) (HXM.out.2.step hb2)); have HX2 := Lib.hid (And.intro (HX1.out.1.alloc (.cells #[.int .i64 d.pc, .int .i64 d.sp, .int .i64 d.bank, .int .i64 d.level, .bool d.zero, .bool d.carry, .bool d.on, .bool d.halt, .slice B 16 e0, .pointer (some ⟨b0, 0, none⟩), .pointer (some ⟨b1, 0, none⟩), .pointer (some ⟨b2, 0, none⟩), .pointer (some ⟨b3, 0, none⟩), .int .i64 (-1)] 103)) (HX1.out.2.alloc (.cells #[.int .i64 d.pc, .int .i64 d.sp, .int .i64 d.bank, .int .i64 d.level, .bool d.zero, .bool d.carry, .bool d.on, .bool d.halt, .slice B 16 e0, .pointer (some ⟨b0, 0, none⟩), .pointer (some ⟨b1, 0, none⟩), .pointer (some ⟨b2, 0, none⟩), .pointer (some ⟨b3, 0, none⟩), .int .i64 (-1)] 103)))))
  go_wp2
  go_ret
  obtain ⟨Wd, hWd⟩ : ∃ Wd, Wd = W49.drew := ⟨_, rfl⟩
  rw [← hWd] at BA hb2 HOd HBd HZ
  have hal := alloc_below w2 (.cells #[.int .i64 d.pc, .int .i64 d.sp, .int .i64 d.bank, .int .i64 d.level, .bool d.zero, .bool d.carry, .bool d.on, .bool d.halt, .slice B 16 e0, .pointer (some ⟨b0, 0, none⟩), .pointer (some ⟨b1, 0, none⟩), .pointer (some ⟨b2, 0, none⟩), .pointer (some ⟨b3, 0, none⟩), .int .i64 (-1)] 103)
  refine ⟨⟨w.heap.size, Wd.heap.size, w2.heap.size, g, b0, b1, b2, b3, B, D0, D1, e0, e1, e2⟩, rfl, rfl, Lib.hid ⟨Box.new w2 103 _, ?_, BA.out.step hal, ?_⟩, bt (bt HBd.out hb2) hal⟩
  · exact ((HOd.out.below hb2).below hal).wideB (Nat.le_refl _) HZ.out.2
  · exact ⟨by have := HZ.out; show w.heap.size ≤ Wd.heap.size; omega, by have := HZ.out; have := hb2.size; show w.heap.size ≤ w2.heap.size; omega⟩
end Go.Proofs.Ytngoijchebfolaa

/- EnterIrq, whole. Written by gen_eirq.py. -/
namespace Go.Proofs.Ytngoijchebfolaa
open Go.RowKit

set_option maxRecDepth 100000 in
set_option maxHeartbeats 8000000 in
theorem implEnterIrq (A : Option Addr) (n c : Nat) (d : CD) (A0 A1 A2 A3 : Option Addr) (n0 n1 n2 n3 c0 c1 c2 c3 : Nat) (m : MD) (line level : Int) (w : World) (l : d.regs.length = n) (l0 : m.r.length = n0) (l1 : m.i.length = n1) (l2 : m.z.length = n2) (l3 : m.g.length = n3) (q : n ≤ maxLen) (q0 : n0 ≤ maxLen) (q1 : n1 ≤ maxLen) (q2 : n2 ≤ maxLen) (q3 : n3 ≤ maxLen) (h : IntL w A d.regs) (h0 : IntL w A0 m.r) (h1 : IntL w A1 m.i) (h2 : IntL w A2 m.z) (h3 : BoolL w A3 m.g) :
    Calls Try.prog 23 #[.agg #[.int .i64 d.pc, .int .i64 d.sp, .int .i64 d.bank, .int .i64 d.level, .bool d.zero, .bool d.carry, .bool d.on, .bool d.halt, .slice A n c], .agg #[.slice A0 n0 c0, .slice A1 n1 c1, .slice A2 n2 c2, .slice A3 n3 c3, .int .i64 m.s], .int .i64 line, .int .i64 level] w (GivesCMC (eirqC d m line level) (eirqM d m line level) (eirqE d m line level) w) := by
  obtain ⟨W1, hW1⟩ : ∃ W1, W1 = ((((w.alloc (.cells #[.int .i64 d.pc, .int .i64 d.sp, .int .i64 d.bank, .int .i64 d.level, .bool d.zero, .bool d.carry, .bool d.on, .bool d.halt, .slice A n c] 50)).alloc (.cells #[.slice A0 n0 c0, .slice A1 n1 c1, .slice A2 n2 c2, .slice A3 n3 c3, .int .i64 m.s] 28)).alloc (.cells #[.int .i64 0, .int .i64 0, .int .i64 0, .int .i64 0, .bool false, .bool false, .bool false, .bool false, .slice none 0 0] 50)).alloc (.cells #[.slice none 0 0, .slice none 0 0, .slice none 0 0, .slice none 0 0, .int .i64 0] 28)) := ⟨_, rfl⟩
  have hb0 : Below w.heap.size w W1 := by rw [hW1]; exact (((((Below.refl _ _).alloc (Nat.le_refl _) _).alloc (by simp; try omega) _).alloc (by simp; try omega) _).alloc (by simp; try omega) _)
  have Z2 : Hid (W1.heap.size = w.heap.size + 4) := Lib.hid (by rw [hW1]; simp)
  have X3 : Hid (Box W1 (w.heap.size) 50 #[.int .i64 d.pc, .int .i64 d.sp, .int .i64 d.bank, .int .i64 d.level, .bool d.zero, .bool d.carry, .bool d.on, .bool d.halt, .slice A n c]) := Lib.hid (by rw [hW1]; exact ((((Box.new w 50 #[.int .i64 d.pc, .int .i64 d.sp, .int .i64 d.bank, .int .i64 d.level, .bool d.zero, .bool d.carry, .bool d.on, .bool d.halt, .slice A n c]).alloc _).alloc _).alloc _))
  have X4 : Hid (Box W1 (w.heap.size + 1) 28 #[.slice A0 n0 c0, .slice A1 n1 c1, .slice A2 n2 c2, .slice A3 n3 c3, .int .i64 m.s]) := Lib.hid (by rw [hW1]; simpa using (((Box.new (w.alloc (.cells #[.int .i64 d.pc, .int .i64 d.sp, .int .i64 d.bank, .int .i64 d.level, .bool d.zero, .bool d.carry, .bool d.on, .bool d.halt, .slice A n c] 50)) 28 #[.slice A0 n0 c0, .slice A1 n1 c1, .slice A2 n2 c2, .slice A3 n3 c3, .int .i64 m.s]).alloc _).alloc _))
  have X5 : Hid (Box W1 (w.heap.size + 2) 50 #[.int .i64 0, .int .i64 0, .int .i64 0, .int .i64 0, .bool false, .bool false, .bool false, .bool false, .slice none 0 0]) := Lib.hid (by rw [hW1]; simpa using ((Box.new ((w.alloc (.cells #[.int .i64 d.pc, .int .i64 d.sp, .int .i64 d.bank, .int .i64 d.level, .bool d.zero, .bool d.carry, .bool d.on, .bool d.halt, .slice A n c] 50)).alloc (.cells #[.slice A0 n0 c0, .slice A1 n1 c1, .slice A2 n2 c2, .slice A3 n3 c3, .int .i64 m.s] 28)) 50 #[.int .i64 0, .int .i64 0, .int .i64 0, .int .i64 0, .bool false, .bool false, .bool false, .bool false, .slice none 0 0]).alloc _))
  have X6 : Hid (Box W1 (w.heap.size + 3) 28 #[.slice none 0 0, .slice none 0 0, .slice none 0 0, .slice none 0 0, .int .i64 0]) := Lib.hid (by rw [hW1]; simpa using (Box.new (((w.alloc (.cells #[.int .i64 d.pc, .int .i64 d.sp, .int .i64 d.bank, .int .i64 d.level, .bool d.zero, .bool d.carry, .bool d.on, .bool d.halt, .slice A n c] 50)).alloc (.cells #[.slice A0 n0 c0, .slice A1 n1 c1, .slice A2 n2 c2, .slice A3 n3 c3, .int .i64 m.s] 28)).alloc (.cells #[.int .i64 0, .int .i64 0, .int .i64 0, .int .i64 0, .bool false, .bool false, .bool false, .bool false, .slice none 0 0] 50)) 28 #[.slice none 0 0, .slice none 0 0, .slice none 0 0, .slice none 0 0, .int .i64 0]))
  have HW0 := Lib.hid hW1
  clear hW1
  have HC := Lib.hid (fun W (hb : Below w.heap.size w W) => implValid A n c d.pc d.sp d.bank d.level d.zero d.carry d.on d.halt d.regs W l q (h.below hb))
  have HM := Lib.hid (fun W (hb : Below w.heap.size w W) => memValid A0 A1 A2 A3 n0 n1 n2 n3 c0 c1 c2 c3 m.r m.i m.z m.g m.s W l0 l1 l2 l3 q0 q1 q2 q3 (h0.below hb) (h1.below hb) (h2.below hb))
  have HOc : Hid (okCpu d.pc d.sp d.bank d.level d.regs = d.ok) := Lib.hid rfl
  rw [HOc.out] at HC
  have HOm : Hid (okMem m.r m.i m.z m.g m.s = m.ok) := Lib.hid rfl
  rw [HOm.out] at HM
  have H := Lib.hid (And.intro (And.intro l (And.intro l0 (And.intro l1 (And.intro l2 l3)))) (And.intro h (And.intro h0 (And.intro h1 (And.intro h2 h3)))))
  clear l l0 l1 l2 l3 q q0 q1 q2 q3 h h0 h1 h2 h3 HOc HOm
  generalize hokc : d.ok = okc at HC
  generalize hokm : m.ok = okm at HM
  have HKc := Lib.hid hokc
  have HKm := Lib.hid hokm
  clear hokc hokm
  have f7 := X3.out.cell 0 rfl
  have f8 := X3.out.cell 1 rfl
  have f9 := X3.out.cell 2 rfl
  have f10 := X3.out.cell 3 rfl
  have f11 := X3.out.cell 4 rfl
  have f12 := X3.out.cell 5 rfl
  have f13 := X3.out.cell 6 rfl
  have f14 := X3.out.cell 7 rfl
  have f15 := X3.out.cell 8 rfl
  have f16 := X4.out.cell 0 rfl
  have f17 := X4.out.cell 1 rfl
  have f18 := X4.out.cell 2 rfl
  have f19 := X4.out.cell 3 rfl
  have f20 := X4.out.cell 4 rfl
  rw [HW0.out] at f7 f8 f9 f10 f11 f12 f13 f14 f15 f16 f17 f18 f19 f20
  go_enter Try.func23, Try.ntmps23
  go_wp2_with fail
  rw [← HW0.out]
  rw [← HW0.out] at f7 f8 f9 f10 f11 f12 f13 f14 f15 f16 f17 f18 f19 f20
  clear f7 f8 f9 f10 f11 f12 f13 f14 f15 f16 f17 f18 f19 f20
  refine (HC.out _ hb0).mono ?_
  rintro e w1 ⟨rfl, hq1⟩
  have X21 := Lib.hid (X3.out.step hq1)
  have X22 := Lib.hid (X4.out.step hq1)
  have X23 := Lib.hid (X5.out.step hq1)
  have X24 := Lib.hid (X6.out.step hq1)
  have hb25 := bt hb0 hq1
  have Z26 : Hid (W1.heap.size ≤ w1.heap.size) := Lib.hid hq1.size
  clear X3 X4 X5 X6 hb0 hq1
  cases okc
  · have f27 := X23.out.cell 0 rfl
    have f28 := X23.out.cell 1 rfl
    have f29 := X23.out.cell 2 rfl
    have f30 := X23.out.cell 3 rfl
    have f31 := X23.out.cell 4 rfl
    have f32 := X23.out.cell 5 rfl
    have f33 := X23.out.cell 6 rfl
    have f34 := X23.out.cell 7 rfl
    have f35 := X23.out.cell 8 rfl
    have f36 := X24.out.cell 0 rfl
    have f37 := X24.out.cell 1 rfl
    have f38 := X24.out.cell 2 rfl
    have f39 := X24.out.cell 3 rfl
    have f40 := X24.out.cell 4 rfl
    have z41 := X23.out.frozen 0
    have z42 := X23.out.frozen 1
    have z43 := X23.out.frozen 2
    have z44 := X23.out.frozen 3
    have z45 := X23.out.frozen 4
    have z46 := X23.out.frozen 5
    have z47 := X23.out.frozen 6
    have z48 := X23.out.frozen 7
    have z49 := X23.out.frozen 8
    have z50 := X24.out.frozen 0
    have z51 := X24.out.frozen 1
    have z52 := X24.out.frozen 2
    have z53 := X24.out.frozen 3
    have z54 := X24.out.frozen 4
    go_wp2
    obtain ⟨W55, hW55⟩ : ∃ W55, W55 = (((((((((w1.setCell ⟨w.heap.size + 2, 0, none⟩ (.int .i64 0)).setCell ⟨w.heap.size + 2, 1, none⟩ (.int .i64 0)).setCell ⟨w.heap.size + 2, 2, none⟩ (.int .i64 0)).setCell ⟨w.heap.size + 2, 3, none⟩ (.int .i64 0)).setCell ⟨w.heap.size + 2, 4, none⟩ (.bool false)).setCell ⟨w.heap.size + 2, 5, none⟩ (.bool false)).setCell ⟨w.heap.size + 2, 6, none⟩ (.bool false)).setCell ⟨w.heap.size + 2, 7, none⟩ (.bool false)).setCell ⟨w.heap.size + 2, 8, none⟩ (.slice none 0 0)) := ⟨_, rfl⟩
    have hB56 : Btw (w.heap.size + 2) (w.heap.size + 2 + 1) w1 W55 := by rw [hW55]; exact ((((((((((Btw.refl _ _ _).setCell (p := ⟨w.heap.size + 2, 0, none⟩) (Nat.le_refl _) (Nat.lt_succ_self _) _).setCell (p := ⟨w.heap.size + 2, 1, none⟩) (Nat.le_refl _) (Nat.lt_succ_self _) _).setCell (p := ⟨w.heap.size + 2, 2, none⟩) (Nat.le_refl _) (Nat.lt_succ_self _) _).setCell (p := ⟨w.heap.size + 2, 3, none⟩) (Nat.le_refl _) (Nat.lt_succ_self _) _).setCell (p := ⟨w.heap.size + 2, 4, none⟩) (Nat.le_refl _) (Nat.lt_succ_self _) _).setCell (p := ⟨w.heap.size + 2, 5, none⟩) (Nat.le_refl _) (Nat.lt_succ_self _) _).setCell (p := ⟨w.heap.size + 2, 6, none⟩) (Nat.le_refl _) (Nat.lt_succ_self _) _).setCell (p := ⟨w.heap.size + 2, 7, none⟩) (Nat.le_refl _) (Nat.lt_succ_self _) _).setCell (p := ⟨w.heap.size + 2, 8, none⟩) (Nat.le_refl _) (Nat.lt_succ_self _) _)
    have X57 : Hid (Box W55 (w.heap.size + 2) 50 #[.int .i64 0, .int .i64 0, .int .i64 0, .int .i64 0, .bool false, .bool false, .bool false, .bool false, .slice none 0 0]) := Lib.hid (by rw [hW55]; exact (X23.out.allN9 rfl _ _ _ _ _ _ _ _ _))
    have X58 := Lib.hid (X21.out.btw hB56 (by have := Z2.out; have := Z26.out; omega))
    have X59 := Lib.hid (X22.out.btw hB56 (by have := Z2.out; have := Z26.out; omega))
    have X60 := Lib.hid (X24.out.btw hB56 (by have := Z2.out; have := Z26.out; omega))
    have hb61 := Btw.lowSize hB56 hb25 (Nat.le_of_lt X23.out.lt) (by have := Z2.out; have := Z26.out; omega)
    have Z62 : Hid (w1.heap.size ≤ W55.heap.size) := Lib.hid hB56.size
    rw [← hW55]
    clear hW55 hB56 X23 X21 X22 X24 hb25
    obtain ⟨W63, hW63⟩ : ∃ W63, W63 = (((((W55.setCell ⟨w.heap.size + 3, 0, none⟩ (.slice none 0 0)).setCell ⟨w.heap.size + 3, 1, none⟩ (.slice none 0 0)).setCell ⟨w.heap.size + 3, 2, none⟩ (.slice none 0 0)).setCell ⟨w.heap.size + 3, 3, none⟩ (.slice none 0 0)).setCell ⟨w.heap.size + 3, 4, none⟩ (.int .i64 0)) := ⟨_, rfl⟩
    have hB64 : Btw (w.heap.size + 3) (w.heap.size + 3 + 1) W55 W63 := by rw [hW63]; exact ((((((Btw.refl _ _ _).setCell (p := ⟨w.heap.size + 3, 0, none⟩) (Nat.le_refl _) (Nat.lt_succ_self _) _).setCell (p := ⟨w.heap.size + 3, 1, none⟩) (Nat.le_refl _) (Nat.lt_succ_self _) _).setCell (p := ⟨w.heap.size + 3, 2, none⟩) (Nat.le_refl _) (Nat.lt_succ_self _) _).setCell (p := ⟨w.heap.size + 3, 3, none⟩) (Nat.le_refl _) (Nat.lt_succ_self _) _).setCell (p := ⟨w.heap.size + 3, 4, none⟩) (Nat.le_refl _) (Nat.lt_succ_self _) _)
    have X65 : Hid (Box W63 (w.heap.size + 3) 28 #[.slice none 0 0, .slice none 0 0, .slice none 0 0, .slice none 0 0, .int .i64 0]) := Lib.hid (by rw [hW63]; exact (X60.out.allN5 rfl _ _ _ _ _))
    have X66 := Lib.hid (X58.out.btw hB64 (by have := Z2.out; have := Z26.out; have := Z62.out; omega))
    have X67 := Lib.hid (X59.out.btw hB64 (by have := Z2.out; have := Z26.out; have := Z62.out; omega))
    have X68 := Lib.hid (X57.out.btw hB64 (by have := Z2.out; have := Z26.out; have := Z62.out; omega))
    have hb69 := Btw.lowSize hB64 hb61 (Nat.le_of_lt X60.out.lt) (by have := Z2.out; have := Z26.out; have := Z62.out; omega)
    have Z70 : Hid (W55.heap.size ≤ W63.heap.size) := Lib.hid hB64.size
    rw [← hW63]
    clear hW63 hB64 X60 X58 X59 X57 hb61
    have r0 := X68.out
    have r1 := X65.out
    have s0 := r0.cell 0 rfl
    have s1 := r0.cell 1 rfl
    have s2 := r0.cell 2 rfl
    have s3 := r0.cell 3 rfl
    have s4 := r0.cell 4 rfl
    have s5 := r0.cell 5 rfl
    have s6 := r0.cell 6 rfl
    have s7 := r0.cell 7 rfl
    have s8 := r0.cell 8 rfl
    have t0 := r1.cell 0 rfl
    have t1 := r1.cell 1 rfl
    have t2 := r1.cell 2 rfl
    have t3 := r1.cell 3 rfl
    have t4 := r1.cell 4 rfl
    refine bodyPost_ret (v := .tuple #[.agg #[.int .i64 0, .int .i64 0, .int .i64 0, .int .i64 0, .bool false, .bool false, .bool false, .bool false, .slice none 0 0], .agg #[.slice none 0 0, .slice none 0 0, .slice none 0 0, .slice none 0 0, .int .i64 0], .int .i64 1]) (by simp [results, Try.results23, go_sem, s0, s1, s2, s3, s4, s5, s6, s7, s8, t0, t1, t2, t3, t4]) rfl ?_
    obtain ⟨g1, g2, g3⟩ := eirq_bad (line := line) (level := level) (d := d) (m := m) (by rw [HKc.out]; rfl)
    rw [g1, g2, g3]
    exact ⟨none, none, none, none, none, 0, 0, 0, 0, 0, rfl, Lib.hid (ownA5_nil _ _ _ (by have := Z2.out; have := Z26.out; have := Z62.out; have := Z70.out; omega)), hb69⟩
  · have f27 := X22.out.cell 0 rfl
    have f28 := X22.out.cell 1 rfl
    have f29 := X22.out.cell 2 rfl
    have f30 := X22.out.cell 3 rfl
    have f31 := X22.out.cell 4 rfl
    go_wp2_with fail
    clear f27 f28 f29 f30 f31
    refine (HM.out _ hb25).mono ?_
    rintro e w2 ⟨rfl, hq2⟩
    have X32 := Lib.hid (X21.out.step hq2)
    have X33 := Lib.hid (X22.out.step hq2)
    have X34 := Lib.hid (X23.out.step hq2)
    have X35 := Lib.hid (X24.out.step hq2)
    have hb36 := bt hb25 hq2
    have Z37 : Hid (w1.heap.size ≤ w2.heap.size) := Lib.hid hq2.size
    clear X21 X22 X23 X24 hb25 hq2
    cases okm
    · have f38 := X34.out.cell 0 rfl
      have f39 := X34.out.cell 1 rfl
      have f40 := X34.out.cell 2 rfl
      have f41 := X34.out.cell 3 rfl
      have f42 := X34.out.cell 4 rfl
      have f43 := X34.out.cell 5 rfl
      have f44 := X34.out.cell 6 rfl
      have f45 := X34.out.cell 7 rfl
      have f46 := X34.out.cell 8 rfl
      have f47 := X35.out.cell 0 rfl
      have f48 := X35.out.cell 1 rfl
      have f49 := X35.out.cell 2 rfl
      have f50 := X35.out.cell 3 rfl
      have f51 := X35.out.cell 4 rfl
      have z52 := X34.out.frozen 0
      have z53 := X34.out.frozen 1
      have z54 := X34.out.frozen 2
      have z55 := X34.out.frozen 3
      have z56 := X34.out.frozen 4
      have z57 := X34.out.frozen 5
      have z58 := X34.out.frozen 6
      have z59 := X34.out.frozen 7
      have z60 := X34.out.frozen 8
      have z61 := X35.out.frozen 0
      have z62 := X35.out.frozen 1
      have z63 := X35.out.frozen 2
      have z64 := X35.out.frozen 3
      have z65 := X35.out.frozen 4
      go_wp2
      obtain ⟨W66, hW66⟩ : ∃ W66, W66 = (((((((((w2.setCell ⟨w.heap.size + 2, 0, none⟩ (.int .i64 0)).setCell ⟨w.heap.size + 2, 1, none⟩ (.int .i64 0)).setCell ⟨w.heap.size + 2, 2, none⟩ (.int .i64 0)).setCell ⟨w.heap.size + 2, 3, none⟩ (.int .i64 0)).setCell ⟨w.heap.size + 2, 4, none⟩ (.bool false)).setCell ⟨w.heap.size + 2, 5, none⟩ (.bool false)).setCell ⟨w.heap.size + 2, 6, none⟩ (.bool false)).setCell ⟨w.heap.size + 2, 7, none⟩ (.bool false)).setCell ⟨w.heap.size + 2, 8, none⟩ (.slice none 0 0)) := ⟨_, rfl⟩
      have hB67 : Btw (w.heap.size + 2) (w.heap.size + 2 + 1) w2 W66 := by rw [hW66]; exact ((((((((((Btw.refl _ _ _).setCell (p := ⟨w.heap.size + 2, 0, none⟩) (Nat.le_refl _) (Nat.lt_succ_self _) _).setCell (p := ⟨w.heap.size + 2, 1, none⟩) (Nat.le_refl _) (Nat.lt_succ_self _) _).setCell (p := ⟨w.heap.size + 2, 2, none⟩) (Nat.le_refl _) (Nat.lt_succ_self _) _).setCell (p := ⟨w.heap.size + 2, 3, none⟩) (Nat.le_refl _) (Nat.lt_succ_self _) _).setCell (p := ⟨w.heap.size + 2, 4, none⟩) (Nat.le_refl _) (Nat.lt_succ_self _) _).setCell (p := ⟨w.heap.size + 2, 5, none⟩) (Nat.le_refl _) (Nat.lt_succ_self _) _).setCell (p := ⟨w.heap.size + 2, 6, none⟩) (Nat.le_refl _) (Nat.lt_succ_self _) _).setCell (p := ⟨w.heap.size + 2, 7, none⟩) (Nat.le_refl _) (Nat.lt_succ_self _) _).setCell (p := ⟨w.heap.size + 2, 8, none⟩) (Nat.le_refl _) (Nat.lt_succ_self _) _)
      have X68 : Hid (Box W66 (w.heap.size + 2) 50 #[.int .i64 0, .int .i64 0, .int .i64 0, .int .i64 0, .bool false, .bool false, .bool false, .bool false, .slice none 0 0]) := Lib.hid (by rw [hW66]; exact (X34.out.allN9 rfl _ _ _ _ _ _ _ _ _))
      have X69 := Lib.hid (X32.out.btw hB67 (by have := Z2.out; have := Z26.out; have := Z37.out; omega))
      have X70 := Lib.hid (X33.out.btw hB67 (by have := Z2.out; have := Z26.out; have := Z37.out; omega))
      have X71 := Lib.hid (X35.out.btw hB67 (by have := Z2.out; have := Z26.out; have := Z37.out; omega))
      have hb72 := Btw.lowSize hB67 hb36 (Nat.le_of_lt X34.out.lt) (by have := Z2.out; have := Z26.out; have := Z37.out; omega)
      have Z73 : Hid (w2.heap.size ≤ W66.heap.size) := Lib.hid hB67.size
      rw [← hW66]
      clear hW66 hB67 X34 X32 X33 X35 hb36
      obtain ⟨W74, hW74⟩ : ∃ W74, W74 = (((((W66.setCell ⟨w.heap.size + 3, 0, none⟩ (.slice none 0 0)).setCell ⟨w.heap.size + 3, 1, none⟩ (.slice none 0 0)).setCell ⟨w.heap.size + 3, 2, none⟩ (.slice none 0 0)).setCell ⟨w.heap.size + 3, 3, none⟩ (.slice none 0 0)).setCell ⟨w.heap.size + 3, 4, none⟩ (.int .i64 0)) := ⟨_, rfl⟩
      have hB75 : Btw (w.heap.size + 3) (w.heap.size + 3 + 1) W66 W74 := by rw [hW74]; exact ((((((Btw.refl _ _ _).setCell (p := ⟨w.heap.size + 3, 0, none⟩) (Nat.le_refl _) (Nat.lt_succ_self _) _).setCell (p := ⟨w.heap.size + 3, 1, none⟩) (Nat.le_refl _) (Nat.lt_succ_self _) _).setCell (p := ⟨w.heap.size + 3, 2, none⟩) (Nat.le_refl _) (Nat.lt_succ_self _) _).setCell (p := ⟨w.heap.size + 3, 3, none⟩) (Nat.le_refl _) (Nat.lt_succ_self _) _).setCell (p := ⟨w.heap.size + 3, 4, none⟩) (Nat.le_refl _) (Nat.lt_succ_self _) _)
      have X76 : Hid (Box W74 (w.heap.size + 3) 28 #[.slice none 0 0, .slice none 0 0, .slice none 0 0, .slice none 0 0, .int .i64 0]) := Lib.hid (by rw [hW74]; exact (X71.out.allN5 rfl _ _ _ _ _))
      have X77 := Lib.hid (X69.out.btw hB75 (by have := Z2.out; have := Z26.out; have := Z37.out; have := Z73.out; omega))
      have X78 := Lib.hid (X70.out.btw hB75 (by have := Z2.out; have := Z26.out; have := Z37.out; have := Z73.out; omega))
      have X79 := Lib.hid (X68.out.btw hB75 (by have := Z2.out; have := Z26.out; have := Z37.out; have := Z73.out; omega))
      have hb80 := Btw.lowSize hB75 hb72 (Nat.le_of_lt X71.out.lt) (by have := Z2.out; have := Z26.out; have := Z37.out; have := Z73.out; omega)
      have Z81 : Hid (W66.heap.size ≤ W74.heap.size) := Lib.hid hB75.size
      rw [← hW74]
      clear hW74 hB75 X71 X69 X70 X68 hb72
      have r0 := X79.out
      have r1 := X76.out
      have s0 := r0.cell 0 rfl
      have s1 := r0.cell 1 rfl
      have s2 := r0.cell 2 rfl
      have s3 := r0.cell 3 rfl
      have s4 := r0.cell 4 rfl
      have s5 := r0.cell 5 rfl
      have s6 := r0.cell 6 rfl
      have s7 := r0.cell 7 rfl
      have s8 := r0.cell 8 rfl
      have t0 := r1.cell 0 rfl
      have t1 := r1.cell 1 rfl
      have t2 := r1.cell 2 rfl
      have t3 := r1.cell 3 rfl
      have t4 := r1.cell 4 rfl
      refine bodyPost_ret (v := .tuple #[.agg #[.int .i64 0, .int .i64 0, .int .i64 0, .int .i64 0, .bool false, .bool false, .bool false, .bool false, .slice none 0 0], .agg #[.slice none 0 0, .slice none 0 0, .slice none 0 0, .slice none 0 0, .int .i64 0], .int .i64 1]) (by simp [results, Try.results23, go_sem, s0, s1, s2, s3, s4, s5, s6, s7, s8, t0, t1, t2, t3, t4]) rfl ?_
      obtain ⟨g1, g2, g3⟩ := eirq_bad (line := line) (level := level) (d := d) (m := m) (by rw [HKc.out, HKm.out]; rfl)
      rw [g1, g2, g3]
      exact ⟨none, none, none, none, none, 0, 0, 0, 0, 0, rfl, Lib.hid (ownA5_nil _ _ _ (by have := Z2.out; have := Z26.out; have := Z37.out; have := Z73.out; have := Z81.out; omega)), hb80⟩
    · have HKK : Hid ((d.ok && m.ok) = true) := Lib.hid (by rw [HKc.out, HKm.out]; rfl)
      by_cases hl : rngB line 0 7 = true
      · by_cases hz : level = 0
        · have hv0 : rngB level 1 7 = false := by simp only [rngB, decide_eq_false_iff_not]; omega
          have hz0 : (level == 0) = true := by simp; omega
          clear hz
          have f38 := X34.out.cell 0 rfl
          have f39 := X34.out.cell 1 rfl
          have f40 := X34.out.cell 2 rfl
          have f41 := X34.out.cell 3 rfl
          have f42 := X34.out.cell 4 rfl
          have f43 := X34.out.cell 5 rfl
          have f44 := X34.out.cell 6 rfl
          have f45 := X34.out.cell 7 rfl
          have f46 := X34.out.cell 8 rfl
          have f47 := X35.out.cell 0 rfl
          have f48 := X35.out.cell 1 rfl
          have f49 := X35.out.cell 2 rfl
          have f50 := X35.out.cell 3 rfl
          have f51 := X35.out.cell 4 rfl
          have z52 := X34.out.frozen 0
          have z53 := X34.out.frozen 1
          have z54 := X34.out.frozen 2
          have z55 := X34.out.frozen 3
          have z56 := X34.out.frozen 4
          have z57 := X34.out.frozen 5
          have z58 := X34.out.frozen 6
          have z59 := X34.out.frozen 7
          have z60 := X34.out.frozen 8
          have z61 := X35.out.frozen 0
          have z62 := X35.out.frozen 1
          have z63 := X35.out.frozen 2
          have z64 := X35.out.frozen 3
          have z65 := X35.out.frozen 4
          go_wp2_with (first | (go_at_call 65; refine (isLineR _ _).mono ?_; rintro e w' ⟨rfl, rfl⟩; rw [hl]))
          obtain ⟨W66, hW66⟩ : ∃ W66, W66 = (((((((((w2.setCell ⟨w.heap.size + 2, 0, none⟩ (.int .i64 0)).setCell ⟨w.heap.size + 2, 1, none⟩ (.int .i64 0)).setCell ⟨w.heap.size + 2, 2, none⟩ (.int .i64 0)).setCell ⟨w.heap.size + 2, 3, none⟩ (.int .i64 0)).setCell ⟨w.heap.size + 2, 4, none⟩ (.bool false)).setCell ⟨w.heap.size + 2, 5, none⟩ (.bool false)).setCell ⟨w.heap.size + 2, 6, none⟩ (.bool false)).setCell ⟨w.heap.size + 2, 7, none⟩ (.bool false)).setCell ⟨w.heap.size + 2, 8, none⟩ (.slice none 0 0)) := ⟨_, rfl⟩
          have hB67 : Btw (w.heap.size + 2) (w.heap.size + 2 + 1) w2 W66 := by rw [hW66]; exact ((((((((((Btw.refl _ _ _).setCell (p := ⟨w.heap.size + 2, 0, none⟩) (Nat.le_refl _) (Nat.lt_succ_self _) _).setCell (p := ⟨w.heap.size + 2, 1, none⟩) (Nat.le_refl _) (Nat.lt_succ_self _) _).setCell (p := ⟨w.heap.size + 2, 2, none⟩) (Nat.le_refl _) (Nat.lt_succ_self _) _).setCell (p := ⟨w.heap.size + 2, 3, none⟩) (Nat.le_refl _) (Nat.lt_succ_self _) _).setCell (p := ⟨w.heap.size + 2, 4, none⟩) (Nat.le_refl _) (Nat.lt_succ_self _) _).setCell (p := ⟨w.heap.size + 2, 5, none⟩) (Nat.le_refl _) (Nat.lt_succ_self _) _).setCell (p := ⟨w.heap.size + 2, 6, none⟩) (Nat.le_refl _) (Nat.lt_succ_self _) _).setCell (p := ⟨w.heap.size + 2, 7, none⟩) (Nat.le_refl _) (Nat.lt_succ_self _) _).setCell (p := ⟨w.heap.size + 2, 8, none⟩) (Nat.le_refl _) (Nat.lt_succ_self _) _)
          have X68 : Hid (Box W66 (w.heap.size + 2) 50 #[.int .i64 0, .int .i64 0, .int .i64 0, .int .i64 0, .bool false, .bool false, .bool false, .bool false, .slice none 0 0]) := Lib.hid (by rw [hW66]; exact (X34.out.allN9 rfl _ _ _ _ _ _ _ _ _))
          have X69 := Lib.hid (X32.out.btw hB67 (by have := Z2.out; have := Z26.out; have := Z37.out; omega))
          have X70 := Lib.hid (X33.out.btw hB67 (by have := Z2.out; have := Z26.out; have := Z37.out; omega))
          have X71 := Lib.hid (X35.out.btw hB67 (by have := Z2.out; have := Z26.out; have := Z37.out; omega))
          have hb72 := Btw.lowSize hB67 hb36 (Nat.le_of_lt X34.out.lt) (by have := Z2.out; have := Z26.out; have := Z37.out; omega)
          have Z73 : Hid (w2.heap.size ≤ W66.heap.size) := Lib.hid hB67.size
          rw [← hW66]
          clear hW66 hB67 X34 X32 X33 X35 hb36
          obtain ⟨W74, hW74⟩ : ∃ W74, W74 = (((((W66.setCell ⟨w.heap.size + 3, 0, none⟩ (.slice none 0 0)).setCell ⟨w.heap.size + 3, 1, none⟩ (.slice none 0 0)).setCell ⟨w.heap.size + 3, 2, none⟩ (.slice none 0 0)).setCell ⟨w.heap.size + 3, 3, none⟩ (.slice none 0 0)).setCell ⟨w.heap.size + 3, 4, none⟩ (.int .i64 0)) := ⟨_, rfl⟩
          have hB75 : Btw (w.heap.size + 3) (w.heap.size + 3 + 1) W66 W74 := by rw [hW74]; exact ((((((Btw.refl _ _ _).setCell (p := ⟨w.heap.size + 3, 0, none⟩) (Nat.le_refl _) (Nat.lt_succ_self _) _).setCell (p := ⟨w.heap.size + 3, 1, none⟩) (Nat.le_refl _) (Nat.lt_succ_self _) _).setCell (p := ⟨w.heap.size + 3, 2, none⟩) (Nat.le_refl _) (Nat.lt_succ_self _) _).setCell (p := ⟨w.heap.size + 3, 3, none⟩) (Nat.le_refl _) (Nat.lt_succ_self _) _).setCell (p := ⟨w.heap.size + 3, 4, none⟩) (Nat.le_refl _) (Nat.lt_succ_self _) _)
          have X76 : Hid (Box W74 (w.heap.size + 3) 28 #[.slice none 0 0, .slice none 0 0, .slice none 0 0, .slice none 0 0, .int .i64 0]) := Lib.hid (by rw [hW74]; exact (X71.out.allN5 rfl _ _ _ _ _))
          have X77 := Lib.hid (X69.out.btw hB75 (by have := Z2.out; have := Z26.out; have := Z37.out; have := Z73.out; omega))
          have X78 := Lib.hid (X70.out.btw hB75 (by have := Z2.out; have := Z26.out; have := Z37.out; have := Z73.out; omega))
          have X79 := Lib.hid (X68.out.btw hB75 (by have := Z2.out; have := Z26.out; have := Z37.out; have := Z73.out; omega))
          have hb80 := Btw.lowSize hB75 hb72 (Nat.le_of_lt X71.out.lt) (by have := Z2.out; have := Z26.out; have := Z37.out; have := Z73.out; omega)
          have Z81 : Hid (W66.heap.size ≤ W74.heap.size) := Lib.hid hB75.size
          rw [← hW74]
          clear hW74 hB75 X71 X69 X70 X68 hb72
          have r0 := X79.out
          have r1 := X76.out
          have s0 := r0.cell 0 rfl
          have s1 := r0.cell 1 rfl
          have s2 := r0.cell 2 rfl
          have s3 := r0.cell 3 rfl
          have s4 := r0.cell 4 rfl
          have s5 := r0.cell 5 rfl
          have s6 := r0.cell 6 rfl
          have s7 := r0.cell 7 rfl
          have s8 := r0.cell 8 rfl
          have t0 := r1.cell 0 rfl
          have t1 := r1.cell 1 rfl
          have t2 := r1.cell 2 rfl
          have t3 := r1.cell 3 rfl
          have t4 := r1.cell 4 rfl
          refine bodyPost_ret (v := .tuple #[.agg #[.int .i64 0, .int .i64 0, .int .i64 0, .int .i64 0, .bool false, .bool false, .bool false, .bool false, .slice none 0 0], .agg #[.slice none 0 0, .slice none 0 0, .slice none 0 0, .slice none 0 0, .int .i64 0], .int .i64 19]) (by simp [results, Try.results23, go_sem, s0, s1, s2, s3, s4, s5, s6, s7, s8, t0, t1, t2, t3, t4]) rfl ?_
          obtain ⟨g1, g2, g3⟩ := eirq_level (level := level) HKK.out hl hv0
          rw [g1, g2, g3]
          exact ⟨none, none, none, none, none, 0, 0, 0, 0, 0, rfl, Lib.hid (ownA5_nil _ _ _ (by have := Z2.out; have := Z26.out; have := Z37.out; have := Z73.out; have := Z81.out; omega)), hb80⟩
        · have hz0 : (level == 0) = false := by simp; omega
          by_cases hv7 : rngB level 0 7 = true
          · have hv : rngB level 1 7 = true := by have := rngB_says hv7; simp only [rngB, decide_eq_true_eq]; omega
            clear hz
            have hok : d.Ok := CD.ok_iff.1 HKc.out
            have hom : m.Ok := MD.ok_iff.1 HKm.out
            obtain rfl : n = 16 := H.out.1.1.symm.trans hok.len
            obtain rfl : n0 = 256 := H.out.1.2.1.symm.trans hom.r
            obtain rfl : n1 = 32 := H.out.1.2.2.1.symm.trans hom.i
            obtain rfl : n2 = 256 := H.out.1.2.2.2.1.symm.trans hom.z
            obtain rfl : n3 = 16 := H.out.1.2.2.2.2.symm.trans hom.g
            have hlr := rngB_says hl
            have hvr := rngB_says hv
            have FC : Hid (RepC w2 A d) := Lib.hid ⟨hok, H.out.2.1.below hb36⟩
            have FM : Hid (RepM w2 A0 A1 A2 A3 m) := Lib.hid ⟨hom, H.out.2.2.1.below hb36, H.out.2.2.2.1.below hb36, H.out.2.2.2.2.1.below hb36, H.out.2.2.2.2.2.below hb36⟩
            have HG := Lib.hid (eirq_ok (d := d) (m := m) (line := line) (level := level) HKK.out hl hv)
            have HLc := Lib.hid (CD.Ok.enter hok hlr ⟨by omega, hvr.2⟩)
            have HLm := Lib.hid (MD.Ok.enter hok hom)
            have HPo := Lib.hid (fun W (q : RepC W A d) (r : RepM W A0 A1 A2 A3 m) => processorOf A c d A0 A1 A2 A3 c0 c1 c2 c3 m W q r)
            unfold GivesPr at HPo
            have HEn := Lib.hid (fun a W (q : PrAt W a d m (-1)) => prEnter a d m (-1) W line level hlr hok hom q)
            unfold GPr at HEn
            generalize enterD d line level = dF at HEn HLc HG ⊢
            generalize enterM d m = mF at HEn HLm HG ⊢
            have HMe := Lib.hid (fun (a : PA) W (q : BusAt W a.R a.g a.b0 a.b1 a.b2 a.b3 a.A0 a.A1 a.c0 a.c1 mF.r mF.i mF.z mF.g mF.s) => busMem a.R a.g a.b0 a.b1 a.b2 a.b3 a.A0 a.A1 a.c0 a.c1 mF.r mF.i mF.z mF.g mF.s W HLm.out.z HLm.out.g HLm.out.zb q)
            unfold GivesMemOf at HMe
            clear hok hom hlr hvr H HKc HKm HKK
            have f38 := X32.out.cell 0 rfl
            have f39 := X32.out.cell 1 rfl
            have f40 := X32.out.cell 2 rfl
            have f41 := X32.out.cell 3 rfl
            have f42 := X32.out.cell 4 rfl
            have f43 := X32.out.cell 5 rfl
            have f44 := X32.out.cell 6 rfl
            have f45 := X32.out.cell 7 rfl
            have f46 := X32.out.cell 8 rfl
            have f47 := X33.out.cell 0 rfl
            have f48 := X33.out.cell 1 rfl
            have f49 := X33.out.cell 2 rfl
            have f50 := X33.out.cell 3 rfl
            have f51 := X33.out.cell 4 rfl
            go_wp2_with (first | (go_at_call 65; refine (isLineR _ _).mono ?_; rintro e w' ⟨rfl, rfl⟩; rw [hl]) | (go_at_call 66; refine (isLevelR _ _).mono ?_; rintro e w' ⟨rfl, rfl⟩; rw [hv7]))
            clear f38 f39 f40 f41 f42 f43 f44 f45 f46 f47 f48 f49 f50 f51
            refine (HPo.out _ FC.out FM.out).mono ?_
            rintro e w3 ⟨a, haL, rfl, NP, hq3⟩
            have HaL : Hid (w.heap.size + 4 ≤ a.L) := Lib.hid (by have := Z2.out; have := Z26.out; have := Z37.out; omega)
            have X52 := Lib.hid (X32.out.step hq3)
            have X53 := Lib.hid (X33.out.step hq3)
            have X54 := Lib.hid (X34.out.step hq3)
            have X55 := Lib.hid (X35.out.step hq3)
            have F56 := Lib.hid (FC.out.below hq3)
            have F57 := Lib.hid (FM.out.below hq3)
            have hb58 := bt hb36 hq3
            have Z59 : Hid (w2.heap.size ≤ w3.heap.size) := Lib.hid hq3.size
            clear X32 X33 X34 X35 FC FM hb36 hq3
            clear F56 F57 HPo hl hv hv7 hz0 haL
            go_wp2_with fail
            refine (HEn.out a _ NP.out).mono ?_
            rintro e w4 ⟨rfl, P4, R4⟩
            clear NP HEn
            have HRc := Lib.hid (R4.out.kb _ _ _ (by decide) (by decide) (by decide) X54.out)
            have HRm := Lib.hid (R4.out.kb _ _ _ (by decide) (by decide) (by decide) X55.out)
            have hb4 := hb58.trans (R4.out.bl.mono (by have := HaL.out; omega))
            clear X52 X53 X54 X55 R4 hb58
            have HK : Hid (∀ W, Box W a.p 103 (procC a dF (-1)) → W.cell? ⟨a.p, 0, none⟩ = some (.int .i64 dF.pc) ∧ W.cell? ⟨a.p, 1, none⟩ = some (.int .i64 dF.sp) ∧ W.cell? ⟨a.p, 2, none⟩ = some (.int .i64 dF.bank) ∧ W.cell? ⟨a.p, 3, none⟩ = some (.int .i64 dF.level) ∧ W.cell? ⟨a.p, 4, none⟩ = some (.bool dF.zero) ∧ W.cell? ⟨a.p, 5, none⟩ = some (.bool dF.carry) ∧ W.cell? ⟨a.p, 6, none⟩ = some (.bool dF.on) ∧ W.cell? ⟨a.p, 7, none⟩ = some (.bool dF.halt) ∧ W.cell? ⟨a.p, 8, none⟩ = some (.slice a.A 16 a.c) ∧ W.cell? ⟨a.p, 9, none⟩ = some (.pointer (some ⟨a.b0, 0, none⟩)) ∧ W.cell? ⟨a.p, 10, none⟩ = some (.pointer (some ⟨a.b1, 0, none⟩)) ∧ W.cell? ⟨a.p, 11, none⟩ = some (.pointer (some ⟨a.b2, 0, none⟩)) ∧ W.cell? ⟨a.p, 12, none⟩ = some (.pointer (some ⟨a.b3, 0, none⟩))) := Lib.hid (fun W X => ⟨X.cell 0 rfl, X.cell 1 rfl, X.cell 2 rfl, X.cell 3 rfl, X.cell 4 rfl, X.cell 5 rfl, X.cell 6 rfl, X.cell 7 rfl, X.cell 8 rfl, X.cell 9 rfl, X.cell 10 rfl, X.cell 11 rfl, X.cell 12 rfl⟩)
            have HX0 : Hid (Box w4.drew a.p 103 (procC a dF (-1))) := Lib.hid P4.out.X.drew
            have HB0 : Hid (BusAt w4.drew a.R a.g a.b0 a.b1 a.b2 a.b3 a.A0 a.A1 a.c0 a.c1 mF.r mF.i mF.z mF.g mF.s) := Lib.hid (P4.out.B.step (Below.refl _ _).drew)
            have HRcd := Lib.hid HRc.out.drew
            have HRmd := Lib.hid HRm.out.drew
            go_wp2
            go_region_held3 (fun W => W.cell? ⟨a.p, 0, none⟩ = some (.int .i64 dF.pc) ∧ W.cell? ⟨a.p, 1, none⟩ = some (.int .i64 dF.sp) ∧ W.cell? ⟨a.p, 2, none⟩ = some (.int .i64 dF.bank) ∧ W.cell? ⟨a.p, 3, none⟩ = some (.int .i64 dF.level) ∧ W.cell? ⟨a.p, 4, none⟩ = some (.bool dF.zero) ∧ W.cell? ⟨a.p, 5, none⟩ = some (.bool dF.carry) ∧ W.cell? ⟨a.p, 6, none⟩ = some (.bool dF.on) ∧ W.cell? ⟨a.p, 7, none⟩ = some (.bool dF.halt) ∧ W.cell? ⟨a.p, 8, none⟩ = some (.slice a.A 16 a.c) ∧ W.cell? ⟨a.p, 9, none⟩ = some (.pointer (some ⟨a.b0, 0, none⟩)) ∧ W.cell? ⟨a.p, 10, none⟩ = some (.pointer (some ⟨a.b1, 0, none⟩)) ∧ W.cell? ⟨a.p, 11, none⟩ = some (.pointer (some ⟨a.b2, 0, none⟩)) ∧ W.cell? ⟨a.p, 12, none⟩ = some (.pointer (some ⟨a.b3, 0, none⟩)))
              (first | (with_reducible exact HK.out _ HX0.out) | (with_reducible exact HK.out _ HX1.out) | (with_reducible exact HK.out _ HX3.out) | (with_reducible exact HK.out _ HX4.out))
              (first | (go_at_call 47; refine (HMe.out a _ HB0.out).mono ?_; rintro e' w5 ⟨Az, cz, Cg, dg, rfl, S5, Q5, hq5⟩; have HX1 := Lib.hid (HX0.out.step hq5); have HY1 := Lib.hid (HRcd.out.step hq5); have HY2 := Lib.hid (HRmd.out.step hq5); have T1 : Btw (w.heap.size + 2) (w.heap.size + 2 + 1) w5 (((((((((w5.setCell ⟨w.heap.size + 2, 0, none⟩ (.int .i64 dF.pc)).setCell ⟨w.heap.size + 2, 1, none⟩ (.int .i64 dF.sp)).setCell ⟨w.heap.size + 2, 2, none⟩ (.int .i64 dF.bank)).setCell ⟨w.heap.size + 2, 3, none⟩ (.int .i64 dF.level)).setCell ⟨w.heap.size + 2, 4, none⟩ (.bool dF.zero)).setCell ⟨w.heap.size + 2, 5, none⟩ (.bool dF.carry)).setCell ⟨w.heap.size + 2, 6, none⟩ (.bool dF.on)).setCell ⟨w.heap.size + 2, 7, none⟩ (.bool dF.halt)).setCell ⟨w.heap.size + 2, 8, none⟩ (.slice a.A 16 a.c)) := ((((((((((Btw.refl _ _ _).setCell (p := ⟨w.heap.size + 2, 0, none⟩) (Nat.le_refl _) (Nat.lt_succ_self _) _).setCell (p := ⟨w.heap.size + 2, 1, none⟩) (Nat.le_refl _) (Nat.lt_succ_self _) _).setCell (p := ⟨w.heap.size + 2, 2, none⟩) (Nat.le_refl _) (Nat.lt_succ_self _) _).setCell (p := ⟨w.heap.size + 2, 3, none⟩) (Nat.le_refl _) (Nat.lt_succ_self _) _).setCell (p := ⟨w.heap.size + 2, 4, none⟩) (Nat.le_refl _) (Nat.lt_succ_self _) _).setCell (p := ⟨w.heap.size + 2, 5, none⟩) (Nat.le_refl _) (Nat.lt_succ_self _) _).setCell (p := ⟨w.heap.size + 2, 6, none⟩) (Nat.le_refl _) (Nat.lt_succ_self _) _).setCell (p := ⟨w.heap.size + 2, 7, none⟩) (Nat.le_refl _) (Nat.lt_succ_self _) _).setCell (p := ⟨w.heap.size + 2, 8, none⟩) (Nat.le_refl _) (Nat.lt_succ_self _) _); have T2 : Btw (w.heap.size + 3) (w.heap.size + 3 + 1) (((((((((w5.setCell ⟨w.heap.size + 2, 0, none⟩ (.int .i64 dF.pc)).setCell ⟨w.heap.size + 2, 1, none⟩ (.int .i64 dF.sp)).setCell ⟨w.heap.size + 2, 2, none⟩ (.int .i64 dF.bank)).setCell ⟨w.heap.size + 2, 3, none⟩ (.int .i64 dF.level)).setCell ⟨w.heap.size + 2, 4, none⟩ (.bool dF.zero)).setCell ⟨w.heap.size + 2, 5, none⟩ (.bool dF.carry)).setCell ⟨w.heap.size + 2, 6, none⟩ (.bool dF.on)).setCell ⟨w.heap.size + 2, 7, none⟩ (.bool dF.halt)).setCell ⟨w.heap.size + 2, 8, none⟩ (.slice a.A 16 a.c)) ((((((((((((((w5.setCell ⟨w.heap.size + 2, 0, none⟩ (.int .i64 dF.pc)).setCell ⟨w.heap.size + 2, 1, none⟩ (.int .i64 dF.sp)).setCell ⟨w.heap.size + 2, 2, none⟩ (.int .i64 dF.bank)).setCell ⟨w.heap.size + 2, 3, none⟩ (.int .i64 dF.level)).setCell ⟨w.heap.size + 2, 4, none⟩ (.bool dF.zero)).setCell ⟨w.heap.size + 2, 5, none⟩ (.bool dF.carry)).setCell ⟨w.heap.size + 2, 6, none⟩ (.bool dF.on)).setCell ⟨w.heap.size + 2, 7, none⟩ (.bool dF.halt)).setCell ⟨w.heap.size + 2, 8, none⟩ (.slice a.A 16 a.c)).setCell ⟨w.heap.size + 3, 0, none⟩ (.slice a.A0 256 a.c0)).setCell ⟨w.heap.size + 3, 1, none⟩ (.slice a.A1 32 a.c1)).setCell ⟨w.heap.size + 3, 2, none⟩ (.slice Az 256 cz)).setCell ⟨w.heap.size + 3, 3, none⟩ (.slice Cg 16 dg)).setCell ⟨w.heap.size + 3, 4, none⟩ (.int .i64 mF.s)) := ((((((Btw.refl _ _ _).setCell (p := ⟨w.heap.size + 3, 0, none⟩) (Nat.le_refl _) (Nat.lt_succ_self _) _).setCell (p := ⟨w.heap.size + 3, 1, none⟩) (Nat.le_refl _) (Nat.lt_succ_self _) _).setCell (p := ⟨w.heap.size + 3, 2, none⟩) (Nat.le_refl _) (Nat.lt_succ_self _) _).setCell (p := ⟨w.heap.size + 3, 3, none⟩) (Nat.le_refl _) (Nat.lt_succ_self _) _).setCell (p := ⟨w.heap.size + 3, 4, none⟩) (Nat.le_refl _) (Nat.lt_succ_self _) _); have HX3 := Lib.hid (HX1.out.btw T1 (by have := HX1.out.box_ne HY1.out (by decide); omega)); have HX4 := Lib.hid (HX3.out.btw T2 (by have := HX1.out.box_ne HY2.out (by decide); omega)); have g0 := HY1.out.cell 0 rfl; have y0 := HY1.out.frozen 0; have g1 := HY1.out.cell 1 rfl; have y1 := HY1.out.frozen 1; have g2 := HY1.out.cell 2 rfl; have y2 := HY1.out.frozen 2; have g3 := HY1.out.cell 3 rfl; have y3 := HY1.out.frozen 3; have g4 := HY1.out.cell 4 rfl; have y4 := HY1.out.frozen 4; have g5 := HY1.out.cell 5 rfl; have y5 := HY1.out.frozen 5; have g6 := HY1.out.cell 6 rfl; have y6 := HY1.out.frozen 6; have g7 := HY1.out.cell 7 rfl; have y7 := HY1.out.frozen 7; have g8 := HY1.out.cell 8 rfl; have y8 := HY1.out.frozen 8; have k0 := HY2.out.cell 0 rfl; have z0 := HY2.out.frozen 0; have k1 := HY2.out.cell 1 rfl; have z1 := HY2.out.frozen 1; have k2 := HY2.out.cell 2 rfl; have z2 := HY2.out.frozen 2; have k3 := HY2.out.cell 3 rfl; have z3 := HY2.out.frozen 3; have k4 := HY2.out.cell 4 rfl; have z4 := HY2.out.frozen 4))
            go_wp2
            obtain ⟨V1, hV1⟩ : ∃ V1, V1 = (((((((((w5.setCell ⟨w.heap.size + 2, 0, none⟩ (.int .i64 dF.pc)).setCell ⟨w.heap.size + 2, 1, none⟩ (.int .i64 dF.sp)).setCell ⟨w.heap.size + 2, 2, none⟩ (.int .i64 dF.bank)).setCell ⟨w.heap.size + 2, 3, none⟩ (.int .i64 dF.level)).setCell ⟨w.heap.size + 2, 4, none⟩ (.bool dF.zero)).setCell ⟨w.heap.size + 2, 5, none⟩ (.bool dF.carry)).setCell ⟨w.heap.size + 2, 6, none⟩ (.bool dF.on)).setCell ⟨w.heap.size + 2, 7, none⟩ (.bool dF.halt)).setCell ⟨w.heap.size + 2, 8, none⟩ (.slice a.A 16 a.c)) := ⟨_, rfl⟩
            have U1 : Btw (w.heap.size + 2) (w.heap.size + 2 + 1) w5 V1 := by rw [hV1]; exact ((((((((((Btw.refl _ _ _).setCell (p := ⟨w.heap.size + 2, 0, none⟩) (Nat.le_refl _) (Nat.lt_succ_self _) _).setCell (p := ⟨w.heap.size + 2, 1, none⟩) (Nat.le_refl _) (Nat.lt_succ_self _) _).setCell (p := ⟨w.heap.size + 2, 2, none⟩) (Nat.le_refl _) (Nat.lt_succ_self _) _).setCell (p := ⟨w.heap.size + 2, 3, none⟩) (Nat.le_refl _) (Nat.lt_succ_self _) _).setCell (p := ⟨w.heap.size + 2, 4, none⟩) (Nat.le_refl _) (Nat.lt_succ_self _) _).setCell (p := ⟨w.heap.size + 2, 5, none⟩) (Nat.le_refl _) (Nat.lt_succ_self _) _).setCell (p := ⟨w.heap.size + 2, 6, none⟩) (Nat.le_refl _) (Nat.lt_succ_self _) _).setCell (p := ⟨w.heap.size + 2, 7, none⟩) (Nat.le_refl _) (Nat.lt_succ_self _) _).setCell (p := ⟨w.heap.size + 2, 8, none⟩) (Nat.le_refl _) (Nat.lt_succ_self _) _)
            have HYa : Hid (Box V1 (w.heap.size + 2) 50 #[.int .i64 dF.pc, .int .i64 dF.sp, .int .i64 dF.bank, .int .i64 dF.level, .bool dF.zero, .bool dF.carry, .bool dF.on, .bool dF.halt, .slice a.A 16 a.c]) := Lib.hid (by rw [hV1]; exact HY1.out.allN9 rfl _ _ _ _ _ _ _ _ _)
            have HYb : Hid (Box V1 (w.heap.size + 3) 28 #[.slice none 0 0, .slice none 0 0, .slice none 0 0, .slice none 0 0, .int .i64 0]) := Lib.hid (HY2.out.btw U1 (by omega))
            rw [← hV1]
            obtain ⟨V2, hV2⟩ : ∃ V2, V2 = (((((V1.setCell ⟨w.heap.size + 3, 0, none⟩ (.slice a.A0 256 a.c0)).setCell ⟨w.heap.size + 3, 1, none⟩ (.slice a.A1 32 a.c1)).setCell ⟨w.heap.size + 3, 2, none⟩ (.slice Az 256 cz)).setCell ⟨w.heap.size + 3, 3, none⟩ (.slice Cg 16 dg)).setCell ⟨w.heap.size + 3, 4, none⟩ (.int .i64 mF.s)) := ⟨_, rfl⟩
            have U2 : Btw (w.heap.size + 3) (w.heap.size + 3 + 1) V1 V2 := by rw [hV2]; exact ((((((Btw.refl _ _ _).setCell (p := ⟨w.heap.size + 3, 0, none⟩) (Nat.le_refl _) (Nat.lt_succ_self _) _).setCell (p := ⟨w.heap.size + 3, 1, none⟩) (Nat.le_refl _) (Nat.lt_succ_self _) _).setCell (p := ⟨w.heap.size + 3, 2, none⟩) (Nat.le_refl _) (Nat.lt_succ_self _) _).setCell (p := ⟨w.heap.size + 3, 3, none⟩) (Nat.le_refl _) (Nat.lt_succ_self _) _).setCell (p := ⟨w.heap.size + 3, 4, none⟩) (Nat.le_refl _) (Nat.lt_succ_self _) _)
            have r1 : Box V2 (w.heap.size + 3) 28 #[.slice a.A0 256 a.c0, .slice a.A1 32 a.c1, .slice Az 256 cz, .slice Cg 16 dg, .int .i64 mF.s] := by rw [hV2]; exact HYb.out.allN5 rfl _ _ _ _ _
            have r0 : Box V2 (w.heap.size + 2) 50 #[.int .i64 dF.pc, .int .i64 dF.sp, .int .i64 dF.bank, .int .i64 dF.level, .bool dF.zero, .bool dF.carry, .bool dF.on, .bool dF.halt, .slice a.A 16 a.c] := HYa.out.btw U2 (by omega)
            rw [← hV2]
            clear hV1 hV2
            have s0 := r0.cell 0 rfl
            have s1 := r0.cell 1 rfl
            have s2 := r0.cell 2 rfl
            have s3 := r0.cell 3 rfl
            have s4 := r0.cell 4 rfl
            have s5 := r0.cell 5 rfl
            have s6 := r0.cell 6 rfl
            have s7 := r0.cell 7 rfl
            have s8 := r0.cell 8 rfl
            have t0 := r1.cell 0 rfl
            have t1 := r1.cell 1 rfl
            have t2 := r1.cell 2 rfl
            have t3 := r1.cell 3 rfl
            have t4 := r1.cell 4 rfl
            refine bodyPost_ret (v := .tuple #[.agg #[.int .i64 dF.pc, .int .i64 dF.sp, .int .i64 dF.bank, .int .i64 dF.level, .bool dF.zero, .bool dF.carry, .bool dF.on, .bool dF.halt, .slice a.A 16 a.c], .agg #[.slice a.A0 256 a.c0, .slice a.A1 32 a.c1, .slice Az 256 cz, .slice Cg 16 dg, .int .i64 mF.s], .int .i64 0]) (by simp [results, Try.results23, go_sem, s0, s1, s2, s3, s4, s5, s6, s7, s8, t0, t1, t2, t3, t4]) rfl ?_
            have L4 := HB0.out.l
            have LZ := hq5.size
            have q4 := P4.out.q
            have EB := Lib.hid (OwnA.append (OwnA.one (w := w5) (d := .I dF.regs) (v := .slice a.A dF.regs.length a.c) ⟨a.A, a.c, rfl, (P4.out.G.below (Below.refl _ _).drew).below hq5⟩) (ownA4 (c0 := a.c0) (c1 := a.c1) (c2 := cz) (c3 := dg) (HB0.out.R.below hq5) (HB0.out.I.below hq5) S5.out Q5.out (L := a.R) (R := w5.heap.size) (Nat.le_refl _) (by omega) (by omega) (by omega) (Nat.le_refl _)) (.inl (Nat.le_refl _)) (L := w.heap.size + 4) (R := w5.heap.size) (by have := HaL.out; omega) (by have := HaL.out; omega) (by omega) (Nat.le_refl _))
            have EV := Lib.hid ((EB.out.btw U1 (.inr (by omega))).btw U2 (.inr (by omega)))
            have hfin := Btw.lowSize U2 (Btw.lowSize U1 (bt (bt hb4 (Below.refl _ _).drew) hq5) (Nat.le_of_lt HY1.out.lt) (by omega)) (Nat.le_of_lt HYb.out.lt) (by omega)
            rw [HG.out.1, HG.out.2.1, HG.out.2.2]
            refine ⟨a.A, a.A0, a.A1, Az, Cg, a.c, a.c0, a.c1, cz, dg, ?_, Lib.hid ?_, hfin⟩
            · rw [HLc.out.len, HLm.out.r, HLm.out.i, HLm.out.z, HLm.out.g]
            · exact EV.out.wide (by omega) (Nat.le_trans U1.size U2.size)
          · have hv0 : rngB level 1 7 = false := (by have q : ¬ (0 ≤ level ∧ level ≤ 7) := (by simpa [rngB] using hv7); simp only [rngB, decide_eq_false_iff_not]; omega)
            have hv7' : rngB level 0 7 = false := by simpa using hv7
            clear hz hv7
            have f38 := X34.out.cell 0 rfl
            have f39 := X34.out.cell 1 rfl
            have f40 := X34.out.cell 2 rfl
            have f41 := X34.out.cell 3 rfl
            have f42 := X34.out.cell 4 rfl
            have f43 := X34.out.cell 5 rfl
            have f44 := X34.out.cell 6 rfl
            have f45 := X34.out.cell 7 rfl
            have f46 := X34.out.cell 8 rfl
            have f47 := X35.out.cell 0 rfl
            have f48 := X35.out.cell 1 rfl
            have f49 := X35.out.cell 2 rfl
            have f50 := X35.out.cell 3 rfl
            have f51 := X35.out.cell 4 rfl
            have z52 := X34.out.frozen 0
            have z53 := X34.out.frozen 1
            have z54 := X34.out.frozen 2
            have z55 := X34.out.frozen 3
            have z56 := X34.out.frozen 4
            have z57 := X34.out.frozen 5
            have z58 := X34.out.frozen 6
            have z59 := X34.out.frozen 7
            have z60 := X34.out.frozen 8
            have z61 := X35.out.frozen 0
            have z62 := X35.out.frozen 1
            have z63 := X35.out.frozen 2
            have z64 := X35.out.frozen 3
            have z65 := X35.out.frozen 4
            go_wp2_with (first | (go_at_call 65; refine (isLineR _ _).mono ?_; rintro e w' ⟨rfl, rfl⟩; rw [hl]) | (go_at_call 66; refine (isLevelR _ _).mono ?_; rintro e w' ⟨rfl, rfl⟩; rw [hv7']))
            obtain ⟨W66, hW66⟩ : ∃ W66, W66 = (((((((((w2.setCell ⟨w.heap.size + 2, 0, none⟩ (.int .i64 0)).setCell ⟨w.heap.size + 2, 1, none⟩ (.int .i64 0)).setCell ⟨w.heap.size + 2, 2, none⟩ (.int .i64 0)).setCell ⟨w.heap.size + 2, 3, none⟩ (.int .i64 0)).setCell ⟨w.heap.size + 2, 4, none⟩ (.bool false)).setCell ⟨w.heap.size + 2, 5, none⟩ (.bool false)).setCell ⟨w.heap.size + 2, 6, none⟩ (.bool false)).setCell ⟨w.heap.size + 2, 7, none⟩ (.bool false)).setCell ⟨w.heap.size + 2, 8, none⟩ (.slice none 0 0)) := ⟨_, rfl⟩
            have hB67 : Btw (w.heap.size + 2) (w.heap.size + 2 + 1) w2 W66 := by rw [hW66]; exact ((((((((((Btw.refl _ _ _).setCell (p := ⟨w.heap.size + 2, 0, none⟩) (Nat.le_refl _) (Nat.lt_succ_self _) _).setCell (p := ⟨w.heap.size + 2, 1, none⟩) (Nat.le_refl _) (Nat.lt_succ_self _) _).setCell (p := ⟨w.heap.size + 2, 2, none⟩) (Nat.le_refl _) (Nat.lt_succ_self _) _).setCell (p := ⟨w.heap.size + 2, 3, none⟩) (Nat.le_refl _) (Nat.lt_succ_self _) _).setCell (p := ⟨w.heap.size + 2, 4, none⟩) (Nat.le_refl _) (Nat.lt_succ_self _) _).setCell (p := ⟨w.heap.size + 2, 5, none⟩) (Nat.le_refl _) (Nat.lt_succ_self _) _).setCell (p := ⟨w.heap.size + 2, 6, none⟩) (Nat.le_refl _) (Nat.lt_succ_self _) _).setCell (p := ⟨w.heap.size + 2, 7, none⟩) (Nat.le_refl _) (Nat.lt_succ_self _) _).setCell (p := ⟨w.heap.size + 2, 8, none⟩) (Nat.le_refl _) (Nat.lt_succ_self _) _)
            have X68 : Hid (Box W66 (w.heap.size + 2) 50 #[.int .i64 0, .int .i64 0, .int .i64 0, .int .i64 0, .bool false, .bool false, .bool false, .bool false, .slice none 0 0]) := Lib.hid (by rw [hW66]; exact (X34.out.allN9 rfl _ _ _ _ _ _ _ _ _))
            have X69 := Lib.hid (X32.out.btw hB67 (by have := Z2.out; have := Z26.out; have := Z37.out; omega))
            have X70 := Lib.hid (X33.out.btw hB67 (by have := Z2.out; have := Z26.out; have := Z37.out; omega))
            have X71 := Lib.hid (X35.out.btw hB67 (by have := Z2.out; have := Z26.out; have := Z37.out; omega))
            have hb72 := Btw.lowSize hB67 hb36 (Nat.le_of_lt X34.out.lt) (by have := Z2.out; have := Z26.out; have := Z37.out; omega)
            have Z73 : Hid (w2.heap.size ≤ W66.heap.size) := Lib.hid hB67.size
            rw [← hW66]
            clear hW66 hB67 X34 X32 X33 X35 hb36
            obtain ⟨W74, hW74⟩ : ∃ W74, W74 = (((((W66.setCell ⟨w.heap.size + 3, 0, none⟩ (.slice none 0 0)).setCell ⟨w.heap.size + 3, 1, none⟩ (.slice none 0 0)).setCell ⟨w.heap.size + 3, 2, none⟩ (.slice none 0 0)).setCell ⟨w.heap.size + 3, 3, none⟩ (.slice none 0 0)).setCell ⟨w.heap.size + 3, 4, none⟩ (.int .i64 0)) := ⟨_, rfl⟩
            have hB75 : Btw (w.heap.size + 3) (w.heap.size + 3 + 1) W66 W74 := by rw [hW74]; exact ((((((Btw.refl _ _ _).setCell (p := ⟨w.heap.size + 3, 0, none⟩) (Nat.le_refl _) (Nat.lt_succ_self _) _).setCell (p := ⟨w.heap.size + 3, 1, none⟩) (Nat.le_refl _) (Nat.lt_succ_self _) _).setCell (p := ⟨w.heap.size + 3, 2, none⟩) (Nat.le_refl _) (Nat.lt_succ_self _) _).setCell (p := ⟨w.heap.size + 3, 3, none⟩) (Nat.le_refl _) (Nat.lt_succ_self _) _).setCell (p := ⟨w.heap.size + 3, 4, none⟩) (Nat.le_refl _) (Nat.lt_succ_self _) _)
            have X76 : Hid (Box W74 (w.heap.size + 3) 28 #[.slice none 0 0, .slice none 0 0, .slice none 0 0, .slice none 0 0, .int .i64 0]) := Lib.hid (by rw [hW74]; exact (X71.out.allN5 rfl _ _ _ _ _))
            have X77 := Lib.hid (X69.out.btw hB75 (by have := Z2.out; have := Z26.out; have := Z37.out; have := Z73.out; omega))
            have X78 := Lib.hid (X70.out.btw hB75 (by have := Z2.out; have := Z26.out; have := Z37.out; have := Z73.out; omega))
            have X79 := Lib.hid (X68.out.btw hB75 (by have := Z2.out; have := Z26.out; have := Z37.out; have := Z73.out; omega))
            have hb80 := Btw.lowSize hB75 hb72 (Nat.le_of_lt X71.out.lt) (by have := Z2.out; have := Z26.out; have := Z37.out; have := Z73.out; omega)
            have Z81 : Hid (W66.heap.size ≤ W74.heap.size) := Lib.hid hB75.size
            rw [← hW74]
            clear hW74 hB75 X71 X69 X70 X68 hb72
            have r0 := X79.out
            have r1 := X76.out
            have s0 := r0.cell 0 rfl
            have s1 := r0.cell 1 rfl
            have s2 := r0.cell 2 rfl
            have s3 := r0.cell 3 rfl
            have s4 := r0.cell 4 rfl
            have s5 := r0.cell 5 rfl
            have s6 := r0.cell 6 rfl
            have s7 := r0.cell 7 rfl
            have s8 := r0.cell 8 rfl
            have t0 := r1.cell 0 rfl
            have t1 := r1.cell 1 rfl
            have t2 := r1.cell 2 rfl
            have t3 := r1.cell 3 rfl
            have t4 := r1.cell 4 rfl
            refine bodyPost_ret (v := .tuple #[.agg #[.int .i64 0, .int .i64 0, .int .i64 0, .int .i64 0, .bool false, .bool false, .bool false, .bool false, .slice none 0 0], .agg #[.slice none 0 0, .slice none 0 0, .slice none 0 0, .slice none 0 0, .int .i64 0], .int .i64 19]) (by simp [results, Try.results23, go_sem, s0, s1, s2, s3, s4, s5, s6, s7, s8, t0, t1, t2, t3, t4]) rfl ?_
            obtain ⟨g1, g2, g3⟩ := eirq_level (level := level) HKK.out hl hv0
            rw [g1, g2, g3]
            exact ⟨none, none, none, none, none, 0, 0, 0, 0, 0, rfl, Lib.hid (ownA5_nil _ _ _ (by have := Z2.out; have := Z26.out; have := Z37.out; have := Z73.out; have := Z81.out; omega)), hb80⟩
      · have hl' : rngB line 0 7 = false := by simpa using hl
        clear hl
        have f38 := X34.out.cell 0 rfl
        have f39 := X34.out.cell 1 rfl
        have f40 := X34.out.cell 2 rfl
        have f41 := X34.out.cell 3 rfl
        have f42 := X34.out.cell 4 rfl
        have f43 := X34.out.cell 5 rfl
        have f44 := X34.out.cell 6 rfl
        have f45 := X34.out.cell 7 rfl
        have f46 := X34.out.cell 8 rfl
        have f47 := X35.out.cell 0 rfl
        have f48 := X35.out.cell 1 rfl
        have f49 := X35.out.cell 2 rfl
        have f50 := X35.out.cell 3 rfl
        have f51 := X35.out.cell 4 rfl
        have z52 := X34.out.frozen 0
        have z53 := X34.out.frozen 1
        have z54 := X34.out.frozen 2
        have z55 := X34.out.frozen 3
        have z56 := X34.out.frozen 4
        have z57 := X34.out.frozen 5
        have z58 := X34.out.frozen 6
        have z59 := X34.out.frozen 7
        have z60 := X34.out.frozen 8
        have z61 := X35.out.frozen 0
        have z62 := X35.out.frozen 1
        have z63 := X35.out.frozen 2
        have z64 := X35.out.frozen 3
        have z65 := X35.out.frozen 4
        go_wp2_with (first | (go_at_call 65; refine (isLineR _ _).mono ?_; rintro e w' ⟨rfl, rfl⟩; rw [hl']))
        obtain ⟨W66, hW66⟩ : ∃ W66, W66 = (((((((((w2.setCell ⟨w.heap.size + 2, 0, none⟩ (.int .i64 0)).setCell ⟨w.heap.size + 2, 1, none⟩ (.int .i64 0)).setCell ⟨w.heap.size + 2, 2, none⟩ (.int .i64 0)).setCell ⟨w.heap.size + 2, 3, none⟩ (.int .i64 0)).setCell ⟨w.heap.size + 2, 4, none⟩ (.bool false)).setCell ⟨w.heap.size + 2, 5, none⟩ (.bool false)).setCell ⟨w.heap.size + 2, 6, none⟩ (.bool false)).setCell ⟨w.heap.size + 2, 7, none⟩ (.bool false)).setCell ⟨w.heap.size + 2, 8, none⟩ (.slice none 0 0)) := ⟨_, rfl⟩
        have hB67 : Btw (w.heap.size + 2) (w.heap.size + 2 + 1) w2 W66 := by rw [hW66]; exact ((((((((((Btw.refl _ _ _).setCell (p := ⟨w.heap.size + 2, 0, none⟩) (Nat.le_refl _) (Nat.lt_succ_self _) _).setCell (p := ⟨w.heap.size + 2, 1, none⟩) (Nat.le_refl _) (Nat.lt_succ_self _) _).setCell (p := ⟨w.heap.size + 2, 2, none⟩) (Nat.le_refl _) (Nat.lt_succ_self _) _).setCell (p := ⟨w.heap.size + 2, 3, none⟩) (Nat.le_refl _) (Nat.lt_succ_self _) _).setCell (p := ⟨w.heap.size + 2, 4, none⟩) (Nat.le_refl _) (Nat.lt_succ_self _) _).setCell (p := ⟨w.heap.size + 2, 5, none⟩) (Nat.le_refl _) (Nat.lt_succ_self _) _).setCell (p := ⟨w.heap.size + 2, 6, none⟩) (Nat.le_refl _) (Nat.lt_succ_self _) _).setCell (p := ⟨w.heap.size + 2, 7, none⟩) (Nat.le_refl _) (Nat.lt_succ_self _) _).setCell (p := ⟨w.heap.size + 2, 8, none⟩) (Nat.le_refl _) (Nat.lt_succ_self _) _)
        have X68 : Hid (Box W66 (w.heap.size + 2) 50 #[.int .i64 0, .int .i64 0, .int .i64 0, .int .i64 0, .bool false, .bool false, .bool false, .bool false, .slice none 0 0]) := Lib.hid (by rw [hW66]; exact (X34.out.allN9 rfl _ _ _ _ _ _ _ _ _))
        have X69 := Lib.hid (X32.out.btw hB67 (by have := Z2.out; have := Z26.out; have := Z37.out; omega))
        have X70 := Lib.hid (X33.out.btw hB67 (by have := Z2.out; have := Z26.out; have := Z37.out; omega))
        have X71 := Lib.hid (X35.out.btw hB67 (by have := Z2.out; have := Z26.out; have := Z37.out; omega))
        have hb72 := Btw.lowSize hB67 hb36 (Nat.le_of_lt X34.out.lt) (by have := Z2.out; have := Z26.out; have := Z37.out; omega)
        have Z73 : Hid (w2.heap.size ≤ W66.heap.size) := Lib.hid hB67.size
        rw [← hW66]
        clear hW66 hB67 X34 X32 X33 X35 hb36
        obtain ⟨W74, hW74⟩ : ∃ W74, W74 = (((((W66.setCell ⟨w.heap.size + 3, 0, none⟩ (.slice none 0 0)).setCell ⟨w.heap.size + 3, 1, none⟩ (.slice none 0 0)).setCell ⟨w.heap.size + 3, 2, none⟩ (.slice none 0 0)).setCell ⟨w.heap.size + 3, 3, none⟩ (.slice none 0 0)).setCell ⟨w.heap.size + 3, 4, none⟩ (.int .i64 0)) := ⟨_, rfl⟩
        have hB75 : Btw (w.heap.size + 3) (w.heap.size + 3 + 1) W66 W74 := by rw [hW74]; exact ((((((Btw.refl _ _ _).setCell (p := ⟨w.heap.size + 3, 0, none⟩) (Nat.le_refl _) (Nat.lt_succ_self _) _).setCell (p := ⟨w.heap.size + 3, 1, none⟩) (Nat.le_refl _) (Nat.lt_succ_self _) _).setCell (p := ⟨w.heap.size + 3, 2, none⟩) (Nat.le_refl _) (Nat.lt_succ_self _) _).setCell (p := ⟨w.heap.size + 3, 3, none⟩) (Nat.le_refl _) (Nat.lt_succ_self _) _).setCell (p := ⟨w.heap.size + 3, 4, none⟩) (Nat.le_refl _) (Nat.lt_succ_self _) _)
        have X76 : Hid (Box W74 (w.heap.size + 3) 28 #[.slice none 0 0, .slice none 0 0, .slice none 0 0, .slice none 0 0, .int .i64 0]) := Lib.hid (by rw [hW74]; exact (X71.out.allN5 rfl _ _ _ _ _))
        have X77 := Lib.hid (X69.out.btw hB75 (by have := Z2.out; have := Z26.out; have := Z37.out; have := Z73.out; omega))
        have X78 := Lib.hid (X70.out.btw hB75 (by have := Z2.out; have := Z26.out; have := Z37.out; have := Z73.out; omega))
        have X79 := Lib.hid (X68.out.btw hB75 (by have := Z2.out; have := Z26.out; have := Z37.out; have := Z73.out; omega))
        have hb80 := Btw.lowSize hB75 hb72 (Nat.le_of_lt X71.out.lt) (by have := Z2.out; have := Z26.out; have := Z37.out; have := Z73.out; omega)
        have Z81 : Hid (W66.heap.size ≤ W74.heap.size) := Lib.hid hB75.size
        rw [← hW74]
        clear hW74 hB75 X71 X69 X70 X68 hb72
        have r0 := X79.out
        have r1 := X76.out
        have s0 := r0.cell 0 rfl
        have s1 := r0.cell 1 rfl
        have s2 := r0.cell 2 rfl
        have s3 := r0.cell 3 rfl
        have s4 := r0.cell 4 rfl
        have s5 := r0.cell 5 rfl
        have s6 := r0.cell 6 rfl
        have s7 := r0.cell 7 rfl
        have s8 := r0.cell 8 rfl
        have t0 := r1.cell 0 rfl
        have t1 := r1.cell 1 rfl
        have t2 := r1.cell 2 rfl
        have t3 := r1.cell 3 rfl
        have t4 := r1.cell 4 rfl
        refine bodyPost_ret (v := .tuple #[.agg #[.int .i64 0, .int .i64 0, .int .i64 0, .int .i64 0, .bool false, .bool false, .bool false, .bool false, .slice none 0 0], .agg #[.slice none 0 0, .slice none 0 0, .slice none 0 0, .slice none 0 0, .int .i64 0], .int .i64 4]) (by simp [results, Try.results23, go_sem, s0, s1, s2, s3, s4, s5, s6, s7, s8, t0, t1, t2, t3, t4]) rfl ?_
        obtain ⟨g1, g2, g3⟩ := eirq_line (level := level) HKK.out hl'
        rw [g1, g2, g3]
        exact ⟨none, none, none, none, none, 0, 0, 0, 0, 0, rfl, Lib.hid (ownA5_nil _ _ _ (by have := Z2.out; have := Z26.out; have := Z37.out; have := Z73.out; have := Z81.out; omega)), hb80⟩
end Go.Proofs.Ytngoijchebfolaa

/- EnterIrq on leaves. -/
namespace Go.Proofs.Ytngoijchebfolaa
open Go.RowKit

theorem enterM_len {d : CD} {m : MD} (h : m.Ok) (k : d.Ok) : (enterM d m).Ok := MD.Ok.enter k h
theorem eirq_bnd (d : CD) (m : MD) (line level : Int) : lenA [.I (eirqC d m line level).regs, .I (eirqM d m line level).r, .I (eirqM d m line level).i, .I (eirqM d m line level).z, .B (eirqM d m line level).g] ≤ 4294967296 := by
  unfold eirqC eirqM
  by_cases h : eirqE d m line level = 0
  · have q : d.Ok ∧ m.Ok ∧ (0 ≤ line ∧ line ≤ 7) ∧ (1 ≤ level ∧ level ≤ 7) := by
      unfold eirqE at h
      by_cases h1 : (d.ok && m.ok) = true
      · rw [if_pos h1] at h
        by_cases h2 : rngB line 0 7 = true
        · rw [if_pos h2] at h
          by_cases h3 : rngB level 1 7 = true
          · rw [Bool.and_eq_true] at h1
            exact ⟨CD.ok_iff.1 h1.1, MD.ok_iff.1 h1.2, rngB_says h2, rngB_says h3⟩
          · rw [if_neg h3] at h; omega
        · rw [if_neg h2] at h; omega
      · rw [if_neg h1] at h; omega
    have c := CD.Ok.enter q.1 q.2.2.1 ⟨by omega, q.2.2.2.2⟩
    have e := MD.Ok.enter q.1 q.2.1
    simp only [if_pos h, lenA, Lf.len]
    rw [c.len, e.r, e.i, e.z, e.g]
    omega
  · simp only [if_neg h]
    decide
set_option maxRecDepth 100000 in
theorem specEnterIrqA (A : Option Addr) (c : Nat) (d0 d1 d2 d3 : Int) (d4 d5 d6 d7 : Bool) (d8 : List Int) (A0 A1 A2 A3 : Option Addr) (c0 c1 c2 c3 : Nat) (g0 g1 g2 : List Int) (g3 : List Bool) (g4 : Int) (line level : Int) (w : World) (h : RepA w [.slice A d8.length c] [.I d8]) (_c : CapA [.slice A d8.length c]) (z : szA [.I d8] ≤ 1048576)
    (h' : RepA w [.slice A0 g0.length c0, .slice A1 g1.length c1, .slice A2 g2.length c2, .slice A3 g3.length c3] [.I g0, .I g1, .I g2, .B g3]) (_c' : CapA [.slice A0 g0.length c0, .slice A1 g1.length c1, .slice A2 g2.length c2, .slice A3 g3.length c3]) (z' : szA [.I g0, .I g1, .I g2, .B g3] ≤ 1048576) :
    Calls Try.prog 20 #[.agg #[.int .i64 d0, .int .i64 d1, .int .i64 d2, .int .i64 d3, .bool d4, .bool d5, .bool d6, .bool d7, .slice A d8.length c], .agg #[.slice A0 g0.length c0, .slice A1 g1.length c1, .slice A2 g2.length c2, .slice A3 g3.length c3, .int .i64 g4], .int .i64 line, .int .i64 level] w (fun e w' => ∃ rA8 sA0 sA1 sA2 sA3 rc8 sc0 sc1 sc2 sc3, e = .returned (.tuple #[.agg #[.int .i64 (eirqC ⟨d0, d1, d2, d3, d4, d5, d6, d7, d8⟩ ⟨g0, g1, g2, g3, g4⟩ line level).pc, .int .i64 (eirqC ⟨d0, d1, d2, d3, d4, d5, d6, d7, d8⟩ ⟨g0, g1, g2, g3, g4⟩ line level).sp, .int .i64 (eirqC ⟨d0, d1, d2, d3, d4, d5, d6, d7, d8⟩ ⟨g0, g1, g2, g3, g4⟩ line level).bank, .int .i64 (eirqC ⟨d0, d1, d2, d3, d4, d5, d6, d7, d8⟩ ⟨g0, g1, g2, g3, g4⟩ line level).level, .bool (eirqC ⟨d0, d1, d2, d3, d4, d5, d6, d7, d8⟩ ⟨g0, g1, g2, g3, g4⟩ line level).zero, .bool (eirqC ⟨d0, d1, d2, d3, d4, d5, d6, d7, d8⟩ ⟨g0, g1, g2, g3, g4⟩ line level).carry, .bool (eirqC ⟨d0, d1, d2, d3, d4, d5, d6, d7, d8⟩ ⟨g0, g1, g2, g3, g4⟩ line level).on, .bool (eirqC ⟨d0, d1, d2, d3, d4, d5, d6, d7, d8⟩ ⟨g0, g1, g2, g3, g4⟩ line level).halt, .slice rA8 (eirqC ⟨d0, d1, d2, d3, d4, d5, d6, d7, d8⟩ ⟨g0, g1, g2, g3, g4⟩ line level).regs.length rc8], .agg #[.slice sA0 (eirqM ⟨d0, d1, d2, d3, d4, d5, d6, d7, d8⟩ ⟨g0, g1, g2, g3, g4⟩ line level).r.length sc0, .slice sA1 (eirqM ⟨d0, d1, d2, d3, d4, d5, d6, d7, d8⟩ ⟨g0, g1, g2, g3, g4⟩ line level).i.length sc1, .slice sA2 (eirqM ⟨d0, d1, d2, d3, d4, d5, d6, d7, d8⟩ ⟨g0, g1, g2, g3, g4⟩ line level).z.length sc2, .slice sA3 (eirqM ⟨d0, d1, d2, d3, d4, d5, d6, d7, d8⟩ ⟨g0, g1, g2, g3, g4⟩ line level).g.length sc3, .int .i64 (eirqM ⟨d0, d1, d2, d3, d4, d5, d6, d7, d8⟩ ⟨g0, g1, g2, g3, g4⟩ line level).s], .int .i64 (eirqE ⟨d0, d1, d2, d3, d4, d5, d6, d7, d8⟩ ⟨g0, g1, g2, g3, g4⟩ line level)]) ∧ Hid (OwnA w' w.heap.size w'.heap.size [.slice rA8 (eirqC ⟨d0, d1, d2, d3, d4, d5, d6, d7, d8⟩ ⟨g0, g1, g2, g3, g4⟩ line level).regs.length rc8, .slice sA0 (eirqM ⟨d0, d1, d2, d3, d4, d5, d6, d7, d8⟩ ⟨g0, g1, g2, g3, g4⟩ line level).r.length sc0, .slice sA1 (eirqM ⟨d0, d1, d2, d3, d4, d5, d6, d7, d8⟩ ⟨g0, g1, g2, g3, g4⟩ line level).i.length sc1, .slice sA2 (eirqM ⟨d0, d1, d2, d3, d4, d5, d6, d7, d8⟩ ⟨g0, g1, g2, g3, g4⟩ line level).z.length sc2, .slice sA3 (eirqM ⟨d0, d1, d2, d3, d4, d5, d6, d7, d8⟩ ⟨g0, g1, g2, g3, g4⟩ line level).g.length sc3] [.I (eirqC ⟨d0, d1, d2, d3, d4, d5, d6, d7, d8⟩ ⟨g0, g1, g2, g3, g4⟩ line level).regs, .I (eirqM ⟨d0, d1, d2, d3, d4, d5, d6, d7, d8⟩ ⟨g0, g1, g2, g3, g4⟩ line level).r, .I (eirqM ⟨d0, d1, d2, d3, d4, d5, d6, d7, d8⟩ ⟨g0, g1, g2, g3, g4⟩ line level).i, .I (eirqM ⟨d0, d1, d2, d3, d4, d5, d6, d7, d8⟩ ⟨g0, g1, g2, g3, g4⟩ line level).z, .B (eirqM ⟨d0, d1, d2, d3, d4, d5, d6, d7, d8⟩ ⟨g0, g1, g2, g3, g4⟩ line level).g]) ∧ Below w.heap.size w w') := by
  simp only [szA, Lf.sz] at z z'
  exact specEnterIrq A _ c ⟨d0, d1, d2, d3, d4, d5, d6, d7, d8⟩ A0 A1 A2 A3 _ _ _ _ c0 c1 c2 c3 ⟨g0, g1, g2, g3, g4⟩ line level w rfl rfl rfl rfl rfl (by unfold maxLen; omega) (by unfold maxLen; omega) (by unfold maxLen; omega) (by unfold maxLen; omega) (by unfold maxLen; omega) (repI h.1) (repI h'.1) (repI h'.2.1) (repI h'.2.2.1) (repB h'.2.2.2.1)
set_option maxRecDepth 100000 in
theorem implEnterIrqA (A : Option Addr) (c : Nat) (d0 d1 d2 d3 : Int) (d4 d5 d6 d7 : Bool) (d8 : List Int) (A0 A1 A2 A3 : Option Addr) (c0 c1 c2 c3 : Nat) (g0 g1 g2 : List Int) (g3 : List Bool) (g4 : Int) (line level : Int) (w : World) (h : RepA w [.slice A d8.length c] [.I d8]) (_c : CapA [.slice A d8.length c]) (z : szA [.I d8] ≤ 1048576)
    (h' : RepA w [.slice A0 g0.length c0, .slice A1 g1.length c1, .slice A2 g2.length c2, .slice A3 g3.length c3] [.I g0, .I g1, .I g2, .B g3]) (_c' : CapA [.slice A0 g0.length c0, .slice A1 g1.length c1, .slice A2 g2.length c2, .slice A3 g3.length c3]) (z' : szA [.I g0, .I g1, .I g2, .B g3] ≤ 1048576) :
    Calls Try.prog 23 #[.agg #[.int .i64 d0, .int .i64 d1, .int .i64 d2, .int .i64 d3, .bool d4, .bool d5, .bool d6, .bool d7, .slice A d8.length c], .agg #[.slice A0 g0.length c0, .slice A1 g1.length c1, .slice A2 g2.length c2, .slice A3 g3.length c3, .int .i64 g4], .int .i64 line, .int .i64 level] w (fun e w' => ∃ rA8 sA0 sA1 sA2 sA3 rc8 sc0 sc1 sc2 sc3, e = .returned (.tuple #[.agg #[.int .i64 (eirqC ⟨d0, d1, d2, d3, d4, d5, d6, d7, d8⟩ ⟨g0, g1, g2, g3, g4⟩ line level).pc, .int .i64 (eirqC ⟨d0, d1, d2, d3, d4, d5, d6, d7, d8⟩ ⟨g0, g1, g2, g3, g4⟩ line level).sp, .int .i64 (eirqC ⟨d0, d1, d2, d3, d4, d5, d6, d7, d8⟩ ⟨g0, g1, g2, g3, g4⟩ line level).bank, .int .i64 (eirqC ⟨d0, d1, d2, d3, d4, d5, d6, d7, d8⟩ ⟨g0, g1, g2, g3, g4⟩ line level).level, .bool (eirqC ⟨d0, d1, d2, d3, d4, d5, d6, d7, d8⟩ ⟨g0, g1, g2, g3, g4⟩ line level).zero, .bool (eirqC ⟨d0, d1, d2, d3, d4, d5, d6, d7, d8⟩ ⟨g0, g1, g2, g3, g4⟩ line level).carry, .bool (eirqC ⟨d0, d1, d2, d3, d4, d5, d6, d7, d8⟩ ⟨g0, g1, g2, g3, g4⟩ line level).on, .bool (eirqC ⟨d0, d1, d2, d3, d4, d5, d6, d7, d8⟩ ⟨g0, g1, g2, g3, g4⟩ line level).halt, .slice rA8 (eirqC ⟨d0, d1, d2, d3, d4, d5, d6, d7, d8⟩ ⟨g0, g1, g2, g3, g4⟩ line level).regs.length rc8], .agg #[.slice sA0 (eirqM ⟨d0, d1, d2, d3, d4, d5, d6, d7, d8⟩ ⟨g0, g1, g2, g3, g4⟩ line level).r.length sc0, .slice sA1 (eirqM ⟨d0, d1, d2, d3, d4, d5, d6, d7, d8⟩ ⟨g0, g1, g2, g3, g4⟩ line level).i.length sc1, .slice sA2 (eirqM ⟨d0, d1, d2, d3, d4, d5, d6, d7, d8⟩ ⟨g0, g1, g2, g3, g4⟩ line level).z.length sc2, .slice sA3 (eirqM ⟨d0, d1, d2, d3, d4, d5, d6, d7, d8⟩ ⟨g0, g1, g2, g3, g4⟩ line level).g.length sc3, .int .i64 (eirqM ⟨d0, d1, d2, d3, d4, d5, d6, d7, d8⟩ ⟨g0, g1, g2, g3, g4⟩ line level).s], .int .i64 (eirqE ⟨d0, d1, d2, d3, d4, d5, d6, d7, d8⟩ ⟨g0, g1, g2, g3, g4⟩ line level)]) ∧ Hid (OwnA w' w.heap.size w'.heap.size [.slice rA8 (eirqC ⟨d0, d1, d2, d3, d4, d5, d6, d7, d8⟩ ⟨g0, g1, g2, g3, g4⟩ line level).regs.length rc8, .slice sA0 (eirqM ⟨d0, d1, d2, d3, d4, d5, d6, d7, d8⟩ ⟨g0, g1, g2, g3, g4⟩ line level).r.length sc0, .slice sA1 (eirqM ⟨d0, d1, d2, d3, d4, d5, d6, d7, d8⟩ ⟨g0, g1, g2, g3, g4⟩ line level).i.length sc1, .slice sA2 (eirqM ⟨d0, d1, d2, d3, d4, d5, d6, d7, d8⟩ ⟨g0, g1, g2, g3, g4⟩ line level).z.length sc2, .slice sA3 (eirqM ⟨d0, d1, d2, d3, d4, d5, d6, d7, d8⟩ ⟨g0, g1, g2, g3, g4⟩ line level).g.length sc3] [.I (eirqC ⟨d0, d1, d2, d3, d4, d5, d6, d7, d8⟩ ⟨g0, g1, g2, g3, g4⟩ line level).regs, .I (eirqM ⟨d0, d1, d2, d3, d4, d5, d6, d7, d8⟩ ⟨g0, g1, g2, g3, g4⟩ line level).r, .I (eirqM ⟨d0, d1, d2, d3, d4, d5, d6, d7, d8⟩ ⟨g0, g1, g2, g3, g4⟩ line level).i, .I (eirqM ⟨d0, d1, d2, d3, d4, d5, d6, d7, d8⟩ ⟨g0, g1, g2, g3, g4⟩ line level).z, .B (eirqM ⟨d0, d1, d2, d3, d4, d5, d6, d7, d8⟩ ⟨g0, g1, g2, g3, g4⟩ line level).g]) ∧ Below w.heap.size w w') := by
  simp only [szA, Lf.sz] at z z'
  exact implEnterIrq A _ c ⟨d0, d1, d2, d3, d4, d5, d6, d7, d8⟩ A0 A1 A2 A3 _ _ _ _ c0 c1 c2 c3 ⟨g0, g1, g2, g3, g4⟩ line level w rfl rfl rfl rfl rfl (by unfold maxLen; omega) (by unfold maxLen; omega) (by unfold maxLen; omega) (by unfold maxLen; omega) (by unfold maxLen; omega) (repI h.1) (repI h'.1) (repI h'.2.1) (repI h'.2.2.1) (repB h'.2.2.2.1)
end Go.Proofs.Ytngoijchebfolaa

/- The laws' own functions over Cpu, on leaves. Written by gen_t.py. -/
namespace Go.Proofs.Ytngoijchebfolaa
open Go.RowKit

set_option maxRecDepth 100000 in
set_option maxHeartbeats 2000000 in
theorem szCpuA (vA8 : Option Addr) (vc8 : Nat) (d0 : Int) (d1 : Int) (d2 : Int) (d3 : Int) (d4 : Bool) (d5 : Bool) (d6 : Bool) (d7 : Bool) (d8 : List Int) (left : Int) (w : World) (h : RepA w [.slice vA8 d8.length vc8] [Lf.I d8]) (hf : FitA [Lf.I d8]) (h0 : 0 ≤ left) (h1 : left ≤ 1048576) :
    Calls Try.prog 18 #[.agg #[.int .i64 d0, .int .i64 d1, .int .i64 d2, .int .i64 d3, .bool d4, .bool d5, .bool d6, .bool d7, .slice vA8 d8.length vc8], .int .i64 left] w (Left left (szA [Lf.I d8]) w) := by
  have H0 := Lib.hid (fun W (hb : Below w.heap.size w W) l g0 g1 => szLI (.slice vA8 d8.length vc8) d8 l W ((h.below hb).1) (hf _ (by simp)) g0 g1)
  have HR : Hid (szA [Lf.I d8] = (Lf.sz (Lf.I d8))) := Lib.hid (by simp only [szA]; omega)
  generalize szA [Lf.I d8] = sa at HR ⊢
  generalize (Lf.sz (Lf.I d8)) = z0 at HR H0
  have hb0 := alloc_below w (.cells #[.int .i64 d0, .int .i64 d1, .int .i64 d2, .int .i64 d3, .bool d4, .bool d5, .bool d6, .bool d7, .slice vA8 d8.length vc8] 44)
  have X := Lib.hid (Box.new w 44 #[.int .i64 d0, .int .i64 d1, .int .i64 d2, .int .i64 d3, .bool d4, .bool d5, .bool d6, .bool d7, .slice vA8 d8.length vc8])
  clear h hf
  go_enter Try.func18, Try.ntmps18
  go_wp2_with fail
  refine (H0.out _ hb0 _ (by omega) (by omega)).mono ?_
  rintro e w1 ⟨hres, hc1⟩
  have X1 := Lib.hid (X.out.step hc1)
  have hb1 := bt hb0 hc1
  clear X hb0 hc1
  rcases hres with rfl | ⟨rfl, hle0⟩
  · go_wp2
    go_ret
    exact ⟨.inl rfl, hb1⟩
  have hp0 : ¬ left - (z0 : Int) < 0 := by omega
  go_wp2
  go_ret
  exact ⟨.inr ⟨ret_int (by have := HR.out; omega), by have := HR.out; omega⟩, hb1⟩

set_option maxRecDepth 100000 in
set_option maxHeartbeats 4000000 in
theorem toCpuA (vA8 : Option Addr) (vc8 : Nat) (d0 : Int) (d1 : Int) (d2 : Int) (d3 : Int) (d4 : Bool) (d5 : Bool) (d6 : Bool) (d7 : Bool) (d8 : List Int) (w : World) (h : RepA w [.slice vA8 d8.length vc8] [Lf.I d8]) (hn : szA [Lf.I d8] ≤ 1048576) :
    Calls Try.prog 21 #[.agg #[.int .i64 d0, .int .i64 d1, .int .i64 d2, .int .i64 d3, .bool d4, .bool d5, .bool d6, .bool d7, .slice vA8 d8.length vc8]] w (fun e w' => ∃ uA8 uc8, e = .returned (.agg #[.int .i64 d0, .int .i64 d1, .int .i64 d2, .int .i64 d3, .bool d4, .bool d5, .bool d6, .bool d7, .slice uA8 d8.length uc8]) ∧ Hid (OwnA w' w.heap.size w'.heap.size [.slice uA8 d8.length uc8] [Lf.I d8]) ∧ Hid (CapA [.slice uA8 d8.length uc8]) ∧ Below w.heap.size w w') := by
  obtain ⟨W0, hW0⟩ : ∃ W0, W0 = (((w.alloc (.cells #[.int .i64 d0, .int .i64 d1, .int .i64 d2, .int .i64 d3, .bool d4, .bool d5, .bool d6, .bool d7, .slice vA8 d8.length vc8] 44)).alloc (.cells #[.int .i64 0, .int .i64 0, .int .i64 0, .int .i64 0, .bool false, .bool false, .bool false, .bool false, .slice none 0 0] 50)).alloc (.cells #[.int .i64 d0, .int .i64 d1, .int .i64 d2, .int .i64 d3, .bool d4, .bool d5, .bool d6, .bool d7, .slice none 0 0] 50)) := ⟨_, rfl⟩
  have hs0 : W0.heap.size = w.heap.size + 1 + 1 + 1 := by rw [hW0]; simp
  have hb0 : Below w.heap.size w W0 := by rw [hW0]; exact (((Below.refl _ _).alloc (Nat.le_refl _) _).alloc (by simp) _).alloc (by simp; omega) _
  have X0 : Hid (Box W0 w.heap.size 44 #[.int .i64 d0, .int .i64 d1, .int .i64 d2, .int .i64 d3, .bool d4, .bool d5, .bool d6, .bool d7, .slice vA8 d8.length vc8]) := Lib.hid (by rw [hW0]; exact ((Box.new _ _ _).alloc _).alloc _)
  have Y0 : Hid (Box W0 (w.heap.size + 1) 50 #[.int .i64 0, .int .i64 0, .int .i64 0, .int .i64 0, .bool false, .bool false, .bool false, .bool false, .slice none 0 0]) := Lib.hid (by rw [hW0]; simpa using (Box.new (w.alloc (.cells #[.int .i64 d0, .int .i64 d1, .int .i64 d2, .int .i64 d3, .bool d4, .bool d5, .bool d6, .bool d7, .slice vA8 d8.length vc8] 44)) 50 #[.int .i64 0, .int .i64 0, .int .i64 0, .int .i64 0, .bool false, .bool false, .bool false, .bool false, .slice none 0 0]).alloc (.cells #[.int .i64 d0, .int .i64 d1, .int .i64 d2, .int .i64 d3, .bool d4, .bool d5, .bool d6, .bool d7, .slice none 0 0] 50))
  have Z0 : Hid (Box W0 (w.heap.size + 1 + 1) 50 #[.int .i64 d0, .int .i64 d1, .int .i64 d2, .int .i64 d3, .bool d4, .bool d5, .bool d6, .bool d7, .slice none 0 0]) := Lib.hid (by rw [hW0]; simpa using Box.new ((w.alloc (.cells #[.int .i64 d0, .int .i64 d1, .int .i64 d2, .int .i64 d3, .bool d4, .bool d5, .bool d6, .bool d7, .slice vA8 d8.length vc8] 44)).alloc (.cells #[.int .i64 0, .int .i64 0, .int .i64 0, .int .i64 0, .bool false, .bool false, .bool false, .bool false, .slice none 0 0] 50)) 50 #[.int .i64 d0, .int .i64 d1, .int .i64 d2, .int .i64 d3, .bool d4, .bool d5, .bool d6, .bool d7, .slice none 0 0])
  have O0 : Hid (OwnA W0 (w.heap.size + 3) W0.heap.size [] []) := Lib.hid (OwnA.nil _ _ _)
  have H0 := Lib.hid (fun W (hb : Below w.heap.size w W) => toLI (.slice vA8 d8.length vc8) d8 W ((h.below hb).1) (by simp only [szA, Lf.sz] at hn; omega))
  have HW0 := Lib.hid hW0
  have HS0 := Lib.hid hs0
  clear h hn hW0 hs0
  go_enter Try.func21, Try.ntmps21
  go_wp2_with fail
  rw [← HW0.out]
  refine (H0.out _ hb0).mono ?_
  rintro e w1 ⟨uA8, uc8, rfl, N1, K0, hc⟩
  have hq0 : w.heap.size + 3 ≤ W0.heap.size := by have := Z0.out.lt; omega
  have X1 := Lib.hid (X0.out.step hc)
  have Y1 := Lib.hid (Y0.out.step hc)
  have Z1 := Lib.hid (Z0.out.step hc)
  have O1 : Hid (OwnA w1 (w.heap.size + 3) w1.heap.size [.slice uA8 d8.length uc8] [Lf.I d8]) := Lib.hid ((O0.out.below hc).append (OwnA.one N1.out) (.inl (Nat.le_refl _)) (Nat.le_refl _) hq0 hc.size (Nat.le_refl _))
  have hb1 := bt hb0 hc
  clear X0 Y0 Z0 O0 hb0 hc N1 hq0 HW0 HS0
  have fz8 := Z1.out.cell 8 rfl
  have gz8 := Z1.out.frozen 8
  have fz0 := Z1.out.cell 0 rfl
  have fy0 := Y1.out.cell 0 rfl
  have gy0 := Y1.out.frozen 0
  have fz1 := Z1.out.cell 1 rfl
  have fy1 := Y1.out.cell 1 rfl
  have gy1 := Y1.out.frozen 1
  have fz2 := Z1.out.cell 2 rfl
  have fy2 := Y1.out.cell 2 rfl
  have gy2 := Y1.out.frozen 2
  have fz3 := Z1.out.cell 3 rfl
  have fy3 := Y1.out.cell 3 rfl
  have gy3 := Y1.out.frozen 3
  have fz4 := Z1.out.cell 4 rfl
  have fy4 := Y1.out.cell 4 rfl
  have gy4 := Y1.out.frozen 4
  have fz5 := Z1.out.cell 5 rfl
  have fy5 := Y1.out.cell 5 rfl
  have gy5 := Y1.out.frozen 5
  have fz6 := Z1.out.cell 6 rfl
  have fy6 := Y1.out.cell 6 rfl
  have gy6 := Y1.out.frozen 6
  have fz7 := Z1.out.cell 7 rfl
  have fy7 := Y1.out.cell 7 rfl
  have gy7 := Y1.out.frozen 7
  have fy8 := Y1.out.cell 8 rfl
  have gy8 := Y1.out.frozen 8
  go_wp2
  refine bodyPost_ret (v := .agg #[.int .i64 d0, .int .i64 d1, .int .i64 d2, .int .i64 d3, .bool d4, .bool d5, .bool d6, .bool d7, .slice uA8 d8.length uc8]) (by simp [results, Try.results21, go_sem, fy0, fy1, fy2, fy3, fy4, fy5, fy6, fy7, fy8]) rfl ?_
  refine ⟨uA8, uc8, rfl, Lib.hid ((((((((((((O1.out.set (p := ⟨w.heap.size + 1 + 1, 8, none⟩) (by show w.heap.size + 1 + 1 < w.heap.size + 3; omega) _).set (p := ⟨w.heap.size + 1, 0, none⟩) (by show w.heap.size + 1 < w.heap.size + 3; omega) _).set (p := ⟨w.heap.size + 1, 1, none⟩) (by show w.heap.size + 1 < w.heap.size + 3; omega) _).set (p := ⟨w.heap.size + 1, 2, none⟩) (by show w.heap.size + 1 < w.heap.size + 3; omega) _).set (p := ⟨w.heap.size + 1, 3, none⟩) (by show w.heap.size + 1 < w.heap.size + 3; omega) _).set (p := ⟨w.heap.size + 1, 4, none⟩) (by show w.heap.size + 1 < w.heap.size + 3; omega) _).set (p := ⟨w.heap.size + 1, 5, none⟩) (by show w.heap.size + 1 < w.heap.size + 3; omega) _).set (p := ⟨w.heap.size + 1, 6, none⟩) (by show w.heap.size + 1 < w.heap.size + 3; omega) _).set (p := ⟨w.heap.size + 1, 7, none⟩) (by show w.heap.size + 1 < w.heap.size + 3; omega) _).set (p := ⟨w.heap.size + 1, 8, none⟩) (by show w.heap.size + 1 < w.heap.size + 3; omega) _)).wide (by omega) (by simp [World.setCell])), Lib.hid (CapA.cons K0.out CapA.nil), ((((((((((hb1.setCell (p := ⟨w.heap.size + 1 + 1, 8, none⟩) (by show w.heap.size ≤ w.heap.size + 1 + 1; omega) _).setCell (p := ⟨w.heap.size + 1, 0, none⟩) (by show w.heap.size ≤ w.heap.size + 1; omega) _).setCell (p := ⟨w.heap.size + 1, 1, none⟩) (by show w.heap.size ≤ w.heap.size + 1; omega) _).setCell (p := ⟨w.heap.size + 1, 2, none⟩) (by show w.heap.size ≤ w.heap.size + 1; omega) _).setCell (p := ⟨w.heap.size + 1, 3, none⟩) (by show w.heap.size ≤ w.heap.size + 1; omega) _).setCell (p := ⟨w.heap.size + 1, 4, none⟩) (by show w.heap.size ≤ w.heap.size + 1; omega) _).setCell (p := ⟨w.heap.size + 1, 5, none⟩) (by show w.heap.size ≤ w.heap.size + 1; omega) _).setCell (p := ⟨w.heap.size + 1, 6, none⟩) (by show w.heap.size ≤ w.heap.size + 1; omega) _).setCell (p := ⟨w.heap.size + 1, 7, none⟩) (by show w.heap.size ≤ w.heap.size + 1; omega) _).setCell (p := ⟨w.heap.size + 1, 8, none⟩) (by show w.heap.size ≤ w.heap.size + 1; omega) _)⟩

set_option maxRecDepth 100000 in
set_option maxHeartbeats 4000000 in
theorem eqCpuA (vA8 : Option Addr) (vc8 : Nat) (uA8 : Option Addr) (uc8 : Nat) (d0 : Int) (d1 : Int) (d2 : Int) (d3 : Int) (d4 : Bool) (d5 : Bool) (d6 : Bool) (d7 : Bool) (d8 : List Int) (w : World) (h : RepA w [.slice vA8 d8.length vc8] [Lf.I d8]) (h' : RepA w [.slice uA8 d8.length uc8] [Lf.I d8]) (hn : lenA [Lf.I d8] ≤ maxLen) :
    Calls Try.prog 24 #[.agg #[.int .i64 d0, .int .i64 d1, .int .i64 d2, .int .i64 d3, .bool d4, .bool d5, .bool d6, .bool d7, .slice vA8 d8.length vc8], .agg #[.int .i64 d0, .int .i64 d1, .int .i64 d2, .int .i64 d3, .bool d4, .bool d5, .bool d6, .bool d7, .slice uA8 d8.length uc8]] w fun e w' => e = .returned (.bool true) ∧ Below w.heap.size w w' := by
  have H0 := Lib.hid (fun W (hb : Below w.heap.size w W) => eqLI (.slice vA8 d8.length vc8) (.slice uA8 d8.length uc8) d8 W ((h.below hb).1) ((h'.below hb).1) (by simp only [lenA, Lf.len] at hn; omega))
  obtain ⟨W0, hW0⟩ : ∃ W0, W0 = ((w.alloc (.cells #[.int .i64 d0, .int .i64 d1, .int .i64 d2, .int .i64 d3, .bool d4, .bool d5, .bool d6, .bool d7, .slice vA8 d8.length vc8] 50)).alloc (.cells #[.int .i64 d0, .int .i64 d1, .int .i64 d2, .int .i64 d3, .bool d4, .bool d5, .bool d6, .bool d7, .slice uA8 d8.length uc8] 50)) := ⟨_, rfl⟩
  have hb0 : Below w.heap.size w W0 := by rw [hW0]; exact ((Below.refl _ _).alloc (Nat.le_refl _) _).alloc (by simp) _
  have X0 : Hid (Box W0 w.heap.size 50 #[.int .i64 d0, .int .i64 d1, .int .i64 d2, .int .i64 d3, .bool d4, .bool d5, .bool d6, .bool d7, .slice vA8 d8.length vc8]) := Lib.hid (by rw [hW0]; exact (Box.new _ _ _).alloc _)
  have Y0 : Hid (Box W0 (w.heap.size + 1) 50 #[.int .i64 d0, .int .i64 d1, .int .i64 d2, .int .i64 d3, .bool d4, .bool d5, .bool d6, .bool d7, .slice uA8 d8.length uc8]) := Lib.hid (by rw [hW0]; simpa using Box.new (w.alloc (.cells #[.int .i64 d0, .int .i64 d1, .int .i64 d2, .int .i64 d3, .bool d4, .bool d5, .bool d6, .bool d7, .slice vA8 d8.length vc8] 50)) 50 #[.int .i64 d0, .int .i64 d1, .int .i64 d2, .int .i64 d3, .bool d4, .bool d5, .bool d6, .bool d7, .slice uA8 d8.length uc8])
  have HW0 := Lib.hid hW0
  have hq0 : (d0 != d0) = false := by simp
  have hq1 : (d1 != d1) = false := by simp
  have hq2 : (d2 != d2) = false := by simp
  have hq3 : (d3 != d3) = false := by simp
  have hq4 : (d4 != d4) = false := by simp
  have hq5 : (d5 != d5) = false := by simp
  have hq6 : (d6 != d6) = false := by simp
  have hq7 : (d7 != d7) = false := by simp
  clear hW0 h h' hn
  go_enter Try.func24, Try.ntmps24
  go_wp2_with fail
  rw [← HW0.out]
  refine (H0.out _ hb0).mono ?_
  rintro e w1 ⟨rfl, hc⟩
  have X1 := Lib.hid (X0.out.step hc)
  have Y1 := Lib.hid (Y0.out.step hc)
  have hb1 := bt hb0 hc
  clear X0 Y0 hb0 hc HW0
  go_wp2
  go_ret
  exact ⟨rfl, hb1⟩

set_option maxRecDepth 100000 in
set_option maxHeartbeats 4000000 in
theorem markCpuA (vA8 : Option Addr) (vc8 : Nat) (d0 : Int) (d1 : Int) (d2 : Int) (d3 : Int) (d4 : Bool) (d5 : Bool) (d6 : Bool) (d7 : Bool) (d8 : List Int) (k lo hi : Nat) (w : World) (h : OwnA w lo hi [.slice vA8 d8.length vc8] [Lf.I d8]) (hhi : hi ≤ w.heap.size) (hk : 1 ≤ k) (hB : BndA [Lf.I d8]) (hk2 : k + lenA [Lf.I d8] ≤ 549755813888) :
    Calls Try.prog 26 #[.agg #[.int .i64 d0, .int .i64 d1, .int .i64 d2, .int .i64 d3, .bool d4, .bool d5, .bool d6, .bool d7, .slice vA8 d8.length vc8], .int .i64 (k : Int)] w fun e w' => e = .returned (.int .i64 ((k + lenA [Lf.I d8] : Nat) : Int)) ∧ Hid (OwnA w' lo hi [.slice vA8 d8.length vc8] (marksA k [Lf.I d8])) ∧ Touch [.slice vA8 d8.length vc8] w w' := by
  have hb0 := alloc_below w (.cells #[.int .i64 d0, .int .i64 d1, .int .i64 d2, .int .i64 d3, .bool d4, .bool d5, .bool d6, .bool d7, .slice vA8 d8.length vc8] 50)
  have X0 := Lib.hid (Box.new w 50 #[.int .i64 d0, .int .i64 d1, .int .i64 d2, .int .i64 d3, .bool d4, .bool d5, .bool d6, .bool d7, .slice vA8 d8.length vc8])
  have O0 := Lib.hid (h.below hb0)
  have T0 := Lib.hid (Touch.of_below hb0 [.slice vA8 d8.length vc8])
  have H0 := Lib.hid (fun W (o : OwnL W lo hi (.slice vA8 d8.length vc8) (Lf.I d8)) => markLI (.slice vA8 d8.length vc8) d8 (k) lo hi W o (by omega) (hB (Lf.I d8) (by simp)) (by simp only [lenA] at hk2 ⊢; omega))
  have HH := Lib.hid hhi
  clear h hb0 hB hk2 hk hhi
  go_enter Try.func26, Try.ntmps26
  have G0 := OwnA.seg (a := []) (m := [.slice vA8 d8.length vc8]) (b := []) (da := []) (dm := [Lf.I d8]) (db := []) O0.out rfl rfl
  have HC0 := Lib.hid (H0.out _ G0.1.1)
  clear G0
  go_wp2_with fail
  refine HC0.out.mono ?_
  rintro e w1 ⟨rfl, M0, U0⟩
  have O1 := Lib.hid (OwnA.reseg (a := []) (m := [.slice vA8 d8.length vc8]) (b := []) (da := []) (dm := [Lf.I d8]) (db := []) (dm' := [(Lf.I d8).marks (k)]) O0.out rfl rfl (OwnA.one M0.out) U0)
  have T1 := Lib.hid (T0.out.chain (U0.mem (by simp +contextual)))
  have X1 : Hid (Box w1 w.heap.size 50 #[.int .i64 d0, .int .i64 d1, .int .i64 d2, .int .i64 d3, .bool d4, .bool d5, .bool d6, .bool d7, .slice vA8 d8.length vc8]) := Lib.hid (X0.out.touch (OwnA.seg (a := []) (m := [.slice vA8 d8.length vc8]) (b := []) (da := []) (dm := [Lf.I d8]) (db := []) O0.out rfl rfl) U0 (.inr HH.out))
  clear X0 O0 T0 M0 U0 HC0
  go_wp2
  go_ret
  refine ⟨?_, Lib.hid ?_, T1.out⟩
  · refine ret_int ?_
    simp only [lenA]; omega
  · have := O1.out
    first | exact this | (simp only [marksA, lenA, List.cons_append, List.nil_append, Nat.add_zero, Nat.add_assoc] at this ⊢; exact this)

set_option maxRecDepth 100000 in
set_option maxHeartbeats 4000000 in
theorem heldCpuA (vA8 : Option Addr) (vc8 : Nat) (d0 : Int) (d1 : Int) (d2 : Int) (d3 : Int) (d4 : Bool) (d5 : Bool) (d6 : Bool) (d7 : Bool) (d8 : List Int) (k : Nat) (w : World) (h : RepA w [.slice vA8 d8.length vc8] (marksA k [Lf.I d8])) (hk : 1 ≤ k) (hB : BndA [Lf.I d8]) (hk2 : k + lenA [Lf.I d8] ≤ 549755813888) :
    Calls Try.prog 28 #[.agg #[.int .i64 d0, .int .i64 d1, .int .i64 d2, .int .i64 d3, .bool d4, .bool d5, .bool d6, .bool d7, .slice vA8 d8.length vc8], .int .i64 (k : Int)] w fun e w' => e = .returned (.int .i64 ((k + lenA [Lf.I d8] : Nat) : Int)) ∧ Below w.heap.size w w' := by
  have hb0 := alloc_below w (.cells #[.int .i64 d0, .int .i64 d1, .int .i64 d2, .int .i64 d3, .bool d4, .bool d5, .bool d6, .bool d7, .slice vA8 d8.length vc8] 50)
  have X0 := Lib.hid (Box.new w 50 #[.int .i64 d0, .int .i64 d1, .int .i64 d2, .int .i64 d3, .bool d4, .bool d5, .bool d6, .bool d7, .slice vA8 d8.length vc8])
  simp only [marksA] at h
  have H0 := Lib.hid (fun W (hb : Below w.heap.size w W) => heldLI (.slice vA8 d8.length vc8) d8 (k) W (by have := (h.below hb).1; simpa only [Nat.add_assoc] using this) (by omega) (hB (Lf.I d8) (by simp)) (by simp only [lenA] at hk2 ⊢; omega))
  clear h hB hk hk2
  go_enter Try.func28, Try.ntmps28
  go_wp2_with fail
  refine (H0.out _ hb0).mono ?_
  rintro e w1 ⟨rfl, hc⟩
  have X1 := Lib.hid (X0.out.step hc)
  have hb1 := bt hb0 hc
  clear X0 hb0 hc
  have hp0 : ¬ ((k + (Lf.len (Lf.I d8)) : Nat) : Int) < 0 := by omega
  go_wp2
  go_ret
  exact ⟨ret_int (by simp only [lenA]; omega), hb1⟩

end Go.Proofs.Ytngoijchebfolaa

/- What the drawn regions of the exact laws want: values out of a tuple, owned rows kept over a store into a struct's box. -/
namespace Go.Proofs.Ytngoijchebfolaa
open Go.RowKit

def tupAt : Value → Nat → Value
  | .tuple vs, k => vs.getD k undef
  | _, _ => undef
def aggC : Value → Array Value
  | .agg cs => cs
  | _ => #[]
theorem OwnI.awayT {w w' : World} {lo hi b : Nat} {A : Option Addr} {zs : List Int} {t : TypeId} {cs : Array Value} (h : OwnI w lo hi A zs) (X : Box w b t cs) (ht : t ≠ 3) (hb : Btw b (b + 1) w w') : OwnI w' lo hi A zs := by
  rcases h with e | ⟨g, m, f, e, q1, q2, q3, hr, hf⟩
  · exact .inl e
  · exact .inr ⟨g, m, f, e, q1, q2, q3, hb.row hr (by have := X.ne hr ht; omega), hf⟩
theorem OwnB.awayT {w w' : World} {lo hi b : Nat} {A : Option Addr} {zs : List Bool} {t : TypeId} {cs : Array Value} (h : OwnB w lo hi A zs) (X : Box w b t cs) (ht : t ≠ 4) (hb : Btw b (b + 1) w w') : OwnB w' lo hi A zs := by
  rcases h with e | ⟨g, m, f, e, q1, q2, q3, hr, hf⟩
  · exact .inl e
  · exact .inr ⟨g, m, f, e, q1, q2, q3, hb.row hr (by have := X.ne hr ht; omega), hf⟩
theorem OwnS.awayT {w w' : World} {lo hi b : Nat} {A : Option Addr} {zs : List ByteArray} {t : TypeId} {cs : Array Value} (h : OwnS w lo hi A zs) (X : Box w b t cs) (ht : t ≠ 9) (hb : Btw b (b + 1) w w') : OwnS w' lo hi A zs := by
  rcases h with e | ⟨g, m, f, e, q1, q2, q3, hr, hf⟩
  · exact .inl e
  · exact .inr ⟨g, m, f, e, q1, q2, q3, hb.row hr (by have := X.ne hr ht; omega), hf⟩
theorem OwnR.awayT {w w' : World} {lo hi b : Nat} {T : TypeId} {A : Option Addr} {k : Nat} {rows : List (List Value)} {t : TypeId} {cs : Array Value} (h : OwnR w lo hi T A k rows) (X : Box w b t cs) (ht : t ≠ T) (hb : Btw b (b + 1) w w') : OwnR w' lo hi T A k rows := by
  rcases h with e | ⟨g, m, f, e, q1, q2, q3, hr, hf⟩
  · exact .inl e
  · exact .inr ⟨g, m, f, e, q1, q2, q3, hb.row hr (by have := X.ne hr ht; omega), hf⟩
theorem OwnL.awayT {w w' : World} {lo hi b : Nat} {v : Value} {d : Lf} {t : TypeId} {cs : Array Value} (h : OwnL w lo hi v d) (X : Box w b t cs) (h1 : t ≠ 3) (h2 : t ≠ 4) (h3 : t ≠ 9) (h4 : ∀ T k hk rows, d = .R T k hk rows → t ≠ T) (hb : Btw b (b + 1) w w') : OwnL w' lo hi v d := by
  cases d with
  | I zs => obtain ⟨A, c, e, h⟩ := h; exact ⟨A, c, e, h.awayT X h1 hb⟩
  | B zs => obtain ⟨A, c, e, h⟩ := h; exact ⟨A, c, e, h.awayT X h2 hb⟩
  | S zs => obtain ⟨A, c, e, h⟩ := h; exact ⟨A, c, e, h.awayT X h3 hb⟩
  | R T k hk rows => obtain ⟨A, c, e, h⟩ := h; exact ⟨A, c, e, h.awayT X (h4 T k hk rows rfl) hb⟩
theorem OwnA.awayT {w w' : World} {lo hi b : Nat} {vs : List Value} {ds : List Lf} {t : TypeId} {cs : Array Value} (h : OwnA w lo hi vs ds) (X : Box w b t cs) (h1 : t ≠ 3) (h2 : t ≠ 4) (h3 : t ≠ 9) (h4 : ∀ d ∈ ds, ∀ T k hk rows, d ≠ .R T k hk rows) (hb : Btw b (b + 1) w w') : OwnA w' lo hi vs ds := by
  refine ⟨?_, h.2⟩
  have aux : ∀ {vs : List Value} {ds : List Lf}, (∀ d ∈ ds, ∀ T k hk rows, d ≠ .R T k hk rows) → AllA (OwnL w lo hi) vs ds → AllA (OwnL w' lo hi) vs ds := by
    intro vs
    induction vs with
    | nil => intro ds _ q; cases ds with
      | nil => trivial
      | cons => exact q.elim
    | cons v vs ih => intro ds g q; cases ds with
      | nil => exact q.elim
      | cons d ds => exact ⟨q.1.awayT X h1 h2 h3 (fun T k hk rows e => (g d (by simp) T k hk rows e).elim) hb, ih (fun d hd => g d (by simp [hd])) q.2⟩
  exact aux h4 h.1
theorem btw_row1 (w : World) (b : Nat) (cs : Array Value) : Btw b (b + 1) w (w.setRow b cs) := btw_setRow (Btw.refl _ _ _) (Nat.le_refl _) (Nat.lt_succ_self _) cs
/-- A box of this type and size, whatever it holds; it stays one over a store into a row. -/
theorem Box.some_row {w : World} {b b' n : Nat} {t : TypeId} (h : ∃ o : Array Value, o.size = n ∧ Box w b t o) (cs : Array Value) (hn : b = b' → cs.size = n) : ∃ o : Array Value, o.size = n ∧ Box (w.setRow b' cs) b t o := by
  obtain ⟨o, ho, X⟩ := h
  by_cases e : b = b'
  · subst e; exact ⟨cs, hn rfl, X.setRow _⟩
  · exact ⟨o, ho, X.farRow e _⟩
theorem mask_put_ne (l : List Nat) (s k : Nat) (h : l.contains k = true) (T : Array Value) (a : Act) (v : Value) (hk : k ≠ s) : mask l (Act.put { a with tmps := T } (some s) v).tmps k = T.getD k undef := by
  unfold mask
  rw [if_pos h]
  exact getD_set_val T s k v hk
theorem litArr (T : Array Value) (n : Nat) (h : T.size = n) : T = ((List.range n).map fun i => T.getD i undef).toArray := by
  apply Array.ext
  · simp [h]
  · intro i h1 h2
    simp [h1]
section
variable {P : Program} {o : Oper} {a : Act} {w : World} {K : Act → World → Prop} {Q : Exit → Act → World → Prop}
theorem wp_pure (x : Operand) (ho : o.op = .assign x ∨ o.op = .move x) (v : Value) (hv : a.eval x = v) (h : K (a.put o.dst v) w) : Oper.wp P o a w K Q := by
  rcases ho with ho | ho
  · unfold Oper.wp execOp
    simp only [ho, hv]
    exact h
  · unfold Oper.wp execOp
    simp only [ho, hv]
    exact h
theorem wp_extract (x : Operand) (k : Nat) (ho : o.op = .extract x k) (vs : Array Value) (hv : a.eval x = .tuple vs) (v : Value) (hk : vs[k]? = some v) (h : K (a.put o.dst v) w) : Oper.wp P o a w K Q := by
  unfold Oper.wp execOp
  simp [ho, hv, Instr.extract, hk]
  exact h
/-- A Go function is called, by its contract. -/
theorem wp_callfn {f : FuncId} {fn : Func} (hf : P.funcs[f]? = some fn) (hname : (fn.name == "runtime.NumGoroutine") = false) (hb : fn.body.isNone = false) {xs : List Operand} {ats : Array TypeId} (vs : List Value) (ho : o.op = .call { callee := .value (.func f), args := xs.toArray, argTypes := ats }) (hv : xs.map a.eval = vs) {Post : Ending → World → Prop} (hc : Calls P f vs.toArray w Post) (h : ∀ e w', Post e w' → ∃ v, e = .returned v ∧ K (a.put o.dst v) w') : Oper.wp P o a w K Q := by
  unfold Oper.wp execOp
  have h1 : ¬ fn.name = "runtime.NumGoroutine" := by simpa using hname
  have h2 : ¬ fn.body = none := by intro e; rw [e] at hb; cases hb
  have hrun : Sem.run P (callFunc f vs.toArray) w = .ok (.enter f vs.toArray) w := by simp [callFunc, go_sem, hf, h1, h2]
  simp [ho, go_sem, resolve, invoke, hv]
  rw [hrun, Oper.upon_enter]
  refine hc.mono fun e w' hp => ?_
  obtain ⟨v, rfl, hk⟩ := h e w' hp
  exact hk
theorem wp_allocZ (t : TypeId) (ho : o.op = .alloc t) (z : Array Value) (hz : (P.info? t).bind (·.zero) = some (.agg z)) (h : K (a.put o.dst (.pointer (some ⟨w.heap.size, 0, none⟩))) (w.alloc (.cells z t))) : Oper.wp P o a w K Q := by
  unfold Oper.wp execOp
  obtain ⟨i, hi, hzz⟩ := Option.bind_eq_some_iff.1 hz
  simp [ho, Instr.alloc, go_sem, zeroValue, newVar, typeInfo, hi, hzz]
  exact h
end
end Go.Proofs.Ytngoijchebfolaa

/- Lengths and sizes of leaves, leaf by leaf. -/
namespace Go.Proofs.Ytngoijchebfolaa
open Go.RowKit
theorem Lf.len_I (zs : List Int) : (Lf.I zs).len = zs.length := rfl
theorem Lf.len_B (gs : List Bool) : (Lf.B gs).len = gs.length := rfl
theorem Lf.len_S (ss : List ByteArray) : (Lf.S ss).len = ss.length := rfl
theorem Lf.sz_I (zs : List Int) : (Lf.I zs).sz = zs.length := rfl
theorem Lf.sz_B (gs : List Bool) : (Lf.B gs).sz = gs.length := rfl
theorem Lf.sz_S (ss : List ByteArray) : (Lf.S ss).sz = ss.length + lenS ss := rfl
end Go.Proofs.Ytngoijchebfolaa

/- The laws' own functions over Channel, on leaves. Written by gen_t.py. -/
namespace Go.Proofs.Ytngoijchebfolaa
open Go.RowKit

set_option maxRecDepth 100000 in
set_option maxHeartbeats 4000000 in
theorem toChannelA (d0 : Int) (d1 : Int) (d2 : Int) (d3 : Int) (w : World) :
    Calls Try.prog 38 #[.agg #[.int .i64 d0, .int .i64 d1, .int .i64 d2, .int .i64 d3]] w (fun e w' => e = .returned (.agg #[.int .i64 d0, .int .i64 d1, .int .i64 d2, .int .i64 d3]) ∧ Below w.heap.size w w') := by
  go_enter Try.func38, Try.ntmps38
  go_wp2
  refine bodyPost_ret (v := .agg #[.int .i64 d0, .int .i64 d1, .int .i64 d2, .int .i64 d3]) (by simp [results, Try.results38, go_sem]) rfl ?_
  exact ⟨rfl, ((((Below.refl _ _).alloc (Nat.le_refl _) _).alloc (by simp) _).alloc (by simp; omega) _)⟩

set_option maxRecDepth 100000 in
set_option maxHeartbeats 4000000 in
theorem eqChannelA (d0 : Int) (d1 : Int) (d2 : Int) (d3 : Int) (w : World) :
    Calls Try.prog 76 #[.agg #[.int .i64 d0, .int .i64 d1, .int .i64 d2, .int .i64 d3], .agg #[.int .i64 d0, .int .i64 d1, .int .i64 d2, .int .i64 d3]] w fun e w' => e = .returned (.bool true) ∧ Below w.heap.size w w' := by
  obtain ⟨W0, hW0⟩ : ∃ W0, W0 = ((w.alloc (.cells #[.int .i64 d0, .int .i64 d1, .int .i64 d2, .int .i64 d3] 36)).alloc (.cells #[.int .i64 d0, .int .i64 d1, .int .i64 d2, .int .i64 d3] 36)) := ⟨_, rfl⟩
  have hb0 : Below w.heap.size w W0 := by rw [hW0]; exact ((Below.refl _ _).alloc (Nat.le_refl _) _).alloc (by simp) _
  have X0 : Hid (Box W0 w.heap.size 36 #[.int .i64 d0, .int .i64 d1, .int .i64 d2, .int .i64 d3]) := Lib.hid (by rw [hW0]; exact (Box.new _ _ _).alloc _)
  have Y0 : Hid (Box W0 (w.heap.size + 1) 36 #[.int .i64 d0, .int .i64 d1, .int .i64 d2, .int .i64 d3]) := Lib.hid (by rw [hW0]; simpa using Box.new (w.alloc (.cells #[.int .i64 d0, .int .i64 d1, .int .i64 d2, .int .i64 d3] 36)) 36 #[.int .i64 d0, .int .i64 d1, .int .i64 d2, .int .i64 d3])
  have HW0 := Lib.hid hW0
  have hq0 : (d0 != d0) = false := by simp
  have hq1 : (d1 != d1) = false := by simp
  have hq2 : (d2 != d2) = false := by simp
  have hq3 : (d3 != d3) = false := by simp
  clear hW0
  go_enter Try.func76, Try.ntmps76
  go_wp2
  rw [← HW0.out]
  go_ret
  exact ⟨rfl, hb0⟩

end Go.Proofs.Ytngoijchebfolaa

/- A disk that came in, opened: its two slices as lists. Nothing here walks. -/
namespace Go.Proofs.Ytngoijchebfolaa
open Go.RowKit Go.ChangeShapes Go.WideShapes

section
variable {H : Type} {enc : TypeId × Value → H} {P : Program} {w : World} {spare : Nat → Bool} {held : Bool}

theorem getD_range {α : Type} (n : Nat) (f : Nat → α) (d : α) (i : Nat) (h : i < n) : ((List.range n).map f).getD i d = f i := by
  simp [List.getD_eq_getElem?_getD, h]

theorem add_plain {a : Addr} {b off i : Nat} {v : Value} (h : w.cell? (a.add i) = some v) (ha : a = ⟨b, off, none⟩) : w.cell? ⟨b, off + i, none⟩ = some v := by
  subst ha
  unfold Addr.add at h
  by_cases hi : i = 0
  · subst hi; simpa using h
  · rw [if_neg hi] at h; exact h

theorem open_strs {t e : TypeId} {fuel : Nat} {v : Value} {x : DataW H × List MemPlace} (ht : P.underlying t = some (.slice e)) (he : P.underlying e = some .string) (hce : P.cellsOf e = 1)
    (h : DataW.trod enc P w 0 spare held fuel t [v] = some x) :
    ∃ A n c, ∃ ss : List ByteArray, v = .slice A n c ∧ ss.length = n ∧ n ≤ maxLen ∧ StrL w A ss ∧ FitS ss := by
  rcases Deep.open_slice1 ht hce h with ⟨hcs, _⟩ | ⟨a, len, cap, m, k, V, D, Pl, hcs, _, hl, hm, hmm, _, hx⟩
  · injection hcs with hv _
    exact ⟨none, 0, 0, [], hv, rfl, by unfold maxLen; omega, fun i hi => by simp at hi, fun s hs => by simp at hs⟩
  · injection hcs with hv _
    have hlm : len ≤ m := by rw [hmm]; split <;> omega
    obtain ⟨S, hS⟩ := Deep.choose_lt (n := len) (p := fun i (s : ByteArray) => w.cell? (a.add i) = some (.string s) ∧ s.size ≤ maxLen) (fun i hi => by
      obtain ⟨h1, h2⟩ := hx i (by omega)
      obtain ⟨s, hc, _, hs⟩ := DataW.trod_string he h2
      injection hc with hc _
      exact ⟨s, by rw [← hc]; exact h1, hs⟩)
    refine ⟨some a, len, cap, (List.range len).map S, hv, by simp, by omega, fun i hi => ?_, fun s hs => ?_⟩
    · have hi' : i < len := by simpa using hi
      have h0 := (hS 0 (by omega)).1
      have hsp := World.cell?_spot h0
      obtain ⟨b, off, spot⟩ := a
      have hsp' : spot = none := by simpa [Addr.add] using hsp
      subst hsp'
      exact ⟨b, off, rfl, by rw [getD_range len S _ i hi']; exact add_plain (hS i hi').1 rfl⟩
    · obtain ⟨i, hi, rfl⟩ := List.mem_map.1 hs
      exact (hS i (by simpa using hi)).2

theorem open_writes {t e : TypeId} {f0 f1 : Field} {fuel : Nat} {v : Value} {x : DataW H × List MemPlace} (ht : P.underlying t = some (.slice e)) (he : P.underlying e = some (.struct #[f0, f1])) (hce : P.cellsOf e = 2)
    (h0 : P.underlying f0.type = some (.int .i64)) (h1 : P.underlying f1.type = some .string) (c0 : P.cellsOf f0.type = 1) (c1 : P.cellsOf f1.type = 1) (o0 : f0.offset = 0) (o1 : f1.offset = 1)
    (h : DataW.trod enc P w 0 spare held fuel t [v] = some x) :
    ∃ A n c, ∃ ws : List (Int × ByteArray), v = .slice A n c ∧ ws.length = n ∧ n ≤ maxLen ∧ WrL w A ws ∧ FitW ws := by
  rcases Deep.open_slice ht h with ⟨hcs, _⟩ | ⟨a, len, cap, m, k, D, Pl, hcs, _, hl, hm, hmm, _, hx⟩
  · injection hcs with hv _
    exact ⟨none, 0, 0, [], hv, rfl, by unfold maxLen; omega, fun i hi => by simp at hi, fun s hs => by simp at hs⟩
  · injection hcs with hv _
    have hlm : len ≤ m := by rw [hmm]; split <;> omega
    rw [hce] at hx
    obtain ⟨S, hS⟩ := Deep.choose_lt (n := len) (p := fun i (s : Int × ByteArray) => w.cell? ((a.add (i * 2)).add 0) = some (.int .i64 s.1) ∧ w.cell? ((a.add (i * 2)).add 1) = some (.string s.2) ∧ s.2.size ≤ maxLen) (fun i hi => by
      obtain ⟨cs, g1, g2⟩ := hx i (by omega)
      obtain ⟨_, hlen, hcell⟩ := World.cells?_some g1
      obtain ⟨y0, y1, q, _, _, g3, g4⟩ := trod_struct2 he g2
      rw [o0, c0] at g3
      rw [o1, c1] at g4
      obtain ⟨u0, u1, rfl⟩ : ∃ u0 u1, cs = [u0, u1] := by
        match cs, hlen with
        | [u0, u1], _ => exact ⟨u0, u1, rfl⟩
      obtain ⟨z, hz, _, _⟩ := DataW.trod_int h0 g3
      obtain ⟨s, hs, _, hsz⟩ := DataW.trod_string h1 g4
      simp at hz hs
      have k0 := hcell 0 (by omega)
      have k1 := hcell 1 (by omega)
      simp at k0 k1
      exact ⟨(z, s), by rw [k0, hz], by rw [k1, hs], hsz⟩)
    refine ⟨some a, len, cap, (List.range len).map S, hv, by simp, by omega, fun i hi => ?_, fun s hs => ?_⟩
    · have hi' : i < len := by simpa using hi
      have h0 := (hS 0 (by omega)).1
      have hsp := World.cell?_spot h0
      obtain ⟨b, off, spot⟩ := a
      have hsp' : spot = none := by simpa [Addr.add] using hsp
      subst hsp'
      refine ⟨b, off, rfl, ?_, ?_⟩
      · rw [getD_range len S _ i hi']
        have := (hS i hi').1
        rw [Deep.add_add] at this
        exact add_plain this rfl
      · rw [getD_range len S _ i hi']
        have := (hS i hi').2.1
        rw [Deep.add_add] at this
        have := add_plain (b := b) (off := off) this rfl
        rwa [← Nat.add_assoc] at this
    · obtain ⟨i, hi, rfl⟩ := List.mem_map.1 hs
      exact (hS i (by simpa using hi)).2.2

theorem open_ints64 {t e : TypeId} {fuel : Nat} {v : Value} {x : DataW H × List MemPlace} (ht : P.underlying t = some (.slice e)) (he : P.underlying e = some (.int .i64)) (hce : P.cellsOf e = 1)
    (h : DataW.trod enc P w 0 spare held fuel t [v] = some x) :
    ∃ A n c, ∃ zs : List Int, v = .slice A n c ∧ zs.length = n ∧ n ≤ maxLen ∧ IntL w A zs ∧ ∀ z ∈ zs, (Lit.int .i64 z).wf = true := by
  rcases Deep.open_slice1 ht hce h with ⟨hcs, _⟩ | ⟨a, len, cap, m, k, V, D, Pl, hcs, _, hl, hm, hmm, _, hx⟩
  · injection hcs with hv _
    exact ⟨none, 0, 0, [], hv, rfl, by unfold maxLen; omega, fun i hi => by simp at hi, fun s hs => by simp at hs⟩
  · injection hcs with hv _
    have hlm : len ≤ m := by rw [hmm]; split <;> omega
    obtain ⟨S, hS⟩ := Deep.choose_lt (n := len) (p := fun i (s : Int) => w.cell? (a.add i) = some (.int .i64 s) ∧ (Lit.int .i64 s).wf = true) (fun i hi => by
      obtain ⟨h1, h2⟩ := hx i (by omega)
      obtain ⟨s, hc, _, hs⟩ := DataW.trod_int he h2
      injection hc with hc _
      exact ⟨s, by rw [← hc]; exact h1, hs⟩)
    refine ⟨some a, len, cap, (List.range len).map S, hv, by simp, by omega, fun i hi => ?_, fun s hs => ?_⟩
    · have hi' : i < len := by simpa using hi
      have h0 := (hS 0 (by omega)).1
      have hsp := World.cell?_spot h0
      obtain ⟨b, off, spot⟩ := a
      have hsp' : spot = none := by simpa [Addr.add] using hsp
      subst hsp'
      exact ⟨b, off, rfl, by rw [getD_range len S _ i hi']; exact add_plain (hS i hi').1 rfl⟩
    · obtain ⟨i, hi, rfl⟩ := List.mem_map.1 hs
      exact (hS i (by simpa using hi)).2
end

set_option maxRecDepth 100000 in
theorem cellsStr : Try.prog.cellsOf 9 = 1 := by kernel_rfl
set_option maxRecDepth 100000 in
theorem cellsInt : Try.prog.cellsOf 3 = 1 := by kernel_rfl
end Go.Proofs.Ytngoijchebfolaa
