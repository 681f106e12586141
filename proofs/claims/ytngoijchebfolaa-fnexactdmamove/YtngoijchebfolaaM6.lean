/- Texts of this claim, one behind the other: CpuSpec, GenK, GenChannel, Open, GenRChannel, DmaMath, DmaOk, RowsK, Clone9. -/
import Derived.Deep.Slices
import Derived.Lib.SmallJoins
import Derived.Lib.SliceRun
import Derived.Test.YtngoijchebfolaaM5
/- The model's processor: its own registers, a register, pushing. Written by gen_cpuspec.py. -/
namespace Go.Proofs.Ytngoijchebfolaa
open Go.RowKit

set_option maxRecDepth 100000 in
theorem infoCpu9 : (Try.prog.info? 50).map (·.size) = some 9 := by kernel_rfl
theorem one9 {a b c d : Int} {e f g h : Bool} {A : Option Addr} {n k : Nat} : (#[.int .i64 a, .int .i64 b, .int .i64 c, .int .i64 d, .bool e, .bool f, .bool g, .bool h, .slice A n k] : Array Value).all (·.oneCell') = true := by simp [Value.oneCell']
theorem one5 {A0 A1 A2 A3 : Option Addr} {n0 n1 n2 n3 k0 k1 k2 k3 : Nat} {s : Int} : (#[.slice A0 n0 k0, .slice A1 n1 k1, .slice A2 n2 k2, .slice A3 n3 k3, .int .i64 s] : Array Value).all (·.oneCell') = true := by simp [Value.oneCell']
set_option maxRecDepth 100000 in
theorem infoMem5 : (Try.prog.info? 28).map (·.size) = some 5 := by kernel_rfl
def ReadsM (m : MD) (w : World) (e : Ending) (w' : World) : Prop :=
  ∃ A0 A1 A2 A3 c0 c1 c2 c3, e = .returned (.agg #[.slice A0 256 c0, .slice A1 32 c1, .slice A2 256 c2, .slice A3 16 c3, .int .i64 m.s]) ∧ Hid (RepM w' A0 A1 A2 A3 m) ∧ Below w.heap.size w w'
set_option maxRecDepth 100000 in
theorem l05PutM (A0 A1 A2 A3 : Option Addr) (c0 c1 c2 c3 : Nat) (m : MD) (w : World) (a v : Int) (h0 : 0 ≤ a) (h1 : a ≤ 4095) (hv0 : 0 ≤ v) (hv1 : v ≤ 255) (hm : RepM w A0 A1 A2 A3 m) :
    Calls Try.prog 93 #[.agg #[.slice A0 256 c0, .slice A1 32 c1, .slice A2 256 c2, .slice A3 16 c3, .int .i64 m.s], .int .i64 a, .int .i64 v] w (ReadsM (m.put a v) w) := by
  obtain ⟨k, rfl⟩ : ∃ k : Nat, a = k := ⟨a.toNat, by omega⟩
  obtain ⟨u, rfl⟩ : ∃ u : Nat, v = u := ⟨v.toNat, by omega⟩
  refine (l05Put A0 A1 A2 A3 c0 c1 c2 c3 m.r m.i m.z m.g m.s w k u (by omega) (by omega) hm.1.r hm.1.i hm.1.z hm.1.g hm.1.s hm.1.zb hm.2.1 hm.2.2.1 hm.2.2.2.1 hm.2.2.2.2).mono ?_
  rintro e w' ⟨B0, B1, B2, B3, e0, e1, e2, e3, rfl, N, hb⟩
  exact ⟨B0, B1, B2, B3, e0, e1, e2, e3, rfl, Lib.hid ⟨hm.1.put (by omega) (by omega) (by omega), N.out⟩, hb⟩
set_option maxRecDepth 100000 in
theorem l05GetM (A0 A1 A2 A3 : Option Addr) (c0 c1 c2 c3 : Nat) (m : MD) (w : World) (a : Int) (h0 : 0 ≤ a) (h1 : a ≤ 4095) (hm : RepM w A0 A1 A2 A3 m) :
    Calls Try.prog 94 #[.agg #[.slice A0 256 c0, .slice A1 32 c1, .slice A2 256 c2, .slice A3 16 c3, .int .i64 m.s], .int .i64 a] w fun e w' => e = .returned (.int .i64 (m.get a)) ∧ Below w.heap.size w w' := by
  obtain ⟨k, rfl⟩ : ∃ k : Nat, a = k := ⟨a.toNat, by omega⟩
  exact l05Get A0 A1 A2 A3 c0 c1 c2 c3 m.r m.i m.z m.g m.s w k (by omega) hm.1.r hm.1.i hm.1.z hm.1.g hm.2.1 hm.2.2.1 hm.2.2.2.1 hm.2.2.2.2
def ReadsCM (d : CD) (m : MD) (w : World) (e : Ending) (w' : World) : Prop :=
  ∃ A c A0 A1 A2 A3 c0 c1 c2 c3, e = .returned (.tuple #[.agg #[.int .i64 d.pc, .int .i64 d.sp, .int .i64 d.bank, .int .i64 d.level, .bool d.zero, .bool d.carry, .bool d.on, .bool d.halt, .slice A 16 c], .agg #[.slice A0 256 c0, .slice A1 32 c1, .slice A2 256 c2, .slice A3 16 c3, .int .i64 m.s]]) ∧ Hid (RepC w' A d) ∧ Hid (RepM w' A0 A1 A2 A3 m) ∧ Below w.heap.size w w'

set_option maxRecDepth 100000 in
set_option maxHeartbeats 4000000 in
theorem l08Push (A : Option Addr) (c : Nat) (d : CD) (A0 A1 A2 A3 : Option Addr) (c0 c1 c2 c3 : Nat) (m : MD) (w : World) (v : Int) (hv : 0 ≤ v ∧ v ≤ 255) (hc : RepC w A d) (hm : RepM w A0 A1 A2 A3 m) :
    Calls Try.prog 100 #[.agg #[.int .i64 d.pc, .int .i64 d.sp, .int .i64 d.bank, .int .i64 d.level, .bool d.zero, .bool d.carry, .bool d.on, .bool d.halt, .slice A 16 c], .agg #[.slice A0 256 c0, .slice A1 32 c1, .slice A2 256 c2, .slice A3 16 c3, .int .i64 m.s], .int .i64 v] w (ReadsCM d.down (m.put d.sp v) w) := by
  obtain ⟨W1, hW1⟩ : ∃ W1, W1 = ((((w.alloc (.cells #[.int .i64 d.pc, .int .i64 d.sp, .int .i64 d.bank, .int .i64 d.level, .bool d.zero, .bool d.carry, .bool d.on, .bool d.halt, .slice A 16 c] 50)).alloc (.cells #[.slice A0 256 c0, .slice A1 32 c1, .slice A2 256 c2, .slice A3 16 c3, .int .i64 m.s] 28)).alloc (.cells #[.int .i64 0, .int .i64 0, .int .i64 0, .int .i64 0, .bool false, .bool false, .bool false, .bool false, .slice none 0 0] 50)).alloc (.cells #[.slice none 0 0, .slice none 0 0, .slice none 0 0, .slice none 0 0, .int .i64 0] 28)) := ⟨_, rfl⟩
  have hb0 : Below w.heap.size w W1 := by rw [hW1]; exact (((((Below.refl _ _).alloc (Nat.le_refl _) _).alloc (by simp; try omega) _).alloc (by simp; try omega) _).alloc (by simp; try omega) _)
  have Z2 : Hid (W1.heap.size = w.heap.size + 4) := Lib.hid (by rw [hW1]; simp)
  have X3 : Hid (Box W1 (w.heap.size) 50 #[.int .i64 d.pc, .int .i64 d.sp, .int .i64 d.bank, .int .i64 d.level, .bool d.zero, .bool d.carry, .bool d.on, .bool d.halt, .slice A 16 c]) := Lib.hid (by rw [hW1]; exact ((((Box.new w 50 #[.int .i64 d.pc, .int .i64 d.sp, .int .i64 d.bank, .int .i64 d.level, .bool d.zero, .bool d.carry, .bool d.on, .bool d.halt, .slice A 16 c]).alloc _).alloc _).alloc _))
  have X4 : Hid (Box W1 (w.heap.size + 1) 28 #[.slice A0 256 c0, .slice A1 32 c1, .slice A2 256 c2, .slice A3 16 c3, .int .i64 m.s]) := Lib.hid (by rw [hW1]; simpa using (((Box.new (w.alloc (.cells #[.int .i64 d.pc, .int .i64 d.sp, .int .i64 d.bank, .int .i64 d.level, .bool d.zero, .bool d.carry, .bool d.on, .bool d.halt, .slice A 16 c] 50)) 28 #[.slice A0 256 c0, .slice A1 32 c1, .slice A2 256 c2, .slice A3 16 c3, .int .i64 m.s]).alloc _).alloc _))
  have X5 : Hid (Box W1 (w.heap.size + 2) 50 #[.int .i64 0, .int .i64 0, .int .i64 0, .int .i64 0, .bool false, .bool false, .bool false, .bool false, .slice none 0 0]) := Lib.hid (by rw [hW1]; simpa using ((Box.new ((w.alloc (.cells #[.int .i64 d.pc, .int .i64 d.sp, .int .i64 d.bank, .int .i64 d.level, .bool d.zero, .bool d.carry, .bool d.on, .bool d.halt, .slice A 16 c] 50)).alloc (.cells #[.slice A0 256 c0, .slice A1 32 c1, .slice A2 256 c2, .slice A3 16 c3, .int .i64 m.s] 28)) 50 #[.int .i64 0, .int .i64 0, .int .i64 0, .int .i64 0, .bool false, .bool false, .bool false, .bool false, .slice none 0 0]).alloc _))
  have X6 : Hid (Box W1 (w.heap.size + 3) 28 #[.slice none 0 0, .slice none 0 0, .slice none 0 0, .slice none 0 0, .int .i64 0]) := Lib.hid (by rw [hW1]; simpa using (Box.new (((w.alloc (.cells #[.int .i64 d.pc, .int .i64 d.sp, .int .i64 d.bank, .int .i64 d.level, .bool d.zero, .bool d.carry, .bool d.on, .bool d.halt, .slice A 16 c] 50)).alloc (.cells #[.slice A0 256 c0, .slice A1 32 c1, .slice A2 256 c2, .slice A3 16 c3, .int .i64 m.s] 28)).alloc (.cells #[.int .i64 0, .int .i64 0, .int .i64 0, .int .i64 0, .bool false, .bool false, .bool false, .bool false, .slice none 0 0] 50)) 28 #[.slice none 0 0, .slice none 0 0, .slice none 0 0, .slice none 0 0, .int .i64 0]))
  have F7 : Hid (RepC W1 A d) := Lib.hid (hc.below hb0)
  have F8 : Hid (RepM W1 A0 A1 A2 A3 m) := Lib.hid (hm.below hb0)
  have HW0 := Lib.hid hW1
  clear hW1
  have hO := hc.1
  have hN := hm.1
  have hsp0 := hO.sp.1
  have hsp1 := hO.sp.2
  have HPut := Lib.hid (fun W (q : RepM W A0 A1 A2 A3 m) => l05PutM A0 A1 A2 A3 c0 c1 c2 c3 m W d.sp v (by omega) (by omega) hv.1 hv.2 q)
  unfold ReadsM at HPut
  have e1 : (d.sp + 255).tmod 256 = (d.sp + 255) % 256 := Int.tmod_eq_emod_of_nonneg (by omega)
  have e2 : IntKind.i64.wrap (d.sp + 255) = d.sp + 255 := IntWalk.i64_in _ (by omega)
  have HOk := Lib.hid hO.down
  generalize m.put d.sp v = m2 at HPut ⊢
  clear hc hm hO hN hv hsp0 hsp1
  have f9 := X3.out.cell 0 rfl
  have f10 := X3.out.cell 1 rfl
  have f11 := X3.out.cell 2 rfl
  have f12 := X3.out.cell 3 rfl
  have f13 := X3.out.cell 4 rfl
  have f14 := X3.out.cell 5 rfl
  have f15 := X3.out.cell 6 rfl
  have f16 := X3.out.cell 7 rfl
  have f17 := X3.out.cell 8 rfl
  have f18 := X4.out.cell 0 rfl
  have f19 := X4.out.cell 1 rfl
  have f20 := X4.out.cell 2 rfl
  have f21 := X4.out.cell 3 rfl
  have f22 := X4.out.cell 4 rfl
  have z23 := X4.out.frozen 0
  have z24 := X4.out.frozen 1
  have z25 := X4.out.frozen 2
  have z26 := X4.out.frozen 3
  have z27 := X4.out.frozen 4
  rw [HW0.out] at f9 f10 f11 f12 f13 f14 f15 f16 f17 f18 f19 f20 f21 f22 z23 z24 z25 z26 z27
  go_enter Try.func100, Try.ntmps100
  go_wp2_with fail
  rw [← HW0.out]
  rw [← HW0.out] at f9 f10 f11 f12 f13 f14 f15 f16 f17 f18 f19 f20 f21 f22 z23 z24 z25 z26 z27
  clear f9 f10 f11 f12 f13 f14 f15 f16 f17 f18 f19 f20 f21 f22 z23 z24 z25 z26 z27
  refine (HPut.out _ F8.out).mono ?_
  rintro e w1 ⟨B0, B1, B2, B3, e0, e1', e2', e3', rfl, N, hq⟩
  have X28 := Lib.hid (X3.out.step hq)
  have X29 := Lib.hid (X4.out.step hq)
  have X30 := Lib.hid (X5.out.step hq)
  have X31 := Lib.hid (X6.out.step hq)
  have F32 := Lib.hid (F7.out.below hq)
  have F33 := Lib.hid (F8.out.below hq)
  have hb34 := bt hb0 hq
  have Z35 : Hid (W1.heap.size ≤ w1.heap.size) := Lib.hid hq.size
  clear X3 X4 X5 X6 F7 F8 hb0 hq
  clear F33
  have f36 := X28.out.cell 0 rfl
  have f37 := X28.out.cell 1 rfl
  have f38 := X28.out.cell 2 rfl
  have f39 := X28.out.cell 3 rfl
  have f40 := X28.out.cell 4 rfl
  have f41 := X28.out.cell 5 rfl
  have f42 := X28.out.cell 6 rfl
  have f43 := X28.out.cell 7 rfl
  have f44 := X28.out.cell 8 rfl
  have f45 := X29.out.cell 0 rfl
  have f46 := X29.out.cell 1 rfl
  have f47 := X29.out.cell 2 rfl
  have f48 := X29.out.cell 3 rfl
  have f49 := X29.out.cell 4 rfl
  have f50 := X30.out.cell 0 rfl
  have f51 := X30.out.cell 1 rfl
  have f52 := X30.out.cell 2 rfl
  have f53 := X30.out.cell 3 rfl
  have f54 := X30.out.cell 4 rfl
  have f55 := X30.out.cell 5 rfl
  have f56 := X30.out.cell 6 rfl
  have f57 := X30.out.cell 7 rfl
  have f58 := X30.out.cell 8 rfl
  have f59 := X31.out.cell 0 rfl
  have f60 := X31.out.cell 1 rfl
  have f61 := X31.out.cell 2 rfl
  have f62 := X31.out.cell 3 rfl
  have f63 := X31.out.cell 4 rfl
  have z64 := X28.out.frozen 0
  have z65 := X28.out.frozen 1
  have z66 := X28.out.frozen 2
  have z67 := X28.out.frozen 3
  have z68 := X28.out.frozen 4
  have z69 := X28.out.frozen 5
  have z70 := X28.out.frozen 6
  have z71 := X28.out.frozen 7
  have z72 := X28.out.frozen 8
  have z73 := X29.out.frozen 0
  have z74 := X29.out.frozen 1
  have z75 := X29.out.frozen 2
  have z76 := X29.out.frozen 3
  have z77 := X29.out.frozen 4
  go_wp2
  obtain ⟨W78, hW78⟩ : ∃ W78, W78 = (((((w1.setCell ⟨w.heap.size + 1, 0, none⟩ (.slice B0 256 e0)).setCell ⟨w.heap.size + 1, 1, none⟩ (.slice B1 32 e1')).setCell ⟨w.heap.size + 1, 2, none⟩ (.slice B2 256 e2')).setCell ⟨w.heap.size + 1, 3, none⟩ (.slice B3 16 e3')).setCell ⟨w.heap.size + 1, 4, none⟩ (.int .i64 m2.s)) := ⟨_, rfl⟩
  have hB79 : Btw (w.heap.size + 1) (w.heap.size + 1 + 1) w1 W78 := by rw [hW78]; exact ((((((Btw.refl _ _ _).setCell (p := ⟨w.heap.size + 1, 0, none⟩) (Nat.le_refl _) (Nat.lt_succ_self _) _).setCell (p := ⟨w.heap.size + 1, 1, none⟩) (Nat.le_refl _) (Nat.lt_succ_self _) _).setCell (p := ⟨w.heap.size + 1, 2, none⟩) (Nat.le_refl _) (Nat.lt_succ_self _) _).setCell (p := ⟨w.heap.size + 1, 3, none⟩) (Nat.le_refl _) (Nat.lt_succ_self _) _).setCell (p := ⟨w.heap.size + 1, 4, none⟩) (Nat.le_refl _) (Nat.lt_succ_self _) _)
  have X80 : Hid (Box W78 (w.heap.size + 1) 28 #[.slice B0 256 e0, .slice B1 32 e1', .slice B2 256 e2', .slice B3 16 e3', .int .i64 m2.s]) := Lib.hid (by rw [hW78]; exact (X29.out.allN5 rfl _ _ _ _ _))
  have X81 := Lib.hid (X28.out.btw hB79 (by have := Z2.out; have := Z35.out; omega))
  have X82 := Lib.hid (X30.out.btw hB79 (by have := Z2.out; have := Z35.out; omega))
  have X83 := Lib.hid (X31.out.btw hB79 (by have := Z2.out; have := Z35.out; omega))
  have F84 := Lib.hid (F32.out.off X29.out (by simp) hB79)
  have F85 := Lib.hid (N.out.off X29.out (by simp) hB79)
  have hb86 := Btw.lowSize hB79 hb34 (Nat.le_of_lt X29.out.lt) (by have := Z2.out; have := Z35.out; omega)
  have Z87 : Hid (w1.heap.size ≤ W78.heap.size) := Lib.hid hB79.size
  rw [← hW78]
  clear hW78 hB79 X29 X28 X30 X31 F32 N hb34
  obtain ⟨W88, hW88⟩ : ∃ W88, W88 = (W78.setCell ⟨w.heap.size, 1, none⟩ (.int .i64 ((d.sp + 255) % 256))) := ⟨_, rfl⟩
  have hB89 : Btw (w.heap.size) (w.heap.size + 1) W78 W88 := by rw [hW88]; exact ((Btw.refl _ _ _).setCell (p := ⟨w.heap.size, 1, none⟩) (Nat.le_refl _) (Nat.lt_succ_self _) _)
  have X90 : Hid (Box W88 (w.heap.size) 50 #[.int .i64 d.pc, .int .i64 ((d.sp + 255) % 256), .int .i64 d.bank, .int .i64 d.level, .bool d.zero, .bool d.carry, .bool d.on, .bool d.halt, .slice A 16 c]) := Lib.hid (by rw [hW88]; exact (X81.out.set 1 _))
  have X91 := Lib.hid (X80.out.btw hB89 (by have := Z2.out; have := Z35.out; have := Z87.out; omega))
  have X92 := Lib.hid (X82.out.btw hB89 (by have := Z2.out; have := Z35.out; have := Z87.out; omega))
  have X93 := Lib.hid (X83.out.btw hB89 (by have := Z2.out; have := Z35.out; have := Z87.out; omega))
  have F94 := Lib.hid (F84.out.off X81.out (by simp) hB89)
  have F95 := Lib.hid (F85.out.off X81.out (by simp) hB89)
  have hb96 := Btw.lowSize hB89 hb86 (Nat.le_of_lt X81.out.lt) (by have := Z2.out; have := Z35.out; have := Z87.out; omega)
  have Z97 : Hid (W78.heap.size ≤ W88.heap.size) := Lib.hid hB89.size
  rw [← hW88]
  clear hW88 hB89 X81 X80 X82 X83 F84 F85 hb86
  refine wp_region_facts (by kernel_rfl) [[18], [19], [], []] [[], [], [0], [1]] [3, 4, 6, 7] (by kernel_rfl) (RetC W88 (w.heap.size) (w.heap.size + 1) (w.heap.size + 2) (w.heap.size + 3) 50 28 #[.int .i64 d.down.pc, .int .i64 d.down.sp, .int .i64 d.down.bank, .int .i64 d.down.level, .bool d.down.zero, .bool d.down.carry, .bool d.down.on, .bool d.down.halt, .slice A 16 c] #[.slice B0 256 e0, .slice B1 32 e1', .slice B2 256 e2', .slice B3 16 e3', .int .i64 m2.s]) (RetF 18 19 (w.heap.size + 2) (w.heap.size + 3) 50 28 #[.int .i64 d.down.pc, .int .i64 d.down.sp, .int .i64 d.down.bank, .int .i64 d.down.level, .bool d.down.zero, .bool d.down.carry, .bool d.down.on, .bool d.down.halt, .slice A 16 c] #[.slice B0 256 e0, .slice B1 32 e1', .slice B2 256 e2', .slice B3 16 e3', .int .i64 m2.s] 0 1 2 3 (fun _ _ => True)) ⟨(Btw.refl _ _ _).drew, ⟨_, by rfl, X92.out.drew⟩, ⟨_, by rfl, X93.out.drew⟩, X90.out.drew, X91.out.drew, by have := Z2.out; have := Z35.out; have := Z87.out; have := Z97.out; omega⟩ ⟨ret_load1 rfl 3 rfl rfl (by decide) rfl _ Try.underlying50 rfl infoCpu9 (by decide) (by show 18 < 20; decide), ret_load2 rfl (by decide) 4 rfl rfl (by decide) rfl _ Try.underlying28 rfl infoMem5 (by decide) (by show 19 < 20; decide), ret_store1 rfl (by decide) (by decide) 6 rfl (by decide) rfl (by decide) (by decide) infoCpu9 one9, ret_store2 rfl (by decide) (by decide) (by decide) (by decide) 7 rfl (by decide) rfl (by decide) (by decide) infoMem5 one5, trivial⟩ ?_
  intro T W hT hs hC hF
  obtain ⟨t0, t1, t2, t3, t4, t5, t6, t7, t8, t9, t10, t11, t12, t13, t14, t15, t16, t17, t18, t19, rfl⟩ := arr20 T hT
  obtain rfl : t6 = .pointer (some ⟨w.heap.size + 2, 0, none⟩) := hs 6 (by decide)
  obtain rfl : t7 = .pointer (some ⟨w.heap.size + 3, 0, none⟩) := hs 7 (by decide)
  have R1 : Box W (w.heap.size + 2) 50 #[.int .i64 d.down.pc, .int .i64 d.down.sp, .int .i64 d.down.bank, .int .i64 d.down.level, .bool d.down.zero, .bool d.down.carry, .bool d.down.on, .bool d.down.halt, .slice A 16 c] := hF 2 (by decide)
  have R2 : Box W (w.heap.size + 3) 28 #[.slice B0 256 e0, .slice B1 32 e1', .slice B2 256 e2', .slice B3 16 e3', .int .i64 m2.s] := hF 3 (by decide)
  have HC := Lib.hid hC.k
  clear hF hs hT hC
  go_wp2
  refine bodyPost_ret (v := .tuple #[.agg #[.int .i64 d.down.pc, .int .i64 d.down.sp, .int .i64 d.down.bank, .int .i64 d.down.level, .bool d.down.zero, .bool d.down.carry, .bool d.down.on, .bool d.down.halt, .slice A 16 c], .agg #[.slice B0 256 e0, .slice B1 32 e1', .slice B2 256 e2', .slice B3 16 e3', .int .i64 m2.s]]) (results_cc Try.results100 rfl rfl R1 R2 Try.underlying50 rfl infoCpu9 Try.underlying28 rfl infoMem5) rfl ?_
  have hbW := HC.out.lowSize hb96 (Nat.le_of_lt X92.out.lt) (by have := Z2.out; have := Z35.out; have := Z87.out; have := Z97.out; omega)
  exact ⟨_, _, _, _, _, _, _, _, _, _, rfl, Lib.hid ⟨HOk.out, (F94.out.off2 X92.out X93.out (by decide) (by decide) HC.out).2⟩, Lib.hid (F95.out.off2 X92.out X93.out (by decide) (by decide) HC.out), hbW⟩
theorem arr30 (T : Array Value) (h : T.size = 30) : ∃ t0 t1 t2 t3 t4 t5 t6 t7 t8 t9 t10 t11 t12 t13 t14 t15 t16 t17 t18 t19 t20 t21 t22 t23 t24 t25 t26 t27 t28 t29 : Value, T = #[t0, t1, t2, t3, t4, t5, t6, t7, t8, t9, t10, t11, t12, t13, t14, t15, t16, t17, t18, t19, t20, t21, t22, t23, t24, t25, t26, t27, t28, t29] := by
  obtain ⟨l⟩ := T
  match l, h with
  | [t0, t1, t2, t3, t4, t5, t6, t7, t8, t9, t10, t11, t12, t13, t14, t15, t16, t17, t18, t19, t20, t21, t22, t23, t24, t25, t26, t27, t28, t29], _ => exact ⟨t0, t1, t2, t3, t4, t5, t6, t7, t8, t9, t10, t11, t12, t13, t14, t15, t16, t17, t18, t19, t20, t21, t22, t23, t24, t25, t26, t27, t28, t29, rfl⟩

set_option maxRecDepth 100000 in
set_option maxHeartbeats 4000000 in
theorem l08Call (A : Option Addr) (c : Nat) (d : CD) (A0 A1 A2 A3 : Option Addr) (c0 c1 c2 c3 : Nat) (m : MD) (w : World) (tt : Int) (ht0 : 0 ≤ tt) (ht1 : tt ≤ 4095) (hc : RepC w A d) (hm : RepM w A0 A1 A2 A3 m) :
    Calls Try.prog 99 #[.agg #[.int .i64 d.pc, .int .i64 d.sp, .int .i64 d.bank, .int .i64 d.level, .bool d.zero, .bool d.carry, .bool d.on, .bool d.halt, .slice A 16 c], .agg #[.slice A0 256 c0, .slice A1 32 c1, .slice A2 256 c2, .slice A3 16 c3, .int .i64 m.s], .int .i64 tt] w (ReadsCM (callD d tt) (callM d m) w) := by
  obtain ⟨W1, hW1⟩ : ∃ W1, W1 = ((((w.alloc (.cells #[.int .i64 d.pc, .int .i64 d.sp, .int .i64 d.bank, .int .i64 d.level, .bool d.zero, .bool d.carry, .bool d.on, .bool d.halt, .slice A 16 c] 50)).alloc (.cells #[.slice A0 256 c0, .slice A1 32 c1, .slice A2 256 c2, .slice A3 16 c3, .int .i64 m.s] 28)).alloc (.cells #[.int .i64 0, .int .i64 0, .int .i64 0, .int .i64 0, .bool false, .bool false, .bool false, .bool false, .slice none 0 0] 50)).alloc (.cells #[.slice none 0 0, .slice none 0 0, .slice none 0 0, .slice none 0 0, .int .i64 0] 28)) := ⟨_, rfl⟩
  have hb0 : Below w.heap.size w W1 := by rw [hW1]; exact (((((Below.refl _ _).alloc (Nat.le_refl _) _).alloc (by simp; try omega) _).alloc (by simp; try omega) _).alloc (by simp; try omega) _)
  have Z2 : Hid (W1.heap.size = w.heap.size + 4) := Lib.hid (by rw [hW1]; simp)
  have X3 : Hid (Box W1 (w.heap.size) 50 #[.int .i64 d.pc, .int .i64 d.sp, .int .i64 d.bank, .int .i64 d.level, .bool d.zero, .bool d.carry, .bool d.on, .bool d.halt, .slice A 16 c]) := Lib.hid (by rw [hW1]; exact ((((Box.new w 50 #[.int .i64 d.pc, .int .i64 d.sp, .int .i64 d.bank, .int .i64 d.level, .bool d.zero, .bool d.carry, .bool d.on, .bool d.halt, .slice A 16 c]).alloc _).alloc _).alloc _))
  have X4 : Hid (Box W1 (w.heap.size + 1) 28 #[.slice A0 256 c0, .slice A1 32 c1, .slice A2 256 c2, .slice A3 16 c3, .int .i64 m.s]) := Lib.hid (by rw [hW1]; simpa using (((Box.new (w.alloc (.cells #[.int .i64 d.pc, .int .i64 d.sp, .int .i64 d.bank, .int .i64 d.level, .bool d.zero, .bool d.carry, .bool d.on, .bool d.halt, .slice A 16 c] 50)) 28 #[.slice A0 256 c0, .slice A1 32 c1, .slice A2 256 c2, .slice A3 16 c3, .int .i64 m.s]).alloc _).alloc _))
  have X5 : Hid (Box W1 (w.heap.size + 2) 50 #[.int .i64 0, .int .i64 0, .int .i64 0, .int .i64 0, .bool false, .bool false, .bool false, .bool false, .slice none 0 0]) := Lib.hid (by rw [hW1]; simpa using ((Box.new ((w.alloc (.cells #[.int .i64 d.pc, .int .i64 d.sp, .int .i64 d.bank, .int .i64 d.level, .bool d.zero, .bool d.carry, .bool d.on, .bool d.halt, .slice A 16 c] 50)).alloc (.cells #[.slice A0 256 c0, .slice A1 32 c1, .slice A2 256 c2, .slice A3 16 c3, .int .i64 m.s] 28)) 50 #[.int .i64 0, .int .i64 0, .int .i64 0, .int .i64 0, .bool false, .bool false, .bool false, .bool false, .slice none 0 0]).alloc _))
  have X6 : Hid (Box W1 (w.heap.size + 3) 28 #[.slice none 0 0, .slice none 0 0, .slice none 0 0, .slice none 0 0, .int .i64 0]) := Lib.hid (by rw [hW1]; simpa using (Box.new (((w.alloc (.cells #[.int .i64 d.pc, .int .i64 d.sp, .int .i64 d.bank, .int .i64 d.level, .bool d.zero, .bool d.carry, .bool d.on, .bool d.halt, .slice A 16 c] 50)).alloc (.cells #[.slice A0 256 c0, .slice A1 32 c1, .slice A2 256 c2, .slice A3 16 c3, .int .i64 m.s] 28)).alloc (.cells #[.int .i64 0, .int .i64 0, .int .i64 0, .int .i64 0, .bool false, .bool false, .bool false, .bool false, .slice none 0 0] 50)) 28 #[.slice none 0 0, .slice none 0 0, .slice none 0 0, .slice none 0 0, .int .i64 0]))
  have F7 : Hid (RepC W1 A d) := Lib.hid (hc.below hb0)
  have F8 : Hid (RepM W1 A0 A1 A2 A3 m) := Lib.hid (hm.below hb0)
  have HW0 := Lib.hid hW1
  clear hW1
  have hO := hc.1
  have hN := hm.1
  have hpc0 := hO.pc.1
  have hpc1 := hO.pc.2
  have hs1 := hO.sp
  have HP1 := Lib.hid (fun W (q : RepC W A d) (r : RepM W A0 A1 A2 A3 m) => l08Push A c d A0 A1 A2 A3 c0 c1 c2 c3 m W (d.pc / 256) (by omega) q r)
  have HP2 := Lib.hid (fun Aa ca Ab Ac Ad Ae cb cc cd ce W (q : RepC W Aa d.down) (r : RepM W Ab Ac Ad Ae (m.put d.sp (d.pc / 256))) => l08Push Aa ca d.down Ab Ac Ad Ae cb cc cd ce (m.put d.sp (d.pc / 256)) W (d.down.pc % 256) (by omega) q r)
  unfold ReadsCM at HP1 HP2
  have a255 := and_255 d.down.pc
  have HM : Hid (callM d m = (m.put d.sp (d.pc / 256)).put d.down.sp (d.down.pc % 256)) := Lib.hid rfl
  have HD : Hid (callD d tt = d.down.down.at tt) := Lib.hid rfl
  have HOk := Lib.hid hO.down.down
  generalize callM d m = mF at HM ⊢
  generalize (m.put d.sp (d.pc / 256)) = m1 at HP1 HP2 HM
  generalize callD d tt = dF at HD ⊢
  generalize m1.put d.down.sp (d.down.pc % 256) = m2 at HP2 HM
  generalize hd1 : d.down = d1 at HP1 HP2 HD HOk HM a255
  generalize d1.down = d2 at HP2 HD HOk
  clear hc hm hO hN hs1 hd1
  have f9 := X3.out.cell 0 rfl
  have f10 := X3.out.cell 1 rfl
  have f11 := X3.out.cell 2 rfl
  have f12 := X3.out.cell 3 rfl
  have f13 := X3.out.cell 4 rfl
  have f14 := X3.out.cell 5 rfl
  have f15 := X3.out.cell 6 rfl
  have f16 := X3.out.cell 7 rfl
  have f17 := X3.out.cell 8 rfl
  have f18 := X4.out.cell 0 rfl
  have f19 := X4.out.cell 1 rfl
  have f20 := X4.out.cell 2 rfl
  have f21 := X4.out.cell 3 rfl
  have f22 := X4.out.cell 4 rfl
  rw [HW0.out] at f9 f10 f11 f12 f13 f14 f15 f16 f17 f18 f19 f20 f21 f22
  go_enter Try.func99, Try.ntmps99
  go_wp2_with fail
  rw [← HW0.out]
  rw [← HW0.out] at f9 f10 f11 f12 f13 f14 f15 f16 f17 f18 f19 f20 f21 f22
  clear f9 f10 f11 f12 f13 f14 f15 f16 f17 f18 f19 f20 f21 f22
  refine (HP1.out _ F7.out F8.out).mono ?_
  rintro e w1 ⟨A1, c1, B10, B11, B12, B13, e10, e11, e12, e13, rfl, NC1, NM1, hq1⟩
  have X23 := Lib.hid (X3.out.step hq1)
  have X24 := Lib.hid (X4.out.step hq1)
  have X25 := Lib.hid (X5.out.step hq1)
  have X26 := Lib.hid (X6.out.step hq1)
  have F27 := Lib.hid (F7.out.below hq1)
  have F28 := Lib.hid (F8.out.below hq1)
  have hb29 := bt hb0 hq1
  have Z30 : Hid (W1.heap.size ≤ w1.heap.size) := Lib.hid hq1.size
  clear X3 X4 X5 X6 F7 F8 hb0 hq1
  clear F27 F28
  clear HP1
  have f31 := X23.out.cell 0 rfl
  have f32 := X23.out.cell 1 rfl
  have f33 := X23.out.cell 2 rfl
  have f34 := X23.out.cell 3 rfl
  have f35 := X23.out.cell 4 rfl
  have f36 := X23.out.cell 5 rfl
  have f37 := X23.out.cell 6 rfl
  have f38 := X23.out.cell 7 rfl
  have f39 := X23.out.cell 8 rfl
  have f40 := X24.out.cell 0 rfl
  have f41 := X24.out.cell 1 rfl
  have f42 := X24.out.cell 2 rfl
  have f43 := X24.out.cell 3 rfl
  have f44 := X24.out.cell 4 rfl
  have z45 := X23.out.frozen 0
  have z46 := X23.out.frozen 1
  have z47 := X23.out.frozen 2
  have z48 := X23.out.frozen 3
  have z49 := X23.out.frozen 4
  have z50 := X23.out.frozen 5
  have z51 := X23.out.frozen 6
  have z52 := X23.out.frozen 7
  have z53 := X23.out.frozen 8
  have z54 := X24.out.frozen 0
  have z55 := X24.out.frozen 1
  have z56 := X24.out.frozen 2
  have z57 := X24.out.frozen 3
  have z58 := X24.out.frozen 4
  go_wp2_with fail
  obtain ⟨W59, hW59⟩ : ∃ W59, W59 = (((((((((w1.setCell ⟨w.heap.size, 0, none⟩ (.int .i64 d1.pc)).setCell ⟨w.heap.size, 1, none⟩ (.int .i64 d1.sp)).setCell ⟨w.heap.size, 2, none⟩ (.int .i64 d1.bank)).setCell ⟨w.heap.size, 3, none⟩ (.int .i64 d1.level)).setCell ⟨w.heap.size, 4, none⟩ (.bool d1.zero)).setCell ⟨w.heap.size, 5, none⟩ (.bool d1.carry)).setCell ⟨w.heap.size, 6, none⟩ (.bool d1.on)).setCell ⟨w.heap.size, 7, none⟩ (.bool d1.halt)).setCell ⟨w.heap.size, 8, none⟩ (.slice A1 16 c1)) := ⟨_, rfl⟩
  have hB60 : Btw (w.heap.size) (w.heap.size + 1) w1 W59 := by rw [hW59]; exact ((((((((((Btw.refl _ _ _).setCell (p := ⟨w.heap.size, 0, none⟩) (Nat.le_refl _) (Nat.lt_succ_self _) _).setCell (p := ⟨w.heap.size, 1, none⟩) (Nat.le_refl _) (Nat.lt_succ_self _) _).setCell (p := ⟨w.heap.size, 2, none⟩) (Nat.le_refl _) (Nat.lt_succ_self _) _).setCell (p := ⟨w.heap.size, 3, none⟩) (Nat.le_refl _) (Nat.lt_succ_self _) _).setCell (p := ⟨w.heap.size, 4, none⟩) (Nat.le_refl _) (Nat.lt_succ_self _) _).setCell (p := ⟨w.heap.size, 5, none⟩) (Nat.le_refl _) (Nat.lt_succ_self _) _).setCell (p := ⟨w.heap.size, 6, none⟩) (Nat.le_refl _) (Nat.lt_succ_self _) _).setCell (p := ⟨w.heap.size, 7, none⟩) (Nat.le_refl _) (Nat.lt_succ_self _) _).setCell (p := ⟨w.heap.size, 8, none⟩) (Nat.le_refl _) (Nat.lt_succ_self _) _)
  have X61 : Hid (Box W59 (w.heap.size) 50 #[.int .i64 d1.pc, .int .i64 d1.sp, .int .i64 d1.bank, .int .i64 d1.level, .bool d1.zero, .bool d1.carry, .bool d1.on, .bool d1.halt, .slice A1 16 c1]) := Lib.hid (by rw [hW59]; exact (X23.out.allN9 rfl _ _ _ _ _ _ _ _ _))
  have X62 := Lib.hid (X24.out.btw hB60 (by have := Z2.out; have := Z30.out; omega))
  have X63 := Lib.hid (X25.out.btw hB60 (by have := Z2.out; have := Z30.out; omega))
  have X64 := Lib.hid (X26.out.btw hB60 (by have := Z2.out; have := Z30.out; omega))
  have F65 := Lib.hid (NC1.out.off X23.out (by simp) hB60)
  have F66 := Lib.hid (NM1.out.off X23.out (by simp) hB60)
  have hb67 := Btw.lowSize hB60 hb29 (Nat.le_of_lt X23.out.lt) (by have := Z2.out; have := Z30.out; omega)
  have Z68 : Hid (w1.heap.size ≤ W59.heap.size) := Lib.hid hB60.size
  rw [← hW59]
  clear hW59 hB60 X23 X24 X25 X26 NC1 NM1 hb29
  obtain ⟨W69, hW69⟩ : ∃ W69, W69 = (((((W59.setCell ⟨w.heap.size + 1, 0, none⟩ (.slice B10 256 e10)).setCell ⟨w.heap.size + 1, 1, none⟩ (.slice B11 32 e11)).setCell ⟨w.heap.size + 1, 2, none⟩ (.slice B12 256 e12)).setCell ⟨w.heap.size + 1, 3, none⟩ (.slice B13 16 e13)).setCell ⟨w.heap.size + 1, 4, none⟩ (.int .i64 m1.s)) := ⟨_, rfl⟩
  have hB70 : Btw (w.heap.size + 1) (w.heap.size + 1 + 1) W59 W69 := by rw [hW69]; exact ((((((Btw.refl _ _ _).setCell (p := ⟨w.heap.size + 1, 0, none⟩) (Nat.le_refl _) (Nat.lt_succ_self _) _).setCell (p := ⟨w.heap.size + 1, 1, none⟩) (Nat.le_refl _) (Nat.lt_succ_self _) _).setCell (p := ⟨w.heap.size + 1, 2, none⟩) (Nat.le_refl _) (Nat.lt_succ_self _) _).setCell (p := ⟨w.heap.size + 1, 3, none⟩) (Nat.le_refl _) (Nat.lt_succ_self _) _).setCell (p := ⟨w.heap.size + 1, 4, none⟩) (Nat.le_refl _) (Nat.lt_succ_self _) _)
  have X71 : Hid (Box W69 (w.heap.size + 1) 28 #[.slice B10 256 e10, .slice B11 32 e11, .slice B12 256 e12, .slice B13 16 e13, .int .i64 m1.s]) := Lib.hid (by rw [hW69]; exact (X62.out.allN5 rfl _ _ _ _ _))
  have X72 := Lib.hid (X61.out.btw hB70 (by have := Z2.out; have := Z30.out; have := Z68.out; omega))
  have X73 := Lib.hid (X63.out.btw hB70 (by have := Z2.out; have := Z30.out; have := Z68.out; omega))
  have X74 := Lib.hid (X64.out.btw hB70 (by have := Z2.out; have := Z30.out; have := Z68.out; omega))
  have F75 := Lib.hid (F65.out.off X62.out (by simp) hB70)
  have F76 := Lib.hid (F66.out.off X62.out (by simp) hB70)
  have hb77 := Btw.lowSize hB70 hb67 (Nat.le_of_lt X62.out.lt) (by have := Z2.out; have := Z30.out; have := Z68.out; omega)
  have Z78 : Hid (W59.heap.size ≤ W69.heap.size) := Lib.hid hB70.size
  rw [← hW69]
  clear hW69 hB70 X62 X61 X63 X64 F65 F66 hb67
  clear f31 f32 f33 f34 f35 f36 f37 f38 f39 f40 f41 f42 f43 f44 z45 z46 z47 z48 z49 z50 z51 z52 z53 z54 z55 z56 z57 z58
  refine (HP2.out _ _ _ _ _ _ _ _ _ _ _ F75.out F76.out).mono ?_
  rintro e w2 ⟨A2, c2, B20, B21, B22, B23, e20, e21, e22, e23, rfl, NC2, NM2, hq2⟩
  have X79 := Lib.hid (X72.out.step hq2)
  have X80 := Lib.hid (X71.out.step hq2)
  have X81 := Lib.hid (X73.out.step hq2)
  have X82 := Lib.hid (X74.out.step hq2)
  have F83 := Lib.hid (F75.out.below hq2)
  have F84 := Lib.hid (F76.out.below hq2)
  have hb85 := bt hb77 hq2
  have Z86 : Hid (W69.heap.size ≤ w2.heap.size) := Lib.hid hq2.size
  clear X72 X71 X73 X74 F75 F76 hb77 hq2
  clear F83 F84
  clear HP2
  have f87 := X79.out.cell 0 rfl
  have f88 := X79.out.cell 1 rfl
  have f89 := X79.out.cell 2 rfl
  have f90 := X79.out.cell 3 rfl
  have f91 := X79.out.cell 4 rfl
  have f92 := X79.out.cell 5 rfl
  have f93 := X79.out.cell 6 rfl
  have f94 := X79.out.cell 7 rfl
  have f95 := X79.out.cell 8 rfl
  have f96 := X80.out.cell 0 rfl
  have f97 := X80.out.cell 1 rfl
  have f98 := X80.out.cell 2 rfl
  have f99 := X80.out.cell 3 rfl
  have f100 := X80.out.cell 4 rfl
  have f101 := X81.out.cell 0 rfl
  have f102 := X81.out.cell 1 rfl
  have f103 := X81.out.cell 2 rfl
  have f104 := X81.out.cell 3 rfl
  have f105 := X81.out.cell 4 rfl
  have f106 := X81.out.cell 5 rfl
  have f107 := X81.out.cell 6 rfl
  have f108 := X81.out.cell 7 rfl
  have f109 := X81.out.cell 8 rfl
  have f110 := X82.out.cell 0 rfl
  have f111 := X82.out.cell 1 rfl
  have f112 := X82.out.cell 2 rfl
  have f113 := X82.out.cell 3 rfl
  have f114 := X82.out.cell 4 rfl
  have z115 := X79.out.frozen 0
  have z116 := X79.out.frozen 1
  have z117 := X79.out.frozen 2
  have z118 := X79.out.frozen 3
  have z119 := X79.out.frozen 4
  have z120 := X79.out.frozen 5
  have z121 := X79.out.frozen 6
  have z122 := X79.out.frozen 7
  have z123 := X79.out.frozen 8
  have z124 := X80.out.frozen 0
  have z125 := X80.out.frozen 1
  have z126 := X80.out.frozen 2
  have z127 := X80.out.frozen 3
  have z128 := X80.out.frozen 4
  go_wp2
  obtain ⟨W129, hW129⟩ : ∃ W129, W129 = (((((((((w2.setCell ⟨w.heap.size, 0, none⟩ (.int .i64 d2.pc)).setCell ⟨w.heap.size, 1, none⟩ (.int .i64 d2.sp)).setCell ⟨w.heap.size, 2, none⟩ (.int .i64 d2.bank)).setCell ⟨w.heap.size, 3, none⟩ (.int .i64 d2.level)).setCell ⟨w.heap.size, 4, none⟩ (.bool d2.zero)).setCell ⟨w.heap.size, 5, none⟩ (.bool d2.carry)).setCell ⟨w.heap.size, 6, none⟩ (.bool d2.on)).setCell ⟨w.heap.size, 7, none⟩ (.bool d2.halt)).setCell ⟨w.heap.size, 8, none⟩ (.slice A2 16 c2)) := ⟨_, rfl⟩
  have hB130 : Btw (w.heap.size) (w.heap.size + 1) w2 W129 := by rw [hW129]; exact ((((((((((Btw.refl _ _ _).setCell (p := ⟨w.heap.size, 0, none⟩) (Nat.le_refl _) (Nat.lt_succ_self _) _).setCell (p := ⟨w.heap.size, 1, none⟩) (Nat.le_refl _) (Nat.lt_succ_self _) _).setCell (p := ⟨w.heap.size, 2, none⟩) (Nat.le_refl _) (Nat.lt_succ_self _) _).setCell (p := ⟨w.heap.size, 3, none⟩) (Nat.le_refl _) (Nat.lt_succ_self _) _).setCell (p := ⟨w.heap.size, 4, none⟩) (Nat.le_refl _) (Nat.lt_succ_self _) _).setCell (p := ⟨w.heap.size, 5, none⟩) (Nat.le_refl _) (Nat.lt_succ_self _) _).setCell (p := ⟨w.heap.size, 6, none⟩) (Nat.le_refl _) (Nat.lt_succ_self _) _).setCell (p := ⟨w.heap.size, 7, none⟩) (Nat.le_refl _) (Nat.lt_succ_self _) _).setCell (p := ⟨w.heap.size, 8, none⟩) (Nat.le_refl _) (Nat.lt_succ_self _) _)
  have X131 : Hid (Box W129 (w.heap.size) 50 #[.int .i64 d2.pc, .int .i64 d2.sp, .int .i64 d2.bank, .int .i64 d2.level, .bool d2.zero, .bool d2.carry, .bool d2.on, .bool d2.halt, .slice A2 16 c2]) := Lib.hid (by rw [hW129]; exact (X79.out.allN9 rfl _ _ _ _ _ _ _ _ _))
  have X132 := Lib.hid (X80.out.btw hB130 (by have := Z2.out; have := Z30.out; have := Z68.out; have := Z78.out; have := Z86.out; omega))
  have X133 := Lib.hid (X81.out.btw hB130 (by have := Z2.out; have := Z30.out; have := Z68.out; have := Z78.out; have := Z86.out; omega))
  have X134 := Lib.hid (X82.out.btw hB130 (by have := Z2.out; have := Z30.out; have := Z68.out; have := Z78.out; have := Z86.out; omega))
  have F135 := Lib.hid (NC2.out.off X79.out (by simp) hB130)
  have F136 := Lib.hid (NM2.out.off X79.out (by simp) hB130)
  have hb137 := Btw.lowSize hB130 hb85 (Nat.le_of_lt X79.out.lt) (by have := Z2.out; have := Z30.out; have := Z68.out; have := Z78.out; have := Z86.out; omega)
  have Z138 : Hid (w2.heap.size ≤ W129.heap.size) := Lib.hid hB130.size
  rw [← hW129]
  clear hW129 hB130 X79 X80 X81 X82 NC2 NM2 hb85
  obtain ⟨W139, hW139⟩ : ∃ W139, W139 = (((((W129.setCell ⟨w.heap.size + 1, 0, none⟩ (.slice B20 256 e20)).setCell ⟨w.heap.size + 1, 1, none⟩ (.slice B21 32 e21)).setCell ⟨w.heap.size + 1, 2, none⟩ (.slice B22 256 e22)).setCell ⟨w.heap.size + 1, 3, none⟩ (.slice B23 16 e23)).setCell ⟨w.heap.size + 1, 4, none⟩ (.int .i64 m2.s)) := ⟨_, rfl⟩
  have hB140 : Btw (w.heap.size + 1) (w.heap.size + 1 + 1) W129 W139 := by rw [hW139]; exact ((((((Btw.refl _ _ _).setCell (p := ⟨w.heap.size + 1, 0, none⟩) (Nat.le_refl _) (Nat.lt_succ_self _) _).setCell (p := ⟨w.heap.size + 1, 1, none⟩) (Nat.le_refl _) (Nat.lt_succ_self _) _).setCell (p := ⟨w.heap.size + 1, 2, none⟩) (Nat.le_refl _) (Nat.lt_succ_self _) _).setCell (p := ⟨w.heap.size + 1, 3, none⟩) (Nat.le_refl _) (Nat.lt_succ_self _) _).setCell (p := ⟨w.heap.size + 1, 4, none⟩) (Nat.le_refl _) (Nat.lt_succ_self _) _)
  have X141 : Hid (Box W139 (w.heap.size + 1) 28 #[.slice B20 256 e20, .slice B21 32 e21, .slice B22 256 e22, .slice B23 16 e23, .int .i64 m2.s]) := Lib.hid (by rw [hW139]; exact (X132.out.allN5 rfl _ _ _ _ _))
  have X142 := Lib.hid (X131.out.btw hB140 (by have := Z2.out; have := Z30.out; have := Z68.out; have := Z78.out; have := Z86.out; have := Z138.out; omega))
  have X143 := Lib.hid (X133.out.btw hB140 (by have := Z2.out; have := Z30.out; have := Z68.out; have := Z78.out; have := Z86.out; have := Z138.out; omega))
  have X144 := Lib.hid (X134.out.btw hB140 (by have := Z2.out; have := Z30.out; have := Z68.out; have := Z78.out; have := Z86.out; have := Z138.out; omega))
  have F145 := Lib.hid (F135.out.off X132.out (by simp) hB140)
  have F146 := Lib.hid (F136.out.off X132.out (by simp) hB140)
  have hb147 := Btw.lowSize hB140 hb137 (Nat.le_of_lt X132.out.lt) (by have := Z2.out; have := Z30.out; have := Z68.out; have := Z78.out; have := Z86.out; have := Z138.out; omega)
  have Z148 : Hid (W129.heap.size ≤ W139.heap.size) := Lib.hid hB140.size
  rw [← hW139]
  clear hW139 hB140 X132 X131 X133 X134 F135 F136 hb137
  obtain ⟨W149, hW149⟩ : ∃ W149, W149 = (W139.setCell ⟨w.heap.size, 0, none⟩ (.int .i64 tt)) := ⟨_, rfl⟩
  have hB150 : Btw (w.heap.size) (w.heap.size + 1) W139 W149 := by rw [hW149]; exact ((Btw.refl _ _ _).setCell (p := ⟨w.heap.size, 0, none⟩) (Nat.le_refl _) (Nat.lt_succ_self _) _)
  have X151 : Hid (Box W149 (w.heap.size) 50 #[.int .i64 tt, .int .i64 d2.sp, .int .i64 d2.bank, .int .i64 d2.level, .bool d2.zero, .bool d2.carry, .bool d2.on, .bool d2.halt, .slice A2 16 c2]) := Lib.hid (by rw [hW149]; exact (X142.out.set 0 _))
  have X152 := Lib.hid (X141.out.btw hB150 (by have := Z2.out; have := Z30.out; have := Z68.out; have := Z78.out; have := Z86.out; have := Z138.out; have := Z148.out; omega))
  have X153 := Lib.hid (X143.out.btw hB150 (by have := Z2.out; have := Z30.out; have := Z68.out; have := Z78.out; have := Z86.out; have := Z138.out; have := Z148.out; omega))
  have X154 := Lib.hid (X144.out.btw hB150 (by have := Z2.out; have := Z30.out; have := Z68.out; have := Z78.out; have := Z86.out; have := Z138.out; have := Z148.out; omega))
  have F155 := Lib.hid (F145.out.off X142.out (by simp) hB150)
  have F156 := Lib.hid (F146.out.off X142.out (by simp) hB150)
  have hb157 := Btw.lowSize hB150 hb147 (Nat.le_of_lt X142.out.lt) (by have := Z2.out; have := Z30.out; have := Z68.out; have := Z78.out; have := Z86.out; have := Z138.out; have := Z148.out; omega)
  have Z158 : Hid (W139.heap.size ≤ W149.heap.size) := Lib.hid hB150.size
  rw [← hW149]
  clear hW149 hB150 X142 X141 X143 X144 F145 F146 hb147
  refine wp_region_facts (by kernel_rfl) [[28], [29], [], []] [[], [], [0], [1]] [3, 4, 6, 7] (by kernel_rfl) (RetC W149 (w.heap.size) (w.heap.size + 1) (w.heap.size + 2) (w.heap.size + 3) 50 28 #[.int .i64 tt, .int .i64 d2.sp, .int .i64 d2.bank, .int .i64 d2.level, .bool d2.zero, .bool d2.carry, .bool d2.on, .bool d2.halt, .slice A2 16 c2] #[.slice B20 256 e20, .slice B21 32 e21, .slice B22 256 e22, .slice B23 16 e23, .int .i64 m2.s]) (RetF 28 29 (w.heap.size + 2) (w.heap.size + 3) 50 28 #[.int .i64 tt, .int .i64 d2.sp, .int .i64 d2.bank, .int .i64 d2.level, .bool d2.zero, .bool d2.carry, .bool d2.on, .bool d2.halt, .slice A2 16 c2] #[.slice B20 256 e20, .slice B21 32 e21, .slice B22 256 e22, .slice B23 16 e23, .int .i64 m2.s] 0 1 2 3 (fun _ _ => True)) ⟨(Btw.refl _ _ _).drew, ⟨_, by rfl, X153.out.drew⟩, ⟨_, by rfl, X154.out.drew⟩, X151.out.drew, X152.out.drew, by have := Z2.out; have := Z30.out; have := Z68.out; have := Z78.out; have := Z86.out; have := Z138.out; have := Z148.out; have := Z158.out; omega⟩ ⟨ret_load1 rfl 3 rfl rfl (by decide) rfl _ Try.underlying50 rfl infoCpu9 (by decide) (by show 28 < 30; decide), ret_load2 rfl (by decide) 4 rfl rfl (by decide) rfl _ Try.underlying28 rfl infoMem5 (by decide) (by show 29 < 30; decide), ret_store1 rfl (by decide) (by decide) 6 rfl (by decide) rfl (by decide) (by decide) infoCpu9 one9, ret_store2 rfl (by decide) (by decide) (by decide) (by decide) 7 rfl (by decide) rfl (by decide) (by decide) infoMem5 one5, trivial⟩ ?_
  intro T W hT hs hC hF
  obtain ⟨t0, t1, t2, t3, t4, t5, t6, t7, t8, t9, t10, t11, t12, t13, t14, t15, t16, t17, t18, t19, t20, t21, t22, t23, t24, t25, t26, t27, t28, t29, rfl⟩ := arr30 T hT
  obtain rfl : t6 = .pointer (some ⟨w.heap.size + 2, 0, none⟩) := hs 6 (by decide)
  obtain rfl : t7 = .pointer (some ⟨w.heap.size + 3, 0, none⟩) := hs 7 (by decide)
  have R1 : Box W (w.heap.size + 2) 50 #[.int .i64 tt, .int .i64 d2.sp, .int .i64 d2.bank, .int .i64 d2.level, .bool d2.zero, .bool d2.carry, .bool d2.on, .bool d2.halt, .slice A2 16 c2] := hF 2 (by decide)
  have R2 : Box W (w.heap.size + 3) 28 #[.slice B20 256 e20, .slice B21 32 e21, .slice B22 256 e22, .slice B23 16 e23, .int .i64 m2.s] := hF 3 (by decide)
  have HC := Lib.hid hC.k
  clear hF hs hT hC
  go_wp2
  refine bodyPost_ret (v := .tuple #[.agg #[.int .i64 tt, .int .i64 d2.sp, .int .i64 d2.bank, .int .i64 d2.level, .bool d2.zero, .bool d2.carry, .bool d2.on, .bool d2.halt, .slice A2 16 c2], .agg #[.slice B20 256 e20, .slice B21 32 e21, .slice B22 256 e22, .slice B23 16 e23, .int .i64 m2.s]]) (results_cc Try.results99 rfl rfl R1 R2 Try.underlying50 rfl infoCpu9 Try.underlying28 rfl infoMem5) rfl ?_
  have hbW := HC.out.lowSize hb157 (Nat.le_of_lt X153.out.lt) (by have := Z2.out; have := Z30.out; have := Z68.out; have := Z78.out; have := Z86.out; have := Z138.out; have := Z148.out; have := Z158.out; omega)
  rw [HD.out, HM.out]
  exact ⟨_, _, _, _, _, _, _, _, _, _, rfl, Lib.hid ⟨HOk.out.at ht0 ht1, (F155.out.off2 X153.out X154.out (by simp) (by simp) HC.out).2⟩, Lib.hid (F156.out.off2 X153.out X154.out (by simp) (by simp) HC.out), hbW⟩
end Go.Proofs.Ytngoijchebfolaa

/- Lengths and sizes of leaves, leaf by leaf. -/
namespace Go.Proofs.Ytngoijchebfolaa
open Go.RowKit
theorem Lf.len_I (zs : List Int) : (Lf.I zs).len = zs.length := rfl
theorem Lf.len_B (gs : List Bool) : (Lf.B gs).len = gs.length := rfl
theorem Lf.len_S (ss : List ByteArray) : (Lf.S ss).len = ss.length := rfl
theorem Lf.sz_I (zs : List Int) : (Lf.I zs).sz = zs.length := rfl
theorem Lf.sz_B (gs : List Bool) : (Lf.B gs).sz = gs.length := rfl
theorem Lf.sz_S (ss : List ByteArray) : (Lf.S ss).sz = ss.length + lenS ss := rfl
end Go.Proofs.Ytngoijchebfolaa

/- The laws' own functions over Channel, on leaves. Written by gen_t.py. -/
namespace Go.Proofs.Ytngoijchebfolaa
open Go.RowKit

set_option maxRecDepth 100000 in
set_option maxHeartbeats 4000000 in
theorem toChannelA (d0 : Int) (d1 : Int) (d2 : Int) (d3 : Int) (w : World) :
    Calls Try.prog 38 #[.agg #[.int .i64 d0, .int .i64 d1, .int .i64 d2, .int .i64 d3]] w (fun e w' => e = .returned (.agg #[.int .i64 d0, .int .i64 d1, .int .i64 d2, .int .i64 d3]) ∧ Below w.heap.size w w') := by
  go_enter Try.func38, Try.ntmps38
  go_wp2
  refine bodyPost_ret (v := .agg #[.int .i64 d0, .int .i64 d1, .int .i64 d2, .int .i64 d3]) (by simp [results, Try.results38, go_sem]) rfl ?_
  exact ⟨rfl, ((((Below.refl _ _).alloc (Nat.le_refl _) _).alloc (by simp) _).alloc (by simp; omega) _)⟩

set_option maxRecDepth 100000 in
set_option maxHeartbeats 4000000 in
theorem eqChannelA (d0 : Int) (d1 : Int) (d2 : Int) (d3 : Int) (w : World) :
    Calls Try.prog 76 #[.agg #[.int .i64 d0, .int .i64 d1, .int .i64 d2, .int .i64 d3], .agg #[.int .i64 d0, .int .i64 d1, .int .i64 d2, .int .i64 d3]] w fun e w' => e = .returned (.bool true) ∧ Below w.heap.size w w' := by
  obtain ⟨W0, hW0⟩ : ∃ W0, W0 = ((w.alloc (.cells #[.int .i64 d0, .int .i64 d1, .int .i64 d2, .int .i64 d3] 36)).alloc (.cells #[.int .i64 d0, .int .i64 d1, .int .i64 d2, .int .i64 d3] 36)) := ⟨_, rfl⟩
  have hb0 : Below w.heap.size w W0 := by rw [hW0]; exact ((Below.refl _ _).alloc (Nat.le_refl _) _).alloc (by simp) _
  have X0 : Hid (Box W0 w.heap.size 36 #[.int .i64 d0, .int .i64 d1, .int .i64 d2, .int .i64 d3]) := Lib.hid (by rw [hW0]; exact (Box.new _ _ _).alloc _)
  have Y0 : Hid (Box W0 (w.heap.size + 1) 36 #[.int .i64 d0, .int .i64 d1, .int .i64 d2, .int .i64 d3]) := Lib.hid (by rw [hW0]; simpa using Box.new (w.alloc (.cells #[.int .i64 d0, .int .i64 d1, .int .i64 d2, .int .i64 d3] 36)) 36 #[.int .i64 d0, .int .i64 d1, .int .i64 d2, .int .i64 d3])
  have HW0 := Lib.hid hW0
  have hq0 : (d0 != d0) = false := by simp
  have hq1 : (d1 != d1) = false := by simp
  have hq2 : (d2 != d2) = false := by simp
  have hq3 : (d3 != d3) = false := by simp
  clear hW0
  go_enter Try.func76, Try.ntmps76
  go_wp2
  rw [← HW0.out]
  go_ret
  exact ⟨rfl, hb0⟩

end Go.Proofs.Ytngoijchebfolaa

/- A disk that came in, opened: its two slices as lists. Nothing here walks. -/
namespace Go.Proofs.Ytngoijchebfolaa
open Go.RowKit Go.ChangeShapes Go.WideShapes

section
variable {H : Type} {enc : TypeId × Value → H} {P : Program} {w : World} {spare : Nat → Bool} {held : Bool}

theorem getD_range {α : Type} (n : Nat) (f : Nat → α) (d : α) (i : Nat) (h : i < n) : ((List.range n).map f).getD i d = f i := by
  simp [List.getD_eq_getElem?_getD, h]

theorem add_plain {a : Addr} {b off i : Nat} {v : Value} (h : w.cell? (a.add i) = some v) (ha : a = ⟨b, off, none⟩) : w.cell? ⟨b, off + i, none⟩ = some v := by
  subst ha
  unfold Addr.add at h
  by_cases hi : i = 0
  · subst hi; simpa using h
  · rw [if_neg hi] at h; exact h

theorem open_strs {t e : TypeId} {fuel : Nat} {v : Value} {x : DataW H × List MemPlace} (ht : P.underlying t = some (.slice e)) (he : P.underlying e = some .string) (hce : P.cellsOf e = 1)
    (h : DataW.trod enc P w 0 spare held fuel t [v] = some x) :
    ∃ A n c, ∃ ss : List ByteArray, v = .slice A n c ∧ ss.length = n ∧ n ≤ maxLen ∧ StrL w A ss ∧ FitS ss := by
  rcases Deep.open_slice1 ht hce h with ⟨hcs, _⟩ | ⟨a, len, cap, m, k, V, D, Pl, hcs, _, hl, hm, hmm, _, hx⟩
  · injection hcs with hv _
    exact ⟨none, 0, 0, [], hv, rfl, by unfold maxLen; omega, fun i hi => by simp at hi, fun s hs => by simp at hs⟩
  · injection hcs with hv _
    have hlm : len ≤ m := by rw [hmm]; split <;> omega
    obtain ⟨S, hS⟩ := Deep.choose_lt (n := len) (p := fun i (s : ByteArray) => w.cell? (a.add i) = some (.string s) ∧ s.size ≤ maxLen) (fun i hi => by
      obtain ⟨h1, h2⟩ := hx i (by omega)
      obtain ⟨s, hc, _, hs⟩ := DataW.trod_string he h2
      injection hc with hc _
      exact ⟨s, by rw [← hc]; exact h1, hs⟩)
    refine ⟨some a, len, cap, (List.range len).map S, hv, by simp, by omega, fun i hi => ?_, fun s hs => ?_⟩
    · have hi' : i < len := by simpa using hi
      have h0 := (hS 0 (by omega)).1
      have hsp := World.cell?_spot h0
      obtain ⟨b, off, spot⟩ := a
      have hsp' : spot = none := by simpa [Addr.add] using hsp
      subst hsp'
      exact ⟨b, off, rfl, by rw [getD_range len S _ i hi']; exact add_plain (hS i hi').1 rfl⟩
    · obtain ⟨i, hi, rfl⟩ := List.mem_map.1 hs
      exact (hS i (by simpa using hi)).2

theorem open_writes {t e : TypeId} {f0 f1 : Field} {fuel : Nat} {v : Value} {x : DataW H × List MemPlace} (ht : P.underlying t = some (.slice e)) (he : P.underlying e = some (.struct #[f0, f1])) (hce : P.cellsOf e = 2)
    (h0 : P.underlying f0.type = some (.int .i64)) (h1 : P.underlying f1.type = some .string) (c0 : P.cellsOf f0.type = 1) (c1 : P.cellsOf f1.type = 1) (o0 : f0.offset = 0) (o1 : f1.offset = 1)
    (h : DataW.trod enc P w 0 spare held fuel t [v] = some x) :
    ∃ A n c, ∃ ws : List (Int × ByteArray), v = .slice A n c ∧ ws.length = n ∧ n ≤ maxLen ∧ WrL w A ws ∧ FitW ws := by
  rcases Deep.open_slice ht h with ⟨hcs, _⟩ | ⟨a, len, cap, m, k, D, Pl, hcs, _, hl, hm, hmm, _, hx⟩
  · injection hcs with hv _
    exact ⟨none, 0, 0, [], hv, rfl, by unfold maxLen; omega, fun i hi => by simp at hi, fun s hs => by simp at hs⟩
  · injection hcs with hv _
    have hlm : len ≤ m := by rw [hmm]; split <;> omega
    rw [hce] at hx
    obtain ⟨S, hS⟩ := Deep.choose_lt (n := len) (p := fun i (s : Int × ByteArray) => w.cell? ((a.add (i * 2)).add 0) = some (.int .i64 s.1) ∧ w.cell? ((a.add (i * 2)).add 1) = some (.string s.2) ∧ s.2.size ≤ maxLen) (fun i hi => by
      obtain ⟨cs, g1, g2⟩ := hx i (by omega)
      obtain ⟨_, hlen, hcell⟩ := World.cells?_some g1
      obtain ⟨y0, y1, q, _, _, g3, g4⟩ := trod_struct2 he g2
      rw [o0, c0] at g3
      rw [o1, c1] at g4
      obtain ⟨u0, u1, rfl⟩ : ∃ u0 u1, cs = [u0, u1] := by
        match cs, hlen with
        | [u0, u1], _ => exact ⟨u0, u1, rfl⟩
      obtain ⟨z, hz, _, _⟩ := DataW.trod_int h0 g3
      obtain ⟨s, hs, _, hsz⟩ := DataW.trod_string h1 g4
      simp at hz hs
      have k0 := hcell 0 (by omega)
      have k1 := hcell 1 (by omega)
      simp at k0 k1
      exact ⟨(z, s), by rw [k0, hz], by rw [k1, hs], hsz⟩)
    refine ⟨some a, len, cap, (List.range len).map S, hv, by simp, by omega, fun i hi => ?_, fun s hs => ?_⟩
    · have hi' : i < len := by simpa using hi
      have h0 := (hS 0 (by omega)).1
      have hsp := World.cell?_spot h0
      obtain ⟨b, off, spot⟩ := a
      have hsp' : spot = none := by simpa [Addr.add] using hsp
      subst hsp'
      refine ⟨b, off, rfl, ?_, ?_⟩
      · rw [getD_range len S _ i hi']
        have := (hS i hi').1
        rw [Deep.add_add] at this
        exact add_plain this rfl
      · rw [getD_range len S _ i hi']
        have := (hS i hi').2.1
        rw [Deep.add_add] at this
        have := add_plain (b := b) (off := off) this rfl
        rwa [← Nat.add_assoc] at this
    · obtain ⟨i, hi, rfl⟩ := List.mem_map.1 hs
      exact (hS i (by simpa using hi)).2.2

theorem open_ints64 {t e : TypeId} {fuel : Nat} {v : Value} {x : DataW H × List MemPlace} (ht : P.underlying t = some (.slice e)) (he : P.underlying e = some (.int .i64)) (hce : P.cellsOf e = 1)
    (h : DataW.trod enc P w 0 spare held fuel t [v] = some x) :
    ∃ A n c, ∃ zs : List Int, v = .slice A n c ∧ zs.length = n ∧ n ≤ maxLen ∧ IntL w A zs ∧ ∀ z ∈ zs, (Lit.int .i64 z).wf = true := by
  rcases Deep.open_slice1 ht hce h with ⟨hcs, _⟩ | ⟨a, len, cap, m, k, V, D, Pl, hcs, _, hl, hm, hmm, _, hx⟩
  · injection hcs with hv _
    exact ⟨none, 0, 0, [], hv, rfl, by unfold maxLen; omega, fun i hi => by simp at hi, fun s hs => by simp at hs⟩
  · injection hcs with hv _
    have hlm : len ≤ m := by rw [hmm]; split <;> omega
    obtain ⟨S, hS⟩ := Deep.choose_lt (n := len) (p := fun i (s : Int) => w.cell? (a.add i) = some (.int .i64 s) ∧ (Lit.int .i64 s).wf = true) (fun i hi => by
      obtain ⟨h1, h2⟩ := hx i (by omega)
      obtain ⟨s, hc, _, hs⟩ := DataW.trod_int he h2
      injection hc with hc _
      exact ⟨s, by rw [← hc]; exact h1, hs⟩)
    refine ⟨some a, len, cap, (List.range len).map S, hv, by simp, by omega, fun i hi => ?_, fun s hs => ?_⟩
    · have hi' : i < len := by simpa using hi
      have h0 := (hS 0 (by omega)).1
      have hsp := World.cell?_spot h0
      obtain ⟨b, off, spot⟩ := a
      have hsp' : spot = none := by simpa [Addr.add] using hsp
      subst hsp'
      exact ⟨b, off, rfl, by rw [getD_range len S _ i hi']; exact add_plain (hS i hi').1 rfl⟩
    · obtain ⟨i, hi, rfl⟩ := List.mem_map.1 hs
      exact (hS i (by simpa using hi)).2
end

set_option maxRecDepth 100000 in
theorem cellsStr : Try.prog.cellsOf 9 = 1 := by kernel_rfl
set_option maxRecDepth 100000 in
theorem cellsInt : Try.prog.cellsOf 3 = 1 := by kernel_rfl
end Go.Proofs.Ytngoijchebfolaa

/- Slices of Channel: rows of 4 cells, as lists; the laws' own functions over them. Written by gen_r.py. -/
namespace Go.Proofs.Ytngoijchebfolaa
open Go.RowKit Go.ChangeShapes Go.WideShapes

abbrev TChannel := Int × Int × Int × Int
def zChannel : TChannel := (0, 0, 0, 0)
def rowChannel (x : TChannel) : List Value := [.int .i64 (x.1), .int .i64 (x.2.1), .int .i64 (x.2.2.1), .int .i64 (x.2.2.2)]
def rChannel (rs : List TChannel) : Lf := .R 36 4 (by decide) (rs.map rowChannel)
theorem len_rChannel (rs : List TChannel) : (rChannel rs).len = rs.length * 4 := by simp [rChannel, Lf.len]
theorem sz_rChannel (rs : List TChannel) : (rChannel rs).sz = rs.length := by simp [rChannel, Lf.sz]
theorem fit_rChannel {rs : List TChannel} (h : (rChannel rs).fit) : rs.length ≤ maxLen := by simpa [rChannel, Lf.fit] using h
theorem rowChannel_at (rs : List TChannel) (i : Nat) (h : i < rs.length) : (rs.map rowChannel).getD i [] = rowChannel (rs.getD i zChannel) := by
  simp [List.getD_eq_getElem?_getD, h]
/-- What the slice at A holds. -/
def RowChannel (w : World) (A : Option Addr) (rs : List TChannel) : Prop := RowL w A 4 (rs.map rowChannel)
def OwnChannel (w : World) (lo hi : Nat) (A : Option Addr) (rs : List TChannel) : Prop := OwnR w lo hi 36 A 4 (rs.map rowChannel)
theorem RowChannel.below {w w' : World} {A : Option Addr} {rs : List TChannel} (h : RowChannel w A rs) (hb : Below w.heap.size w w') : RowChannel w' A rs := RowL.below h hb
theorem OwnChannel.reads {w : World} {lo hi : Nat} {A : Option Addr} {rs : List TChannel} (h : OwnChannel w lo hi A rs) : RowChannel w A rs := OwnR.reads h
theorem OwnChannel.below {w w' : World} {lo hi : Nat} {A : Option Addr} {rs : List TChannel} (h : OwnChannel w lo hi A rs) (hb : Below w.heap.size w w') : OwnChannel w' lo hi A rs := OwnR.below h hb
theorem rep_rChannel {w : World} {A : Option Addr} {n c : Nat} {rs : List TChannel} : RepL w (.slice A n c) (rChannel rs) ↔ rs.length = n ∧ RowChannel w A rs := by
  constructor
  · rintro ⟨A', c', e, h⟩
    injection e with e1 e2 e3
    subst e1
    exact ⟨by rw [e2, List.length_map], h⟩
  · rintro ⟨rfl, h⟩
    exact ⟨A, c, by rw [List.length_map], h⟩
theorem own_rChannel {w : World} {lo hi : Nat} {A : Option Addr} {n c : Nat} {rs : List TChannel} : OwnL w lo hi (.slice A n c) (rChannel rs) ↔ rs.length = n ∧ OwnChannel w lo hi A rs := by
  constructor
  · rintro ⟨A', c', e, h⟩
    injection e with e1 e2 e3
    subst e1
    exact ⟨by rw [e2, List.length_map], h⟩
  · rintro ⟨rfl, h⟩
    exact ⟨A, c, by rw [List.length_map], h⟩
theorem RowChannel.at {w : World} {A : Option Addr} {rs : List TChannel} (h : RowChannel w A rs) (i : Nat) (hi : i < rs.length) : ∃ b off, A = some ⟨b, off, none⟩ ∧ w.cell? ⟨b, off + i * 4, none⟩ = some (.int .i64 (rs.getD i zChannel).1) ∧ w.cell? ⟨b, off + i * 4 + 1, none⟩ = some (.int .i64 (rs.getD i zChannel).2.1) ∧ w.cell? ⟨b, off + i * 4 + 2, none⟩ = some (.int .i64 (rs.getD i zChannel).2.2.1) ∧ w.cell? ⟨b, off + i * 4 + 3, none⟩ = some (.int .i64 (rs.getD i zChannel).2.2.2) := by
  have hr := rowChannel_at rs i hi
  obtain ⟨b0, o0, e0, h0⟩ := h i (by simpa using hi) 0 (by decide)
  rw [hr] at h0
  obtain ⟨b1, o1, e1, h1⟩ := h i (by simpa using hi) 1 (by decide)
  rw [hr] at h1
  obtain ⟨b2, o2, e2, h2⟩ := h i (by simpa using hi) 2 (by decide)
  rw [hr] at h2
  obtain ⟨b3, o3, e3, h3⟩ := h i (by simpa using hi) 3 (by decide)
  rw [hr] at h3
  subst e0
  injection e1 with e1
  injection e1 with p1 q1 _
  subst p1 q1
  injection e2 with e2
  injection e2 with p2 q2 _
  subst p2 q2
  injection e3 with e3
  injection e3 with p3 q3 _
  subst p3 q3
  exact ⟨b0, o0, rfl, h0, h1, h2, h3⟩
def marksChannel (q n : Nat) : List TChannel := (List.range n).map fun i => (((q + i * 4 + 0 : Nat) : Int), ((q + i * 4 + 1 : Nat) : Int), ((q + i * 4 + 2 : Nat) : Int), ((q + i * 4 + 3 : Nat) : Int))
theorem marksChannel_len (q n : Nat) : (marksChannel q n).length = n := by simp [marksChannel]
theorem marksChannel_at (q n i : Nat) (h : i < n) : (marksChannel q n).getD i zChannel = (((q + i * 4 + 0 : Nat) : Int), ((q + i * 4 + 1 : Nat) : Int), ((q + i * 4 + 2 : Nat) : Int), ((q + i * 4 + 3 : Nat) : Int)) := by simp [marksChannel, List.getD_eq_getElem?_getD, h]
theorem marks_rChannel (q : Nat) (rs : List TChannel) : (rChannel rs).marks q = rChannel (marksChannel q rs.length) := by
  unfold rChannel
  simp only [Lf.marks]
  congr 1
  unfold markRows marksChannel
  rw [List.length_map, List.map_map]
  refine List.map_congr_left fun i hi => ?_
  have hi' : i < rs.length := by simpa using hi
  rw [rowChannel_at rs i hi']
  obtain ⟨x0, x1, x2, x3⟩ := rs.getD i zChannel
  rfl
set_option maxRecDepth 100000 in
theorem szLRChannel (v : Value) (rs : List TChannel) (left : Int) (w : World) (h : RepL w v (rChannel rs)) (hf : (rChannel rs).fit) (h0 : 0 ≤ left) (h1 : left ≤ 1048576) :
    Calls Try.prog 30 #[v, .int .i64 left] w (Left left (Lf.sz (rChannel rs)) w) := by
  obtain ⟨A, c, rfl, hr⟩ := h
  have hn := fit_rChannel hf
  unfold maxLen at hn
  rw [sz_rChannel, List.length_map]
  clear hr hf
  generalize rs.length = n at hn ⊢
  by_cases hb : left < n
  · have hb' : left - (n : Int) < 0 := by omega
    go_enter Try.func30, Try.ntmps30
    go_wp2
    go_ret
    exact ⟨.inl rfl, Below.refl _ _⟩
  · have hb' : ¬ left - (n : Int) < 0 := by omega
    go_enter Try.func30, Try.ntmps30
    go_wp2
    go_ret
    exact ⟨.inr ⟨rfl, by omega⟩, Below.refl _ _⟩

set_option maxRecDepth 100000 in
theorem infoChannel : (Try.prog.info? 36).map (fun i => (i.zero, i.size, i.bytes)) = some (some (.agg #[.int .i64 0, .int .i64 0, .int .i64 0, .int .i64 0]), 4, 32) := by kernel_rfl
set_option maxRecDepth 100000 in
theorem makeChannel (n : Nat) (hn : n ≤ 1048576) (W : World) : (Instr.makeSlice 31 (.int .i64 (n : Int)) (.int .i64 (n : Int))).run Try.prog W = .ok (.slice (some ⟨W.heap.size, 0, none⟩) n n) (W.alloc (.cells (madeCells #[.int .i64 0, .int .i64 0, .int .i64 0, .int .i64 0] (n * 4)) 36)) := by
  obtain ⟨i, hi, hzz⟩ := Option.map_eq_some_iff.1 infoChannel
  simp only [Prod.mk.injEq] at hzz
  obtain ⟨hz, hs, hb⟩ := hzz
  have hr := run_make (P := Try.prog) W 31 36 i _ Try.underlying31 hi hz .i64 .i64 n n (by omega) (Int.le_refl _) (by rw [hb]; omega) (by omega)
  simp only [Int.toNat_natCast, hs] at hr
  exact hr
def cellChannel (rs : List TChannel) (x : Nat) : Value := (rowChannel (rs.getD (x / 4) zChannel)).getD (x % 4) undef
def fillChannel (rs : List TChannel) (q x : Nat) : Value := if x < q * 4 then cellChannel rs x else (rowChannel zChannel).getD (x % 4) undef
theorem madeChannel (w : World) (n : Nat) : (w.alloc (.cells (madeCells #[.int .i64 0, .int .i64 0, .int .i64 0, .int .i64 0] (n * 4)) 36)).rowIs w.heap.size 36 (n * 4) (fillChannel [] 0) :=
  ⟨_, heap_alloc_new _ _, size_madeCells _ _, fun i hi => by
    have : i % 4 = 0 ∨ i % 4 = 1 ∨ i % 4 = 2 ∨ i % 4 = 3 := by omega
    rcases this with h | h | h | h <;> simp [fillChannel, rowChannel, zChannel, madeCells, hi, h]⟩
theorem fillChannel_next (rs : List TChannel) (q x : Nat) (x0 : Int) (x1 : Int) (x2 : Int) (x3 : Int) (h : rs.getD q zChannel = (x0, x1, x2, x3)) :
    (if x = q * 4 + 3 then Value.int .i64 x3 else (if x = q * 4 + 2 then Value.int .i64 x2 else (if x = q * 4 + 1 then Value.int .i64 x1 else (if x = q * 4 then Value.int .i64 x0 else fillChannel rs q x)))) = fillChannel rs (q + 1) x := by
  unfold fillChannel
  by_cases e3 : x = q * 4 + 3
  · subst e3
    rw [if_pos rfl, if_pos (by omega)]
    unfold cellChannel
    rw [show (q * 4 + 3) / 4 = q by omega, show (q * 4 + 3) % 4 = 3 by omega, h]
    rfl
  · rw [if_neg e3]
    by_cases e2 : x = q * 4 + 2
    · subst e2
      rw [if_pos rfl, if_pos (by omega)]
      unfold cellChannel
      rw [show (q * 4 + 2) / 4 = q by omega, show (q * 4 + 2) % 4 = 2 by omega, h]
      rfl
    · rw [if_neg e2]
      by_cases e1 : x = q * 4 + 1
      · subst e1
        rw [if_pos rfl, if_pos (by omega)]
        unfold cellChannel
        rw [show (q * 4 + 1) / 4 = q by omega, show (q * 4 + 1) % 4 = 1 by omega, h]
        rfl
      · rw [if_neg e1]
        by_cases e0 : x = q * 4
        · subst e0
          rw [if_pos rfl, if_pos (by omega)]
          unfold cellChannel
          rw [show (q * 4) / 4 = q by omega, show (q * 4) % 4 = 0 by omega, h]
          rfl
        · rw [if_neg e0]
          by_cases e4 : x < q * 4
          · rw [if_pos e4, if_pos (by omega)]
          · rw [if_neg e4, if_neg (by omega)]
theorem own_fillChannel {w : World} {lo hi b : Nat} {rs : List TChannel} (h : w.rowIs b 36 (rs.length * 4) (fillChannel rs rs.length)) (h1 : lo ≤ b) (h2 : b < hi) : OwnChannel w lo hi (some ⟨b, 0, none⟩) rs :=
  .inr ⟨b, rs.length * 4, _, rfl, h1, h2, by simp, h, fun i hi' j hj => by
    have hi'' : i < rs.length := by simpa using hi'
    rw [rowChannel_at rs i hi'']
    unfold fillChannel cellChannel
    rw [if_pos (by omega), show (i * 4 + j) / 4 = i by omega, show (i * 4 + j) % 4 = j by omega]⟩
set_option maxRecDepth 100000 in
set_option maxHeartbeats 2000000 in
theorem toLRChannel (v : Value) (rs : List TChannel) (w : World) (h : RepL w v (rChannel rs)) (hn : rs.length ≤ 1048576) :
    Calls Try.prog 32 #[v] w (GivesL rs.length (rChannel rs) w) := by
  obtain ⟨A, c, rfl, hr⟩ := h
  have H : Hid (RowChannel w A rs) := Lib.hid hr
  rw [List.length_map]
  clear hr
  generalize hl : rs.length = n at hn ⊢
  have HL := Lib.hid hl
  clear hl
  have hmk := makeChannel n hn
  go_enter Try.func32, Try.ntmps32
  go_wp2
  clear hmk
  have HR := Lib.hid (madeChannel w n)
  have hbel : Below w.heap.size w (w.alloc (.cells (madeCells #[.int .i64 0, .int .i64 0, .int .i64 0, .int .i64 0] (n * 4)) 36)) := (Below.refl _ _).alloc (Nat.le_refl _) _
  generalize w.alloc (.cells (madeCells #[.int .i64 0, .int .i64 0, .int .i64 0, .int .i64 0] (n * 4)) 36) = wa at hbel HR ⊢
  go_loopw [4] (fun i wr => ∃ q : Nat, q ≤ n ∧ i = .int .i64 q ∧ Below w.heap.size w wr ∧ Hid (wr.rowIs w.heap.size 36 (n * 4) (fillChannel rs q))) (fun i _ => n - (intOf i).toNat)
  case atStart => exact ⟨0, Nat.zero_le _, rfl, hbel, Lib.hid (HR.out.congr (fun i _ => by simp [fillChannel]))⟩
  case round =>
    obtain ⟨q, hq, rfl, hbw, HRW⟩ := hrel
    by_cases hlt : q < n
    · obtain ⟨b, off, rfl, hc0, hc1, hc2, hc3⟩ := (H.out.below hbw).at q (by rw [HL.out]; exact hlt)
      obtain ⟨x0, x1, x2, x3, hx⟩ : ∃ x0 x1 x2 x3, rs.getD q zChannel = (x0, x1, x2, x3) := ⟨_, _, _, _, rfl⟩
      rw [hx] at hc0 hc1 hc2 hc3
      have HX := Lib.hid hx
      clear hx
      have hi : (q : Int) < (n : Int) := by omega
      go_wp2_with fail
      refine (toChannelA x0 x1 x2 x3 wr).mono ?_
      rintro e w1 ⟨rfl, hb1⟩
      have hr1 := row_below hb1 HRW.out HRW.out.lt

      have hd0 := hr1.cell (i := q * 4) (by omega)
      have hf0 := hr1.frozen (q * 4)
      have hd1 := hr1.cell (i := q * 4 + 1) (by omega)
      have hf1 := hr1.frozen (q * 4 + 1)
      have hd2 := hr1.cell (i := q * 4 + 2) (by omega)
      have hf2 := hr1.frozen (q * 4 + 2)
      have hd3 := hr1.cell (i := q * 4 + 3) (by omega)
      have hf3 := hr1.frozen (q * 4 + 3)
      have HW := Lib.hid ((((hr1.set (q * 4) (.int .i64 x0)).set (q * 4 + 1) (.int .i64 x1)).set (q * 4 + 2) (.int .i64 x2)).set (q * 4 + 3) (.int .i64 x3))
      have hbe : Below w.heap.size w w1 := hbw.trans (hb1.mono hbw.size)
      clear hr1 HRW hc0 hc1 hc2 hc3
      generalize fillChannel rs q (q * 4) = y0 at hd0
      generalize fillChannel rs q (q * 4 + 1) = y1 at hd1
      generalize fillChannel rs q (q * 4 + 2) = y2 at hd2
      generalize fillChannel rs q (q * 4 + 3) = y3 at hd3
      go_wp2
      go_roundw
      case rel =>
        exact ⟨q + 1, by omega, by go_num, ((((hbe.setCell (Nat.le_refl _) _).setCell (Nat.le_refl _) _).setCell (Nat.le_refl _) _).setCell (Nat.le_refl _) _), Lib.hid (HW.out.congr (fun i _ => fillChannel_next rs q i x0 x1 x2 x3 HX.out))⟩
      case measure => simp [intOf]; omega
    · go_wp2
      go_ret
      have : q = n := by omega
      subst this
      refine ⟨_, _, rfl, Lib.hid (own_rChannel.2 ⟨HL.out, own_fillChannel (by rw [HL.out]; exact HRW.out) (Nat.le_refl _) HRW.out.lt⟩), Lib.hid (capL (Nat.le_refl _)), hbw⟩

set_option maxRecDepth 100000 in
set_option maxHeartbeats 2000000 in
theorem eqLRChannel (v v' : Value) (rs : List TChannel) (w : World) (h : RepL w v (rChannel rs)) (h' : RepL w v' (rChannel rs)) (hn : rs.length ≤ maxLen) :
    Calls Try.prog 33 #[v, v'] w fun e w' => e = .returned (.bool true) ∧ Below w.heap.size w w' := by
  obtain ⟨A, c, rfl, hr⟩ := h
  obtain ⟨A', c', rfl, hr'⟩ := h'
  have H : Hid (RowChannel w A rs) := Lib.hid hr
  have H' : Hid (RowChannel w A' rs) := Lib.hid hr'
  unfold maxLen at hn
  rw [List.length_map]
  clear hr hr'
  generalize hl : rs.length = n at hn ⊢
  have HL := Lib.hid hl
  clear hl
  have hb : ((n : Int) != (n : Int)) = false := by simp
  go_enter Try.func33, Try.ntmps33
  go_wp2
  go_loopw [5] (fun i wr => ∃ q : Nat, q ≤ n ∧ i = .int .i64 q ∧ Below w.heap.size w wr) (fun i _ => n - (intOf i).toNat)
  case atStart => exact ⟨0, Nat.zero_le _, rfl, Below.refl _ _⟩
  case round =>
    obtain ⟨q, hq, rfl, hbw⟩ := hrel
    by_cases hlt : q < n
    · obtain ⟨b, off, rfl, hc0, hc1, hc2, hc3⟩ := (H.out.below hbw).at q (by rw [HL.out]; exact hlt)
      obtain ⟨b', off', rfl, hd0, hd1, hd2, hd3⟩ := (H'.out.below hbw).at q (by rw [HL.out]; exact hlt)
      generalize rs.getD q zChannel = x at hc0 hc1 hc2 hc3 hd0 hd1 hd2 hd3
      obtain ⟨x0, x1, x2, x3⟩ := x
      have hi : (q : Int) < (n : Int) := by omega
      have HC := Lib.hid (fun W => eqChannelA x0 x1 x2 x3 W)
      go_wp2
      go_still_tail 8, (by kernel_rfl)
      change wpList _ _ _ _ _ wr.drew
      clear hc0 hc1 hc2 hc3 hd0 hd1 hd2 hd3
      have hbd := hbw.drew
      generalize wr.drew = wd at hbd ⊢
      go_wp2_with fail
      refine (HC.out _).mono ?_
      rintro e w1 ⟨rfl, hb1⟩
      go_wp2
      go_roundw
      case rel => exact ⟨q + 1, by omega, by go_num, hbd.trans (hb1.mono hbd.size)⟩
      case measure => simp [intOf]; omega
    · go_wp2
      go_ret
      exact ⟨rfl, hbw⟩

def markCChannel (q x : Nat) : Value := if x % 4 = 0 then .int .i64 ((q + x : Nat) : Int) else if x % 4 = 1 then .int .i64 ((q + x : Nat) : Int) else if x % 4 = 2 then .int .i64 ((q + x : Nat) : Int) else .int .i64 ((q + x : Nat) : Int)
theorem own_marksChannel {w : World} {lo hi b m q n : Nat} {f : Nat → Value} (h : w.rowIs b 36 m (fun x => if x < n * 4 then markCChannel q x else f x)) (hm : n * 4 ≤ m) (h1 : lo ≤ b) (h2 : b < hi) : OwnChannel w lo hi (some ⟨b, 0, none⟩) (marksChannel q n) :=
  .inr ⟨b, m, _, rfl, h1, h2, by simpa [marksChannel_len] using hm, h, fun i hi' j hj => by
    have hi'' : i < n := by simpa [marksChannel_len] using hi'
    rw [rowChannel_at _ i (by rw [marksChannel_len]; exact hi''), marksChannel_at q n i hi'']
    show (if i * 4 + j < n * 4 then markCChannel q (i * 4 + j) else _) = _
    rw [if_pos (by omega)]
    have hmod : (i * 4 + j) % 4 = j := by omega
    unfold markCChannel rowChannel
    rw [hmod, show q + (i * 4 + j) = q + i * 4 + j by omega]
    have : j = 0 ∨ j = 1 ∨ j = 2 ∨ j = 3 := by omega
    rcases this with rfl | rfl | rfl | rfl <;> rfl⟩
set_option maxRecDepth 100000 in
set_option maxHeartbeats 4000000 in
theorem markLRChannel (v : Value) (rs : List TChannel) (k lo hi : Nat) (w : World) (h : OwnL w lo hi v (rChannel rs)) (hk : 1 ≤ k) (hn0 : (rChannel rs).len ≤ 4294967296) (hk2 : k ≤ 549755813888) :
    Calls Try.prog 35 #[v, .int .i64 (k : Int)] w (MarkedL lo hi v (rChannel rs) k w) := by
  obtain ⟨A, c, rfl, ho⟩ := h
  have hn : rs.length ≤ 4294967296 := by rw [len_rChannel] at hn0; omega
  clear hn0
  unfold MarkedL
  rw [marks_rChannel, len_rChannel, List.length_map]
  generalize hl : rs.length = n at hn ⊢
  have ho : OwnChannel w lo hi A rs := ho
  rcases Nat.eq_zero_or_pos n with hz | hz
  · subst hz
    clear ho
    go_enter Try.func35, Try.ntmps35
    go_wp2
    go_loop [5, 1] (fun i kk => i = .int .i64 0 ∧ kk = .int .i64 k) (fun _ _ => 0)
    case atStart => exact ⟨rfl, rfl⟩
    case round =>
      obtain ⟨rfl, rfl⟩ := hrel
      go_wp2
      go_ret
      exact ⟨by simp, Lib.hid (own_rChannel.2 ⟨rfl, .inl rfl⟩), touch_none (Btw.refl _ _ _)⟩
  · rcases ho with hnil | ⟨b, m, f, rfl, h1, h2, hm, hr, hf⟩
    · have hx := congrArg List.length hnil
      rw [List.length_map, List.length_nil] at hx
      omega
    have HM : Hid (n * 4 ≤ m) := Lib.hid (by rw [← hl]; simpa using hm)
    have HR := Lib.hid hr
    clear hm hr hf hl
    go_enter Try.func35, Try.ntmps35
    go_wp2
    go_loopw [5, 1] (fun i kk wr => ∃ j : Nat, j ≤ n ∧ i = .int .i64 j ∧ kk = .int .i64 ((k + j * 4 : Nat) : Int) ∧ Btw b (b + 1) w wr ∧ Hid (wr.rowIs b 36 m (fun x => if x < j * 4 then markCChannel k x else f x))) (fun i _ _ => n - (intOf i).toNat)
    case atStart => exact ⟨0, Nat.zero_le _, rfl, rfl, Btw.refl _ _ _, Lib.hid (HR.out.congr (fun i _ => by simp))⟩
    case round =>
      obtain ⟨j, hj, rfl, rfl, hbw, HW⟩ := hrel
      by_cases hlt : j < n
      · have hi' : (j : Int) < (n : Int) := by omega
        have hc0 := HW.out.cell (i := j * 4) (by have := HM.out; omega)
        rw [if_neg (by omega)] at hc0
        have hf0 := HW.out.frozen (j * 4)
        have hc1 := HW.out.cell (i := j * 4 + 1) (by have := HM.out; omega)
        rw [if_neg (by omega)] at hc1
        have hf1 := HW.out.frozen (j * 4 + 1)
        have hc2 := HW.out.cell (i := j * 4 + 2) (by have := HM.out; omega)
        rw [if_neg (by omega)] at hc2
        have hf2 := HW.out.frozen (j * 4 + 2)
        have hc3 := HW.out.cell (i := j * 4 + 3) (by have := HM.out; omega)
        rw [if_neg (by omega)] at hc3
        have hf3 := HW.out.frozen (j * 4 + 3)
        generalize hz : k + j * 4 = z
        have HZ := Lib.hid hz
        have hz1 : z + 4 ≤ 1099511627776 := by omega
        have HS := Lib.hid ((((HW.out.set (j * 4) (.int .i64 (z : Int))).set (j * 4 + 1) (.int .i64 ((z : Int) + 1))).set (j * 4 + 2) (.int .i64 ((z : Int) + 1 + 1))).set (j * 4 + 3) (.int .i64 ((z : Int) + 1 + 1 + 1)))
        clear HW hz
        generalize f (j * 4) = y0 at hc0
        generalize f (j * 4 + 1) = y1 at hc1
        generalize f (j * 4 + 2) = y2 at hc2
        generalize f (j * 4 + 3) = y3 at hc3
        go_wp2
        go_roundw
        case rel =>
          refine ⟨j + 1, by omega, by go_num, by have := HZ.out; congr 1; omega, ((((hbw.setCell (Nat.le_refl _) (Nat.lt_succ_self _) _).setCell (Nat.le_refl _) (Nat.lt_succ_self _) _).setCell (Nat.le_refl _) (Nat.lt_succ_self _) _).setCell (Nat.le_refl _) (Nat.lt_succ_self _) _), Lib.hid (HS.out.congr (fun x _ => ?_))⟩
          show (if x = j * 4 + 3 then Value.int .i64 ((z : Int) + 1 + 1 + 1) else (if x = j * 4 + 2 then Value.int .i64 ((z : Int) + 1 + 1) else (if x = j * 4 + 1 then Value.int .i64 ((z : Int) + 1) else (if x = j * 4 then Value.int .i64 (z : Int) else (if x < j * 4 then markCChannel k x else f x))))) = _
          by_cases e3 : x = j * 4 + 3
          · subst e3
            rw [if_pos rfl, if_pos (by omega)]
            unfold markCChannel
            have hmod : (j * 4 + 3) % 4 = 3 := by omega
            have hzz : ((k + (j * 4 + 3) : Nat) : Int) = (z : Int) + 1 + 1 + 1 := by have := HZ.out; omega
            rw [hzz, hmod]
            rfl
          · rw [if_neg e3]
            by_cases e2 : x = j * 4 + 2
            · subst e2
              rw [if_pos rfl, if_pos (by omega)]
              unfold markCChannel
              have hmod : (j * 4 + 2) % 4 = 2 := by omega
              have hzz : ((k + (j * 4 + 2) : Nat) : Int) = (z : Int) + 1 + 1 := by have := HZ.out; omega
              rw [hzz, hmod]
              rfl
            · rw [if_neg e2]
              by_cases e1 : x = j * 4 + 1
              · subst e1
                rw [if_pos rfl, if_pos (by omega)]
                unfold markCChannel
                have hmod : (j * 4 + 1) % 4 = 1 := by omega
                have hzz : ((k + (j * 4 + 1) : Nat) : Int) = (z : Int) + 1 := by have := HZ.out; omega
                rw [hzz, hmod]
                rfl
              · rw [if_neg e1]
                by_cases e0 : x = j * 4
                · subst e0
                  rw [if_pos rfl, if_pos (by omega)]
                  unfold markCChannel
                  have hmod : (j * 4) % 4 = 0 := by omega
                  have hzz : ((k + (j * 4) : Nat) : Int) = (z : Int) := by have := HZ.out; omega
                  rw [hzz, hmod]
                  rfl
                · rw [if_neg e0]
                  by_cases e4 : x < j * 4
                  · rw [if_pos e4, if_pos (by omega)]
                  · rw [if_neg e4, if_neg (by omega)]
        case measure => simp [intOf]; omega
      · go_wp2
        go_ret
        have ej : j = n := by omega
        subst ej
        exact ⟨rfl, Lib.hid (own_rChannel.2 ⟨marksChannel_len _ _, own_marksChannel HW.out HM.out h1 h2⟩), touch_blk hz hbw⟩

set_option maxRecDepth 100000 in
set_option maxHeartbeats 4000000 in
theorem heldLRChannel (v : Value) (rs : List TChannel) (k : Nat) (w : World) (h : RepL w v ((rChannel rs).marks k)) (hk : 1 ≤ k) (hn0 : (rChannel rs).len ≤ 4294967296) (hk2 : k ≤ 549755813888) :
    Calls Try.prog 36 #[v, .int .i64 (k : Int)] w fun e w' => e = .returned (.int .i64 ((k + (rChannel rs).len : Nat) : Int)) ∧ Below w.heap.size w w' := by
  rw [marks_rChannel] at h
  have hn : rs.length ≤ 4294967296 := by rw [len_rChannel] at hn0; omega
  clear hn0
  obtain ⟨A, c, rfl, hr⟩ := h
  have H : Hid (RowChannel w A (marksChannel k rs.length)) := Lib.hid hr
  rw [len_rChannel, List.length_map, marksChannel_len]
  clear hr
  generalize rs.length = n at hn H ⊢
  go_enter Try.func36, Try.ntmps36
  go_wp2
  go_loop [5, 1] (fun i kk => ∃ j : Nat, j ≤ n ∧ i = .int .i64 j ∧ kk = .int .i64 ((k + j * 4 : Nat) : Int)) (fun i _ => n - (intOf i).toNat)
  case atStart => exact ⟨0, Nat.zero_le _, rfl, rfl⟩
  case round =>
    obtain ⟨j, hj, rfl, rfl⟩ := hrel
    by_cases hlt : j < n
    · obtain ⟨b, off, rfl, hc0, hc1, hc2, hc3⟩ := H.out.at j (by rw [marksChannel_len]; exact hlt)
      rw [marksChannel_at k n j hlt] at hc0 hc1 hc2 hc3
      have hi' : (j : Int) < (n : Int) := by omega
      generalize hz : k + j * 4 = z at hc0 hc1 hc2 hc3
      have HZ := Lib.hid hz
      have hz1 : z + 4 ≤ 1099511627776 := by omega
      clear hz
      have g0 : w.cell? ⟨b, off + j * 4, none⟩ = some (.int .i64 ((z : Int))) := hc0
      have q0 : (((z : Int)) != ((z : Int))) = false := by simp
      have g1 : w.cell? ⟨b, off + j * 4 + 1, none⟩ = some (.int .i64 ((z : Int) + 1)) := hc1.trans (by first | rfl | (congr 2; omega))
      have q1 : (((z : Int) + 1) != ((z : Int) + 1)) = false := by simp
      have g2 : w.cell? ⟨b, off + j * 4 + 2, none⟩ = some (.int .i64 ((z : Int) + 1 + 1)) := hc2.trans (by first | rfl | (congr 2; omega))
      have q2 : (((z : Int) + 1 + 1) != ((z : Int) + 1 + 1)) = false := by simp
      have g3 : w.cell? ⟨b, off + j * 4 + 3, none⟩ = some (.int .i64 ((z : Int) + 1 + 1 + 1)) := hc3.trans (by first | rfl | (congr 2; omega))
      have q3 : (((z : Int) + 1 + 1 + 1) != ((z : Int) + 1 + 1 + 1)) = false := by simp
      clear hc0 hc1 hc2 hc3
      go_wp2
      go_round
      case rel => exact ⟨j + 1, by omega, by go_num, by have := HZ.out; congr 1; omega⟩
      case measure => simp [intOf]; omega
    · go_wp2
      go_ret
      have ej : j = n := by omega
      subst ej
      exact ⟨rfl, Below.refl _ _⟩

end Go.Proofs.Ytngoijchebfolaa

/- Channels as data: what is valid, what is set, what a byte moved leaves. Nothing here walks. -/
namespace Go.Proofs.Ytngoijchebfolaa
open Go.RowKit

def upB (n : Int) : Bool := decide (0 ≤ n ∧ n ≤ 1)
def adC (n : Int) : Bool := decide (0 ≤ n ∧ n ≤ 4095)
def byC (n : Int) : Bool := decide (0 ≤ n ∧ n ≤ 255)
theorem adC_range {n : Int} (h : adC n = true) : 0 ≤ n ∧ n ≤ 4095 := by simpa [adC] using h
theorem byC_range {n : Int} (h : byC n = true) : 0 ≤ n ∧ n ≤ 255 := by simpa [byC] using h
def chB (x : TChannel) : Bool := adC x.1 && (adC x.2.1 && (byC x.2.2.1 && upB x.2.2.2))
def dmaB (rs : List TChannel) : Bool := decide (rs.length = 4) && rs.all chB
def chanB (i : Int) : Bool := decide (0 ≤ i ∧ i ≤ 3)
theorem upB_range {n : Int} (h : upB n = true) : 0 ≤ n ∧ n ≤ 1 := by simpa [upB] using h
theorem chanB_range {n : Int} (h : chanB n = true) : 0 ≤ n ∧ n ≤ 3 := by simpa [chanB] using h
theorem chB_range {x : TChannel} (h : chB x = true) : (0 ≤ x.1 ∧ x.1 ≤ 4095) ∧ (0 ≤ x.2.1 ∧ x.2.1 ≤ 4095) ∧ (0 ≤ x.2.2.1 ∧ x.2.2.1 ≤ 255) ∧ (0 ≤ x.2.2.2 ∧ x.2.2.2 ≤ 1) := by
  unfold chB at h
  simp only [Bool.and_eq_true] at h
  exact ⟨adC_range h.1, adC_range h.2.1, byC_range h.2.2.1, upB_range h.2.2.2⟩
theorem dmaB_len {rs : List TChannel} (h : dmaB rs = true) : rs.length = 4 ∧ rs.all chB = true := by
  unfold dmaB at h
  simpa using h
theorem dmaB_no {rs : List TChannel} (h : rs.length ≠ 4) : dmaB rs = false := by unfold dmaB; simp [h]
theorem dmaB_yes {rs : List TChannel} (h : rs.length = 4) : dmaB rs = rs.all chB := by unfold dmaB; simp [h]
theorem dmaB_at {rs : List TChannel} (h : dmaB rs = true) (i : Nat) (hi : i < 4) : chB (rs.getD i zChannel) = true := by
  obtain ⟨hl, ha⟩ := dmaB_len h
  rw [List.getD_eq_getElem?_getD, List.getElem?_eq_getElem (by omega)]
  exact List.all_eq_true.1 ha _ (List.getElem_mem _)
/-- The code of a list and a number; of a channel too. -/
def chanC (rs : List TChannel) (i : Int) : Int := if 4096 < rs.length then 2 else if dmaB rs = true then (if chanB i = true then 0 else 4) else 1
def setCode (rs : List TChannel) (i : Int) (c : TChannel) : Int := if 4096 < rs.length then 2 else if dmaB rs = true then (if (chanB i && chB c) = true then 0 else 4) else 1
def setRs (rs : List TChannel) (i : Int) (c : TChannel) : List TChannel := if setCode rs i c = 0 then rs.set i.toNat c else []
theorem setCode0 {rs : List TChannel} {i : Int} {c : TChannel} (h : setCode rs i c = 0) : dmaB rs = true ∧ chanB i = true ∧ chB c = true := by
  unfold setCode at h
  by_cases h1 : 4096 < rs.length
  · rw [if_pos h1] at h; omega
  · rw [if_neg h1] at h
    by_cases h2 : dmaB rs = true
    · rw [if_pos h2] at h
      by_cases h3 : (chanB i && chB c) = true
      · rw [Bool.and_eq_true] at h3; exact ⟨h2, h3⟩
      · rw [if_neg h3] at h; omega
    · rw [if_neg h2] at h; omega
theorem setCode_ge (rs : List TChannel) (i : Int) (c : TChannel) : 0 ≤ setCode rs i c := by unfold setCode; split <;> (try split) <;> (try split) <;> omega
theorem setRs_len (rs : List TChannel) (i : Int) (c : TChannel) : (setRs rs i c).length ≤ rs.length := by unfold setRs; split <;> simp
theorem set_getD (rs : List TChannel) (i : Nat) (h : i < rs.length) : rs.set i (rs.getD i zChannel) = rs := by
  rw [List.getD_eq_getElem?_getD, List.getElem?_eq_getElem h]
  exact List.set_getElem_self h
end Go.Proofs.Ytngoijchebfolaa

/- Channels that are valid, on both sides; the checks. Written by gen_dmaok.py. -/
namespace Go.Proofs.Ytngoijchebfolaa
open Go.RowKit

set_option maxRecDepth 100000 in
theorem l01InN (n a b : Int) (w : World) : Calls Try.prog 51 #[.int .i64 n, .int .i64 a, .int .i64 b] w fun e w' => e = .returned (.bool (decide (a ≤ n ∧ n ≤ b))) ∧ w = w' := by
  go_enter Try.func51, Try.ntmps51
  go_wp2
  all_goals go_ret
  all_goals (refine ⟨ret_bool ?_, rfl⟩)
  all_goals (rw [Bool.eq_iff_iff]; simp; try omega)
set_option maxRecDepth 100000 in
theorem isChannelB (n : Int) (w : World) : Calls Try.prog 80 #[.int .i64 n] w fun e w' => e = .returned (.bool (chanB n)) ∧ w = w' := by
  go_enter Try.func80, Try.ntmps80
  go_wp2
  all_goals go_ret
  all_goals (refine ⟨ret_bool ?_, rfl⟩)
  all_goals (unfold chanB; rw [Bool.eq_iff_iff]; simp; try omega)
set_option maxRecDepth 100000 in
theorem l05At9 (n : Int) (w : World) : Calls Try.prog 97 #[.int .i64 n] w fun e w' => e = .returned (.bool (adC n)) ∧ w = w' := by
  go_enter Try.func97, Try.ntmps97
  go_wp2_with (first | (go_at_call 51; refine (l01InN _ _ _ _).mono ?_; rintro e w' ⟨rfl, rfl⟩))
  all_goals go_ret
  all_goals (refine ⟨ret_bool ?_, rfl⟩)
  all_goals (unfold adC; rw [Bool.eq_iff_iff]; simp; try omega)
set_option maxRecDepth 100000 in
theorem isAddress9 (n : Int) (w : World) : Calls Try.prog 81 #[.int .i64 n] w fun e w' => e = .returned (.bool (adC n)) ∧ w = w' := by
  go_enter Try.func81, Try.ntmps81
  go_wp2
  all_goals go_ret
  all_goals (refine ⟨ret_bool ?_, rfl⟩)
  all_goals (unfold adC; rw [Bool.eq_iff_iff]; simp; try omega)
set_option maxRecDepth 100000 in
theorem isByte9 (n : Int) (w : World) : Calls Try.prog 82 #[.int .i64 n] w fun e w' => e = .returned (.bool (byC n)) ∧ w = w' := by
  go_enter Try.func82, Try.ntmps82
  go_wp2
  all_goals go_ret
  all_goals (refine ⟨ret_bool ?_, rfl⟩)
  all_goals (unfold byC; rw [Bool.eq_iff_iff]; simp; try omega)
set_option maxRecDepth 100000 in
theorem upTo9 (n : Int) (w : World) : Calls Try.prog 83 #[.int .i64 n, .int .i64 1] w fun e w' => e = .returned (.bool (upB n)) ∧ w = w' := by
  go_enter Try.func83, Try.ntmps83
  go_wp2
  all_goals go_ret
  all_goals (refine ⟨ret_bool ?_, rfl⟩)
  all_goals (unfold upB; rw [Bool.eq_iff_iff]; simp; try omega)

set_option maxRecDepth 100000 in
set_option maxHeartbeats 2000000 in
theorem l09Channel (x1 x2 x3 x4 : Int) (w : World) : Calls Try.prog 75 #[.agg #[.int .i64 x1, .int .i64 x2, .int .i64 x3, .int .i64 x4]] w fun e w' => e = .returned (.bool (chB (x1, x2, x3, x4))) ∧ Below w.heap.size w w' := by
  have hb0 := alloc_below w (.cells #[.int .i64 x1, .int .i64 x2, .int .i64 x3, .int .i64 x4] 36)
  obtain ⟨r, hr⟩ : ∃ r, chB (x1, x2, x3, x4) = r := ⟨_, rfl⟩
  rw [hr]
  unfold chB at hr
  simp only at hr
  by_cases h0 : adC x1 = true
  · skip
    by_cases h1 : adC x2 = true
    · skip
      by_cases h2 : byC x3 = true
      · skip
        by_cases h3 : upB x4 = true
        · skip
          have HR : Hid (r = true) := Lib.hid (by rw [← hr]; simp [h0, h1, h2, h3])
          clear hr
          have h2 : decide (0 ≤ x3 ∧ x3 ≤ 255) = true := h2
          have h3 : decide (0 ≤ x4 ∧ x4 ≤ 1) = true := h3
          go_enter Try.func75, Try.ntmps75
          go_wp2_with (first | (go_at_call 97; refine (l05At9 _ _).mono ?_; rintro e w' ⟨rfl, rfl⟩; (first | rw [h0] | rw [h1] | rw [h2] | rw [h3])) | (go_at_call 51; refine (l01InN _ _ _ _).mono ?_; rintro e w' ⟨rfl, rfl⟩; (first | rw [h0] | rw [h1] | rw [h2] | rw [h3])))
          go_ret
          exact ⟨ret_bool HR.out.symm, hb0⟩
        · have h3 : upB x4 = false := by simpa using h3
          have HR : Hid (r = false) := Lib.hid (by rw [← hr]; simp [h0, h1, h2, h3])
          clear hr
          have h2 : decide (0 ≤ x3 ∧ x3 ≤ 255) = true := h2
          have h3 : decide (0 ≤ x4 ∧ x4 ≤ 1) = false := h3
          go_enter Try.func75, Try.ntmps75
          go_wp2_with (first | (go_at_call 97; refine (l05At9 _ _).mono ?_; rintro e w' ⟨rfl, rfl⟩; (first | rw [h0] | rw [h1] | rw [h2] | rw [h3])) | (go_at_call 51; refine (l01InN _ _ _ _).mono ?_; rintro e w' ⟨rfl, rfl⟩; (first | rw [h0] | rw [h1] | rw [h2] | rw [h3])))
          go_ret
          exact ⟨ret_bool HR.out.symm, hb0⟩
      · have h2 : byC x3 = false := by simpa using h2
        have HR : Hid (r = false) := Lib.hid (by rw [← hr]; simp [h0, h1, h2])
        clear hr
        have h2 : decide (0 ≤ x3 ∧ x3 ≤ 255) = false := h2
        go_enter Try.func75, Try.ntmps75
        go_wp2_with (first | (go_at_call 97; refine (l05At9 _ _).mono ?_; rintro e w' ⟨rfl, rfl⟩; (first | rw [h0] | rw [h1] | rw [h2])) | (go_at_call 51; refine (l01InN _ _ _ _).mono ?_; rintro e w' ⟨rfl, rfl⟩; (first | rw [h0] | rw [h1] | rw [h2])))
        go_ret
        exact ⟨ret_bool HR.out.symm, hb0⟩
    · have h1 : adC x2 = false := by simpa using h1
      have HR : Hid (r = false) := Lib.hid (by rw [← hr]; simp [h0, h1])
      clear hr
      go_enter Try.func75, Try.ntmps75
      go_wp2_with (first | (go_at_call 97; refine (l05At9 _ _).mono ?_; rintro e w' ⟨rfl, rfl⟩; (first | rw [h0] | rw [h1])) | (go_at_call 51; refine (l01InN _ _ _ _).mono ?_; rintro e w' ⟨rfl, rfl⟩; (first | rw [h0] | rw [h1])))
      go_ret
      exact ⟨ret_bool HR.out.symm, hb0⟩
  · have h0 : adC x1 = false := by simpa using h0
    have HR : Hid (r = false) := Lib.hid (by rw [← hr]; simp [h0])
    clear hr
    go_enter Try.func75, Try.ntmps75
    go_wp2_with (first | (go_at_call 97; refine (l05At9 _ _).mono ?_; rintro e w' ⟨rfl, rfl⟩; (first | rw [h0])) | (go_at_call 51; refine (l01InN _ _ _ _).mono ?_; rintro e w' ⟨rfl, rfl⟩; (first | rw [h0])))
    go_ret
    exact ⟨ret_bool HR.out.symm, hb0⟩

set_option maxRecDepth 100000 in
set_option maxHeartbeats 2000000 in
theorem channelValid (x1 x2 x3 x4 : Int) (w : World) : Calls Try.prog 42 #[.agg #[.int .i64 x1, .int .i64 x2, .int .i64 x3, .int .i64 x4]] w fun e w' => e = .returned (.bool (chB (x1, x2, x3, x4))) ∧ Below w.heap.size w w' := by
  have hb0 := alloc_below w (.cells #[.int .i64 x1, .int .i64 x2, .int .i64 x3, .int .i64 x4] 36)
  obtain ⟨r, hr⟩ : ∃ r, chB (x1, x2, x3, x4) = r := ⟨_, rfl⟩
  rw [hr]
  unfold chB at hr
  simp only at hr
  by_cases h0 : adC x1 = true
  · skip
    by_cases h1 : adC x2 = true
    · skip
      by_cases h2 : byC x3 = true
      · skip
        by_cases h3 : upB x4 = true
        · skip
          have HR : Hid (r = true) := Lib.hid (by rw [← hr]; simp [h0, h1, h2, h3])
          clear hr
          go_enter Try.func42, Try.ntmps42
          go_wp2_with (first | (go_at_call 81; refine (isAddress9 _ _).mono ?_; rintro e w' ⟨rfl, rfl⟩; (first | rw [h0] | rw [h1] | rw [h2] | rw [h3])) | (go_at_call 82; refine (isByte9 _ _).mono ?_; rintro e w' ⟨rfl, rfl⟩; (first | rw [h0] | rw [h1] | rw [h2] | rw [h3])) | (go_at_call 83; refine (upTo9 _ _).mono ?_; rintro e w' ⟨rfl, rfl⟩; (first | rw [h0] | rw [h1] | rw [h2] | rw [h3])))
          go_ret
          exact ⟨ret_bool HR.out.symm, hb0⟩
        · have h3 : upB x4 = false := by simpa using h3
          have HR : Hid (r = false) := Lib.hid (by rw [← hr]; simp [h0, h1, h2, h3])
          clear hr
          go_enter Try.func42, Try.ntmps42
          go_wp2_with (first | (go_at_call 81; refine (isAddress9 _ _).mono ?_; rintro e w' ⟨rfl, rfl⟩; (first | rw [h0] | rw [h1] | rw [h2] | rw [h3])) | (go_at_call 82; refine (isByte9 _ _).mono ?_; rintro e w' ⟨rfl, rfl⟩; (first | rw [h0] | rw [h1] | rw [h2] | rw [h3])) | (go_at_call 83; refine (upTo9 _ _).mono ?_; rintro e w' ⟨rfl, rfl⟩; (first | rw [h0] | rw [h1] | rw [h2] | rw [h3])))
          go_ret
          exact ⟨ret_bool HR.out.symm, hb0⟩
      · have h2 : byC x3 = false := by simpa using h2
        have HR : Hid (r = false) := Lib.hid (by rw [← hr]; simp [h0, h1, h2])
        clear hr
        go_enter Try.func42, Try.ntmps42
        go_wp2_with (first | (go_at_call 81; refine (isAddress9 _ _).mono ?_; rintro e w' ⟨rfl, rfl⟩; (first | rw [h0] | rw [h1] | rw [h2])) | (go_at_call 82; refine (isByte9 _ _).mono ?_; rintro e w' ⟨rfl, rfl⟩; (first | rw [h0] | rw [h1] | rw [h2])) | (go_at_call 83; refine (upTo9 _ _).mono ?_; rintro e w' ⟨rfl, rfl⟩; (first | rw [h0] | rw [h1] | rw [h2])))
        go_ret
        exact ⟨ret_bool HR.out.symm, hb0⟩
    · have h1 : adC x2 = false := by simpa using h1
      have HR : Hid (r = false) := Lib.hid (by rw [← hr]; simp [h0, h1])
      clear hr
      go_enter Try.func42, Try.ntmps42
      go_wp2_with (first | (go_at_call 81; refine (isAddress9 _ _).mono ?_; rintro e w' ⟨rfl, rfl⟩; (first | rw [h0] | rw [h1])) | (go_at_call 82; refine (isByte9 _ _).mono ?_; rintro e w' ⟨rfl, rfl⟩; (first | rw [h0] | rw [h1])) | (go_at_call 83; refine (upTo9 _ _).mono ?_; rintro e w' ⟨rfl, rfl⟩; (first | rw [h0] | rw [h1])))
      go_ret
      exact ⟨ret_bool HR.out.symm, hb0⟩
  · have h0 : adC x1 = false := by simpa using h0
    have HR : Hid (r = false) := Lib.hid (by rw [← hr]; simp [h0])
    clear hr
    go_enter Try.func42, Try.ntmps42
    go_wp2_with (first | (go_at_call 81; refine (isAddress9 _ _).mono ?_; rintro e w' ⟨rfl, rfl⟩; (first | rw [h0])) | (go_at_call 82; refine (isByte9 _ _).mono ?_; rintro e w' ⟨rfl, rfl⟩; (first | rw [h0])) | (go_at_call 83; refine (upTo9 _ _).mono ?_; rintro e w' ⟨rfl, rfl⟩; (first | rw [h0])))
    go_ret
    exact ⟨ret_bool HR.out.symm, hb0⟩

set_option maxRecDepth 100000 in
set_option maxHeartbeats 2000000 in
theorem specDmaOK (A : Option Addr) (n c : Nat) (rs : List TChannel) (w : World) (hl : rs.length = n) (hn : n ≤ maxLen) (h : RowChannel w A rs) :
    Calls Try.prog 31 #[.slice A n c] w fun e w' => e = .returned (.bool (dmaB rs)) ∧ Below w.heap.size w w' := by
  unfold maxLen at hn
  have HL := Lib.hid hl
  have H := Lib.hid h
  clear hl h
  by_cases hm : 4096 < n
  · have hq : (4096 : Int) < (n : Int) := by omega
    have HF : Hid (dmaB rs = false) := Lib.hid (dmaB_no (by rw [HL.out]; omega))
    clear hm
    go_enter Try.func31, Try.ntmps31
    go_wp2
    go_ret
    exact ⟨ret_bool HF.out.symm, Below.refl _ _⟩
  · have hq : ¬ (4096 : Int) < (n : Int) := by omega
    clear hm
    go_enter Try.func31, Try.ntmps31
    go_wp2
    go_loopw [3] (fun i wr => ∃ k : Nat, k ≤ n ∧ i = .int .i64 k ∧ Hid (rs.all chB = (rs.drop k).all chB) ∧ Below w.heap.size w wr) (fun i _ => n - (intOf i).toNat)
    case atStart => exact ⟨0, Nat.zero_le _, rfl, Lib.hid rfl, Below.refl _ _⟩
    case round =>
      obtain ⟨k, hk, rfl, HT, hbw⟩ := hrel
      by_cases hlt : k < n
      · obtain ⟨b, off, rfl, c0, c1, c2, c3⟩ := (H.out.below hbw).at k (by rw [HL.out]; exact hlt)
        have HS := Lib.hid (all_step chB rs zChannel k (by rw [HL.out]; exact hlt))
        generalize rs.getD k zChannel = x at c0 c1 c2 c3 HS
        obtain ⟨x1, x2, x3, x4⟩ := x
        have hi : (k : Int) < (n : Int) := by omega
        have HC := Lib.hid (l09Channel x1 x2 x3 x4)
        by_cases hE : chB (x1, x2, x3, x4) = true
        · rw [hE] at HC
          go_wp2_with fail
          refine (HC.out _).mono ?_
          rintro e w1 ⟨rfl, hb1⟩
          clear c0 c1 c2 c3
          go_wp2
          go_roundw
          case rel => exact ⟨k + 1, by omega, by go_num, Lib.hid (by rw [HT.out, HS.out, hE]; rfl), bt hbw hb1⟩
          case measure => simp [intOf]; omega
        · have hE' : chB (x1, x2, x3, x4) = false := by simpa using hE
          rw [hE'] at HC
          clear hE
          go_wp2_with fail
          refine (HC.out _).mono ?_
          rintro e w1 ⟨rfl, hb1⟩
          clear c0 c1 c2 c3
          go_wp2
          go_ret
          exact ⟨ret_bool (by unfold dmaB; rw [HT.out, HS.out, hE']; simp), bt hbw hb1⟩
      · have HT2 : Hid (rs.all chB = true) := Lib.hid (by rw [HT.out]; exact all_end _ _ _ (by rw [HL.out]; omega))
        have HD : Hid (dmaB rs = ((n : Int) == 4)) := Lib.hid (by unfold dmaB; rw [HT2.out, HL.out, Bool.eq_iff_iff]; simp; omega)
        clear HT HT2
        go_wp2
        go_ret
        exact ⟨ret_bool HD.out.symm, hbw⟩
set_option maxRecDepth 100000 in
set_option maxHeartbeats 2000000 in
theorem allChannels (A : Option Addr) (n c : Nat) (rs : List TChannel) (w : World) (hl : rs.length = n) (hn : n ≤ maxLen) (h : RowChannel w A rs) :
    Calls Try.prog 48 #[.slice A n c] w fun e w' => e = .returned (.bool (dmaB rs)) ∧ Below w.heap.size w w' := by
  unfold maxLen at hn
  by_cases hm : n = 4
  · subst hm
    have HL := Lib.hid hl
    have H := Lib.hid h
    have HY := Lib.hid (dmaB_yes hl)
    clear hl h
    generalize dmaB rs = r at HY
    go_enter Try.func48, Try.ntmps48
    go_wp2
    go_loopw [7] (fun i wr => ∃ k : Nat, k ≤ 4 ∧ i = .int .i64 k ∧ Hid (rs.all chB = (rs.drop k).all chB) ∧ Below w.heap.size w wr) (fun i _ => 4 - (intOf i).toNat)
    case atStart => exact ⟨0, Nat.zero_le _, rfl, Lib.hid rfl, Below.refl _ _⟩
    case round =>
      obtain ⟨k, hk, rfl, HT, hbw⟩ := hrel
      by_cases hlt : k < 4
      · obtain ⟨b, off, rfl, c0, c1, c2, c3⟩ := (H.out.below hbw).at k (by rw [HL.out]; exact hlt)
        have HS := Lib.hid (all_step chB rs zChannel k (by rw [HL.out]; exact hlt))
        generalize rs.getD k zChannel = x at c0 c1 c2 c3 HS
        obtain ⟨x1, x2, x3, x4⟩ := x
        have hi : (k : Int) < 4 := by omega
        have HC := Lib.hid (channelValid x1 x2 x3 x4)
        by_cases hE : chB (x1, x2, x3, x4) = true
        · rw [hE] at HC
          go_wp2_with fail
          refine (HC.out _).mono ?_
          rintro e w1 ⟨rfl, hb1⟩
          clear c0 c1 c2 c3
          go_wp2
          go_roundw
          case rel => exact ⟨k + 1, by omega, by go_num, Lib.hid (by rw [HT.out, HS.out, hE]; rfl), bt hbw hb1⟩
          case measure => simp [intOf]; omega
        · have hE' : chB (x1, x2, x3, x4) = false := by simpa using hE
          rw [hE'] at HC
          clear hE
          go_wp2_with fail
          refine (HC.out _).mono ?_
          rintro e w1 ⟨rfl, hb1⟩
          clear c0 c1 c2 c3
          go_wp2
          go_ret
          exact ⟨ret_bool (by rw [HY.out, HT.out, HS.out, hE']; simp), bt hbw hb1⟩
      · have HT2 : Hid (r = true) := Lib.hid (by rw [HY.out, HT.out]; exact all_end _ _ _ (by rw [HL.out]; omega))
        have hi : ¬ (k : Int) < 4 := by omega
        clear HT
        go_wp2
        go_ret
        exact ⟨ret_bool HT2.out.symm, hbw⟩
  · have hq : ((n : Int) != 4) = true := by simp; omega
    have HF : Hid (dmaB rs = false) := Lib.hid (dmaB_no (by omega))
    clear hm hl h
    go_enter Try.func48, Try.ntmps48
    go_wp2
    go_ret
    exact ⟨ret_bool HF.out.symm, Below.refl _ _⟩
set_option maxRecDepth 100000 in
theorem implDmaOK (A : Option Addr) (n c : Nat) (rs : List TChannel) (w : World) (hl : rs.length = n) (hn : n ≤ maxLen) (h : RowChannel w A rs) :
    Calls Try.prog 14 #[.slice A n c] w fun e w' => e = .returned (.bool (dmaB rs)) ∧ Below w.heap.size w w' := by
  have H := Lib.hid (allChannels A n c rs w hl hn h)
  clear hl hn h
  go_enter Try.func14, Try.ntmps14
  go_wp2_with fail
  refine H.out.mono ?_
  rintro e w1 ⟨rfl, hb⟩
  go_wp2
  go_ret
  exact ⟨rfl, hb⟩
set_option maxRecDepth 100000 in
theorem checkChannel (A : Option Addr) (n c : Nat) (rs : List TChannel) (i : Int) (w : World) (hl : rs.length = n) (hn : n ≤ maxLen) (h : RowChannel w A rs) :
    Calls Try.prog 41 #[.slice A n c, .int .i64 i] w fun e w' => e = .returned (.int .i64 (chanC rs i)) ∧ Below w.heap.size w w' := by
  have H := Lib.hid (allChannels A n c rs w hl hn h)
  have HR : Hid (chanC rs i = if 4096 < rs.length then 2 else if dmaB rs = true then (if chanB i = true then 0 else 4) else 1) := Lib.hid rfl
  rw [hl] at HR
  unfold maxLen at hn
  clear hl h
  generalize chanC rs i = r at HR
  by_cases hm : 4096 < n
  · have hq : (4096 : Int) < (n : Int) := by omega
    have HF : Hid (r = 2) := Lib.hid (by rw [HR.out, if_pos hm])
    clear hm HR H
    go_enter Try.func41, Try.ntmps41
    go_wp2
    go_ret
    exact ⟨ret_int HF.out.symm, Below.refl _ _⟩
  · have hq : ¬ (4096 : Int) < (n : Int) := by omega
    by_cases h1 : dmaB rs = true
    · have HF : Hid (r = if chanB i = true then 0 else 4) := Lib.hid (by rw [HR.out, if_neg hm, if_pos h1])
      rw [h1] at H
      clear hm HR h1
      have HC := Lib.hid (isChannelB i)
      cases h2 : chanB i with
      | true =>
        rw [h2] at HF HC
        go_enter Try.func41, Try.ntmps41
        go_wp2_with fail
        refine H.out.mono ?_
        rintro e w1 ⟨rfl, hb⟩
        go_wp2_with fail
        refine (HC.out _).mono ?_
        rintro e w2 ⟨rfl, rfl⟩
        go_wp2
        go_ret
        exact ⟨ret_int HF.out.symm, hb⟩
      | false =>
        rw [h2] at HF HC
        go_enter Try.func41, Try.ntmps41
        go_wp2_with fail
        refine H.out.mono ?_
        rintro e w1 ⟨rfl, hb⟩
        go_wp2_with fail
        refine (HC.out _).mono ?_
        rintro e w2 ⟨rfl, rfl⟩
        go_wp2
        go_ret
        exact ⟨ret_int HF.out.symm, hb⟩
    · have h1' : dmaB rs = false := by simpa using h1
      have HF : Hid (r = 1) := Lib.hid (by rw [HR.out, if_neg hm, if_neg h1])
      rw [h1'] at H
      clear hm HR h1 h1'
      go_enter Try.func41, Try.ntmps41
      go_wp2_with fail
      refine H.out.mono ?_
      rintro e w1 ⟨rfl, hb⟩
      go_wp2
      go_ret
      exact ⟨ret_int HF.out.symm, hb⟩
section
variable (A0 : Option Addr) (c0 : Nat) (d0 : List TChannel) (w : World)
theorem rowsOf {w : World} {A : Option Addr} {c : Nat} {rs : List TChannel} (h : RepA w [.slice A rs.length c] [rChannel rs]) : RowChannel w A rs := (rep_rChannel.1 h.1).2
theorem rowsLen {rs : List TChannel} (z : szA [rChannel rs] ≤ 1048576) : rs.length ≤ maxLen := by
  simp only [szA, sz_rChannel] at z
  unfold maxLen; omega
set_option maxRecDepth 100000 in
theorem specDmaOKA (h : RepA w [.slice A0 d0.length c0] [rChannel d0]) (_c : CapA [.slice A0 d0.length c0]) (z : szA [rChannel d0] ≤ 1048576) :
    Calls Try.prog 31 #[.slice A0 d0.length c0] w fun e w' => e = .returned (.bool (dmaB d0)) ∧ Below w.heap.size w w' := specDmaOK A0 _ c0 d0 w rfl (rowsLen z) (rowsOf h)
set_option maxRecDepth 100000 in
theorem implDmaOKA (h : RepA w [.slice A0 d0.length c0] [rChannel d0]) (_c : CapA [.slice A0 d0.length c0]) (z : szA [rChannel d0] ≤ 1048576) :
    Calls Try.prog 14 #[.slice A0 d0.length c0] w fun e w' => e = .returned (.bool (dmaB d0)) ∧ Below w.heap.size w w' := implDmaOK A0 _ c0 d0 w rfl (rowsLen z) (rowsOf h)
end
end Go.Proofs.Ytngoijchebfolaa

/- Rows of structs of k cells: laid flat, fresh behind an append, an element written anew. Nothing here walks. -/
namespace Go.Proofs.Ytngoijchebfolaa
open Go.RowKit

theorem flat_len {k : Nat} : ∀ (rows : List (List Value)), (∀ r ∈ rows, r.length = k) → rows.flatten.length = rows.length * k
  | [], _ => by simp
  | r :: rows, h => by
    rw [List.flatten_cons, List.length_append, flat_len rows (fun x hx => h x (by simp [hx])), h r (by simp), List.length_cons, Nat.succ_mul]
    omega
theorem flat_at {k : Nat} : ∀ (rows : List (List Value)), (∀ r ∈ rows, r.length = k) → ∀ i, i < rows.length → ∀ j, j < k → rows.flatten[i * k + j]? = some ((rows.getD i []).getD j undef)
  | [], _, i, hi, _, _ => by simp at hi
  | r :: rows, h, 0, _, j, hj => by
    have hr : r.length = k := h r (by simp)
    rw [List.flatten_cons, Nat.zero_mul, Nat.zero_add, List.getElem?_append_left (by omega)]
    simp [List.getD_eq_getElem?_getD, List.getElem?_eq_getElem (show j < r.length by omega)]
  | r :: rows, h, i + 1, hi, j, hj => by
    have hr : r.length = k := h r (by simp)
    have ih := flat_at rows (fun x hx => h x (by simp [hx])) i (by simpa using hi) j hj
    rw [List.flatten_cons, List.getElem?_append_right (by rw [hr, Nat.succ_mul]; omega), hr, show (i + 1) * k + j - k = i * k + j by rw [Nat.succ_mul]; omega, ih]
    rfl
theorem RowL.src {w : World} {A : Option Addr} {k : Nat} {rows : List (List Value)} (h : RowL w A k rows) (hk : ∀ r ∈ rows, r.length = k) (hn : 0 < rows.length) (k0 : 0 < k) : ∃ ad, A = some ad ∧ ∀ j u, rows.flatten[j]? = some u → w.cell? (ad.add j) = some u := by
  obtain ⟨b, off, e, _⟩ := h 0 hn 0 k0
  refine ⟨_, e, fun j u hj => ?_⟩
  have hj' : j < rows.length * k := by
    have := (List.getElem?_eq_some_iff.1 hj).1
    rwa [flat_len rows hk] at this
  have hd : j / k < rows.length := (Nat.div_lt_iff_lt_mul k0).2 hj'
  have hm : j % k < k := Nat.mod_lt _ k0
  have hs : j / k * k + j % k = j := by rw [Nat.mul_comm]; exact Nat.div_add_mod j k
  obtain ⟨b', off', e', hc⟩ := h (j / k) hd (j % k) hm
  have hf := flat_at rows hk (j / k) hd (j % k) hm
  rw [hs, hj] at hf
  rw [e] at e'
  injection e' with e'
  injection e' with e1 e2 _
  subst e1 e2
  rw [addr_add, Nat.add_assoc, hs] at *
  rw [hc]
  exact hf.symm
theorem ownR_fresh {w' : World} {T : TypeId} {A : Option Addr} {n cap k lo base : Nat} {rows : List (List Value)} (h : w'.ownsRow base T k (.slice A n cap) n rows.flatten) (hk : ∀ r ∈ rows, r.length = k) (hl : rows.length = n) (hlo : lo ≤ base) : OwnR w' lo w'.heap.size T A k rows := by
  obtain ⟨_, h0 | ⟨g, cap', cur, e, hb, hg, hnc, _, hsz, htk⟩⟩ := h
  · exact .inl (List.eq_nil_of_length_eq_zero (by omega))
  · injection e with e _ _
    subst e
    have hcap : n * k ≤ cap' * k := Nat.mul_le_mul_right k hnc
    refine .inr ⟨g, cap' * k, fun i => cur.toList.getD i undef, rfl, by omega, ?_, by rw [hl]; exact hcap, ⟨cur, hg, hsz, fun i hi => ?_⟩, fun i hi j hj => ?_⟩
    · rcases Nat.lt_or_ge g w'.heap.size with q | q
      · exact q
      · rw [Array.getElem?_eq_none q] at hg; cases hg
    · have : i < cur.toList.length := by simp [hsz, hi]
      show cur[i]? = some (cur.toList.getD i undef)
      rw [List.getD_eq_getElem?_getD, List.getElem?_eq_getElem this, ← Array.getElem?_toList, List.getElem?_eq_getElem this]
      rfl
    · have hp := row_place hi hj (Nat.le_refl _)
      have h1 : (cur.toList.take (n * k))[i * k + j]? = rows.flatten[i * k + j]? := by rw [htk]
      rw [List.getElem?_take, if_pos (by rw [← hl]; exact hp), flat_at rows hk i hi j hj] at h1
      show cur.toList.getD (i * k + j) undef = _
      rw [List.getD_eq_getElem?_getD, h1]
      rfl
/-- One element is written anew; the others are as they were. -/
theorem OwnR.anew {w' : World} {lo hi b m i k : Nat} {T : TypeId} {f f' : Nat → Value} {rows : List (List Value)} {new : List Value} (h1 : lo ≤ b) (h2 : b < hi) (hm : rows.length * k ≤ m) (hf : ∀ x, x < rows.length → ∀ j, j < k → f (x * k + j) = (rows.getD x []).getD j undef)
    (hr : w'.rowIs b T m f') (hout : ∀ x, x < i * k ∨ i * k + k ≤ x → f' x = f x) (hin : ∀ j, j < k → f' (i * k + j) = new.getD j undef) : OwnR w' lo hi T (some ⟨b, 0, none⟩) k (rows.set i new) :=
  .inr ⟨b, m, f', rfl, h1, h2, by simpa using hm, hr, fun x hx j hj => by
    have hx' : x < rows.length := by simpa using hx
    by_cases e : x = i
    · subst e
      have hs : (rows.set x new).getD x [] = new := by rw [List.getD_eq_getElem?_getD, List.getElem?_set_self hx']; rfl
      rw [hin j hj, hs]
    · have hs : (rows.set i new).getD x [] = rows.getD x [] := by rw [List.getD_eq_getElem?_getD, List.getElem?_set_ne (fun q => e q.symm), List.getD_eq_getElem?_getD]
      rw [hs, ← hf x hx' j hj]
      refine hout _ ?_
      rcases Nat.lt_or_gt_of_ne e with q | q
      · left
        have a1 : (x + 1) * k ≤ i * k := Nat.mul_le_mul_right k q
        rw [Nat.succ_mul] at a1
        omega
      · right
        have a1 : (i + 1) * k ≤ x * k := Nat.mul_le_mul_right k q
        rw [Nat.succ_mul] at a1
        omega⟩
theorem rowCh_len (rs : List TChannel) : ∀ r ∈ rs.map rowChannel, r.length = 4 := fun r hr => by
  obtain ⟨x, _, rfl⟩ := List.mem_map.1 hr
  rfl
/-- The cells of channels. -/
def cellsCh (rs : List TChannel) : List Value := (rs.map rowChannel).flatten
theorem cellsCh_len (rs : List TChannel) : (cellsCh rs).length = rs.length * 4 := by
  unfold cellsCh
  rw [flat_len _ (rowCh_len rs), List.length_map]
theorem cellsCh_one (rs : List TChannel) : ∀ v ∈ cellsCh rs, v.oneCell' = true := fun v hv => by
  unfold cellsCh at hv
  obtain ⟨r, hr, hv⟩ := List.mem_flatten.1 hv
  obtain ⟨x, _, rfl⟩ := List.mem_map.1 hr
  simp [rowChannel] at hv
  rcases hv with rfl | rfl | rfl | rfl <;> rfl
theorem RowChannel.src {w : World} {A : Option Addr} {rs : List TChannel} (h : RowChannel w A rs) (hn : 0 < rs.length) : ∃ ad, A = some ad ∧ ∀ j u, (cellsCh rs)[j]? = some u → w.cell? (ad.add j) = some u :=
  RowL.src h (rowCh_len rs) (by simpa using hn) (by decide)
theorem ownCh_fresh {w' : World} {A : Option Addr} {n cap lo base : Nat} {rs : List TChannel} (h : w'.ownsRow base 36 4 (.slice A n cap) n (cellsCh rs)) (hl : rs.length = n) (hlo : lo ≤ base) : OwnChannel w' lo w'.heap.size A rs :=
  ownR_fresh h (rowCh_len rs) (by simpa using hl) hlo
set_option maxRecDepth 100000 in
theorem infoCh : ∃ i : TypeInfo, Try.prog.info? 36 = some i ∧ i.zero = some (.agg #[.int .i64 0, .int .i64 0, .int .i64 0, .int .i64 0]) ∧ i.size = 4 ∧ i.bytes = 32 := by
  obtain ⟨i, hi, hzz⟩ := Option.map_eq_some_iff.1 infoChannel
  simp only [Prod.mk.injEq] at hzz
  exact ⟨i, hi, hzz.1, hzz.2.1, hzz.2.2⟩
/-- The place of a channel, its cells, and what a store there leaves. -/
theorem OwnChannel.put {w : World} {lo hi : Nat} {A : Option Addr} {rs : List TChannel} (h : OwnChannel w lo hi A rs) (i : Nat) (hi' : i < rs.length) :
    ∃ b m f, A = some ⟨b, 0, none⟩ ∧ (w.cell? ⟨b, i * 4, none⟩ = some (.int .i64 (rs.getD i zChannel).1) ∧ w.cell? ⟨b, i * 4 + 1, none⟩ = some (.int .i64 (rs.getD i zChannel).2.1) ∧ w.cell? ⟨b, i * 4 + 2, none⟩ = some (.int .i64 (rs.getD i zChannel).2.2.1) ∧ w.cell? ⟨b, i * 4 + 3, none⟩ = some (.int .i64 (rs.getD i zChannel).2.2.2)) ∧
      (∀ x, w.frozen? ⟨b, x, none⟩ = false) ∧ lo ≤ b ∧ b < hi ∧ w.rowIs b 36 m f ∧ ∀ y : TChannel, OwnChannel ((((w.setCell ⟨b, i * 4, none⟩ (.int .i64 y.1)).setCell ⟨b, i * 4 + 1, none⟩ (.int .i64 y.2.1)).setCell ⟨b, i * 4 + 2, none⟩ (.int .i64 y.2.2.1)).setCell ⟨b, i * 4 + 3, none⟩ (.int .i64 y.2.2.2)) lo hi A (rs.set i y) := by
  rcases h with hnil | ⟨b, m, f, rfl, h1, h2, hm, hr, hf⟩
  · have hx := congrArg List.length hnil
    rw [List.length_map, List.length_nil] at hx
    omega
  · have hl : (rs.map rowChannel).length = rs.length := by simp
    have hp : i * 4 + 3 < m := by rw [hl] at hm; omega
    have hrow := rowChannel_at rs i hi'
    have g : ∀ j, j < 4 → f (i * 4 + j) = (rowChannel (rs.getD i zChannel)).getD j undef := fun j hj => by rw [hf i (by rw [hl]; exact hi') j hj, hrow]
    refine ⟨b, m, f, rfl, ⟨?_, ?_, ?_, ?_⟩, hr.frozen, h1, h2, hr, fun y => ?_⟩
    · rw [hr.cell (i := i * 4) (by omega)]; exact congrArg some (g 0 (by decide))
    · rw [hr.cell (i := i * 4 + 1) (by omega)]; exact congrArg some (g 1 (by decide))
    · rw [hr.cell (i := i * 4 + 2) (by omega)]; exact congrArg some (g 2 (by decide))
    · rw [hr.cell (i := i * 4 + 3) (by omega)]; exact congrArg some (g 3 (by decide))
    · have e : (rs.set i y).map rowChannel = (rs.map rowChannel).set i (rowChannel y) := by rw [List.map_set]
      unfold OwnChannel
      rw [e]
      refine OwnR.anew h1 h2 hm hf ((((hr.set (i * 4) (.int .i64 y.1)).set (i * 4 + 1) (.int .i64 y.2.1)).set (i * 4 + 2) (.int .i64 y.2.2.1)).set (i * 4 + 3) (.int .i64 y.2.2.2)) (fun x hx => ?_) (fun j hj => ?_)
      · show (if x = i * 4 + 3 then _ else if x = i * 4 + 2 then _ else if x = i * 4 + 1 then _ else if x = i * 4 then _ else f x) = f x
        rw [if_neg (by omega), if_neg (by omega), if_neg (by omega), if_neg (by omega)]
      · show (if i * 4 + j = i * 4 + 3 then _ else if i * 4 + j = i * 4 + 2 then _ else if i * 4 + j = i * 4 + 1 then _ else if i * 4 + j = i * 4 then _ else f (i * 4 + j)) = _
        have : j = 0 ∨ j = 1 ∨ j = 2 ∨ j = 3 := by omega
        rcases this with rfl | rfl | rfl | rfl
        · rw [if_neg (by omega), if_neg (by omega), if_neg (by omega), if_pos (by omega)]; rfl
        · rw [if_neg (by omega), if_neg (by omega), if_pos (by omega)]; rfl
        · rw [if_neg (by omega), if_pos (by omega)]; rfl
        · rw [if_pos (by omega)]; rfl
end Go.Proofs.Ytngoijchebfolaa

/- slices.Clone of four channels; NewDma and SetChannel on both sides. -/
namespace Go.Proofs.Ytngoijchebfolaa
open Go.RowKit

/-- Channels of the call's own. -/
def GivesRs (n : Nat) (rs : List TChannel) (w : World) (e : Ending) (w' : World) : Prop :=
  ∃ A c, e = .returned (.slice A n c) ∧ Hid (OwnChannel w' w.heap.size w'.heap.size A rs) ∧ Below w.heap.size w w'
def GivesRsCode (rs : List TChannel) (code : Int) (w : World) (e : Ending) (w' : World) : Prop :=
  ∃ A c, e = .returned (.tuple #[.slice A rs.length c, .int .i64 code]) ∧ Hid (OwnA w' w.heap.size w'.heap.size [.slice A rs.length c] [rChannel rs]) ∧ Below w.heap.size w w'

set_option maxRecDepth 100000 in
set_option maxHeartbeats 1000000 in
theorem cloneCh (A : Option Addr) (n c : Nat) (rs : List TChannel) (w : World) (hl : rs.length = n) (hn : 0 < n) (hn2 : n ≤ 4096) (h : RowChannel w A rs) :
    Calls Try.prog 43 #[.slice A n c] w (GivesRs n rs w) := by
  obtain ⟨ad, rfl, -⟩ := h.src (by omega)
  have HS := Lib.hid (fun W (hb : Below w.heap.size w W) => (h.below hb).src (by omega))
  have HC : Hid ((cellsCh rs).length = n * 4) := Lib.hid (by rw [cellsCh_len]; omega)
  have HL := Lib.hid hl
  have hba := alloc_below w (.cells #[] 36)
  have hnil : ∀ W : World, (binOp .eql 31 (.slice (some ad) n c) (.slice none 0 0)).run Try.prog W = .ok (.bool false) W := fun W => Lib.run_eql_slice_nil W _ _ (some ad) n c 0 0 Try.underlying31
  clear hl h
  go_enter Try.func43, Try.ntmps43
  go_wp2_with (first | (with_reducible refine wpList_app_fresh rfl (.tmp 5) (.tmp 6) 31 rfl 36 (.agg #[.int .i64 0, .int .i64 0, .int .i64 0, .int .i64 0]) 4 32 Try.underlying31 infoCh rfl (by decide) _ rfl (some ad) n c hn (cellsCh rs) rfl HC.out (HS.out _ hba) (by unfold maxLen; omega) (by omega) ?_))
  intro A1 c1 w1 hb1 O1
  have hk1 := hba.trans (hb1.mono (by omega))
  have S1 := Lib.hid (ownCh_fresh (lo := w.heap.size) O1.out HL.out (by omega))
  clear HS HC HL hba hb1 O1
  go_wp2
  go_ret
  exact ⟨_, _, rfl, S1, hk1⟩

theorem zCh4 : (List.replicate 4 zChannel).length = 4 := rfl
def newRs : List TChannel := [zChannel, zChannel, zChannel, zChannel]
theorem own_new (w : World) : OwnChannel (w.alloc (.cells (madeCells #[.int .i64 0, .int .i64 0, .int .i64 0, .int .i64 0] (4 * 4)) 36)) w.heap.size (w.heap.size + 1) (some ⟨w.heap.size, 0, none⟩) newRs := by
  refine own_fillChannel (rs := newRs) ((madeChannel w 4).congr (fun i hi => ?_)) (Nat.le_refl _) (by simp)
  have : i = 0 ∨ i = 1 ∨ i = 2 ∨ i = 3 ∨ i = 4 ∨ i = 5 ∨ i = 6 ∨ i = 7 ∨ i = 8 ∨ i = 9 ∨ i = 10 ∨ i = 11 ∨ i = 12 ∨ i = 13 ∨ i = 14 ∨ i = 15 := by omega
  rcases this with rfl | rfl | rfl | rfl | rfl | rfl | rfl | rfl | rfl | rfl | rfl | rfl | rfl | rfl | rfl | rfl <;> rfl
theorem giveNew (w : World) : ∃ A c, (Ending.returned (.slice (some ⟨w.heap.size, 0, none⟩) 4 4)) = .returned (.slice A newRs.length c) ∧ Hid (OwnA (w.alloc (.cells (madeCells #[.int .i64 0, .int .i64 0, .int .i64 0, .int .i64 0] (4 * 4)) 36)) w.heap.size (w.alloc (.cells (madeCells #[.int .i64 0, .int .i64 0, .int .i64 0, .int .i64 0] (4 * 4)) 36)).heap.size [.slice A newRs.length c] [rChannel newRs]) ∧ Below w.heap.size w (w.alloc (.cells (madeCells #[.int .i64 0, .int .i64 0, .int .i64 0, .int .i64 0] (4 * 4)) 36)) :=
  ⟨_, _, rfl, Lib.hid (OwnA.one (own_rChannel.2 ⟨rfl, by rw [show (w.alloc (.cells (madeCells #[.int .i64 0, .int .i64 0, .int .i64 0, .int .i64 0] (4 * 4)) 36)).heap.size = w.heap.size + 1 by simp]; exact own_new w⟩)), alloc_below _ _⟩
set_option maxRecDepth 100000 in
theorem specNewDmaA (w : World) : Calls Try.prog 34 #[] w fun e w' => ∃ A c, e = .returned (.slice A newRs.length c) ∧ Hid (OwnA w' w.heap.size w'.heap.size [.slice A newRs.length c] [rChannel newRs]) ∧ Below w.heap.size w w' := by
  have hmk := makeChannel 4 (by omega) w
  have hmk : (Instr.makeSlice 31 (.int .i64 4) (.int .i64 4)).run Try.prog w = .ok (.slice (some ⟨w.heap.size, 0, none⟩) 4 4) (w.alloc (.cells (madeCells #[.int .i64 0, .int .i64 0, .int .i64 0, .int .i64 0] (4 * 4)) 36)) := hmk
  have HG := Lib.hid (giveNew w)
  go_enter Try.func34, Try.ntmps34
  go_wp2
  go_ret
  exact HG.out
set_option maxRecDepth 100000 in
theorem implNewDmaA (w : World) : Calls Try.prog 12 #[] w fun e w' => ∃ A c, e = .returned (.slice A newRs.length c) ∧ Hid (OwnA w' w.heap.size w'.heap.size [.slice A newRs.length c] [rChannel newRs]) ∧ Below w.heap.size w w' := by
  have hmk := makeChannel 4 (by omega) w
  have hmk : (Instr.makeSlice 31 (.int .i64 4) (.int .i64 4)).run Try.prog w = .ok (.slice (some ⟨w.heap.size, 0, none⟩) 4 4) (w.alloc (.cells (madeCells #[.int .i64 0, .int .i64 0, .int .i64 0, .int .i64 0] (4 * 4)) 36)) := hmk
  have HG := Lib.hid (giveNew w)
  go_enter Try.func12, Try.ntmps12
  go_wp2
  go_ret
  exact HG.out
end Go.Proofs.Ytngoijchebfolaa
