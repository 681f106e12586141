/- The model's processor: its own registers, a register, pushing. Written by gen_cpuspec.py. -/
import Derived.Test.YtcchhbkbnbphhaaGreatDoorM7
import Derived.Test.YtcchhbkbnbphhaaGreatDoorBusSpec
import Derived.Test.YtcchhbkbnbphhaaGreatDoorMemOwn
namespace Go.Proofs.YtcchhbkbnbphhaaGreatDoor
open Go.RowKit

set_option maxRecDepth 100000 in
theorem infoCpu9 : (Tryz.prog.info? 25).map (·.size) = some 9 := by kernel_rfl
theorem one9 {a b c d : Int} {e f g h : Bool} {A : Option Addr} {n k : Nat} : (#[.int .i64 a, .int .i64 b, .int .i64 c, .int .i64 d, .bool e, .bool f, .bool g, .bool h, .slice A n k] : Array Value).all (·.oneCell') = true := by simp [Value.oneCell']
theorem one5 {A0 A1 A2 A3 : Option Addr} {n0 n1 n2 n3 k0 k1 k2 k3 : Nat} {s : Int} : (#[.slice A0 n0 k0, .slice A1 n1 k1, .slice A2 n2 k2, .slice A3 n3 k3, .int .i64 s] : Array Value).all (·.oneCell') = true := by simp [Value.oneCell']
set_option maxRecDepth 100000 in
theorem infoMem5 : (Tryz.prog.info? 31).map (·.size) = some 5 := by kernel_rfl
def ReadsM (m : MD) (w : World) (e : Ending) (w' : World) : Prop :=
  ∃ A0 A1 A2 A3 c0 c1 c2 c3, e = .returned (.agg #[.slice A0 256 c0, .slice A1 32 c1, .slice A2 256 c2, .slice A3 16 c3, .int .i64 m.s]) ∧ Hid (RepM w' A0 A1 A2 A3 m) ∧ Below w.heap.size w w'
set_option maxRecDepth 100000 in
theorem l05PutM (A0 A1 A2 A3 : Option Addr) (c0 c1 c2 c3 : Nat) (m : MD) (w : World) (a v : Int) (h0 : 0 ≤ a) (h1 : a ≤ 4095) (hv0 : 0 ≤ v) (hv1 : v ≤ 255) (hm : RepM w A0 A1 A2 A3 m) :
    Calls Tryz.prog 68 #[.agg #[.slice A0 256 c0, .slice A1 32 c1, .slice A2 256 c2, .slice A3 16 c3, .int .i64 m.s], .int .i64 a, .int .i64 v] w (ReadsM (m.put a v) w) := by
  obtain ⟨k, rfl⟩ : ∃ k : Nat, a = k := ⟨a.toNat, by omega⟩
  obtain ⟨u, rfl⟩ : ∃ u : Nat, v = u := ⟨v.toNat, by omega⟩
  refine (l05Put A0 A1 A2 A3 c0 c1 c2 c3 m.r m.i m.z m.g m.s w k u (by omega) (by omega) hm.1.r hm.1.i hm.1.z hm.1.g hm.1.s hm.1.zb hm.2.1 hm.2.2.1 hm.2.2.2.1 hm.2.2.2.2).mono ?_
  rintro e w' ⟨B0, B1, B2, B3, e0, e1, e2, e3, rfl, N, hb⟩
  exact ⟨B0, B1, B2, B3, e0, e1, e2, e3, rfl, Lib.hid ⟨hm.1.put (by omega) (by omega) (by omega), N.out⟩, hb⟩
def ReadsCM (d : CD) (m : MD) (w : World) (e : Ending) (w' : World) : Prop :=
  ∃ A c A0 A1 A2 A3 c0 c1 c2 c3, e = .returned (.tuple #[.agg #[.int .i64 d.pc, .int .i64 d.sp, .int .i64 d.bank, .int .i64 d.level, .bool d.zero, .bool d.carry, .bool d.on, .bool d.halt, .slice A 16 c], .agg #[.slice A0 256 c0, .slice A1 32 c1, .slice A2 256 c2, .slice A3 16 c3, .int .i64 m.s]]) ∧ Hid (RepC w' A d) ∧ Hid (RepM w' A0 A1 A2 A3 m) ∧ Below w.heap.size w w'

set_option maxRecDepth 100000 in
set_option maxHeartbeats 4000000 in
theorem l08Push (A : Option Addr) (c : Nat) (d : CD) (A0 A1 A2 A3 : Option Addr) (c0 c1 c2 c3 : Nat) (m : MD) (w : World) (v : Int) (hv : 0 ≤ v ∧ v ≤ 255) (hc : RepC w A d) (hm : RepM w A0 A1 A2 A3 m) :
    Calls Tryz.prog 76 #[.agg #[.int .i64 d.pc, .int .i64 d.sp, .int .i64 d.bank, .int .i64 d.level, .bool d.zero, .bool d.carry, .bool d.on, .bool d.halt, .slice A 16 c], .agg #[.slice A0 256 c0, .slice A1 32 c1, .slice A2 256 c2, .slice A3 16 c3, .int .i64 m.s], .int .i64 v] w (ReadsCM d.down (m.put d.sp v) w) := by
  obtain ⟨W1, hW1⟩ : ∃ W1, W1 = ((((w.alloc (.cells #[.int .i64 d.pc, .int .i64 d.sp, .int .i64 d.bank, .int .i64 d.level, .bool d.zero, .bool d.carry, .bool d.on, .bool d.halt, .slice A 16 c] 25)).alloc (.cells #[.slice A0 256 c0, .slice A1 32 c1, .slice A2 256 c2, .slice A3 16 c3, .int .i64 m.s] 31)).alloc (.cells #[.int .i64 0, .int .i64 0, .int .i64 0, .int .i64 0, .bool false, .bool false, .bool false, .bool false, .slice none 0 0] 25)).alloc (.cells #[.slice none 0 0, .slice none 0 0, .slice none 0 0, .slice none 0 0, .int .i64 0] 31)) := ⟨_, rfl⟩
  have hb0 : Below w.heap.size w W1 := by rw [hW1]; exact (((((Below.refl _ _).alloc (Nat.le_refl _) _).alloc (by simp; try omega) _).alloc (by simp; try omega) _).alloc (by simp; try omega) _)
  have Z2 : Hid (W1.heap.size = w.heap.size + 4) := Lib.hid (by rw [hW1]; simp)
  have X3 : Hid (Box W1 (w.heap.size) 25 #[.int .i64 d.pc, .int .i64 d.sp, .int .i64 d.bank, .int .i64 d.level, .bool d.zero, .bool d.carry, .bool d.on, .bool d.halt, .slice A 16 c]) := Lib.hid (by rw [hW1]; exact ((((Box.new w 25 #[.int .i64 d.pc, .int .i64 d.sp, .int .i64 d.bank, .int .i64 d.level, .bool d.zero, .bool d.carry, .bool d.on, .bool d.halt, .slice A 16 c]).alloc _).alloc _).alloc _))
  have X4 : Hid (Box W1 (w.heap.size + 1) 31 #[.slice A0 256 c0, .slice A1 32 c1, .slice A2 256 c2, .slice A3 16 c3, .int .i64 m.s]) := Lib.hid (by rw [hW1]; simpa using (((Box.new (w.alloc (.cells #[.int .i64 d.pc, .int .i64 d.sp, .int .i64 d.bank, .int .i64 d.level, .bool d.zero, .bool d.carry, .bool d.on, .bool d.halt, .slice A 16 c] 25)) 31 #[.slice A0 256 c0, .slice A1 32 c1, .slice A2 256 c2, .slice A3 16 c3, .int .i64 m.s]).alloc _).alloc _))
  have X5 : Hid (Box W1 (w.heap.size + 2) 25 #[.int .i64 0, .int .i64 0, .int .i64 0, .int .i64 0, .bool false, .bool false, .bool false, .bool false, .slice none 0 0]) := Lib.hid (by rw [hW1]; simpa using ((Box.new ((w.alloc (.cells #[.int .i64 d.pc, .int .i64 d.sp, .int .i64 d.bank, .int .i64 d.level, .bool d.zero, .bool d.carry, .bool d.on, .bool d.halt, .slice A 16 c] 25)).alloc (.cells #[.slice A0 256 c0, .slice A1 32 c1, .slice A2 256 c2, .slice A3 16 c3, .int .i64 m.s] 31)) 25 #[.int .i64 0, .int .i64 0, .int .i64 0, .int .i64 0, .bool false, .bool false, .bool false, .bool false, .slice none 0 0]).alloc _))
  have X6 : Hid (Box W1 (w.heap.size + 3) 31 #[.slice none 0 0, .slice none 0 0, .slice none 0 0, .slice none 0 0, .int .i64 0]) := Lib.hid (by rw [hW1]; simpa using (Box.new (((w.alloc (.cells #[.int .i64 d.pc, .int .i64 d.sp, .int .i64 d.bank, .int .i64 d.level, .bool d.zero, .bool d.carry, .bool d.on, .bool d.halt, .slice A 16 c] 25)).alloc (.cells #[.slice A0 256 c0, .slice A1 32 c1, .slice A2 256 c2, .slice A3 16 c3, .int .i64 m.s] 31)).alloc (.cells #[.int .i64 0, .int .i64 0, .int .i64 0, .int .i64 0, .bool false, .bool false, .bool false, .bool false, .slice none 0 0] 25)) 31 #[.slice none 0 0, .slice none 0 0, .slice none 0 0, .slice none 0 0, .int .i64 0]))
  have F7 : Hid (RepC W1 A d) := Lib.hid (hc.below hb0)
  have F8 : Hid (RepM W1 A0 A1 A2 A3 m) := Lib.hid (hm.below hb0)
  have HW0 := Lib.hid hW1
  clear hW1
  have hO := hc.1
  have hN := hm.1
  have hsp0 := hO.sp.1
  have hsp1 := hO.sp.2
  have HPut := Lib.hid (fun W (q : RepM W A0 A1 A2 A3 m) => l05PutM A0 A1 A2 A3 c0 c1 c2 c3 m W d.sp v (by omega) (by omega) hv.1 hv.2 q)
  unfold ReadsM at HPut
  have e1 : (d.sp + 255).tmod 256 = (d.sp + 255) % 256 := Int.tmod_eq_emod_of_nonneg (by omega)
  have e2 : IntKind.i64.wrap (d.sp + 255) = d.sp + 255 := IntWalk.i64_in _ (by omega)
  have HOk := Lib.hid hO.down
  generalize m.put d.sp v = m2 at HPut ⊢
  clear hc hm hO hN hv hsp0 hsp1
  have f9 := X3.out.cell 0 rfl
  have f10 := X3.out.cell 1 rfl
  have f11 := X3.out.cell 2 rfl
  have f12 := X3.out.cell 3 rfl
  have f13 := X3.out.cell 4 rfl
  have f14 := X3.out.cell 5 rfl
  have f15 := X3.out.cell 6 rfl
  have f16 := X3.out.cell 7 rfl
  have f17 := X3.out.cell 8 rfl
  have f18 := X4.out.cell 0 rfl
  have f19 := X4.out.cell 1 rfl
  have f20 := X4.out.cell 2 rfl
  have f21 := X4.out.cell 3 rfl
  have f22 := X4.out.cell 4 rfl
  have z23 := X4.out.frozen 0
  have z24 := X4.out.frozen 1
  have z25 := X4.out.frozen 2
  have z26 := X4.out.frozen 3
  have z27 := X4.out.frozen 4
  rw [HW0.out] at f9 f10 f11 f12 f13 f14 f15 f16 f17 f18 f19 f20 f21 f22 z23 z24 z25 z26 z27
  go_enter Tryz.func76, Tryz.ntmps76
  go_wp2_with fail
  rw [← HW0.out]
  rw [← HW0.out] at f9 f10 f11 f12 f13 f14 f15 f16 f17 f18 f19 f20 f21 f22 z23 z24 z25 z26 z27
  clear f9 f10 f11 f12 f13 f14 f15 f16 f17 f18 f19 f20 f21 f22 z23 z24 z25 z26 z27
  refine (HPut.out _ F8.out).mono ?_
  rintro e w1 ⟨B0, B1, B2, B3, e0, e1', e2', e3', rfl, N, hq⟩
  have X28 := Lib.hid (X3.out.step hq)
  have X29 := Lib.hid (X4.out.step hq)
  have X30 := Lib.hid (X5.out.step hq)
  have X31 := Lib.hid (X6.out.step hq)
  have F32 := Lib.hid (F7.out.below hq)
  have F33 := Lib.hid (F8.out.below hq)
  have hb34 := bt hb0 hq
  have Z35 : Hid (W1.heap.size ≤ w1.heap.size) := Lib.hid hq.size
  clear X3 X4 X5 X6 F7 F8 hb0 hq
  clear F33
  have f36 := X28.out.cell 0 rfl
  have f37 := X28.out.cell 1 rfl
  have f38 := X28.out.cell 2 rfl
  have f39 := X28.out.cell 3 rfl
  have f40 := X28.out.cell 4 rfl
  have f41 := X28.out.cell 5 rfl
  have f42 := X28.out.cell 6 rfl
  have f43 := X28.out.cell 7 rfl
  have f44 := X28.out.cell 8 rfl
  have f45 := X29.out.cell 0 rfl
  have f46 := X29.out.cell 1 rfl
  have f47 := X29.out.cell 2 rfl
  have f48 := X29.out.cell 3 rfl
  have f49 := X29.out.cell 4 rfl
  have f50 := X30.out.cell 0 rfl
  have f51 := X30.out.cell 1 rfl
  have f52 := X30.out.cell 2 rfl
  have f53 := X30.out.cell 3 rfl
  have f54 := X30.out.cell 4 rfl
  have f55 := X30.out.cell 5 rfl
  have f56 := X30.out.cell 6 rfl
  have f57 := X30.out.cell 7 rfl
  have f58 := X30.out.cell 8 rfl
  have f59 := X31.out.cell 0 rfl
  have f60 := X31.out.cell 1 rfl
  have f61 := X31.out.cell 2 rfl
  have f62 := X31.out.cell 3 rfl
  have f63 := X31.out.cell 4 rfl
  have z64 := X28.out.frozen 0
  have z65 := X28.out.frozen 1
  have z66 := X28.out.frozen 2
  have z67 := X28.out.frozen 3
  have z68 := X28.out.frozen 4
  have z69 := X28.out.frozen 5
  have z70 := X28.out.frozen 6
  have z71 := X28.out.frozen 7
  have z72 := X28.out.frozen 8
  have z73 := X29.out.frozen 0
  have z74 := X29.out.frozen 1
  have z75 := X29.out.frozen 2
  have z76 := X29.out.frozen 3
  have z77 := X29.out.frozen 4
  go_wp2
  obtain ⟨W78, hW78⟩ : ∃ W78, W78 = (((((w1.setCell ⟨w.heap.size + 1, 0, none⟩ (.slice B0 256 e0)).setCell ⟨w.heap.size + 1, 1, none⟩ (.slice B1 32 e1')).setCell ⟨w.heap.size + 1, 2, none⟩ (.slice B2 256 e2')).setCell ⟨w.heap.size + 1, 3, none⟩ (.slice B3 16 e3')).setCell ⟨w.heap.size + 1, 4, none⟩ (.int .i64 m2.s)) := ⟨_, rfl⟩
  have hB79 : Btw (w.heap.size + 1) (w.heap.size + 1 + 1) w1 W78 := by rw [hW78]; exact ((((((Btw.refl _ _ _).setCell (p := ⟨w.heap.size + 1, 0, none⟩) (Nat.le_refl _) (Nat.lt_succ_self _) _).setCell (p := ⟨w.heap.size + 1, 1, none⟩) (Nat.le_refl _) (Nat.lt_succ_self _) _).setCell (p := ⟨w.heap.size + 1, 2, none⟩) (Nat.le_refl _) (Nat.lt_succ_self _) _).setCell (p := ⟨w.heap.size + 1, 3, none⟩) (Nat.le_refl _) (Nat.lt_succ_self _) _).setCell (p := ⟨w.heap.size + 1, 4, none⟩) (Nat.le_refl _) (Nat.lt_succ_self _) _)
  have X80 : Hid (Box W78 (w.heap.size + 1) 31 #[.slice B0 256 e0, .slice B1 32 e1', .slice B2 256 e2', .slice B3 16 e3', .int .i64 m2.s]) := Lib.hid (by rw [hW78]; exact (X29.out.allN5 rfl _ _ _ _ _))
  have X81 := Lib.hid (X28.out.btw hB79 (by have := Z2.out; have := Z35.out; omega))
  have X82 := Lib.hid (X30.out.btw hB79 (by have := Z2.out; have := Z35.out; omega))
  have X83 := Lib.hid (X31.out.btw hB79 (by have := Z2.out; have := Z35.out; omega))
  have F84 := Lib.hid (F32.out.off X29.out (by simp) hB79)
  have F85 := Lib.hid (N.out.off X29.out (by simp) hB79)
  have hb86 := Btw.lowSize hB79 hb34 (Nat.le_of_lt X29.out.lt) (by have := Z2.out; have := Z35.out; omega)
  have Z87 : Hid (w1.heap.size ≤ W78.heap.size) := Lib.hid hB79.size
  rw [← hW78]
  clear hW78 hB79 X29 X28 X30 X31 F32 N hb34
  obtain ⟨W88, hW88⟩ : ∃ W88, W88 = (W78.setCell ⟨w.heap.size, 1, none⟩ (.int .i64 ((d.sp + 255) % 256))) := ⟨_, rfl⟩
  have hB89 : Btw (w.heap.size) (w.heap.size + 1) W78 W88 := by rw [hW88]; exact ((Btw.refl _ _ _).setCell (p := ⟨w.heap.size, 1, none⟩) (Nat.le_refl _) (Nat.lt_succ_self _) _)
  have X90 : Hid (Box W88 (w.heap.size) 25 #[.int .i64 d.pc, .int .i64 ((d.sp + 255) % 256), .int .i64 d.bank, .int .i64 d.level, .bool d.zero, .bool d.carry, .bool d.on, .bool d.halt, .slice A 16 c]) := Lib.hid (by rw [hW88]; exact (X81.out.set 1 _))
  have X91 := Lib.hid (X80.out.btw hB89 (by have := Z2.out; have := Z35.out; have := Z87.out; omega))
  have X92 := Lib.hid (X82.out.btw hB89 (by have := Z2.out; have := Z35.out; have := Z87.out; omega))
  have X93 := Lib.hid (X83.out.btw hB89 (by have := Z2.out; have := Z35.out; have := Z87.out; omega))
  have F94 := Lib.hid (F84.out.off X81.out (by simp) hB89)
  have F95 := Lib.hid (F85.out.off X81.out (by simp) hB89)
  have hb96 := Btw.lowSize hB89 hb86 (Nat.le_of_lt X81.out.lt) (by have := Z2.out; have := Z35.out; have := Z87.out; omega)
  have Z97 : Hid (W78.heap.size ≤ W88.heap.size) := Lib.hid hB89.size
  rw [← hW88]
  clear hW88 hB89 X81 X80 X82 X83 F84 F85 hb86
  refine wp_region_facts (by kernel_rfl) [[18], [19], [], []] [[], [], [0], [1]] [3, 4, 6, 7] (by kernel_rfl) (RetC W88 (w.heap.size) (w.heap.size + 1) (w.heap.size + 2) (w.heap.size + 3) 25 31 #[.int .i64 d.down.pc, .int .i64 d.down.sp, .int .i64 d.down.bank, .int .i64 d.down.level, .bool d.down.zero, .bool d.down.carry, .bool d.down.on, .bool d.down.halt, .slice A 16 c] #[.slice B0 256 e0, .slice B1 32 e1', .slice B2 256 e2', .slice B3 16 e3', .int .i64 m2.s]) (RetF 18 19 (w.heap.size + 2) (w.heap.size + 3) 25 31 #[.int .i64 d.down.pc, .int .i64 d.down.sp, .int .i64 d.down.bank, .int .i64 d.down.level, .bool d.down.zero, .bool d.down.carry, .bool d.down.on, .bool d.down.halt, .slice A 16 c] #[.slice B0 256 e0, .slice B1 32 e1', .slice B2 256 e2', .slice B3 16 e3', .int .i64 m2.s] 0 1 2 3 (fun _ _ => True)) ⟨(Btw.refl _ _ _).drew, ⟨_, by rfl, X92.out.drew⟩, ⟨_, by rfl, X93.out.drew⟩, X90.out.drew, X91.out.drew, by have := Z2.out; have := Z35.out; have := Z87.out; have := Z97.out; omega⟩ ⟨ret_load1 rfl 3 rfl rfl (by decide) rfl _ Tryz.underlying25 rfl infoCpu9 (by decide) (by show 18 < 20; decide), ret_load2 rfl (by decide) 4 rfl rfl (by decide) rfl _ Tryz.underlying31 rfl infoMem5 (by decide) (by show 19 < 20; decide), ret_store1 rfl (by decide) (by decide) 6 rfl (by decide) rfl (by decide) (by decide) infoCpu9 one9, ret_store2 rfl (by decide) (by decide) (by decide) (by decide) 7 rfl (by decide) rfl (by decide) (by decide) infoMem5 one5, trivial⟩ ?_
  intro T W hT hs hC hF
  obtain ⟨t0, t1, t2, t3, t4, t5, t6, t7, t8, t9, t10, t11, t12, t13, t14, t15, t16, t17, t18, t19, rfl⟩ := arr20 T hT
  obtain rfl : t6 = .pointer (some ⟨w.heap.size + 2, 0, none⟩) := hs 6 (by decide)
  obtain rfl : t7 = .pointer (some ⟨w.heap.size + 3, 0, none⟩) := hs 7 (by decide)
  have R1 : Box W (w.heap.size + 2) 25 #[.int .i64 d.down.pc, .int .i64 d.down.sp, .int .i64 d.down.bank, .int .i64 d.down.level, .bool d.down.zero, .bool d.down.carry, .bool d.down.on, .bool d.down.halt, .slice A 16 c] := hF 2 (by decide)
  have R2 : Box W (w.heap.size + 3) 31 #[.slice B0 256 e0, .slice B1 32 e1', .slice B2 256 e2', .slice B3 16 e3', .int .i64 m2.s] := hF 3 (by decide)
  have HC := Lib.hid hC.k
  clear hF hs hT hC
  go_wp2
  refine bodyPost_ret (v := .tuple #[.agg #[.int .i64 d.down.pc, .int .i64 d.down.sp, .int .i64 d.down.bank, .int .i64 d.down.level, .bool d.down.zero, .bool d.down.carry, .bool d.down.on, .bool d.down.halt, .slice A 16 c], .agg #[.slice B0 256 e0, .slice B1 32 e1', .slice B2 256 e2', .slice B3 16 e3', .int .i64 m2.s]]) (results_cc Tryz.results76 rfl rfl R1 R2 Tryz.underlying25 rfl infoCpu9 Tryz.underlying31 rfl infoMem5) rfl ?_
  have hbW := HC.out.lowSize hb96 (Nat.le_of_lt X92.out.lt) (by have := Z2.out; have := Z35.out; have := Z87.out; have := Z97.out; omega)
  exact ⟨_, _, _, _, _, _, _, _, _, _, rfl, Lib.hid ⟨HOk.out, (F94.out.off2 X92.out X93.out (by decide) (by decide) HC.out).2⟩, Lib.hid (F95.out.off2 X92.out X93.out (by decide) (by decide) HC.out), hbW⟩
theorem arr30 (T : Array Value) (h : T.size = 30) : ∃ t0 t1 t2 t3 t4 t5 t6 t7 t8 t9 t10 t11 t12 t13 t14 t15 t16 t17 t18 t19 t20 t21 t22 t23 t24 t25 t26 t27 t28 t29 : Value, T = #[t0, t1, t2, t3, t4, t5, t6, t7, t8, t9, t10, t11, t12, t13, t14, t15, t16, t17, t18, t19, t20, t21, t22, t23, t24, t25, t26, t27, t28, t29] := by
  obtain ⟨l⟩ := T
  match l, h with
  | [t0, t1, t2, t3, t4, t5, t6, t7, t8, t9, t10, t11, t12, t13, t14, t15, t16, t17, t18, t19, t20, t21, t22, t23, t24, t25, t26, t27, t28, t29], _ => exact ⟨t0, t1, t2, t3, t4, t5, t6, t7, t8, t9, t10, t11, t12, t13, t14, t15, t16, t17, t18, t19, t20, t21, t22, t23, t24, t25, t26, t27, t28, t29, rfl⟩

set_option maxRecDepth 100000 in
set_option maxHeartbeats 4000000 in
theorem l08Call (A : Option Addr) (c : Nat) (d : CD) (A0 A1 A2 A3 : Option Addr) (c0 c1 c2 c3 : Nat) (m : MD) (w : World) (tt : Int) (ht0 : 0 ≤ tt) (ht1 : tt ≤ 4095) (hc : RepC w A d) (hm : RepM w A0 A1 A2 A3 m) :
    Calls Tryz.prog 69 #[.agg #[.int .i64 d.pc, .int .i64 d.sp, .int .i64 d.bank, .int .i64 d.level, .bool d.zero, .bool d.carry, .bool d.on, .bool d.halt, .slice A 16 c], .agg #[.slice A0 256 c0, .slice A1 32 c1, .slice A2 256 c2, .slice A3 16 c3, .int .i64 m.s], .int .i64 tt] w (ReadsCM (callD d tt) (callM d m) w) := by
  obtain ⟨W1, hW1⟩ : ∃ W1, W1 = ((((w.alloc (.cells #[.int .i64 d.pc, .int .i64 d.sp, .int .i64 d.bank, .int .i64 d.level, .bool d.zero, .bool d.carry, .bool d.on, .bool d.halt, .slice A 16 c] 25)).alloc (.cells #[.slice A0 256 c0, .slice A1 32 c1, .slice A2 256 c2, .slice A3 16 c3, .int .i64 m.s] 31)).alloc (.cells #[.int .i64 0, .int .i64 0, .int .i64 0, .int .i64 0, .bool false, .bool false, .bool false, .bool false, .slice none 0 0] 25)).alloc (.cells #[.slice none 0 0, .slice none 0 0, .slice none 0 0, .slice none 0 0, .int .i64 0] 31)) := ⟨_, rfl⟩
  have hb0 : Below w.heap.size w W1 := by rw [hW1]; exact (((((Below.refl _ _).alloc (Nat.le_refl _) _).alloc (by simp; try omega) _).alloc (by simp; try omega) _).alloc (by simp; try omega) _)
  have Z2 : Hid (W1.heap.size = w.heap.size + 4) := Lib.hid (by rw [hW1]; simp)
  have X3 : Hid (Box W1 (w.heap.size) 25 #[.int .i64 d.pc, .int .i64 d.sp, .int .i64 d.bank, .int .i64 d.level, .bool d.zero, .bool d.carry, .bool d.on, .bool d.halt, .slice A 16 c]) := Lib.hid (by rw [hW1]; exact ((((Box.new w 25 #[.int .i64 d.pc, .int .i64 d.sp, .int .i64 d.bank, .int .i64 d.level, .bool d.zero, .bool d.carry, .bool d.on, .bool d.halt, .slice A 16 c]).alloc _).alloc _).alloc _))
  have X4 : Hid (Box W1 (w.heap.size + 1) 31 #[.slice A0 256 c0, .slice A1 32 c1, .slice A2 256 c2, .slice A3 16 c3, .int .i64 m.s]) := Lib.hid (by rw [hW1]; simpa using (((Box.new (w.alloc (.cells #[.int .i64 d.pc, .int .i64 d.sp, .int .i64 d.bank, .int .i64 d.level, .bool d.zero, .bool d.carry, .bool d.on, .bool d.halt, .slice A 16 c] 25)) 31 #[.slice A0 256 c0, .slice A1 32 c1, .slice A2 256 c2, .slice A3 16 c3, .int .i64 m.s]).alloc _).alloc _))
  have X5 : Hid (Box W1 (w.heap.size + 2) 25 #[.int .i64 0, .int .i64 0, .int .i64 0, .int .i64 0, .bool false, .bool false, .bool false, .bool false, .slice none 0 0]) := Lib.hid (by rw [hW1]; simpa using ((Box.new ((w.alloc (.cells #[.int .i64 d.pc, .int .i64 d.sp, .int .i64 d.bank, .int .i64 d.level, .bool d.zero, .bool d.carry, .bool d.on, .bool d.halt, .slice A 16 c] 25)).alloc (.cells #[.slice A0 256 c0, .slice A1 32 c1, .slice A2 256 c2, .slice A3 16 c3, .int .i64 m.s] 31)) 25 #[.int .i64 0, .int .i64 0, .int .i64 0, .int .i64 0, .bool false, .bool false, .bool false, .bool false, .slice none 0 0]).alloc _))
  have X6 : Hid (Box W1 (w.heap.size + 3) 31 #[.slice none 0 0, .slice none 0 0, .slice none 0 0, .slice none 0 0, .int .i64 0]) := Lib.hid (by rw [hW1]; simpa using (Box.new (((w.alloc (.cells #[.int .i64 d.pc, .int .i64 d.sp, .int .i64 d.bank, .int .i64 d.level, .bool d.zero, .bool d.carry, .bool d.on, .bool d.halt, .slice A 16 c] 25)).alloc (.cells #[.slice A0 256 c0, .slice A1 32 c1, .slice A2 256 c2, .slice A3 16 c3, .int .i64 m.s] 31)).alloc (.cells #[.int .i64 0, .int .i64 0, .int .i64 0, .int .i64 0, .bool false, .bool false, .bool false, .bool false, .slice none 0 0] 25)) 31 #[.slice none 0 0, .slice none 0 0, .slice none 0 0, .slice none 0 0, .int .i64 0]))
  have F7 : Hid (RepC W1 A d) := Lib.hid (hc.below hb0)
  have F8 : Hid (RepM W1 A0 A1 A2 A3 m) := Lib.hid (hm.below hb0)
  have HW0 := Lib.hid hW1
  clear hW1
  have hO := hc.1
  have hN := hm.1
  have hpc0 := hO.pc.1
  have hpc1 := hO.pc.2
  have hs1 := hO.sp
  have HP1 := Lib.hid (fun W (q : RepC W A d) (r : RepM W A0 A1 A2 A3 m) => l08Push A c d A0 A1 A2 A3 c0 c1 c2 c3 m W (d.pc / 256) (by omega) q r)
  have HP2 := Lib.hid (fun Aa ca Ab Ac Ad Ae cb cc cd ce W (q : RepC W Aa d.down) (r : RepM W Ab Ac Ad Ae (m.put d.sp (d.pc / 256))) => l08Push Aa ca d.down Ab Ac Ad Ae cb cc cd ce (m.put d.sp (d.pc / 256)) W (d.down.pc % 256) (by omega) q r)
  unfold ReadsCM at HP1 HP2
  have a255 := and_255 d.down.pc
  have HM : Hid (callM d m = (m.put d.sp (d.pc / 256)).put d.down.sp (d.down.pc % 256)) := Lib.hid rfl
  have HD : Hid (callD d tt = d.down.down.at tt) := Lib.hid rfl
  have HOk := Lib.hid hO.down.down
  generalize callM d m = mF at HM ⊢
  generalize (m.put d.sp (d.pc / 256)) = m1 at HP1 HP2 HM
  generalize callD d tt = dF at HD ⊢
  generalize m1.put d.down.sp (d.down.pc % 256) = m2 at HP2 HM
  generalize hd1 : d.down = d1 at HP1 HP2 HD HOk HM a255
  generalize d1.down = d2 at HP2 HD HOk
  clear hc hm hO hN hs1 hd1
  have f9 := X3.out.cell 0 rfl
  have f10 := X3.out.cell 1 rfl
  have f11 := X3.out.cell 2 rfl
  have f12 := X3.out.cell 3 rfl
  have f13 := X3.out.cell 4 rfl
  have f14 := X3.out.cell 5 rfl
  have f15 := X3.out.cell 6 rfl
  have f16 := X3.out.cell 7 rfl
  have f17 := X3.out.cell 8 rfl
  have f18 := X4.out.cell 0 rfl
  have f19 := X4.out.cell 1 rfl
  have f20 := X4.out.cell 2 rfl
  have f21 := X4.out.cell 3 rfl
  have f22 := X4.out.cell 4 rfl
  rw [HW0.out] at f9 f10 f11 f12 f13 f14 f15 f16 f17 f18 f19 f20 f21 f22
  go_enter Tryz.func69, Tryz.ntmps69
  go_wp2_with fail
  rw [← HW0.out]
  rw [← HW0.out] at f9 f10 f11 f12 f13 f14 f15 f16 f17 f18 f19 f20 f21 f22
  clear f9 f10 f11 f12 f13 f14 f15 f16 f17 f18 f19 f20 f21 f22
  refine (HP1.out _ F7.out F8.out).mono ?_
  rintro e w1 ⟨A1, c1, B10, B11, B12, B13, e10, e11, e12, e13, rfl, NC1, NM1, hq1⟩
  have X23 := Lib.hid (X3.out.step hq1)
  have X24 := Lib.hid (X4.out.step hq1)
  have X25 := Lib.hid (X5.out.step hq1)
  have X26 := Lib.hid (X6.out.step hq1)
  have F27 := Lib.hid (F7.out.below hq1)
  have F28 := Lib.hid (F8.out.below hq1)
  have hb29 := bt hb0 hq1
  have Z30 : Hid (W1.heap.size ≤ w1.heap.size) := Lib.hid hq1.size
  clear X3 X4 X5 X6 F7 F8 hb0 hq1
  clear F27 F28
  clear HP1
  have f31 := X23.out.cell 0 rfl
  have f32 := X23.out.cell 1 rfl
  have f33 := X23.out.cell 2 rfl
  have f34 := X23.out.cell 3 rfl
  have f35 := X23.out.cell 4 rfl
  have f36 := X23.out.cell 5 rfl
  have f37 := X23.out.cell 6 rfl
  have f38 := X23.out.cell 7 rfl
  have f39 := X23.out.cell 8 rfl
  have f40 := X24.out.cell 0 rfl
  have f41 := X24.out.cell 1 rfl
  have f42 := X24.out.cell 2 rfl
  have f43 := X24.out.cell 3 rfl
  have f44 := X24.out.cell 4 rfl
  have z45 := X23.out.frozen 0
  have z46 := X23.out.frozen 1
  have z47 := X23.out.frozen 2
  have z48 := X23.out.frozen 3
  have z49 := X23.out.frozen 4
  have z50 := X23.out.frozen 5
  have z51 := X23.out.frozen 6
  have z52 := X23.out.frozen 7
  have z53 := X23.out.frozen 8
  have z54 := X24.out.frozen 0
  have z55 := X24.out.frozen 1
  have z56 := X24.out.frozen 2
  have z57 := X24.out.frozen 3
  have z58 := X24.out.frozen 4
  go_wp2_with fail
  obtain ⟨W59, hW59⟩ : ∃ W59, W59 = (((((((((w1.setCell ⟨w.heap.size, 0, none⟩ (.int .i64 d1.pc)).setCell ⟨w.heap.size, 1, none⟩ (.int .i64 d1.sp)).setCell ⟨w.heap.size, 2, none⟩ (.int .i64 d1.bank)).setCell ⟨w.heap.size, 3, none⟩ (.int .i64 d1.level)).setCell ⟨w.heap.size, 4, none⟩ (.bool d1.zero)).setCell ⟨w.heap.size, 5, none⟩ (.bool d1.carry)).setCell ⟨w.heap.size, 6, none⟩ (.bool d1.on)).setCell ⟨w.heap.size, 7, none⟩ (.bool d1.halt)).setCell ⟨w.heap.size, 8, none⟩ (.slice A1 16 c1)) := ⟨_, rfl⟩
  have hB60 : Btw (w.heap.size) (w.heap.size + 1) w1 W59 := by rw [hW59]; exact ((((((((((Btw.refl _ _ _).setCell (p := ⟨w.heap.size, 0, none⟩) (Nat.le_refl _) (Nat.lt_succ_self _) _).setCell (p := ⟨w.heap.size, 1, none⟩) (Nat.le_refl _) (Nat.lt_succ_self _) _).setCell (p := ⟨w.heap.size, 2, none⟩) (Nat.le_refl _) (Nat.lt_succ_self _) _).setCell (p := ⟨w.heap.size, 3, none⟩) (Nat.le_refl _) (Nat.lt_succ_self _) _).setCell (p := ⟨w.heap.size, 4, none⟩) (Nat.le_refl _) (Nat.lt_succ_self _) _).setCell (p := ⟨w.heap.size, 5, none⟩) (Nat.le_refl _) (Nat.lt_succ_self _) _).setCell (p := ⟨w.heap.size, 6, none⟩) (Nat.le_refl _) (Nat.lt_succ_self _) _).setCell (p := ⟨w.heap.size, 7, none⟩) (Nat.le_refl _) (Nat.lt_succ_self _) _).setCell (p := ⟨w.heap.size, 8, none⟩) (Nat.le_refl _) (Nat.lt_succ_self _) _)
  have X61 : Hid (Box W59 (w.heap.size) 25 #[.int .i64 d1.pc, .int .i64 d1.sp, .int .i64 d1.bank, .int .i64 d1.level, .bool d1.zero, .bool d1.carry, .bool d1.on, .bool d1.halt, .slice A1 16 c1]) := Lib.hid (by rw [hW59]; exact (X23.out.allN9 rfl _ _ _ _ _ _ _ _ _))
  have X62 := Lib.hid (X24.out.btw hB60 (by have := Z2.out; have := Z30.out; omega))
  have X63 := Lib.hid (X25.out.btw hB60 (by have := Z2.out; have := Z30.out; omega))
  have X64 := Lib.hid (X26.out.btw hB60 (by have := Z2.out; have := Z30.out; omega))
  have F65 := Lib.hid (NC1.out.off X23.out (by simp) hB60)
  have F66 := Lib.hid (NM1.out.off X23.out (by simp) hB60)
  have hb67 := Btw.lowSize hB60 hb29 (Nat.le_of_lt X23.out.lt) (by have := Z2.out; have := Z30.out; omega)
  have Z68 : Hid (w1.heap.size ≤ W59.heap.size) := Lib.hid hB60.size
  rw [← hW59]
  clear hW59 hB60 X23 X24 X25 X26 NC1 NM1 hb29
  obtain ⟨W69, hW69⟩ : ∃ W69, W69 = (((((W59.setCell ⟨w.heap.size + 1, 0, none⟩ (.slice B10 256 e10)).setCell ⟨w.heap.size + 1, 1, none⟩ (.slice B11 32 e11)).setCell ⟨w.heap.size + 1, 2, none⟩ (.slice B12 256 e12)).setCell ⟨w.heap.size + 1, 3, none⟩ (.slice B13 16 e13)).setCell ⟨w.heap.size + 1, 4, none⟩ (.int .i64 m1.s)) := ⟨_, rfl⟩
  have hB70 : Btw (w.heap.size + 1) (w.heap.size + 1 + 1) W59 W69 := by rw [hW69]; exact ((((((Btw.refl _ _ _).setCell (p := ⟨w.heap.size + 1, 0, none⟩) (Nat.le_refl _) (Nat.lt_succ_self _) _).setCell (p := ⟨w.heap.size + 1, 1, none⟩) (Nat.le_refl _) (Nat.lt_succ_self _) _).setCell (p := ⟨w.heap.size + 1, 2, none⟩) (Nat.le_refl _) (Nat.lt_succ_self _) _).setCell (p := ⟨w.heap.size + 1, 3, none⟩) (Nat.le_refl _) (Nat.lt_succ_self _) _).setCell (p := ⟨w.heap.size + 1, 4, none⟩) (Nat.le_refl _) (Nat.lt_succ_self _) _)
  have X71 : Hid (Box W69 (w.heap.size + 1) 31 #[.slice B10 256 e10, .slice B11 32 e11, .slice B12 256 e12, .slice B13 16 e13, .int .i64 m1.s]) := Lib.hid (by rw [hW69]; exact (X62.out.allN5 rfl _ _ _ _ _))
  have X72 := Lib.hid (X61.out.btw hB70 (by have := Z2.out; have := Z30.out; have := Z68.out; omega))
  have X73 := Lib.hid (X63.out.btw hB70 (by have := Z2.out; have := Z30.out; have := Z68.out; omega))
  have X74 := Lib.hid (X64.out.btw hB70 (by have := Z2.out; have := Z30.out; have := Z68.out; omega))
  have F75 := Lib.hid (F65.out.off X62.out (by simp) hB70)
  have F76 := Lib.hid (F66.out.off X62.out (by simp) hB70)
  have hb77 := Btw.lowSize hB70 hb67 (Nat.le_of_lt X62.out.lt) (by have := Z2.out; have := Z30.out; have := Z68.out; omega)
  have Z78 : Hid (W59.heap.size ≤ W69.heap.size) := Lib.hid hB70.size
  rw [← hW69]
  clear hW69 hB70 X62 X61 X63 X64 F65 F66 hb67
  clear f31 f32 f33 f34 f35 f36 f37 f38 f39 f40 f41 f42 f43 f44 z45 z46 z47 z48 z49 z50 z51 z52 z53 z54 z55 z56 z57 z58
  refine (HP2.out _ _ _ _ _ _ _ _ _ _ _ F75.out F76.out).mono ?_
  rintro e w2 ⟨A2, c2, B20, B21, B22, B23, e20, e21, e22, e23, rfl, NC2, NM2, hq2⟩
  have X79 := Lib.hid (X72.out.step hq2)
  have X80 := Lib.hid (X71.out.step hq2)
  have X81 := Lib.hid (X73.out.step hq2)
  have X82 := Lib.hid (X74.out.step hq2)
  have F83 := Lib.hid (F75.out.below hq2)
  have F84 := Lib.hid (F76.out.below hq2)
  have hb85 := bt hb77 hq2
  have Z86 : Hid (W69.heap.size ≤ w2.heap.size) := Lib.hid hq2.size
  clear X72 X71 X73 X74 F75 F76 hb77 hq2
  clear F83 F84
  clear HP2
  have f87 := X79.out.cell 0 rfl
  have f88 := X79.out.cell 1 rfl
  have f89 := X79.out.cell 2 rfl
  have f90 := X79.out.cell 3 rfl
  have f91 := X79.out.cell 4 rfl
  have f92 := X79.out.cell 5 rfl
  have f93 := X79.out.cell 6 rfl
  have f94 := X79.out.cell 7 rfl
  have f95 := X79.out.cell 8 rfl
  have f96 := X80.out.cell 0 rfl
  have f97 := X80.out.cell 1 rfl
  have f98 := X80.out.cell 2 rfl
  have f99 := X80.out.cell 3 rfl
  have f100 := X80.out.cell 4 rfl
  have f101 := X81.out.cell 0 rfl
  have f102 := X81.out.cell 1 rfl
  have f103 := X81.out.cell 2 rfl
  have f104 := X81.out.cell 3 rfl
  have f105 := X81.out.cell 4 rfl
  have f106 := X81.out.cell 5 rfl
  have f107 := X81.out.cell 6 rfl
  have f108 := X81.out.cell 7 rfl
  have f109 := X81.out.cell 8 rfl
  have f110 := X82.out.cell 0 rfl
  have f111 := X82.out.cell 1 rfl
  have f112 := X82.out.cell 2 rfl
  have f113 := X82.out.cell 3 rfl
  have f114 := X82.out.cell 4 rfl
  have z115 := X79.out.frozen 0
  have z116 := X79.out.frozen 1
  have z117 := X79.out.frozen 2
  have z118 := X79.out.frozen 3
  have z119 := X79.out.frozen 4
  have z120 := X79.out.frozen 5
  have z121 := X79.out.frozen 6
  have z122 := X79.out.frozen 7
  have z123 := X79.out.frozen 8
  have z124 := X80.out.frozen 0
  have z125 := X80.out.frozen 1
  have z126 := X80.out.frozen 2
  have z127 := X80.out.frozen 3
  have z128 := X80.out.frozen 4
  go_wp2
  obtain ⟨W129, hW129⟩ : ∃ W129, W129 = (((((((((w2.setCell ⟨w.heap.size, 0, none⟩ (.int .i64 d2.pc)).setCell ⟨w.heap.size, 1, none⟩ (.int .i64 d2.sp)).setCell ⟨w.heap.size, 2, none⟩ (.int .i64 d2.bank)).setCell ⟨w.heap.size, 3, none⟩ (.int .i64 d2.level)).setCell ⟨w.heap.size, 4, none⟩ (.bool d2.zero)).setCell ⟨w.heap.size, 5, none⟩ (.bool d2.carry)).setCell ⟨w.heap.size, 6, none⟩ (.bool d2.on)).setCell ⟨w.heap.size, 7, none⟩ (.bool d2.halt)).setCell ⟨w.heap.size, 8, none⟩ (.slice A2 16 c2)) := ⟨_, rfl⟩
  have hB130 : Btw (w.heap.size) (w.heap.size + 1) w2 W129 := by rw [hW129]; exact ((((((((((Btw.refl _ _ _).setCell (p := ⟨w.heap.size, 0, none⟩) (Nat.le_refl _) (Nat.lt_succ_self _) _).setCell (p := ⟨w.heap.size, 1, none⟩) (Nat.le_refl _) (Nat.lt_succ_self _) _).setCell (p := ⟨w.heap.size, 2, none⟩) (Nat.le_refl _) (Nat.lt_succ_self _) _).setCell (p := ⟨w.heap.size, 3, none⟩) (Nat.le_refl _) (Nat.lt_succ_self _) _).setCell (p := ⟨w.heap.size, 4, none⟩) (Nat.le_refl _) (Nat.lt_succ_self _) _).setCell (p := ⟨w.heap.size, 5, none⟩) (Nat.le_refl _) (Nat.lt_succ_self _) _).setCell (p := ⟨w.heap.size, 6, none⟩) (Nat.le_refl _) (Nat.lt_succ_self _) _).setCell (p := ⟨w.heap.size, 7, none⟩) (Nat.le_refl _) (Nat.lt_succ_self _) _).setCell (p := ⟨w.heap.size, 8, none⟩) (Nat.le_refl _) (Nat.lt_succ_self _) _)
  have X131 : Hid (Box W129 (w.heap.size) 25 #[.int .i64 d2.pc, .int .i64 d2.sp, .int .i64 d2.bank, .int .i64 d2.level, .bool d2.zero, .bool d2.carry, .bool d2.on, .bool d2.halt, .slice A2 16 c2]) := Lib.hid (by rw [hW129]; exact (X79.out.allN9 rfl _ _ _ _ _ _ _ _ _))
  have X132 := Lib.hid (X80.out.btw hB130 (by have := Z2.out; have := Z30.out; have := Z68.out; have := Z78.out; have := Z86.out; omega))
  have X133 := Lib.hid (X81.out.btw hB130 (by have := Z2.out; have := Z30.out; have := Z68.out; have := Z78.out; have := Z86.out; omega))
  have X134 := Lib.hid (X82.out.btw hB130 (by have := Z2.out; have := Z30.out; have := Z68.out; have := Z78.out; have := Z86.out; omega))
  have F135 := Lib.hid (NC2.out.off X79.out (by simp) hB130)
  have F136 := Lib.hid (NM2.out.off X79.out (by simp) hB130)
  have hb137 := Btw.lowSize hB130 hb85 (Nat.le_of_lt X79.out.lt) (by have := Z2.out; have := Z30.out; have := Z68.out; have := Z78.out; have := Z86.out; omega)
  have Z138 : Hid (w2.heap.size ≤ W129.heap.size) := Lib.hid hB130.size
  rw [← hW129]
  clear hW129 hB130 X79 X80 X81 X82 NC2 NM2 hb85
  obtain ⟨W139, hW139⟩ : ∃ W139, W139 = (((((W129.setCell ⟨w.heap.size + 1, 0, none⟩ (.slice B20 256 e20)).setCell ⟨w.heap.size + 1, 1, none⟩ (.slice B21 32 e21)).setCell ⟨w.heap.size + 1, 2, none⟩ (.slice B22 256 e22)).setCell ⟨w.heap.size + 1, 3, none⟩ (.slice B23 16 e23)).setCell ⟨w.heap.size + 1, 4, none⟩ (.int .i64 m2.s)) := ⟨_, rfl⟩
  have hB140 : Btw (w.heap.size + 1) (w.heap.size + 1 + 1) W129 W139 := by rw [hW139]; exact ((((((Btw.refl _ _ _).setCell (p := ⟨w.heap.size + 1, 0, none⟩) (Nat.le_refl _) (Nat.lt_succ_self _) _).setCell (p := ⟨w.heap.size + 1, 1, none⟩) (Nat.le_refl _) (Nat.lt_succ_self _) _).setCell (p := ⟨w.heap.size + 1, 2, none⟩) (Nat.le_refl _) (Nat.lt_succ_self _) _).setCell (p := ⟨w.heap.size + 1, 3, none⟩) (Nat.le_refl _) (Nat.lt_succ_self _) _).setCell (p := ⟨w.heap.size + 1, 4, none⟩) (Nat.le_refl _) (Nat.lt_succ_self _) _)
  have X141 : Hid (Box W139 (w.heap.size + 1) 31 #[.slice B20 256 e20, .slice B21 32 e21, .slice B22 256 e22, .slice B23 16 e23, .int .i64 m2.s]) := Lib.hid (by rw [hW139]; exact (X132.out.allN5 rfl _ _ _ _ _))
  have X142 := Lib.hid (X131.out.btw hB140 (by have := Z2.out; have := Z30.out; have := Z68.out; have := Z78.out; have := Z86.out; have := Z138.out; omega))
  have X143 := Lib.hid (X133.out.btw hB140 (by have := Z2.out; have := Z30.out; have := Z68.out; have := Z78.out; have := Z86.out; have := Z138.out; omega))
  have X144 := Lib.hid (X134.out.btw hB140 (by have := Z2.out; have := Z30.out; have := Z68.out; have := Z78.out; have := Z86.out; have := Z138.out; omega))
  have F145 := Lib.hid (F135.out.off X132.out (by simp) hB140)
  have F146 := Lib.hid (F136.out.off X132.out (by simp) hB140)
  have hb147 := Btw.lowSize hB140 hb137 (Nat.le_of_lt X132.out.lt) (by have := Z2.out; have := Z30.out; have := Z68.out; have := Z78.out; have := Z86.out; have := Z138.out; omega)
  have Z148 : Hid (W129.heap.size ≤ W139.heap.size) := Lib.hid hB140.size
  rw [← hW139]
  clear hW139 hB140 X132 X131 X133 X134 F135 F136 hb137
  obtain ⟨W149, hW149⟩ : ∃ W149, W149 = (W139.setCell ⟨w.heap.size, 0, none⟩ (.int .i64 tt)) := ⟨_, rfl⟩
  have hB150 : Btw (w.heap.size) (w.heap.size + 1) W139 W149 := by rw [hW149]; exact ((Btw.refl _ _ _).setCell (p := ⟨w.heap.size, 0, none⟩) (Nat.le_refl _) (Nat.lt_succ_self _) _)
  have X151 : Hid (Box W149 (w.heap.size) 25 #[.int .i64 tt, .int .i64 d2.sp, .int .i64 d2.bank, .int .i64 d2.level, .bool d2.zero, .bool d2.carry, .bool d2.on, .bool d2.halt, .slice A2 16 c2]) := Lib.hid (by rw [hW149]; exact (X142.out.set 0 _))
  have X152 := Lib.hid (X141.out.btw hB150 (by have := Z2.out; have := Z30.out; have := Z68.out; have := Z78.out; have := Z86.out; have := Z138.out; have := Z148.out; omega))
  have X153 := Lib.hid (X143.out.btw hB150 (by have := Z2.out; have := Z30.out; have := Z68.out; have := Z78.out; have := Z86.out; have := Z138.out; have := Z148.out; omega))
  have X154 := Lib.hid (X144.out.btw hB150 (by have := Z2.out; have := Z30.out; have := Z68.out; have := Z78.out; have := Z86.out; have := Z138.out; have := Z148.out; omega))
  have F155 := Lib.hid (F145.out.off X142.out (by simp) hB150)
  have F156 := Lib.hid (F146.out.off X142.out (by simp) hB150)
  have hb157 := Btw.lowSize hB150 hb147 (Nat.le_of_lt X142.out.lt) (by have := Z2.out; have := Z30.out; have := Z68.out; have := Z78.out; have := Z86.out; have := Z138.out; have := Z148.out; omega)
  have Z158 : Hid (W139.heap.size ≤ W149.heap.size) := Lib.hid hB150.size
  rw [← hW149]
  clear hW149 hB150 X142 X141 X143 X144 F145 F146 hb147
  refine wp_region_facts (by kernel_rfl) [[28], [29], [], []] [[], [], [0], [1]] [3, 4, 6, 7] (by kernel_rfl) (RetC W149 (w.heap.size) (w.heap.size + 1) (w.heap.size + 2) (w.heap.size + 3) 25 31 #[.int .i64 tt, .int .i64 d2.sp, .int .i64 d2.bank, .int .i64 d2.level, .bool d2.zero, .bool d2.carry, .bool d2.on, .bool d2.halt, .slice A2 16 c2] #[.slice B20 256 e20, .slice B21 32 e21, .slice B22 256 e22, .slice B23 16 e23, .int .i64 m2.s]) (RetF 28 29 (w.heap.size + 2) (w.heap.size + 3) 25 31 #[.int .i64 tt, .int .i64 d2.sp, .int .i64 d2.bank, .int .i64 d2.level, .bool d2.zero, .bool d2.carry, .bool d2.on, .bool d2.halt, .slice A2 16 c2] #[.slice B20 256 e20, .slice B21 32 e21, .slice B22 256 e22, .slice B23 16 e23, .int .i64 m2.s] 0 1 2 3 (fun _ _ => True)) ⟨(Btw.refl _ _ _).drew, ⟨_, by rfl, X153.out.drew⟩, ⟨_, by rfl, X154.out.drew⟩, X151.out.drew, X152.out.drew, by have := Z2.out; have := Z30.out; have := Z68.out; have := Z78.out; have := Z86.out; have := Z138.out; have := Z148.out; have := Z158.out; omega⟩ ⟨ret_load1 rfl 3 rfl rfl (by decide) rfl _ Tryz.underlying25 rfl infoCpu9 (by decide) (by show 28 < 30; decide), ret_load2 rfl (by decide) 4 rfl rfl (by decide) rfl _ Tryz.underlying31 rfl infoMem5 (by decide) (by show 29 < 30; decide), ret_store1 rfl (by decide) (by decide) 6 rfl (by decide) rfl (by decide) (by decide) infoCpu9 one9, ret_store2 rfl (by decide) (by decide) (by decide) (by decide) 7 rfl (by decide) rfl (by decide) (by decide) infoMem5 one5, trivial⟩ ?_
  intro T W hT hs hC hF
  obtain ⟨t0, t1, t2, t3, t4, t5, t6, t7, t8, t9, t10, t11, t12, t13, t14, t15, t16, t17, t18, t19, t20, t21, t22, t23, t24, t25, t26, t27, t28, t29, rfl⟩ := arr30 T hT
  obtain rfl : t6 = .pointer (some ⟨w.heap.size + 2, 0, none⟩) := hs 6 (by decide)
  obtain rfl : t7 = .pointer (some ⟨w.heap.size + 3, 0, none⟩) := hs 7 (by decide)
  have R1 : Box W (w.heap.size + 2) 25 #[.int .i64 tt, .int .i64 d2.sp, .int .i64 d2.bank, .int .i64 d2.level, .bool d2.zero, .bool d2.carry, .bool d2.on, .bool d2.halt, .slice A2 16 c2] := hF 2 (by decide)
  have R2 : Box W (w.heap.size + 3) 31 #[.slice B20 256 e20, .slice B21 32 e21, .slice B22 256 e22, .slice B23 16 e23, .int .i64 m2.s] := hF 3 (by decide)
  have HC := Lib.hid hC.k
  clear hF hs hT hC
  go_wp2
  refine bodyPost_ret (v := .tuple #[.agg #[.int .i64 tt, .int .i64 d2.sp, .int .i64 d2.bank, .int .i64 d2.level, .bool d2.zero, .bool d2.carry, .bool d2.on, .bool d2.halt, .slice A2 16 c2], .agg #[.slice B20 256 e20, .slice B21 32 e21, .slice B22 256 e22, .slice B23 16 e23, .int .i64 m2.s]]) (results_cc Tryz.results69 rfl rfl R1 R2 Tryz.underlying25 rfl infoCpu9 Tryz.underlying31 rfl infoMem5) rfl ?_
  have hbW := HC.out.lowSize hb157 (Nat.le_of_lt X153.out.lt) (by have := Z2.out; have := Z30.out; have := Z68.out; have := Z78.out; have := Z86.out; have := Z138.out; have := Z148.out; have := Z158.out; omega)
  rw [HD.out, HM.out]
  exact ⟨_, _, _, _, _, _, _, _, _, _, rfl, Lib.hid ⟨HOk.out.at ht0 ht1, (F155.out.off2 X153.out X154.out (by simp) (by simp) HC.out).2⟩, Lib.hid (F156.out.off2 X153.out X154.out (by simp) (by simp) HC.out), hbW⟩
end Go.Proofs.YtcchhbkbnbphhaaGreatDoor
