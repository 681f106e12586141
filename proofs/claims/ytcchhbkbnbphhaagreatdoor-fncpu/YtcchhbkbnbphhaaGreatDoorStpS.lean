/- The model's StepCpu, whole. Written by gen_stepc.py. -/
import Derived.Test.YtcchhbkbnbphhaaGreatDoorM10
import Derived.Test.YtcchhbkbnbphhaaGreatDoorStep8
namespace Go.Proofs.YtcchhbkbnbphhaaGreatDoor
open Go.RowKit

set_option maxRecDepth 100000 in
set_option maxHeartbeats 8000000 in
theorem specStepCpu (A : Option Addr) (n c : Nat) (d : CD) (A0 A1 A2 A3 : Option Addr) (n0 n1 n2 n3 c0 c1 c2 c3 : Nat) (m : MD) (w : World) (l : d.regs.length = n) (l0 : m.r.length = n0) (l1 : m.i.length = n1) (l2 : m.z.length = n2) (l3 : m.g.length = n3) (q : n ≤ maxLen) (q0 : n0 ≤ maxLen) (q1 : n1 ≤ maxLen) (q2 : n2 ≤ maxLen) (q3 : n3 ≤ maxLen) (h : IntL w A d.regs) (h0 : IntL w A0 m.r) (h1 : IntL w A1 m.i) (h2 : IntL w A2 m.z) (h3 : BoolL w A3 m.g) :
    Calls Tryz.prog 8 #[.agg #[.int .i64 d.pc, .int .i64 d.sp, .int .i64 d.bank, .int .i64 d.level, .bool d.zero, .bool d.carry, .bool d.on, .bool d.halt, .slice A n c], .agg #[.slice A0 n0 c0, .slice A1 n1 c1, .slice A2 n2 c2, .slice A3 n3 c3, .int .i64 m.s]] w (GivesStp (stpC d m) (stpM d m) (stpN d m) (stpS d m) (stpE d m) w) := by
  obtain ⟨W1, hW1⟩ : ∃ W1, W1 = ((((w.alloc (.cells #[.int .i64 d.pc, .int .i64 d.sp, .int .i64 d.bank, .int .i64 d.level, .bool d.zero, .bool d.carry, .bool d.on, .bool d.halt, .slice A n c] 25)).alloc (.cells #[.slice A0 n0 c0, .slice A1 n1 c1, .slice A2 n2 c2, .slice A3 n3 c3, .int .i64 m.s] 31)).alloc (.cells #[.int .i64 0, .int .i64 0, .int .i64 0, .int .i64 0, .bool false, .bool false, .bool false, .bool false, .slice none 0 0] 25)).alloc (.cells #[.slice none 0 0, .slice none 0 0, .slice none 0 0, .slice none 0 0, .int .i64 0] 31)) := ⟨_, rfl⟩
  have hb0 : Below w.heap.size w W1 := by rw [hW1]; exact (((((Below.refl _ _).alloc (Nat.le_refl _) _).alloc (by simp; try omega) _).alloc (by simp; try omega) _).alloc (by simp; try omega) _)
  have Z2 : Hid (W1.heap.size = w.heap.size + 4) := Lib.hid (by rw [hW1]; simp)
  have X3 : Hid (Box W1 (w.heap.size) 25 #[.int .i64 d.pc, .int .i64 d.sp, .int .i64 d.bank, .int .i64 d.level, .bool d.zero, .bool d.carry, .bool d.on, .bool d.halt, .slice A n c]) := Lib.hid (by rw [hW1]; exact ((((Box.new w 25 #[.int .i64 d.pc, .int .i64 d.sp, .int .i64 d.bank, .int .i64 d.level, .bool d.zero, .bool d.carry, .bool d.on, .bool d.halt, .slice A n c]).alloc _).alloc _).alloc _))
  have X4 : Hid (Box W1 (w.heap.size + 1) 31 #[.slice A0 n0 c0, .slice A1 n1 c1, .slice A2 n2 c2, .slice A3 n3 c3, .int .i64 m.s]) := Lib.hid (by rw [hW1]; simpa using (((Box.new (w.alloc (.cells #[.int .i64 d.pc, .int .i64 d.sp, .int .i64 d.bank, .int .i64 d.level, .bool d.zero, .bool d.carry, .bool d.on, .bool d.halt, .slice A n c] 25)) 31 #[.slice A0 n0 c0, .slice A1 n1 c1, .slice A2 n2 c2, .slice A3 n3 c3, .int .i64 m.s]).alloc _).alloc _))
  have X5 : Hid (Box W1 (w.heap.size + 2) 25 #[.int .i64 0, .int .i64 0, .int .i64 0, .int .i64 0, .bool false, .bool false, .bool false, .bool false, .slice none 0 0]) := Lib.hid (by rw [hW1]; simpa using ((Box.new ((w.alloc (.cells #[.int .i64 d.pc, .int .i64 d.sp, .int .i64 d.bank, .int .i64 d.level, .bool d.zero, .bool d.carry, .bool d.on, .bool d.halt, .slice A n c] 25)).alloc (.cells #[.slice A0 n0 c0, .slice A1 n1 c1, .slice A2 n2 c2, .slice A3 n3 c3, .int .i64 m.s] 31)) 25 #[.int .i64 0, .int .i64 0, .int .i64 0, .int .i64 0, .bool false, .bool false, .bool false, .bool false, .slice none 0 0]).alloc _))
  have X6 : Hid (Box W1 (w.heap.size + 3) 31 #[.slice none 0 0, .slice none 0 0, .slice none 0 0, .slice none 0 0, .int .i64 0]) := Lib.hid (by rw [hW1]; simpa using (Box.new (((w.alloc (.cells #[.int .i64 d.pc, .int .i64 d.sp, .int .i64 d.bank, .int .i64 d.level, .bool d.zero, .bool d.carry, .bool d.on, .bool d.halt, .slice A n c] 25)).alloc (.cells #[.slice A0 n0 c0, .slice A1 n1 c1, .slice A2 n2 c2, .slice A3 n3 c3, .int .i64 m.s] 31)).alloc (.cells #[.int .i64 0, .int .i64 0, .int .i64 0, .int .i64 0, .bool false, .bool false, .bool false, .bool false, .slice none 0 0] 25)) 31 #[.slice none 0 0, .slice none 0 0, .slice none 0 0, .slice none 0 0, .int .i64 0]))
  have HW0 := Lib.hid hW1
  clear hW1
  have HC := Lib.hid (fun W (hb : Below w.heap.size w W) => specCpuOK A n c d.pc d.sp d.bank d.level d.zero d.carry d.on d.halt d.regs W l q (h.below hb))
  have HM := Lib.hid (fun W (hb : Below w.heap.size w W) => specMemOK A0 A1 A2 A3 n0 n1 n2 n3 c0 c1 c2 c3 m.r m.i m.z m.g m.s W l0 l1 l2 l3 q0 q1 q2 q3 (h0.below hb) (h1.below hb) (h2.below hb))
  have HOc : Hid (okCpu d.pc d.sp d.bank d.level d.regs = d.ok) := Lib.hid rfl
  rw [HOc.out] at HC
  have HOm : Hid (okMem m.r m.i m.z m.g m.s = m.ok) := Lib.hid rfl
  rw [HOm.out] at HM
  have H := Lib.hid (And.intro (And.intro l (And.intro l0 (And.intro l1 (And.intro l2 l3)))) (And.intro h (And.intro h0 (And.intro h1 (And.intro h2 h3)))))
  clear l l0 l1 l2 l3 q q0 q1 q2 q3 h h0 h1 h2 h3 HOc HOm
  generalize hokc : d.ok = okc at HC
  generalize hokm : m.ok = okm at HM
  have HKc := Lib.hid hokc
  have HKm := Lib.hid hokm
  clear hokc hokm
  have f7 := X3.out.cell 0 rfl
  have f8 := X3.out.cell 1 rfl
  have f9 := X3.out.cell 2 rfl
  have f10 := X3.out.cell 3 rfl
  have f11 := X3.out.cell 4 rfl
  have f12 := X3.out.cell 5 rfl
  have f13 := X3.out.cell 6 rfl
  have f14 := X3.out.cell 7 rfl
  have f15 := X3.out.cell 8 rfl
  have f16 := X4.out.cell 0 rfl
  have f17 := X4.out.cell 1 rfl
  have f18 := X4.out.cell 2 rfl
  have f19 := X4.out.cell 3 rfl
  have f20 := X4.out.cell 4 rfl
  rw [HW0.out] at f7 f8 f9 f10 f11 f12 f13 f14 f15 f16 f17 f18 f19 f20
  go_enter Tryz.func8, Tryz.ntmps8
  go_wp2_with fail
  rw [← HW0.out]
  rw [← HW0.out] at f7 f8 f9 f10 f11 f12 f13 f14 f15 f16 f17 f18 f19 f20
  clear f7 f8 f9 f10 f11 f12 f13 f14 f15 f16 f17 f18 f19 f20
  refine (HC.out _ hb0).mono ?_
  rintro e w1 ⟨rfl, hq1⟩
  have X21 := Lib.hid (X3.out.step hq1)
  have X22 := Lib.hid (X4.out.step hq1)
  have X23 := Lib.hid (X5.out.step hq1)
  have X24 := Lib.hid (X6.out.step hq1)
  have hb25 := bt hb0 hq1
  have Z26 : Hid (W1.heap.size ≤ w1.heap.size) := Lib.hid hq1.size
  clear X3 X4 X5 X6 hb0 hq1
  cases okc
  · have f27 := X23.out.cell 0 rfl
    have f28 := X23.out.cell 1 rfl
    have f29 := X23.out.cell 2 rfl
    have f30 := X23.out.cell 3 rfl
    have f31 := X23.out.cell 4 rfl
    have f32 := X23.out.cell 5 rfl
    have f33 := X23.out.cell 6 rfl
    have f34 := X23.out.cell 7 rfl
    have f35 := X23.out.cell 8 rfl
    have f36 := X24.out.cell 0 rfl
    have f37 := X24.out.cell 1 rfl
    have f38 := X24.out.cell 2 rfl
    have f39 := X24.out.cell 3 rfl
    have f40 := X24.out.cell 4 rfl
    have z41 := X23.out.frozen 0
    have z42 := X23.out.frozen 1
    have z43 := X23.out.frozen 2
    have z44 := X23.out.frozen 3
    have z45 := X23.out.frozen 4
    have z46 := X23.out.frozen 5
    have z47 := X23.out.frozen 6
    have z48 := X23.out.frozen 7
    have z49 := X23.out.frozen 8
    have z50 := X24.out.frozen 0
    have z51 := X24.out.frozen 1
    have z52 := X24.out.frozen 2
    have z53 := X24.out.frozen 3
    have z54 := X24.out.frozen 4
    go_wp2
    obtain ⟨W55, hW55⟩ : ∃ W55, W55 = (((((((((w1.setCell ⟨w.heap.size + 2, 0, none⟩ (.int .i64 0)).setCell ⟨w.heap.size + 2, 1, none⟩ (.int .i64 0)).setCell ⟨w.heap.size + 2, 2, none⟩ (.int .i64 0)).setCell ⟨w.heap.size + 2, 3, none⟩ (.int .i64 0)).setCell ⟨w.heap.size + 2, 4, none⟩ (.bool false)).setCell ⟨w.heap.size + 2, 5, none⟩ (.bool false)).setCell ⟨w.heap.size + 2, 6, none⟩ (.bool false)).setCell ⟨w.heap.size + 2, 7, none⟩ (.bool false)).setCell ⟨w.heap.size + 2, 8, none⟩ (.slice none 0 0)) := ⟨_, rfl⟩
    have hB56 : Btw (w.heap.size + 2) (w.heap.size + 2 + 1) w1 W55 := by rw [hW55]; exact (Btw.refl _ _ _).put.put.put.put.put.put.put.put.put
    have X57 : Hid (Box W55 (w.heap.size + 2) 25 #[.int .i64 0, .int .i64 0, .int .i64 0, .int .i64 0, .bool false, .bool false, .bool false, .bool false, .slice none 0 0]) := Lib.hid (by rw [hW55]; exact (X23.out.allN9 rfl _ _ _ _ _ _ _ _ _))
    have X58 := Lib.hid (X21.out.btw hB56 (by have := Z2.out; have := Z26.out; omega))
    have X59 := Lib.hid (X22.out.btw hB56 (by have := Z2.out; have := Z26.out; omega))
    have X60 := Lib.hid (X24.out.btw hB56 (by have := Z2.out; have := Z26.out; omega))
    have hb61 := Btw.lowSize hB56 hb25 (Nat.le_of_lt X23.out.lt) (by have := Z2.out; have := Z26.out; omega)
    have Z62 : Hid (w1.heap.size ≤ W55.heap.size) := Lib.hid hB56.size
    rw [← hW55]
    clear hW55 hB56 X23 X21 X22 X24 hb25
    obtain ⟨W63, hW63⟩ : ∃ W63, W63 = (((((W55.setCell ⟨w.heap.size + 3, 0, none⟩ (.slice none 0 0)).setCell ⟨w.heap.size + 3, 1, none⟩ (.slice none 0 0)).setCell ⟨w.heap.size + 3, 2, none⟩ (.slice none 0 0)).setCell ⟨w.heap.size + 3, 3, none⟩ (.slice none 0 0)).setCell ⟨w.heap.size + 3, 4, none⟩ (.int .i64 0)) := ⟨_, rfl⟩
    have hB64 : Btw (w.heap.size + 3) (w.heap.size + 3 + 1) W55 W63 := by rw [hW63]; exact (Btw.refl _ _ _).put.put.put.put.put
    have X65 : Hid (Box W63 (w.heap.size + 3) 31 #[.slice none 0 0, .slice none 0 0, .slice none 0 0, .slice none 0 0, .int .i64 0]) := Lib.hid (by rw [hW63]; exact (X60.out.allN5 rfl _ _ _ _ _))
    have X66 := Lib.hid (X58.out.btw hB64 (by have := Z2.out; have := Z26.out; have := Z62.out; omega))
    have X67 := Lib.hid (X59.out.btw hB64 (by have := Z2.out; have := Z26.out; have := Z62.out; omega))
    have X68 := Lib.hid (X57.out.btw hB64 (by have := Z2.out; have := Z26.out; have := Z62.out; omega))
    have hb69 := Btw.lowSize hB64 hb61 (Nat.le_of_lt X60.out.lt) (by have := Z2.out; have := Z26.out; have := Z62.out; omega)
    have Z70 : Hid (W55.heap.size ≤ W63.heap.size) := Lib.hid hB64.size
    rw [← hW63]
    clear hW63 hB64 X60 X58 X59 X57 hb61
    have r0 := X68.out
    have r1 := X65.out
    have s0 := r0.cell 0 rfl
    have s1 := r0.cell 1 rfl
    have s2 := r0.cell 2 rfl
    have s3 := r0.cell 3 rfl
    have s4 := r0.cell 4 rfl
    have s5 := r0.cell 5 rfl
    have s6 := r0.cell 6 rfl
    have s7 := r0.cell 7 rfl
    have s8 := r0.cell 8 rfl
    have t0 := r1.cell 0 rfl
    have t1 := r1.cell 1 rfl
    have t2 := r1.cell 2 rfl
    have t3 := r1.cell 3 rfl
    have t4 := r1.cell 4 rfl
    refine bodyPost_ret (v := .tuple #[.agg #[.int .i64 0, .int .i64 0, .int .i64 0, .int .i64 0, .bool false, .bool false, .bool false, .bool false, .slice none 0 0], .agg #[.slice none 0 0, .slice none 0 0, .slice none 0 0, .slice none 0 0, .int .i64 0], .int .i64 0, .int .i64 0, .int .i64 1]) (by simp [results, Tryz.results8, go_sem, s0, s1, s2, s3, s4, s5, s6, s7, s8, t0, t1, t2, t3, t4]) rfl ?_
    obtain ⟨g1, g2, g3, g4, g5⟩ := stp_bad (d := d) (m := m) (by rw [HKc.out]; rfl)
    rw [g1, g2, g3, g4, g5]
    exact ⟨none, none, none, none, none, 0, 0, 0, 0, 0, rfl, Lib.hid (ownA5_nil _ _ _ (by have := Z2.out; have := Z26.out; have := Z62.out; have := Z70.out; omega)), hb69⟩
  · have f27 := X22.out.cell 0 rfl
    have f28 := X22.out.cell 1 rfl
    have f29 := X22.out.cell 2 rfl
    have f30 := X22.out.cell 3 rfl
    have f31 := X22.out.cell 4 rfl
    go_wp2_with fail
    clear f27 f28 f29 f30 f31
    refine (HM.out _ hb25).mono ?_
    rintro e w2 ⟨rfl, hq2⟩
    have X32 := Lib.hid (X21.out.step hq2)
    have X33 := Lib.hid (X22.out.step hq2)
    have X34 := Lib.hid (X23.out.step hq2)
    have X35 := Lib.hid (X24.out.step hq2)
    have hb36 := bt hb25 hq2
    have Z37 : Hid (w1.heap.size ≤ w2.heap.size) := Lib.hid hq2.size
    clear X21 X22 X23 X24 hb25 hq2
    cases okm
    · have f38 := X34.out.cell 0 rfl
      have f39 := X34.out.cell 1 rfl
      have f40 := X34.out.cell 2 rfl
      have f41 := X34.out.cell 3 rfl
      have f42 := X34.out.cell 4 rfl
      have f43 := X34.out.cell 5 rfl
      have f44 := X34.out.cell 6 rfl
      have f45 := X34.out.cell 7 rfl
      have f46 := X34.out.cell 8 rfl
      have f47 := X35.out.cell 0 rfl
      have f48 := X35.out.cell 1 rfl
      have f49 := X35.out.cell 2 rfl
      have f50 := X35.out.cell 3 rfl
      have f51 := X35.out.cell 4 rfl
      have z52 := X34.out.frozen 0
      have z53 := X34.out.frozen 1
      have z54 := X34.out.frozen 2
      have z55 := X34.out.frozen 3
      have z56 := X34.out.frozen 4
      have z57 := X34.out.frozen 5
      have z58 := X34.out.frozen 6
      have z59 := X34.out.frozen 7
      have z60 := X34.out.frozen 8
      have z61 := X35.out.frozen 0
      have z62 := X35.out.frozen 1
      have z63 := X35.out.frozen 2
      have z64 := X35.out.frozen 3
      have z65 := X35.out.frozen 4
      go_wp2
      obtain ⟨W66, hW66⟩ : ∃ W66, W66 = (((((((((w2.setCell ⟨w.heap.size + 2, 0, none⟩ (.int .i64 0)).setCell ⟨w.heap.size + 2, 1, none⟩ (.int .i64 0)).setCell ⟨w.heap.size + 2, 2, none⟩ (.int .i64 0)).setCell ⟨w.heap.size + 2, 3, none⟩ (.int .i64 0)).setCell ⟨w.heap.size + 2, 4, none⟩ (.bool false)).setCell ⟨w.heap.size + 2, 5, none⟩ (.bool false)).setCell ⟨w.heap.size + 2, 6, none⟩ (.bool false)).setCell ⟨w.heap.size + 2, 7, none⟩ (.bool false)).setCell ⟨w.heap.size + 2, 8, none⟩ (.slice none 0 0)) := ⟨_, rfl⟩
      have hB67 : Btw (w.heap.size + 2) (w.heap.size + 2 + 1) w2 W66 := by rw [hW66]; exact (Btw.refl _ _ _).put.put.put.put.put.put.put.put.put
      have X68 : Hid (Box W66 (w.heap.size + 2) 25 #[.int .i64 0, .int .i64 0, .int .i64 0, .int .i64 0, .bool false, .bool false, .bool false, .bool false, .slice none 0 0]) := Lib.hid (by rw [hW66]; exact (X34.out.allN9 rfl _ _ _ _ _ _ _ _ _))
      have X69 := Lib.hid (X32.out.btw hB67 (by have := Z2.out; have := Z26.out; have := Z37.out; omega))
      have X70 := Lib.hid (X33.out.btw hB67 (by have := Z2.out; have := Z26.out; have := Z37.out; omega))
      have X71 := Lib.hid (X35.out.btw hB67 (by have := Z2.out; have := Z26.out; have := Z37.out; omega))
      have hb72 := Btw.lowSize hB67 hb36 (Nat.le_of_lt X34.out.lt) (by have := Z2.out; have := Z26.out; have := Z37.out; omega)
      have Z73 : Hid (w2.heap.size ≤ W66.heap.size) := Lib.hid hB67.size
      rw [← hW66]
      clear hW66 hB67 X34 X32 X33 X35 hb36
      obtain ⟨W74, hW74⟩ : ∃ W74, W74 = (((((W66.setCell ⟨w.heap.size + 3, 0, none⟩ (.slice none 0 0)).setCell ⟨w.heap.size + 3, 1, none⟩ (.slice none 0 0)).setCell ⟨w.heap.size + 3, 2, none⟩ (.slice none 0 0)).setCell ⟨w.heap.size + 3, 3, none⟩ (.slice none 0 0)).setCell ⟨w.heap.size + 3, 4, none⟩ (.int .i64 0)) := ⟨_, rfl⟩
      have hB75 : Btw (w.heap.size + 3) (w.heap.size + 3 + 1) W66 W74 := by rw [hW74]; exact (Btw.refl _ _ _).put.put.put.put.put
      have X76 : Hid (Box W74 (w.heap.size + 3) 31 #[.slice none 0 0, .slice none 0 0, .slice none 0 0, .slice none 0 0, .int .i64 0]) := Lib.hid (by rw [hW74]; exact (X71.out.allN5 rfl _ _ _ _ _))
      have X77 := Lib.hid (X69.out.btw hB75 (by have := Z2.out; have := Z26.out; have := Z37.out; have := Z73.out; omega))
      have X78 := Lib.hid (X70.out.btw hB75 (by have := Z2.out; have := Z26.out; have := Z37.out; have := Z73.out; omega))
      have X79 := Lib.hid (X68.out.btw hB75 (by have := Z2.out; have := Z26.out; have := Z37.out; have := Z73.out; omega))
      have hb80 := Btw.lowSize hB75 hb72 (Nat.le_of_lt X71.out.lt) (by have := Z2.out; have := Z26.out; have := Z37.out; have := Z73.out; omega)
      have Z81 : Hid (W66.heap.size ≤ W74.heap.size) := Lib.hid hB75.size
      rw [← hW74]
      clear hW74 hB75 X71 X69 X70 X68 hb72
      have r0 := X79.out
      have r1 := X76.out
      have s0 := r0.cell 0 rfl
      have s1 := r0.cell 1 rfl
      have s2 := r0.cell 2 rfl
      have s3 := r0.cell 3 rfl
      have s4 := r0.cell 4 rfl
      have s5 := r0.cell 5 rfl
      have s6 := r0.cell 6 rfl
      have s7 := r0.cell 7 rfl
      have s8 := r0.cell 8 rfl
      have t0 := r1.cell 0 rfl
      have t1 := r1.cell 1 rfl
      have t2 := r1.cell 2 rfl
      have t3 := r1.cell 3 rfl
      have t4 := r1.cell 4 rfl
      refine bodyPost_ret (v := .tuple #[.agg #[.int .i64 0, .int .i64 0, .int .i64 0, .int .i64 0, .bool false, .bool false, .bool false, .bool false, .slice none 0 0], .agg #[.slice none 0 0, .slice none 0 0, .slice none 0 0, .slice none 0 0, .int .i64 0], .int .i64 0, .int .i64 0, .int .i64 1]) (by simp [results, Tryz.results8, go_sem, s0, s1, s2, s3, s4, s5, s6, s7, s8, t0, t1, t2, t3, t4]) rfl ?_
      obtain ⟨g1, g2, g3, g4, g5⟩ := stp_bad (d := d) (m := m) (by rw [HKc.out, HKm.out]; rfl)
      rw [g1, g2, g3, g4, g5]
      exact ⟨none, none, none, none, none, 0, 0, 0, 0, 0, rfl, Lib.hid (ownA5_nil _ _ _ (by have := Z2.out; have := Z26.out; have := Z37.out; have := Z73.out; have := Z81.out; omega)), hb80⟩
    · have HKK : Hid ((d.ok && m.ok) = true) := Lib.hid (by rw [HKc.out, HKm.out]; rfl)
      have hok : d.Ok := CD.ok_iff.1 HKc.out
      have hom : m.Ok := MD.ok_iff.1 HKm.out
      obtain rfl : n = 16 := H.out.1.1.symm.trans hok.len
      obtain rfl : n0 = 256 := H.out.1.2.1.symm.trans hom.r
      obtain rfl : n1 = 32 := H.out.1.2.2.1.symm.trans hom.i
      obtain rfl : n2 = 256 := H.out.1.2.2.2.1.symm.trans hom.z
      obtain rfl : n3 = 16 := H.out.1.2.2.2.2.symm.trans hom.g
      have FC : Hid (RepC w2 A d) := Lib.hid ⟨hok, H.out.2.1.below hb36⟩
      have FM : Hid (RepM w2 A0 A1 A2 A3 m) := Lib.hid ⟨hom, H.out.2.2.1.below hb36, H.out.2.2.2.1.below hb36, H.out.2.2.2.2.1.below hb36, H.out.2.2.2.2.2.below hb36⟩
      have HG := Lib.hid (stp_ok (d := d) (m := m) HKK.out)
      have HLc := Lib.hid (CD.Ok.step hok m)
      have HLm := Lib.hid (MD.Ok.step hok hom)
      have HEn := Lib.hid (fun W (q : RepC W A d) (r : RepM W A0 A1 A2 A3 m) => l08StepS A c d A0 A1 A2 A3 c0 c1 c2 c3 m W q r)
      unfold ReadsCMNS at HEn
      generalize stepD d m = dF at HEn HLc HG ⊢
      generalize stepM d m = mF at HEn HLm HG ⊢
      generalize stepN d m = nF at HEn HG ⊢
      generalize stepS d m = sF at HEn HG ⊢
      clear hok hom H HKc HKm HKK
      have HOw := Lib.hid (fun Aa ca W (q : RepC W Aa dF) => l08Own Aa ca dF W q)
      unfold GivesC at HOw
      have HOm := Lib.hid (fun Ab Ac Ad Ae cb cc cd ce W (q : RepM W Ab Ac Ad Ae mF) => l05Own Ab Ac Ad Ae cb cc cd ce mF.r mF.i mF.z mF.g mF.s W q.1.r q.1.i q.1.z q.1.g q.2.1 q.2.2.1 q.2.2.2.1 q.2.2.2.2)
      unfold GivesMem at HOm
      have f38 := X32.out.cell 0 rfl
      have f39 := X32.out.cell 1 rfl
      have f40 := X32.out.cell 2 rfl
      have f41 := X32.out.cell 3 rfl
      have f42 := X32.out.cell 4 rfl
      have f43 := X32.out.cell 5 rfl
      have f44 := X32.out.cell 6 rfl
      have f45 := X32.out.cell 7 rfl
      have f46 := X32.out.cell 8 rfl
      have f47 := X33.out.cell 0 rfl
      have f48 := X33.out.cell 1 rfl
      have f49 := X33.out.cell 2 rfl
      have f50 := X33.out.cell 3 rfl
      have f51 := X33.out.cell 4 rfl
      go_wp2_with fail
      clear f38 f39 f40 f41 f42 f43 f44 f45 f46 f47 f48 f49 f50 f51
      refine (HEn.out _ FC.out FM.out).mono ?_
      rintro e w3 ⟨Aa, ca, Ab, Ac, Ad, Ae, cb, cc, cd, ce, rfl, NC, NM, hq3⟩
      have X52 := Lib.hid (X32.out.step hq3)
      have X53 := Lib.hid (X33.out.step hq3)
      have X54 := Lib.hid (X34.out.step hq3)
      have X55 := Lib.hid (X35.out.step hq3)
      have F56 := Lib.hid (FC.out.below hq3)
      have F57 := Lib.hid (FM.out.below hq3)
      have hb58 := bt hb36 hq3
      have Z59 : Hid (w2.heap.size ≤ w3.heap.size) := Lib.hid hq3.size
      clear X32 X33 X34 X35 FC FM hb36 hq3
      clear F56 F57 HEn
      obtain ⟨V, hV⟩ : ∃ V, V = ((w3.alloc (.cells #[.int .i64 dF.pc, .int .i64 dF.sp, .int .i64 dF.bank, .int .i64 dF.level, .bool dF.zero, .bool dF.carry, .bool dF.on, .bool dF.halt, .slice Aa 16 ca] 25)).alloc (.cells #[.slice Ab 256 cb, .slice Ac 32 cc, .slice Ad 256 cd, .slice Ae 16 ce, .int .i64 mF.s] 31)) := ⟨_, rfl⟩
      have hqV : Below w3.heap.size w3 V := by rw [hV]; exact bt (alloc_below _ _) (alloc_below _ _)
      have XV : Box V w3.heap.size 25 #[.int .i64 dF.pc, .int .i64 dF.sp, .int .i64 dF.bank, .int .i64 dF.level, .bool dF.zero, .bool dF.carry, .bool dF.on, .bool dF.halt, .slice Aa 16 ca] := by rw [hV]; exact (Box.new _ _ _).alloc _
      have YV : Box V (w3.heap.size + 1) 31 #[.slice Ab 256 cb, .slice Ac 32 cc, .slice Ad 256 cd, .slice Ae 16 ce, .int .i64 mF.s] := by rw [hV]; simpa using Box.new (w3.alloc (.cells #[.int .i64 dF.pc, .int .i64 dF.sp, .int .i64 dF.bank, .int .i64 dF.level, .bool dF.zero, .bool dF.carry, .bool dF.on, .bool dF.halt, .slice Aa 16 ca] 25)) 31 #[.slice Ab 256 cb, .slice Ac 32 cc, .slice Ad 256 cd, .slice Ae 16 ce, .int .i64 mF.s]
      have HV := Lib.hid hV
      clear hV
      have X60 := Lib.hid (X52.out.step hqV)
      have X61 := Lib.hid (X53.out.step hqV)
      have X62 := Lib.hid (X54.out.step hqV)
      have X63 := Lib.hid (X55.out.step hqV)
      have F64 := Lib.hid (NC.out.below hqV)
      have F65 := Lib.hid (NM.out.below hqV)
      have hb66 := bt hb58 hqV
      have Z67 : Hid (w3.heap.size ≤ V.heap.size) := Lib.hid hqV.size
      clear X52 X53 X54 X55 NC NM hb58 hqV
      have hdr : Below V.heap.size V V.drew := (Below.refl _ _).drew
      have HXV : Hid (Box V.drew w3.heap.size 25 #[.int .i64 dF.pc, .int .i64 dF.sp, .int .i64 dF.bank, .int .i64 dF.level, .bool dF.zero, .bool dF.carry, .bool dF.on, .bool dF.halt, .slice Aa 16 ca] ∧ Box V.drew (w3.heap.size + 1) 31 #[.slice Ab 256 cb, .slice Ac 32 cc, .slice Ad 256 cd, .slice Ae 16 ce, .int .i64 mF.s]) := Lib.hid ⟨XV.drew, YV.drew⟩
      clear XV YV
      have X68 := Lib.hid (X60.out.step hdr)
      have X69 := Lib.hid (X61.out.step hdr)
      have X70 := Lib.hid (X62.out.step hdr)
      have X71 := Lib.hid (X63.out.step hdr)
      have F72 := Lib.hid (F64.out.below hdr)
      have F73 := Lib.hid (F65.out.below hdr)
      have hb74 := bt hb66 hdr
      have Z75 : Hid (V.heap.size ≤ V.drew.heap.size) := Lib.hid hdr.size
      clear X60 X61 X62 X63 F64 F65 hb66 hdr
      have HK : Hid (∀ W, Box W w3.heap.size 25 #[.int .i64 dF.pc, .int .i64 dF.sp, .int .i64 dF.bank, .int .i64 dF.level, .bool dF.zero, .bool dF.carry, .bool dF.on, .bool dF.halt, .slice Aa 16 ca] ∧ Box W (w3.heap.size + 1) 31 #[.slice Ab 256 cb, .slice Ac 32 cc, .slice Ad 256 cd, .slice Ae 16 ce, .int .i64 mF.s] → W.cell? ⟨w3.heap.size, 0, none⟩ = some (.int .i64 dF.pc) ∧ W.cell? ⟨w3.heap.size, 1, none⟩ = some (.int .i64 dF.sp) ∧ W.cell? ⟨w3.heap.size, 2, none⟩ = some (.int .i64 dF.bank) ∧ W.cell? ⟨w3.heap.size, 3, none⟩ = some (.int .i64 dF.level) ∧ W.cell? ⟨w3.heap.size, 4, none⟩ = some (.bool dF.zero) ∧ W.cell? ⟨w3.heap.size, 5, none⟩ = some (.bool dF.carry) ∧ W.cell? ⟨w3.heap.size, 6, none⟩ = some (.bool dF.on) ∧ W.cell? ⟨w3.heap.size, 7, none⟩ = some (.bool dF.halt) ∧ W.cell? ⟨w3.heap.size, 8, none⟩ = some (.slice Aa 16 ca) ∧ W.cell? ⟨w3.heap.size + 1, 0, none⟩ = some (.slice Ab 256 cb) ∧ W.cell? ⟨w3.heap.size + 1, 1, none⟩ = some (.slice Ac 32 cc) ∧ W.cell? ⟨w3.heap.size + 1, 2, none⟩ = some (.slice Ad 256 cd) ∧ W.cell? ⟨w3.heap.size + 1, 3, none⟩ = some (.slice Ae 16 ce) ∧ W.cell? ⟨w3.heap.size + 1, 4, none⟩ = some (.int .i64 mF.s)) := Lib.hid (fun W X => ⟨X.1.cell 0 rfl, X.1.cell 1 rfl, X.1.cell 2 rfl, X.1.cell 3 rfl, X.1.cell 4 rfl, X.1.cell 5 rfl, X.1.cell 6 rfl, X.1.cell 7 rfl, X.1.cell 8 rfl, X.2.cell 0 rfl, X.2.cell 1 rfl, X.2.cell 2 rfl, X.2.cell 3 rfl, X.2.cell 4 rfl⟩)
      have f76 := X70.out.cell 0 rfl
      have f77 := X70.out.cell 1 rfl
      have f78 := X70.out.cell 2 rfl
      have f79 := X70.out.cell 3 rfl
      have f80 := X70.out.cell 4 rfl
      have f81 := X70.out.cell 5 rfl
      have f82 := X70.out.cell 6 rfl
      have f83 := X70.out.cell 7 rfl
      have f84 := X70.out.cell 8 rfl
      have f85 := X71.out.cell 0 rfl
      have f86 := X71.out.cell 1 rfl
      have f87 := X71.out.cell 2 rfl
      have f88 := X71.out.cell 3 rfl
      have f89 := X71.out.cell 4 rfl
      have z90 := X70.out.frozen 0
      have z91 := X70.out.frozen 1
      have z92 := X70.out.frozen 2
      have z93 := X70.out.frozen 3
      have z94 := X70.out.frozen 4
      have z95 := X70.out.frozen 5
      have z96 := X70.out.frozen 6
      have z97 := X70.out.frozen 7
      have z98 := X70.out.frozen 8
      have z99 := X71.out.frozen 0
      have z100 := X71.out.frozen 1
      have z101 := X71.out.frozen 2
      have z102 := X71.out.frozen 3
      have z103 := X71.out.frozen 4
      clear f76 f77 f78 f79 f80 f81 f82 f83 f84 f85 f86 f87 f88 f89 z90 z91 z92 z93 z94 z95 z96 z97 z98 z99 z100 z101 z102 z103
      go_wp2
      rw [← HV.out]
      go_region_held3 (fun W => W.cell? ⟨w3.heap.size, 0, none⟩ = some (.int .i64 dF.pc) ∧ W.cell? ⟨w3.heap.size, 1, none⟩ = some (.int .i64 dF.sp) ∧ W.cell? ⟨w3.heap.size, 2, none⟩ = some (.int .i64 dF.bank) ∧ W.cell? ⟨w3.heap.size, 3, none⟩ = some (.int .i64 dF.level) ∧ W.cell? ⟨w3.heap.size, 4, none⟩ = some (.bool dF.zero) ∧ W.cell? ⟨w3.heap.size, 5, none⟩ = some (.bool dF.carry) ∧ W.cell? ⟨w3.heap.size, 6, none⟩ = some (.bool dF.on) ∧ W.cell? ⟨w3.heap.size, 7, none⟩ = some (.bool dF.halt) ∧ W.cell? ⟨w3.heap.size, 8, none⟩ = some (.slice Aa 16 ca) ∧ W.cell? ⟨w3.heap.size + 1, 0, none⟩ = some (.slice Ab 256 cb) ∧ W.cell? ⟨w3.heap.size + 1, 1, none⟩ = some (.slice Ac 32 cc) ∧ W.cell? ⟨w3.heap.size + 1, 2, none⟩ = some (.slice Ad 256 cd) ∧ W.cell? ⟨w3.heap.size + 1, 3, none⟩ = some (.slice Ae 16 ce) ∧ W.cell? ⟨w3.heap.size + 1, 4, none⟩ = some (.int .i64 mF.s))
        (first | (with_reducible exact HK.out _ HXV.out) | (with_reducible exact HK.out _ HX1.out) | (with_reducible exact HK.out _ HX2.out) | (with_reducible exact HK.out _ HX3.out) | (with_reducible exact HK.out _ HX4.out))
        (first | (go_at_call 28; refine (HOw.out _ _ _ F72.out).mono ?_; rintro e' w4 ⟨B, e, rfl, O1, hq4⟩; have HX1 := Lib.hid (And.intro (HXV.out.1.step hq4) (HXV.out.2.step hq4))) | (go_at_call 29; refine (HOm.out _ _ _ _ _ _ _ _ _ (F73.out.below hq4)).mono ?_; rintro e' w5 ⟨B0, B1, B2, B3, e0, e1, e2, e3, rfl, O2, hq5⟩; have HX2 := Lib.hid (And.intro (HX1.out.1.step hq5) (HX1.out.2.step hq5)); have HY1 := Lib.hid ((X70.out.step hq4).step hq5); have HY2 := Lib.hid ((X71.out.step hq4).step hq5); have T1 : Btw (w.heap.size + 2) (w.heap.size + 2 + 1) w5 (((((((((w5.setCell ⟨w.heap.size + 2, 0, none⟩ (.int .i64 dF.pc)).setCell ⟨w.heap.size + 2, 1, none⟩ (.int .i64 dF.sp)).setCell ⟨w.heap.size + 2, 2, none⟩ (.int .i64 dF.bank)).setCell ⟨w.heap.size + 2, 3, none⟩ (.int .i64 dF.level)).setCell ⟨w.heap.size + 2, 4, none⟩ (.bool dF.zero)).setCell ⟨w.heap.size + 2, 5, none⟩ (.bool dF.carry)).setCell ⟨w.heap.size + 2, 6, none⟩ (.bool dF.on)).setCell ⟨w.heap.size + 2, 7, none⟩ (.bool dF.halt)).setCell ⟨w.heap.size + 2, 8, none⟩ (.slice B 16 e)) := (Btw.refl _ _ _).put.put.put.put.put.put.put.put.put; have T2 : Btw (w.heap.size + 3) (w.heap.size + 3 + 1) (((((((((w5.setCell ⟨w.heap.size + 2, 0, none⟩ (.int .i64 dF.pc)).setCell ⟨w.heap.size + 2, 1, none⟩ (.int .i64 dF.sp)).setCell ⟨w.heap.size + 2, 2, none⟩ (.int .i64 dF.bank)).setCell ⟨w.heap.size + 2, 3, none⟩ (.int .i64 dF.level)).setCell ⟨w.heap.size + 2, 4, none⟩ (.bool dF.zero)).setCell ⟨w.heap.size + 2, 5, none⟩ (.bool dF.carry)).setCell ⟨w.heap.size + 2, 6, none⟩ (.bool dF.on)).setCell ⟨w.heap.size + 2, 7, none⟩ (.bool dF.halt)).setCell ⟨w.heap.size + 2, 8, none⟩ (.slice B 16 e)) ((((((((((((((w5.setCell ⟨w.heap.size + 2, 0, none⟩ (.int .i64 dF.pc)).setCell ⟨w.heap.size + 2, 1, none⟩ (.int .i64 dF.sp)).setCell ⟨w.heap.size + 2, 2, none⟩ (.int .i64 dF.bank)).setCell ⟨w.heap.size + 2, 3, none⟩ (.int .i64 dF.level)).setCell ⟨w.heap.size + 2, 4, none⟩ (.bool dF.zero)).setCell ⟨w.heap.size + 2, 5, none⟩ (.bool dF.carry)).setCell ⟨w.heap.size + 2, 6, none⟩ (.bool dF.on)).setCell ⟨w.heap.size + 2, 7, none⟩ (.bool dF.halt)).setCell ⟨w.heap.size + 2, 8, none⟩ (.slice B 16 e)).setCell ⟨w.heap.size + 3, 0, none⟩ (.slice B0 256 e0)).setCell ⟨w.heap.size + 3, 1, none⟩ (.slice B1 32 e1)).setCell ⟨w.heap.size + 3, 2, none⟩ (.slice B2 256 e2)).setCell ⟨w.heap.size + 3, 3, none⟩ (.slice B3 16 e3)).setCell ⟨w.heap.size + 3, 4, none⟩ (.int .i64 mF.s)) := (Btw.refl _ _ _).put.put.put.put.put; have HX3 := Lib.hid (And.intro (HX2.out.1.btw T1 (by have := Z2.out; have := Z26.out; have := Z37.out; have := Z59.out; have := Z67.out; have := Z75.out; omega)) (HX2.out.2.btw T1 (by have := Z2.out; have := Z26.out; have := Z37.out; have := Z59.out; have := Z67.out; have := Z75.out; omega))); have HX4 := Lib.hid (And.intro (HX3.out.1.btw T2 (by have := Z2.out; have := Z26.out; have := Z37.out; have := Z59.out; have := Z67.out; have := Z75.out; omega)) (HX3.out.2.btw T2 (by have := Z2.out; have := Z26.out; have := Z37.out; have := Z59.out; have := Z67.out; have := Z75.out; omega))); have g0 := HY1.out.cell 0 rfl; have y0 := HY1.out.frozen 0; have g1 := HY1.out.cell 1 rfl; have y1 := HY1.out.frozen 1; have g2 := HY1.out.cell 2 rfl; have y2 := HY1.out.frozen 2; have g3 := HY1.out.cell 3 rfl; have y3 := HY1.out.frozen 3; have g4 := HY1.out.cell 4 rfl; have y4 := HY1.out.frozen 4; have g5 := HY1.out.cell 5 rfl; have y5 := HY1.out.frozen 5; have g6 := HY1.out.cell 6 rfl; have y6 := HY1.out.frozen 6; have g7 := HY1.out.cell 7 rfl; have y7 := HY1.out.frozen 7; have g8 := HY1.out.cell 8 rfl; have y8 := HY1.out.frozen 8; have k0 := HY2.out.cell 0 rfl; have z0 := HY2.out.frozen 0; have k1 := HY2.out.cell 1 rfl; have z1 := HY2.out.frozen 1; have k2 := HY2.out.cell 2 rfl; have z2 := HY2.out.frozen 2; have k3 := HY2.out.cell 3 rfl; have z3 := HY2.out.frozen 3; have k4 := HY2.out.cell 4 rfl; have z4 := HY2.out.frozen 4))
      go_wp2
      obtain ⟨V1, hV1⟩ : ∃ V1, V1 = (((((((((w5.setCell ⟨w.heap.size + 2, 0, none⟩ (.int .i64 dF.pc)).setCell ⟨w.heap.size + 2, 1, none⟩ (.int .i64 dF.sp)).setCell ⟨w.heap.size + 2, 2, none⟩ (.int .i64 dF.bank)).setCell ⟨w.heap.size + 2, 3, none⟩ (.int .i64 dF.level)).setCell ⟨w.heap.size + 2, 4, none⟩ (.bool dF.zero)).setCell ⟨w.heap.size + 2, 5, none⟩ (.bool dF.carry)).setCell ⟨w.heap.size + 2, 6, none⟩ (.bool dF.on)).setCell ⟨w.heap.size + 2, 7, none⟩ (.bool dF.halt)).setCell ⟨w.heap.size + 2, 8, none⟩ (.slice B 16 e)) := ⟨_, rfl⟩
      have U1 : Btw (w.heap.size + 2) (w.heap.size + 2 + 1) w5 V1 := by rw [hV1]; exact (Btw.refl _ _ _).put.put.put.put.put.put.put.put.put
      have HYa : Hid (Box V1 (w.heap.size + 2) 25 #[.int .i64 dF.pc, .int .i64 dF.sp, .int .i64 dF.bank, .int .i64 dF.level, .bool dF.zero, .bool dF.carry, .bool dF.on, .bool dF.halt, .slice B 16 e]) := Lib.hid (by rw [hV1]; exact HY1.out.allN9 rfl _ _ _ _ _ _ _ _ _)
      have HYb : Hid (Box V1 (w.heap.size + 3) 31 #[.slice none 0 0, .slice none 0 0, .slice none 0 0, .slice none 0 0, .int .i64 0]) := Lib.hid (HY2.out.btw U1 (by omega))
      rw [← hV1]
      obtain ⟨V2, hV2⟩ : ∃ V2, V2 = (((((V1.setCell ⟨w.heap.size + 3, 0, none⟩ (.slice B0 256 e0)).setCell ⟨w.heap.size + 3, 1, none⟩ (.slice B1 32 e1)).setCell ⟨w.heap.size + 3, 2, none⟩ (.slice B2 256 e2)).setCell ⟨w.heap.size + 3, 3, none⟩ (.slice B3 16 e3)).setCell ⟨w.heap.size + 3, 4, none⟩ (.int .i64 mF.s)) := ⟨_, rfl⟩
      have U2 : Btw (w.heap.size + 3) (w.heap.size + 3 + 1) V1 V2 := by rw [hV2]; exact (Btw.refl _ _ _).put.put.put.put.put
      have r1 : Box V2 (w.heap.size + 3) 31 #[.slice B0 256 e0, .slice B1 32 e1, .slice B2 256 e2, .slice B3 16 e3, .int .i64 mF.s] := by rw [hV2]; exact HYb.out.allN5 rfl _ _ _ _ _
      have r0 : Box V2 (w.heap.size + 2) 25 #[.int .i64 dF.pc, .int .i64 dF.sp, .int .i64 dF.bank, .int .i64 dF.level, .bool dF.zero, .bool dF.carry, .bool dF.on, .bool dF.halt, .slice B 16 e] := HYa.out.btw U2 (by omega)
      rw [← hV2]
      clear hV1 hV2
      have s0 := r0.cell 0 rfl
      have s1 := r0.cell 1 rfl
      have s2 := r0.cell 2 rfl
      have s3 := r0.cell 3 rfl
      have s4 := r0.cell 4 rfl
      have s5 := r0.cell 5 rfl
      have s6 := r0.cell 6 rfl
      have s7 := r0.cell 7 rfl
      have s8 := r0.cell 8 rfl
      have t0 := r1.cell 0 rfl
      have t1 := r1.cell 1 rfl
      have t2 := r1.cell 2 rfl
      have t3 := r1.cell 3 rfl
      have t4 := r1.cell 4 rfl
      refine bodyPost_ret (v := .tuple #[.agg #[.int .i64 dF.pc, .int .i64 dF.sp, .int .i64 dF.bank, .int .i64 dF.level, .bool dF.zero, .bool dF.carry, .bool dF.on, .bool dF.halt, .slice B 16 e], .agg #[.slice B0 256 e0, .slice B1 32 e1, .slice B2 256 e2, .slice B3 16 e3, .int .i64 mF.s], .int .i64 nF, .int .i64 sF, .int .i64 0]) (by simp [results, Tryz.results8, go_sem, s0, s1, s2, s3, s4, s5, s6, s7, s8, t0, t1, t2, t3, t4]) rfl ?_
      have EB := Lib.hid (OwnA.append (OwnA.one (w := w5) (d := .I dF.regs) (v := .slice B 16 e) ⟨B, e, by rw [HLc.out.len], O1.out.below hq5⟩) O2.out (.inl (Nat.le_refl _)) (L := w.heap.size + 4) (R := w5.heap.size) (by have := Z2.out; have := Z26.out; have := Z37.out; have := Z59.out; have := Z67.out; have := Z75.out; show w.heap.size + 4 ≤ V.heap.size; omega) (by have := Z2.out; have := Z26.out; have := Z37.out; have := Z59.out; have := Z67.out; have := Z75.out; have := hq4.size; show w.heap.size + 4 ≤ w4.heap.size; have q : V.heap.size ≤ w4.heap.size := hq4.size; omega) hq5.size (Nat.le_refl _))
      have EV := Lib.hid ((EB.out.btw U1 (.inr (by omega))).btw U2 (.inr (by omega)))
      have hfin := Btw.lowSize U2 (Btw.lowSize U1 (bt (bt hb74 hq4) hq5) (Nat.le_of_lt HY1.out.lt) (by omega)) (Nat.le_of_lt HYb.out.lt) (by omega)
      rw [HG.out.1, HG.out.2.1, HG.out.2.2.1, HG.out.2.2.2.1, HG.out.2.2.2.2]
      refine ⟨B, B0, B1, B2, B3, e, e0, e1, e2, e3, ?_, Lib.hid ?_, hfin⟩
      · rw [HLc.out.len, HLm.out.r, HLm.out.i, HLm.out.z, HLm.out.g]
      · rw [HLc.out.len, HLm.out.r, HLm.out.i, HLm.out.z, HLm.out.g]
        exact EV.out.wide (by omega) (Nat.le_trans U1.size U2.size)
end Go.Proofs.YtcchhbkbnbphhaaGreatDoor
