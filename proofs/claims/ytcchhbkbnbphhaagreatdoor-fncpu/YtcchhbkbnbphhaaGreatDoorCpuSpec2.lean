/- The model's processor: flags, an interrupt, its own registers. Written by gen_cpuspec2.py. -/
import Derived.Test.YtcchhbkbnbphhaaGreatDoorCpuSpec
import Derived.BigQuiet
import Derived.Deep.QuietTactic
namespace Go.Proofs.YtcchhbkbnbphhaaGreatDoor
open Go.RowKit

theorem arr34 (T : Array Value) (h : T.size = 34) : ∃ t0 t1 t2 t3 t4 t5 t6 t7 t8 t9 t10 t11 t12 t13 t14 t15 t16 t17 t18 t19 t20 t21 t22 t23 t24 t25 t26 t27 t28 t29 t30 t31 t32 t33 : Value, T = #[t0, t1, t2, t3, t4, t5, t6, t7, t8, t9, t10, t11, t12, t13, t14, t15, t16, t17, t18, t19, t20, t21, t22, t23, t24, t25, t26, t27, t28, t29, t30, t31, t32, t33] := by
  obtain ⟨l⟩ := T
  match l, h with
  | t0 :: t1 :: t2 :: t3 :: t4 :: t5 :: t6 :: t7 :: t8 :: t9 :: t10 :: t11 :: t12 :: t13 :: t14 :: t15 :: t16 :: t17 :: t18 :: t19 :: t20 :: t21 :: t22 :: t23 :: t24 :: t25 :: t26 :: t27 :: t28 :: t29 :: t30 :: t31 :: t32 :: t33 :: [], _ => exact ⟨t0, t1, t2, t3, t4, t5, t6, t7, t8, t9, t10, t11, t12, t13, t14, t15, t16, t17, t18, t19, t20, t21, t22, t23, t24, t25, t26, t27, t28, t29, t30, t31, t32, t33, rfl⟩

def GivesC (d : CD) (w : World) (e : Ending) (w' : World) : Prop :=
  ∃ A c, e = .returned (.agg #[.int .i64 d.pc, .int .i64 d.sp, .int .i64 d.bank, .int .i64 d.level, .bool d.zero, .bool d.carry, .bool d.on, .bool d.halt, .slice A 16 c]) ∧ Hid (OwnI w' w.heap.size w'.heap.size A d.regs) ∧ Below w.heap.size w w'

set_option maxRecDepth 100000 in
set_option maxHeartbeats 4000000 in
theorem l08Own (A : Option Addr) (c : Nat) (d : CD) (w : World) (hc : RepC w A d) :
    Calls Tryz.prog 28 #[.agg #[.int .i64 d.pc, .int .i64 d.sp, .int .i64 d.bank, .int .i64 d.level, .bool d.zero, .bool d.carry, .bool d.on, .bool d.halt, .slice A 16 c]] w (GivesC d w) := by
  obtain ⟨W1, hW1⟩ : ∃ W1, W1 = ((w.alloc (.cells #[.int .i64 d.pc, .int .i64 d.sp, .int .i64 d.bank, .int .i64 d.level, .bool d.zero, .bool d.carry, .bool d.on, .bool d.halt, .slice A 16 c] 25)).alloc (.cells #[.int .i64 0, .int .i64 0, .int .i64 0, .int .i64 0, .bool false, .bool false, .bool false, .bool false, .slice none 0 0] 25)) := ⟨_, rfl⟩
  have hb0 : Below w.heap.size w W1 := by rw [hW1]; exact (((Below.refl _ _).alloc (Nat.le_refl _) _).alloc (by simp; try omega) _)
  have Z2 : Hid (W1.heap.size = w.heap.size + 2) := Lib.hid (by rw [hW1]; simp)
  have X3 : Hid (Box W1 (w.heap.size) 25 #[.int .i64 d.pc, .int .i64 d.sp, .int .i64 d.bank, .int .i64 d.level, .bool d.zero, .bool d.carry, .bool d.on, .bool d.halt, .slice A 16 c]) := Lib.hid (by rw [hW1]; exact ((Box.new w 25 #[.int .i64 d.pc, .int .i64 d.sp, .int .i64 d.bank, .int .i64 d.level, .bool d.zero, .bool d.carry, .bool d.on, .bool d.halt, .slice A 16 c]).alloc _))
  have X4 : Hid (Box W1 (w.heap.size + 1) 25 #[.int .i64 0, .int .i64 0, .int .i64 0, .int .i64 0, .bool false, .bool false, .bool false, .bool false, .slice none 0 0]) := Lib.hid (by rw [hW1]; simpa using (Box.new (w.alloc (.cells #[.int .i64 d.pc, .int .i64 d.sp, .int .i64 d.bank, .int .i64 d.level, .bool d.zero, .bool d.carry, .bool d.on, .bool d.halt, .slice A 16 c] 25)) 25 #[.int .i64 0, .int .i64 0, .int .i64 0, .int .i64 0, .bool false, .bool false, .bool false, .bool false, .slice none 0 0]))
  have HW0 := Lib.hid hW1
  clear hW1
  have HS := Lib.hid (fun W (hb : Below w.heap.size w W) => (hc.2.below hb).src (by rw [hc.1.len]; decide))
  have HC : Hid ((cellsI d.regs).length = 16 * 1) := Lib.hid (by rw [cellsI_len, hc.1.len])
  have hba := bt hb0 (alloc_below W1 (.cells #[] 3))
  have x0 : (W1.alloc (.cells #[] 3)).cell? ⟨w.heap.size, 0, none⟩ = some (.int .i64 d.pc) := (X3.out.alloc _).cell 0 rfl
  have x1 : (W1.alloc (.cells #[] 3)).cell? ⟨w.heap.size, 1, none⟩ = some (.int .i64 d.sp) := (X3.out.alloc _).cell 1 rfl
  have x2 : (W1.alloc (.cells #[] 3)).cell? ⟨w.heap.size, 2, none⟩ = some (.int .i64 d.bank) := (X3.out.alloc _).cell 2 rfl
  have x3 : (W1.alloc (.cells #[] 3)).cell? ⟨w.heap.size, 3, none⟩ = some (.int .i64 d.level) := (X3.out.alloc _).cell 3 rfl
  have x4 : (W1.alloc (.cells #[] 3)).cell? ⟨w.heap.size, 4, none⟩ = some (.bool d.zero) := (X3.out.alloc _).cell 4 rfl
  have x5 : (W1.alloc (.cells #[] 3)).cell? ⟨w.heap.size, 5, none⟩ = some (.bool d.carry) := (X3.out.alloc _).cell 5 rfl
  have x6 : (W1.alloc (.cells #[] 3)).cell? ⟨w.heap.size, 6, none⟩ = some (.bool d.on) := (X3.out.alloc _).cell 6 rfl
  have x7 : (W1.alloc (.cells #[] 3)).cell? ⟨w.heap.size, 7, none⟩ = some (.bool d.halt) := (X3.out.alloc _).cell 7 rfl
  have x8 : (W1.alloc (.cells #[] 3)).cell? ⟨w.heap.size, 8, none⟩ = some (.slice A 16 c) := (X3.out.alloc _).cell 8 rfl
  have hsz : w.heap.size ≤ W1.heap.size := by have := Z2.out; omega
  clear hc
  go_enter Tryz.func28, Tryz.ntmps28
  rw [HW0.out] at x0 x1 x2 x3 x4 x5 x6 x7 x8
  go_wp2_with (first | (with_reducible refine wpList_app_fresh rfl (.tmp 3) (.tmp 5) 23 rfl 3 (.int .i64 0) 1 8 Tryz.underlying23 infoIx rfl (by decide) _ rfl A 16 c (by omega) (cellsI d.regs) rfl HC.out (by rw [← HW0.out]; exact HS.out _ hba) (by unfold maxLen; omega) (by omega) ?_))
  rw [← HW0.out]
  intro B e w1 hb1 O1
  have hk1 := (alloc_below W1 (.cells #[] 3)).trans (hb1.mono (by have := Z2.out; omega))
  have FO := Lib.hid (ownI_fresh (lo := w.heap.size) O1.out (by omega) (by omega))
  clear x0 x1 x2 x3 x4 x5 x6 x7 x8 HS HC hba O1 hb1 hsz
  have X5 := Lib.hid (X3.out.step hk1)
  have X6 := Lib.hid (X4.out.step hk1)
  have hb7 := bt hb0 hk1
  have Z8 : Hid (W1.heap.size ≤ w1.heap.size) := Lib.hid hk1.size
  clear X3 X4 hb0 hk1
  have f9 := X5.out.cell 0 rfl
  have f10 := X5.out.cell 1 rfl
  have f11 := X5.out.cell 2 rfl
  have f12 := X5.out.cell 3 rfl
  have f13 := X5.out.cell 4 rfl
  have f14 := X5.out.cell 5 rfl
  have f15 := X5.out.cell 6 rfl
  have f16 := X5.out.cell 7 rfl
  have f17 := X5.out.cell 8 rfl
  have f18 := X6.out.cell 0 rfl
  have f19 := X6.out.cell 1 rfl
  have f20 := X6.out.cell 2 rfl
  have f21 := X6.out.cell 3 rfl
  have f22 := X6.out.cell 4 rfl
  have f23 := X6.out.cell 5 rfl
  have f24 := X6.out.cell 6 rfl
  have f25 := X6.out.cell 7 rfl
  have f26 := X6.out.cell 8 rfl
  have z27 := X5.out.frozen 0
  have z28 := X5.out.frozen 1
  have z29 := X5.out.frozen 2
  have z30 := X5.out.frozen 3
  have z31 := X5.out.frozen 4
  have z32 := X5.out.frozen 5
  have z33 := X5.out.frozen 6
  have z34 := X5.out.frozen 7
  have z35 := X5.out.frozen 8
  have z36 := X6.out.frozen 0
  have z37 := X6.out.frozen 1
  have z38 := X6.out.frozen 2
  have z39 := X6.out.frozen 3
  have z40 := X6.out.frozen 4
  have z41 := X6.out.frozen 5
  have z42 := X6.out.frozen 6
  have z43 := X6.out.frozen 7
  have z44 := X6.out.frozen 8
  go_wp2
  obtain ⟨W45, hW45⟩ : ∃ W45, W45 = (w1.setCell ⟨w.heap.size, 8, none⟩ (.slice B 16 e)) := ⟨_, rfl⟩
  have hB46 : Btw (w.heap.size) (w.heap.size + 1) w1 W45 := by rw [hW45]; exact ((Btw.refl _ _ _).setCell (p := ⟨w.heap.size, 8, none⟩) (Nat.le_refl _) (Nat.lt_succ_self _) _)
  have X47 : Hid (Box W45 (w.heap.size) 25 #[.int .i64 d.pc, .int .i64 d.sp, .int .i64 d.bank, .int .i64 d.level, .bool d.zero, .bool d.carry, .bool d.on, .bool d.halt, .slice B 16 e]) := Lib.hid (by rw [hW45]; exact (X5.out.set 8 _))
  have X48 := Lib.hid (X6.out.btw hB46 (by have := Z2.out; have := Z8.out; omega))
  have F49 := Lib.hid (FO.out.awayB X5.out (by decide) hB46)
  have hb50 := Btw.lowSize hB46 hb7 (Nat.le_of_lt X5.out.lt) (by have := Z2.out; have := Z8.out; omega)
  have Z51 : Hid (w1.heap.size ≤ W45.heap.size) := Lib.hid hB46.size
  rw [← hW45]
  clear hW45 hB46 X5 X6 FO hb7
  obtain ⟨W52, hW52⟩ : ∃ W52, W52 = (((((((((W45.setCell ⟨w.heap.size + 1, 0, none⟩ (.int .i64 d.pc)).setCell ⟨w.heap.size + 1, 1, none⟩ (.int .i64 d.sp)).setCell ⟨w.heap.size + 1, 2, none⟩ (.int .i64 d.bank)).setCell ⟨w.heap.size + 1, 3, none⟩ (.int .i64 d.level)).setCell ⟨w.heap.size + 1, 4, none⟩ (.bool d.zero)).setCell ⟨w.heap.size + 1, 5, none⟩ (.bool d.carry)).setCell ⟨w.heap.size + 1, 6, none⟩ (.bool d.on)).setCell ⟨w.heap.size + 1, 7, none⟩ (.bool d.halt)).setCell ⟨w.heap.size + 1, 8, none⟩ (.slice B 16 e)) := ⟨_, rfl⟩
  have hB53 : Btw (w.heap.size + 1) (w.heap.size + 1 + 1) W45 W52 := by rw [hW52]; exact ((((((((((Btw.refl _ _ _).setCell (p := ⟨w.heap.size + 1, 0, none⟩) (Nat.le_refl _) (Nat.lt_succ_self _) _).setCell (p := ⟨w.heap.size + 1, 1, none⟩) (Nat.le_refl _) (Nat.lt_succ_self _) _).setCell (p := ⟨w.heap.size + 1, 2, none⟩) (Nat.le_refl _) (Nat.lt_succ_self _) _).setCell (p := ⟨w.heap.size + 1, 3, none⟩) (Nat.le_refl _) (Nat.lt_succ_self _) _).setCell (p := ⟨w.heap.size + 1, 4, none⟩) (Nat.le_refl _) (Nat.lt_succ_self _) _).setCell (p := ⟨w.heap.size + 1, 5, none⟩) (Nat.le_refl _) (Nat.lt_succ_self _) _).setCell (p := ⟨w.heap.size + 1, 6, none⟩) (Nat.le_refl _) (Nat.lt_succ_self _) _).setCell (p := ⟨w.heap.size + 1, 7, none⟩) (Nat.le_refl _) (Nat.lt_succ_self _) _).setCell (p := ⟨w.heap.size + 1, 8, none⟩) (Nat.le_refl _) (Nat.lt_succ_self _) _)
  have X54 : Hid (Box W52 (w.heap.size + 1) 25 #[.int .i64 d.pc, .int .i64 d.sp, .int .i64 d.bank, .int .i64 d.level, .bool d.zero, .bool d.carry, .bool d.on, .bool d.halt, .slice B 16 e]) := Lib.hid (by rw [hW52]; exact (X48.out.allN9 rfl _ _ _ _ _ _ _ _ _))
  have X55 := Lib.hid (X47.out.btw hB53 (by have := Z2.out; have := Z8.out; have := Z51.out; omega))
  have F56 := Lib.hid (F49.out.awayB X48.out (by decide) hB53)
  have hb57 := Btw.lowSize hB53 hb50 (Nat.le_of_lt X48.out.lt) (by have := Z2.out; have := Z8.out; have := Z51.out; omega)
  have Z58 : Hid (W45.heap.size ≤ W52.heap.size) := Lib.hid hB53.size
  rw [← hW52]
  clear hW52 hB53 X48 X47 F49 hb50
  have r0 := X54.out
  have s0 := r0.cell 0 rfl
  have s1 := r0.cell 1 rfl
  have s2 := r0.cell 2 rfl
  have s3 := r0.cell 3 rfl
  have s4 := r0.cell 4 rfl
  have s5 := r0.cell 5 rfl
  have s6 := r0.cell 6 rfl
  have s7 := r0.cell 7 rfl
  have s8 := r0.cell 8 rfl
  refine bodyPost_ret (v := .agg #[.int .i64 d.pc, .int .i64 d.sp, .int .i64 d.bank, .int .i64 d.level, .bool d.zero, .bool d.carry, .bool d.on, .bool d.halt, .slice B 16 e]) (by simp [results, Tryz.results28, go_sem, s0, s1, s2, s3, s4, s5, s6, s7, s8]) rfl ?_
  exact ⟨B, e, rfl, Lib.hid (F56.out.wideB (Nat.le_refl _) (by have := Z2.out; have := Z8.out; have := Z51.out; have := Z58.out; omega)), hb57⟩
end Go.Proofs.YtcchhbkbnbphhaaGreatDoor
