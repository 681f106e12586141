/- The model's processor: a register, pulling, returning, the flags, a register set, the arithmetic. Written by gen_cpustep.py. -/
import Derived.Test.YtcchhbkbnbphhaaGreatDoorCpuSpec2
import Derived.Test.YtcchhbkbnbphhaaGreatDoorCpuOk
import Derived.Deep.RegionHeld3
import Derived.Deep.Cut
namespace Go.Proofs.YtcchhbkbnbphhaaGreatDoor
open Go.RowKit

def ReadsC (d : CD) (w : World) (e : Ending) (w' : World) : Prop :=
  ∃ A c, e = .returned (.agg #[.int .i64 d.pc, .int .i64 d.sp, .int .i64 d.bank, .int .i64 d.level, .bool d.zero, .bool d.carry, .bool d.on, .bool d.halt, .slice A 16 c]) ∧ Hid (RepC w' A d) ∧ Below w.heap.size w w'
def ReadsCI (d : CD) (v : Int) (w : World) (e : Ending) (w' : World) : Prop :=
  ∃ A c, e = .returned (.tuple #[.agg #[.int .i64 d.pc, .int .i64 d.sp, .int .i64 d.bank, .int .i64 d.level, .bool d.zero, .bool d.carry, .bool d.on, .bool d.halt, .slice A 16 c], .int .i64 v]) ∧ Hid (RepC w' A d) ∧ Below w.heap.size w w'
set_option maxRecDepth 100000 in
theorem l08RegS (A : Option Addr) (c : Nat) (d : CD) (k : Int) (w : World) (hk : 0 ≤ k ∧ k ≤ 3) (hc : RepC w A d) :
    Calls Tryz.prog 67 #[.agg #[.int .i64 d.pc, .int .i64 d.sp, .int .i64 d.bank, .int .i64 d.level, .bool d.zero, .bool d.carry, .bool d.on, .bool d.halt, .slice A 16 c], .int .i64 k] w fun e w' => e = .returned (.int .i64 (d.reg k)) ∧ Below w.heap.size w w' := by
  have h2 := hc.1.bank
  obtain ⟨j, hj⟩ : ∃ j : Nat, 4 * d.bank + k = j := ⟨(4 * d.bank + k).toNat, by omega⟩
  have hv : d.reg k = d.regs.getD j 0 := by unfold CD.reg; rw [hj]; rfl
  rw [hv]
  exact l08RegL0 A c d.pc d.sp d.bank d.level d.zero d.carry d.on d.halt w k j _ hj (by omega) h2.1 h2.2 hk.1 hk.2 (fun W hb => (hc.below hb).2 j (by rw [hc.1.len]; omega))
theorem and_32 (v : Nat) (h : v ≤ 255) : (decide (bits .and .i64 (v : Int) 32 > 0)) = decide ((v : Int) / 32 % 2 = 1) := by
  have q : (List.range 256).all (fun v : Nat => (decide (bits .and .i64 (v : Int) 32 > 0)) == decide ((v : Int) / 32 % 2 = 1)) = true := by kernel_rfl
  exact eq_of_beq (List.all_eq_true.1 q v (List.mem_range.2 (by omega)))
theorem and_64 (v : Nat) (h : v ≤ 255) : (decide (bits .and .i64 (v : Int) 64 > 0)) = decide ((v : Int) / 64 % 2 = 1) := by
  have q : (List.range 256).all (fun v : Nat => (decide (bits .and .i64 (v : Int) 64 > 0)) == decide ((v : Int) / 64 % 2 = 1)) = true := by kernel_rfl
  exact eq_of_beq (List.all_eq_true.1 q v (List.mem_range.2 (by omega)))
theorem and_128 (v : Nat) (h : v ≤ 255) : (decide (bits .and .i64 (v : Int) 128 > 0)) = decide ((v : Int) / 128 % 2 = 1) := by
  have q : (List.range 256).all (fun v : Nat => (decide (bits .and .i64 (v : Int) 128 > 0)) == decide ((v : Int) / 128 % 2 = 1)) = true := by kernel_rfl
  exact eq_of_beq (List.all_eq_true.1 q v (List.mem_range.2 (by omega)))

set_option maxRecDepth 100000 in
set_option maxHeartbeats 4000000 in
theorem l08PullS (A : Option Addr) (c : Nat) (d : CD) (A0 A1 A2 A3 : Option Addr) (c0 c1 c2 c3 : Nat) (m : MD) (w : World) (hc : RepC w A d) (hm : RepM w A0 A1 A2 A3 m) :
    Calls Tryz.prog 63 #[.agg #[.int .i64 d.pc, .int .i64 d.sp, .int .i64 d.bank, .int .i64 d.level, .bool d.zero, .bool d.carry, .bool d.on, .bool d.halt, .slice A 16 c], .agg #[.slice A0 256 c0, .slice A1 32 c1, .slice A2 256 c2, .slice A3 16 c3, .int .i64 m.s]] w (ReadsCI d.up (m.get ((d.sp + 1) % 256)) w) := by
  obtain ⟨W1, hW1⟩ : ∃ W1, W1 = (((w.alloc (.cells #[.int .i64 d.pc, .int .i64 ((d.sp + 1) % 256), .int .i64 d.bank, .int .i64 d.level, .bool d.zero, .bool d.carry, .bool d.on, .bool d.halt, .slice A 16 c] 25)).alloc (.cells #[.slice A0 256 c0, .slice A1 32 c1, .slice A2 256 c2, .slice A3 16 c3, .int .i64 m.s] 31)).alloc (.cells #[.int .i64 0, .int .i64 0, .int .i64 0, .int .i64 0, .bool false, .bool false, .bool false, .bool false, .slice none 0 0] 25)) := ⟨_, rfl⟩
  have hb0 : Below w.heap.size w W1 := by rw [hW1]; exact ((((Below.refl _ _).alloc (Nat.le_refl _) _).alloc (by simp; try omega) _).alloc (by simp; try omega) _)
  have Z2 : Hid (W1.heap.size = w.heap.size + 3) := Lib.hid (by rw [hW1]; simp)
  have X3 : Hid (Box W1 (w.heap.size) 25 #[.int .i64 d.pc, .int .i64 ((d.sp + 1) % 256), .int .i64 d.bank, .int .i64 d.level, .bool d.zero, .bool d.carry, .bool d.on, .bool d.halt, .slice A 16 c]) := Lib.hid (by rw [hW1]; exact (((Box.new w 25 #[.int .i64 d.pc, .int .i64 ((d.sp + 1) % 256), .int .i64 d.bank, .int .i64 d.level, .bool d.zero, .bool d.carry, .bool d.on, .bool d.halt, .slice A 16 c]).alloc _).alloc _))
  have X4 : Hid (Box W1 (w.heap.size + 1) 31 #[.slice A0 256 c0, .slice A1 32 c1, .slice A2 256 c2, .slice A3 16 c3, .int .i64 m.s]) := Lib.hid (by rw [hW1]; simpa using ((Box.new (w.alloc (.cells #[.int .i64 d.pc, .int .i64 ((d.sp + 1) % 256), .int .i64 d.bank, .int .i64 d.level, .bool d.zero, .bool d.carry, .bool d.on, .bool d.halt, .slice A 16 c] 25)) 31 #[.slice A0 256 c0, .slice A1 32 c1, .slice A2 256 c2, .slice A3 16 c3, .int .i64 m.s]).alloc _))
  have X5 : Hid (Box W1 (w.heap.size + 2) 25 #[.int .i64 0, .int .i64 0, .int .i64 0, .int .i64 0, .bool false, .bool false, .bool false, .bool false, .slice none 0 0]) := Lib.hid (by rw [hW1]; simpa using (Box.new ((w.alloc (.cells #[.int .i64 d.pc, .int .i64 ((d.sp + 1) % 256), .int .i64 d.bank, .int .i64 d.level, .bool d.zero, .bool d.carry, .bool d.on, .bool d.halt, .slice A 16 c] 25)).alloc (.cells #[.slice A0 256 c0, .slice A1 32 c1, .slice A2 256 c2, .slice A3 16 c3, .int .i64 m.s] 31)) 25 #[.int .i64 0, .int .i64 0, .int .i64 0, .int .i64 0, .bool false, .bool false, .bool false, .bool false, .slice none 0 0]))
  have F6 : Hid (RepC W1 A d) := Lib.hid (hc.below hb0)
  have F7 : Hid (RepM W1 A0 A1 A2 A3 m) := Lib.hid (hm.below hb0)
  have HW0 := Lib.hid hW1
  clear hW1
  have hO := hc.1
  have hsp := hO.sp
  have HG := Lib.hid (fun W (q : RepM W A0 A1 A2 A3 m) => l05GetM A0 A1 A2 A3 c0 c1 c2 c3 m W ((d.sp + 1) % 256) (by omega) (by omega) q)
  have e1 : (d.sp + 1).tmod 256 = (d.sp + 1) % 256 := Int.tmod_eq_emod_of_nonneg (by omega)
  have e2 : IntKind.i64.wrap (d.sp + 1) = d.sp + 1 := IntWalk.i64_in _ (by omega)
  have HOk := Lib.hid hO.up
  generalize m.get ((d.sp + 1) % 256) = x at HG ⊢
  clear hc hm hO hsp
  go_enter Tryz.func63, Tryz.ntmps63
  go_wp2
  rw [← HW0.out]
  have HX0 : Hid (Box W1.drew (w.heap.size) 25 #[.int .i64 d.pc, .int .i64 ((d.sp + 1) % 256), .int .i64 d.bank, .int .i64 d.level, .bool d.zero, .bool d.carry, .bool d.on, .bool d.halt, .slice A 16 c] ∧ Box W1.drew (w.heap.size + 1) 31 #[.slice A0 256 c0, .slice A1 32 c1, .slice A2 256 c2, .slice A3 16 c3, .int .i64 m.s]) := Lib.hid ⟨X3.out.drew, X4.out.drew⟩
  have HK : Hid (∀ W, Box W (w.heap.size) 25 #[.int .i64 d.pc, .int .i64 ((d.sp + 1) % 256), .int .i64 d.bank, .int .i64 d.level, .bool d.zero, .bool d.carry, .bool d.on, .bool d.halt, .slice A 16 c] ∧ Box W (w.heap.size + 1) 31 #[.slice A0 256 c0, .slice A1 32 c1, .slice A2 256 c2, .slice A3 16 c3, .int .i64 m.s] → W.cell? ⟨w.heap.size, 0, none⟩ = some (.int .i64 d.pc) ∧ W.cell? ⟨w.heap.size, 1, none⟩ = some (.int .i64 ((d.sp + 1) % 256)) ∧ W.cell? ⟨w.heap.size, 2, none⟩ = some (.int .i64 d.bank) ∧ W.cell? ⟨w.heap.size, 3, none⟩ = some (.int .i64 d.level) ∧ W.cell? ⟨w.heap.size, 4, none⟩ = some (.bool d.zero) ∧ W.cell? ⟨w.heap.size, 5, none⟩ = some (.bool d.carry) ∧ W.cell? ⟨w.heap.size, 6, none⟩ = some (.bool d.on) ∧ W.cell? ⟨w.heap.size, 7, none⟩ = some (.bool d.halt) ∧ W.cell? ⟨w.heap.size, 8, none⟩ = some (.slice A 16 c) ∧ W.cell? ⟨w.heap.size + 1, 0, none⟩ = some (.slice A0 256 c0) ∧ W.cell? ⟨w.heap.size + 1, 1, none⟩ = some (.slice A1 32 c1) ∧ W.cell? ⟨w.heap.size + 1, 2, none⟩ = some (.slice A2 256 c2) ∧ W.cell? ⟨w.heap.size + 1, 3, none⟩ = some (.slice A3 16 c3) ∧ W.cell? ⟨w.heap.size + 1, 4, none⟩ = some (.int .i64 m.s)) := Lib.hid (fun W X => ⟨X.1.cell 0 rfl, X.1.cell 1 rfl, X.1.cell 2 rfl, X.1.cell 3 rfl, X.1.cell 4 rfl, X.1.cell 5 rfl, X.1.cell 6 rfl, X.1.cell 7 rfl, X.1.cell 8 rfl, X.2.cell 0 rfl, X.2.cell 1 rfl, X.2.cell 2 rfl, X.2.cell 3 rfl, X.2.cell 4 rfl⟩)
  have HMd : Hid (RepM W1.drew A0 A1 A2 A3 m) := Lib.hid (F7.out.below (Below.refl _ _).drew)
  have HRd : Hid (Box W1.drew (w.heap.size + 2) 25 #[.int .i64 0, .int .i64 0, .int .i64 0, .int .i64 0, .bool false, .bool false, .bool false, .bool false, .slice none 0 0]) := Lib.hid X5.out.drew
  go_region_held3 (fun W => W.cell? ⟨w.heap.size, 0, none⟩ = some (.int .i64 d.pc) ∧ W.cell? ⟨w.heap.size, 1, none⟩ = some (.int .i64 ((d.sp + 1) % 256)) ∧ W.cell? ⟨w.heap.size, 2, none⟩ = some (.int .i64 d.bank) ∧ W.cell? ⟨w.heap.size, 3, none⟩ = some (.int .i64 d.level) ∧ W.cell? ⟨w.heap.size, 4, none⟩ = some (.bool d.zero) ∧ W.cell? ⟨w.heap.size, 5, none⟩ = some (.bool d.carry) ∧ W.cell? ⟨w.heap.size, 6, none⟩ = some (.bool d.on) ∧ W.cell? ⟨w.heap.size, 7, none⟩ = some (.bool d.halt) ∧ W.cell? ⟨w.heap.size, 8, none⟩ = some (.slice A 16 c) ∧ W.cell? ⟨w.heap.size + 1, 0, none⟩ = some (.slice A0 256 c0) ∧ W.cell? ⟨w.heap.size + 1, 1, none⟩ = some (.slice A1 32 c1) ∧ W.cell? ⟨w.heap.size + 1, 2, none⟩ = some (.slice A2 256 c2) ∧ W.cell? ⟨w.heap.size + 1, 3, none⟩ = some (.slice A3 16 c3) ∧ W.cell? ⟨w.heap.size + 1, 4, none⟩ = some (.int .i64 m.s))
    (first | (with_reducible exact HK.out _ HX0.out) | (with_reducible exact HK.out _ HX1.out) | (with_reducible exact HK.out _ HX3.out))
    (first | (go_at_call 60; refine (HG.out _ HMd.out).mono ?_; rintro e w5 ⟨rfl, hq5⟩; have HX1 := Lib.hid (And.intro (HX0.out.1.step hq5) (HX0.out.2.step hq5)); have HY1 := Lib.hid (HRd.out.step hq5); have T1 : Btw (w.heap.size + 2) (w.heap.size + 2 + 1) w5 (((((((((w5.setCell ⟨w.heap.size + 2, 0, none⟩ (.int .i64 d.pc)).setCell ⟨w.heap.size + 2, 1, none⟩ (.int .i64 ((d.sp + 1) % 256))).setCell ⟨w.heap.size + 2, 2, none⟩ (.int .i64 d.bank)).setCell ⟨w.heap.size + 2, 3, none⟩ (.int .i64 d.level)).setCell ⟨w.heap.size + 2, 4, none⟩ (.bool d.zero)).setCell ⟨w.heap.size + 2, 5, none⟩ (.bool d.carry)).setCell ⟨w.heap.size + 2, 6, none⟩ (.bool d.on)).setCell ⟨w.heap.size + 2, 7, none⟩ (.bool d.halt)).setCell ⟨w.heap.size + 2, 8, none⟩ (.slice A 16 c)) := (Btw.refl _ _ _).put.put.put.put.put.put.put.put.put; have HX3 := Lib.hid (And.intro (HX1.out.1.btw T1 (by have := Z2.out; omega)) (HX1.out.2.btw T1 (by have := Z2.out; omega))); have g0 := HY1.out.cell 0 rfl; have y0 := HY1.out.frozen 0; have g1 := HY1.out.cell 1 rfl; have y1 := HY1.out.frozen 1; have g2 := HY1.out.cell 2 rfl; have y2 := HY1.out.frozen 2; have g3 := HY1.out.cell 3 rfl; have y3 := HY1.out.frozen 3; have g4 := HY1.out.cell 4 rfl; have y4 := HY1.out.frozen 4; have g5 := HY1.out.cell 5 rfl; have y5 := HY1.out.frozen 5; have g6 := HY1.out.cell 6 rfl; have y6 := HY1.out.frozen 6; have g7 := HY1.out.cell 7 rfl; have y7 := HY1.out.frozen 7; have g8 := HY1.out.cell 8 rfl; have y8 := HY1.out.frozen 8))
  go_wp2
  obtain ⟨V1, hV1⟩ : ∃ V1, V1 = (((((((((w5.setCell ⟨w.heap.size + 2, 0, none⟩ (.int .i64 d.pc)).setCell ⟨w.heap.size + 2, 1, none⟩ (.int .i64 ((d.sp + 1) % 256))).setCell ⟨w.heap.size + 2, 2, none⟩ (.int .i64 d.bank)).setCell ⟨w.heap.size + 2, 3, none⟩ (.int .i64 d.level)).setCell ⟨w.heap.size + 2, 4, none⟩ (.bool d.zero)).setCell ⟨w.heap.size + 2, 5, none⟩ (.bool d.carry)).setCell ⟨w.heap.size + 2, 6, none⟩ (.bool d.on)).setCell ⟨w.heap.size + 2, 7, none⟩ (.bool d.halt)).setCell ⟨w.heap.size + 2, 8, none⟩ (.slice A 16 c)) := ⟨_, rfl⟩
  have U1 : Btw (w.heap.size + 2) (w.heap.size + 2 + 1) w5 V1 := by rw [hV1]; exact (Btw.refl _ _ _).put.put.put.put.put.put.put.put.put
  have r0 : Box V1 (w.heap.size + 2) 25 #[.int .i64 d.pc, .int .i64 ((d.sp + 1) % 256), .int .i64 d.bank, .int .i64 d.level, .bool d.zero, .bool d.carry, .bool d.on, .bool d.halt, .slice A 16 c] := by rw [hV1]; exact HY1.out.allN9 rfl _ _ _ _ _ _ _ _ _
  rw [← hV1]
  clear hV1
  have s0 := r0.cell 0 rfl
  have s1 := r0.cell 1 rfl
  have s2 := r0.cell 2 rfl
  have s3 := r0.cell 3 rfl
  have s4 := r0.cell 4 rfl
  have s5 := r0.cell 5 rfl
  have s6 := r0.cell 6 rfl
  have s7 := r0.cell 7 rfl
  have s8 := r0.cell 8 rfl
  refine bodyPost_ret (v := .tuple #[.agg #[.int .i64 d.pc, .int .i64 ((d.sp + 1) % 256), .int .i64 d.bank, .int .i64 d.level, .bool d.zero, .bool d.carry, .bool d.on, .bool d.halt, .slice A 16 c], .int .i64 x]) (by simp [results, Tryz.results63, go_sem, s0, s1, s2, s3, s4, s5, s6, s7, s8]) rfl ?_
  have hd5 : Below W1.heap.size W1 w5 := bt (Below.refl _ _).drew hq5
  exact ⟨A, c, rfl, Lib.hid ⟨HOk.out, ((F6.out.below hd5).off HY1.out (by decide) U1).2⟩, Btw.lowSize U1 (bt hb0 hd5) (Nat.le_of_lt HY1.out.lt) (by have := Z2.out; omega)⟩

set_option maxRecDepth 100000 in
set_option maxHeartbeats 4000000 in
theorem l08SetS (A : Option Addr) (c : Nat) (d : CD) (k v : Int) (w : World) (hk : 0 ≤ k ∧ k ≤ 3) (hv : 0 ≤ v ∧ v ≤ 255) (hc : RepC w A d) :
    Calls Tryz.prog 66 #[.agg #[.int .i64 d.pc, .int .i64 d.sp, .int .i64 d.bank, .int .i64 d.level, .bool d.zero, .bool d.carry, .bool d.on, .bool d.halt, .slice A 16 c], .int .i64 k, .int .i64 v] w (ReadsC (d.set k v) w) := by
  obtain ⟨W1, hW1⟩ : ∃ W1, W1 = ((w.alloc (.cells #[.int .i64 d.pc, .int .i64 d.sp, .int .i64 d.bank, .int .i64 d.level, .bool d.zero, .bool d.carry, .bool d.on, .bool d.halt, .slice A 16 c] 25)).alloc (.cells #[.int .i64 0, .int .i64 0, .int .i64 0, .int .i64 0, .bool false, .bool false, .bool false, .bool false, .slice none 0 0] 25)) := ⟨_, rfl⟩
  have hb0 : Below w.heap.size w W1 := by rw [hW1]; exact (((Below.refl _ _).alloc (Nat.le_refl _) _).alloc (by simp; try omega) _)
  have Z2 : Hid (W1.heap.size = w.heap.size + 2) := Lib.hid (by rw [hW1]; simp)
  have X3 : Hid (Box W1 (w.heap.size) 25 #[.int .i64 d.pc, .int .i64 d.sp, .int .i64 d.bank, .int .i64 d.level, .bool d.zero, .bool d.carry, .bool d.on, .bool d.halt, .slice A 16 c]) := Lib.hid (by rw [hW1]; exact ((Box.new w 25 #[.int .i64 d.pc, .int .i64 d.sp, .int .i64 d.bank, .int .i64 d.level, .bool d.zero, .bool d.carry, .bool d.on, .bool d.halt, .slice A 16 c]).alloc _))
  have X4 : Hid (Box W1 (w.heap.size + 1) 25 #[.int .i64 0, .int .i64 0, .int .i64 0, .int .i64 0, .bool false, .bool false, .bool false, .bool false, .slice none 0 0]) := Lib.hid (by rw [hW1]; simpa using (Box.new (w.alloc (.cells #[.int .i64 d.pc, .int .i64 d.sp, .int .i64 d.bank, .int .i64 d.level, .bool d.zero, .bool d.carry, .bool d.on, .bool d.halt, .slice A 16 c] 25)) 25 #[.int .i64 0, .int .i64 0, .int .i64 0, .int .i64 0, .bool false, .bool false, .bool false, .bool false, .slice none 0 0]))
  have F5 : Hid (RepC W1 A d) := Lib.hid (hc.below hb0)
  have HW0 := Lib.hid hW1
  clear hW1
  have hO := hc.1
  have h2 := hO.bank
  obtain ⟨b20, b21⟩ := h2
  obtain ⟨j, hj⟩ : ∃ j : Nat, 4 * d.bank + k = j := ⟨(4 * d.bank + k).toNat, by omega⟩
  have hj16 : j < 16 := by omega
  have j0 : (0 : Int) ≤ (j : Int) := by omega
  have j1 : (j : Int) < 16 := by omega
  have HV : Hid (d.set k v = { d with regs := d.regs.set j v }) := Lib.hid (by unfold CD.set; rw [hj]; rfl)
  have HOk := Lib.hid (hO.set (k := k) hv)
  rw [HV.out] at HOk
  rw [HV.out]
  have HOw := Lib.hid (fun W (q : RepC W A d) => l08Own A c d W q)
  unfold GivesC at HOw
  have HLen : Hid (d.regs.length = 16) := Lib.hid hO.len
  clear hc hO HV hv
  have f6 := X3.out.cell 0 rfl
  have f7 := X3.out.cell 1 rfl
  have f8 := X3.out.cell 2 rfl
  have f9 := X3.out.cell 3 rfl
  have f10 := X3.out.cell 4 rfl
  have f11 := X3.out.cell 5 rfl
  have f12 := X3.out.cell 6 rfl
  have f13 := X3.out.cell 7 rfl
  have f14 := X3.out.cell 8 rfl
  rw [HW0.out] at f6 f7 f8 f9 f10 f11 f12 f13 f14
  go_enter Tryz.func66, Tryz.ntmps66
  go_wp2_with fail
  rw [← HW0.out]
  rw [← HW0.out] at f6 f7 f8 f9 f10 f11 f12 f13 f14
  clear f6 f7 f8 f9 f10 f11 f12 f13 f14
  refine (HOw.out _ F5.out).mono ?_
  rintro e w1 ⟨B, e0, rfl, FO, hq1⟩
  obtain ⟨bB, mB, fB, rfl, -, -, qB1, qB2, -, -⟩ := FO.out.put j (by rw [HLen.out]; exact hj16)
  clear F5 HOw
  have X15 := Lib.hid (X3.out.step hq1)
  have X16 := Lib.hid (X4.out.step hq1)
  have hb17 := bt hb0 hq1
  have Z18 : Hid (W1.heap.size ≤ w1.heap.size) := Lib.hid hq1.size
  clear X3 X4 hb0 hq1
  have f19 := X15.out.cell 0 rfl
  have f20 := X15.out.cell 1 rfl
  have f21 := X15.out.cell 2 rfl
  have f22 := X15.out.cell 3 rfl
  have f23 := X15.out.cell 4 rfl
  have f24 := X15.out.cell 5 rfl
  have f25 := X15.out.cell 6 rfl
  have f26 := X15.out.cell 7 rfl
  have f27 := X15.out.cell 8 rfl
  have f28 := X16.out.cell 0 rfl
  have f29 := X16.out.cell 1 rfl
  have f30 := X16.out.cell 2 rfl
  have f31 := X16.out.cell 3 rfl
  have f32 := X16.out.cell 4 rfl
  have f33 := X16.out.cell 5 rfl
  have f34 := X16.out.cell 6 rfl
  have f35 := X16.out.cell 7 rfl
  have f36 := X16.out.cell 8 rfl
  have z37 := X15.out.frozen 0
  have z38 := X15.out.frozen 1
  have z39 := X15.out.frozen 2
  have z40 := X15.out.frozen 3
  have z41 := X15.out.frozen 4
  have z42 := X15.out.frozen 5
  have z43 := X15.out.frozen 6
  have z44 := X15.out.frozen 7
  have z45 := X15.out.frozen 8
  have z46 := X16.out.frozen 0
  have z47 := X16.out.frozen 1
  have z48 := X16.out.frozen 2
  have z49 := X16.out.frozen 3
  have z50 := X16.out.frozen 4
  have z51 := X16.out.frozen 5
  have z52 := X16.out.frozen 6
  have z53 := X16.out.frozen 7
  have z54 := X16.out.frozen 8
  go_upto_region 2 with fail
  obtain ⟨W55, hW55⟩ : ∃ W55, W55 = (((((((((w1.setCell ⟨w.heap.size, 0, none⟩ (.int .i64 d.pc)).setCell ⟨w.heap.size, 1, none⟩ (.int .i64 d.sp)).setCell ⟨w.heap.size, 2, none⟩ (.int .i64 d.bank)).setCell ⟨w.heap.size, 3, none⟩ (.int .i64 d.level)).setCell ⟨w.heap.size, 4, none⟩ (.bool d.zero)).setCell ⟨w.heap.size, 5, none⟩ (.bool d.carry)).setCell ⟨w.heap.size, 6, none⟩ (.bool d.on)).setCell ⟨w.heap.size, 7, none⟩ (.bool d.halt)).setCell ⟨w.heap.size, 8, none⟩ (.slice (some ⟨bB, 0, none⟩) 16 e0)) := ⟨_, rfl⟩
  have hB56 : Btw (w.heap.size) (w.heap.size + 1) w1 W55 := by rw [hW55]; exact (Btw.refl _ _ _).put.put.put.put.put.put.put.put.put
  have X57 : Hid (Box W55 (w.heap.size) 25 #[.int .i64 d.pc, .int .i64 d.sp, .int .i64 d.bank, .int .i64 d.level, .bool d.zero, .bool d.carry, .bool d.on, .bool d.halt, .slice (some ⟨bB, 0, none⟩) 16 e0]) := Lib.hid (by rw [hW55]; exact (X15.out.allN9 rfl _ _ _ _ _ _ _ _ _))
  have X58 := Lib.hid (X16.out.btw hB56 (by have := Z2.out; have := Z18.out; omega))
  have F59 := Lib.hid (FO.out.awayB X15.out (by decide) hB56)
  have hb60 := Btw.lowSize hB56 hb17 (Nat.le_of_lt X15.out.lt) (by have := Z2.out; have := Z18.out; omega)
  have Z61 : Hid (w1.heap.size ≤ W55.heap.size) := Lib.hid hB56.size
  rw [← hW55]
  clear hW55 hB56 X15 X16 FO hb17
  obtain ⟨bB2, mB, fB, eB, gB, zB, qC1, qC2, hrB, hputB⟩ := F59.out.put j (by rw [HLen.out]; exact hj16)
  injection eB with eB
  injection eB with eB _ _
  subst eB
  have HPutB := Lib.hid (hputB v)
  generalize d.regs.getD j 0 = y at gB
  clear hputB hrB
  have f62 := X57.out.cell 0 rfl
  have f63 := X57.out.cell 1 rfl
  have f64 := X57.out.cell 2 rfl
  have f65 := X57.out.cell 3 rfl
  have f66 := X57.out.cell 4 rfl
  have f67 := X57.out.cell 5 rfl
  have f68 := X57.out.cell 6 rfl
  have f69 := X57.out.cell 7 rfl
  have f70 := X57.out.cell 8 rfl
  have z71 := X57.out.frozen 0
  have z72 := X57.out.frozen 1
  have z73 := X57.out.frozen 2
  have z74 := X57.out.frozen 3
  have z75 := X57.out.frozen 4
  have z76 := X57.out.frozen 5
  have z77 := X57.out.frozen 6
  have z78 := X57.out.frozen 7
  have z79 := X57.out.frozen 8
  go_upto_region 3 with fail
  obtain ⟨Wr, hWr⟩ : ∃ Wr, Wr = W55.setCell ⟨bB, j, none⟩ (.int .i64 v) := ⟨_, rfl⟩
  have X80 : Hid (Box Wr (w.heap.size) 25 #[.int .i64 d.pc, .int .i64 d.sp, .int .i64 d.bank, .int .i64 d.level, .bool d.zero, .bool d.carry, .bool d.on, .bool d.halt, .slice (some ⟨bB, 0, none⟩) 16 e0]) := Lib.hid (by rw [hWr]; exact X57.out.far (p := ⟨bB, j, none⟩) (by show w.heap.size ≠ bB; have := Z2.out; have := Z18.out; have := Z61.out; omega) _)
  clear X57
  have X81 : Hid (Box Wr (w.heap.size + 1) 25 #[.int .i64 0, .int .i64 0, .int .i64 0, .int .i64 0, .bool false, .bool false, .bool false, .bool false, .slice none 0 0]) := Lib.hid (by rw [hWr]; exact X58.out.far (p := ⟨bB, j, none⟩) (by show w.heap.size + 1 ≠ bB; have := Z2.out; have := Z18.out; have := Z61.out; omega) _)
  clear X58
  rw [← hWr] at HPutB
  have hbr : Below w.heap.size w Wr := by rw [hWr]; exact hb60.setCell (p := ⟨bB, j, none⟩) (by show w.heap.size ≤ bB; have := Z2.out; have := Z18.out; have := Z61.out; omega) _
  have Z82 : Hid (W55.heap.size ≤ Wr.heap.size) := Lib.hid (by rw [hWr]; simp [World.setCell])
  rw [← hWr]
  clear hWr hb60 f62 f63 f64 f65 f66 f67 f68 f69 f70 z71 z72 z73 z74 z75 z76 z77 z78 z79
  clear gB zB
  clear F59
  have f83 := X80.out.cell 0 rfl
  have f84 := X80.out.cell 1 rfl
  have f85 := X80.out.cell 2 rfl
  have f86 := X80.out.cell 3 rfl
  have f87 := X80.out.cell 4 rfl
  have f88 := X80.out.cell 5 rfl
  have f89 := X80.out.cell 6 rfl
  have f90 := X80.out.cell 7 rfl
  have f91 := X80.out.cell 8 rfl
  have f92 := X81.out.cell 0 rfl
  have f93 := X81.out.cell 1 rfl
  have f94 := X81.out.cell 2 rfl
  have f95 := X81.out.cell 3 rfl
  have f96 := X81.out.cell 4 rfl
  have f97 := X81.out.cell 5 rfl
  have f98 := X81.out.cell 6 rfl
  have f99 := X81.out.cell 7 rfl
  have f100 := X81.out.cell 8 rfl
  have z101 := X80.out.frozen 0
  have z102 := X80.out.frozen 1
  have z103 := X80.out.frozen 2
  have z104 := X80.out.frozen 3
  have z105 := X80.out.frozen 4
  have z106 := X80.out.frozen 5
  have z107 := X80.out.frozen 6
  have z108 := X80.out.frozen 7
  have z109 := X80.out.frozen 8
  have z110 := X81.out.frozen 0
  have z111 := X81.out.frozen 1
  have z112 := X81.out.frozen 2
  have z113 := X81.out.frozen 3
  have z114 := X81.out.frozen 4
  have z115 := X81.out.frozen 5
  have z116 := X81.out.frozen 6
  have z117 := X81.out.frozen 7
  have z118 := X81.out.frozen 8
  go_wp2
  obtain ⟨W119, hW119⟩ : ∃ W119, W119 = (((((((((Wr.setCell ⟨w.heap.size + 1, 0, none⟩ (.int .i64 d.pc)).setCell ⟨w.heap.size + 1, 1, none⟩ (.int .i64 d.sp)).setCell ⟨w.heap.size + 1, 2, none⟩ (.int .i64 d.bank)).setCell ⟨w.heap.size + 1, 3, none⟩ (.int .i64 d.level)).setCell ⟨w.heap.size + 1, 4, none⟩ (.bool d.zero)).setCell ⟨w.heap.size + 1, 5, none⟩ (.bool d.carry)).setCell ⟨w.heap.size + 1, 6, none⟩ (.bool d.on)).setCell ⟨w.heap.size + 1, 7, none⟩ (.bool d.halt)).setCell ⟨w.heap.size + 1, 8, none⟩ (.slice (some ⟨bB, 0, none⟩) 16 e0)) := ⟨_, rfl⟩
  have hB120 : Btw (w.heap.size + 1) (w.heap.size + 1 + 1) Wr W119 := by rw [hW119]; exact (Btw.refl _ _ _).put.put.put.put.put.put.put.put.put
  have X121 : Hid (Box W119 (w.heap.size + 1) 25 #[.int .i64 d.pc, .int .i64 d.sp, .int .i64 d.bank, .int .i64 d.level, .bool d.zero, .bool d.carry, .bool d.on, .bool d.halt, .slice (some ⟨bB, 0, none⟩) 16 e0]) := Lib.hid (by rw [hW119]; exact (X81.out.allN9 rfl _ _ _ _ _ _ _ _ _))
  have X122 := Lib.hid (X80.out.btw hB120 (by have := Z2.out; have := Z18.out; have := Z61.out; have := Z82.out; omega))
  have F123 := Lib.hid (HPutB.out.awayB X81.out (by decide) hB120)
  have hb124 := Btw.lowSize hB120 hbr (Nat.le_of_lt X81.out.lt) (by have := Z2.out; have := Z18.out; have := Z61.out; have := Z82.out; omega)
  have Z125 : Hid (Wr.heap.size ≤ W119.heap.size) := Lib.hid hB120.size
  rw [← hW119]
  clear hW119 hB120 X81 X80 HPutB hbr
  have r0 := X121.out
  have s0 := r0.cell 0 rfl
  have s1 := r0.cell 1 rfl
  have s2 := r0.cell 2 rfl
  have s3 := r0.cell 3 rfl
  have s4 := r0.cell 4 rfl
  have s5 := r0.cell 5 rfl
  have s6 := r0.cell 6 rfl
  have s7 := r0.cell 7 rfl
  have s8 := r0.cell 8 rfl
  refine bodyPost_ret (v := .agg #[.int .i64 d.pc, .int .i64 d.sp, .int .i64 d.bank, .int .i64 d.level, .bool d.zero, .bool d.carry, .bool d.on, .bool d.halt, .slice (some ⟨bB, 0, none⟩) 16 e0]) (by simp [results, Tryz.results66, go_sem, s0, s1, s2, s3, s4, s5, s6, s7, s8]) rfl ?_
  exact ⟨_, _, rfl, Lib.hid ⟨HOk.out, F123.out.reads⟩, hb124⟩

set_option maxRecDepth 100000 in
set_option maxHeartbeats 4000000 in
theorem l08ToFlagsS (A : Option Addr) (c : Nat) (d : CD) (v : Int) (w : World) (hv : 0 ≤ v ∧ v ≤ 255) (hc : RepC w A d) :
    Calls Tryz.prog 65 #[.agg #[.int .i64 d.pc, .int .i64 d.sp, .int .i64 d.bank, .int .i64 d.level, .bool d.zero, .bool d.carry, .bool d.on, .bool d.halt, .slice A 16 c], .int .i64 v] w (ReadsC (d.toFlags v) w) := by
  obtain ⟨u, rfl⟩ : ∃ u : Nat, v = u := ⟨v.toNat, by omega⟩
  have a7 := and_7 (u : Int)
  have a3 : bits .and .i64 ((u : Int) / 8) 3 = (u : Int) / 8 % 4 := and_any ((u : Int) / 8) 2 (by omega)
  have n1 := and_32 u (by omega)
  have n2 := and_64 u (by omega)
  have n3 := and_128 u (by omega)
  have HOk := Lib.hid (hc.1.toFlags (u : Int))
  have HV : Hid (d.toFlags (u : Int) = { d with level := (u : Int) % 8, bank := (u : Int) / 8 % 4, zero := decide ((u : Int) / 32 % 2 = 1), carry := decide ((u : Int) / 64 % 2 = 1), on := decide ((u : Int) / 128 % 2 = 1) }) := Lib.hid rfl
  rw [HV.out] at HOk
  rw [HV.out]
  generalize decide ((u : Int) / 32 % 2 = 1) = b1 at n1 HOk ⊢
  generalize decide ((u : Int) / 64 % 2 = 1) = b2 at n2 HOk ⊢
  generalize decide ((u : Int) / 128 % 2 = 1) = b3 at n3 HOk ⊢
  have hu0 : (0 : Int) ≤ (u : Int) := by omega
  obtain ⟨W1, hW1⟩ : ∃ W1, W1 = ((w.alloc (.cells #[.int .i64 d.pc, .int .i64 d.sp, .int .i64 ((u : Int) / 8 % 4), .int .i64 ((u : Int) % 8), .bool b1, .bool b2, .bool b3, .bool d.halt, .slice A 16 c] 25)).alloc (.cells #[.int .i64 d.pc, .int .i64 d.sp, .int .i64 ((u : Int) / 8 % 4), .int .i64 ((u : Int) % 8), .bool b1, .bool b2, .bool b3, .bool d.halt, .slice A 16 c] 25)) := ⟨_, rfl⟩
  have hb0 : Below w.heap.size w W1 := by rw [hW1]; exact (((Below.refl _ _).alloc (Nat.le_refl _) _).alloc (by simp; try omega) _)
  have Z2 : Hid (W1.heap.size = w.heap.size + 2) := Lib.hid (by rw [hW1]; simp)
  have X3 : Hid (Box W1 (w.heap.size) 25 #[.int .i64 d.pc, .int .i64 d.sp, .int .i64 ((u : Int) / 8 % 4), .int .i64 ((u : Int) % 8), .bool b1, .bool b2, .bool b3, .bool d.halt, .slice A 16 c]) := Lib.hid (by rw [hW1]; exact ((Box.new w 25 #[.int .i64 d.pc, .int .i64 d.sp, .int .i64 ((u : Int) / 8 % 4), .int .i64 ((u : Int) % 8), .bool b1, .bool b2, .bool b3, .bool d.halt, .slice A 16 c]).alloc _))
  have X4 : Hid (Box W1 (w.heap.size + 1) 25 #[.int .i64 d.pc, .int .i64 d.sp, .int .i64 ((u : Int) / 8 % 4), .int .i64 ((u : Int) % 8), .bool b1, .bool b2, .bool b3, .bool d.halt, .slice A 16 c]) := Lib.hid (by rw [hW1]; simpa using (Box.new (w.alloc (.cells #[.int .i64 d.pc, .int .i64 d.sp, .int .i64 ((u : Int) / 8 % 4), .int .i64 ((u : Int) % 8), .bool b1, .bool b2, .bool b3, .bool d.halt, .slice A 16 c] 25)) 25 #[.int .i64 d.pc, .int .i64 d.sp, .int .i64 ((u : Int) / 8 % 4), .int .i64 ((u : Int) % 8), .bool b1, .bool b2, .bool b3, .bool d.halt, .slice A 16 c]))
  have F5 : Hid (RepC W1 A d) := Lib.hid (hc.below hb0)
  have HW0 := Lib.hid hW1
  clear hW1
  clear hc HV hv
  go_enter Tryz.func65, Tryz.ntmps65
  go_wp2
  rw [← HW0.out]
  have r0 := X4.out
  have s0 := r0.cell 0 rfl
  have s1 := r0.cell 1 rfl
  have s2 := r0.cell 2 rfl
  have s3 := r0.cell 3 rfl
  have s4 := r0.cell 4 rfl
  have s5 := r0.cell 5 rfl
  have s6 := r0.cell 6 rfl
  have s7 := r0.cell 7 rfl
  have s8 := r0.cell 8 rfl
  refine bodyPost_ret (v := .agg #[.int .i64 d.pc, .int .i64 d.sp, .int .i64 ((u : Int) / 8 % 4), .int .i64 ((u : Int) % 8), .bool b1, .bool b2, .bool b3, .bool d.halt, .slice A 16 c]) (by simp [results, Tryz.results65, go_sem, s0, s1, s2, s3, s4, s5, s6, s7, s8]) rfl ?_
  exact ⟨A, c, rfl, Lib.hid ⟨HOk.out, F5.out.2⟩, hb0⟩

set_option maxRecDepth 100000 in
set_option maxHeartbeats 4000000 in
theorem l08BackS (A : Option Addr) (c : Nat) (d : CD) (A0 A1 A2 A3 : Option Addr) (c0 c1 c2 c3 : Nat) (m : MD) (w : World) (hc : RepC w A d) (hm : RepM w A0 A1 A2 A3 m) :
    Calls Tryz.prog 64 #[.agg #[.int .i64 d.pc, .int .i64 d.sp, .int .i64 d.bank, .int .i64 d.level, .bool d.zero, .bool d.carry, .bool d.on, .bool d.halt, .slice A 16 c], .agg #[.slice A0 256 c0, .slice A1 32 c1, .slice A2 256 c2, .slice A3 16 c3, .int .i64 m.s]] w (ReadsC (backD d m) w) := by
  obtain ⟨W1, hW1⟩ : ∃ W1, W1 = (((w.alloc (.cells #[.int .i64 d.pc, .int .i64 d.sp, .int .i64 d.bank, .int .i64 d.level, .bool d.zero, .bool d.carry, .bool d.on, .bool d.halt, .slice A 16 c] 25)).alloc (.cells #[.slice A0 256 c0, .slice A1 32 c1, .slice A2 256 c2, .slice A3 16 c3, .int .i64 m.s] 31)).alloc (.cells #[.int .i64 0, .int .i64 0, .int .i64 0, .int .i64 0, .bool false, .bool false, .bool false, .bool false, .slice none 0 0] 25)) := ⟨_, rfl⟩
  have hb0 : Below w.heap.size w W1 := by rw [hW1]; exact ((((Below.refl _ _).alloc (Nat.le_refl _) _).alloc (by simp; try omega) _).alloc (by simp; try omega) _)
  have Z2 : Hid (W1.heap.size = w.heap.size + 3) := Lib.hid (by rw [hW1]; simp)
  have X3 : Hid (Box W1 (w.heap.size) 25 #[.int .i64 d.pc, .int .i64 d.sp, .int .i64 d.bank, .int .i64 d.level, .bool d.zero, .bool d.carry, .bool d.on, .bool d.halt, .slice A 16 c]) := Lib.hid (by rw [hW1]; exact (((Box.new w 25 #[.int .i64 d.pc, .int .i64 d.sp, .int .i64 d.bank, .int .i64 d.level, .bool d.zero, .bool d.carry, .bool d.on, .bool d.halt, .slice A 16 c]).alloc _).alloc _))
  have X4 : Hid (Box W1 (w.heap.size + 1) 31 #[.slice A0 256 c0, .slice A1 32 c1, .slice A2 256 c2, .slice A3 16 c3, .int .i64 m.s]) := Lib.hid (by rw [hW1]; simpa using ((Box.new (w.alloc (.cells #[.int .i64 d.pc, .int .i64 d.sp, .int .i64 d.bank, .int .i64 d.level, .bool d.zero, .bool d.carry, .bool d.on, .bool d.halt, .slice A 16 c] 25)) 31 #[.slice A0 256 c0, .slice A1 32 c1, .slice A2 256 c2, .slice A3 16 c3, .int .i64 m.s]).alloc _))
  have X5 : Hid (Box W1 (w.heap.size + 2) 25 #[.int .i64 0, .int .i64 0, .int .i64 0, .int .i64 0, .bool false, .bool false, .bool false, .bool false, .slice none 0 0]) := Lib.hid (by rw [hW1]; simpa using (Box.new ((w.alloc (.cells #[.int .i64 d.pc, .int .i64 d.sp, .int .i64 d.bank, .int .i64 d.level, .bool d.zero, .bool d.carry, .bool d.on, .bool d.halt, .slice A 16 c] 25)).alloc (.cells #[.slice A0 256 c0, .slice A1 32 c1, .slice A2 256 c2, .slice A3 16 c3, .int .i64 m.s] 31)) 25 #[.int .i64 0, .int .i64 0, .int .i64 0, .int .i64 0, .bool false, .bool false, .bool false, .bool false, .slice none 0 0]))
  have F6 : Hid (RepC W1 A d) := Lib.hid (hc.below hb0)
  have F7 : Hid (RepM W1 A0 A1 A2 A3 m) := Lib.hid (hm.below hb0)
  have HW0 := Lib.hid hW1
  clear hW1
  have hO := hc.1
  have HP1 := Lib.hid (fun W (q : RepC W A d) (r : RepM W A0 A1 A2 A3 m) => l08PullS A c d A0 A1 A2 A3 c0 c1 c2 c3 m W q r)
  have HP2 := Lib.hid (fun Aa ca W (q : RepC W Aa d.up) (r : RepM W A0 A1 A2 A3 m) => l08PullS Aa ca d.up A0 A1 A2 A3 c0 c1 c2 c3 m W q r)
  unfold ReadsCI at HP1 HP2
  have r1 := hm.1.get ((d.sp + 1) % 256) (by omega) (by omega)
  have r2 := hm.1.get ((d.up.sp + 1) % 256) (by omega) (by omega)
  have HV : Hid (backD d m = d.up.up.at ((m.get ((d.sp + 1) % 256) + 256 * m.get ((d.up.sp + 1) % 256)) % 4096)) := Lib.hid rfl
  have HOk := Lib.hid (hO.back m)
  rw [HV.out] at HOk
  rw [HV.out]
  generalize m.get ((d.sp + 1) % 256) = x at HP1 HOk r1 ⊢
  generalize m.get ((d.up.sp + 1) % 256) = y at HP2 HOk r2 ⊢
  have a4 := and_4095 (x + 256 * y)
  obtain ⟨r10, r11⟩ := r1
  obtain ⟨r20, r21⟩ := r2
  generalize d.up = d1 at HP1 HP2 HOk ⊢
  generalize d1.up = d2 at HP2 HOk ⊢
  clear hc hm hO HV
  have f8 := X3.out.cell 0 rfl
  have f9 := X3.out.cell 1 rfl
  have f10 := X3.out.cell 2 rfl
  have f11 := X3.out.cell 3 rfl
  have f12 := X3.out.cell 4 rfl
  have f13 := X3.out.cell 5 rfl
  have f14 := X3.out.cell 6 rfl
  have f15 := X3.out.cell 7 rfl
  have f16 := X3.out.cell 8 rfl
  have f17 := X4.out.cell 0 rfl
  have f18 := X4.out.cell 1 rfl
  have f19 := X4.out.cell 2 rfl
  have f20 := X4.out.cell 3 rfl
  have f21 := X4.out.cell 4 rfl
  rw [HW0.out] at f8 f9 f10 f11 f12 f13 f14 f15 f16 f17 f18 f19 f20 f21
  go_enter Tryz.func64, Tryz.ntmps64
  go_wp2_with fail
  rw [← HW0.out]
  rw [← HW0.out] at f8 f9 f10 f11 f12 f13 f14 f15 f16 f17 f18 f19 f20 f21
  clear f8 f9 f10 f11 f12 f13 f14 f15 f16 f17 f18 f19 f20 f21
  refine (HP1.out _ F6.out F7.out).mono ?_
  rintro e w1 ⟨Aa, ca, rfl, NC1, hq1⟩
  have X22 := Lib.hid (X3.out.step hq1)
  have X23 := Lib.hid (X4.out.step hq1)
  have X24 := Lib.hid (X5.out.step hq1)
  have F25 := Lib.hid (F6.out.below hq1)
  have F26 := Lib.hid (F7.out.below hq1)
  have hb27 := bt hb0 hq1
  have Z28 : Hid (W1.heap.size ≤ w1.heap.size) := Lib.hid hq1.size
  clear X3 X4 X5 F6 F7 hb0 hq1
  clear F25 HP1
  have f29 := X22.out.cell 0 rfl
  have f30 := X22.out.cell 1 rfl
  have f31 := X22.out.cell 2 rfl
  have f32 := X22.out.cell 3 rfl
  have f33 := X22.out.cell 4 rfl
  have f34 := X22.out.cell 5 rfl
  have f35 := X22.out.cell 6 rfl
  have f36 := X22.out.cell 7 rfl
  have f37 := X22.out.cell 8 rfl
  have z38 := X22.out.frozen 0
  have z39 := X22.out.frozen 1
  have z40 := X22.out.frozen 2
  have z41 := X22.out.frozen 3
  have z42 := X22.out.frozen 4
  have z43 := X22.out.frozen 5
  have z44 := X22.out.frozen 6
  have z45 := X22.out.frozen 7
  have z46 := X22.out.frozen 8
  go_upto_region 2 with fail
  obtain ⟨W47, hW47⟩ : ∃ W47, W47 = (((((((((w1.setCell ⟨w.heap.size, 0, none⟩ (.int .i64 d1.pc)).setCell ⟨w.heap.size, 1, none⟩ (.int .i64 d1.sp)).setCell ⟨w.heap.size, 2, none⟩ (.int .i64 d1.bank)).setCell ⟨w.heap.size, 3, none⟩ (.int .i64 d1.level)).setCell ⟨w.heap.size, 4, none⟩ (.bool d1.zero)).setCell ⟨w.heap.size, 5, none⟩ (.bool d1.carry)).setCell ⟨w.heap.size, 6, none⟩ (.bool d1.on)).setCell ⟨w.heap.size, 7, none⟩ (.bool d1.halt)).setCell ⟨w.heap.size, 8, none⟩ (.slice Aa 16 ca)) := ⟨_, rfl⟩
  have hB48 : Btw (w.heap.size) (w.heap.size + 1) w1 W47 := by rw [hW47]; exact (Btw.refl _ _ _).put.put.put.put.put.put.put.put.put
  have X49 : Hid (Box W47 (w.heap.size) 25 #[.int .i64 d1.pc, .int .i64 d1.sp, .int .i64 d1.bank, .int .i64 d1.level, .bool d1.zero, .bool d1.carry, .bool d1.on, .bool d1.halt, .slice Aa 16 ca]) := Lib.hid (by rw [hW47]; exact (X22.out.allN9 rfl _ _ _ _ _ _ _ _ _))
  have X50 := Lib.hid (X23.out.btw hB48 (by have := Z2.out; have := Z28.out; omega))
  have X51 := Lib.hid (X24.out.btw hB48 (by have := Z2.out; have := Z28.out; omega))
  have F52 := Lib.hid (NC1.out.off X22.out (by simp) hB48)
  have F53 := Lib.hid (F26.out.off X22.out (by simp) hB48)
  have hb54 := Btw.lowSize hB48 hb27 (Nat.le_of_lt X22.out.lt) (by have := Z2.out; have := Z28.out; omega)
  have Z55 : Hid (w1.heap.size ≤ W47.heap.size) := Lib.hid hB48.size
  rw [← hW47]
  clear hW47 hB48 X22 X23 X24 NC1 F26 hb27
  have f56 := X49.out.cell 0 rfl
  have f57 := X49.out.cell 1 rfl
  have f58 := X49.out.cell 2 rfl
  have f59 := X49.out.cell 3 rfl
  have f60 := X49.out.cell 4 rfl
  have f61 := X49.out.cell 5 rfl
  have f62 := X49.out.cell 6 rfl
  have f63 := X49.out.cell 7 rfl
  have f64 := X49.out.cell 8 rfl
  have f65 := X50.out.cell 0 rfl
  have f66 := X50.out.cell 1 rfl
  have f67 := X50.out.cell 2 rfl
  have f68 := X50.out.cell 3 rfl
  have f69 := X50.out.cell 4 rfl
  go_wp2_with fail
  clear f56 f57 f58 f59 f60 f61 f62 f63 f64 f65 f66 f67 f68 f69
  refine (HP2.out _ _ _ F52.out F53.out).mono ?_
  rintro e w2 ⟨Ab, cb, rfl, NC2, hq2⟩
  have X70 := Lib.hid (X49.out.step hq2)
  have X71 := Lib.hid (X50.out.step hq2)
  have X72 := Lib.hid (X51.out.step hq2)
  have F73 := Lib.hid (F52.out.below hq2)
  have F74 := Lib.hid (F53.out.below hq2)
  have hb75 := bt hb54 hq2
  have Z76 : Hid (W47.heap.size ≤ w2.heap.size) := Lib.hid hq2.size
  clear X49 X50 X51 F52 F53 hb54 hq2
  clear F73 HP2
  have f77 := X70.out.cell 0 rfl
  have f78 := X70.out.cell 1 rfl
  have f79 := X70.out.cell 2 rfl
  have f80 := X70.out.cell 3 rfl
  have f81 := X70.out.cell 4 rfl
  have f82 := X70.out.cell 5 rfl
  have f83 := X70.out.cell 6 rfl
  have f84 := X70.out.cell 7 rfl
  have f85 := X70.out.cell 8 rfl
  have z86 := X70.out.frozen 0
  have z87 := X70.out.frozen 1
  have z88 := X70.out.frozen 2
  have z89 := X70.out.frozen 3
  have z90 := X70.out.frozen 4
  have z91 := X70.out.frozen 5
  have z92 := X70.out.frozen 6
  have z93 := X70.out.frozen 7
  have z94 := X70.out.frozen 8
  go_upto_region 3 with fail
  obtain ⟨W95, hW95⟩ : ∃ W95, W95 = (((((((((w2.setCell ⟨w.heap.size, 0, none⟩ (.int .i64 d2.pc)).setCell ⟨w.heap.size, 1, none⟩ (.int .i64 d2.sp)).setCell ⟨w.heap.size, 2, none⟩ (.int .i64 d2.bank)).setCell ⟨w.heap.size, 3, none⟩ (.int .i64 d2.level)).setCell ⟨w.heap.size, 4, none⟩ (.bool d2.zero)).setCell ⟨w.heap.size, 5, none⟩ (.bool d2.carry)).setCell ⟨w.heap.size, 6, none⟩ (.bool d2.on)).setCell ⟨w.heap.size, 7, none⟩ (.bool d2.halt)).setCell ⟨w.heap.size, 8, none⟩ (.slice Ab 16 cb)) := ⟨_, rfl⟩
  have hB96 : Btw (w.heap.size) (w.heap.size + 1) w2 W95 := by rw [hW95]; exact (Btw.refl _ _ _).put.put.put.put.put.put.put.put.put
  have X97 : Hid (Box W95 (w.heap.size) 25 #[.int .i64 d2.pc, .int .i64 d2.sp, .int .i64 d2.bank, .int .i64 d2.level, .bool d2.zero, .bool d2.carry, .bool d2.on, .bool d2.halt, .slice Ab 16 cb]) := Lib.hid (by rw [hW95]; exact (X70.out.allN9 rfl _ _ _ _ _ _ _ _ _))
  have X98 := Lib.hid (X71.out.btw hB96 (by have := Z2.out; have := Z28.out; have := Z55.out; have := Z76.out; omega))
  have X99 := Lib.hid (X72.out.btw hB96 (by have := Z2.out; have := Z28.out; have := Z55.out; have := Z76.out; omega))
  have F100 := Lib.hid (NC2.out.off X70.out (by simp) hB96)
  have F101 := Lib.hid (F74.out.off X70.out (by simp) hB96)
  have hb102 := Btw.lowSize hB96 hb75 (Nat.le_of_lt X70.out.lt) (by have := Z2.out; have := Z28.out; have := Z55.out; have := Z76.out; omega)
  have Z103 : Hid (w2.heap.size ≤ W95.heap.size) := Lib.hid hB96.size
  rw [← hW95]
  clear hW95 hB96 X70 X71 X72 NC2 F74 hb75
  have f104 := X97.out.cell 0 rfl
  have f105 := X97.out.cell 1 rfl
  have f106 := X97.out.cell 2 rfl
  have f107 := X97.out.cell 3 rfl
  have f108 := X97.out.cell 4 rfl
  have f109 := X97.out.cell 5 rfl
  have f110 := X97.out.cell 6 rfl
  have f111 := X97.out.cell 7 rfl
  have f112 := X97.out.cell 8 rfl
  have z113 := X97.out.frozen 0
  have z114 := X97.out.frozen 1
  have z115 := X97.out.frozen 2
  have z116 := X97.out.frozen 3
  have z117 := X97.out.frozen 4
  have z118 := X97.out.frozen 5
  have z119 := X97.out.frozen 6
  have z120 := X97.out.frozen 7
  have z121 := X97.out.frozen 8
  go_upto_region 4 with fail
  obtain ⟨W122, hW122⟩ : ∃ W122, W122 = (W95.setCell ⟨w.heap.size, 0, none⟩ (.int .i64 ((x + 256 * y) % 4096))) := ⟨_, rfl⟩
  have hB123 : Btw (w.heap.size) (w.heap.size + 1) W95 W122 := by rw [hW122]; exact (Btw.refl _ _ _).put
  have X124 : Hid (Box W122 (w.heap.size) 25 #[.int .i64 ((x + 256 * y) % 4096), .int .i64 d2.sp, .int .i64 d2.bank, .int .i64 d2.level, .bool d2.zero, .bool d2.carry, .bool d2.on, .bool d2.halt, .slice Ab 16 cb]) := Lib.hid (by rw [hW122]; exact (X97.out.set 0 _))
  have X125 := Lib.hid (X98.out.btw hB123 (by have := Z2.out; have := Z28.out; have := Z55.out; have := Z76.out; have := Z103.out; omega))
  have X126 := Lib.hid (X99.out.btw hB123 (by have := Z2.out; have := Z28.out; have := Z55.out; have := Z76.out; have := Z103.out; omega))
  have F127 := Lib.hid (F100.out.off X97.out (by simp) hB123)
  have F128 := Lib.hid (F101.out.off X97.out (by simp) hB123)
  have hb129 := Btw.lowSize hB123 hb102 (Nat.le_of_lt X97.out.lt) (by have := Z2.out; have := Z28.out; have := Z55.out; have := Z76.out; have := Z103.out; omega)
  have Z130 : Hid (W95.heap.size ≤ W122.heap.size) := Lib.hid hB123.size
  rw [← hW122]
  clear hW122 hB123 X97 X98 X99 F100 F101 hb102
  have f131 := X124.out.cell 0 rfl
  have f132 := X124.out.cell 1 rfl
  have f133 := X124.out.cell 2 rfl
  have f134 := X124.out.cell 3 rfl
  have f135 := X124.out.cell 4 rfl
  have f136 := X124.out.cell 5 rfl
  have f137 := X124.out.cell 6 rfl
  have f138 := X124.out.cell 7 rfl
  have f139 := X124.out.cell 8 rfl
  have f140 := X126.out.cell 0 rfl
  have f141 := X126.out.cell 1 rfl
  have f142 := X126.out.cell 2 rfl
  have f143 := X126.out.cell 3 rfl
  have f144 := X126.out.cell 4 rfl
  have f145 := X126.out.cell 5 rfl
  have f146 := X126.out.cell 6 rfl
  have f147 := X126.out.cell 7 rfl
  have f148 := X126.out.cell 8 rfl
  have z149 := X124.out.frozen 0
  have z150 := X124.out.frozen 1
  have z151 := X124.out.frozen 2
  have z152 := X124.out.frozen 3
  have z153 := X124.out.frozen 4
  have z154 := X124.out.frozen 5
  have z155 := X124.out.frozen 6
  have z156 := X124.out.frozen 7
  have z157 := X124.out.frozen 8
  have z158 := X126.out.frozen 0
  have z159 := X126.out.frozen 1
  have z160 := X126.out.frozen 2
  have z161 := X126.out.frozen 3
  have z162 := X126.out.frozen 4
  have z163 := X126.out.frozen 5
  have z164 := X126.out.frozen 6
  have z165 := X126.out.frozen 7
  have z166 := X126.out.frozen 8
  go_wp2
  obtain ⟨W167, hW167⟩ : ∃ W167, W167 = (((((((((W122.setCell ⟨w.heap.size + 2, 0, none⟩ (.int .i64 ((x + 256 * y) % 4096))).setCell ⟨w.heap.size + 2, 1, none⟩ (.int .i64 d2.sp)).setCell ⟨w.heap.size + 2, 2, none⟩ (.int .i64 d2.bank)).setCell ⟨w.heap.size + 2, 3, none⟩ (.int .i64 d2.level)).setCell ⟨w.heap.size + 2, 4, none⟩ (.bool d2.zero)).setCell ⟨w.heap.size + 2, 5, none⟩ (.bool d2.carry)).setCell ⟨w.heap.size + 2, 6, none⟩ (.bool d2.on)).setCell ⟨w.heap.size + 2, 7, none⟩ (.bool d2.halt)).setCell ⟨w.heap.size + 2, 8, none⟩ (.slice Ab 16 cb)) := ⟨_, rfl⟩
  have hB168 : Btw (w.heap.size + 2) (w.heap.size + 2 + 1) W122 W167 := by rw [hW167]; exact (Btw.refl _ _ _).put.put.put.put.put.put.put.put.put
  have X169 : Hid (Box W167 (w.heap.size + 2) 25 #[.int .i64 ((x + 256 * y) % 4096), .int .i64 d2.sp, .int .i64 d2.bank, .int .i64 d2.level, .bool d2.zero, .bool d2.carry, .bool d2.on, .bool d2.halt, .slice Ab 16 cb]) := Lib.hid (by rw [hW167]; exact (X126.out.allN9 rfl _ _ _ _ _ _ _ _ _))
  have X170 := Lib.hid (X124.out.btw hB168 (by have := Z2.out; have := Z28.out; have := Z55.out; have := Z76.out; have := Z103.out; have := Z130.out; omega))
  have X171 := Lib.hid (X125.out.btw hB168 (by have := Z2.out; have := Z28.out; have := Z55.out; have := Z76.out; have := Z103.out; have := Z130.out; omega))
  have F172 := Lib.hid (F127.out.off X126.out (by simp) hB168)
  have F173 := Lib.hid (F128.out.off X126.out (by simp) hB168)
  have hb174 := Btw.lowSize hB168 hb129 (Nat.le_of_lt X126.out.lt) (by have := Z2.out; have := Z28.out; have := Z55.out; have := Z76.out; have := Z103.out; have := Z130.out; omega)
  have Z175 : Hid (W122.heap.size ≤ W167.heap.size) := Lib.hid hB168.size
  rw [← hW167]
  clear hW167 hB168 X126 X124 X125 F127 F128 hb129
  have r0 := X169.out
  have s0 := r0.cell 0 rfl
  have s1 := r0.cell 1 rfl
  have s2 := r0.cell 2 rfl
  have s3 := r0.cell 3 rfl
  have s4 := r0.cell 4 rfl
  have s5 := r0.cell 5 rfl
  have s6 := r0.cell 6 rfl
  have s7 := r0.cell 7 rfl
  have s8 := r0.cell 8 rfl
  refine bodyPost_ret (v := .agg #[.int .i64 ((x + 256 * y) % 4096), .int .i64 d2.sp, .int .i64 d2.bank, .int .i64 d2.level, .bool d2.zero, .bool d2.carry, .bool d2.on, .bool d2.halt, .slice Ab 16 cb]) (by simp [results, Tryz.results64, go_sem, s0, s1, s2, s3, s4, s5, s6, s7, s8]) rfl ?_
  exact ⟨_, _, rfl, Lib.hid ⟨HOk.out, F172.out.2⟩, hb174⟩

theorem xor_i64 (x y : Nat) (hx : x < 256) (hy : y < 256) : bits .xor .i64 (x : Int) (y : Int) = ((x ^^^ y : Nat) : Int) := by
  have h3 : x ^^^ y < 2 ^ 8 := Nat.xor_lt_two_pow (by omega) (by omega)
  have e : (BitVec.ofInt 64 (x : Int) ^^^ BitVec.ofInt 64 (y : Int)).toNat = x ^^^ y := by
    rw [BitVec.toNat_xor, BitVec.ofInt_natCast, BitVec.ofInt_natCast, BitVec.toNat_ofNat, BitVec.toNat_ofNat, Nat.mod_eq_of_lt (by omega), Nat.mod_eq_of_lt (by omega)]
  show IntKind.i64.wrap ((BitVec.ofInt 64 (x : Int) ^^^ BitVec.ofInt 64 (y : Int)).toNat : Nat) = _
  rw [e]
  exact wrap64 _ (by omega) (by omega)
theorem bits_bytes {a b : Int} (ha : 0 ≤ a ∧ a ≤ 255) (hb : 0 ≤ b ∧ b ≤ 255) : bits .and .i64 a b = andI a b ∧ bits .or .i64 a b = orI a b ∧ bits .xor .i64 a b = xorI a b := by
  obtain ⟨x, rfl⟩ : ∃ x : Nat, a = x := ⟨a.toNat, by omega⟩
  obtain ⟨y, rfl⟩ : ∃ y : Nat, b = y := ⟨b.toNat, by omega⟩
  have h := bits_nat .i64 8 (by decide) wrap64 x y (by omega) (by omega)
  exact ⟨h.1, h.2, xor_i64 x y (by omega) (by omega)⟩
theorem bits_range {a b : Int} (ha : 0 ≤ a ∧ a ≤ 255) (hb : 0 ≤ b ∧ b ≤ 255) : (0 ≤ andI a b ∧ andI a b ≤ 255) ∧ (0 ≤ orI a b ∧ orI a b ≤ 255) ∧ (0 ≤ xorI a b ∧ xorI a b ≤ 255) := by
  obtain ⟨x, rfl⟩ : ∃ x : Nat, a = x := ⟨a.toNat, by omega⟩
  obtain ⟨y, rfl⟩ : ∃ y : Nat, b = y := ⟨b.toNat, by omega⟩
  have h1 : x &&& y < 2 ^ 8 := Nat.and_lt_two_pow x (by omega)
  have h2 : x ||| y < 2 ^ 8 := Nat.or_lt_two_pow (by omega) (by omega)
  have h3 : x ^^^ y < 2 ^ 8 := Nat.xor_lt_two_pow (by omega) (by omega)
  unfold andI orI xorI
  simp only [Int.toNat_natCast]
  omega
theorem byB_carry (v : Int) (h : 0 ≤ v) : (!byB v) = decide (255 < v) := by unfold byB; rw [Bool.eq_iff_iff]; simp; omega
theorem byB_borrow (a b : Int) (ha : 0 ≤ a ∧ a ≤ 255) (hb : 0 ≤ b ∧ b ≤ 255) : (!byB (a - b)) = decide (a < b) := by unfold byB; rw [Bool.eq_iff_iff]; simp; omega

set_option maxRecDepth 100000 in
set_option maxHeartbeats 4000000 in
theorem l08Alu8 (A : Option Addr) (c : Nat) (d : CD) (m : MD) (reg arg : Int) (w : World) (hr : 0 ≤ reg ∧ reg ≤ 3) (hc : RepC w A d) :
    Calls Tryz.prog 70 #[.agg #[.int .i64 d.pc, .int .i64 d.sp, .int .i64 d.bank, .int .i64 d.level, .bool d.zero, .bool d.carry, .bool d.on, .bool d.halt, .slice A 16 c], .int .i64 8, .int .i64 reg] w (ReadsC (execD d m 8 reg arg) w) := by
  obtain ⟨W1, hW1⟩ : ∃ W1, W1 = ((w.alloc (.cells #[.int .i64 d.pc, .int .i64 d.sp, .int .i64 d.bank, .int .i64 d.level, .bool d.zero, .bool d.carry, .bool d.on, .bool d.halt, .slice A 16 c] 25)).alloc (.cells #[.int .i64 0, .int .i64 0, .int .i64 0, .int .i64 0, .bool false, .bool false, .bool false, .bool false, .slice none 0 0] 25)) := ⟨_, rfl⟩
  have hb0 : Below w.heap.size w W1 := by rw [hW1]; exact (((Below.refl _ _).alloc (Nat.le_refl _) _).alloc (by simp; try omega) _)
  have Z2 : Hid (W1.heap.size = w.heap.size + 2) := Lib.hid (by rw [hW1]; simp)
  have X3 : Hid (Box W1 (w.heap.size) 25 #[.int .i64 d.pc, .int .i64 d.sp, .int .i64 d.bank, .int .i64 d.level, .bool d.zero, .bool d.carry, .bool d.on, .bool d.halt, .slice A 16 c]) := Lib.hid (by rw [hW1]; exact ((Box.new w 25 #[.int .i64 d.pc, .int .i64 d.sp, .int .i64 d.bank, .int .i64 d.level, .bool d.zero, .bool d.carry, .bool d.on, .bool d.halt, .slice A 16 c]).alloc _))
  have X4 : Hid (Box W1 (w.heap.size + 1) 25 #[.int .i64 0, .int .i64 0, .int .i64 0, .int .i64 0, .bool false, .bool false, .bool false, .bool false, .slice none 0 0]) := Lib.hid (by rw [hW1]; simpa using (Box.new (w.alloc (.cells #[.int .i64 d.pc, .int .i64 d.sp, .int .i64 d.bank, .int .i64 d.level, .bool d.zero, .bool d.carry, .bool d.on, .bool d.halt, .slice A 16 c] 25)) 25 #[.int .i64 0, .int .i64 0, .int .i64 0, .int .i64 0, .bool false, .bool false, .bool false, .bool false, .slice none 0 0]))
  have F5 : Hid (RepC W1 A d) := Lib.hid (hc.below hb0)
  have HW0 := Lib.hid hW1
  clear hW1
  have hO := hc.1
  have hra := hO.reg (k := 0) (by omega) (by omega)
  have hrb := hO.reg (k := reg) hr.1 hr.2
  have HRa := Lib.hid (fun W (q : RepC W A d) => l08RegS A c d 0 W ⟨by omega, by omega⟩ q)
  have HRb := Lib.hid (fun W (q : RepC W A d) => l08RegS A c d reg W hr q)
  have HV : Hid (execD d m 8 reg arg = d.res reg (d.reg reg + 1)) := Lib.hid rfl
  have HOk := Lib.hid (hO.res reg (d.reg reg + 1))
  rw [HV.out]
  generalize hA : d.reg 0 = a at HRa hra HOk ⊢
  generalize hB : d.reg reg = b at HRb hrb HOk ⊢
  obtain ⟨v, hv⟩ : ∃ v, v = b + 1 := ⟨_, rfl⟩
  have hv0 : 0 ≤ v ∧ v ≤ 600 := by omega
  have e1 : v.tmod 256 = v % 256 := Int.tmod_eq_emod_of_nonneg hv0.1
  have e2 : (v % 256 == 0) = decide (v % 256 = 0) := by rw [Bool.eq_iff_iff]; simp
  have HSt := Lib.hid (fun W (q : RepC W A d) => l08SetS A c d reg (v % 256) W hr ⟨by omega, by omega⟩ q)
  unfold ReadsC at HSt
  have HT : Hid (d.res reg (b + 1) = { d.set reg (v % 256) with zero := decide (v % 256 = 0) }) := Lib.hid (by rw [hv]; rfl)
  rw [HT.out] at HOk
  rw [HT.out]
  have e5 : IntKind.i64.wrap (b + 1) = v := by rw [← hv]; exact IntWalk.i64_in _ (by omega)
  have HCar : Hid ((d.set reg (v % 256)).carry = d.carry) := Lib.hid rfl
  generalize d.set reg (v % 256) = d1 at HSt HOk HCar ⊢
  obtain ⟨hv1, hv2⟩ := hv0
  obtain ⟨ra0, ra1⟩ := hra
  obtain ⟨rb0, rb1⟩ := hrb
  have hv3 : b + 1 = v := hv.symm
  clear hc hO HV HT hA hB hv hr
  have f6 := X3.out.cell 0 rfl
  have f7 := X3.out.cell 1 rfl
  have f8 := X3.out.cell 2 rfl
  have f9 := X3.out.cell 3 rfl
  have f10 := X3.out.cell 4 rfl
  have f11 := X3.out.cell 5 rfl
  have f12 := X3.out.cell 6 rfl
  have f13 := X3.out.cell 7 rfl
  have f14 := X3.out.cell 8 rfl
  rw [HW0.out] at f6 f7 f8 f9 f10 f11 f12 f13 f14
  go_enter Tryz.func70, Tryz.ntmps70
  go_wp2_with fail
  rw [← HW0.out]
  rw [← HW0.out] at f6 f7 f8 f9 f10 f11 f12 f13 f14
  clear f6 f7 f8 f9 f10 f11 f12 f13 f14
  refine (HRa.out _ F5.out).mono ?_
  rintro e w1 ⟨rfl, hq1⟩
  have X15 := Lib.hid (X3.out.step hq1)
  have X16 := Lib.hid (X4.out.step hq1)
  have F17 := Lib.hid (F5.out.below hq1)
  have hb18 := bt hb0 hq1
  have Z19 : Hid (W1.heap.size ≤ w1.heap.size) := Lib.hid hq1.size
  clear X3 X4 F5 hb0 hq1
  have f20 := X15.out.cell 0 rfl
  have f21 := X15.out.cell 1 rfl
  have f22 := X15.out.cell 2 rfl
  have f23 := X15.out.cell 3 rfl
  have f24 := X15.out.cell 4 rfl
  have f25 := X15.out.cell 5 rfl
  have f26 := X15.out.cell 6 rfl
  have f27 := X15.out.cell 7 rfl
  have f28 := X15.out.cell 8 rfl
  go_wp2_with fail
  clear f20 f21 f22 f23 f24 f25 f26 f27 f28
  refine (HRb.out _ F17.out).mono ?_
  rintro e w2 ⟨rfl, hq2⟩
  have X29 := Lib.hid (X15.out.step hq2)
  have X30 := Lib.hid (X16.out.step hq2)
  have F31 := Lib.hid (F17.out.below hq2)
  have hb32 := bt hb18 hq2
  have Z33 : Hid (w1.heap.size ≤ w2.heap.size) := Lib.hid hq2.size
  clear X15 X16 F17 hb18 hq2
  have f34 := X29.out.cell 0 rfl
  have f35 := X29.out.cell 1 rfl
  have f36 := X29.out.cell 2 rfl
  have f37 := X29.out.cell 3 rfl
  have f38 := X29.out.cell 4 rfl
  have f39 := X29.out.cell 5 rfl
  have f40 := X29.out.cell 6 rfl
  have f41 := X29.out.cell 7 rfl
  have f42 := X29.out.cell 8 rfl
  go_wp2_with fail
  clear f34 f35 f36 f37 f38 f39 f40 f41 f42
  refine (HSt.out _ F31.out).mono ?_
  rintro e w3 ⟨Aa, ca, rfl, NC, hq3⟩
  have X43 := Lib.hid (X29.out.step hq3)
  have X44 := Lib.hid (X30.out.step hq3)
  have F45 := Lib.hid (F31.out.below hq3)
  have hb46 := bt hb32 hq3
  have Z47 : Hid (w2.heap.size ≤ w3.heap.size) := Lib.hid hq3.size
  clear X29 X30 F31 hb32 hq3
  clear F45 HRa HRb HSt
  have f48 := X43.out.cell 0 rfl
  have f49 := X43.out.cell 1 rfl
  have f50 := X43.out.cell 2 rfl
  have f51 := X43.out.cell 3 rfl
  have f52 := X43.out.cell 4 rfl
  have f53 := X43.out.cell 5 rfl
  have f54 := X43.out.cell 6 rfl
  have f55 := X43.out.cell 7 rfl
  have f56 := X43.out.cell 8 rfl
  have z57 := X43.out.frozen 0
  have z58 := X43.out.frozen 1
  have z59 := X43.out.frozen 2
  have z60 := X43.out.frozen 3
  have z61 := X43.out.frozen 4
  have z62 := X43.out.frozen 5
  have z63 := X43.out.frozen 6
  have z64 := X43.out.frozen 7
  have z65 := X43.out.frozen 8
  go_upto_region 27 with fail
  obtain ⟨W66, hW66⟩ : ∃ W66, W66 = (((((((((w3.setCell ⟨w.heap.size, 0, none⟩ (.int .i64 d1.pc)).setCell ⟨w.heap.size, 1, none⟩ (.int .i64 d1.sp)).setCell ⟨w.heap.size, 2, none⟩ (.int .i64 d1.bank)).setCell ⟨w.heap.size, 3, none⟩ (.int .i64 d1.level)).setCell ⟨w.heap.size, 4, none⟩ (.bool d1.zero)).setCell ⟨w.heap.size, 5, none⟩ (.bool d1.carry)).setCell ⟨w.heap.size, 6, none⟩ (.bool d1.on)).setCell ⟨w.heap.size, 7, none⟩ (.bool d1.halt)).setCell ⟨w.heap.size, 8, none⟩ (.slice Aa 16 ca)) := ⟨_, rfl⟩
  have hB67 : Btw (w.heap.size) (w.heap.size + 1) w3 W66 := by rw [hW66]; exact (Btw.refl _ _ _).put.put.put.put.put.put.put.put.put
  have X68 : Hid (Box W66 (w.heap.size) 25 #[.int .i64 d1.pc, .int .i64 d1.sp, .int .i64 d1.bank, .int .i64 d1.level, .bool d1.zero, .bool d1.carry, .bool d1.on, .bool d1.halt, .slice Aa 16 ca]) := Lib.hid (by rw [hW66]; exact (X43.out.allN9 rfl _ _ _ _ _ _ _ _ _))
  have X69 := Lib.hid (X44.out.btw hB67 (by have := Z2.out; have := Z19.out; have := Z33.out; have := Z47.out; omega))
  have F70 := Lib.hid (NC.out.off X43.out (by simp) hB67)
  have hb71 := Btw.lowSize hB67 hb46 (Nat.le_of_lt X43.out.lt) (by have := Z2.out; have := Z19.out; have := Z33.out; have := Z47.out; omega)
  have Z72 : Hid (w3.heap.size ≤ W66.heap.size) := Lib.hid hB67.size
  rw [← hW66]
  clear hW66 hB67 X43 X44 NC hb46
  have f73 := X68.out.cell 0 rfl
  have f74 := X68.out.cell 1 rfl
  have f75 := X68.out.cell 2 rfl
  have f76 := X68.out.cell 3 rfl
  have f77 := X68.out.cell 4 rfl
  have f78 := X68.out.cell 5 rfl
  have f79 := X68.out.cell 6 rfl
  have f80 := X68.out.cell 7 rfl
  have f81 := X68.out.cell 8 rfl
  have z82 := X68.out.frozen 0
  have z83 := X68.out.frozen 1
  have z84 := X68.out.frozen 2
  have z85 := X68.out.frozen 3
  have z86 := X68.out.frozen 4
  have z87 := X68.out.frozen 5
  have z88 := X68.out.frozen 6
  have z89 := X68.out.frozen 7
  have z90 := X68.out.frozen 8
  go_upto_region 29 with fail
  obtain ⟨W91, hW91⟩ : ∃ W91, W91 = ((W66.setCell ⟨w.heap.size, 4, none⟩ (.bool (decide (v % 256 = 0)))).setCell ⟨w.heap.size, 5, none⟩ (.bool d.carry)) := ⟨_, rfl⟩
  have hB92 : Btw (w.heap.size) (w.heap.size + 1) W66 W91 := by rw [hW91]; exact (Btw.refl _ _ _).put.put
  have X93 : Hid (Box W91 (w.heap.size) 25 #[.int .i64 d1.pc, .int .i64 d1.sp, .int .i64 d1.bank, .int .i64 d1.level, .bool (decide (v % 256 = 0)), .bool d.carry, .bool d1.on, .bool d1.halt, .slice Aa 16 ca]) := Lib.hid (by rw [hW91]; exact ((X68.out.set 4 _).set 5 _))
  have X94 := Lib.hid (X69.out.btw hB92 (by have := Z2.out; have := Z19.out; have := Z33.out; have := Z47.out; have := Z72.out; omega))
  have F95 := Lib.hid (F70.out.off X68.out (by simp) hB92)
  have hb96 := Btw.lowSize hB92 hb71 (Nat.le_of_lt X68.out.lt) (by have := Z2.out; have := Z19.out; have := Z33.out; have := Z47.out; have := Z72.out; omega)
  have Z97 : Hid (W66.heap.size ≤ W91.heap.size) := Lib.hid hB92.size
  rw [← hW91]
  clear hW91 hB92 X68 X69 F70 hb71
  have f98 := X93.out.cell 0 rfl
  have f99 := X93.out.cell 1 rfl
  have f100 := X93.out.cell 2 rfl
  have f101 := X93.out.cell 3 rfl
  have f102 := X93.out.cell 4 rfl
  have f103 := X93.out.cell 5 rfl
  have f104 := X93.out.cell 6 rfl
  have f105 := X93.out.cell 7 rfl
  have f106 := X93.out.cell 8 rfl
  have f107 := X94.out.cell 0 rfl
  have f108 := X94.out.cell 1 rfl
  have f109 := X94.out.cell 2 rfl
  have f110 := X94.out.cell 3 rfl
  have f111 := X94.out.cell 4 rfl
  have f112 := X94.out.cell 5 rfl
  have f113 := X94.out.cell 6 rfl
  have f114 := X94.out.cell 7 rfl
  have f115 := X94.out.cell 8 rfl
  have z116 := X93.out.frozen 0
  have z117 := X93.out.frozen 1
  have z118 := X93.out.frozen 2
  have z119 := X93.out.frozen 3
  have z120 := X93.out.frozen 4
  have z121 := X93.out.frozen 5
  have z122 := X93.out.frozen 6
  have z123 := X93.out.frozen 7
  have z124 := X93.out.frozen 8
  have z125 := X94.out.frozen 0
  have z126 := X94.out.frozen 1
  have z127 := X94.out.frozen 2
  have z128 := X94.out.frozen 3
  have z129 := X94.out.frozen 4
  have z130 := X94.out.frozen 5
  have z131 := X94.out.frozen 6
  have z132 := X94.out.frozen 7
  have z133 := X94.out.frozen 8
  go_wp2
  obtain ⟨W134, hW134⟩ : ∃ W134, W134 = (((((((((W91.setCell ⟨w.heap.size + 1, 0, none⟩ (.int .i64 d1.pc)).setCell ⟨w.heap.size + 1, 1, none⟩ (.int .i64 d1.sp)).setCell ⟨w.heap.size + 1, 2, none⟩ (.int .i64 d1.bank)).setCell ⟨w.heap.size + 1, 3, none⟩ (.int .i64 d1.level)).setCell ⟨w.heap.size + 1, 4, none⟩ (.bool (decide (v % 256 = 0)))).setCell ⟨w.heap.size + 1, 5, none⟩ (.bool d.carry)).setCell ⟨w.heap.size + 1, 6, none⟩ (.bool d1.on)).setCell ⟨w.heap.size + 1, 7, none⟩ (.bool d1.halt)).setCell ⟨w.heap.size + 1, 8, none⟩ (.slice Aa 16 ca)) := ⟨_, rfl⟩
  have hB135 : Btw (w.heap.size + 1) (w.heap.size + 1 + 1) W91 W134 := by rw [hW134]; exact (Btw.refl _ _ _).put.put.put.put.put.put.put.put.put
  have X136 : Hid (Box W134 (w.heap.size + 1) 25 #[.int .i64 d1.pc, .int .i64 d1.sp, .int .i64 d1.bank, .int .i64 d1.level, .bool (decide (v % 256 = 0)), .bool d.carry, .bool d1.on, .bool d1.halt, .slice Aa 16 ca]) := Lib.hid (by rw [hW134]; exact (X94.out.allN9 rfl _ _ _ _ _ _ _ _ _))
  have X137 := Lib.hid (X93.out.btw hB135 (by have := Z2.out; have := Z19.out; have := Z33.out; have := Z47.out; have := Z72.out; have := Z97.out; omega))
  have F138 := Lib.hid (F95.out.off X94.out (by simp) hB135)
  have hb139 := Btw.lowSize hB135 hb96 (Nat.le_of_lt X94.out.lt) (by have := Z2.out; have := Z19.out; have := Z33.out; have := Z47.out; have := Z72.out; have := Z97.out; omega)
  have Z140 : Hid (W91.heap.size ≤ W134.heap.size) := Lib.hid hB135.size
  rw [← hW134]
  clear hW134 hB135 X94 X93 F95 hb96
  have r0 := X136.out
  have s0 := r0.cell 0 rfl
  have s1 := r0.cell 1 rfl
  have s2 := r0.cell 2 rfl
  have s3 := r0.cell 3 rfl
  have s4 := r0.cell 4 rfl
  have s5 := r0.cell 5 rfl
  have s6 := r0.cell 6 rfl
  have s7 := r0.cell 7 rfl
  have s8 := r0.cell 8 rfl
  refine bodyPost_ret (v := .agg #[.int .i64 d1.pc, .int .i64 d1.sp, .int .i64 d1.bank, .int .i64 d1.level, .bool (decide (v % 256 = 0)), .bool d.carry, .bool d1.on, .bool d1.halt, .slice Aa 16 ca]) (by simp [results, Tryz.results70, go_sem, s0, s1, s2, s3, s4, s5, s6, s7, s8]) rfl ?_
  exact ⟨Aa, ca, by rw [← HCar.out], Lib.hid ⟨HOk.out, F138.out.2⟩, hb139⟩

set_option maxRecDepth 100000 in
set_option maxHeartbeats 4000000 in
theorem l08Alu9 (A : Option Addr) (c : Nat) (d : CD) (m : MD) (reg arg : Int) (w : World) (hr : 0 ≤ reg ∧ reg ≤ 3) (hc : RepC w A d) :
    Calls Tryz.prog 70 #[.agg #[.int .i64 d.pc, .int .i64 d.sp, .int .i64 d.bank, .int .i64 d.level, .bool d.zero, .bool d.carry, .bool d.on, .bool d.halt, .slice A 16 c], .int .i64 9, .int .i64 reg] w (ReadsC (execD d m 9 reg arg) w) := by
  obtain ⟨W1, hW1⟩ : ∃ W1, W1 = ((w.alloc (.cells #[.int .i64 d.pc, .int .i64 d.sp, .int .i64 d.bank, .int .i64 d.level, .bool d.zero, .bool d.carry, .bool d.on, .bool d.halt, .slice A 16 c] 25)).alloc (.cells #[.int .i64 0, .int .i64 0, .int .i64 0, .int .i64 0, .bool false, .bool false, .bool false, .bool false, .slice none 0 0] 25)) := ⟨_, rfl⟩
  have hb0 : Below w.heap.size w W1 := by rw [hW1]; exact (((Below.refl _ _).alloc (Nat.le_refl _) _).alloc (by simp; try omega) _)
  have Z2 : Hid (W1.heap.size = w.heap.size + 2) := Lib.hid (by rw [hW1]; simp)
  have X3 : Hid (Box W1 (w.heap.size) 25 #[.int .i64 d.pc, .int .i64 d.sp, .int .i64 d.bank, .int .i64 d.level, .bool d.zero, .bool d.carry, .bool d.on, .bool d.halt, .slice A 16 c]) := Lib.hid (by rw [hW1]; exact ((Box.new w 25 #[.int .i64 d.pc, .int .i64 d.sp, .int .i64 d.bank, .int .i64 d.level, .bool d.zero, .bool d.carry, .bool d.on, .bool d.halt, .slice A 16 c]).alloc _))
  have X4 : Hid (Box W1 (w.heap.size + 1) 25 #[.int .i64 0, .int .i64 0, .int .i64 0, .int .i64 0, .bool false, .bool false, .bool false, .bool false, .slice none 0 0]) := Lib.hid (by rw [hW1]; simpa using (Box.new (w.alloc (.cells #[.int .i64 d.pc, .int .i64 d.sp, .int .i64 d.bank, .int .i64 d.level, .bool d.zero, .bool d.carry, .bool d.on, .bool d.halt, .slice A 16 c] 25)) 25 #[.int .i64 0, .int .i64 0, .int .i64 0, .int .i64 0, .bool false, .bool false, .bool false, .bool false, .slice none 0 0]))
  have F5 : Hid (RepC W1 A d) := Lib.hid (hc.below hb0)
  have HW0 := Lib.hid hW1
  clear hW1
  have hO := hc.1
  have hra := hO.reg (k := 0) (by omega) (by omega)
  have hrb := hO.reg (k := reg) hr.1 hr.2
  have HRa := Lib.hid (fun W (q : RepC W A d) => l08RegS A c d 0 W ⟨by omega, by omega⟩ q)
  have HRb := Lib.hid (fun W (q : RepC W A d) => l08RegS A c d reg W hr q)
  have HV : Hid (execD d m 9 reg arg = d.res reg (d.reg reg - 1)) := Lib.hid rfl
  have HOk := Lib.hid (hO.res reg (d.reg reg - 1))
  rw [HV.out]
  generalize hA : d.reg 0 = a at HRa hra HOk ⊢
  generalize hB : d.reg reg = b at HRb hrb HOk ⊢
  obtain ⟨v, hv⟩ : ∃ v, v = b + 255 := ⟨_, rfl⟩
  have hv0 : 0 ≤ v ∧ v ≤ 600 := by omega
  have e1 : v.tmod 256 = v % 256 := Int.tmod_eq_emod_of_nonneg hv0.1
  have e2 : (v % 256 == 0) = decide (v % 256 = 0) := by rw [Bool.eq_iff_iff]; simp
  have HSt := Lib.hid (fun W (q : RepC W A d) => l08SetS A c d reg (v % 256) W hr ⟨by omega, by omega⟩ q)
  unfold ReadsC at HSt
  have HT : Hid (d.res reg (b - 1) = { d.set reg (v % 256) with zero := decide (v % 256 = 0) }) := Lib.hid (by unfold CD.res; rw [show (b - 1) % 256 = v % 256 by omega])
  rw [HT.out] at HOk
  rw [HT.out]
  have e5 : IntKind.i64.wrap (b + 255) = v := by rw [← hv]; exact IntWalk.i64_in _ (by omega)
  have HCar : Hid ((d.set reg (v % 256)).carry = d.carry) := Lib.hid rfl
  generalize d.set reg (v % 256) = d1 at HSt HOk HCar ⊢
  obtain ⟨hv1, hv2⟩ := hv0
  obtain ⟨ra0, ra1⟩ := hra
  obtain ⟨rb0, rb1⟩ := hrb
  have hv3 : b + 255 = v := hv.symm
  clear hc hO HV HT hA hB hv hr
  have f6 := X3.out.cell 0 rfl
  have f7 := X3.out.cell 1 rfl
  have f8 := X3.out.cell 2 rfl
  have f9 := X3.out.cell 3 rfl
  have f10 := X3.out.cell 4 rfl
  have f11 := X3.out.cell 5 rfl
  have f12 := X3.out.cell 6 rfl
  have f13 := X3.out.cell 7 rfl
  have f14 := X3.out.cell 8 rfl
  rw [HW0.out] at f6 f7 f8 f9 f10 f11 f12 f13 f14
  go_enter Tryz.func70, Tryz.ntmps70
  go_wp2_with fail
  rw [← HW0.out]
  rw [← HW0.out] at f6 f7 f8 f9 f10 f11 f12 f13 f14
  clear f6 f7 f8 f9 f10 f11 f12 f13 f14
  refine (HRa.out _ F5.out).mono ?_
  rintro e w1 ⟨rfl, hq1⟩
  have X15 := Lib.hid (X3.out.step hq1)
  have X16 := Lib.hid (X4.out.step hq1)
  have F17 := Lib.hid (F5.out.below hq1)
  have hb18 := bt hb0 hq1
  have Z19 : Hid (W1.heap.size ≤ w1.heap.size) := Lib.hid hq1.size
  clear X3 X4 F5 hb0 hq1
  have f20 := X15.out.cell 0 rfl
  have f21 := X15.out.cell 1 rfl
  have f22 := X15.out.cell 2 rfl
  have f23 := X15.out.cell 3 rfl
  have f24 := X15.out.cell 4 rfl
  have f25 := X15.out.cell 5 rfl
  have f26 := X15.out.cell 6 rfl
  have f27 := X15.out.cell 7 rfl
  have f28 := X15.out.cell 8 rfl
  go_wp2_with fail
  clear f20 f21 f22 f23 f24 f25 f26 f27 f28
  refine (HRb.out _ F17.out).mono ?_
  rintro e w2 ⟨rfl, hq2⟩
  have X29 := Lib.hid (X15.out.step hq2)
  have X30 := Lib.hid (X16.out.step hq2)
  have F31 := Lib.hid (F17.out.below hq2)
  have hb32 := bt hb18 hq2
  have Z33 : Hid (w1.heap.size ≤ w2.heap.size) := Lib.hid hq2.size
  clear X15 X16 F17 hb18 hq2
  have f34 := X29.out.cell 0 rfl
  have f35 := X29.out.cell 1 rfl
  have f36 := X29.out.cell 2 rfl
  have f37 := X29.out.cell 3 rfl
  have f38 := X29.out.cell 4 rfl
  have f39 := X29.out.cell 5 rfl
  have f40 := X29.out.cell 6 rfl
  have f41 := X29.out.cell 7 rfl
  have f42 := X29.out.cell 8 rfl
  go_wp2_with fail
  clear f34 f35 f36 f37 f38 f39 f40 f41 f42
  refine (HSt.out _ F31.out).mono ?_
  rintro e w3 ⟨Aa, ca, rfl, NC, hq3⟩
  have X43 := Lib.hid (X29.out.step hq3)
  have X44 := Lib.hid (X30.out.step hq3)
  have F45 := Lib.hid (F31.out.below hq3)
  have hb46 := bt hb32 hq3
  have Z47 : Hid (w2.heap.size ≤ w3.heap.size) := Lib.hid hq3.size
  clear X29 X30 F31 hb32 hq3
  clear F45 HRa HRb HSt
  have f48 := X43.out.cell 0 rfl
  have f49 := X43.out.cell 1 rfl
  have f50 := X43.out.cell 2 rfl
  have f51 := X43.out.cell 3 rfl
  have f52 := X43.out.cell 4 rfl
  have f53 := X43.out.cell 5 rfl
  have f54 := X43.out.cell 6 rfl
  have f55 := X43.out.cell 7 rfl
  have f56 := X43.out.cell 8 rfl
  have z57 := X43.out.frozen 0
  have z58 := X43.out.frozen 1
  have z59 := X43.out.frozen 2
  have z60 := X43.out.frozen 3
  have z61 := X43.out.frozen 4
  have z62 := X43.out.frozen 5
  have z63 := X43.out.frozen 6
  have z64 := X43.out.frozen 7
  have z65 := X43.out.frozen 8
  go_upto_region 27 with fail
  obtain ⟨W66, hW66⟩ : ∃ W66, W66 = (((((((((w3.setCell ⟨w.heap.size, 0, none⟩ (.int .i64 d1.pc)).setCell ⟨w.heap.size, 1, none⟩ (.int .i64 d1.sp)).setCell ⟨w.heap.size, 2, none⟩ (.int .i64 d1.bank)).setCell ⟨w.heap.size, 3, none⟩ (.int .i64 d1.level)).setCell ⟨w.heap.size, 4, none⟩ (.bool d1.zero)).setCell ⟨w.heap.size, 5, none⟩ (.bool d1.carry)).setCell ⟨w.heap.size, 6, none⟩ (.bool d1.on)).setCell ⟨w.heap.size, 7, none⟩ (.bool d1.halt)).setCell ⟨w.heap.size, 8, none⟩ (.slice Aa 16 ca)) := ⟨_, rfl⟩
  have hB67 : Btw (w.heap.size) (w.heap.size + 1) w3 W66 := by rw [hW66]; exact (Btw.refl _ _ _).put.put.put.put.put.put.put.put.put
  have X68 : Hid (Box W66 (w.heap.size) 25 #[.int .i64 d1.pc, .int .i64 d1.sp, .int .i64 d1.bank, .int .i64 d1.level, .bool d1.zero, .bool d1.carry, .bool d1.on, .bool d1.halt, .slice Aa 16 ca]) := Lib.hid (by rw [hW66]; exact (X43.out.allN9 rfl _ _ _ _ _ _ _ _ _))
  have X69 := Lib.hid (X44.out.btw hB67 (by have := Z2.out; have := Z19.out; have := Z33.out; have := Z47.out; omega))
  have F70 := Lib.hid (NC.out.off X43.out (by simp) hB67)
  have hb71 := Btw.lowSize hB67 hb46 (Nat.le_of_lt X43.out.lt) (by have := Z2.out; have := Z19.out; have := Z33.out; have := Z47.out; omega)
  have Z72 : Hid (w3.heap.size ≤ W66.heap.size) := Lib.hid hB67.size
  rw [← hW66]
  clear hW66 hB67 X43 X44 NC hb46
  have f73 := X68.out.cell 0 rfl
  have f74 := X68.out.cell 1 rfl
  have f75 := X68.out.cell 2 rfl
  have f76 := X68.out.cell 3 rfl
  have f77 := X68.out.cell 4 rfl
  have f78 := X68.out.cell 5 rfl
  have f79 := X68.out.cell 6 rfl
  have f80 := X68.out.cell 7 rfl
  have f81 := X68.out.cell 8 rfl
  have z82 := X68.out.frozen 0
  have z83 := X68.out.frozen 1
  have z84 := X68.out.frozen 2
  have z85 := X68.out.frozen 3
  have z86 := X68.out.frozen 4
  have z87 := X68.out.frozen 5
  have z88 := X68.out.frozen 6
  have z89 := X68.out.frozen 7
  have z90 := X68.out.frozen 8
  go_upto_region 29 with fail
  obtain ⟨W91, hW91⟩ : ∃ W91, W91 = ((W66.setCell ⟨w.heap.size, 4, none⟩ (.bool (decide (v % 256 = 0)))).setCell ⟨w.heap.size, 5, none⟩ (.bool d.carry)) := ⟨_, rfl⟩
  have hB92 : Btw (w.heap.size) (w.heap.size + 1) W66 W91 := by rw [hW91]; exact (Btw.refl _ _ _).put.put
  have X93 : Hid (Box W91 (w.heap.size) 25 #[.int .i64 d1.pc, .int .i64 d1.sp, .int .i64 d1.bank, .int .i64 d1.level, .bool (decide (v % 256 = 0)), .bool d.carry, .bool d1.on, .bool d1.halt, .slice Aa 16 ca]) := Lib.hid (by rw [hW91]; exact ((X68.out.set 4 _).set 5 _))
  have X94 := Lib.hid (X69.out.btw hB92 (by have := Z2.out; have := Z19.out; have := Z33.out; have := Z47.out; have := Z72.out; omega))
  have F95 := Lib.hid (F70.out.off X68.out (by simp) hB92)
  have hb96 := Btw.lowSize hB92 hb71 (Nat.le_of_lt X68.out.lt) (by have := Z2.out; have := Z19.out; have := Z33.out; have := Z47.out; have := Z72.out; omega)
  have Z97 : Hid (W66.heap.size ≤ W91.heap.size) := Lib.hid hB92.size
  rw [← hW91]
  clear hW91 hB92 X68 X69 F70 hb71
  have f98 := X93.out.cell 0 rfl
  have f99 := X93.out.cell 1 rfl
  have f100 := X93.out.cell 2 rfl
  have f101 := X93.out.cell 3 rfl
  have f102 := X93.out.cell 4 rfl
  have f103 := X93.out.cell 5 rfl
  have f104 := X93.out.cell 6 rfl
  have f105 := X93.out.cell 7 rfl
  have f106 := X93.out.cell 8 rfl
  have f107 := X94.out.cell 0 rfl
  have f108 := X94.out.cell 1 rfl
  have f109 := X94.out.cell 2 rfl
  have f110 := X94.out.cell 3 rfl
  have f111 := X94.out.cell 4 rfl
  have f112 := X94.out.cell 5 rfl
  have f113 := X94.out.cell 6 rfl
  have f114 := X94.out.cell 7 rfl
  have f115 := X94.out.cell 8 rfl
  have z116 := X93.out.frozen 0
  have z117 := X93.out.frozen 1
  have z118 := X93.out.frozen 2
  have z119 := X93.out.frozen 3
  have z120 := X93.out.frozen 4
  have z121 := X93.out.frozen 5
  have z122 := X93.out.frozen 6
  have z123 := X93.out.frozen 7
  have z124 := X93.out.frozen 8
  have z125 := X94.out.frozen 0
  have z126 := X94.out.frozen 1
  have z127 := X94.out.frozen 2
  have z128 := X94.out.frozen 3
  have z129 := X94.out.frozen 4
  have z130 := X94.out.frozen 5
  have z131 := X94.out.frozen 6
  have z132 := X94.out.frozen 7
  have z133 := X94.out.frozen 8
  go_wp2
  obtain ⟨W134, hW134⟩ : ∃ W134, W134 = (((((((((W91.setCell ⟨w.heap.size + 1, 0, none⟩ (.int .i64 d1.pc)).setCell ⟨w.heap.size + 1, 1, none⟩ (.int .i64 d1.sp)).setCell ⟨w.heap.size + 1, 2, none⟩ (.int .i64 d1.bank)).setCell ⟨w.heap.size + 1, 3, none⟩ (.int .i64 d1.level)).setCell ⟨w.heap.size + 1, 4, none⟩ (.bool (decide (v % 256 = 0)))).setCell ⟨w.heap.size + 1, 5, none⟩ (.bool d.carry)).setCell ⟨w.heap.size + 1, 6, none⟩ (.bool d1.on)).setCell ⟨w.heap.size + 1, 7, none⟩ (.bool d1.halt)).setCell ⟨w.heap.size + 1, 8, none⟩ (.slice Aa 16 ca)) := ⟨_, rfl⟩
  have hB135 : Btw (w.heap.size + 1) (w.heap.size + 1 + 1) W91 W134 := by rw [hW134]; exact (Btw.refl _ _ _).put.put.put.put.put.put.put.put.put
  have X136 : Hid (Box W134 (w.heap.size + 1) 25 #[.int .i64 d1.pc, .int .i64 d1.sp, .int .i64 d1.bank, .int .i64 d1.level, .bool (decide (v % 256 = 0)), .bool d.carry, .bool d1.on, .bool d1.halt, .slice Aa 16 ca]) := Lib.hid (by rw [hW134]; exact (X94.out.allN9 rfl _ _ _ _ _ _ _ _ _))
  have X137 := Lib.hid (X93.out.btw hB135 (by have := Z2.out; have := Z19.out; have := Z33.out; have := Z47.out; have := Z72.out; have := Z97.out; omega))
  have F138 := Lib.hid (F95.out.off X94.out (by simp) hB135)
  have hb139 := Btw.lowSize hB135 hb96 (Nat.le_of_lt X94.out.lt) (by have := Z2.out; have := Z19.out; have := Z33.out; have := Z47.out; have := Z72.out; have := Z97.out; omega)
  have Z140 : Hid (W91.heap.size ≤ W134.heap.size) := Lib.hid hB135.size
  rw [← hW134]
  clear hW134 hB135 X94 X93 F95 hb96
  have r0 := X136.out
  have s0 := r0.cell 0 rfl
  have s1 := r0.cell 1 rfl
  have s2 := r0.cell 2 rfl
  have s3 := r0.cell 3 rfl
  have s4 := r0.cell 4 rfl
  have s5 := r0.cell 5 rfl
  have s6 := r0.cell 6 rfl
  have s7 := r0.cell 7 rfl
  have s8 := r0.cell 8 rfl
  refine bodyPost_ret (v := .agg #[.int .i64 d1.pc, .int .i64 d1.sp, .int .i64 d1.bank, .int .i64 d1.level, .bool (decide (v % 256 = 0)), .bool d.carry, .bool d1.on, .bool d1.halt, .slice Aa 16 ca]) (by simp [results, Tryz.results70, go_sem, s0, s1, s2, s3, s4, s5, s6, s7, s8]) rfl ?_
  exact ⟨Aa, ca, by rw [← HCar.out], Lib.hid ⟨HOk.out, F138.out.2⟩, hb139⟩

set_option maxRecDepth 100000 in
set_option maxHeartbeats 4000000 in
theorem l08Alu10 (A : Option Addr) (c : Nat) (d : CD) (m : MD) (reg arg : Int) (w : World) (hr : 0 ≤ reg ∧ reg ≤ 3) (hc : RepC w A d) :
    Calls Tryz.prog 70 #[.agg #[.int .i64 d.pc, .int .i64 d.sp, .int .i64 d.bank, .int .i64 d.level, .bool d.zero, .bool d.carry, .bool d.on, .bool d.halt, .slice A 16 c], .int .i64 10, .int .i64 reg] w (ReadsC (execD d m 10 reg arg) w) := by
  obtain ⟨W1, hW1⟩ : ∃ W1, W1 = ((w.alloc (.cells #[.int .i64 d.pc, .int .i64 d.sp, .int .i64 d.bank, .int .i64 d.level, .bool d.zero, .bool d.carry, .bool d.on, .bool d.halt, .slice A 16 c] 25)).alloc (.cells #[.int .i64 0, .int .i64 0, .int .i64 0, .int .i64 0, .bool false, .bool false, .bool false, .bool false, .slice none 0 0] 25)) := ⟨_, rfl⟩
  have hb0 : Below w.heap.size w W1 := by rw [hW1]; exact (((Below.refl _ _).alloc (Nat.le_refl _) _).alloc (by simp; try omega) _)
  have Z2 : Hid (W1.heap.size = w.heap.size + 2) := Lib.hid (by rw [hW1]; simp)
  have X3 : Hid (Box W1 (w.heap.size) 25 #[.int .i64 d.pc, .int .i64 d.sp, .int .i64 d.bank, .int .i64 d.level, .bool d.zero, .bool d.carry, .bool d.on, .bool d.halt, .slice A 16 c]) := Lib.hid (by rw [hW1]; exact ((Box.new w 25 #[.int .i64 d.pc, .int .i64 d.sp, .int .i64 d.bank, .int .i64 d.level, .bool d.zero, .bool d.carry, .bool d.on, .bool d.halt, .slice A 16 c]).alloc _))
  have X4 : Hid (Box W1 (w.heap.size + 1) 25 #[.int .i64 0, .int .i64 0, .int .i64 0, .int .i64 0, .bool false, .bool false, .bool false, .bool false, .slice none 0 0]) := Lib.hid (by rw [hW1]; simpa using (Box.new (w.alloc (.cells #[.int .i64 d.pc, .int .i64 d.sp, .int .i64 d.bank, .int .i64 d.level, .bool d.zero, .bool d.carry, .bool d.on, .bool d.halt, .slice A 16 c] 25)) 25 #[.int .i64 0, .int .i64 0, .int .i64 0, .int .i64 0, .bool false, .bool false, .bool false, .bool false, .slice none 0 0]))
  have F5 : Hid (RepC W1 A d) := Lib.hid (hc.below hb0)
  have HW0 := Lib.hid hW1
  clear hW1
  have hO := hc.1
  have hra := hO.reg (k := 0) (by omega) (by omega)
  have hrb := hO.reg (k := reg) hr.1 hr.2
  have HRa := Lib.hid (fun W (q : RepC W A d) => l08RegS A c d 0 W ⟨by omega, by omega⟩ q)
  have HRb := Lib.hid (fun W (q : RepC W A d) => l08RegS A c d reg W hr q)
  have HV : Hid (execD d m 10 reg arg = d.comb (d.reg 0 + d.reg reg)) := Lib.hid rfl
  have HOk := Lib.hid (hO.comb (d.reg 0 + d.reg reg))
  rw [HV.out]
  generalize hA : d.reg 0 = a at HRa hra HOk ⊢
  generalize hB : d.reg reg = b at HRb hrb HOk ⊢
  obtain ⟨v, hv⟩ : ∃ v, v = a + b := ⟨_, rfl⟩
  have hv0 : 0 ≤ v ∧ v ≤ 600 := by omega
  have e1 : v.tmod 256 = v % 256 := Int.tmod_eq_emod_of_nonneg hv0.1
  have e2 : (v % 256 == 0) = decide (v % 256 = 0) := by rw [Bool.eq_iff_iff]; simp
  have HSt := Lib.hid (fun W (q : RepC W A d) => l08SetS A c d 0 (v % 256) W ⟨by omega, by omega⟩ ⟨by omega, by omega⟩ q)
  unfold ReadsC at HSt
  have HT : Hid (d.comb (a + b) = { d.set 0 (v % 256) with zero := decide (v % 256 = 0), carry := decide (255 < v) }) := Lib.hid (by unfold CD.comb CD.res; rw [byB_carry _ (by omega), ← hv])
  rw [HT.out] at HOk
  rw [HT.out]
  have e5 : IntKind.i64.wrap (a + b) = v := by rw [← hv]; exact IntWalk.i64_in _ (by omega)
  have HCar : Hid ((d.set 0 (v % 256)).carry = d.carry) := Lib.hid rfl
  generalize d.set 0 (v % 256) = d1 at HSt HOk HCar ⊢
  obtain ⟨hv1, hv2⟩ := hv0
  obtain ⟨ra0, ra1⟩ := hra
  obtain ⟨rb0, rb1⟩ := hrb
  have hv3 : a + b = v := hv.symm
  clear hc hO HV HT hA hB hv hr
  have f6 := X3.out.cell 0 rfl
  have f7 := X3.out.cell 1 rfl
  have f8 := X3.out.cell 2 rfl
  have f9 := X3.out.cell 3 rfl
  have f10 := X3.out.cell 4 rfl
  have f11 := X3.out.cell 5 rfl
  have f12 := X3.out.cell 6 rfl
  have f13 := X3.out.cell 7 rfl
  have f14 := X3.out.cell 8 rfl
  rw [HW0.out] at f6 f7 f8 f9 f10 f11 f12 f13 f14
  go_enter Tryz.func70, Tryz.ntmps70
  go_wp2_with fail
  rw [← HW0.out]
  rw [← HW0.out] at f6 f7 f8 f9 f10 f11 f12 f13 f14
  clear f6 f7 f8 f9 f10 f11 f12 f13 f14
  refine (HRa.out _ F5.out).mono ?_
  rintro e w1 ⟨rfl, hq1⟩
  have X15 := Lib.hid (X3.out.step hq1)
  have X16 := Lib.hid (X4.out.step hq1)
  have F17 := Lib.hid (F5.out.below hq1)
  have hb18 := bt hb0 hq1
  have Z19 : Hid (W1.heap.size ≤ w1.heap.size) := Lib.hid hq1.size
  clear X3 X4 F5 hb0 hq1
  have f20 := X15.out.cell 0 rfl
  have f21 := X15.out.cell 1 rfl
  have f22 := X15.out.cell 2 rfl
  have f23 := X15.out.cell 3 rfl
  have f24 := X15.out.cell 4 rfl
  have f25 := X15.out.cell 5 rfl
  have f26 := X15.out.cell 6 rfl
  have f27 := X15.out.cell 7 rfl
  have f28 := X15.out.cell 8 rfl
  go_wp2_with fail
  clear f20 f21 f22 f23 f24 f25 f26 f27 f28
  refine (HRb.out _ F17.out).mono ?_
  rintro e w2 ⟨rfl, hq2⟩
  have X29 := Lib.hid (X15.out.step hq2)
  have X30 := Lib.hid (X16.out.step hq2)
  have F31 := Lib.hid (F17.out.below hq2)
  have hb32 := bt hb18 hq2
  have Z33 : Hid (w1.heap.size ≤ w2.heap.size) := Lib.hid hq2.size
  clear X15 X16 F17 hb18 hq2
  have f34 := X29.out.cell 0 rfl
  have f35 := X29.out.cell 1 rfl
  have f36 := X29.out.cell 2 rfl
  have f37 := X29.out.cell 3 rfl
  have f38 := X29.out.cell 4 rfl
  have f39 := X29.out.cell 5 rfl
  have f40 := X29.out.cell 6 rfl
  have f41 := X29.out.cell 7 rfl
  have f42 := X29.out.cell 8 rfl
  go_wp2_with fail
  clear f34 f35 f36 f37 f38 f39 f40 f41 f42
  refine (HSt.out _ F31.out).mono ?_
  rintro e w3 ⟨Aa, ca, rfl, NC, hq3⟩
  have X43 := Lib.hid (X29.out.step hq3)
  have X44 := Lib.hid (X30.out.step hq3)
  have F45 := Lib.hid (F31.out.below hq3)
  have hb46 := bt hb32 hq3
  have Z47 : Hid (w2.heap.size ≤ w3.heap.size) := Lib.hid hq3.size
  clear X29 X30 F31 hb32 hq3
  clear F45 HRa HRb HSt
  have f48 := X43.out.cell 0 rfl
  have f49 := X43.out.cell 1 rfl
  have f50 := X43.out.cell 2 rfl
  have f51 := X43.out.cell 3 rfl
  have f52 := X43.out.cell 4 rfl
  have f53 := X43.out.cell 5 rfl
  have f54 := X43.out.cell 6 rfl
  have f55 := X43.out.cell 7 rfl
  have f56 := X43.out.cell 8 rfl
  have z57 := X43.out.frozen 0
  have z58 := X43.out.frozen 1
  have z59 := X43.out.frozen 2
  have z60 := X43.out.frozen 3
  have z61 := X43.out.frozen 4
  have z62 := X43.out.frozen 5
  have z63 := X43.out.frozen 6
  have z64 := X43.out.frozen 7
  have z65 := X43.out.frozen 8
  go_upto_region 27 with fail
  obtain ⟨W66, hW66⟩ : ∃ W66, W66 = (((((((((w3.setCell ⟨w.heap.size, 0, none⟩ (.int .i64 d1.pc)).setCell ⟨w.heap.size, 1, none⟩ (.int .i64 d1.sp)).setCell ⟨w.heap.size, 2, none⟩ (.int .i64 d1.bank)).setCell ⟨w.heap.size, 3, none⟩ (.int .i64 d1.level)).setCell ⟨w.heap.size, 4, none⟩ (.bool d1.zero)).setCell ⟨w.heap.size, 5, none⟩ (.bool d1.carry)).setCell ⟨w.heap.size, 6, none⟩ (.bool d1.on)).setCell ⟨w.heap.size, 7, none⟩ (.bool d1.halt)).setCell ⟨w.heap.size, 8, none⟩ (.slice Aa 16 ca)) := ⟨_, rfl⟩
  have hB67 : Btw (w.heap.size) (w.heap.size + 1) w3 W66 := by rw [hW66]; exact (Btw.refl _ _ _).put.put.put.put.put.put.put.put.put
  have X68 : Hid (Box W66 (w.heap.size) 25 #[.int .i64 d1.pc, .int .i64 d1.sp, .int .i64 d1.bank, .int .i64 d1.level, .bool d1.zero, .bool d1.carry, .bool d1.on, .bool d1.halt, .slice Aa 16 ca]) := Lib.hid (by rw [hW66]; exact (X43.out.allN9 rfl _ _ _ _ _ _ _ _ _))
  have X69 := Lib.hid (X44.out.btw hB67 (by have := Z2.out; have := Z19.out; have := Z33.out; have := Z47.out; omega))
  have F70 := Lib.hid (NC.out.off X43.out (by simp) hB67)
  have hb71 := Btw.lowSize hB67 hb46 (Nat.le_of_lt X43.out.lt) (by have := Z2.out; have := Z19.out; have := Z33.out; have := Z47.out; omega)
  have Z72 : Hid (w3.heap.size ≤ W66.heap.size) := Lib.hid hB67.size
  rw [← hW66]
  clear hW66 hB67 X43 X44 NC hb46
  have f73 := X68.out.cell 0 rfl
  have f74 := X68.out.cell 1 rfl
  have f75 := X68.out.cell 2 rfl
  have f76 := X68.out.cell 3 rfl
  have f77 := X68.out.cell 4 rfl
  have f78 := X68.out.cell 5 rfl
  have f79 := X68.out.cell 6 rfl
  have f80 := X68.out.cell 7 rfl
  have f81 := X68.out.cell 8 rfl
  have z82 := X68.out.frozen 0
  have z83 := X68.out.frozen 1
  have z84 := X68.out.frozen 2
  have z85 := X68.out.frozen 3
  have z86 := X68.out.frozen 4
  have z87 := X68.out.frozen 5
  have z88 := X68.out.frozen 6
  have z89 := X68.out.frozen 7
  have z90 := X68.out.frozen 8
  go_upto_region 29 with fail
  obtain ⟨W91, hW91⟩ : ∃ W91, W91 = ((W66.setCell ⟨w.heap.size, 4, none⟩ (.bool (decide (v % 256 = 0)))).setCell ⟨w.heap.size, 5, none⟩ (.bool (decide (255 < v)))) := ⟨_, rfl⟩
  have hB92 : Btw (w.heap.size) (w.heap.size + 1) W66 W91 := by rw [hW91]; exact (Btw.refl _ _ _).put.put
  have X93 : Hid (Box W91 (w.heap.size) 25 #[.int .i64 d1.pc, .int .i64 d1.sp, .int .i64 d1.bank, .int .i64 d1.level, .bool (decide (v % 256 = 0)), .bool (decide (255 < v)), .bool d1.on, .bool d1.halt, .slice Aa 16 ca]) := Lib.hid (by rw [hW91]; exact ((X68.out.set 4 _).set 5 _))
  have X94 := Lib.hid (X69.out.btw hB92 (by have := Z2.out; have := Z19.out; have := Z33.out; have := Z47.out; have := Z72.out; omega))
  have F95 := Lib.hid (F70.out.off X68.out (by simp) hB92)
  have hb96 := Btw.lowSize hB92 hb71 (Nat.le_of_lt X68.out.lt) (by have := Z2.out; have := Z19.out; have := Z33.out; have := Z47.out; have := Z72.out; omega)
  have Z97 : Hid (W66.heap.size ≤ W91.heap.size) := Lib.hid hB92.size
  rw [← hW91]
  clear hW91 hB92 X68 X69 F70 hb71
  have f98 := X93.out.cell 0 rfl
  have f99 := X93.out.cell 1 rfl
  have f100 := X93.out.cell 2 rfl
  have f101 := X93.out.cell 3 rfl
  have f102 := X93.out.cell 4 rfl
  have f103 := X93.out.cell 5 rfl
  have f104 := X93.out.cell 6 rfl
  have f105 := X93.out.cell 7 rfl
  have f106 := X93.out.cell 8 rfl
  have f107 := X94.out.cell 0 rfl
  have f108 := X94.out.cell 1 rfl
  have f109 := X94.out.cell 2 rfl
  have f110 := X94.out.cell 3 rfl
  have f111 := X94.out.cell 4 rfl
  have f112 := X94.out.cell 5 rfl
  have f113 := X94.out.cell 6 rfl
  have f114 := X94.out.cell 7 rfl
  have f115 := X94.out.cell 8 rfl
  have z116 := X93.out.frozen 0
  have z117 := X93.out.frozen 1
  have z118 := X93.out.frozen 2
  have z119 := X93.out.frozen 3
  have z120 := X93.out.frozen 4
  have z121 := X93.out.frozen 5
  have z122 := X93.out.frozen 6
  have z123 := X93.out.frozen 7
  have z124 := X93.out.frozen 8
  have z125 := X94.out.frozen 0
  have z126 := X94.out.frozen 1
  have z127 := X94.out.frozen 2
  have z128 := X94.out.frozen 3
  have z129 := X94.out.frozen 4
  have z130 := X94.out.frozen 5
  have z131 := X94.out.frozen 6
  have z132 := X94.out.frozen 7
  have z133 := X94.out.frozen 8
  go_wp2
  obtain ⟨W134, hW134⟩ : ∃ W134, W134 = (((((((((W91.setCell ⟨w.heap.size + 1, 0, none⟩ (.int .i64 d1.pc)).setCell ⟨w.heap.size + 1, 1, none⟩ (.int .i64 d1.sp)).setCell ⟨w.heap.size + 1, 2, none⟩ (.int .i64 d1.bank)).setCell ⟨w.heap.size + 1, 3, none⟩ (.int .i64 d1.level)).setCell ⟨w.heap.size + 1, 4, none⟩ (.bool (decide (v % 256 = 0)))).setCell ⟨w.heap.size + 1, 5, none⟩ (.bool (decide (255 < v)))).setCell ⟨w.heap.size + 1, 6, none⟩ (.bool d1.on)).setCell ⟨w.heap.size + 1, 7, none⟩ (.bool d1.halt)).setCell ⟨w.heap.size + 1, 8, none⟩ (.slice Aa 16 ca)) := ⟨_, rfl⟩
  have hB135 : Btw (w.heap.size + 1) (w.heap.size + 1 + 1) W91 W134 := by rw [hW134]; exact (Btw.refl _ _ _).put.put.put.put.put.put.put.put.put
  have X136 : Hid (Box W134 (w.heap.size + 1) 25 #[.int .i64 d1.pc, .int .i64 d1.sp, .int .i64 d1.bank, .int .i64 d1.level, .bool (decide (v % 256 = 0)), .bool (decide (255 < v)), .bool d1.on, .bool d1.halt, .slice Aa 16 ca]) := Lib.hid (by rw [hW134]; exact (X94.out.allN9 rfl _ _ _ _ _ _ _ _ _))
  have X137 := Lib.hid (X93.out.btw hB135 (by have := Z2.out; have := Z19.out; have := Z33.out; have := Z47.out; have := Z72.out; have := Z97.out; omega))
  have F138 := Lib.hid (F95.out.off X94.out (by simp) hB135)
  have hb139 := Btw.lowSize hB135 hb96 (Nat.le_of_lt X94.out.lt) (by have := Z2.out; have := Z19.out; have := Z33.out; have := Z47.out; have := Z72.out; have := Z97.out; omega)
  have Z140 : Hid (W91.heap.size ≤ W134.heap.size) := Lib.hid hB135.size
  rw [← hW134]
  clear hW134 hB135 X94 X93 F95 hb96
  have r0 := X136.out
  have s0 := r0.cell 0 rfl
  have s1 := r0.cell 1 rfl
  have s2 := r0.cell 2 rfl
  have s3 := r0.cell 3 rfl
  have s4 := r0.cell 4 rfl
  have s5 := r0.cell 5 rfl
  have s6 := r0.cell 6 rfl
  have s7 := r0.cell 7 rfl
  have s8 := r0.cell 8 rfl
  refine bodyPost_ret (v := .agg #[.int .i64 d1.pc, .int .i64 d1.sp, .int .i64 d1.bank, .int .i64 d1.level, .bool (decide (v % 256 = 0)), .bool (decide (255 < v)), .bool d1.on, .bool d1.halt, .slice Aa 16 ca]) (by simp [results, Tryz.results70, go_sem, s0, s1, s2, s3, s4, s5, s6, s7, s8]) rfl ?_
  exact ⟨Aa, ca, rfl, Lib.hid ⟨HOk.out, F138.out.2⟩, hb139⟩

set_option maxRecDepth 100000 in
set_option maxHeartbeats 4000000 in
theorem l08Alu11 (A : Option Addr) (c : Nat) (d : CD) (m : MD) (reg arg : Int) (w : World) (hr : 0 ≤ reg ∧ reg ≤ 3) (hc : RepC w A d) :
    Calls Tryz.prog 70 #[.agg #[.int .i64 d.pc, .int .i64 d.sp, .int .i64 d.bank, .int .i64 d.level, .bool d.zero, .bool d.carry, .bool d.on, .bool d.halt, .slice A 16 c], .int .i64 11, .int .i64 reg] w (ReadsC (execD d m 11 reg arg) w) := by
  obtain ⟨W1, hW1⟩ : ∃ W1, W1 = ((w.alloc (.cells #[.int .i64 d.pc, .int .i64 d.sp, .int .i64 d.bank, .int .i64 d.level, .bool d.zero, .bool d.carry, .bool d.on, .bool d.halt, .slice A 16 c] 25)).alloc (.cells #[.int .i64 0, .int .i64 0, .int .i64 0, .int .i64 0, .bool false, .bool false, .bool false, .bool false, .slice none 0 0] 25)) := ⟨_, rfl⟩
  have hb0 : Below w.heap.size w W1 := by rw [hW1]; exact (((Below.refl _ _).alloc (Nat.le_refl _) _).alloc (by simp; try omega) _)
  have Z2 : Hid (W1.heap.size = w.heap.size + 2) := Lib.hid (by rw [hW1]; simp)
  have X3 : Hid (Box W1 (w.heap.size) 25 #[.int .i64 d.pc, .int .i64 d.sp, .int .i64 d.bank, .int .i64 d.level, .bool d.zero, .bool d.carry, .bool d.on, .bool d.halt, .slice A 16 c]) := Lib.hid (by rw [hW1]; exact ((Box.new w 25 #[.int .i64 d.pc, .int .i64 d.sp, .int .i64 d.bank, .int .i64 d.level, .bool d.zero, .bool d.carry, .bool d.on, .bool d.halt, .slice A 16 c]).alloc _))
  have X4 : Hid (Box W1 (w.heap.size + 1) 25 #[.int .i64 0, .int .i64 0, .int .i64 0, .int .i64 0, .bool false, .bool false, .bool false, .bool false, .slice none 0 0]) := Lib.hid (by rw [hW1]; simpa using (Box.new (w.alloc (.cells #[.int .i64 d.pc, .int .i64 d.sp, .int .i64 d.bank, .int .i64 d.level, .bool d.zero, .bool d.carry, .bool d.on, .bool d.halt, .slice A 16 c] 25)) 25 #[.int .i64 0, .int .i64 0, .int .i64 0, .int .i64 0, .bool false, .bool false, .bool false, .bool false, .slice none 0 0]))
  have F5 : Hid (RepC W1 A d) := Lib.hid (hc.below hb0)
  have HW0 := Lib.hid hW1
  clear hW1
  have hO := hc.1
  have hra := hO.reg (k := 0) (by omega) (by omega)
  have hrb := hO.reg (k := reg) hr.1 hr.2
  have HRa := Lib.hid (fun W (q : RepC W A d) => l08RegS A c d 0 W ⟨by omega, by omega⟩ q)
  have HRb := Lib.hid (fun W (q : RepC W A d) => l08RegS A c d reg W hr q)
  have HV : Hid (execD d m 11 reg arg = d.comb (d.reg 0 - d.reg reg)) := Lib.hid rfl
  have HOk := Lib.hid (hO.comb (d.reg 0 - d.reg reg))
  rw [HV.out]
  generalize hA : d.reg 0 = a at HRa hra HOk ⊢
  generalize hB : d.reg reg = b at HRb hrb HOk ⊢
  obtain ⟨v, hv⟩ : ∃ v, v = a + 256 - b := ⟨_, rfl⟩
  have hv0 : 0 ≤ v ∧ v ≤ 600 := by omega
  have e1 : v.tmod 256 = v % 256 := Int.tmod_eq_emod_of_nonneg hv0.1
  have e2 : (v % 256 == 0) = decide (v % 256 = 0) := by rw [Bool.eq_iff_iff]; simp
  have HSt := Lib.hid (fun W (q : RepC W A d) => l08SetS A c d 0 (v % 256) W ⟨by omega, by omega⟩ ⟨by omega, by omega⟩ q)
  unfold ReadsC at HSt
  have HT : Hid (d.comb (a - b) = { d.set 0 (v % 256) with zero := decide (v % 256 = 0), carry := decide (a < b) }) := Lib.hid (by unfold CD.comb CD.res; rw [byB_borrow a b hra hrb, show (a - b) % 256 = v % 256 by omega])
  rw [HT.out] at HOk
  rw [HT.out]
  have e5 : IntKind.i64.wrap (a + 256 - b) = v := by rw [← hv]; exact IntWalk.i64_in _ (by omega)
  have e6 : IntKind.i64.wrap (a + 256) = a + 256 := IntWalk.i64_in _ (by omega)
  have HCar : Hid ((d.set 0 (v % 256)).carry = d.carry) := Lib.hid rfl
  generalize d.set 0 (v % 256) = d1 at HSt HOk HCar ⊢
  obtain ⟨hv1, hv2⟩ := hv0
  obtain ⟨ra0, ra1⟩ := hra
  obtain ⟨rb0, rb1⟩ := hrb
  have hv3 : a + 256 - b = v := hv.symm
  clear hc hO HV HT hA hB hv hr
  have f6 := X3.out.cell 0 rfl
  have f7 := X3.out.cell 1 rfl
  have f8 := X3.out.cell 2 rfl
  have f9 := X3.out.cell 3 rfl
  have f10 := X3.out.cell 4 rfl
  have f11 := X3.out.cell 5 rfl
  have f12 := X3.out.cell 6 rfl
  have f13 := X3.out.cell 7 rfl
  have f14 := X3.out.cell 8 rfl
  rw [HW0.out] at f6 f7 f8 f9 f10 f11 f12 f13 f14
  go_enter Tryz.func70, Tryz.ntmps70
  go_wp2_with fail
  rw [← HW0.out]
  rw [← HW0.out] at f6 f7 f8 f9 f10 f11 f12 f13 f14
  clear f6 f7 f8 f9 f10 f11 f12 f13 f14
  refine (HRa.out _ F5.out).mono ?_
  rintro e w1 ⟨rfl, hq1⟩
  have X15 := Lib.hid (X3.out.step hq1)
  have X16 := Lib.hid (X4.out.step hq1)
  have F17 := Lib.hid (F5.out.below hq1)
  have hb18 := bt hb0 hq1
  have Z19 : Hid (W1.heap.size ≤ w1.heap.size) := Lib.hid hq1.size
  clear X3 X4 F5 hb0 hq1
  have f20 := X15.out.cell 0 rfl
  have f21 := X15.out.cell 1 rfl
  have f22 := X15.out.cell 2 rfl
  have f23 := X15.out.cell 3 rfl
  have f24 := X15.out.cell 4 rfl
  have f25 := X15.out.cell 5 rfl
  have f26 := X15.out.cell 6 rfl
  have f27 := X15.out.cell 7 rfl
  have f28 := X15.out.cell 8 rfl
  go_wp2_with fail
  clear f20 f21 f22 f23 f24 f25 f26 f27 f28
  refine (HRb.out _ F17.out).mono ?_
  rintro e w2 ⟨rfl, hq2⟩
  have X29 := Lib.hid (X15.out.step hq2)
  have X30 := Lib.hid (X16.out.step hq2)
  have F31 := Lib.hid (F17.out.below hq2)
  have hb32 := bt hb18 hq2
  have Z33 : Hid (w1.heap.size ≤ w2.heap.size) := Lib.hid hq2.size
  clear X15 X16 F17 hb18 hq2
  have f34 := X29.out.cell 0 rfl
  have f35 := X29.out.cell 1 rfl
  have f36 := X29.out.cell 2 rfl
  have f37 := X29.out.cell 3 rfl
  have f38 := X29.out.cell 4 rfl
  have f39 := X29.out.cell 5 rfl
  have f40 := X29.out.cell 6 rfl
  have f41 := X29.out.cell 7 rfl
  have f42 := X29.out.cell 8 rfl
  go_wp2_with fail
  clear f34 f35 f36 f37 f38 f39 f40 f41 f42
  refine (HSt.out _ F31.out).mono ?_
  rintro e w3 ⟨Aa, ca, rfl, NC, hq3⟩
  have X43 := Lib.hid (X29.out.step hq3)
  have X44 := Lib.hid (X30.out.step hq3)
  have F45 := Lib.hid (F31.out.below hq3)
  have hb46 := bt hb32 hq3
  have Z47 : Hid (w2.heap.size ≤ w3.heap.size) := Lib.hid hq3.size
  clear X29 X30 F31 hb32 hq3
  clear F45 HRa HRb HSt
  have f48 := X43.out.cell 0 rfl
  have f49 := X43.out.cell 1 rfl
  have f50 := X43.out.cell 2 rfl
  have f51 := X43.out.cell 3 rfl
  have f52 := X43.out.cell 4 rfl
  have f53 := X43.out.cell 5 rfl
  have f54 := X43.out.cell 6 rfl
  have f55 := X43.out.cell 7 rfl
  have f56 := X43.out.cell 8 rfl
  have z57 := X43.out.frozen 0
  have z58 := X43.out.frozen 1
  have z59 := X43.out.frozen 2
  have z60 := X43.out.frozen 3
  have z61 := X43.out.frozen 4
  have z62 := X43.out.frozen 5
  have z63 := X43.out.frozen 6
  have z64 := X43.out.frozen 7
  have z65 := X43.out.frozen 8
  go_upto_region 27 with fail
  obtain ⟨W66, hW66⟩ : ∃ W66, W66 = (((((((((w3.setCell ⟨w.heap.size, 0, none⟩ (.int .i64 d1.pc)).setCell ⟨w.heap.size, 1, none⟩ (.int .i64 d1.sp)).setCell ⟨w.heap.size, 2, none⟩ (.int .i64 d1.bank)).setCell ⟨w.heap.size, 3, none⟩ (.int .i64 d1.level)).setCell ⟨w.heap.size, 4, none⟩ (.bool d1.zero)).setCell ⟨w.heap.size, 5, none⟩ (.bool d1.carry)).setCell ⟨w.heap.size, 6, none⟩ (.bool d1.on)).setCell ⟨w.heap.size, 7, none⟩ (.bool d1.halt)).setCell ⟨w.heap.size, 8, none⟩ (.slice Aa 16 ca)) := ⟨_, rfl⟩
  have hB67 : Btw (w.heap.size) (w.heap.size + 1) w3 W66 := by rw [hW66]; exact (Btw.refl _ _ _).put.put.put.put.put.put.put.put.put
  have X68 : Hid (Box W66 (w.heap.size) 25 #[.int .i64 d1.pc, .int .i64 d1.sp, .int .i64 d1.bank, .int .i64 d1.level, .bool d1.zero, .bool d1.carry, .bool d1.on, .bool d1.halt, .slice Aa 16 ca]) := Lib.hid (by rw [hW66]; exact (X43.out.allN9 rfl _ _ _ _ _ _ _ _ _))
  have X69 := Lib.hid (X44.out.btw hB67 (by have := Z2.out; have := Z19.out; have := Z33.out; have := Z47.out; omega))
  have F70 := Lib.hid (NC.out.off X43.out (by simp) hB67)
  have hb71 := Btw.lowSize hB67 hb46 (Nat.le_of_lt X43.out.lt) (by have := Z2.out; have := Z19.out; have := Z33.out; have := Z47.out; omega)
  have Z72 : Hid (w3.heap.size ≤ W66.heap.size) := Lib.hid hB67.size
  rw [← hW66]
  clear hW66 hB67 X43 X44 NC hb46
  have f73 := X68.out.cell 0 rfl
  have f74 := X68.out.cell 1 rfl
  have f75 := X68.out.cell 2 rfl
  have f76 := X68.out.cell 3 rfl
  have f77 := X68.out.cell 4 rfl
  have f78 := X68.out.cell 5 rfl
  have f79 := X68.out.cell 6 rfl
  have f80 := X68.out.cell 7 rfl
  have f81 := X68.out.cell 8 rfl
  have z82 := X68.out.frozen 0
  have z83 := X68.out.frozen 1
  have z84 := X68.out.frozen 2
  have z85 := X68.out.frozen 3
  have z86 := X68.out.frozen 4
  have z87 := X68.out.frozen 5
  have z88 := X68.out.frozen 6
  have z89 := X68.out.frozen 7
  have z90 := X68.out.frozen 8
  go_upto_region 29 with fail
  obtain ⟨W91, hW91⟩ : ∃ W91, W91 = ((W66.setCell ⟨w.heap.size, 4, none⟩ (.bool (decide (v % 256 = 0)))).setCell ⟨w.heap.size, 5, none⟩ (.bool (decide (a < b)))) := ⟨_, rfl⟩
  have hB92 : Btw (w.heap.size) (w.heap.size + 1) W66 W91 := by rw [hW91]; exact (Btw.refl _ _ _).put.put
  have X93 : Hid (Box W91 (w.heap.size) 25 #[.int .i64 d1.pc, .int .i64 d1.sp, .int .i64 d1.bank, .int .i64 d1.level, .bool (decide (v % 256 = 0)), .bool (decide (a < b)), .bool d1.on, .bool d1.halt, .slice Aa 16 ca]) := Lib.hid (by rw [hW91]; exact ((X68.out.set 4 _).set 5 _))
  have X94 := Lib.hid (X69.out.btw hB92 (by have := Z2.out; have := Z19.out; have := Z33.out; have := Z47.out; have := Z72.out; omega))
  have F95 := Lib.hid (F70.out.off X68.out (by simp) hB92)
  have hb96 := Btw.lowSize hB92 hb71 (Nat.le_of_lt X68.out.lt) (by have := Z2.out; have := Z19.out; have := Z33.out; have := Z47.out; have := Z72.out; omega)
  have Z97 : Hid (W66.heap.size ≤ W91.heap.size) := Lib.hid hB92.size
  rw [← hW91]
  clear hW91 hB92 X68 X69 F70 hb71
  have f98 := X93.out.cell 0 rfl
  have f99 := X93.out.cell 1 rfl
  have f100 := X93.out.cell 2 rfl
  have f101 := X93.out.cell 3 rfl
  have f102 := X93.out.cell 4 rfl
  have f103 := X93.out.cell 5 rfl
  have f104 := X93.out.cell 6 rfl
  have f105 := X93.out.cell 7 rfl
  have f106 := X93.out.cell 8 rfl
  have f107 := X94.out.cell 0 rfl
  have f108 := X94.out.cell 1 rfl
  have f109 := X94.out.cell 2 rfl
  have f110 := X94.out.cell 3 rfl
  have f111 := X94.out.cell 4 rfl
  have f112 := X94.out.cell 5 rfl
  have f113 := X94.out.cell 6 rfl
  have f114 := X94.out.cell 7 rfl
  have f115 := X94.out.cell 8 rfl
  have z116 := X93.out.frozen 0
  have z117 := X93.out.frozen 1
  have z118 := X93.out.frozen 2
  have z119 := X93.out.frozen 3
  have z120 := X93.out.frozen 4
  have z121 := X93.out.frozen 5
  have z122 := X93.out.frozen 6
  have z123 := X93.out.frozen 7
  have z124 := X93.out.frozen 8
  have z125 := X94.out.frozen 0
  have z126 := X94.out.frozen 1
  have z127 := X94.out.frozen 2
  have z128 := X94.out.frozen 3
  have z129 := X94.out.frozen 4
  have z130 := X94.out.frozen 5
  have z131 := X94.out.frozen 6
  have z132 := X94.out.frozen 7
  have z133 := X94.out.frozen 8
  go_wp2
  obtain ⟨W134, hW134⟩ : ∃ W134, W134 = (((((((((W91.setCell ⟨w.heap.size + 1, 0, none⟩ (.int .i64 d1.pc)).setCell ⟨w.heap.size + 1, 1, none⟩ (.int .i64 d1.sp)).setCell ⟨w.heap.size + 1, 2, none⟩ (.int .i64 d1.bank)).setCell ⟨w.heap.size + 1, 3, none⟩ (.int .i64 d1.level)).setCell ⟨w.heap.size + 1, 4, none⟩ (.bool (decide (v % 256 = 0)))).setCell ⟨w.heap.size + 1, 5, none⟩ (.bool (decide (a < b)))).setCell ⟨w.heap.size + 1, 6, none⟩ (.bool d1.on)).setCell ⟨w.heap.size + 1, 7, none⟩ (.bool d1.halt)).setCell ⟨w.heap.size + 1, 8, none⟩ (.slice Aa 16 ca)) := ⟨_, rfl⟩
  have hB135 : Btw (w.heap.size + 1) (w.heap.size + 1 + 1) W91 W134 := by rw [hW134]; exact (Btw.refl _ _ _).put.put.put.put.put.put.put.put.put
  have X136 : Hid (Box W134 (w.heap.size + 1) 25 #[.int .i64 d1.pc, .int .i64 d1.sp, .int .i64 d1.bank, .int .i64 d1.level, .bool (decide (v % 256 = 0)), .bool (decide (a < b)), .bool d1.on, .bool d1.halt, .slice Aa 16 ca]) := Lib.hid (by rw [hW134]; exact (X94.out.allN9 rfl _ _ _ _ _ _ _ _ _))
  have X137 := Lib.hid (X93.out.btw hB135 (by have := Z2.out; have := Z19.out; have := Z33.out; have := Z47.out; have := Z72.out; have := Z97.out; omega))
  have F138 := Lib.hid (F95.out.off X94.out (by simp) hB135)
  have hb139 := Btw.lowSize hB135 hb96 (Nat.le_of_lt X94.out.lt) (by have := Z2.out; have := Z19.out; have := Z33.out; have := Z47.out; have := Z72.out; have := Z97.out; omega)
  have Z140 : Hid (W91.heap.size ≤ W134.heap.size) := Lib.hid hB135.size
  rw [← hW134]
  clear hW134 hB135 X94 X93 F95 hb96
  have r0 := X136.out
  have s0 := r0.cell 0 rfl
  have s1 := r0.cell 1 rfl
  have s2 := r0.cell 2 rfl
  have s3 := r0.cell 3 rfl
  have s4 := r0.cell 4 rfl
  have s5 := r0.cell 5 rfl
  have s6 := r0.cell 6 rfl
  have s7 := r0.cell 7 rfl
  have s8 := r0.cell 8 rfl
  refine bodyPost_ret (v := .agg #[.int .i64 d1.pc, .int .i64 d1.sp, .int .i64 d1.bank, .int .i64 d1.level, .bool (decide (v % 256 = 0)), .bool (decide (a < b)), .bool d1.on, .bool d1.halt, .slice Aa 16 ca]) (by simp [results, Tryz.results70, go_sem, s0, s1, s2, s3, s4, s5, s6, s7, s8]) rfl ?_
  exact ⟨Aa, ca, rfl, Lib.hid ⟨HOk.out, F138.out.2⟩, hb139⟩

set_option maxRecDepth 100000 in
set_option maxHeartbeats 4000000 in
theorem l08Alu12 (A : Option Addr) (c : Nat) (d : CD) (m : MD) (reg arg : Int) (w : World) (hr : 0 ≤ reg ∧ reg ≤ 3) (hc : RepC w A d) :
    Calls Tryz.prog 70 #[.agg #[.int .i64 d.pc, .int .i64 d.sp, .int .i64 d.bank, .int .i64 d.level, .bool d.zero, .bool d.carry, .bool d.on, .bool d.halt, .slice A 16 c], .int .i64 12, .int .i64 reg] w (ReadsC (execD d m 12 reg arg) w) := by
  obtain ⟨W1, hW1⟩ : ∃ W1, W1 = ((w.alloc (.cells #[.int .i64 d.pc, .int .i64 d.sp, .int .i64 d.bank, .int .i64 d.level, .bool d.zero, .bool d.carry, .bool d.on, .bool d.halt, .slice A 16 c] 25)).alloc (.cells #[.int .i64 0, .int .i64 0, .int .i64 0, .int .i64 0, .bool false, .bool false, .bool false, .bool false, .slice none 0 0] 25)) := ⟨_, rfl⟩
  have hb0 : Below w.heap.size w W1 := by rw [hW1]; exact (((Below.refl _ _).alloc (Nat.le_refl _) _).alloc (by simp; try omega) _)
  have Z2 : Hid (W1.heap.size = w.heap.size + 2) := Lib.hid (by rw [hW1]; simp)
  have X3 : Hid (Box W1 (w.heap.size) 25 #[.int .i64 d.pc, .int .i64 d.sp, .int .i64 d.bank, .int .i64 d.level, .bool d.zero, .bool d.carry, .bool d.on, .bool d.halt, .slice A 16 c]) := Lib.hid (by rw [hW1]; exact ((Box.new w 25 #[.int .i64 d.pc, .int .i64 d.sp, .int .i64 d.bank, .int .i64 d.level, .bool d.zero, .bool d.carry, .bool d.on, .bool d.halt, .slice A 16 c]).alloc _))
  have X4 : Hid (Box W1 (w.heap.size + 1) 25 #[.int .i64 0, .int .i64 0, .int .i64 0, .int .i64 0, .bool false, .bool false, .bool false, .bool false, .slice none 0 0]) := Lib.hid (by rw [hW1]; simpa using (Box.new (w.alloc (.cells #[.int .i64 d.pc, .int .i64 d.sp, .int .i64 d.bank, .int .i64 d.level, .bool d.zero, .bool d.carry, .bool d.on, .bool d.halt, .slice A 16 c] 25)) 25 #[.int .i64 0, .int .i64 0, .int .i64 0, .int .i64 0, .bool false, .bool false, .bool false, .bool false, .slice none 0 0]))
  have F5 : Hid (RepC W1 A d) := Lib.hid (hc.below hb0)
  have HW0 := Lib.hid hW1
  clear hW1
  have hO := hc.1
  have hra := hO.reg (k := 0) (by omega) (by omega)
  have hrb := hO.reg (k := reg) hr.1 hr.2
  have HRa := Lib.hid (fun W (q : RepC W A d) => l08RegS A c d 0 W ⟨by omega, by omega⟩ q)
  have HRb := Lib.hid (fun W (q : RepC W A d) => l08RegS A c d reg W hr q)
  have HV : Hid (execD d m 12 reg arg = d.comb (andI (d.reg 0) (d.reg reg))) := Lib.hid rfl
  have HOk := Lib.hid (hO.comb (andI (d.reg 0) (d.reg reg)))
  rw [HV.out]
  generalize hA : d.reg 0 = a at HRa hra HOk ⊢
  generalize hB : d.reg reg = b at HRb hrb HOk ⊢
  obtain ⟨v, hv⟩ : ∃ v, v = andI a b := ⟨_, rfl⟩
  obtain ⟨g1, g2, g3⟩ := bits_range hra hrb
  have hv0 : 0 ≤ v ∧ v ≤ 600 := by rw [hv]; omega
  have e1 : v.tmod 256 = v % 256 := Int.tmod_eq_emod_of_nonneg hv0.1
  have e2 : (v % 256 == 0) = decide (v % 256 = 0) := by rw [Bool.eq_iff_iff]; simp
  have HSt := Lib.hid (fun W (q : RepC W A d) => l08SetS A c d 0 (v % 256) W ⟨by omega, by omega⟩ ⟨by omega, by omega⟩ q)
  unfold ReadsC at HSt
  have HT : Hid (d.comb (andI a b) = { d.set 0 (v % 256) with zero := decide (v % 256 = 0), carry := false }) := Lib.hid (by unfold CD.comb CD.res; rw [show byB (andI a b) = true from byB_iff.2 (by assumption), ← hv]; rfl)
  rw [HT.out] at HOk
  rw [HT.out]
  have hbits : bits .and .i64 a b = v := by rw [hv]; exact (bits_bytes hra hrb).1
  have HCar : Hid ((d.set 0 (v % 256)).carry = d.carry) := Lib.hid rfl
  generalize d.set 0 (v % 256) = d1 at HSt HOk HCar ⊢
  obtain ⟨hv1, hv2⟩ := hv0
  obtain ⟨ra0, ra1⟩ := hra
  obtain ⟨rb0, rb1⟩ := hrb
  skip
  clear hc hO HV HT hA hB hv hr
  have f6 := X3.out.cell 0 rfl
  have f7 := X3.out.cell 1 rfl
  have f8 := X3.out.cell 2 rfl
  have f9 := X3.out.cell 3 rfl
  have f10 := X3.out.cell 4 rfl
  have f11 := X3.out.cell 5 rfl
  have f12 := X3.out.cell 6 rfl
  have f13 := X3.out.cell 7 rfl
  have f14 := X3.out.cell 8 rfl
  rw [HW0.out] at f6 f7 f8 f9 f10 f11 f12 f13 f14
  go_enter Tryz.func70, Tryz.ntmps70
  go_wp2_with fail
  rw [← HW0.out]
  rw [← HW0.out] at f6 f7 f8 f9 f10 f11 f12 f13 f14
  clear f6 f7 f8 f9 f10 f11 f12 f13 f14
  refine (HRa.out _ F5.out).mono ?_
  rintro e w1 ⟨rfl, hq1⟩
  have X15 := Lib.hid (X3.out.step hq1)
  have X16 := Lib.hid (X4.out.step hq1)
  have F17 := Lib.hid (F5.out.below hq1)
  have hb18 := bt hb0 hq1
  have Z19 : Hid (W1.heap.size ≤ w1.heap.size) := Lib.hid hq1.size
  clear X3 X4 F5 hb0 hq1
  have f20 := X15.out.cell 0 rfl
  have f21 := X15.out.cell 1 rfl
  have f22 := X15.out.cell 2 rfl
  have f23 := X15.out.cell 3 rfl
  have f24 := X15.out.cell 4 rfl
  have f25 := X15.out.cell 5 rfl
  have f26 := X15.out.cell 6 rfl
  have f27 := X15.out.cell 7 rfl
  have f28 := X15.out.cell 8 rfl
  go_wp2_with fail
  clear f20 f21 f22 f23 f24 f25 f26 f27 f28
  refine (HRb.out _ F17.out).mono ?_
  rintro e w2 ⟨rfl, hq2⟩
  have X29 := Lib.hid (X15.out.step hq2)
  have X30 := Lib.hid (X16.out.step hq2)
  have F31 := Lib.hid (F17.out.below hq2)
  have hb32 := bt hb18 hq2
  have Z33 : Hid (w1.heap.size ≤ w2.heap.size) := Lib.hid hq2.size
  clear X15 X16 F17 hb18 hq2
  have f34 := X29.out.cell 0 rfl
  have f35 := X29.out.cell 1 rfl
  have f36 := X29.out.cell 2 rfl
  have f37 := X29.out.cell 3 rfl
  have f38 := X29.out.cell 4 rfl
  have f39 := X29.out.cell 5 rfl
  have f40 := X29.out.cell 6 rfl
  have f41 := X29.out.cell 7 rfl
  have f42 := X29.out.cell 8 rfl
  go_wp2_with fail
  clear f34 f35 f36 f37 f38 f39 f40 f41 f42
  refine (HSt.out _ F31.out).mono ?_
  rintro e w3 ⟨Aa, ca, rfl, NC, hq3⟩
  have X43 := Lib.hid (X29.out.step hq3)
  have X44 := Lib.hid (X30.out.step hq3)
  have F45 := Lib.hid (F31.out.below hq3)
  have hb46 := bt hb32 hq3
  have Z47 : Hid (w2.heap.size ≤ w3.heap.size) := Lib.hid hq3.size
  clear X29 X30 F31 hb32 hq3
  clear F45 HRa HRb HSt
  have f48 := X43.out.cell 0 rfl
  have f49 := X43.out.cell 1 rfl
  have f50 := X43.out.cell 2 rfl
  have f51 := X43.out.cell 3 rfl
  have f52 := X43.out.cell 4 rfl
  have f53 := X43.out.cell 5 rfl
  have f54 := X43.out.cell 6 rfl
  have f55 := X43.out.cell 7 rfl
  have f56 := X43.out.cell 8 rfl
  have z57 := X43.out.frozen 0
  have z58 := X43.out.frozen 1
  have z59 := X43.out.frozen 2
  have z60 := X43.out.frozen 3
  have z61 := X43.out.frozen 4
  have z62 := X43.out.frozen 5
  have z63 := X43.out.frozen 6
  have z64 := X43.out.frozen 7
  have z65 := X43.out.frozen 8
  go_upto_region 27 with fail
  obtain ⟨W66, hW66⟩ : ∃ W66, W66 = (((((((((w3.setCell ⟨w.heap.size, 0, none⟩ (.int .i64 d1.pc)).setCell ⟨w.heap.size, 1, none⟩ (.int .i64 d1.sp)).setCell ⟨w.heap.size, 2, none⟩ (.int .i64 d1.bank)).setCell ⟨w.heap.size, 3, none⟩ (.int .i64 d1.level)).setCell ⟨w.heap.size, 4, none⟩ (.bool d1.zero)).setCell ⟨w.heap.size, 5, none⟩ (.bool d1.carry)).setCell ⟨w.heap.size, 6, none⟩ (.bool d1.on)).setCell ⟨w.heap.size, 7, none⟩ (.bool d1.halt)).setCell ⟨w.heap.size, 8, none⟩ (.slice Aa 16 ca)) := ⟨_, rfl⟩
  have hB67 : Btw (w.heap.size) (w.heap.size + 1) w3 W66 := by rw [hW66]; exact (Btw.refl _ _ _).put.put.put.put.put.put.put.put.put
  have X68 : Hid (Box W66 (w.heap.size) 25 #[.int .i64 d1.pc, .int .i64 d1.sp, .int .i64 d1.bank, .int .i64 d1.level, .bool d1.zero, .bool d1.carry, .bool d1.on, .bool d1.halt, .slice Aa 16 ca]) := Lib.hid (by rw [hW66]; exact (X43.out.allN9 rfl _ _ _ _ _ _ _ _ _))
  have X69 := Lib.hid (X44.out.btw hB67 (by have := Z2.out; have := Z19.out; have := Z33.out; have := Z47.out; omega))
  have F70 := Lib.hid (NC.out.off X43.out (by simp) hB67)
  have hb71 := Btw.lowSize hB67 hb46 (Nat.le_of_lt X43.out.lt) (by have := Z2.out; have := Z19.out; have := Z33.out; have := Z47.out; omega)
  have Z72 : Hid (w3.heap.size ≤ W66.heap.size) := Lib.hid hB67.size
  rw [← hW66]
  clear hW66 hB67 X43 X44 NC hb46
  have f73 := X68.out.cell 0 rfl
  have f74 := X68.out.cell 1 rfl
  have f75 := X68.out.cell 2 rfl
  have f76 := X68.out.cell 3 rfl
  have f77 := X68.out.cell 4 rfl
  have f78 := X68.out.cell 5 rfl
  have f79 := X68.out.cell 6 rfl
  have f80 := X68.out.cell 7 rfl
  have f81 := X68.out.cell 8 rfl
  have z82 := X68.out.frozen 0
  have z83 := X68.out.frozen 1
  have z84 := X68.out.frozen 2
  have z85 := X68.out.frozen 3
  have z86 := X68.out.frozen 4
  have z87 := X68.out.frozen 5
  have z88 := X68.out.frozen 6
  have z89 := X68.out.frozen 7
  have z90 := X68.out.frozen 8
  go_upto_region 29 with fail
  obtain ⟨W91, hW91⟩ : ∃ W91, W91 = ((W66.setCell ⟨w.heap.size, 4, none⟩ (.bool (decide (v % 256 = 0)))).setCell ⟨w.heap.size, 5, none⟩ (.bool false)) := ⟨_, rfl⟩
  have hB92 : Btw (w.heap.size) (w.heap.size + 1) W66 W91 := by rw [hW91]; exact (Btw.refl _ _ _).put.put
  have X93 : Hid (Box W91 (w.heap.size) 25 #[.int .i64 d1.pc, .int .i64 d1.sp, .int .i64 d1.bank, .int .i64 d1.level, .bool (decide (v % 256 = 0)), .bool false, .bool d1.on, .bool d1.halt, .slice Aa 16 ca]) := Lib.hid (by rw [hW91]; exact ((X68.out.set 4 _).set 5 _))
  have X94 := Lib.hid (X69.out.btw hB92 (by have := Z2.out; have := Z19.out; have := Z33.out; have := Z47.out; have := Z72.out; omega))
  have F95 := Lib.hid (F70.out.off X68.out (by simp) hB92)
  have hb96 := Btw.lowSize hB92 hb71 (Nat.le_of_lt X68.out.lt) (by have := Z2.out; have := Z19.out; have := Z33.out; have := Z47.out; have := Z72.out; omega)
  have Z97 : Hid (W66.heap.size ≤ W91.heap.size) := Lib.hid hB92.size
  rw [← hW91]
  clear hW91 hB92 X68 X69 F70 hb71
  have f98 := X93.out.cell 0 rfl
  have f99 := X93.out.cell 1 rfl
  have f100 := X93.out.cell 2 rfl
  have f101 := X93.out.cell 3 rfl
  have f102 := X93.out.cell 4 rfl
  have f103 := X93.out.cell 5 rfl
  have f104 := X93.out.cell 6 rfl
  have f105 := X93.out.cell 7 rfl
  have f106 := X93.out.cell 8 rfl
  have f107 := X94.out.cell 0 rfl
  have f108 := X94.out.cell 1 rfl
  have f109 := X94.out.cell 2 rfl
  have f110 := X94.out.cell 3 rfl
  have f111 := X94.out.cell 4 rfl
  have f112 := X94.out.cell 5 rfl
  have f113 := X94.out.cell 6 rfl
  have f114 := X94.out.cell 7 rfl
  have f115 := X94.out.cell 8 rfl
  have z116 := X93.out.frozen 0
  have z117 := X93.out.frozen 1
  have z118 := X93.out.frozen 2
  have z119 := X93.out.frozen 3
  have z120 := X93.out.frozen 4
  have z121 := X93.out.frozen 5
  have z122 := X93.out.frozen 6
  have z123 := X93.out.frozen 7
  have z124 := X93.out.frozen 8
  have z125 := X94.out.frozen 0
  have z126 := X94.out.frozen 1
  have z127 := X94.out.frozen 2
  have z128 := X94.out.frozen 3
  have z129 := X94.out.frozen 4
  have z130 := X94.out.frozen 5
  have z131 := X94.out.frozen 6
  have z132 := X94.out.frozen 7
  have z133 := X94.out.frozen 8
  go_wp2
  obtain ⟨W134, hW134⟩ : ∃ W134, W134 = (((((((((W91.setCell ⟨w.heap.size + 1, 0, none⟩ (.int .i64 d1.pc)).setCell ⟨w.heap.size + 1, 1, none⟩ (.int .i64 d1.sp)).setCell ⟨w.heap.size + 1, 2, none⟩ (.int .i64 d1.bank)).setCell ⟨w.heap.size + 1, 3, none⟩ (.int .i64 d1.level)).setCell ⟨w.heap.size + 1, 4, none⟩ (.bool (decide (v % 256 = 0)))).setCell ⟨w.heap.size + 1, 5, none⟩ (.bool false)).setCell ⟨w.heap.size + 1, 6, none⟩ (.bool d1.on)).setCell ⟨w.heap.size + 1, 7, none⟩ (.bool d1.halt)).setCell ⟨w.heap.size + 1, 8, none⟩ (.slice Aa 16 ca)) := ⟨_, rfl⟩
  have hB135 : Btw (w.heap.size + 1) (w.heap.size + 1 + 1) W91 W134 := by rw [hW134]; exact (Btw.refl _ _ _).put.put.put.put.put.put.put.put.put
  have X136 : Hid (Box W134 (w.heap.size + 1) 25 #[.int .i64 d1.pc, .int .i64 d1.sp, .int .i64 d1.bank, .int .i64 d1.level, .bool (decide (v % 256 = 0)), .bool false, .bool d1.on, .bool d1.halt, .slice Aa 16 ca]) := Lib.hid (by rw [hW134]; exact (X94.out.allN9 rfl _ _ _ _ _ _ _ _ _))
  have X137 := Lib.hid (X93.out.btw hB135 (by have := Z2.out; have := Z19.out; have := Z33.out; have := Z47.out; have := Z72.out; have := Z97.out; omega))
  have F138 := Lib.hid (F95.out.off X94.out (by simp) hB135)
  have hb139 := Btw.lowSize hB135 hb96 (Nat.le_of_lt X94.out.lt) (by have := Z2.out; have := Z19.out; have := Z33.out; have := Z47.out; have := Z72.out; have := Z97.out; omega)
  have Z140 : Hid (W91.heap.size ≤ W134.heap.size) := Lib.hid hB135.size
  rw [← hW134]
  clear hW134 hB135 X94 X93 F95 hb96
  have r0 := X136.out
  have s0 := r0.cell 0 rfl
  have s1 := r0.cell 1 rfl
  have s2 := r0.cell 2 rfl
  have s3 := r0.cell 3 rfl
  have s4 := r0.cell 4 rfl
  have s5 := r0.cell 5 rfl
  have s6 := r0.cell 6 rfl
  have s7 := r0.cell 7 rfl
  have s8 := r0.cell 8 rfl
  refine bodyPost_ret (v := .agg #[.int .i64 d1.pc, .int .i64 d1.sp, .int .i64 d1.bank, .int .i64 d1.level, .bool (decide (v % 256 = 0)), .bool false, .bool d1.on, .bool d1.halt, .slice Aa 16 ca]) (by simp [results, Tryz.results70, go_sem, s0, s1, s2, s3, s4, s5, s6, s7, s8]) rfl ?_
  exact ⟨Aa, ca, rfl, Lib.hid ⟨HOk.out, F138.out.2⟩, hb139⟩

set_option maxRecDepth 100000 in
set_option maxHeartbeats 4000000 in
theorem l08Alu13 (A : Option Addr) (c : Nat) (d : CD) (m : MD) (reg arg : Int) (w : World) (hr : 0 ≤ reg ∧ reg ≤ 3) (hc : RepC w A d) :
    Calls Tryz.prog 70 #[.agg #[.int .i64 d.pc, .int .i64 d.sp, .int .i64 d.bank, .int .i64 d.level, .bool d.zero, .bool d.carry, .bool d.on, .bool d.halt, .slice A 16 c], .int .i64 13, .int .i64 reg] w (ReadsC (execD d m 13 reg arg) w) := by
  obtain ⟨W1, hW1⟩ : ∃ W1, W1 = ((w.alloc (.cells #[.int .i64 d.pc, .int .i64 d.sp, .int .i64 d.bank, .int .i64 d.level, .bool d.zero, .bool d.carry, .bool d.on, .bool d.halt, .slice A 16 c] 25)).alloc (.cells #[.int .i64 0, .int .i64 0, .int .i64 0, .int .i64 0, .bool false, .bool false, .bool false, .bool false, .slice none 0 0] 25)) := ⟨_, rfl⟩
  have hb0 : Below w.heap.size w W1 := by rw [hW1]; exact (((Below.refl _ _).alloc (Nat.le_refl _) _).alloc (by simp; try omega) _)
  have Z2 : Hid (W1.heap.size = w.heap.size + 2) := Lib.hid (by rw [hW1]; simp)
  have X3 : Hid (Box W1 (w.heap.size) 25 #[.int .i64 d.pc, .int .i64 d.sp, .int .i64 d.bank, .int .i64 d.level, .bool d.zero, .bool d.carry, .bool d.on, .bool d.halt, .slice A 16 c]) := Lib.hid (by rw [hW1]; exact ((Box.new w 25 #[.int .i64 d.pc, .int .i64 d.sp, .int .i64 d.bank, .int .i64 d.level, .bool d.zero, .bool d.carry, .bool d.on, .bool d.halt, .slice A 16 c]).alloc _))
  have X4 : Hid (Box W1 (w.heap.size + 1) 25 #[.int .i64 0, .int .i64 0, .int .i64 0, .int .i64 0, .bool false, .bool false, .bool false, .bool false, .slice none 0 0]) := Lib.hid (by rw [hW1]; simpa using (Box.new (w.alloc (.cells #[.int .i64 d.pc, .int .i64 d.sp, .int .i64 d.bank, .int .i64 d.level, .bool d.zero, .bool d.carry, .bool d.on, .bool d.halt, .slice A 16 c] 25)) 25 #[.int .i64 0, .int .i64 0, .int .i64 0, .int .i64 0, .bool false, .bool false, .bool false, .bool false, .slice none 0 0]))
  have F5 : Hid (RepC W1 A d) := Lib.hid (hc.below hb0)
  have HW0 := Lib.hid hW1
  clear hW1
  have hO := hc.1
  have hra := hO.reg (k := 0) (by omega) (by omega)
  have hrb := hO.reg (k := reg) hr.1 hr.2
  have HRa := Lib.hid (fun W (q : RepC W A d) => l08RegS A c d 0 W ⟨by omega, by omega⟩ q)
  have HRb := Lib.hid (fun W (q : RepC W A d) => l08RegS A c d reg W hr q)
  have HV : Hid (execD d m 13 reg arg = d.comb (orI (d.reg 0) (d.reg reg))) := Lib.hid rfl
  have HOk := Lib.hid (hO.comb (orI (d.reg 0) (d.reg reg)))
  rw [HV.out]
  generalize hA : d.reg 0 = a at HRa hra HOk ⊢
  generalize hB : d.reg reg = b at HRb hrb HOk ⊢
  obtain ⟨v, hv⟩ : ∃ v, v = orI a b := ⟨_, rfl⟩
  obtain ⟨g1, g2, g3⟩ := bits_range hra hrb
  have hv0 : 0 ≤ v ∧ v ≤ 600 := by rw [hv]; omega
  have e1 : v.tmod 256 = v % 256 := Int.tmod_eq_emod_of_nonneg hv0.1
  have e2 : (v % 256 == 0) = decide (v % 256 = 0) := by rw [Bool.eq_iff_iff]; simp
  have HSt := Lib.hid (fun W (q : RepC W A d) => l08SetS A c d 0 (v % 256) W ⟨by omega, by omega⟩ ⟨by omega, by omega⟩ q)
  unfold ReadsC at HSt
  have HT : Hid (d.comb (orI a b) = { d.set 0 (v % 256) with zero := decide (v % 256 = 0), carry := false }) := Lib.hid (by unfold CD.comb CD.res; rw [show byB (orI a b) = true from byB_iff.2 (by assumption), ← hv]; rfl)
  rw [HT.out] at HOk
  rw [HT.out]
  have hbits : bits .or .i64 a b = v := by rw [hv]; exact (bits_bytes hra hrb).2.1
  have HCar : Hid ((d.set 0 (v % 256)).carry = d.carry) := Lib.hid rfl
  generalize d.set 0 (v % 256) = d1 at HSt HOk HCar ⊢
  obtain ⟨hv1, hv2⟩ := hv0
  obtain ⟨ra0, ra1⟩ := hra
  obtain ⟨rb0, rb1⟩ := hrb
  skip
  clear hc hO HV HT hA hB hv hr
  have f6 := X3.out.cell 0 rfl
  have f7 := X3.out.cell 1 rfl
  have f8 := X3.out.cell 2 rfl
  have f9 := X3.out.cell 3 rfl
  have f10 := X3.out.cell 4 rfl
  have f11 := X3.out.cell 5 rfl
  have f12 := X3.out.cell 6 rfl
  have f13 := X3.out.cell 7 rfl
  have f14 := X3.out.cell 8 rfl
  rw [HW0.out] at f6 f7 f8 f9 f10 f11 f12 f13 f14
  go_enter Tryz.func70, Tryz.ntmps70
  go_wp2_with fail
  rw [← HW0.out]
  rw [← HW0.out] at f6 f7 f8 f9 f10 f11 f12 f13 f14
  clear f6 f7 f8 f9 f10 f11 f12 f13 f14
  refine (HRa.out _ F5.out).mono ?_
  rintro e w1 ⟨rfl, hq1⟩
  have X15 := Lib.hid (X3.out.step hq1)
  have X16 := Lib.hid (X4.out.step hq1)
  have F17 := Lib.hid (F5.out.below hq1)
  have hb18 := bt hb0 hq1
  have Z19 : Hid (W1.heap.size ≤ w1.heap.size) := Lib.hid hq1.size
  clear X3 X4 F5 hb0 hq1
  have f20 := X15.out.cell 0 rfl
  have f21 := X15.out.cell 1 rfl
  have f22 := X15.out.cell 2 rfl
  have f23 := X15.out.cell 3 rfl
  have f24 := X15.out.cell 4 rfl
  have f25 := X15.out.cell 5 rfl
  have f26 := X15.out.cell 6 rfl
  have f27 := X15.out.cell 7 rfl
  have f28 := X15.out.cell 8 rfl
  go_wp2_with fail
  clear f20 f21 f22 f23 f24 f25 f26 f27 f28
  refine (HRb.out _ F17.out).mono ?_
  rintro e w2 ⟨rfl, hq2⟩
  have X29 := Lib.hid (X15.out.step hq2)
  have X30 := Lib.hid (X16.out.step hq2)
  have F31 := Lib.hid (F17.out.below hq2)
  have hb32 := bt hb18 hq2
  have Z33 : Hid (w1.heap.size ≤ w2.heap.size) := Lib.hid hq2.size
  clear X15 X16 F17 hb18 hq2
  have f34 := X29.out.cell 0 rfl
  have f35 := X29.out.cell 1 rfl
  have f36 := X29.out.cell 2 rfl
  have f37 := X29.out.cell 3 rfl
  have f38 := X29.out.cell 4 rfl
  have f39 := X29.out.cell 5 rfl
  have f40 := X29.out.cell 6 rfl
  have f41 := X29.out.cell 7 rfl
  have f42 := X29.out.cell 8 rfl
  go_wp2_with fail
  clear f34 f35 f36 f37 f38 f39 f40 f41 f42
  refine (HSt.out _ F31.out).mono ?_
  rintro e w3 ⟨Aa, ca, rfl, NC, hq3⟩
  have X43 := Lib.hid (X29.out.step hq3)
  have X44 := Lib.hid (X30.out.step hq3)
  have F45 := Lib.hid (F31.out.below hq3)
  have hb46 := bt hb32 hq3
  have Z47 : Hid (w2.heap.size ≤ w3.heap.size) := Lib.hid hq3.size
  clear X29 X30 F31 hb32 hq3
  clear F45 HRa HRb HSt
  have f48 := X43.out.cell 0 rfl
  have f49 := X43.out.cell 1 rfl
  have f50 := X43.out.cell 2 rfl
  have f51 := X43.out.cell 3 rfl
  have f52 := X43.out.cell 4 rfl
  have f53 := X43.out.cell 5 rfl
  have f54 := X43.out.cell 6 rfl
  have f55 := X43.out.cell 7 rfl
  have f56 := X43.out.cell 8 rfl
  have z57 := X43.out.frozen 0
  have z58 := X43.out.frozen 1
  have z59 := X43.out.frozen 2
  have z60 := X43.out.frozen 3
  have z61 := X43.out.frozen 4
  have z62 := X43.out.frozen 5
  have z63 := X43.out.frozen 6
  have z64 := X43.out.frozen 7
  have z65 := X43.out.frozen 8
  go_upto_region 27 with fail
  obtain ⟨W66, hW66⟩ : ∃ W66, W66 = (((((((((w3.setCell ⟨w.heap.size, 0, none⟩ (.int .i64 d1.pc)).setCell ⟨w.heap.size, 1, none⟩ (.int .i64 d1.sp)).setCell ⟨w.heap.size, 2, none⟩ (.int .i64 d1.bank)).setCell ⟨w.heap.size, 3, none⟩ (.int .i64 d1.level)).setCell ⟨w.heap.size, 4, none⟩ (.bool d1.zero)).setCell ⟨w.heap.size, 5, none⟩ (.bool d1.carry)).setCell ⟨w.heap.size, 6, none⟩ (.bool d1.on)).setCell ⟨w.heap.size, 7, none⟩ (.bool d1.halt)).setCell ⟨w.heap.size, 8, none⟩ (.slice Aa 16 ca)) := ⟨_, rfl⟩
  have hB67 : Btw (w.heap.size) (w.heap.size + 1) w3 W66 := by rw [hW66]; exact (Btw.refl _ _ _).put.put.put.put.put.put.put.put.put
  have X68 : Hid (Box W66 (w.heap.size) 25 #[.int .i64 d1.pc, .int .i64 d1.sp, .int .i64 d1.bank, .int .i64 d1.level, .bool d1.zero, .bool d1.carry, .bool d1.on, .bool d1.halt, .slice Aa 16 ca]) := Lib.hid (by rw [hW66]; exact (X43.out.allN9 rfl _ _ _ _ _ _ _ _ _))
  have X69 := Lib.hid (X44.out.btw hB67 (by have := Z2.out; have := Z19.out; have := Z33.out; have := Z47.out; omega))
  have F70 := Lib.hid (NC.out.off X43.out (by simp) hB67)
  have hb71 := Btw.lowSize hB67 hb46 (Nat.le_of_lt X43.out.lt) (by have := Z2.out; have := Z19.out; have := Z33.out; have := Z47.out; omega)
  have Z72 : Hid (w3.heap.size ≤ W66.heap.size) := Lib.hid hB67.size
  rw [← hW66]
  clear hW66 hB67 X43 X44 NC hb46
  have f73 := X68.out.cell 0 rfl
  have f74 := X68.out.cell 1 rfl
  have f75 := X68.out.cell 2 rfl
  have f76 := X68.out.cell 3 rfl
  have f77 := X68.out.cell 4 rfl
  have f78 := X68.out.cell 5 rfl
  have f79 := X68.out.cell 6 rfl
  have f80 := X68.out.cell 7 rfl
  have f81 := X68.out.cell 8 rfl
  have z82 := X68.out.frozen 0
  have z83 := X68.out.frozen 1
  have z84 := X68.out.frozen 2
  have z85 := X68.out.frozen 3
  have z86 := X68.out.frozen 4
  have z87 := X68.out.frozen 5
  have z88 := X68.out.frozen 6
  have z89 := X68.out.frozen 7
  have z90 := X68.out.frozen 8
  go_upto_region 29 with fail
  obtain ⟨W91, hW91⟩ : ∃ W91, W91 = ((W66.setCell ⟨w.heap.size, 4, none⟩ (.bool (decide (v % 256 = 0)))).setCell ⟨w.heap.size, 5, none⟩ (.bool false)) := ⟨_, rfl⟩
  have hB92 : Btw (w.heap.size) (w.heap.size + 1) W66 W91 := by rw [hW91]; exact (Btw.refl _ _ _).put.put
  have X93 : Hid (Box W91 (w.heap.size) 25 #[.int .i64 d1.pc, .int .i64 d1.sp, .int .i64 d1.bank, .int .i64 d1.level, .bool (decide (v % 256 = 0)), .bool false, .bool d1.on, .bool d1.halt, .slice Aa 16 ca]) := Lib.hid (by rw [hW91]; exact ((X68.out.set 4 _).set 5 _))
  have X94 := Lib.hid (X69.out.btw hB92 (by have := Z2.out; have := Z19.out; have := Z33.out; have := Z47.out; have := Z72.out; omega))
  have F95 := Lib.hid (F70.out.off X68.out (by simp) hB92)
  have hb96 := Btw.lowSize hB92 hb71 (Nat.le_of_lt X68.out.lt) (by have := Z2.out; have := Z19.out; have := Z33.out; have := Z47.out; have := Z72.out; omega)
  have Z97 : Hid (W66.heap.size ≤ W91.heap.size) := Lib.hid hB92.size
  rw [← hW91]
  clear hW91 hB92 X68 X69 F70 hb71
  have f98 := X93.out.cell 0 rfl
  have f99 := X93.out.cell 1 rfl
  have f100 := X93.out.cell 2 rfl
  have f101 := X93.out.cell 3 rfl
  have f102 := X93.out.cell 4 rfl
  have f103 := X93.out.cell 5 rfl
  have f104 := X93.out.cell 6 rfl
  have f105 := X93.out.cell 7 rfl
  have f106 := X93.out.cell 8 rfl
  have f107 := X94.out.cell 0 rfl
  have f108 := X94.out.cell 1 rfl
  have f109 := X94.out.cell 2 rfl
  have f110 := X94.out.cell 3 rfl
  have f111 := X94.out.cell 4 rfl
  have f112 := X94.out.cell 5 rfl
  have f113 := X94.out.cell 6 rfl
  have f114 := X94.out.cell 7 rfl
  have f115 := X94.out.cell 8 rfl
  have z116 := X93.out.frozen 0
  have z117 := X93.out.frozen 1
  have z118 := X93.out.frozen 2
  have z119 := X93.out.frozen 3
  have z120 := X93.out.frozen 4
  have z121 := X93.out.frozen 5
  have z122 := X93.out.frozen 6
  have z123 := X93.out.frozen 7
  have z124 := X93.out.frozen 8
  have z125 := X94.out.frozen 0
  have z126 := X94.out.frozen 1
  have z127 := X94.out.frozen 2
  have z128 := X94.out.frozen 3
  have z129 := X94.out.frozen 4
  have z130 := X94.out.frozen 5
  have z131 := X94.out.frozen 6
  have z132 := X94.out.frozen 7
  have z133 := X94.out.frozen 8
  go_wp2
  obtain ⟨W134, hW134⟩ : ∃ W134, W134 = (((((((((W91.setCell ⟨w.heap.size + 1, 0, none⟩ (.int .i64 d1.pc)).setCell ⟨w.heap.size + 1, 1, none⟩ (.int .i64 d1.sp)).setCell ⟨w.heap.size + 1, 2, none⟩ (.int .i64 d1.bank)).setCell ⟨w.heap.size + 1, 3, none⟩ (.int .i64 d1.level)).setCell ⟨w.heap.size + 1, 4, none⟩ (.bool (decide (v % 256 = 0)))).setCell ⟨w.heap.size + 1, 5, none⟩ (.bool false)).setCell ⟨w.heap.size + 1, 6, none⟩ (.bool d1.on)).setCell ⟨w.heap.size + 1, 7, none⟩ (.bool d1.halt)).setCell ⟨w.heap.size + 1, 8, none⟩ (.slice Aa 16 ca)) := ⟨_, rfl⟩
  have hB135 : Btw (w.heap.size + 1) (w.heap.size + 1 + 1) W91 W134 := by rw [hW134]; exact (Btw.refl _ _ _).put.put.put.put.put.put.put.put.put
  have X136 : Hid (Box W134 (w.heap.size + 1) 25 #[.int .i64 d1.pc, .int .i64 d1.sp, .int .i64 d1.bank, .int .i64 d1.level, .bool (decide (v % 256 = 0)), .bool false, .bool d1.on, .bool d1.halt, .slice Aa 16 ca]) := Lib.hid (by rw [hW134]; exact (X94.out.allN9 rfl _ _ _ _ _ _ _ _ _))
  have X137 := Lib.hid (X93.out.btw hB135 (by have := Z2.out; have := Z19.out; have := Z33.out; have := Z47.out; have := Z72.out; have := Z97.out; omega))
  have F138 := Lib.hid (F95.out.off X94.out (by simp) hB135)
  have hb139 := Btw.lowSize hB135 hb96 (Nat.le_of_lt X94.out.lt) (by have := Z2.out; have := Z19.out; have := Z33.out; have := Z47.out; have := Z72.out; have := Z97.out; omega)
  have Z140 : Hid (W91.heap.size ≤ W134.heap.size) := Lib.hid hB135.size
  rw [← hW134]
  clear hW134 hB135 X94 X93 F95 hb96
  have r0 := X136.out
  have s0 := r0.cell 0 rfl
  have s1 := r0.cell 1 rfl
  have s2 := r0.cell 2 rfl
  have s3 := r0.cell 3 rfl
  have s4 := r0.cell 4 rfl
  have s5 := r0.cell 5 rfl
  have s6 := r0.cell 6 rfl
  have s7 := r0.cell 7 rfl
  have s8 := r0.cell 8 rfl
  refine bodyPost_ret (v := .agg #[.int .i64 d1.pc, .int .i64 d1.sp, .int .i64 d1.bank, .int .i64 d1.level, .bool (decide (v % 256 = 0)), .bool false, .bool d1.on, .bool d1.halt, .slice Aa 16 ca]) (by simp [results, Tryz.results70, go_sem, s0, s1, s2, s3, s4, s5, s6, s7, s8]) rfl ?_
  exact ⟨Aa, ca, rfl, Lib.hid ⟨HOk.out, F138.out.2⟩, hb139⟩

set_option maxRecDepth 100000 in
set_option maxHeartbeats 4000000 in
theorem l08Alu14 (A : Option Addr) (c : Nat) (d : CD) (m : MD) (reg arg : Int) (w : World) (hr : 0 ≤ reg ∧ reg ≤ 3) (hc : RepC w A d) :
    Calls Tryz.prog 70 #[.agg #[.int .i64 d.pc, .int .i64 d.sp, .int .i64 d.bank, .int .i64 d.level, .bool d.zero, .bool d.carry, .bool d.on, .bool d.halt, .slice A 16 c], .int .i64 14, .int .i64 reg] w (ReadsC (execD d m 14 reg arg) w) := by
  obtain ⟨W1, hW1⟩ : ∃ W1, W1 = ((w.alloc (.cells #[.int .i64 d.pc, .int .i64 d.sp, .int .i64 d.bank, .int .i64 d.level, .bool d.zero, .bool d.carry, .bool d.on, .bool d.halt, .slice A 16 c] 25)).alloc (.cells #[.int .i64 0, .int .i64 0, .int .i64 0, .int .i64 0, .bool false, .bool false, .bool false, .bool false, .slice none 0 0] 25)) := ⟨_, rfl⟩
  have hb0 : Below w.heap.size w W1 := by rw [hW1]; exact (((Below.refl _ _).alloc (Nat.le_refl _) _).alloc (by simp; try omega) _)
  have Z2 : Hid (W1.heap.size = w.heap.size + 2) := Lib.hid (by rw [hW1]; simp)
  have X3 : Hid (Box W1 (w.heap.size) 25 #[.int .i64 d.pc, .int .i64 d.sp, .int .i64 d.bank, .int .i64 d.level, .bool d.zero, .bool d.carry, .bool d.on, .bool d.halt, .slice A 16 c]) := Lib.hid (by rw [hW1]; exact ((Box.new w 25 #[.int .i64 d.pc, .int .i64 d.sp, .int .i64 d.bank, .int .i64 d.level, .bool d.zero, .bool d.carry, .bool d.on, .bool d.halt, .slice A 16 c]).alloc _))
  have X4 : Hid (Box W1 (w.heap.size + 1) 25 #[.int .i64 0, .int .i64 0, .int .i64 0, .int .i64 0, .bool false, .bool false, .bool false, .bool false, .slice none 0 0]) := Lib.hid (by rw [hW1]; simpa using (Box.new (w.alloc (.cells #[.int .i64 d.pc, .int .i64 d.sp, .int .i64 d.bank, .int .i64 d.level, .bool d.zero, .bool d.carry, .bool d.on, .bool d.halt, .slice A 16 c] 25)) 25 #[.int .i64 0, .int .i64 0, .int .i64 0, .int .i64 0, .bool false, .bool false, .bool false, .bool false, .slice none 0 0]))
  have F5 : Hid (RepC W1 A d) := Lib.hid (hc.below hb0)
  have HW0 := Lib.hid hW1
  clear hW1
  have hO := hc.1
  have hra := hO.reg (k := 0) (by omega) (by omega)
  have hrb := hO.reg (k := reg) hr.1 hr.2
  have HRa := Lib.hid (fun W (q : RepC W A d) => l08RegS A c d 0 W ⟨by omega, by omega⟩ q)
  have HRb := Lib.hid (fun W (q : RepC W A d) => l08RegS A c d reg W hr q)
  have HV : Hid (execD d m 14 reg arg = d.comb (xorI (d.reg 0) (d.reg reg))) := Lib.hid rfl
  have HOk := Lib.hid (hO.comb (xorI (d.reg 0) (d.reg reg)))
  rw [HV.out]
  generalize hA : d.reg 0 = a at HRa hra HOk ⊢
  generalize hB : d.reg reg = b at HRb hrb HOk ⊢
  obtain ⟨v, hv⟩ : ∃ v, v = xorI a b := ⟨_, rfl⟩
  obtain ⟨g1, g2, g3⟩ := bits_range hra hrb
  have hv0 : 0 ≤ v ∧ v ≤ 600 := by rw [hv]; omega
  have e1 : v.tmod 256 = v % 256 := Int.tmod_eq_emod_of_nonneg hv0.1
  have e2 : (v % 256 == 0) = decide (v % 256 = 0) := by rw [Bool.eq_iff_iff]; simp
  have HSt := Lib.hid (fun W (q : RepC W A d) => l08SetS A c d 0 (v % 256) W ⟨by omega, by omega⟩ ⟨by omega, by omega⟩ q)
  unfold ReadsC at HSt
  have HT : Hid (d.comb (xorI a b) = { d.set 0 (v % 256) with zero := decide (v % 256 = 0), carry := false }) := Lib.hid (by unfold CD.comb CD.res; rw [show byB (xorI a b) = true from byB_iff.2 (by assumption), ← hv]; rfl)
  rw [HT.out] at HOk
  rw [HT.out]
  have hbits : bits .xor .i64 a b = v := by rw [hv]; exact (bits_bytes hra hrb).2.2
  have HCar : Hid ((d.set 0 (v % 256)).carry = d.carry) := Lib.hid rfl
  generalize d.set 0 (v % 256) = d1 at HSt HOk HCar ⊢
  obtain ⟨hv1, hv2⟩ := hv0
  obtain ⟨ra0, ra1⟩ := hra
  obtain ⟨rb0, rb1⟩ := hrb
  skip
  clear hc hO HV HT hA hB hv hr
  have f6 := X3.out.cell 0 rfl
  have f7 := X3.out.cell 1 rfl
  have f8 := X3.out.cell 2 rfl
  have f9 := X3.out.cell 3 rfl
  have f10 := X3.out.cell 4 rfl
  have f11 := X3.out.cell 5 rfl
  have f12 := X3.out.cell 6 rfl
  have f13 := X3.out.cell 7 rfl
  have f14 := X3.out.cell 8 rfl
  rw [HW0.out] at f6 f7 f8 f9 f10 f11 f12 f13 f14
  go_enter Tryz.func70, Tryz.ntmps70
  go_wp2_with fail
  rw [← HW0.out]
  rw [← HW0.out] at f6 f7 f8 f9 f10 f11 f12 f13 f14
  clear f6 f7 f8 f9 f10 f11 f12 f13 f14
  refine (HRa.out _ F5.out).mono ?_
  rintro e w1 ⟨rfl, hq1⟩
  have X15 := Lib.hid (X3.out.step hq1)
  have X16 := Lib.hid (X4.out.step hq1)
  have F17 := Lib.hid (F5.out.below hq1)
  have hb18 := bt hb0 hq1
  have Z19 : Hid (W1.heap.size ≤ w1.heap.size) := Lib.hid hq1.size
  clear X3 X4 F5 hb0 hq1
  have f20 := X15.out.cell 0 rfl
  have f21 := X15.out.cell 1 rfl
  have f22 := X15.out.cell 2 rfl
  have f23 := X15.out.cell 3 rfl
  have f24 := X15.out.cell 4 rfl
  have f25 := X15.out.cell 5 rfl
  have f26 := X15.out.cell 6 rfl
  have f27 := X15.out.cell 7 rfl
  have f28 := X15.out.cell 8 rfl
  go_wp2_with fail
  clear f20 f21 f22 f23 f24 f25 f26 f27 f28
  refine (HRb.out _ F17.out).mono ?_
  rintro e w2 ⟨rfl, hq2⟩
  have X29 := Lib.hid (X15.out.step hq2)
  have X30 := Lib.hid (X16.out.step hq2)
  have F31 := Lib.hid (F17.out.below hq2)
  have hb32 := bt hb18 hq2
  have Z33 : Hid (w1.heap.size ≤ w2.heap.size) := Lib.hid hq2.size
  clear X15 X16 F17 hb18 hq2
  have f34 := X29.out.cell 0 rfl
  have f35 := X29.out.cell 1 rfl
  have f36 := X29.out.cell 2 rfl
  have f37 := X29.out.cell 3 rfl
  have f38 := X29.out.cell 4 rfl
  have f39 := X29.out.cell 5 rfl
  have f40 := X29.out.cell 6 rfl
  have f41 := X29.out.cell 7 rfl
  have f42 := X29.out.cell 8 rfl
  go_wp2_with fail
  clear f34 f35 f36 f37 f38 f39 f40 f41 f42
  refine (HSt.out _ F31.out).mono ?_
  rintro e w3 ⟨Aa, ca, rfl, NC, hq3⟩
  have X43 := Lib.hid (X29.out.step hq3)
  have X44 := Lib.hid (X30.out.step hq3)
  have F45 := Lib.hid (F31.out.below hq3)
  have hb46 := bt hb32 hq3
  have Z47 : Hid (w2.heap.size ≤ w3.heap.size) := Lib.hid hq3.size
  clear X29 X30 F31 hb32 hq3
  clear F45 HRa HRb HSt
  have f48 := X43.out.cell 0 rfl
  have f49 := X43.out.cell 1 rfl
  have f50 := X43.out.cell 2 rfl
  have f51 := X43.out.cell 3 rfl
  have f52 := X43.out.cell 4 rfl
  have f53 := X43.out.cell 5 rfl
  have f54 := X43.out.cell 6 rfl
  have f55 := X43.out.cell 7 rfl
  have f56 := X43.out.cell 8 rfl
  have z57 := X43.out.frozen 0
  have z58 := X43.out.frozen 1
  have z59 := X43.out.frozen 2
  have z60 := X43.out.frozen 3
  have z61 := X43.out.frozen 4
  have z62 := X43.out.frozen 5
  have z63 := X43.out.frozen 6
  have z64 := X43.out.frozen 7
  have z65 := X43.out.frozen 8
  go_upto_region 27 with fail
  obtain ⟨W66, hW66⟩ : ∃ W66, W66 = (((((((((w3.setCell ⟨w.heap.size, 0, none⟩ (.int .i64 d1.pc)).setCell ⟨w.heap.size, 1, none⟩ (.int .i64 d1.sp)).setCell ⟨w.heap.size, 2, none⟩ (.int .i64 d1.bank)).setCell ⟨w.heap.size, 3, none⟩ (.int .i64 d1.level)).setCell ⟨w.heap.size, 4, none⟩ (.bool d1.zero)).setCell ⟨w.heap.size, 5, none⟩ (.bool d1.carry)).setCell ⟨w.heap.size, 6, none⟩ (.bool d1.on)).setCell ⟨w.heap.size, 7, none⟩ (.bool d1.halt)).setCell ⟨w.heap.size, 8, none⟩ (.slice Aa 16 ca)) := ⟨_, rfl⟩
  have hB67 : Btw (w.heap.size) (w.heap.size + 1) w3 W66 := by rw [hW66]; exact (Btw.refl _ _ _).put.put.put.put.put.put.put.put.put
  have X68 : Hid (Box W66 (w.heap.size) 25 #[.int .i64 d1.pc, .int .i64 d1.sp, .int .i64 d1.bank, .int .i64 d1.level, .bool d1.zero, .bool d1.carry, .bool d1.on, .bool d1.halt, .slice Aa 16 ca]) := Lib.hid (by rw [hW66]; exact (X43.out.allN9 rfl _ _ _ _ _ _ _ _ _))
  have X69 := Lib.hid (X44.out.btw hB67 (by have := Z2.out; have := Z19.out; have := Z33.out; have := Z47.out; omega))
  have F70 := Lib.hid (NC.out.off X43.out (by simp) hB67)
  have hb71 := Btw.lowSize hB67 hb46 (Nat.le_of_lt X43.out.lt) (by have := Z2.out; have := Z19.out; have := Z33.out; have := Z47.out; omega)
  have Z72 : Hid (w3.heap.size ≤ W66.heap.size) := Lib.hid hB67.size
  rw [← hW66]
  clear hW66 hB67 X43 X44 NC hb46
  have f73 := X68.out.cell 0 rfl
  have f74 := X68.out.cell 1 rfl
  have f75 := X68.out.cell 2 rfl
  have f76 := X68.out.cell 3 rfl
  have f77 := X68.out.cell 4 rfl
  have f78 := X68.out.cell 5 rfl
  have f79 := X68.out.cell 6 rfl
  have f80 := X68.out.cell 7 rfl
  have f81 := X68.out.cell 8 rfl
  have z82 := X68.out.frozen 0
  have z83 := X68.out.frozen 1
  have z84 := X68.out.frozen 2
  have z85 := X68.out.frozen 3
  have z86 := X68.out.frozen 4
  have z87 := X68.out.frozen 5
  have z88 := X68.out.frozen 6
  have z89 := X68.out.frozen 7
  have z90 := X68.out.frozen 8
  go_upto_region 29 with fail
  obtain ⟨W91, hW91⟩ : ∃ W91, W91 = ((W66.setCell ⟨w.heap.size, 4, none⟩ (.bool (decide (v % 256 = 0)))).setCell ⟨w.heap.size, 5, none⟩ (.bool false)) := ⟨_, rfl⟩
  have hB92 : Btw (w.heap.size) (w.heap.size + 1) W66 W91 := by rw [hW91]; exact (Btw.refl _ _ _).put.put
  have X93 : Hid (Box W91 (w.heap.size) 25 #[.int .i64 d1.pc, .int .i64 d1.sp, .int .i64 d1.bank, .int .i64 d1.level, .bool (decide (v % 256 = 0)), .bool false, .bool d1.on, .bool d1.halt, .slice Aa 16 ca]) := Lib.hid (by rw [hW91]; exact ((X68.out.set 4 _).set 5 _))
  have X94 := Lib.hid (X69.out.btw hB92 (by have := Z2.out; have := Z19.out; have := Z33.out; have := Z47.out; have := Z72.out; omega))
  have F95 := Lib.hid (F70.out.off X68.out (by simp) hB92)
  have hb96 := Btw.lowSize hB92 hb71 (Nat.le_of_lt X68.out.lt) (by have := Z2.out; have := Z19.out; have := Z33.out; have := Z47.out; have := Z72.out; omega)
  have Z97 : Hid (W66.heap.size ≤ W91.heap.size) := Lib.hid hB92.size
  rw [← hW91]
  clear hW91 hB92 X68 X69 F70 hb71
  have f98 := X93.out.cell 0 rfl
  have f99 := X93.out.cell 1 rfl
  have f100 := X93.out.cell 2 rfl
  have f101 := X93.out.cell 3 rfl
  have f102 := X93.out.cell 4 rfl
  have f103 := X93.out.cell 5 rfl
  have f104 := X93.out.cell 6 rfl
  have f105 := X93.out.cell 7 rfl
  have f106 := X93.out.cell 8 rfl
  have f107 := X94.out.cell 0 rfl
  have f108 := X94.out.cell 1 rfl
  have f109 := X94.out.cell 2 rfl
  have f110 := X94.out.cell 3 rfl
  have f111 := X94.out.cell 4 rfl
  have f112 := X94.out.cell 5 rfl
  have f113 := X94.out.cell 6 rfl
  have f114 := X94.out.cell 7 rfl
  have f115 := X94.out.cell 8 rfl
  have z116 := X93.out.frozen 0
  have z117 := X93.out.frozen 1
  have z118 := X93.out.frozen 2
  have z119 := X93.out.frozen 3
  have z120 := X93.out.frozen 4
  have z121 := X93.out.frozen 5
  have z122 := X93.out.frozen 6
  have z123 := X93.out.frozen 7
  have z124 := X93.out.frozen 8
  have z125 := X94.out.frozen 0
  have z126 := X94.out.frozen 1
  have z127 := X94.out.frozen 2
  have z128 := X94.out.frozen 3
  have z129 := X94.out.frozen 4
  have z130 := X94.out.frozen 5
  have z131 := X94.out.frozen 6
  have z132 := X94.out.frozen 7
  have z133 := X94.out.frozen 8
  go_wp2
  obtain ⟨W134, hW134⟩ : ∃ W134, W134 = (((((((((W91.setCell ⟨w.heap.size + 1, 0, none⟩ (.int .i64 d1.pc)).setCell ⟨w.heap.size + 1, 1, none⟩ (.int .i64 d1.sp)).setCell ⟨w.heap.size + 1, 2, none⟩ (.int .i64 d1.bank)).setCell ⟨w.heap.size + 1, 3, none⟩ (.int .i64 d1.level)).setCell ⟨w.heap.size + 1, 4, none⟩ (.bool (decide (v % 256 = 0)))).setCell ⟨w.heap.size + 1, 5, none⟩ (.bool false)).setCell ⟨w.heap.size + 1, 6, none⟩ (.bool d1.on)).setCell ⟨w.heap.size + 1, 7, none⟩ (.bool d1.halt)).setCell ⟨w.heap.size + 1, 8, none⟩ (.slice Aa 16 ca)) := ⟨_, rfl⟩
  have hB135 : Btw (w.heap.size + 1) (w.heap.size + 1 + 1) W91 W134 := by rw [hW134]; exact (Btw.refl _ _ _).put.put.put.put.put.put.put.put.put
  have X136 : Hid (Box W134 (w.heap.size + 1) 25 #[.int .i64 d1.pc, .int .i64 d1.sp, .int .i64 d1.bank, .int .i64 d1.level, .bool (decide (v % 256 = 0)), .bool false, .bool d1.on, .bool d1.halt, .slice Aa 16 ca]) := Lib.hid (by rw [hW134]; exact (X94.out.allN9 rfl _ _ _ _ _ _ _ _ _))
  have X137 := Lib.hid (X93.out.btw hB135 (by have := Z2.out; have := Z19.out; have := Z33.out; have := Z47.out; have := Z72.out; have := Z97.out; omega))
  have F138 := Lib.hid (F95.out.off X94.out (by simp) hB135)
  have hb139 := Btw.lowSize hB135 hb96 (Nat.le_of_lt X94.out.lt) (by have := Z2.out; have := Z19.out; have := Z33.out; have := Z47.out; have := Z72.out; have := Z97.out; omega)
  have Z140 : Hid (W91.heap.size ≤ W134.heap.size) := Lib.hid hB135.size
  rw [← hW134]
  clear hW134 hB135 X94 X93 F95 hb96
  have r0 := X136.out
  have s0 := r0.cell 0 rfl
  have s1 := r0.cell 1 rfl
  have s2 := r0.cell 2 rfl
  have s3 := r0.cell 3 rfl
  have s4 := r0.cell 4 rfl
  have s5 := r0.cell 5 rfl
  have s6 := r0.cell 6 rfl
  have s7 := r0.cell 7 rfl
  have s8 := r0.cell 8 rfl
  refine bodyPost_ret (v := .agg #[.int .i64 d1.pc, .int .i64 d1.sp, .int .i64 d1.bank, .int .i64 d1.level, .bool (decide (v % 256 = 0)), .bool false, .bool d1.on, .bool d1.halt, .slice Aa 16 ca]) (by simp [results, Tryz.results70, go_sem, s0, s1, s2, s3, s4, s5, s6, s7, s8]) rfl ?_
  exact ⟨Aa, ca, rfl, Lib.hid ⟨HOk.out, F138.out.2⟩, hb139⟩
end Go.Proofs.YtcchhbkbnbphhaaGreatDoor
