/- Two registers combined: the arithmetic, the closures, and what makes them. Written by gen_procz.py. -/
import Derived.Test.YtcchhbkbnbphhaaGreatDoorProcY
namespace Go.Proofs.YtcchhbkbnbphhaaGreatDoor
open Go.RowKit

set_option maxRecDepth 100000 in
theorem prCombining (p k : Nat) (w : World) : Calls Tryz.prog 93 #[.pointer (some ⟨p, 0, none⟩), .func (.func k) #[] #[]] w fun e w' => e = .returned (.func (.func 122) #[] #[.pointer (some ⟨w.heap.size + 1, 0, none⟩), .pointer (some ⟨w.heap.size, 0, none⟩)]) ∧ w' = (w.alloc (.cells #[.pointer (some ⟨p, 0, none⟩)] 49)).alloc (.cells #[.func (.func k) #[] #[]] 118) := by
  go_enter Tryz.func93, Tryz.ntmps93
  go_wp2
  go_ret
  exact ⟨by simp, rfl⟩
theorem byB_rng (v : Int) : rngB v 0 255 = byB v := by unfold rngB byB; first | rfl | (rw [Bool.eq_iff_iff]; simp)

set_option maxRecDepth 100000 in
theorem prSum (x y : Int) (w : World) (hx : 0 ≤ x ∧ x ≤ 255) (hy : 0 ≤ y ∧ y ≤ 255) : Calls Tryz.prog 94 #[.int .i64 x, .int .i64 y] w fun e w' => e = .returned (.int .i64 (x + y)) ∧ w = w' := by
  have e1 : IntKind.i64.wrap (x + y) = x + y := IntWalk.i64_in _ (by omega)
  clear hx hy
  go_enter Tryz.func94, Tryz.ntmps94
  go_wp2
  go_ret
  exact ⟨by simp, rfl⟩

set_option maxRecDepth 100000 in
theorem prDif (x y : Int) (w : World) (hx : 0 ≤ x ∧ x ≤ 255) (hy : 0 ≤ y ∧ y ≤ 255) : Calls Tryz.prog 95 #[.int .i64 x, .int .i64 y] w fun e w' => e = .returned (.int .i64 (x - y)) ∧ w = w' := by
  have e1 : IntKind.i64.wrap (x - y) = x - y := IntWalk.i64_in _ (by omega)
  clear hx hy
  go_enter Tryz.func95, Tryz.ntmps95
  go_wp2
  go_ret
  exact ⟨by simp, rfl⟩

set_option maxRecDepth 100000 in
theorem prAnd (x y : Int) (w : World) (hx : 0 ≤ x ∧ x ≤ 255) (hy : 0 ≤ y ∧ y ≤ 255) : Calls Tryz.prog 96 #[.int .i64 x, .int .i64 y] w fun e w' => e = .returned (.int .i64 (andI x y)) ∧ w = w' := by
  have e1 := (bits_bytes hx hy).1
  generalize andI x y = u at e1 ⊢
  clear hx hy
  go_enter Tryz.func96, Tryz.ntmps96
  go_wp2
  go_ret
  exact ⟨by first | rfl | simp [e1], rfl⟩

set_option maxRecDepth 100000 in
theorem prOr (x y : Int) (w : World) (hx : 0 ≤ x ∧ x ≤ 255) (hy : 0 ≤ y ∧ y ≤ 255) : Calls Tryz.prog 97 #[.int .i64 x, .int .i64 y] w fun e w' => e = .returned (.int .i64 (orI x y)) ∧ w = w' := by
  have e1 := (bits_bytes hx hy).2.1
  generalize orI x y = u at e1 ⊢
  clear hx hy
  go_enter Tryz.func97, Tryz.ntmps97
  go_wp2
  go_ret
  exact ⟨by first | rfl | simp [e1], rfl⟩

set_option maxRecDepth 100000 in
theorem prXor (x y : Int) (w : World) (hx : 0 ≤ x ∧ x ≤ 255) (hy : 0 ≤ y ∧ y ≤ 255) : Calls Tryz.prog 98 #[.int .i64 x, .int .i64 y] w fun e w' => e = .returned (.int .i64 (xorI x y)) ∧ w = w' := by
  have e1 := (bits_bytes hx hy).2.2
  generalize xorI x y = u at e1 ⊢
  clear hx hy
  go_enter Tryz.func98, Tryz.ntmps98
  go_wp2
  go_ret
  exact ⟨by first | rfl | simp [e1], rfl⟩

set_option maxRecDepth 100000 in
set_option maxHeartbeats 4000000 in
theorem prComb10 (a : PA) (d : CD) (m : MD) (s op reg arg : Int) (w : World) (Bf Bp : Nat) (hr : 0 ≤ reg ∧ reg ≤ 3) (hf : Box w Bf 118 #[.func (.func 94) #[] #[]]) (hp : Box w Bp 49 #[.pointer (some ⟨a.p, 0, none⟩)]) (hd : d.Ok) (hm : m.Ok) (h : PrAt w a d m s) :
    Calls Tryz.prog 122 #[.agg #[.int .i64 op, .int .i64 reg, .int .i64 arg], .pointer (some ⟨Bf, 0, none⟩), .pointer (some ⟨Bp, 0, none⟩)] w (GPr a (d.comb (aluV 10 (d.reg 0) (d.reg reg))) m s w) := by
  have h0 := hd.reg (k := 0) (by decide) (by decide)
  have h1 := hd.reg hr.1 hr.2
  have HV : Hid (aluV 10 (d.reg 0) (d.reg reg) = d.reg 0 + d.reg reg) := Lib.hid rfl
  rw [HV.out]
  obtain ⟨W0, hW0⟩ : ∃ W0, W0 = w.alloc (.cells #[.int .i64 op, .int .i64 reg, .int .i64 arg] 82) := ⟨_, rfl⟩
  have hb0 : Below w.heap.size w W0 := by rw [hW0]; exact alloc_below _ _
  have HX0 : Hid (Box W0.drew w.heap.size 82 #[.int .i64 op, .int .i64 reg, .int .i64 arg] ∧ Box W0.drew Bf 118 #[.func (.func 94) #[] #[]] ∧ Box W0.drew Bp 49 #[.pointer (some ⟨a.p, 0, none⟩)]) := Lib.hid ⟨by rw [hW0]; exact (Box.new _ _ _).drew, (hf.step hb0).drew, (hp.step hb0).drew⟩
  have P0 := Lib.hid ((h.step hb0).step (Below.refl _ _).drew)
  have R0 : Hid (Runs a.L w W0.drew) := Lib.hid ((Runs.below hb0 h.size).trans (Runs.drew a.L W0))
  have HK : Hid (∀ W, Box W w.heap.size 82 #[.int .i64 op, .int .i64 reg, .int .i64 arg] ∧ Box W Bf 118 #[.func (.func 94) #[] #[]] ∧ Box W Bp 49 #[.pointer (some ⟨a.p, 0, none⟩)] → W.cell? ⟨w.heap.size, 1, none⟩ = some (.int .i64 reg) ∧ W.cell? ⟨Bf, 0, none⟩ = some (.func (.func 94) #[] #[]) ∧ W.cell? ⟨Bp, 0, none⟩ = some (.pointer (some ⟨a.p, 0, none⟩))) := Lib.hid (fun W X => ⟨X.1.cell 1 rfl, X.2.1.cell 0 rfl, X.2.2.cell 0 rfl⟩)
  have hk0 := HK.out _ HX0.out
  obtain ⟨k1, k2, k3⟩ := hk0
  have HW0 := Lib.hid hW0
  rw [HW0.out] at k1 k2 k3
  have HR1 := Lib.hid (fun W (q : PrAt W a d m s) => prReg a d m s W 0 (by decide) hd hm q)
  have HR2 := Lib.hid (fun W (q : PrAt W a d m s) => prReg a d m s W reg hr hd hm q)
  unfold GPrI at HR1 HR2
  have HC : Hid (d.comb (d.reg 0 + d.reg reg) = { d.res 0 (d.reg 0 + d.reg reg) with carry := !byB (d.reg 0 + d.reg reg) }) := Lib.hid rfl
  rw [HC.out]
  generalize d.reg 0 = x at h0 HR1 HV HC ⊢
  generalize d.reg reg = y at h1 HR2 HV HC ⊢
  have HS := Lib.hid (fun W => prSum x y W h0 h1)
  generalize x + y = v at HS HV HC ⊢
  have HRs := Lib.hid (fun W (q : PrAt W a d m s) => prSetResult a d m s W 0 v (by decide) hd hm q)
  unfold GPr at HRs
  have HBy := Lib.hid (fun W => isByteR v W)
  rw [byB_rng] at HBy
  generalize d.res 0 v = d1 at HRs HC ⊢
  generalize byB v = cb at HBy HC ⊢
  clear h hW0 hb0 hf hp hd hm hr h0 h1 HV HC
  go_enter Tryz.func122, Tryz.ntmps122
  go_wp2
  rw [← HW0.out]
  go_region_held3 (fun W => W.cell? ⟨w.heap.size, 1, none⟩ = some (.int .i64 reg) ∧ W.cell? ⟨Bf, 0, none⟩ = some (.func (.func 94) #[] #[]) ∧ W.cell? ⟨Bp, 0, none⟩ = some (.pointer (some ⟨a.p, 0, none⟩)))
    (first | (with_reducible exact HK.out _ HX0.out) | (with_reducible exact HK.out _ HX1.out) | (with_reducible exact HK.out _ HX2.out))
    (first | (go_at_call 94; refine (HS.out _).mono ?_; rintro e w3 ⟨rfl, rfl⟩) | (go_at_call 121; refine (HR2.out _ P1.out).mono ?_; rintro e w2 ⟨rfl, P2, R2⟩; have HX2 : Hid (Box w2 w.heap.size 82 #[.int .i64 op, .int .i64 reg, .int .i64 arg] ∧ Box w2 Bf 118 #[.func (.func 94) #[] #[]] ∧ Box w2 Bp 49 #[.pointer (some ⟨a.p, 0, none⟩)]) := Lib.hid ⟨R2.out.kb _ _ _ (by decide) (by decide) (by decide) HX1.out.1, R2.out.kb _ _ _ (by decide) (by decide) (by decide) HX1.out.2.1, R2.out.kb _ _ _ (by decide) (by decide) (by decide) HX1.out.2.2⟩) | (go_at_call 121; refine (HR1.out _ P0.out).mono ?_; rintro e w1 ⟨rfl, P1, R1⟩; have HX1 : Hid (Box w1 w.heap.size 82 #[.int .i64 op, .int .i64 reg, .int .i64 arg] ∧ Box w1 Bf 118 #[.func (.func 94) #[] #[]] ∧ Box w1 Bp 49 #[.pointer (some ⟨a.p, 0, none⟩)]) := Lib.hid ⟨R1.out.kb _ _ _ (by decide) (by decide) (by decide) HX0.out.1, R1.out.kb _ _ _ (by decide) (by decide) (by decide) HX0.out.2.1, R1.out.kb _ _ _ (by decide) (by decide) (by decide) HX0.out.2.2⟩))
  obtain ⟨j1, j2, j3⟩ := HK.out _ HX2.out
  clear k1 k2 k3 HX0 HX1 HR1 HR2 P0 P1 HS
  go_wp2_with fail
  refine (HRs.out _ P2.out).mono ?_
  rintro e w3 ⟨rfl, P3, R3⟩
  clear j1 j2 j3 HRs P2 HK
  have HK3 : Hid (∀ W, Box W Bp 49 #[.pointer (some ⟨a.p, 0, none⟩)] → W.cell? ⟨Bp, 0, none⟩ = some (.pointer (some ⟨a.p, 0, none⟩))) := Lib.hid (fun W X => X.cell 0 rfl)
  have HX3 : Hid (Box w3 Bp 49 #[.pointer (some ⟨a.p, 0, none⟩)]) := Lib.hid (R3.out.kb _ _ _ (by decide) (by decide) (by decide) HX2.out.2.2)
  have HX3d := Lib.hid HX3.out.drew
  have HNe : Hid (Bp ≠ a.p) := Lib.hid (HX3.out.box_ne P3.out.X (by decide))
  have HX4 : Hid (Box (w3.setCell ⟨a.p, 5, none⟩ (.bool (!cb))).drew Bp 49 #[.pointer (some ⟨a.p, 0, none⟩)]) := Lib.hid (HX3.out.far (p := ⟨a.p, 5, none⟩) HNe.out _).drew
  have P4 := Lib.hid ((P3.out.put 5 (.bool (!cb)) { d1 with carry := !cb } s rfl rfl).step (Below.refl _ _).drew)
  have R4 : Hid (Runs a.L w (w3.setCell ⟨a.p, 5, none⟩ (.bool (!cb))).drew) := Lib.hid (R0.out.trans (R1.out.trans (R2.out.trans (R3.out.trans ((P3.out.runs (Nat.le_refl _) 5 _).trans (Runs.drew a.L _))))))
  obtain ⟨⟨_, _, _, _, _, c5, _, _, _⟩, ⟨_, _, _, _, _⟩, cz⟩ := P3.out.cells
  have z5 := cz 5
  have y3 := HX3.out.cell 0 rfl
  clear cz R0 R1 R2 R3 P3 HX2 HNe
  go_wp2
  go_region_held3 (fun W => W.cell? ⟨Bp, 0, none⟩ = some (.pointer (some ⟨a.p, 0, none⟩)))
    (first | (with_reducible exact HK3.out _ HX3d.out) | (with_reducible exact HK3.out _ HX4.out))
    (first | (go_at_call 46; refine (HBy.out _).mono ?_; rintro e w4 ⟨rfl, rfl⟩))
  go_end0
  exact ⟨rfl, P4, R4⟩

set_option maxRecDepth 100000 in
set_option maxHeartbeats 4000000 in
theorem prComb11 (a : PA) (d : CD) (m : MD) (s op reg arg : Int) (w : World) (Bf Bp : Nat) (hr : 0 ≤ reg ∧ reg ≤ 3) (hf : Box w Bf 118 #[.func (.func 95) #[] #[]]) (hp : Box w Bp 49 #[.pointer (some ⟨a.p, 0, none⟩)]) (hd : d.Ok) (hm : m.Ok) (h : PrAt w a d m s) :
    Calls Tryz.prog 122 #[.agg #[.int .i64 op, .int .i64 reg, .int .i64 arg], .pointer (some ⟨Bf, 0, none⟩), .pointer (some ⟨Bp, 0, none⟩)] w (GPr a (d.comb (aluV 11 (d.reg 0) (d.reg reg))) m s w) := by
  have h0 := hd.reg (k := 0) (by decide) (by decide)
  have h1 := hd.reg hr.1 hr.2
  have HV : Hid (aluV 11 (d.reg 0) (d.reg reg) = d.reg 0 - d.reg reg) := Lib.hid rfl
  rw [HV.out]
  obtain ⟨W0, hW0⟩ : ∃ W0, W0 = w.alloc (.cells #[.int .i64 op, .int .i64 reg, .int .i64 arg] 82) := ⟨_, rfl⟩
  have hb0 : Below w.heap.size w W0 := by rw [hW0]; exact alloc_below _ _
  have HX0 : Hid (Box W0.drew w.heap.size 82 #[.int .i64 op, .int .i64 reg, .int .i64 arg] ∧ Box W0.drew Bf 118 #[.func (.func 95) #[] #[]] ∧ Box W0.drew Bp 49 #[.pointer (some ⟨a.p, 0, none⟩)]) := Lib.hid ⟨by rw [hW0]; exact (Box.new _ _ _).drew, (hf.step hb0).drew, (hp.step hb0).drew⟩
  have P0 := Lib.hid ((h.step hb0).step (Below.refl _ _).drew)
  have R0 : Hid (Runs a.L w W0.drew) := Lib.hid ((Runs.below hb0 h.size).trans (Runs.drew a.L W0))
  have HK : Hid (∀ W, Box W w.heap.size 82 #[.int .i64 op, .int .i64 reg, .int .i64 arg] ∧ Box W Bf 118 #[.func (.func 95) #[] #[]] ∧ Box W Bp 49 #[.pointer (some ⟨a.p, 0, none⟩)] → W.cell? ⟨w.heap.size, 1, none⟩ = some (.int .i64 reg) ∧ W.cell? ⟨Bf, 0, none⟩ = some (.func (.func 95) #[] #[]) ∧ W.cell? ⟨Bp, 0, none⟩ = some (.pointer (some ⟨a.p, 0, none⟩))) := Lib.hid (fun W X => ⟨X.1.cell 1 rfl, X.2.1.cell 0 rfl, X.2.2.cell 0 rfl⟩)
  have hk0 := HK.out _ HX0.out
  obtain ⟨k1, k2, k3⟩ := hk0
  have HW0 := Lib.hid hW0
  rw [HW0.out] at k1 k2 k3
  have HR1 := Lib.hid (fun W (q : PrAt W a d m s) => prReg a d m s W 0 (by decide) hd hm q)
  have HR2 := Lib.hid (fun W (q : PrAt W a d m s) => prReg a d m s W reg hr hd hm q)
  unfold GPrI at HR1 HR2
  have HC : Hid (d.comb (d.reg 0 - d.reg reg) = { d.res 0 (d.reg 0 - d.reg reg) with carry := !byB (d.reg 0 - d.reg reg) }) := Lib.hid rfl
  rw [HC.out]
  generalize d.reg 0 = x at h0 HR1 HV HC ⊢
  generalize d.reg reg = y at h1 HR2 HV HC ⊢
  have HS := Lib.hid (fun W => prDif x y W h0 h1)
  generalize x - y = v at HS HV HC ⊢
  have HRs := Lib.hid (fun W (q : PrAt W a d m s) => prSetResult a d m s W 0 v (by decide) hd hm q)
  unfold GPr at HRs
  have HBy := Lib.hid (fun W => isByteR v W)
  rw [byB_rng] at HBy
  generalize d.res 0 v = d1 at HRs HC ⊢
  generalize byB v = cb at HBy HC ⊢
  clear h hW0 hb0 hf hp hd hm hr h0 h1 HV HC
  go_enter Tryz.func122, Tryz.ntmps122
  go_wp2
  rw [← HW0.out]
  go_region_held3 (fun W => W.cell? ⟨w.heap.size, 1, none⟩ = some (.int .i64 reg) ∧ W.cell? ⟨Bf, 0, none⟩ = some (.func (.func 95) #[] #[]) ∧ W.cell? ⟨Bp, 0, none⟩ = some (.pointer (some ⟨a.p, 0, none⟩)))
    (first | (with_reducible exact HK.out _ HX0.out) | (with_reducible exact HK.out _ HX1.out) | (with_reducible exact HK.out _ HX2.out))
    (first | (go_at_call 95; refine (HS.out _).mono ?_; rintro e w3 ⟨rfl, rfl⟩) | (go_at_call 121; refine (HR2.out _ P1.out).mono ?_; rintro e w2 ⟨rfl, P2, R2⟩; have HX2 : Hid (Box w2 w.heap.size 82 #[.int .i64 op, .int .i64 reg, .int .i64 arg] ∧ Box w2 Bf 118 #[.func (.func 95) #[] #[]] ∧ Box w2 Bp 49 #[.pointer (some ⟨a.p, 0, none⟩)]) := Lib.hid ⟨R2.out.kb _ _ _ (by decide) (by decide) (by decide) HX1.out.1, R2.out.kb _ _ _ (by decide) (by decide) (by decide) HX1.out.2.1, R2.out.kb _ _ _ (by decide) (by decide) (by decide) HX1.out.2.2⟩) | (go_at_call 121; refine (HR1.out _ P0.out).mono ?_; rintro e w1 ⟨rfl, P1, R1⟩; have HX1 : Hid (Box w1 w.heap.size 82 #[.int .i64 op, .int .i64 reg, .int .i64 arg] ∧ Box w1 Bf 118 #[.func (.func 95) #[] #[]] ∧ Box w1 Bp 49 #[.pointer (some ⟨a.p, 0, none⟩)]) := Lib.hid ⟨R1.out.kb _ _ _ (by decide) (by decide) (by decide) HX0.out.1, R1.out.kb _ _ _ (by decide) (by decide) (by decide) HX0.out.2.1, R1.out.kb _ _ _ (by decide) (by decide) (by decide) HX0.out.2.2⟩))
  obtain ⟨j1, j2, j3⟩ := HK.out _ HX2.out
  clear k1 k2 k3 HX0 HX1 HR1 HR2 P0 P1 HS
  go_wp2_with fail
  refine (HRs.out _ P2.out).mono ?_
  rintro e w3 ⟨rfl, P3, R3⟩
  clear j1 j2 j3 HRs P2 HK
  have HK3 : Hid (∀ W, Box W Bp 49 #[.pointer (some ⟨a.p, 0, none⟩)] → W.cell? ⟨Bp, 0, none⟩ = some (.pointer (some ⟨a.p, 0, none⟩))) := Lib.hid (fun W X => X.cell 0 rfl)
  have HX3 : Hid (Box w3 Bp 49 #[.pointer (some ⟨a.p, 0, none⟩)]) := Lib.hid (R3.out.kb _ _ _ (by decide) (by decide) (by decide) HX2.out.2.2)
  have HX3d := Lib.hid HX3.out.drew
  have HNe : Hid (Bp ≠ a.p) := Lib.hid (HX3.out.box_ne P3.out.X (by decide))
  have HX4 : Hid (Box (w3.setCell ⟨a.p, 5, none⟩ (.bool (!cb))).drew Bp 49 #[.pointer (some ⟨a.p, 0, none⟩)]) := Lib.hid (HX3.out.far (p := ⟨a.p, 5, none⟩) HNe.out _).drew
  have P4 := Lib.hid ((P3.out.put 5 (.bool (!cb)) { d1 with carry := !cb } s rfl rfl).step (Below.refl _ _).drew)
  have R4 : Hid (Runs a.L w (w3.setCell ⟨a.p, 5, none⟩ (.bool (!cb))).drew) := Lib.hid (R0.out.trans (R1.out.trans (R2.out.trans (R3.out.trans ((P3.out.runs (Nat.le_refl _) 5 _).trans (Runs.drew a.L _))))))
  obtain ⟨⟨_, _, _, _, _, c5, _, _, _⟩, ⟨_, _, _, _, _⟩, cz⟩ := P3.out.cells
  have z5 := cz 5
  have y3 := HX3.out.cell 0 rfl
  clear cz R0 R1 R2 R3 P3 HX2 HNe
  go_wp2
  go_region_held3 (fun W => W.cell? ⟨Bp, 0, none⟩ = some (.pointer (some ⟨a.p, 0, none⟩)))
    (first | (with_reducible exact HK3.out _ HX3d.out) | (with_reducible exact HK3.out _ HX4.out))
    (first | (go_at_call 46; refine (HBy.out _).mono ?_; rintro e w4 ⟨rfl, rfl⟩))
  go_end0
  exact ⟨rfl, P4, R4⟩

set_option maxRecDepth 100000 in
set_option maxHeartbeats 4000000 in
theorem prComb12 (a : PA) (d : CD) (m : MD) (s op reg arg : Int) (w : World) (Bf Bp : Nat) (hr : 0 ≤ reg ∧ reg ≤ 3) (hf : Box w Bf 118 #[.func (.func 96) #[] #[]]) (hp : Box w Bp 49 #[.pointer (some ⟨a.p, 0, none⟩)]) (hd : d.Ok) (hm : m.Ok) (h : PrAt w a d m s) :
    Calls Tryz.prog 122 #[.agg #[.int .i64 op, .int .i64 reg, .int .i64 arg], .pointer (some ⟨Bf, 0, none⟩), .pointer (some ⟨Bp, 0, none⟩)] w (GPr a (d.comb (aluV 12 (d.reg 0) (d.reg reg))) m s w) := by
  have h0 := hd.reg (k := 0) (by decide) (by decide)
  have h1 := hd.reg hr.1 hr.2
  have HV : Hid (aluV 12 (d.reg 0) (d.reg reg) = andI (d.reg 0) (d.reg reg)) := Lib.hid rfl
  rw [HV.out]
  obtain ⟨W0, hW0⟩ : ∃ W0, W0 = w.alloc (.cells #[.int .i64 op, .int .i64 reg, .int .i64 arg] 82) := ⟨_, rfl⟩
  have hb0 : Below w.heap.size w W0 := by rw [hW0]; exact alloc_below _ _
  have HX0 : Hid (Box W0.drew w.heap.size 82 #[.int .i64 op, .int .i64 reg, .int .i64 arg] ∧ Box W0.drew Bf 118 #[.func (.func 96) #[] #[]] ∧ Box W0.drew Bp 49 #[.pointer (some ⟨a.p, 0, none⟩)]) := Lib.hid ⟨by rw [hW0]; exact (Box.new _ _ _).drew, (hf.step hb0).drew, (hp.step hb0).drew⟩
  have P0 := Lib.hid ((h.step hb0).step (Below.refl _ _).drew)
  have R0 : Hid (Runs a.L w W0.drew) := Lib.hid ((Runs.below hb0 h.size).trans (Runs.drew a.L W0))
  have HK : Hid (∀ W, Box W w.heap.size 82 #[.int .i64 op, .int .i64 reg, .int .i64 arg] ∧ Box W Bf 118 #[.func (.func 96) #[] #[]] ∧ Box W Bp 49 #[.pointer (some ⟨a.p, 0, none⟩)] → W.cell? ⟨w.heap.size, 1, none⟩ = some (.int .i64 reg) ∧ W.cell? ⟨Bf, 0, none⟩ = some (.func (.func 96) #[] #[]) ∧ W.cell? ⟨Bp, 0, none⟩ = some (.pointer (some ⟨a.p, 0, none⟩))) := Lib.hid (fun W X => ⟨X.1.cell 1 rfl, X.2.1.cell 0 rfl, X.2.2.cell 0 rfl⟩)
  have hk0 := HK.out _ HX0.out
  obtain ⟨k1, k2, k3⟩ := hk0
  have HW0 := Lib.hid hW0
  rw [HW0.out] at k1 k2 k3
  have HR1 := Lib.hid (fun W (q : PrAt W a d m s) => prReg a d m s W 0 (by decide) hd hm q)
  have HR2 := Lib.hid (fun W (q : PrAt W a d m s) => prReg a d m s W reg hr hd hm q)
  unfold GPrI at HR1 HR2
  have HC : Hid (d.comb (andI (d.reg 0) (d.reg reg)) = { d.res 0 (andI (d.reg 0) (d.reg reg)) with carry := !byB (andI (d.reg 0) (d.reg reg)) }) := Lib.hid rfl
  rw [HC.out]
  generalize d.reg 0 = x at h0 HR1 HV HC ⊢
  generalize d.reg reg = y at h1 HR2 HV HC ⊢
  have HS := Lib.hid (fun W => prAnd x y W h0 h1)
  generalize andI x y = v at HS HV HC ⊢
  have HRs := Lib.hid (fun W (q : PrAt W a d m s) => prSetResult a d m s W 0 v (by decide) hd hm q)
  unfold GPr at HRs
  have HBy := Lib.hid (fun W => isByteR v W)
  rw [byB_rng] at HBy
  generalize d.res 0 v = d1 at HRs HC ⊢
  generalize byB v = cb at HBy HC ⊢
  clear h hW0 hb0 hf hp hd hm hr h0 h1 HV HC
  go_enter Tryz.func122, Tryz.ntmps122
  go_wp2
  rw [← HW0.out]
  go_region_held3 (fun W => W.cell? ⟨w.heap.size, 1, none⟩ = some (.int .i64 reg) ∧ W.cell? ⟨Bf, 0, none⟩ = some (.func (.func 96) #[] #[]) ∧ W.cell? ⟨Bp, 0, none⟩ = some (.pointer (some ⟨a.p, 0, none⟩)))
    (first | (with_reducible exact HK.out _ HX0.out) | (with_reducible exact HK.out _ HX1.out) | (with_reducible exact HK.out _ HX2.out))
    (first | (go_at_call 96; refine (HS.out _).mono ?_; rintro e w3 ⟨rfl, rfl⟩) | (go_at_call 121; refine (HR2.out _ P1.out).mono ?_; rintro e w2 ⟨rfl, P2, R2⟩; have HX2 : Hid (Box w2 w.heap.size 82 #[.int .i64 op, .int .i64 reg, .int .i64 arg] ∧ Box w2 Bf 118 #[.func (.func 96) #[] #[]] ∧ Box w2 Bp 49 #[.pointer (some ⟨a.p, 0, none⟩)]) := Lib.hid ⟨R2.out.kb _ _ _ (by decide) (by decide) (by decide) HX1.out.1, R2.out.kb _ _ _ (by decide) (by decide) (by decide) HX1.out.2.1, R2.out.kb _ _ _ (by decide) (by decide) (by decide) HX1.out.2.2⟩) | (go_at_call 121; refine (HR1.out _ P0.out).mono ?_; rintro e w1 ⟨rfl, P1, R1⟩; have HX1 : Hid (Box w1 w.heap.size 82 #[.int .i64 op, .int .i64 reg, .int .i64 arg] ∧ Box w1 Bf 118 #[.func (.func 96) #[] #[]] ∧ Box w1 Bp 49 #[.pointer (some ⟨a.p, 0, none⟩)]) := Lib.hid ⟨R1.out.kb _ _ _ (by decide) (by decide) (by decide) HX0.out.1, R1.out.kb _ _ _ (by decide) (by decide) (by decide) HX0.out.2.1, R1.out.kb _ _ _ (by decide) (by decide) (by decide) HX0.out.2.2⟩))
  obtain ⟨j1, j2, j3⟩ := HK.out _ HX2.out
  clear k1 k2 k3 HX0 HX1 HR1 HR2 P0 P1 HS
  go_wp2_with fail
  refine (HRs.out _ P2.out).mono ?_
  rintro e w3 ⟨rfl, P3, R3⟩
  clear j1 j2 j3 HRs P2 HK
  have HK3 : Hid (∀ W, Box W Bp 49 #[.pointer (some ⟨a.p, 0, none⟩)] → W.cell? ⟨Bp, 0, none⟩ = some (.pointer (some ⟨a.p, 0, none⟩))) := Lib.hid (fun W X => X.cell 0 rfl)
  have HX3 : Hid (Box w3 Bp 49 #[.pointer (some ⟨a.p, 0, none⟩)]) := Lib.hid (R3.out.kb _ _ _ (by decide) (by decide) (by decide) HX2.out.2.2)
  have HX3d := Lib.hid HX3.out.drew
  have HNe : Hid (Bp ≠ a.p) := Lib.hid (HX3.out.box_ne P3.out.X (by decide))
  have HX4 : Hid (Box (w3.setCell ⟨a.p, 5, none⟩ (.bool (!cb))).drew Bp 49 #[.pointer (some ⟨a.p, 0, none⟩)]) := Lib.hid (HX3.out.far (p := ⟨a.p, 5, none⟩) HNe.out _).drew
  have P4 := Lib.hid ((P3.out.put 5 (.bool (!cb)) { d1 with carry := !cb } s rfl rfl).step (Below.refl _ _).drew)
  have R4 : Hid (Runs a.L w (w3.setCell ⟨a.p, 5, none⟩ (.bool (!cb))).drew) := Lib.hid (R0.out.trans (R1.out.trans (R2.out.trans (R3.out.trans ((P3.out.runs (Nat.le_refl _) 5 _).trans (Runs.drew a.L _))))))
  obtain ⟨⟨_, _, _, _, _, c5, _, _, _⟩, ⟨_, _, _, _, _⟩, cz⟩ := P3.out.cells
  have z5 := cz 5
  have y3 := HX3.out.cell 0 rfl
  clear cz R0 R1 R2 R3 P3 HX2 HNe
  go_wp2
  go_region_held3 (fun W => W.cell? ⟨Bp, 0, none⟩ = some (.pointer (some ⟨a.p, 0, none⟩)))
    (first | (with_reducible exact HK3.out _ HX3d.out) | (with_reducible exact HK3.out _ HX4.out))
    (first | (go_at_call 46; refine (HBy.out _).mono ?_; rintro e w4 ⟨rfl, rfl⟩))
  go_end0
  exact ⟨rfl, P4, R4⟩

set_option maxRecDepth 100000 in
set_option maxHeartbeats 4000000 in
theorem prComb13 (a : PA) (d : CD) (m : MD) (s op reg arg : Int) (w : World) (Bf Bp : Nat) (hr : 0 ≤ reg ∧ reg ≤ 3) (hf : Box w Bf 118 #[.func (.func 97) #[] #[]]) (hp : Box w Bp 49 #[.pointer (some ⟨a.p, 0, none⟩)]) (hd : d.Ok) (hm : m.Ok) (h : PrAt w a d m s) :
    Calls Tryz.prog 122 #[.agg #[.int .i64 op, .int .i64 reg, .int .i64 arg], .pointer (some ⟨Bf, 0, none⟩), .pointer (some ⟨Bp, 0, none⟩)] w (GPr a (d.comb (aluV 13 (d.reg 0) (d.reg reg))) m s w) := by
  have h0 := hd.reg (k := 0) (by decide) (by decide)
  have h1 := hd.reg hr.1 hr.2
  have HV : Hid (aluV 13 (d.reg 0) (d.reg reg) = orI (d.reg 0) (d.reg reg)) := Lib.hid rfl
  rw [HV.out]
  obtain ⟨W0, hW0⟩ : ∃ W0, W0 = w.alloc (.cells #[.int .i64 op, .int .i64 reg, .int .i64 arg] 82) := ⟨_, rfl⟩
  have hb0 : Below w.heap.size w W0 := by rw [hW0]; exact alloc_below _ _
  have HX0 : Hid (Box W0.drew w.heap.size 82 #[.int .i64 op, .int .i64 reg, .int .i64 arg] ∧ Box W0.drew Bf 118 #[.func (.func 97) #[] #[]] ∧ Box W0.drew Bp 49 #[.pointer (some ⟨a.p, 0, none⟩)]) := Lib.hid ⟨by rw [hW0]; exact (Box.new _ _ _).drew, (hf.step hb0).drew, (hp.step hb0).drew⟩
  have P0 := Lib.hid ((h.step hb0).step (Below.refl _ _).drew)
  have R0 : Hid (Runs a.L w W0.drew) := Lib.hid ((Runs.below hb0 h.size).trans (Runs.drew a.L W0))
  have HK : Hid (∀ W, Box W w.heap.size 82 #[.int .i64 op, .int .i64 reg, .int .i64 arg] ∧ Box W Bf 118 #[.func (.func 97) #[] #[]] ∧ Box W Bp 49 #[.pointer (some ⟨a.p, 0, none⟩)] → W.cell? ⟨w.heap.size, 1, none⟩ = some (.int .i64 reg) ∧ W.cell? ⟨Bf, 0, none⟩ = some (.func (.func 97) #[] #[]) ∧ W.cell? ⟨Bp, 0, none⟩ = some (.pointer (some ⟨a.p, 0, none⟩))) := Lib.hid (fun W X => ⟨X.1.cell 1 rfl, X.2.1.cell 0 rfl, X.2.2.cell 0 rfl⟩)
  have hk0 := HK.out _ HX0.out
  obtain ⟨k1, k2, k3⟩ := hk0
  have HW0 := Lib.hid hW0
  rw [HW0.out] at k1 k2 k3
  have HR1 := Lib.hid (fun W (q : PrAt W a d m s) => prReg a d m s W 0 (by decide) hd hm q)
  have HR2 := Lib.hid (fun W (q : PrAt W a d m s) => prReg a d m s W reg hr hd hm q)
  unfold GPrI at HR1 HR2
  have HC : Hid (d.comb (orI (d.reg 0) (d.reg reg)) = { d.res 0 (orI (d.reg 0) (d.reg reg)) with carry := !byB (orI (d.reg 0) (d.reg reg)) }) := Lib.hid rfl
  rw [HC.out]
  generalize d.reg 0 = x at h0 HR1 HV HC ⊢
  generalize d.reg reg = y at h1 HR2 HV HC ⊢
  have HS := Lib.hid (fun W => prOr x y W h0 h1)
  generalize orI x y = v at HS HV HC ⊢
  have HRs := Lib.hid (fun W (q : PrAt W a d m s) => prSetResult a d m s W 0 v (by decide) hd hm q)
  unfold GPr at HRs
  have HBy := Lib.hid (fun W => isByteR v W)
  rw [byB_rng] at HBy
  generalize d.res 0 v = d1 at HRs HC ⊢
  generalize byB v = cb at HBy HC ⊢
  clear h hW0 hb0 hf hp hd hm hr h0 h1 HV HC
  go_enter Tryz.func122, Tryz.ntmps122
  go_wp2
  rw [← HW0.out]
  go_region_held3 (fun W => W.cell? ⟨w.heap.size, 1, none⟩ = some (.int .i64 reg) ∧ W.cell? ⟨Bf, 0, none⟩ = some (.func (.func 97) #[] #[]) ∧ W.cell? ⟨Bp, 0, none⟩ = some (.pointer (some ⟨a.p, 0, none⟩)))
    (first | (with_reducible exact HK.out _ HX0.out) | (with_reducible exact HK.out _ HX1.out) | (with_reducible exact HK.out _ HX2.out))
    (first | (go_at_call 97; refine (HS.out _).mono ?_; rintro e w3 ⟨rfl, rfl⟩) | (go_at_call 121; refine (HR2.out _ P1.out).mono ?_; rintro e w2 ⟨rfl, P2, R2⟩; have HX2 : Hid (Box w2 w.heap.size 82 #[.int .i64 op, .int .i64 reg, .int .i64 arg] ∧ Box w2 Bf 118 #[.func (.func 97) #[] #[]] ∧ Box w2 Bp 49 #[.pointer (some ⟨a.p, 0, none⟩)]) := Lib.hid ⟨R2.out.kb _ _ _ (by decide) (by decide) (by decide) HX1.out.1, R2.out.kb _ _ _ (by decide) (by decide) (by decide) HX1.out.2.1, R2.out.kb _ _ _ (by decide) (by decide) (by decide) HX1.out.2.2⟩) | (go_at_call 121; refine (HR1.out _ P0.out).mono ?_; rintro e w1 ⟨rfl, P1, R1⟩; have HX1 : Hid (Box w1 w.heap.size 82 #[.int .i64 op, .int .i64 reg, .int .i64 arg] ∧ Box w1 Bf 118 #[.func (.func 97) #[] #[]] ∧ Box w1 Bp 49 #[.pointer (some ⟨a.p, 0, none⟩)]) := Lib.hid ⟨R1.out.kb _ _ _ (by decide) (by decide) (by decide) HX0.out.1, R1.out.kb _ _ _ (by decide) (by decide) (by decide) HX0.out.2.1, R1.out.kb _ _ _ (by decide) (by decide) (by decide) HX0.out.2.2⟩))
  obtain ⟨j1, j2, j3⟩ := HK.out _ HX2.out
  clear k1 k2 k3 HX0 HX1 HR1 HR2 P0 P1 HS
  go_wp2_with fail
  refine (HRs.out _ P2.out).mono ?_
  rintro e w3 ⟨rfl, P3, R3⟩
  clear j1 j2 j3 HRs P2 HK
  have HK3 : Hid (∀ W, Box W Bp 49 #[.pointer (some ⟨a.p, 0, none⟩)] → W.cell? ⟨Bp, 0, none⟩ = some (.pointer (some ⟨a.p, 0, none⟩))) := Lib.hid (fun W X => X.cell 0 rfl)
  have HX3 : Hid (Box w3 Bp 49 #[.pointer (some ⟨a.p, 0, none⟩)]) := Lib.hid (R3.out.kb _ _ _ (by decide) (by decide) (by decide) HX2.out.2.2)
  have HX3d := Lib.hid HX3.out.drew
  have HNe : Hid (Bp ≠ a.p) := Lib.hid (HX3.out.box_ne P3.out.X (by decide))
  have HX4 : Hid (Box (w3.setCell ⟨a.p, 5, none⟩ (.bool (!cb))).drew Bp 49 #[.pointer (some ⟨a.p, 0, none⟩)]) := Lib.hid (HX3.out.far (p := ⟨a.p, 5, none⟩) HNe.out _).drew
  have P4 := Lib.hid ((P3.out.put 5 (.bool (!cb)) { d1 with carry := !cb } s rfl rfl).step (Below.refl _ _).drew)
  have R4 : Hid (Runs a.L w (w3.setCell ⟨a.p, 5, none⟩ (.bool (!cb))).drew) := Lib.hid (R0.out.trans (R1.out.trans (R2.out.trans (R3.out.trans ((P3.out.runs (Nat.le_refl _) 5 _).trans (Runs.drew a.L _))))))
  obtain ⟨⟨_, _, _, _, _, c5, _, _, _⟩, ⟨_, _, _, _, _⟩, cz⟩ := P3.out.cells
  have z5 := cz 5
  have y3 := HX3.out.cell 0 rfl
  clear cz R0 R1 R2 R3 P3 HX2 HNe
  go_wp2
  go_region_held3 (fun W => W.cell? ⟨Bp, 0, none⟩ = some (.pointer (some ⟨a.p, 0, none⟩)))
    (first | (with_reducible exact HK3.out _ HX3d.out) | (with_reducible exact HK3.out _ HX4.out))
    (first | (go_at_call 46; refine (HBy.out _).mono ?_; rintro e w4 ⟨rfl, rfl⟩))
  go_end0
  exact ⟨rfl, P4, R4⟩

set_option maxRecDepth 100000 in
set_option maxHeartbeats 4000000 in
theorem prComb14 (a : PA) (d : CD) (m : MD) (s op reg arg : Int) (w : World) (Bf Bp : Nat) (hr : 0 ≤ reg ∧ reg ≤ 3) (hf : Box w Bf 118 #[.func (.func 98) #[] #[]]) (hp : Box w Bp 49 #[.pointer (some ⟨a.p, 0, none⟩)]) (hd : d.Ok) (hm : m.Ok) (h : PrAt w a d m s) :
    Calls Tryz.prog 122 #[.agg #[.int .i64 op, .int .i64 reg, .int .i64 arg], .pointer (some ⟨Bf, 0, none⟩), .pointer (some ⟨Bp, 0, none⟩)] w (GPr a (d.comb (aluV 14 (d.reg 0) (d.reg reg))) m s w) := by
  have h0 := hd.reg (k := 0) (by decide) (by decide)
  have h1 := hd.reg hr.1 hr.2
  have HV : Hid (aluV 14 (d.reg 0) (d.reg reg) = xorI (d.reg 0) (d.reg reg)) := Lib.hid rfl
  rw [HV.out]
  obtain ⟨W0, hW0⟩ : ∃ W0, W0 = w.alloc (.cells #[.int .i64 op, .int .i64 reg, .int .i64 arg] 82) := ⟨_, rfl⟩
  have hb0 : Below w.heap.size w W0 := by rw [hW0]; exact alloc_below _ _
  have HX0 : Hid (Box W0.drew w.heap.size 82 #[.int .i64 op, .int .i64 reg, .int .i64 arg] ∧ Box W0.drew Bf 118 #[.func (.func 98) #[] #[]] ∧ Box W0.drew Bp 49 #[.pointer (some ⟨a.p, 0, none⟩)]) := Lib.hid ⟨by rw [hW0]; exact (Box.new _ _ _).drew, (hf.step hb0).drew, (hp.step hb0).drew⟩
  have P0 := Lib.hid ((h.step hb0).step (Below.refl _ _).drew)
  have R0 : Hid (Runs a.L w W0.drew) := Lib.hid ((Runs.below hb0 h.size).trans (Runs.drew a.L W0))
  have HK : Hid (∀ W, Box W w.heap.size 82 #[.int .i64 op, .int .i64 reg, .int .i64 arg] ∧ Box W Bf 118 #[.func (.func 98) #[] #[]] ∧ Box W Bp 49 #[.pointer (some ⟨a.p, 0, none⟩)] → W.cell? ⟨w.heap.size, 1, none⟩ = some (.int .i64 reg) ∧ W.cell? ⟨Bf, 0, none⟩ = some (.func (.func 98) #[] #[]) ∧ W.cell? ⟨Bp, 0, none⟩ = some (.pointer (some ⟨a.p, 0, none⟩))) := Lib.hid (fun W X => ⟨X.1.cell 1 rfl, X.2.1.cell 0 rfl, X.2.2.cell 0 rfl⟩)
  have hk0 := HK.out _ HX0.out
  obtain ⟨k1, k2, k3⟩ := hk0
  have HW0 := Lib.hid hW0
  rw [HW0.out] at k1 k2 k3
  have HR1 := Lib.hid (fun W (q : PrAt W a d m s) => prReg a d m s W 0 (by decide) hd hm q)
  have HR2 := Lib.hid (fun W (q : PrAt W a d m s) => prReg a d m s W reg hr hd hm q)
  unfold GPrI at HR1 HR2
  have HC : Hid (d.comb (xorI (d.reg 0) (d.reg reg)) = { d.res 0 (xorI (d.reg 0) (d.reg reg)) with carry := !byB (xorI (d.reg 0) (d.reg reg)) }) := Lib.hid rfl
  rw [HC.out]
  generalize d.reg 0 = x at h0 HR1 HV HC ⊢
  generalize d.reg reg = y at h1 HR2 HV HC ⊢
  have HS := Lib.hid (fun W => prXor x y W h0 h1)
  generalize xorI x y = v at HS HV HC ⊢
  have HRs := Lib.hid (fun W (q : PrAt W a d m s) => prSetResult a d m s W 0 v (by decide) hd hm q)
  unfold GPr at HRs
  have HBy := Lib.hid (fun W => isByteR v W)
  rw [byB_rng] at HBy
  generalize d.res 0 v = d1 at HRs HC ⊢
  generalize byB v = cb at HBy HC ⊢
  clear h hW0 hb0 hf hp hd hm hr h0 h1 HV HC
  go_enter Tryz.func122, Tryz.ntmps122
  go_wp2
  rw [← HW0.out]
  go_region_held3 (fun W => W.cell? ⟨w.heap.size, 1, none⟩ = some (.int .i64 reg) ∧ W.cell? ⟨Bf, 0, none⟩ = some (.func (.func 98) #[] #[]) ∧ W.cell? ⟨Bp, 0, none⟩ = some (.pointer (some ⟨a.p, 0, none⟩)))
    (first | (with_reducible exact HK.out _ HX0.out) | (with_reducible exact HK.out _ HX1.out) | (with_reducible exact HK.out _ HX2.out))
    (first | (go_at_call 98; refine (HS.out _).mono ?_; rintro e w3 ⟨rfl, rfl⟩) | (go_at_call 121; refine (HR2.out _ P1.out).mono ?_; rintro e w2 ⟨rfl, P2, R2⟩; have HX2 : Hid (Box w2 w.heap.size 82 #[.int .i64 op, .int .i64 reg, .int .i64 arg] ∧ Box w2 Bf 118 #[.func (.func 98) #[] #[]] ∧ Box w2 Bp 49 #[.pointer (some ⟨a.p, 0, none⟩)]) := Lib.hid ⟨R2.out.kb _ _ _ (by decide) (by decide) (by decide) HX1.out.1, R2.out.kb _ _ _ (by decide) (by decide) (by decide) HX1.out.2.1, R2.out.kb _ _ _ (by decide) (by decide) (by decide) HX1.out.2.2⟩) | (go_at_call 121; refine (HR1.out _ P0.out).mono ?_; rintro e w1 ⟨rfl, P1, R1⟩; have HX1 : Hid (Box w1 w.heap.size 82 #[.int .i64 op, .int .i64 reg, .int .i64 arg] ∧ Box w1 Bf 118 #[.func (.func 98) #[] #[]] ∧ Box w1 Bp 49 #[.pointer (some ⟨a.p, 0, none⟩)]) := Lib.hid ⟨R1.out.kb _ _ _ (by decide) (by decide) (by decide) HX0.out.1, R1.out.kb _ _ _ (by decide) (by decide) (by decide) HX0.out.2.1, R1.out.kb _ _ _ (by decide) (by decide) (by decide) HX0.out.2.2⟩))
  obtain ⟨j1, j2, j3⟩ := HK.out _ HX2.out
  clear k1 k2 k3 HX0 HX1 HR1 HR2 P0 P1 HS
  go_wp2_with fail
  refine (HRs.out _ P2.out).mono ?_
  rintro e w3 ⟨rfl, P3, R3⟩
  clear j1 j2 j3 HRs P2 HK
  have HK3 : Hid (∀ W, Box W Bp 49 #[.pointer (some ⟨a.p, 0, none⟩)] → W.cell? ⟨Bp, 0, none⟩ = some (.pointer (some ⟨a.p, 0, none⟩))) := Lib.hid (fun W X => X.cell 0 rfl)
  have HX3 : Hid (Box w3 Bp 49 #[.pointer (some ⟨a.p, 0, none⟩)]) := Lib.hid (R3.out.kb _ _ _ (by decide) (by decide) (by decide) HX2.out.2.2)
  have HX3d := Lib.hid HX3.out.drew
  have HNe : Hid (Bp ≠ a.p) := Lib.hid (HX3.out.box_ne P3.out.X (by decide))
  have HX4 : Hid (Box (w3.setCell ⟨a.p, 5, none⟩ (.bool (!cb))).drew Bp 49 #[.pointer (some ⟨a.p, 0, none⟩)]) := Lib.hid (HX3.out.far (p := ⟨a.p, 5, none⟩) HNe.out _).drew
  have P4 := Lib.hid ((P3.out.put 5 (.bool (!cb)) { d1 with carry := !cb } s rfl rfl).step (Below.refl _ _).drew)
  have R4 : Hid (Runs a.L w (w3.setCell ⟨a.p, 5, none⟩ (.bool (!cb))).drew) := Lib.hid (R0.out.trans (R1.out.trans (R2.out.trans (R3.out.trans ((P3.out.runs (Nat.le_refl _) 5 _).trans (Runs.drew a.L _))))))
  obtain ⟨⟨_, _, _, _, _, c5, _, _, _⟩, ⟨_, _, _, _, _⟩, cz⟩ := P3.out.cells
  have z5 := cz 5
  have y3 := HX3.out.cell 0 rfl
  clear cz R0 R1 R2 R3 P3 HX2 HNe
  go_wp2
  go_region_held3 (fun W => W.cell? ⟨Bp, 0, none⟩ = some (.pointer (some ⟨a.p, 0, none⟩)))
    (first | (with_reducible exact HK3.out _ HX3d.out) | (with_reducible exact HK3.out _ HX4.out))
    (first | (go_at_call 46; refine (HBy.out _).mono ?_; rintro e w4 ⟨rfl, rfl⟩))
  go_end0
  exact ⟨rfl, P4, R4⟩
end Go.Proofs.YtcchhbkbnbphhaaGreatDoor
